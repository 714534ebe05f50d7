/- Layer 6 (address): law AddressOne, for telephone numbers. -/
import Derived.Test.YtibkkdbjmcongaaDoorAddrN
namespace Go.Proofs.YtibkkdbjmcongaaDoor
open Go.RowKit
set_option linter.unusedVariables false

theorem one_of {l : List Int} {k : Nat} (h : k < l.length) : (l.take (k + 1)).drop k = [at0 l k] := by
  rw [List.take_add_one, List.getElem?_eq_getElem h, Option.toList_some, List.drop_append_of_le_length (by rw [List.length_take]; omega), List.drop_of_length_le (by rw [List.length_take]; omega), ← at0_lt h]
  rfl
theorem wrap_small {z : Int} (h0 : 0 ≤ z) (h1 : z ≤ 1000000) : IntKind.i64.wrap z = z := IntWalk.i64_in _ (by omega)
theorem letter_more (D : ByteArray) (k : Nat) (h : k < D.size) (hD : D.size ≤ 2000) : ∃ g : ByteArray, sb g = [at0 (sb D) k] ∧ g.size = 1 ∧
    ∀ w' : World, (Instr.sliceAt 9 (.string D) (some (.int .i64 k)) (some (.int .i64 (k + 1))) none).run Tryd.prog w' = .ok (.string g) w' := by
  have hl : k < (sb D).length := by rw [sb_length]; exact h
  have hdg := sb_extract D k (k + 1)
  rw [one_of hl] at hdg
  refine ⟨_, hdg, by rw [← sb_length, hdg]; rfl, fun w' => ?_⟩
  rw [run_str_sliceK (P := Tryd.prog) .i64 .i64 9 Tryd.underlying9 D k (k + 1) (by omega) (by omega) (by omega) w']
  rfl
theorem sign_more (k : Nat) : ∃ (m : Int) (g : ByteArray) (c : Int), (k : Int).tmod 5 = m ∧ 0 ≤ m ∧ m ≤ 4 ∧ IntKind.i64.wrap (m + 1) = m + 1 ∧ sb g = [c] ∧ sepI c = true ∧ digI c = false ∧ c ≠ 43 ∧ g.size = 1 ∧
    ∀ w' : World, (Instr.sliceAt 9 (.string ⟨#[32, 46, 45, 41, 40]⟩) (some (.int .i64 m)) (some (.int .i64 (m + 1))) none).run Tryd.prog w' = .ok (.string g) w' := by
  have e : (k : Int).tmod 5 = ((k % 5 : Nat) : Int) := by rw [Int.tmod_eq_emod_of_nonneg (by omega)]; omega
  have hk : k % 5 < 5 := Nat.mod_lt _ (by decide)
  generalize k % 5 = j at *
  have hl : j < (sb ⟨#[32, 46, 45, 41, 40]⟩).length := hk
  have hdg := sb_extract ⟨#[32, 46, 45, 41, 40]⟩ j (j + 1)
  rw [one_of hl] at hdg
  have key : ∀ j : Fin 5, sepI (at0 (sb ⟨#[32, 46, 45, 41, 40]⟩) j.val) = true ∧ digI (at0 (sb ⟨#[32, 46, 45, 41, 40]⟩) j.val) = false ∧ at0 (sb ⟨#[32, 46, 45, 41, 40]⟩) j.val ≠ 43 := by decide +kernel
  obtain ⟨k1, k2, k3⟩ := key ⟨j, hk⟩
  refine ⟨j, _, _, e, by omega, by omega, wrap_small (by omega) (by omega), hdg, k1, k2, k3, by rw [← sb_length, hdg]; rfl, fun w' => ?_⟩
  rw [run_str_sliceK (P := Tryd.prog) .i64 .i64 9 Tryd.underlying9 ⟨#[32, 46, 45, 41, 40]⟩ j (j + 1) (by omega) (by omega) (by show _ ≤ (5 : Int); omega) w']
  rfl
set_option maxHeartbeats 2000000 in
theorem one_phone (s D : ByteArray) (w : World) (hm : MaxC w) (hs : s.size ≤ 2000) (hD : D.size ≤ 15) (hd : (sb D).all digI = true) (H1 : MakeIs 28 ⟨#[109, 115, 105, 115, 100, 110]⟩ s ⟨#[109, 115, 105, 115, 100, 110]⟩ D 0) (H2 : MakeIs 28 ⟨#[109, 115, 105, 115, 100, 110]⟩ D ⟨#[109, 115, 105, 115, 100, 110]⟩ D 0)
    (R : RightIs 30 ⟨#[109, 115, 105, 115, 100, 110]⟩ D true) (H3 : ∀ X : ByteArray, X.size ≤ 100 → dialS (sb X) = some (sb D, true) → MakeIs 28 ⟨#[109, 115, 105, 115, 100, 110]⟩ X ⟨#[109, 115, 105, 115, 100, 110]⟩ D 0) :
    Calls Tryd.prog 9 #[.string ⟨#[109, 115, 105, 115, 100, 110]⟩, .string s] w fun e w' => e = .returned (.bool true) ∧ Below w.heap.size w w' := by
  unfold MakeIs at H1 H2 H3
  unfold RightIs at R
  go_enter Tryd.func9, Tryd.ntmps9
  go_wp2_with fail
  refine (alive06 w hm).mono ?_
  rintro e w1 ⟨rfl, hb1⟩
  go_wp2_with fail
  refine (H1 _ (hm.below hb1)).mono ?_
  rintro e w2 ⟨rfl, hb2⟩
  have HB := below_then hb1 hb2
  clear hb1 hb2 H1
  have al := (Below.refl w2.heap.size w2).alloc (Nat.le_refl _) (.cells #[.string ⟨#[109, 115, 105, 115, 100, 110]⟩, .string D] 35)
  have Nw2 := Two.new w2 ⟨#[109, 115, 105, 115, 100, 110]⟩ D 35
  replace HB := below_then HB al
  clear al
  have ⟨⟨Nw21, Nw22⟩, ⟨Nw23, Nw24⟩, Nw25⟩ := Nw2
  go_wp2_with fail
  refine (H2 _ (hm.below HB)).mono ?_
  rintro e w3 ⟨rfl, hb⟩
  clear Nw21 Nw22 Nw23 Nw24 Nw25
  replace Nw2 := Nw2.below hb
  replace HB := below_then HB hb
  clear hb 
  have al := (Below.refl w3.heap.size w3).alloc (Nat.le_refl _) (.cells #[.string ⟨#[109, 115, 105, 115, 100, 110]⟩, .string D] 35)
  replace Nw2 := Nw2.below al
  have Nw3 := Two.new w3 ⟨#[109, 115, 105, 115, 100, 110]⟩ D 35
  replace HB := below_then HB al
  clear al
  have ⟨⟨Nw21, Nw22⟩, ⟨Nw23, Nw24⟩, Nw25⟩ := Nw2
  have ⟨⟨Nw31, Nw32⟩, ⟨Nw33, Nw34⟩, Nw35⟩ := Nw3
  go_wp2_with fail
  refine (R _ (hm.below HB)).mono ?_
  rintro e w4 ⟨rfl, hb⟩
  replace Nw2 := Nw2.below hb
  replace Nw3 := Nw3.below hb
  replace HB := below_then HB hb
  clear hb Nw21 Nw22 Nw23 Nw24 Nw25 Nw31 Nw32 Nw33 Nw34 Nw35
  clear Nw3
  have ⟨⟨Nw21, Nw22⟩, ⟨Nw23, Nw24⟩, Nw25⟩ := Nw2
  replace hd := Lib.hid hd
  go_wp2
  go_loopw [11, 12] (fun t i wr => ∃ (k : Nat) (d : ByteArray), k ≤ D.size ∧ i = .int .i64 k ∧ t = .string d ∧ d.size = 2 * k + 2 ∧ dialS (sb d) = some ((sb D).take k, true) ∧ Two wr w2.heap.size ⟨#[109, 115, 105, 115, 100, 110]⟩ D ∧ Below w.heap.size w wr) (fun _ i _ => D.size - (intOf i).toNat)
  case atStart => exact ⟨0, ⟨#[43, 40]⟩, Nat.zero_le _, rfl, rfl, rfl, by rw [List.take_zero]; decide +kernel, Nw2, HB⟩
  case round =>
    clear Nw21 Nw22 Nw23 Nw24 Nw25 Nw2 HB
    obtain ⟨k, d, hk, rfl, rfl, hds, hdl, Nw2, HB⟩ := hrel
    by_cases hlt : k < D.size
    · obtain ⟨g, g1, g2, g3⟩ := letter_more D k hlt (by omega)
      obtain ⟨m, sg, c, q1, q2, q3, q4, q5, q6, q7, q8, q9, q10⟩ := sign_more k
      have hdig : digI (at0 (sb D) k) = true := by
        have hl : k < (sb D).length := by rw [sb_length]; exact hlt
        rw [at0_lt hl]; exact List.all_eq_true.1 hd.out _ (List.getElem_mem _)
      have HD := Lib.hid (And.intro hds (And.intro hdl (And.intro g1 (And.intro g2 (And.intro q5 (And.intro q6 (And.intro q7 (And.intro q8 (And.intro q9 hdig)))))))))
      have hd1 : d.size ≤ 100 := by omega
      have hg1 : g.size ≤ 1 := by omega
      have hg2 : sg.size ≤ 1 := by omega
      have hk0 : (0 : Int) ≤ k := by omega
      have hk1 : (k : Int) < D.size := by omega
      have hk2 : IntKind.i64.wrap ((k : Int) + 1) = k + 1 := wrap_small (by omega) (by omega)
      clear hds hdl g1 g2 q5 q6 q7 q8 q9 hdig
      have ⟨⟨Nw21, Nw22⟩, ⟨Nw23, Nw24⟩, Nw25⟩ := Nw2
      go_wp2
      go_quiet (fail)
      go_wp2
      obtain ⟨r1, r2, r3, r4, r5, r6, r7, r8, r9, r10⟩ := HD.out
      have hl : k < (sb D).length := by rw [sb_length]; exact hlt
      have ht : (sb D).take k ++ [at0 (sb D) k] = (sb D).take (k + 1) := by
        rw [List.take_add_one, List.getElem?_eq_getElem hl, Option.toList_some, ← at0_lt hl]
      refine ⟨⟨k + 1, d ++ g ++ sg, by omega, by go_num, rfl, by rw [ByteArray.size_append, ByteArray.size_append]; omega, ?_, Nw2.below (below_draws (Below.refl _ _) _), below_draws HB _⟩, by simp [intOf]; omega⟩
      rw [sb_append, sb_append, r3, r5, dial_more r2 r10 r6 r7 r8, ht]
    · obtain rfl : k = D.size := by omega
      have hdl2 := hdl
      rw [← sb_length, List.take_length] at hdl2
      have h100 : d.size ≤ 100 := by omega
      have hdl3 := Lib.hid hdl2
      have hdl := hdl3.out
      have ⟨⟨Nw21, Nw22⟩, ⟨Nw23, Nw24⟩, Nw25⟩ := Nw2
      go_wp2_with fail
      refine (H3 _ h100 hdl _ (hm.below HB)).mono ?_
      rintro e w5 ⟨rfl, hb⟩
      replace Nw2 := Nw2.below hb
      replace HB := below_then HB hb
      clear hb Nw21 Nw22 Nw23 Nw24 Nw25
      have al := (Below.refl w5.heap.size w5).alloc (Nat.le_refl _) (.cells #[.string ⟨#[109, 115, 105, 115, 100, 110]⟩, .string D] 35)
      replace Nw2 := Nw2.below al
      have Nw5 := Two.new w5 ⟨#[109, 115, 105, 115, 100, 110]⟩ D 35
      replace HB := below_then HB al
      clear al
      have ⟨⟨Nw21, Nw22⟩, ⟨Nw23, Nw24⟩, Nw25⟩ := Nw2
      have ⟨⟨Nw51, Nw52⟩, ⟨Nw53, Nw54⟩, Nw55⟩ := Nw5
      go_wp2
      go_ret
      exact ⟨rfl, HB⟩
theorem lowS_len (s : ByteArray) : (lowS s).size = s.size := by rw [lowS, strOfNums_size, List.length_map, sb_length]
def padS (s : ByteArray) : ByteArray := ⟨#[32, 32]⟩ ++ lowS s ++ ⟨#[32]⟩
theorem padS_size (s : ByteArray) : (padS s).size = 2 + s.size + 1 := by
  rw [padS, ByteArray.size_append, ByteArray.size_append, lowS_len]; rfl
theorem padS_sb (s : ByteArray) : sb (padS s) = [32, 32] ++ sb (lowS s) ++ [32] := by
  rw [padS, sb_append, sb_append]; rfl
set_option maxHeartbeats 1000000 in
theorem law_one_mail (s : ByteArray) (w : World) (hm : MaxC w) (hl : s.size ≤ 2000) :
    Calls Tryd.prog 9 #[.string ⟨#[101, 109, 97, 105, 108]⟩, .string s] w fun e w' => e = .returned (.bool true) ∧ Below w.heap.size w w' := by
  have hs : s.size ≤ 1000000 := by omega
  cases h : mailB (trimI (sb s))
  · exact one_err2 _ s w hm hl (make_mail_no' s hs h)
  · obtain ⟨a, b⟩ := mail_same s h
    have z1 : (lowS (trB s)).size ≤ 1000000 := by rw [lowS_len]; exact Nat.le_trans (trB_size s) hs
    have z2 : (lowS s).size ≤ 2000 := by rw [lowS_len]; exact hl
    have z3 : (padS s).size ≤ 1000000 := by rw [padS_size]; omega
    have H1 := make_mail_yes' s hs h
    have H2 := make_mail_yes' (lowS (trB s)) z1 a
    rw [b] at H2
    obtain ⟨a3, b3⟩ := mail_padded s (padS s) h (padS_sb s)
    have H3 := make_mail_yes' (padS s) z3 a3
    rw [b3] at H3
    have R := right_y _ _ ⟨#[101, 109, 97, 105, 108]⟩ (lowS (trB s)) 0 H2
    have LL := fun w => ref_lower_any s w (Nat.le_trans hl (by decide))
    unfold padS at H3
    generalize lowS (trB s) = F at *
    generalize lowS s = L at *
    exact one_mail s F L w hm hl z2 H1 H2 R LL H3
set_option maxHeartbeats 1000000 in
theorem law_one_phone (s : ByteArray) (w : World) (hm : MaxC w) (hl : s.size ≤ 2000) :
    Calls Tryd.prog 9 #[.string ⟨#[109, 115, 105, 115, 100, 110]⟩, .string s] w fun e w' => e = .returned (.bool true) ∧ Below w.heap.size w w' := by
  have hs : s.size ≤ 1000000 := by omega
  cases h : phoneS [] false false (sb s) with
  | none => exact one_err2 _ s w hm hl (make_phone_no s hs h)
  | some f =>
    obtain ⟨a, b, c⟩ := phone_ok h
    have e : sb (strOfNums f) = f := sb_strOf (bytes_digits b)
    have z : (strOfNums f).size ≤ 15 := by rw [strOfNums_size]; exact c
    have z2 : (strOfNums f).size ≤ 1000000 := by omega
    have H1 := make_phone_yes s hs f _ rfl h
    have H2 := make_phone_yes (strOfNums f) z2 f _ rfl (by rw [e]; exact phone_self a b)
    have H3 : ∀ X : ByteArray, X.size ≤ 100 → dialS (sb X) = some (sb (strOfNums f), true) → MakeIs 28 ⟨#[109, 115, 105, 115, 100, 110]⟩ X ⟨#[109, 115, 105, 115, 100, 110]⟩ (strOfNums f) 0 := fun X hX hdX =>
      make_phone_yes X (by omega) f _ rfl (phone_dial (by rw [hdX, e]) a)
    have R := right_y _ _ ⟨#[109, 115, 105, 115, 100, 110]⟩ (strOfNums f) 0 H2
    have hd : (sb (strOfNums f)).all digI = true := by rw [e]; exact b
    generalize strOfNums f = D at *
    exact one_phone s D w hm hl z hd H1 H2 R H3
set_option maxHeartbeats 1000000 in
theorem law_one (m s : ByteArray) (w : World) (hm : MaxC w) (s0 : m.size ≤ maxLen) (s1 : s.size ≤ maxLen) :
    Calls Tryd.prog 9 #[.string m, .string s] w fun e w' => e = .returned (.bool true) ∧ Below w.heap.size w w' := by
  rcases Nat.lt_or_ge 2000 s.size with hl | hl
  · exact one_long m s w hm s1 hl
  clear s0 s1
  by_cases h1 : m = ⟨#[101, 109, 97, 105, 108]⟩
  · rw [h1]; exact law_one_mail s w hm hl
  by_cases h2 : m = ⟨#[109, 115, 105, 115, 100, 110]⟩
  · rw [h2]; exact law_one_phone s w hm hl
  · exact one_err1 m s w hm hl (make_other' m s h1 h2)
end Go.Proofs.YtibkkdbjmcongaaDoor
