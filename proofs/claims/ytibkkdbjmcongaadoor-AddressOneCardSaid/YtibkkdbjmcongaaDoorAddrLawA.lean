/- Layer 6 (address): numbers with and without a nought ahead, and with the code instead, are one: what the law's call does. -/
import Derived.Test.YtibkkdbjmcongaaDoorAddrF
import Derived.Test.YtibkkdbjmcongaaDoorIdsLawB
namespace Go.Proofs.YtibkkdbjmcongaaDoor
open Go.RowKit
set_option linter.unusedVariables false

theorem dial_all (l d0 : List Int) (p : Bool) (h : l.all digI = true) : l.foldl dialStep (some (d0, p)) = some (d0 ++ l, p) := by
  induction l generalizing d0 with
  | nil => simp
  | cons x r ih =>
    rw [List.all_cons, Bool.and_eq_true] at h
    rw [List.foldl_cons]
    have : dialStep (some (d0, p)) x = some (d0 ++ [x], p) := by simp [dialStep, h.1]
    rw [this, ih _ h.2]; simp
theorem trunk_same (d : List Int) (h : d.all digI = true) (h0 : d.head? ≠ some 48) :
    phoneS [52, 52] true true d = phoneS [] false false (43 :: 52 :: 52 :: d) ∧ phoneS [52, 52] true true (48 :: d) = phoneS [] false false (43 :: 52 :: 52 :: d) ∧ phoneS [52, 52] true true (43 :: 52 :: 52 :: d) = phoneS [] false false (43 :: 52 :: 52 :: d) := by
  have e1 : dialS d = some (d, false) := by rw [dialS, dial_all d [] false h]; rfl
  have e2 : dialS (48 :: d) = some (48 :: d, false) := by
    rw [dialS, dial_all (48 :: d) [] false (by rw [List.all_cons, h]; rfl)]; rfl
  have e3 : dialS (43 :: 52 :: 52 :: d) = some (52 :: 52 :: d, true) := by
    have : dialS (43 :: 52 :: 52 :: d) = (52 :: 52 :: d).foldl dialStep (some ([], true)) := rfl
    rw [this, dial_all (52 :: 52 :: d) [] true (by rw [List.all_cons, List.all_cons, h]; rfl)]; rfl
  have f1 : fullS [52, 52] true true d false = 52 :: 52 :: d := by
    have : (d.head? == some 48) = false := beq_eq_false_iff_ne.2 h0
    simp [fullS, this]
  have f2 : fullS [52, 52] true true (48 :: d) false = 52 :: 52 :: d := by simp [fullS]
  have f3 : fullS [] false false (52 :: 52 :: d) true = 52 :: 52 :: d := rfl
  have f4 : fullS [52, 52] true true (52 :: 52 :: d) true = 52 :: 52 :: d := rfl
  refine ⟨?_, ?_, ?_⟩ <;> simp only [phoneS, e1, e2, e3, f1, f2, f3, f4]
theorem run_str_sliceK {P : Program} (K1 K2 : IntKind) (t : TypeId) (ht : P.underlying t = some .string) (L : ByteArray) (lo hi : Int) (h0 : 0 ≤ lo) (h1 : lo ≤ hi) (h2 : hi ≤ L.size) (w : World) :
    (Instr.sliceAt t (.string L) (some (.int K1 lo)) (some (.int K2 hi)) none).run P w = .ok (.string (L.extract lo.toNat hi.toNat)) w := by
  obtain ⟨a, rfl⟩ := Int.eq_ofNat_of_zero_le h0
  obtain ⟨b, rfl⟩ := Int.eq_ofNat_of_zero_le (Int.le_trans h0 h1)
  have e1 : a ≤ b := by omega
  have e2 : b ≤ L.size := by omega
  rw [run_sliceAt_string w t _ _ _ _ ht]
  simp [Instr.slice, run_underlying ht, Instr.sliceBounds, run_sliceBound, *]
/-- One digit more, by the law's own table. -/
theorem digit_more (z : Int) (h0 : 0 ≤ z) : ∃ (m : Int) (g : ByteArray), z.tmod 10 = m ∧ 0 ≤ m ∧ m ≤ 9 ∧ IntKind.u8.wrap (m + 1) = m + 1 ∧ (sb g).all digI = true ∧ g.size = 1 ∧
    (∀ w' : World, (Instr.sliceAt 9 (.string ⟨#[48, 49, 50, 51, 52, 53, 54, 55, 56, 57]⟩) (some (.int .u8 m)) (some (.int .u8 (m + 1))) none).run Tryd.prog w' = .ok (.string g) w') := by
  have e : z.tmod 10 = z % 10 := Int.tmod_eq_emod_of_nonneg h0
  have hk2 := digit_sub (z % 10).toNat (by omega)
  have hdg := sb_extract ⟨#[48, 49, 50, 51, 52, 53, 54, 55, 56, 57]⟩ (z % 10).toNat ((z % 10).toNat + 1)
  rw [← hdg] at hk2
  refine ⟨z % 10, _, e, by omega, by omega, ?_, hk2.1, by rw [← sb_length]; exact hk2.2, fun w' => ?_⟩
  · rw [wrap_u8_eq]; omega
  · rw [run_str_sliceK (P := Tryd.prog) .u8 .u8 9 Tryd.underlying9 ⟨#[48, 49, 50, 51, 52, 53, 54, 55, 56, 57]⟩ (z % 10) (z % 10 + 1) (by omega) (by omega) (by show _ ≤ (10 : Int); omega) w', show (z % 10 + 1).toNat = (z % 10).toNat + 1 by omega]
set_option maxHeartbeats 2000000 in
theorem trunk_walk (v : Value) (zs : List Int) (w : World) (hm : MaxC w) (h : RdI .u8 w v zs) (hb : Bytes zs) (h30 : zs.length ≤ 30) :
    Calls Tryd.prog 11 #[v] w fun e w' => e = .returned (.bool true) ∧ Below w.heap.size w w' := by
  obtain ⟨a, cap, rfl, hla, hma, -, -⟩ := id h
  unfold maxLen at hma
  go_enter Tryd.func11, Tryd.ntmps11
  go_wp2_with fail
  refine (alive06 w hm).mono ?_
  rintro e w1 ⟨rfl, hb1⟩
  replace h := h.below hb1
  go_wp2
  go_loopw [3, 4] (fun t i wr => ∃ (k : Nat) (d : ByteArray), k ≤ zs.length ∧ i = .int .i64 k ∧ t = .string d ∧ d.size = k ∧ (sb d).all digI = true ∧ RdI .u8 wr (.slice a zs.length cap) zs ∧ Below w.heap.size w wr) (fun _ i _ => zs.length - (intOf i).toNat)
  case atStart => exact ⟨0, ⟨#[]⟩, Nat.zero_le _, rfl, rfl, rfl, rfl, h, hb1⟩
  case round =>
    clear h hb1
    obtain ⟨k, d, hk, rfl, rfl, hd, hda, h, hbel⟩ := hrel
    by_cases hlt : k < zs.length
    · obtain ⟨a', cap', he, -, -, hcell, -⟩ := id h
      cases he
      obtain ⟨x, o, rfl, hc⟩ := hcell k hlt
      have hz := hb.at k
      obtain ⟨m, g, q1, q2, q3, q4, q5, q6, q7⟩ := digit_more (at0 zs k) hz.1
      have hds : d.size ≤ 30 := by omega
      have hgs : g.size ≤ 1 := by omega
      have HD := Lib.hid (And.intro hd (And.intro hda (And.intro q5 q6)))
      have HH := Lib.hid h
      clear hd hda q5 q6 h hcell
      have hk0 : (0 : Int) ≤ k := by omega
      have hk1 : (k : Int) < zs.length := by omega
      go_wp2
      go_quiet (fail)
      go_wp2
      obtain ⟨r1, r2, r3, r4⟩ := HD.out
      refine ⟨⟨k + 1, d ++ g, by omega, by go_num, rfl, by rw [ByteArray.size_append]; omega, by rw [sb_append, List.all_append, r2, r3]; rfl, HH.out.drewN _, below_draws hbel _⟩, by simp [intOf]; omega⟩
    · obtain rfl : k = zs.length := by omega
      have hds : d.size ≤ 30 := by omega
      have HD := Lib.hid (And.intro hd hda)
      clear hd hda h
      by_cases hd0 : d.size = 0
      · obtain rfl : d = ⟨#[]⟩ := by
          apply sb_inj
          rw [List.eq_nil_of_length_eq_zero (by rw [sb_length]; exact hd0 : (sb d).length = 0)]; rfl
        have HNZ := Lib.hid (show (sb (⟨#[]⟩ : ByteArray)).head? ≠ some 48 by decide)
        clear hd0
        obtain ⟨t1, t2, t3⟩ := trunk_same (sb (⟨#[]⟩ : ByteArray)) HD.out.2 HNZ.out
        have hs0 : ((⟨#[]⟩ : ByteArray)).size ≤ 1000000 := by omega
        have hs1 : ((⟨#[48]⟩ : ByteArray) ++ (⟨#[]⟩ : ByteArray)).size ≤ 1000000 := by rw [ByteArray.size_append]; have : (⟨#[48]⟩ : ByteArray).size = 1 := rfl; omega
        have hs2 : ((⟨#[43, 52, 52]⟩ : ByteArray) ++ (⟨#[]⟩ : ByteArray)).size ≤ 1000000 := by rw [ByteArray.size_append]; have : (⟨#[43, 52, 52]⟩ : ByteArray).size = 3 := rfl; omega
        have c1 : sb ((⟨#[48]⟩ : ByteArray) ++ (⟨#[]⟩ : ByteArray)) = 48 :: sb (⟨#[]⟩ : ByteArray) := by rw [sb_append]; rfl
        have c2 : sb ((⟨#[43, 52, 52]⟩ : ByteArray) ++ (⟨#[]⟩ : ByteArray)) = 43 :: 52 :: 52 :: sb (⟨#[]⟩ : ByteArray) := by rw [sb_append]; rfl
        rw [← c1, ← c2] at t2
        rw [← c2] at t1 t3
        cases hr : phoneS [] false false (sb ((⟨#[43, 52, 52]⟩ : ByteArray) ++ (⟨#[]⟩ : ByteArray))) with
        | none =>
          rw [hr] at t1 t2 t3
          have P1 := fun w' => phone_gb_is (⟨#[]⟩ : ByteArray) _ w' hs0 t1
          have P2 := fun w' => phone_gb_is (⟨#[48]⟩ ++ (⟨#[]⟩ : ByteArray)) _ w' hs1 t2
          have P3 := fun w' => phone_empty_is (⟨#[43, 52, 52]⟩ ++ (⟨#[]⟩ : ByteArray)) _ w' hs2 hr
          have P4 := fun w' => phone_gb_is (⟨#[43, 52, 52]⟩ ++ (⟨#[]⟩ : ByteArray)) _ w' hs2 t3
          simp only [phoneVal] at P1 P2 P3 P4
          clear t1 t2 t3 c1 c2 hr
          go_wp2_with fail
          refine (P1 _).mono ?_
          rintro e w2 ⟨rfl, hb2⟩
          replace hbel := below_then hbel hb2
          clear hb2
          go_wp2_with fail
          refine (P2 _).mono ?_
          rintro e w3 ⟨rfl, hb2⟩
          replace hbel := below_then hbel hb2
          clear hb2
          go_wp2_with fail
          refine (P3 _).mono ?_
          rintro e w4 ⟨rfl, hb2⟩
          replace hbel := below_then hbel hb2
          clear hb2
          go_wp2_with fail
          refine (P4 _).mono ?_
          rintro e w5 ⟨rfl, hb2⟩
          replace hbel := below_then hbel hb2
          clear hb2
          go_wp2
          go_ret
          exact ⟨rfl, hbel⟩
        | some f =>
          rw [hr] at t1 t2 t3
          have P1 := fun w' => phone_gb_is (⟨#[]⟩ : ByteArray) _ w' hs0 t1
          have P2 := fun w' => phone_gb_is (⟨#[48]⟩ ++ (⟨#[]⟩ : ByteArray)) _ w' hs1 t2
          have P3 := fun w' => phone_empty_is (⟨#[43, 52, 52]⟩ ++ (⟨#[]⟩ : ByteArray)) _ w' hs2 hr
          have P4 := fun w' => phone_gb_is (⟨#[43, 52, 52]⟩ ++ (⟨#[]⟩ : ByteArray)) _ w' hs2 t3
          simp only [phoneVal] at P1 P2 P3 P4
          generalize strOfNums f = F at *
          have hF := str_eq_yes (rfl : F = F)
          clear t1 t2 t3 c1 c2 hr
          go_wp2_with fail
          refine (P1 _).mono ?_
          rintro e w2 ⟨rfl, hb2⟩
          replace hbel := below_then hbel hb2
          clear hb2
          go_wp2_with fail
          refine (P2 _).mono ?_
          rintro e w3 ⟨rfl, hb2⟩
          replace hbel := below_then hbel hb2
          clear hb2
          go_wp2_with fail
          refine (P3 _).mono ?_
          rintro e w4 ⟨rfl, hb2⟩
          replace hbel := below_then hbel hb2
          clear hb2
          go_wp2_with fail
          refine (P4 _).mono ?_
          rintro e w5 ⟨rfl, hb2⟩
          replace hbel := below_then hbel hb2
          clear hb2
          go_wp2
          go_ret
          exact ⟨rfl, hbel⟩
      · have hx0 : 0 < d.size := by omega
        have hat := at0_sb d 0 hx0
        have hh := head_at (sb d) (by rw [sb_length]; exact hx0)
        have hde : d.toList.isEmpty = false := by
          rw [ByteArray.toList_eq]
          cases hq : d.data.toList with
          | nil => exfalso; apply hd0; rw [Lib.size_eq, hq]; rfl
          | cons x r => rfl
        have hde2 : (d.toList == []) = false := by
          cases hq : d.toList with
          | nil => rw [hq] at hde; cases hde
          | cons x r => rfl
        by_cases h48 : at0 (sb d) 0 = 48
        · have hb : (((d[0]'hx0).toNat : Int) == 48) = true := by rw [← hat, h48]; rfl
          clear hat h48 hh hd0
          go_wp2
          go_ret
          exact ⟨rfl, hbel⟩
        · have hb : (((d[0]'hx0).toNat : Int) == 48) = false := by rw [← hat, beq_eq_false_iff_ne]; exact h48
          have HNZ := Lib.hid (show (sb d).head? ≠ some 48 by rw [hh]; intro e; exact h48 (Option.some.inj e))
          clear hat h48 hh hd0
          obtain ⟨t1, t2, t3⟩ := trunk_same (sb d) HD.out.2 HNZ.out
          have hs0 : (d).size ≤ 1000000 := by omega
          have hs1 : ((⟨#[48]⟩ : ByteArray) ++ d).size ≤ 1000000 := by rw [ByteArray.size_append]; have : (⟨#[48]⟩ : ByteArray).size = 1 := rfl; omega
          have hs2 : ((⟨#[43, 52, 52]⟩ : ByteArray) ++ d).size ≤ 1000000 := by rw [ByteArray.size_append]; have : (⟨#[43, 52, 52]⟩ : ByteArray).size = 3 := rfl; omega
          have c1 : sb ((⟨#[48]⟩ : ByteArray) ++ d) = 48 :: sb d := by rw [sb_append]; rfl
          have c2 : sb ((⟨#[43, 52, 52]⟩ : ByteArray) ++ d) = 43 :: 52 :: 52 :: sb d := by rw [sb_append]; rfl
          rw [← c1, ← c2] at t2
          rw [← c2] at t1 t3
          cases hr : phoneS [] false false (sb ((⟨#[43, 52, 52]⟩ : ByteArray) ++ d)) with
          | none =>
            rw [hr] at t1 t2 t3
            have P1 := fun w' => phone_gb_is d _ w' hs0 t1
            have P2 := fun w' => phone_gb_is (⟨#[48]⟩ ++ d) _ w' hs1 t2
            have P3 := fun w' => phone_empty_is (⟨#[43, 52, 52]⟩ ++ d) _ w' hs2 hr
            have P4 := fun w' => phone_gb_is (⟨#[43, 52, 52]⟩ ++ d) _ w' hs2 t3
            simp only [phoneVal] at P1 P2 P3 P4
            clear t1 t2 t3 c1 c2 hr
            go_wp2_with fail
            refine (P1 _).mono ?_
            rintro e w2 ⟨rfl, hb2⟩
            replace hbel := below_then hbel hb2
            clear hb2
            go_wp2_with fail
            refine (P2 _).mono ?_
            rintro e w3 ⟨rfl, hb2⟩
            replace hbel := below_then hbel hb2
            clear hb2
            go_wp2_with fail
            refine (P3 _).mono ?_
            rintro e w4 ⟨rfl, hb2⟩
            replace hbel := below_then hbel hb2
            clear hb2
            go_wp2_with fail
            refine (P4 _).mono ?_
            rintro e w5 ⟨rfl, hb2⟩
            replace hbel := below_then hbel hb2
            clear hb2
            go_wp2
            go_ret
            exact ⟨rfl, hbel⟩
          | some f =>
            rw [hr] at t1 t2 t3
            have P1 := fun w' => phone_gb_is d _ w' hs0 t1
            have P2 := fun w' => phone_gb_is (⟨#[48]⟩ ++ d) _ w' hs1 t2
            have P3 := fun w' => phone_empty_is (⟨#[43, 52, 52]⟩ ++ d) _ w' hs2 hr
            have P4 := fun w' => phone_gb_is (⟨#[43, 52, 52]⟩ ++ d) _ w' hs2 t3
            simp only [phoneVal] at P1 P2 P3 P4
            generalize strOfNums f = F at *
            have hF := str_eq_yes (rfl : F = F)
            clear t1 t2 t3 c1 c2 hr
            go_wp2_with fail
            refine (P1 _).mono ?_
            rintro e w2 ⟨rfl, hb2⟩
            replace hbel := below_then hbel hb2
            clear hb2
            go_wp2_with fail
            refine (P2 _).mono ?_
            rintro e w3 ⟨rfl, hb2⟩
            replace hbel := below_then hbel hb2
            clear hb2
            go_wp2_with fail
            refine (P3 _).mono ?_
            rintro e w4 ⟨rfl, hb2⟩
            replace hbel := below_then hbel hb2
            clear hb2
            go_wp2_with fail
            refine (P4 _).mono ?_
            rintro e w5 ⟨rfl, hb2⟩
            replace hbel := below_then hbel hb2
            clear hb2
            go_wp2
            go_ret
            exact ⟨rfl, hbel⟩
theorem law_trunk (v : Value) (zs : List Int) (w : World) (hm : MaxC w) (h : RdI .u8 w v zs) (hb : Bytes zs) :
    Calls Tryd.prog 11 #[v] w fun e w' => e = .returned (.bool true) ∧ Below w.heap.size w w' := by
  by_cases h30 : zs.length ≤ 30
  · exact trunk_walk v zs w hm h hb h30
  · obtain ⟨a, cap, rfl, hla, hma, -, -⟩ := id h
    unfold maxLen at hma
    go_enter Tryd.func11, Tryd.ntmps11
    go_wp2_with fail
    refine (alive06 w hm).mono ?_
    rintro e w1 ⟨rfl, hb1⟩
    go_wp2
    go_ret
    exact ⟨rfl, hb1⟩
end Go.Proofs.YtibkkdbjmcongaaDoor
