/- Layer 5 (ids): the reference's names of events; the parts of names. -/
import Derived.Test.YtibkkdbjmcongaaDoorIdsRefE
namespace Go.Proofs.YtibkkdbjmcongaaDoor
open Go.RowKit
set_option linter.unusedVariables false

theorem ref_user_is (s : ByteArray) (b : Bool) (w : World) (hs : s.size ≤ 1000000) (hb : userL (sb s) = b) :
    Calls Tryd.prog 18 #[.string s] w fun e w' => e = .returned (.bool b) ∧ Below w.heap.size w w' := by
  rw [← hb]; exact ref_user_any s w hs
theorem ref_room_is (s : ByteArray) (b : Bool) (w : World) (hs : s.size ≤ 1000000) (hb : roomL (sb s) = b) :
    Calls Tryd.prog 20 #[.string s] w fun e w' => e = .returned (.bool b) ∧ Below w.heap.size w w' := by
  rw [← hb]; exact ref_room_any s w hs
/-- 43 letters that are decoded are 32 bytes. -/
theorem dec_32 (s : ByteArray) (bs : List Int) (hs : s.size = 43) (h : decT safeB s = some bs) (hb : Bytes bs) : bs.length = 32 := by
  have h1 := strL_decT safeB s safe_size safe_apart bs h
  have h2 := strL_size safeB (encL bs)
  rw [h1, hs] at h2
  have h3 := encL_len bs hb
  omega
set_option maxHeartbeats 1000000 in
theorem ref_event_any (s : ByteArray) (w : World) (hs : s.size ≤ 1000000) :
    Calls Tryd.prog 22 #[.string s] w fun e w' => e = .returned (.bool (eventS s)) ∧ Below w.heap.size w w' := by
  have hl := sb_length s
  by_cases h44 : s.size = 44
  rotate_left
  · have hb : ((s.size : Int) != 44) = true := by rw [bne_iff_ne]; omega
    have HF := Lib.hid (show eventS s = false by rw [eventS, decide_eq_false h44]; rfl)
    clear h44 hl
    go_enter Tryd.func22, Tryd.ntmps22
    go_wp2
    go_ret
    exact ⟨by rw [HF.out]; rfl, Below.refl _ _⟩
  have hb : ((s.size : Int) != 44) = false := by rw [h44]; rfl
  have h0 : 0 < s.size := by omega
  have hat := at0_sb s 0 h0
  have hh := head_at (sb s) (by omega)
  by_cases h3 : at0 (sb s) 0 = 36
  rotate_left
  · have hn : (((s[0]'h0).toNat : Int) != 36) = true := by rw [← hat, bne_iff_ne]; exact h3
    have HF := Lib.hid (show eventS s = false by
      have : ((some (at0 (sb s) 0) : Option Int) == some 36) = false := by rw [beq_eq_false_iff_ne]; simpa using h3
      rw [eventS, hh, this]; simp)
    have h0i : (0 : Int) < s.size := by omega
    clear h44 hl hat hh h3
    go_enter Tryd.func22, Tryd.ntmps22
    go_wp2
    go_ret
    exact ⟨by rw [HF.out]; rfl, Below.refl _ _⟩
  have hn : (((s[0]'h0).toNat : Int) != 36) = false := by rw [← hat, h3]; rfl
  rw [h3] at hh
  have hte := tailB_extract s
  have hts := tailB_size s
  have h43 : (tailB s).size = 43 := by omega
  have h0i : (1 : Int) ≤ s.size := by omega
  have hT : (tailB s).size ≤ 1000000 := by omega
  cases hq : decT safeB (tailB s) with
  | none =>
    have HF := Lib.hid (show eventS s = false by rw [eventS, hq]; simp)
    have HD := ref_dec_safe_no (tailB s) w hT hq
    rw [← hte] at HD
    clear h44 hl hat hh h3 hte hts h43 hT hq
    go_enter Tryd.func22, Tryd.ntmps22
    go_wp2_with fail
    refine HD.mono ?_
    rintro e w1 ⟨rfl, hb1⟩
    go_wp2
    go_ret
    exact ⟨by rw [HF.out]; rfl, hb1⟩
  | some bs =>
    have HF := Lib.hid (show eventS s = true by rw [eventS, hq, hh, h44]; rfl)
    have HD := ref_dec_safe_ok (tailB s) bs w hT hq
    rw [← hte] at HD
    have H32 := fun (hbb : Bytes bs) => dec_32 (tailB s) bs h43 hq hbb
    clear h44 hl hat hh h3 hte hts h43 hT hq
    have H32' := Lib.hid H32; clear H32
    go_enter Tryd.func22, Tryd.ntmps22
    go_wp2_with fail
    refine HD.mono ?_
    rintro e w1 ⟨a1, c1, rfl, hb1, -, hbb, -⟩
    have e32 := H32'.out hbb
    have hb2 : ((bs.length : Int) == 32) = true := by rw [e32]; rfl
    clear e32 HD
    go_wp2
    go_ret
    exact ⟨by rw [HF.out]; rfl, hb1⟩
theorem ref_event_is (s : ByteArray) (b : Bool) (w : World) (hs : s.size ≤ 1000000) (hb : eventS s = b) :
    Calls Tryd.prog 22 #[.string s] w fun e w' => e = .returned (.bool b) ∧ Below w.heap.size w w' := by
  rw [← hb]; exact ref_event_any s w hs
set_option maxHeartbeats 400000 in
theorem ref_split_no (s : ByteArray) (w : World) (hs : s.size ≤ 1000000) (hu : userL (sb s) = false) (hr : roomL (sb s) = false) :
    Calls Tryd.prog 14 #[.string s] w fun e w' => e = .returned (.tuple #[.string ⟨#[]⟩, .string ⟨#[]⟩, .int .i64 2]) ∧ Below w.heap.size w w' := by
  have HU := ref_user_is s false w hs hu
  have HR := fun w1 => ref_room_is s false w1 hs hr
  clear hu hr
  go_enter Tryd.func14, Tryd.ntmps14
  go_wp2_with fail
  refine HU.mono ?_
  rintro e w1 ⟨rfl, hb1⟩
  go_wp2_with fail
  refine (HR _).mono ?_
  rintro e w2 ⟨rfl, hb2⟩
  go_wp2
  go_ret3
  exact ⟨rfl, below_then hb1 hb2⟩
theorem named_head {l : List Int} {sigil most : Int} {K : Int → Bool} (h : namedL l sigil most K = true) : l.head? = some sigil ∧ colI (l.drop 1) < (l.drop 1).length := by
  simp only [namedL, Bool.and_eq_true, decide_eq_true_eq, beq_iff_eq] at h
  refine ⟨h.2.1, ?_⟩
  rcases Nat.lt_or_ge (colI (l.drop 1)) (l.drop 1).length with q | q
  · exact q
  · have := h.2.2.2
    rw [List.drop_of_length_le (by omega), server_nil] at this; cases this
/-- What both parts of a name are, by the place of the first colon in the whole. -/
theorem split_facts (s : ByteArray) (c : Int) (hh : (sb s).head? = some c) (hc58 : c ≠ 58) (hcol : colI ((sb s).drop 1) < ((sb s).drop 1).length) :
    colI (sb s) < (sb s).length ∧ 1 ≤ colI (sb s) ∧ sb (s.extract 1 (colI (sb s))) = ((sb s).drop 1).take (colI ((sb s).drop 1)) ∧ sb (s.extract (colI (sb s) + 1) s.size) = ((sb s).drop 1).drop (colI ((sb s).drop 1) + 1) := by
  have hct := col_tail hh hc58
  rw [List.length_drop] at hcol
  refine ⟨by omega, by omega, ?_, ?_⟩
  · rw [sb_extract, hct, List.drop_take]; rfl
  · rw [sb_tail, hct, List.drop_drop, show 1 + (colI ((sb s).drop 1) + 1) = colI ((sb s).drop 1) + 1 + 1 by omega]
theorem ref_colon_quiet (s : ByteArray) (k : Nat) (hs : s.size ≤ maxLen) (h : colI (sb s) = k) (hk : k < (sb s).length) (w : World) :
    Calls Tryd.prog 38 #[.string s] w fun e w' => e = .returned (.int .i64 (k : Nat)) ∧ w' = w := by
  refine (ref_colon_yes s w hs (by rw [h]; exact hk)).mono ?_
  rintro e w' ⟨rfl, rfl⟩
  exact ⟨by rw [h], rfl⟩
set_option maxHeartbeats 400000 in
theorem ref_split_user (s : ByteArray) (w : World) (hs : s.size ≤ 1000000) (hu : userL (sb s) = true) :
    Calls Tryd.prog 14 #[.string s] w (SplitOk (sb s) w.heap.size w) := by
  have HU := ref_user_is s true w hs hu
  obtain ⟨hh, hcol⟩ := named_head hu
  obtain ⟨hc1, hc2, ha, hb⟩ := split_facts s 64 hh (by decide) hcol
  have hl := sb_length s
  generalize hk : colI (sb s) = k at *
  have HC := ref_colon_quiet s k (by unfold maxLen; omega) hk hc1
  rw [hl] at hc1
  have hk1 : (k : Int) + 1 ≤ s.size := by omega
  have hk3 : (1 : Int) ≤ (k : Int) := by omega
  have hk4 : (k : Int) ≤ s.size := by omega
  have hk5 : (0 : Int) ≤ (k : Int) + 1 := by omega
  have hk6 : IntKind.i64.wrap ((k : Int) + 1) = (k : Int) + 1 := IntWalk.i64_in _ (by omega)
  have hk7 : ((k : Int) + 1).toNat = k + 1 := by omega
  have HA := Lib.hid ha
  have HB := Lib.hid hb
  clear hu hh hcol ha hb hl hk
  go_enter Tryd.func14, Tryd.ntmps14
  go_wp2_with fail
  refine HU.mono ?_
  rintro e w1 ⟨rfl, hb1⟩
  go_wp2
  go_quiet ((go_at_call 38; exact Calls.quiet_of_same (HC _)))
  go_wp2
  go_ret3
  exact ⟨_, _, ⟨HA.out, HB.out⟩, rfl, below_draws hb1 _⟩
set_option maxHeartbeats 400000 in
theorem ref_split_room (s : ByteArray) (w : World) (hs : s.size ≤ 1000000) (hu : userL (sb s) = false) (hr : roomL (sb s) = true) :
    Calls Tryd.prog 14 #[.string s] w (SplitOk (sb s) w.heap.size w) := by
  have HU := ref_user_is s false w hs hu
  have HR := fun w1 => ref_room_is s true w1 hs hr
  obtain ⟨hh, hcol⟩ := named_head hr
  obtain ⟨hc1, hc2, ha, hb⟩ := split_facts s 33 hh (by decide) hcol
  have hl := sb_length s
  generalize hk : colI (sb s) = k at *
  have HC := ref_colon_quiet s k (by unfold maxLen; omega) hk hc1
  rw [hl] at hc1
  have hk1 : (k : Int) + 1 ≤ s.size := by omega
  have hk3 : (1 : Int) ≤ (k : Int) := by omega
  have hk4 : (k : Int) ≤ s.size := by omega
  have hk5 : (0 : Int) ≤ (k : Int) + 1 := by omega
  have hk6 : IntKind.i64.wrap ((k : Int) + 1) = (k : Int) + 1 := IntWalk.i64_in _ (by omega)
  have hk7 : ((k : Int) + 1).toNat = k + 1 := by omega
  have HA := Lib.hid ha
  have HB := Lib.hid hb
  clear hu hr hh hcol ha hb hl hk
  go_enter Tryd.func14, Tryd.ntmps14
  go_wp2_with fail
  refine HU.mono ?_
  rintro e w1 ⟨rfl, hb1⟩
  go_wp2_with fail
  refine (HR _).mono ?_
  rintro e w2 ⟨rfl, hb2⟩
  go_wp2
  go_quiet ((go_at_call 38; exact Calls.quiet_of_same (HC _)))
  go_wp2
  go_ret3
  exact ⟨_, _, ⟨HA.out, HB.out⟩, rfl, below_draws (below_then hb1 hb2) _⟩
end Go.Proofs.YtibkkdbjmcongaaDoor
