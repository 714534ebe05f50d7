/- Layer 5 (ids): the reference's hosts. -/
import Derived.Test.YtibkkdbjmcongaaDoorIdsRef
namespace Go.Proofs.YtibkkdbjmcongaaDoor
open Go.RowKit
set_option linter.unusedVariables false

/-- May this byte stand in this place of a host? -/
def hokB (l : List Int) (i : Nat) : Bool := hostI (at0 l i) && !(signI (at0 l i) && (i == 0 || i + 1 == l.length || (at0 l i == 46 && at0 l (i - 1) == 46)))
theorem dots_iff (l : List Int) : dotsI l = true ↔ ∃ j, j + 1 < l.length ∧ at0 l j = 46 ∧ at0 l (j + 1) = 46 := by
  induction l with
  | nil => simp [dotsI]
  | cons x r ih =>
    rw [dotsI, Bool.or_eq_true, ih]
    constructor
    · rintro (h | ⟨j, h1, h2, h3⟩)
      · simp only [Bool.and_eq_true, beq_iff_eq] at h
        cases r with
        | nil => simp at h
        | cons y r =>
          simp only [List.head?_cons, Option.some.injEq] at h
          exact ⟨0, by simp only [List.length_cons]; omega, by rw [at0_cons_zero]; exact h.1, by rw [at0_cons_succ, at0_cons_zero]; exact h.2⟩
      · exact ⟨j + 1, by simp only [List.length_cons]; omega, by rw [at0_cons_succ]; exact h2, by rw [at0_cons_succ]; exact h3⟩
    · rintro ⟨j, h1, h2, h3⟩
      cases j with
      | zero =>
        left
        cases r with
        | nil => simp at h1
        | cons y r =>
          rw [at0_cons_zero] at h2
          rw [at0_cons_succ, at0_cons_zero] at h3
          simp [h2, h3]
      | succ j =>
        right
        rw [at0_cons_succ] at h2 h3
        exact ⟨j, by simp at h1; omega, h2, h3⟩
theorem last_at (l : List Int) (h : 0 < l.length) : l.getLast? = some (at0 l (l.length - 1)) := by
  rw [List.getLast?_eq_getElem?, at0_lt (by omega), List.getElem?_eq_getElem (by omega)]
theorem host_iff (l : List Int) (h1 : 1 ≤ l.length) (h2 : l.length ≤ 230) : hostL l = true ↔ ∀ i, i < l.length → hokB l i = true := by
  have hm : madeI l 230 hostI = l.all hostI := made_yes l 230 hostI h1 (by omega)
  rw [hostL, hm, edgesI, head_at l (by omega), last_at l (by omega)]
  simp only [Bool.and_eq_true, List.all_eq_true, Bool.not_eq_true', Option.any_some]
  constructor
  · rintro ⟨ha, hd, h0, hl⟩ i hi
    unfold hokB
    rw [ha _ (at0_mem hi), Bool.true_and, Bool.not_eq_true']
    cases hs : signI (at0 l i)
    · rfl
    · simp only [Bool.true_and, Bool.or_eq_false_iff, beq_eq_false_iff_ne]
      refine ⟨⟨?_, ?_⟩, ?_⟩
      · rintro rfl; rw [h0] at hs; cases hs
      · intro e
        rw [show l.length - 1 = i by omega] at hl
        rw [hl] at hs; cases hs
      · rw [Bool.and_eq_false_iff]
        by_cases e : at0 l i = 46
        · right
          rw [beq_eq_false_iff_ne]
          intro e2
          have hi0 : i ≠ 0 := by rintro rfl; rw [h0] at hs; cases hs
          have : dotsI l = true := (dots_iff l).2 ⟨i - 1, by omega, e2, by rw [show i - 1 + 1 = i by omega]; exact e⟩
          rw [this] at hd; cases hd
        · left; rw [beq_eq_false_iff_ne]; exact e
  · intro h
    have key : ∀ i, i < l.length → hostI (at0 l i) = true ∧ (signI (at0 l i) = true → i ≠ 0 ∧ i + 1 ≠ l.length ∧ ¬ (at0 l i = 46 ∧ at0 l (i - 1) = 46)) := by
      intro i hi
      have := h i hi
      unfold hokB at this
      simp only [Bool.and_eq_true, Bool.not_eq_true', Bool.and_eq_false_iff, Bool.or_eq_false_iff, beq_eq_false_iff_ne] at this
      refine ⟨this.1, fun hs => ?_⟩
      rcases this.2 with e | ⟨⟨a, b⟩, c⟩
      · rw [hs] at e; cases e
      · refine ⟨a, b, fun ⟨d, e⟩ => ?_⟩
        rcases c with c | c
        · exact c d
        · exact c e
    refine ⟨fun x hx => ?_, ?_, ?_, ?_⟩
    · obtain ⟨j, hj, rfl⟩ := List.getElem_of_mem hx
      rw [← at0_lt hj]; exact (key j hj).1
    · cases hd : dotsI l
      · rfl
      · obtain ⟨j, j1, j2, j3⟩ := (dots_iff l).1 hd
        have := (key (j + 1) j1).2 (by rw [j3]; decide)
        exact (this.2.2 ⟨j3, by simpa using j2⟩).elim
    · cases hs : signI (at0 l 0)
      · rfl
      · exact (((key 0 (by omega)).2 hs).1 rfl).elim
    · cases hs : signI (at0 l (l.length - 1))
      · rfl
      · exact (((key (l.length - 1) (by omega)).2 hs).2.1 (by omega)).elim
theorem ref_digit_is (c : Int) (b : Bool) (w : World) (h : digI c = b) : Calls Tryd.prog 43 #[.int .u8 c] w fun e w' => e = .returned (.bool b) ∧ w = w' := by rw [← h]; exact ref_digit_any c w
theorem ref_small_is (c : Int) (b : Bool) (w : World) (h : smlI c = b) : Calls Tryd.prog 47 #[.int .u8 c] w fun e w' => e = .returned (.bool b) ∧ w = w' := by rw [← h]; exact ref_small_any c w
theorem ref_great_is (c : Int) (b : Bool) (w : World) (h : grtI c = b) : Calls Tryd.prog 49 #[.int .u8 c] w fun e w' => e = .returned (.bool b) ∧ w = w' := by rw [← h]; exact ref_great_any c w
set_option maxHeartbeats 1000000 in
theorem ref_host_any (s : ByteArray) (w : World) (hs : s.size ≤ maxLen) :
    Calls Tryd.prog 42 #[.string s] w fun e w' => e = .returned (.bool (hostL (sb s))) ∧ w = w' := by
  unfold maxLen at hs
  have hl := sb_length s
  by_cases g1 : (s.size : Int) < 1
  · have HF := Lib.hid (show hostL (sb s) = false by rw [hostL, made_no _ _ _ (by omega)]; rfl)
    clear hl
    go_enter Tryd.func42, Tryd.ntmps42
    go_wp2
    go_ret
    exact ⟨by rw [HF.out]; rfl, rfl⟩
  by_cases g2 : (230 : Int) < (s.size : Int)
  · have HF := Lib.hid (show hostL (sb s) = false by rw [hostL, made_no _ _ _ (by omega)]; rfl)
    clear hl
    go_enter Tryd.func42, Tryd.ntmps42
    go_wp2
    go_ret
    exact ⟨by rw [HF.out]; rfl, rfl⟩
  have HI := Lib.hid (host_iff (sb s) (by omega) (by omega))
  have HL := Lib.hid hl; clear hl
  go_enter Tryd.func42, Tryd.ntmps42
  go_wp2
  go_loop [3] (fun i => ∃ k : Nat, k ≤ s.size ∧ i = .int .i64 k ∧ ∀ j, j < k → hokB (sb s) j = true) (fun i => s.size - (intOf i).toNat)
  case atStart => exact ⟨0, Nat.zero_le _, rfl, fun j h => by omega⟩
  case round =>
    obtain ⟨k, hk, rfl, hall⟩ := hrel
    have H := Lib.hid hall; clear hall
    by_cases hlt : k < s.size
    · have hlk : k < (sb s).length := by have := HL.out; omega
      have hat := at0_sb s k hlt
      have HA := Lib.hid hat; clear hat
      have c0 := (s[k]'hlt).toNat_lt
      by_cases hc : at0 (sb s) k = 46
      · by_cases q0 : k = 0
        · have hb46 : (((s[k]'hlt).toNat : Int) == 46) = true := by rw [← HA.out]; first | rw [hc]; rfl | (rw [beq_eq_false_iff_ne]; omega)
          have hb45 : (((s[k]'hlt).toNat : Int) == 45) = false := by rw [← HA.out]; first | rw [hc]; rfl | (rw [beq_eq_false_iff_ne]; omega)
          have HSm := Lib.hid (show smlI ((s[k]'hlt).toNat : Int) = false by rw [← HA.out]; first | (rw [hc]; decide) | exact hcs)
          have HGr := Lib.hid (show grtI ((s[k]'hlt).toNat : Int) = false by rw [← HA.out]; first | (rw [hc]; decide) | exact hcg)
          have HDi := Lib.hid (show digI ((s[k]'hlt).toNat : Int) = false by rw [← HA.out]; first | (rw [hc]; decide) | exact hcd)
          have hk0 : ((k : Int) == 0) = true := by rw [beq_iff_eq]; omega
          have HK := Lib.hid (show hokB (sb s) k = false by rw [hokB, hc, q0]; simp [signI])
          clear hc q0
          go_wp2_with (first | (go_at_call 47; refine (ref_small_is _ _ _ HSm.out).mono ?_; rintro e w' ⟨rfl, rfl⟩) | (go_at_call 49; refine (ref_great_is _ _ _ HGr.out).mono ?_; rintro e w' ⟨rfl, rfl⟩) | (go_at_call 43; refine (ref_digit_is _ _ _ HDi.out).mono ?_; rintro e w' ⟨rfl, rfl⟩))
          go_ret
          refine ⟨?_, rfl⟩
          have : hostL (sb s) = false := by
            cases h : hostL (sb s)
            · rfl
            · have := HI.out.1 h k hlk; rw [HK.out] at this; cases this
          rw [this]; rfl
        by_cases q1 : k + 1 = s.size
        · have hb46 : (((s[k]'hlt).toNat : Int) == 46) = true := by rw [← HA.out]; first | rw [hc]; rfl | (rw [beq_eq_false_iff_ne]; omega)
          have hb45 : (((s[k]'hlt).toNat : Int) == 45) = false := by rw [← HA.out]; first | rw [hc]; rfl | (rw [beq_eq_false_iff_ne]; omega)
          have HSm := Lib.hid (show smlI ((s[k]'hlt).toNat : Int) = false by rw [← HA.out]; first | (rw [hc]; decide) | exact hcs)
          have HGr := Lib.hid (show grtI ((s[k]'hlt).toNat : Int) = false by rw [← HA.out]; first | (rw [hc]; decide) | exact hcg)
          have HDi := Lib.hid (show digI ((s[k]'hlt).toNat : Int) = false by rw [← HA.out]; first | (rw [hc]; decide) | exact hcd)
          have hk0 : ((k : Int) == 0) = false := by rw [beq_eq_false_iff_ne]; omega
          have hkl : ((k : Int) == (s.size : Int) - 1) = true := by rw [beq_iff_eq]; omega
          have HK := Lib.hid (show hokB (sb s) k = false by rw [hokB, hc, show k + 1 = (sb s).length by have := HL.out; omega]; simp [signI])
          clear hc
          go_wp2_with (first | (go_at_call 47; refine (ref_small_is _ _ _ HSm.out).mono ?_; rintro e w' ⟨rfl, rfl⟩) | (go_at_call 49; refine (ref_great_is _ _ _ HGr.out).mono ?_; rintro e w' ⟨rfl, rfl⟩) | (go_at_call 43; refine (ref_digit_is _ _ _ HDi.out).mono ?_; rintro e w' ⟨rfl, rfl⟩))
          go_ret
          refine ⟨?_, rfl⟩
          have : hostL (sb s) = false := by
            cases h : hostL (sb s)
            · rfl
            · have := HI.out.1 h k hlk; rw [HK.out] at this; cases this
          rw [this]; rfl
        have hp := at0_sb s (k - 1) (by omega)
        have HP := Lib.hid hp; clear hp
        have hi1 : (1 : Int) ≤ k := by omega
        have hi2 : (k : Int) - 1 < s.size := by omega
        have hi3 : ((k : Int) - 1).toNat = k - 1 := by omega
        by_cases q2 : at0 (sb s) (k - 1) = 46
        · have hb46 : (((s[k]'hlt).toNat : Int) == 46) = true := by rw [← HA.out]; first | rw [hc]; rfl | (rw [beq_eq_false_iff_ne]; omega)
          have hb45 : (((s[k]'hlt).toNat : Int) == 45) = false := by rw [← HA.out]; first | rw [hc]; rfl | (rw [beq_eq_false_iff_ne]; omega)
          have HSm := Lib.hid (show smlI ((s[k]'hlt).toNat : Int) = false by rw [← HA.out]; first | (rw [hc]; decide) | exact hcs)
          have HGr := Lib.hid (show grtI ((s[k]'hlt).toNat : Int) = false by rw [← HA.out]; first | (rw [hc]; decide) | exact hcg)
          have HDi := Lib.hid (show digI ((s[k]'hlt).toNat : Int) = false by rw [← HA.out]; first | (rw [hc]; decide) | exact hcd)
          have hk0 : ((k : Int) == 0) = false := by rw [beq_eq_false_iff_ne]; omega
          have hkl : ((k : Int) == (s.size : Int) - 1) = false := by rw [beq_eq_false_iff_ne]; omega
          have hb9 : (((s[k - 1]'(by omega)).toNat : Int) == 46) = true := by rw [← HP.out, q2]; rfl
          have HK := Lib.hid (show hokB (sb s) k = false by rw [hokB, hc, q2]; simp [signI])
          clear hc
          go_wp2_with (first | (go_at_call 47; refine (ref_small_is _ _ _ HSm.out).mono ?_; rintro e w' ⟨rfl, rfl⟩) | (go_at_call 49; refine (ref_great_is _ _ _ HGr.out).mono ?_; rintro e w' ⟨rfl, rfl⟩) | (go_at_call 43; refine (ref_digit_is _ _ _ HDi.out).mono ?_; rintro e w' ⟨rfl, rfl⟩))
          go_ret
          refine ⟨?_, rfl⟩
          have : hostL (sb s) = false := by
            cases h : hostL (sb s)
            · rfl
            · have := HI.out.1 h k hlk; rw [HK.out] at this; cases this
          rw [this]; rfl
        · have hb46 : (((s[k]'hlt).toNat : Int) == 46) = true := by rw [← HA.out]; first | rw [hc]; rfl | (rw [beq_eq_false_iff_ne]; omega)
          have hb45 : (((s[k]'hlt).toNat : Int) == 45) = false := by rw [← HA.out]; first | rw [hc]; rfl | (rw [beq_eq_false_iff_ne]; omega)
          have HSm := Lib.hid (show smlI ((s[k]'hlt).toNat : Int) = false by rw [← HA.out]; first | (rw [hc]; decide) | exact hcs)
          have HGr := Lib.hid (show grtI ((s[k]'hlt).toNat : Int) = false by rw [← HA.out]; first | (rw [hc]; decide) | exact hcg)
          have HDi := Lib.hid (show digI ((s[k]'hlt).toNat : Int) = false by rw [← HA.out]; first | (rw [hc]; decide) | exact hcd)
          have hk0 : ((k : Int) == 0) = false := by rw [beq_eq_false_iff_ne]; omega
          have hkl : ((k : Int) == (s.size : Int) - 1) = false := by rw [beq_eq_false_iff_ne]; omega
          have hb9 : (((s[k - 1]'(by omega)).toNat : Int) == 46) = false := by rw [← HP.out, beq_eq_false_iff_ne]; exact q2
          have HK := Lib.hid (show hokB (sb s) k = true by have hl9 := HL.out; simp [hokB, hc, q2, signI, q0, hostI]; omega)
          clear hc
          go_wp2_with (first | (go_at_call 47; refine (ref_small_is _ _ _ HSm.out).mono ?_; rintro e w' ⟨rfl, rfl⟩) | (go_at_call 49; refine (ref_great_is _ _ _ HGr.out).mono ?_; rintro e w' ⟨rfl, rfl⟩) | (go_at_call 43; refine (ref_digit_is _ _ _ HDi.out).mono ?_; rintro e w' ⟨rfl, rfl⟩))
          refine ⟨⟨k + 1, by omega, by go_num, fun j hj => ?_⟩, by simp [intOf]; omega⟩
          rcases Nat.lt_or_ge j k with h | h
          · exact H.out j h
          · obtain rfl : j = k := by omega
            exact HK.out
      have hc46 := hc; clear hc
      by_cases hc : at0 (sb s) k = 45
      · by_cases q0 : k = 0
        · have hb46 : (((s[k]'hlt).toNat : Int) == 46) = false := by rw [← HA.out]; first | rw [hc]; rfl | (rw [beq_eq_false_iff_ne]; omega)
          have hb45 : (((s[k]'hlt).toNat : Int) == 45) = true := by rw [← HA.out]; first | rw [hc]; rfl | (rw [beq_eq_false_iff_ne]; omega)
          have HSm := Lib.hid (show smlI ((s[k]'hlt).toNat : Int) = false by rw [← HA.out]; first | (rw [hc]; decide) | exact hcs)
          have HGr := Lib.hid (show grtI ((s[k]'hlt).toNat : Int) = false by rw [← HA.out]; first | (rw [hc]; decide) | exact hcg)
          have HDi := Lib.hid (show digI ((s[k]'hlt).toNat : Int) = false by rw [← HA.out]; first | (rw [hc]; decide) | exact hcd)
          have hk0 : ((k : Int) == 0) = true := by rw [beq_iff_eq]; omega
          have HK := Lib.hid (show hokB (sb s) k = false by rw [hokB, hc, q0]; simp [signI])
          clear hc q0
          go_wp2_with (first | (go_at_call 47; refine (ref_small_is _ _ _ HSm.out).mono ?_; rintro e w' ⟨rfl, rfl⟩) | (go_at_call 49; refine (ref_great_is _ _ _ HGr.out).mono ?_; rintro e w' ⟨rfl, rfl⟩) | (go_at_call 43; refine (ref_digit_is _ _ _ HDi.out).mono ?_; rintro e w' ⟨rfl, rfl⟩))
          go_ret
          refine ⟨?_, rfl⟩
          have : hostL (sb s) = false := by
            cases h : hostL (sb s)
            · rfl
            · have := HI.out.1 h k hlk; rw [HK.out] at this; cases this
          rw [this]; rfl
        by_cases q1 : k + 1 = s.size
        · have hb46 : (((s[k]'hlt).toNat : Int) == 46) = false := by rw [← HA.out]; first | rw [hc]; rfl | (rw [beq_eq_false_iff_ne]; omega)
          have hb45 : (((s[k]'hlt).toNat : Int) == 45) = true := by rw [← HA.out]; first | rw [hc]; rfl | (rw [beq_eq_false_iff_ne]; omega)
          have HSm := Lib.hid (show smlI ((s[k]'hlt).toNat : Int) = false by rw [← HA.out]; first | (rw [hc]; decide) | exact hcs)
          have HGr := Lib.hid (show grtI ((s[k]'hlt).toNat : Int) = false by rw [← HA.out]; first | (rw [hc]; decide) | exact hcg)
          have HDi := Lib.hid (show digI ((s[k]'hlt).toNat : Int) = false by rw [← HA.out]; first | (rw [hc]; decide) | exact hcd)
          have hk0 : ((k : Int) == 0) = false := by rw [beq_eq_false_iff_ne]; omega
          have hkl : ((k : Int) == (s.size : Int) - 1) = true := by rw [beq_iff_eq]; omega
          have HK := Lib.hid (show hokB (sb s) k = false by rw [hokB, hc, show k + 1 = (sb s).length by have := HL.out; omega]; simp [signI])
          clear hc
          go_wp2_with (first | (go_at_call 47; refine (ref_small_is _ _ _ HSm.out).mono ?_; rintro e w' ⟨rfl, rfl⟩) | (go_at_call 49; refine (ref_great_is _ _ _ HGr.out).mono ?_; rintro e w' ⟨rfl, rfl⟩) | (go_at_call 43; refine (ref_digit_is _ _ _ HDi.out).mono ?_; rintro e w' ⟨rfl, rfl⟩))
          go_ret
          refine ⟨?_, rfl⟩
          have : hostL (sb s) = false := by
            cases h : hostL (sb s)
            · rfl
            · have := HI.out.1 h k hlk; rw [HK.out] at this; cases this
          rw [this]; rfl
        have hb46 : (((s[k]'hlt).toNat : Int) == 46) = false := by rw [← HA.out]; first | rw [hc]; rfl | (rw [beq_eq_false_iff_ne]; omega)
        have hb45 : (((s[k]'hlt).toNat : Int) == 45) = true := by rw [← HA.out]; first | rw [hc]; rfl | (rw [beq_eq_false_iff_ne]; omega)
        have HSm := Lib.hid (show smlI ((s[k]'hlt).toNat : Int) = false by rw [← HA.out]; first | (rw [hc]; decide) | exact hcs)
        have HGr := Lib.hid (show grtI ((s[k]'hlt).toNat : Int) = false by rw [← HA.out]; first | (rw [hc]; decide) | exact hcg)
        have HDi := Lib.hid (show digI ((s[k]'hlt).toNat : Int) = false by rw [← HA.out]; first | (rw [hc]; decide) | exact hcd)
        have hk0 : ((k : Int) == 0) = false := by rw [beq_eq_false_iff_ne]; omega
        have hkl : ((k : Int) == (s.size : Int) - 1) = false := by rw [beq_eq_false_iff_ne]; omega
        have HK := Lib.hid (show hokB (sb s) k = true by have hl9 := HL.out; simp [hokB, hc, signI, q0, hostI]; omega)
        clear hc
        go_wp2_with (first | (go_at_call 47; refine (ref_small_is _ _ _ HSm.out).mono ?_; rintro e w' ⟨rfl, rfl⟩) | (go_at_call 49; refine (ref_great_is _ _ _ HGr.out).mono ?_; rintro e w' ⟨rfl, rfl⟩) | (go_at_call 43; refine (ref_digit_is _ _ _ HDi.out).mono ?_; rintro e w' ⟨rfl, rfl⟩))
        refine ⟨⟨k + 1, by omega, by go_num, fun j hj => ?_⟩, by simp [intOf]; omega⟩
        rcases Nat.lt_or_ge j k with h | h
        · exact H.out j h
        · obtain rfl : j = k := by omega
          exact HK.out
      have hc45 := hc; clear hc
      have hc : True := trivial
      cases hcs : smlI (at0 (sb s) k) <;> cases hcg : grtI (at0 (sb s) k) <;> cases hcd : digI (at0 (sb s) k)
      · have hb46 : (((s[k]'hlt).toNat : Int) == 46) = false := by rw [← HA.out, beq_eq_false_iff_ne]; exact hc46
        have hb45 : (((s[k]'hlt).toNat : Int) == 45) = false := by rw [← HA.out, beq_eq_false_iff_ne]; exact hc45
        have HSm := Lib.hid (show smlI ((s[k]'hlt).toNat : Int) = false by rw [← HA.out]; exact hcs)
        have HGr := Lib.hid (show grtI ((s[k]'hlt).toNat : Int) = false by rw [← HA.out]; exact hcg)
        have HDi := Lib.hid (show digI ((s[k]'hlt).toNat : Int) = false by rw [← HA.out]; exact hcd)
        have HX := Lib.hid (And.intro hcs (And.intro hcg (And.intro hcd (And.intro hc46 hc45)))); clear hcs hcg hcd hc46 hc45
        have HK := Lib.hid (show hokB (sb s) k = false by obtain ⟨x1, x2, x3, x4, x5⟩ := HX.out; simp [hokB, hostI, signI, x1, x2, x3, x4, x5])
        clear hc
        go_wp2_with (first | (go_at_call 47; refine (ref_small_is _ _ _ HSm.out).mono ?_; rintro e w' ⟨rfl, rfl⟩) | (go_at_call 49; refine (ref_great_is _ _ _ HGr.out).mono ?_; rintro e w' ⟨rfl, rfl⟩) | (go_at_call 43; refine (ref_digit_is _ _ _ HDi.out).mono ?_; rintro e w' ⟨rfl, rfl⟩))
        go_ret
        refine ⟨?_, rfl⟩
        have : hostL (sb s) = false := by
          cases h : hostL (sb s)
          · rfl
          · have := HI.out.1 h k hlk; rw [HK.out] at this; cases this
        rw [this]; rfl
      · have hb46 : (((s[k]'hlt).toNat : Int) == 46) = false := by rw [← HA.out, beq_eq_false_iff_ne]; exact hc46
        have hb45 : (((s[k]'hlt).toNat : Int) == 45) = false := by rw [← HA.out, beq_eq_false_iff_ne]; exact hc45
        have HSm := Lib.hid (show smlI ((s[k]'hlt).toNat : Int) = false by rw [← HA.out]; exact hcs)
        have HGr := Lib.hid (show grtI ((s[k]'hlt).toNat : Int) = false by rw [← HA.out]; exact hcg)
        have HDi := Lib.hid (show digI ((s[k]'hlt).toNat : Int) = true by rw [← HA.out]; exact hcd)
        have HX := Lib.hid (And.intro hcs (And.intro hcg (And.intro hcd (And.intro hc46 hc45)))); clear hcs hcg hcd hc46 hc45
        have HK := Lib.hid (show hokB (sb s) k = true by obtain ⟨x1, x2, x3, x4, x5⟩ := HX.out; simp [hokB, hostI, signI, x1, x2, x3, x4, x5])
        clear hc
        go_wp2_with (first | (go_at_call 47; refine (ref_small_is _ _ _ HSm.out).mono ?_; rintro e w' ⟨rfl, rfl⟩) | (go_at_call 49; refine (ref_great_is _ _ _ HGr.out).mono ?_; rintro e w' ⟨rfl, rfl⟩) | (go_at_call 43; refine (ref_digit_is _ _ _ HDi.out).mono ?_; rintro e w' ⟨rfl, rfl⟩))
        refine ⟨⟨k + 1, by omega, by go_num, fun j hj => ?_⟩, by simp [intOf]; omega⟩
        rcases Nat.lt_or_ge j k with h | h
        · exact H.out j h
        · obtain rfl : j = k := by omega
          exact HK.out
      · have hb46 : (((s[k]'hlt).toNat : Int) == 46) = false := by rw [← HA.out, beq_eq_false_iff_ne]; exact hc46
        have hb45 : (((s[k]'hlt).toNat : Int) == 45) = false := by rw [← HA.out, beq_eq_false_iff_ne]; exact hc45
        have HSm := Lib.hid (show smlI ((s[k]'hlt).toNat : Int) = false by rw [← HA.out]; exact hcs)
        have HGr := Lib.hid (show grtI ((s[k]'hlt).toNat : Int) = true by rw [← HA.out]; exact hcg)
        have HDi := Lib.hid (show digI ((s[k]'hlt).toNat : Int) = false by rw [← HA.out]; exact hcd)
        have HX := Lib.hid (And.intro hcs (And.intro hcg (And.intro hcd (And.intro hc46 hc45)))); clear hcs hcg hcd hc46 hc45
        have HK := Lib.hid (show hokB (sb s) k = true by obtain ⟨x1, x2, x3, x4, x5⟩ := HX.out; simp [hokB, hostI, signI, x1, x2, x3, x4, x5])
        clear hc
        go_wp2_with (first | (go_at_call 47; refine (ref_small_is _ _ _ HSm.out).mono ?_; rintro e w' ⟨rfl, rfl⟩) | (go_at_call 49; refine (ref_great_is _ _ _ HGr.out).mono ?_; rintro e w' ⟨rfl, rfl⟩) | (go_at_call 43; refine (ref_digit_is _ _ _ HDi.out).mono ?_; rintro e w' ⟨rfl, rfl⟩))
        refine ⟨⟨k + 1, by omega, by go_num, fun j hj => ?_⟩, by simp [intOf]; omega⟩
        rcases Nat.lt_or_ge j k with h | h
        · exact H.out j h
        · obtain rfl : j = k := by omega
          exact HK.out
      · have hb46 : (((s[k]'hlt).toNat : Int) == 46) = false := by rw [← HA.out, beq_eq_false_iff_ne]; exact hc46
        have hb45 : (((s[k]'hlt).toNat : Int) == 45) = false := by rw [← HA.out, beq_eq_false_iff_ne]; exact hc45
        have HSm := Lib.hid (show smlI ((s[k]'hlt).toNat : Int) = false by rw [← HA.out]; exact hcs)
        have HGr := Lib.hid (show grtI ((s[k]'hlt).toNat : Int) = true by rw [← HA.out]; exact hcg)
        have HDi := Lib.hid (show digI ((s[k]'hlt).toNat : Int) = true by rw [← HA.out]; exact hcd)
        have HX := Lib.hid (And.intro hcs (And.intro hcg (And.intro hcd (And.intro hc46 hc45)))); clear hcs hcg hcd hc46 hc45
        have HK := Lib.hid (show hokB (sb s) k = true by obtain ⟨x1, x2, x3, x4, x5⟩ := HX.out; simp [hokB, hostI, signI, x1, x2, x3, x4, x5])
        clear hc
        go_wp2_with (first | (go_at_call 47; refine (ref_small_is _ _ _ HSm.out).mono ?_; rintro e w' ⟨rfl, rfl⟩) | (go_at_call 49; refine (ref_great_is _ _ _ HGr.out).mono ?_; rintro e w' ⟨rfl, rfl⟩) | (go_at_call 43; refine (ref_digit_is _ _ _ HDi.out).mono ?_; rintro e w' ⟨rfl, rfl⟩))
        refine ⟨⟨k + 1, by omega, by go_num, fun j hj => ?_⟩, by simp [intOf]; omega⟩
        rcases Nat.lt_or_ge j k with h | h
        · exact H.out j h
        · obtain rfl : j = k := by omega
          exact HK.out
      · have hb46 : (((s[k]'hlt).toNat : Int) == 46) = false := by rw [← HA.out, beq_eq_false_iff_ne]; exact hc46
        have hb45 : (((s[k]'hlt).toNat : Int) == 45) = false := by rw [← HA.out, beq_eq_false_iff_ne]; exact hc45
        have HSm := Lib.hid (show smlI ((s[k]'hlt).toNat : Int) = true by rw [← HA.out]; exact hcs)
        have HGr := Lib.hid (show grtI ((s[k]'hlt).toNat : Int) = false by rw [← HA.out]; exact hcg)
        have HDi := Lib.hid (show digI ((s[k]'hlt).toNat : Int) = false by rw [← HA.out]; exact hcd)
        have HX := Lib.hid (And.intro hcs (And.intro hcg (And.intro hcd (And.intro hc46 hc45)))); clear hcs hcg hcd hc46 hc45
        have HK := Lib.hid (show hokB (sb s) k = true by obtain ⟨x1, x2, x3, x4, x5⟩ := HX.out; simp [hokB, hostI, signI, x1, x2, x3, x4, x5])
        clear hc
        go_wp2_with (first | (go_at_call 47; refine (ref_small_is _ _ _ HSm.out).mono ?_; rintro e w' ⟨rfl, rfl⟩) | (go_at_call 49; refine (ref_great_is _ _ _ HGr.out).mono ?_; rintro e w' ⟨rfl, rfl⟩) | (go_at_call 43; refine (ref_digit_is _ _ _ HDi.out).mono ?_; rintro e w' ⟨rfl, rfl⟩))
        refine ⟨⟨k + 1, by omega, by go_num, fun j hj => ?_⟩, by simp [intOf]; omega⟩
        rcases Nat.lt_or_ge j k with h | h
        · exact H.out j h
        · obtain rfl : j = k := by omega
          exact HK.out
      · have hb46 : (((s[k]'hlt).toNat : Int) == 46) = false := by rw [← HA.out, beq_eq_false_iff_ne]; exact hc46
        have hb45 : (((s[k]'hlt).toNat : Int) == 45) = false := by rw [← HA.out, beq_eq_false_iff_ne]; exact hc45
        have HSm := Lib.hid (show smlI ((s[k]'hlt).toNat : Int) = true by rw [← HA.out]; exact hcs)
        have HGr := Lib.hid (show grtI ((s[k]'hlt).toNat : Int) = false by rw [← HA.out]; exact hcg)
        have HDi := Lib.hid (show digI ((s[k]'hlt).toNat : Int) = true by rw [← HA.out]; exact hcd)
        have HX := Lib.hid (And.intro hcs (And.intro hcg (And.intro hcd (And.intro hc46 hc45)))); clear hcs hcg hcd hc46 hc45
        have HK := Lib.hid (show hokB (sb s) k = true by obtain ⟨x1, x2, x3, x4, x5⟩ := HX.out; simp [hokB, hostI, signI, x1, x2, x3, x4, x5])
        clear hc
        go_wp2_with (first | (go_at_call 47; refine (ref_small_is _ _ _ HSm.out).mono ?_; rintro e w' ⟨rfl, rfl⟩) | (go_at_call 49; refine (ref_great_is _ _ _ HGr.out).mono ?_; rintro e w' ⟨rfl, rfl⟩) | (go_at_call 43; refine (ref_digit_is _ _ _ HDi.out).mono ?_; rintro e w' ⟨rfl, rfl⟩))
        refine ⟨⟨k + 1, by omega, by go_num, fun j hj => ?_⟩, by simp [intOf]; omega⟩
        rcases Nat.lt_or_ge j k with h | h
        · exact H.out j h
        · obtain rfl : j = k := by omega
          exact HK.out
      · have hb46 : (((s[k]'hlt).toNat : Int) == 46) = false := by rw [← HA.out, beq_eq_false_iff_ne]; exact hc46
        have hb45 : (((s[k]'hlt).toNat : Int) == 45) = false := by rw [← HA.out, beq_eq_false_iff_ne]; exact hc45
        have HSm := Lib.hid (show smlI ((s[k]'hlt).toNat : Int) = true by rw [← HA.out]; exact hcs)
        have HGr := Lib.hid (show grtI ((s[k]'hlt).toNat : Int) = true by rw [← HA.out]; exact hcg)
        have HDi := Lib.hid (show digI ((s[k]'hlt).toNat : Int) = false by rw [← HA.out]; exact hcd)
        have HX := Lib.hid (And.intro hcs (And.intro hcg (And.intro hcd (And.intro hc46 hc45)))); clear hcs hcg hcd hc46 hc45
        have HK := Lib.hid (show hokB (sb s) k = true by obtain ⟨x1, x2, x3, x4, x5⟩ := HX.out; simp [hokB, hostI, signI, x1, x2, x3, x4, x5])
        clear hc
        go_wp2_with (first | (go_at_call 47; refine (ref_small_is _ _ _ HSm.out).mono ?_; rintro e w' ⟨rfl, rfl⟩) | (go_at_call 49; refine (ref_great_is _ _ _ HGr.out).mono ?_; rintro e w' ⟨rfl, rfl⟩) | (go_at_call 43; refine (ref_digit_is _ _ _ HDi.out).mono ?_; rintro e w' ⟨rfl, rfl⟩))
        refine ⟨⟨k + 1, by omega, by go_num, fun j hj => ?_⟩, by simp [intOf]; omega⟩
        rcases Nat.lt_or_ge j k with h | h
        · exact H.out j h
        · obtain rfl : j = k := by omega
          exact HK.out
      · have hb46 : (((s[k]'hlt).toNat : Int) == 46) = false := by rw [← HA.out, beq_eq_false_iff_ne]; exact hc46
        have hb45 : (((s[k]'hlt).toNat : Int) == 45) = false := by rw [← HA.out, beq_eq_false_iff_ne]; exact hc45
        have HSm := Lib.hid (show smlI ((s[k]'hlt).toNat : Int) = true by rw [← HA.out]; exact hcs)
        have HGr := Lib.hid (show grtI ((s[k]'hlt).toNat : Int) = true by rw [← HA.out]; exact hcg)
        have HDi := Lib.hid (show digI ((s[k]'hlt).toNat : Int) = true by rw [← HA.out]; exact hcd)
        have HX := Lib.hid (And.intro hcs (And.intro hcg (And.intro hcd (And.intro hc46 hc45)))); clear hcs hcg hcd hc46 hc45
        have HK := Lib.hid (show hokB (sb s) k = true by obtain ⟨x1, x2, x3, x4, x5⟩ := HX.out; simp [hokB, hostI, signI, x1, x2, x3, x4, x5])
        clear hc
        go_wp2_with (first | (go_at_call 47; refine (ref_small_is _ _ _ HSm.out).mono ?_; rintro e w' ⟨rfl, rfl⟩) | (go_at_call 49; refine (ref_great_is _ _ _ HGr.out).mono ?_; rintro e w' ⟨rfl, rfl⟩) | (go_at_call 43; refine (ref_digit_is _ _ _ HDi.out).mono ?_; rintro e w' ⟨rfl, rfl⟩))
        refine ⟨⟨k + 1, by omega, by go_num, fun j hj => ?_⟩, by simp [intOf]; omega⟩
        rcases Nat.lt_or_ge j k with h | h
        · exact H.out j h
        · obtain rfl : j = k := by omega
          exact HK.out
    · go_wp2
      go_ret
      refine ⟨?_, rfl⟩
      have : hostL (sb s) = true := HI.out.2 (fun i hi => H.out i (by have := HL.out; omega))
      rw [this]; rfl
end Go.Proofs.YtibkkdbjmcongaaDoor
