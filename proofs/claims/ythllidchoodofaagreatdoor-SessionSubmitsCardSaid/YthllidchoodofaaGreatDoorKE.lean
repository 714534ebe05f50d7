/- Layer 5 (ids): the reference's hosts. Layer 5 (ids): the reference's names of servers, users, rooms, events; and their parts. Layer 5 (ids): the reference's names of users and rooms. Layer 5 (ids): the reference's names of users, rooms, events; their parts. Layer 6 (address): the reference's telephone numbers. Layer 6 (address): the reference's telephone numbers where no country is told. Layer 6 (address): the reference's countries; the law on telephone numbers. Layer 6 (address): the reference's email addresses. Layer 6 (address): the reference's local parts. Layer 6 (address): the reference's email addresses; the law on them. The reference of sessions: Right, Prune, Find. The reference of sessions: Find, place, Submit, Shown. -/
import Derived.IntWalk
import Derived.Test.YthllidchoodofaaGreatDoorKD
namespace Go.Proofs.YthllidchoodofaaGreatDoor
open Go.RowKit
set_option linter.unusedVariables false

/-- May this byte stand in this place of a host? -/
def hokB (l : List Int) (i : Nat) : Bool := hostI (at0 l i) && !(signI (at0 l i) && (i == 0 || i + 1 == l.length || (at0 l i == 46 && at0 l (i - 1) == 46)))
theorem dots_iff (l : List Int) : dotsI l = true ↔ ∃ j, j + 1 < l.length ∧ at0 l j = 46 ∧ at0 l (j + 1) = 46 := by
  induction l with
  | nil => simp [dotsI]
  | cons x r ih =>
    rw [dotsI, Bool.or_eq_true, ih]
    constructor
    · rintro (h | ⟨j, h1, h2, h3⟩)
      · simp only [Bool.and_eq_true, beq_iff_eq] at h
        cases r with
        | nil => simp at h
        | cons y r =>
          simp only [List.head?_cons, Option.some.injEq] at h
          exact ⟨0, by simp only [List.length_cons]; omega, by rw [at0_cons_zero]; exact h.1, by rw [at0_cons_succ, at0_cons_zero]; exact h.2⟩
      · exact ⟨j + 1, by simp only [List.length_cons]; omega, by rw [at0_cons_succ]; exact h2, by rw [at0_cons_succ]; exact h3⟩
    · rintro ⟨j, h1, h2, h3⟩
      cases j with
      | zero =>
        left
        cases r with
        | nil => simp at h1
        | cons y r =>
          rw [at0_cons_zero] at h2
          rw [at0_cons_succ, at0_cons_zero] at h3
          simp [h2, h3]
      | succ j =>
        right
        rw [at0_cons_succ] at h2 h3
        exact ⟨j, by simp at h1; omega, h2, h3⟩
theorem last_at (l : List Int) (h : 0 < l.length) : l.getLast? = some (at0 l (l.length - 1)) := by
  rw [List.getLast?_eq_getElem?, at0_lt (by omega), List.getElem?_eq_getElem (by omega)]
theorem host_iff (l : List Int) (h1 : 1 ≤ l.length) (h2 : l.length ≤ 230) : hostL l = true ↔ ∀ i, i < l.length → hokB l i = true := by
  have hm : madeI l 230 hostI = l.all hostI := made_yes l 230 hostI h1 (by omega)
  rw [hostL, hm, edgesI, head_at l (by omega), last_at l (by omega)]
  simp only [Bool.and_eq_true, List.all_eq_true, Bool.not_eq_true', Option.any_some]
  constructor
  · rintro ⟨ha, hd, h0, hl⟩ i hi
    unfold hokB
    rw [ha _ (at0_mem hi), Bool.true_and, Bool.not_eq_true']
    cases hs : signI (at0 l i)
    · rfl
    · simp only [Bool.true_and, Bool.or_eq_false_iff, beq_eq_false_iff_ne]
      refine ⟨⟨?_, ?_⟩, ?_⟩
      · rintro rfl; rw [h0] at hs; cases hs
      · intro e
        rw [show l.length - 1 = i by omega] at hl
        rw [hl] at hs; cases hs
      · rw [Bool.and_eq_false_iff]
        by_cases e : at0 l i = 46
        · right
          rw [beq_eq_false_iff_ne]
          intro e2
          have hi0 : i ≠ 0 := by rintro rfl; rw [h0] at hs; cases hs
          have : dotsI l = true := (dots_iff l).2 ⟨i - 1, by omega, e2, by rw [show i - 1 + 1 = i by omega]; exact e⟩
          rw [this] at hd; cases hd
        · left; rw [beq_eq_false_iff_ne]; exact e
  · intro h
    have key : ∀ i, i < l.length → hostI (at0 l i) = true ∧ (signI (at0 l i) = true → i ≠ 0 ∧ i + 1 ≠ l.length ∧ ¬ (at0 l i = 46 ∧ at0 l (i - 1) = 46)) := by
      intro i hi
      have := h i hi
      unfold hokB at this
      simp only [Bool.and_eq_true, Bool.not_eq_true', Bool.and_eq_false_iff, Bool.or_eq_false_iff, beq_eq_false_iff_ne] at this
      refine ⟨this.1, fun hs => ?_⟩
      rcases this.2 with e | ⟨⟨a, b⟩, c⟩
      · rw [hs] at e; cases e
      · refine ⟨a, b, fun ⟨d, e⟩ => ?_⟩
        rcases c with c | c
        · exact c d
        · exact c e
    refine ⟨fun x hx => ?_, ?_, ?_, ?_⟩
    · obtain ⟨j, hj, rfl⟩ := List.getElem_of_mem hx
      rw [← at0_lt hj]; exact (key j hj).1
    · cases hd : dotsI l
      · rfl
      · obtain ⟨j, j1, j2, j3⟩ := (dots_iff l).1 hd
        have := (key (j + 1) j1).2 (by rw [j3]; decide)
        exact (this.2.2 ⟨j3, by simpa using j2⟩).elim
    · cases hs : signI (at0 l 0)
      · rfl
      · exact (((key 0 (by omega)).2 hs).1 rfl).elim
    · cases hs : signI (at0 l (l.length - 1))
      · rfl
      · exact (((key (l.length - 1) (by omega)).2 hs).2.1 (by omega)).elim
theorem ref_digit_is (c : Int) (b : Bool) (w : World) (h : digI c = b) : Calls Tryz.prog 82 #[.int .u8 c] w fun e w' => e = .returned (.bool b) ∧ w = w' := by rw [← h]; exact ref_digit_any c w
theorem ref_small_is (c : Int) (b : Bool) (w : World) (h : smlI c = b) : Calls Tryz.prog 80 #[.int .u8 c] w fun e w' => e = .returned (.bool b) ∧ w = w' := by rw [← h]; exact ref_small_any c w
theorem ref_great_is (c : Int) (b : Bool) (w : World) (h : grtI c = b) : Calls Tryz.prog 81 #[.int .u8 c] w fun e w' => e = .returned (.bool b) ∧ w = w' := by rw [← h]; exact ref_great_any c w
set_option maxHeartbeats 1000000 in
theorem ref_host_any (s : ByteArray) (w : World) (hs : s.size ≤ maxLen) :
    Calls Tryz.prog 62 #[.string s] w fun e w' => e = .returned (.bool (hostL (sb s))) ∧ w = w' := by
  unfold maxLen at hs
  have hl := sb_length s
  by_cases g1 : (s.size : Int) < 1
  · have HF := Lib.hid (show hostL (sb s) = false by rw [hostL, made_no _ _ _ (by omega)]; rfl)
    clear hl
    go_enter Tryz.func62, Tryz.ntmps62
    go_wp2
    go_ret
    exact ⟨by rw [HF.out]; rfl, rfl⟩
  by_cases g2 : (230 : Int) < (s.size : Int)
  · have HF := Lib.hid (show hostL (sb s) = false by rw [hostL, made_no _ _ _ (by omega)]; rfl)
    clear hl
    go_enter Tryz.func62, Tryz.ntmps62
    go_wp2
    go_ret
    exact ⟨by rw [HF.out]; rfl, rfl⟩
  have HI := Lib.hid (host_iff (sb s) (by omega) (by omega))
  have HL := Lib.hid hl; clear hl
  go_enter Tryz.func62, Tryz.ntmps62
  go_wp2
  go_loop [3] (fun i => ∃ k : Nat, k ≤ s.size ∧ i = .int .i64 k ∧ ∀ j, j < k → hokB (sb s) j = true) (fun i => s.size - (intOf i).toNat)
  case atStart => exact ⟨0, Nat.zero_le _, rfl, fun j h => by omega⟩
  case round =>
    obtain ⟨k, hk, rfl, hall⟩ := hrel
    have H := Lib.hid hall; clear hall
    by_cases hlt : k < s.size
    · have hlk : k < (sb s).length := by have := HL.out; omega
      have hat := at0_sb s k hlt
      have HA := Lib.hid hat; clear hat
      have c0 := (s[k]'hlt).toNat_lt
      by_cases hc : at0 (sb s) k = 46
      · by_cases q0 : k = 0
        · have hb46 : (((s[k]'hlt).toNat : Int) == 46) = true := by rw [← HA.out]; first | rw [hc]; rfl | (rw [beq_eq_false_iff_ne]; omega)
          have hb45 : (((s[k]'hlt).toNat : Int) == 45) = false := by rw [← HA.out]; first | rw [hc]; rfl | (rw [beq_eq_false_iff_ne]; omega)
          have HSm := Lib.hid (show smlI ((s[k]'hlt).toNat : Int) = false by rw [← HA.out]; first | (rw [hc]; decide) | exact hcs)
          have HGr := Lib.hid (show grtI ((s[k]'hlt).toNat : Int) = false by rw [← HA.out]; first | (rw [hc]; decide) | exact hcg)
          have HDi := Lib.hid (show digI ((s[k]'hlt).toNat : Int) = false by rw [← HA.out]; first | (rw [hc]; decide) | exact hcd)
          have hk0 : ((k : Int) == 0) = true := by rw [beq_iff_eq]; omega
          have HK := Lib.hid (show hokB (sb s) k = false by rw [hokB, hc, q0]; simp [signI])
          clear hc q0
          go_wp2_with (first | (go_at_call 80; refine (ref_small_is _ _ _ HSm.out).mono ?_; rintro e w' ⟨rfl, rfl⟩) | (go_at_call 81; refine (ref_great_is _ _ _ HGr.out).mono ?_; rintro e w' ⟨rfl, rfl⟩) | (go_at_call 82; refine (ref_digit_is _ _ _ HDi.out).mono ?_; rintro e w' ⟨rfl, rfl⟩))
          go_ret
          refine ⟨?_, rfl⟩
          have : hostL (sb s) = false := by
            cases h : hostL (sb s)
            · rfl
            · have := HI.out.1 h k hlk; rw [HK.out] at this; cases this
          rw [this]; rfl
        by_cases q1 : k + 1 = s.size
        · have hb46 : (((s[k]'hlt).toNat : Int) == 46) = true := by rw [← HA.out]; first | rw [hc]; rfl | (rw [beq_eq_false_iff_ne]; omega)
          have hb45 : (((s[k]'hlt).toNat : Int) == 45) = false := by rw [← HA.out]; first | rw [hc]; rfl | (rw [beq_eq_false_iff_ne]; omega)
          have HSm := Lib.hid (show smlI ((s[k]'hlt).toNat : Int) = false by rw [← HA.out]; first | (rw [hc]; decide) | exact hcs)
          have HGr := Lib.hid (show grtI ((s[k]'hlt).toNat : Int) = false by rw [← HA.out]; first | (rw [hc]; decide) | exact hcg)
          have HDi := Lib.hid (show digI ((s[k]'hlt).toNat : Int) = false by rw [← HA.out]; first | (rw [hc]; decide) | exact hcd)
          have hk0 : ((k : Int) == 0) = false := by rw [beq_eq_false_iff_ne]; omega
          have hkl : ((k : Int) == (s.size : Int) - 1) = true := by rw [beq_iff_eq]; omega
          have HK := Lib.hid (show hokB (sb s) k = false by rw [hokB, hc, show k + 1 = (sb s).length by have := HL.out; omega]; simp [signI])
          clear hc
          go_wp2_with (first | (go_at_call 80; refine (ref_small_is _ _ _ HSm.out).mono ?_; rintro e w' ⟨rfl, rfl⟩) | (go_at_call 81; refine (ref_great_is _ _ _ HGr.out).mono ?_; rintro e w' ⟨rfl, rfl⟩) | (go_at_call 82; refine (ref_digit_is _ _ _ HDi.out).mono ?_; rintro e w' ⟨rfl, rfl⟩))
          go_ret
          refine ⟨?_, rfl⟩
          have : hostL (sb s) = false := by
            cases h : hostL (sb s)
            · rfl
            · have := HI.out.1 h k hlk; rw [HK.out] at this; cases this
          rw [this]; rfl
        have hp := at0_sb s (k - 1) (by omega)
        have HP := Lib.hid hp; clear hp
        have hi1 : (1 : Int) ≤ k := by omega
        have hi2 : (k : Int) - 1 < s.size := by omega
        have hi3 : ((k : Int) - 1).toNat = k - 1 := by omega
        by_cases q2 : at0 (sb s) (k - 1) = 46
        · have hb46 : (((s[k]'hlt).toNat : Int) == 46) = true := by rw [← HA.out]; first | rw [hc]; rfl | (rw [beq_eq_false_iff_ne]; omega)
          have hb45 : (((s[k]'hlt).toNat : Int) == 45) = false := by rw [← HA.out]; first | rw [hc]; rfl | (rw [beq_eq_false_iff_ne]; omega)
          have HSm := Lib.hid (show smlI ((s[k]'hlt).toNat : Int) = false by rw [← HA.out]; first | (rw [hc]; decide) | exact hcs)
          have HGr := Lib.hid (show grtI ((s[k]'hlt).toNat : Int) = false by rw [← HA.out]; first | (rw [hc]; decide) | exact hcg)
          have HDi := Lib.hid (show digI ((s[k]'hlt).toNat : Int) = false by rw [← HA.out]; first | (rw [hc]; decide) | exact hcd)
          have hk0 : ((k : Int) == 0) = false := by rw [beq_eq_false_iff_ne]; omega
          have hkl : ((k : Int) == (s.size : Int) - 1) = false := by rw [beq_eq_false_iff_ne]; omega
          have hb9 : (((s[k - 1]'(by omega)).toNat : Int) == 46) = true := by rw [← HP.out, q2]; rfl
          have HK := Lib.hid (show hokB (sb s) k = false by rw [hokB, hc, q2]; simp [signI])
          clear hc
          go_wp2_with (first | (go_at_call 80; refine (ref_small_is _ _ _ HSm.out).mono ?_; rintro e w' ⟨rfl, rfl⟩) | (go_at_call 81; refine (ref_great_is _ _ _ HGr.out).mono ?_; rintro e w' ⟨rfl, rfl⟩) | (go_at_call 82; refine (ref_digit_is _ _ _ HDi.out).mono ?_; rintro e w' ⟨rfl, rfl⟩))
          go_ret
          refine ⟨?_, rfl⟩
          have : hostL (sb s) = false := by
            cases h : hostL (sb s)
            · rfl
            · have := HI.out.1 h k hlk; rw [HK.out] at this; cases this
          rw [this]; rfl
        · have hb46 : (((s[k]'hlt).toNat : Int) == 46) = true := by rw [← HA.out]; first | rw [hc]; rfl | (rw [beq_eq_false_iff_ne]; omega)
          have hb45 : (((s[k]'hlt).toNat : Int) == 45) = false := by rw [← HA.out]; first | rw [hc]; rfl | (rw [beq_eq_false_iff_ne]; omega)
          have HSm := Lib.hid (show smlI ((s[k]'hlt).toNat : Int) = false by rw [← HA.out]; first | (rw [hc]; decide) | exact hcs)
          have HGr := Lib.hid (show grtI ((s[k]'hlt).toNat : Int) = false by rw [← HA.out]; first | (rw [hc]; decide) | exact hcg)
          have HDi := Lib.hid (show digI ((s[k]'hlt).toNat : Int) = false by rw [← HA.out]; first | (rw [hc]; decide) | exact hcd)
          have hk0 : ((k : Int) == 0) = false := by rw [beq_eq_false_iff_ne]; omega
          have hkl : ((k : Int) == (s.size : Int) - 1) = false := by rw [beq_eq_false_iff_ne]; omega
          have hb9 : (((s[k - 1]'(by omega)).toNat : Int) == 46) = false := by rw [← HP.out, beq_eq_false_iff_ne]; exact q2
          have HK := Lib.hid (show hokB (sb s) k = true by have hl9 := HL.out; simp [hokB, hc, q2, signI, q0, hostI]; omega)
          clear hc
          go_wp2_with (first | (go_at_call 80; refine (ref_small_is _ _ _ HSm.out).mono ?_; rintro e w' ⟨rfl, rfl⟩) | (go_at_call 81; refine (ref_great_is _ _ _ HGr.out).mono ?_; rintro e w' ⟨rfl, rfl⟩) | (go_at_call 82; refine (ref_digit_is _ _ _ HDi.out).mono ?_; rintro e w' ⟨rfl, rfl⟩))
          refine ⟨⟨k + 1, by omega, by go_num, fun j hj => ?_⟩, by simp [intOf]; omega⟩
          rcases Nat.lt_or_ge j k with h | h
          · exact H.out j h
          · obtain rfl : j = k := by omega
            exact HK.out
      have hc46 := hc; clear hc
      by_cases hc : at0 (sb s) k = 45
      · by_cases q0 : k = 0
        · have hb46 : (((s[k]'hlt).toNat : Int) == 46) = false := by rw [← HA.out]; first | rw [hc]; rfl | (rw [beq_eq_false_iff_ne]; omega)
          have hb45 : (((s[k]'hlt).toNat : Int) == 45) = true := by rw [← HA.out]; first | rw [hc]; rfl | (rw [beq_eq_false_iff_ne]; omega)
          have HSm := Lib.hid (show smlI ((s[k]'hlt).toNat : Int) = false by rw [← HA.out]; first | (rw [hc]; decide) | exact hcs)
          have HGr := Lib.hid (show grtI ((s[k]'hlt).toNat : Int) = false by rw [← HA.out]; first | (rw [hc]; decide) | exact hcg)
          have HDi := Lib.hid (show digI ((s[k]'hlt).toNat : Int) = false by rw [← HA.out]; first | (rw [hc]; decide) | exact hcd)
          have hk0 : ((k : Int) == 0) = true := by rw [beq_iff_eq]; omega
          have HK := Lib.hid (show hokB (sb s) k = false by rw [hokB, hc, q0]; simp [signI])
          clear hc q0
          go_wp2_with (first | (go_at_call 80; refine (ref_small_is _ _ _ HSm.out).mono ?_; rintro e w' ⟨rfl, rfl⟩) | (go_at_call 81; refine (ref_great_is _ _ _ HGr.out).mono ?_; rintro e w' ⟨rfl, rfl⟩) | (go_at_call 82; refine (ref_digit_is _ _ _ HDi.out).mono ?_; rintro e w' ⟨rfl, rfl⟩))
          go_ret
          refine ⟨?_, rfl⟩
          have : hostL (sb s) = false := by
            cases h : hostL (sb s)
            · rfl
            · have := HI.out.1 h k hlk; rw [HK.out] at this; cases this
          rw [this]; rfl
        by_cases q1 : k + 1 = s.size
        · have hb46 : (((s[k]'hlt).toNat : Int) == 46) = false := by rw [← HA.out]; first | rw [hc]; rfl | (rw [beq_eq_false_iff_ne]; omega)
          have hb45 : (((s[k]'hlt).toNat : Int) == 45) = true := by rw [← HA.out]; first | rw [hc]; rfl | (rw [beq_eq_false_iff_ne]; omega)
          have HSm := Lib.hid (show smlI ((s[k]'hlt).toNat : Int) = false by rw [← HA.out]; first | (rw [hc]; decide) | exact hcs)
          have HGr := Lib.hid (show grtI ((s[k]'hlt).toNat : Int) = false by rw [← HA.out]; first | (rw [hc]; decide) | exact hcg)
          have HDi := Lib.hid (show digI ((s[k]'hlt).toNat : Int) = false by rw [← HA.out]; first | (rw [hc]; decide) | exact hcd)
          have hk0 : ((k : Int) == 0) = false := by rw [beq_eq_false_iff_ne]; omega
          have hkl : ((k : Int) == (s.size : Int) - 1) = true := by rw [beq_iff_eq]; omega
          have HK := Lib.hid (show hokB (sb s) k = false by rw [hokB, hc, show k + 1 = (sb s).length by have := HL.out; omega]; simp [signI])
          clear hc
          go_wp2_with (first | (go_at_call 80; refine (ref_small_is _ _ _ HSm.out).mono ?_; rintro e w' ⟨rfl, rfl⟩) | (go_at_call 81; refine (ref_great_is _ _ _ HGr.out).mono ?_; rintro e w' ⟨rfl, rfl⟩) | (go_at_call 82; refine (ref_digit_is _ _ _ HDi.out).mono ?_; rintro e w' ⟨rfl, rfl⟩))
          go_ret
          refine ⟨?_, rfl⟩
          have : hostL (sb s) = false := by
            cases h : hostL (sb s)
            · rfl
            · have := HI.out.1 h k hlk; rw [HK.out] at this; cases this
          rw [this]; rfl
        have hb46 : (((s[k]'hlt).toNat : Int) == 46) = false := by rw [← HA.out]; first | rw [hc]; rfl | (rw [beq_eq_false_iff_ne]; omega)
        have hb45 : (((s[k]'hlt).toNat : Int) == 45) = true := by rw [← HA.out]; first | rw [hc]; rfl | (rw [beq_eq_false_iff_ne]; omega)
        have HSm := Lib.hid (show smlI ((s[k]'hlt).toNat : Int) = false by rw [← HA.out]; first | (rw [hc]; decide) | exact hcs)
        have HGr := Lib.hid (show grtI ((s[k]'hlt).toNat : Int) = false by rw [← HA.out]; first | (rw [hc]; decide) | exact hcg)
        have HDi := Lib.hid (show digI ((s[k]'hlt).toNat : Int) = false by rw [← HA.out]; first | (rw [hc]; decide) | exact hcd)
        have hk0 : ((k : Int) == 0) = false := by rw [beq_eq_false_iff_ne]; omega
        have hkl : ((k : Int) == (s.size : Int) - 1) = false := by rw [beq_eq_false_iff_ne]; omega
        have HK := Lib.hid (show hokB (sb s) k = true by have hl9 := HL.out; simp [hokB, hc, signI, q0, hostI]; omega)
        clear hc
        go_wp2_with (first | (go_at_call 80; refine (ref_small_is _ _ _ HSm.out).mono ?_; rintro e w' ⟨rfl, rfl⟩) | (go_at_call 81; refine (ref_great_is _ _ _ HGr.out).mono ?_; rintro e w' ⟨rfl, rfl⟩) | (go_at_call 82; refine (ref_digit_is _ _ _ HDi.out).mono ?_; rintro e w' ⟨rfl, rfl⟩))
        refine ⟨⟨k + 1, by omega, by go_num, fun j hj => ?_⟩, by simp [intOf]; omega⟩
        rcases Nat.lt_or_ge j k with h | h
        · exact H.out j h
        · obtain rfl : j = k := by omega
          exact HK.out
      have hc45 := hc; clear hc
      have hc : True := trivial
      cases hcs : smlI (at0 (sb s) k) <;> cases hcg : grtI (at0 (sb s) k) <;> cases hcd : digI (at0 (sb s) k)
      · have hb46 : (((s[k]'hlt).toNat : Int) == 46) = false := by rw [← HA.out, beq_eq_false_iff_ne]; exact hc46
        have hb45 : (((s[k]'hlt).toNat : Int) == 45) = false := by rw [← HA.out, beq_eq_false_iff_ne]; exact hc45
        have HSm := Lib.hid (show smlI ((s[k]'hlt).toNat : Int) = false by rw [← HA.out]; exact hcs)
        have HGr := Lib.hid (show grtI ((s[k]'hlt).toNat : Int) = false by rw [← HA.out]; exact hcg)
        have HDi := Lib.hid (show digI ((s[k]'hlt).toNat : Int) = false by rw [← HA.out]; exact hcd)
        have HX := Lib.hid (And.intro hcs (And.intro hcg (And.intro hcd (And.intro hc46 hc45)))); clear hcs hcg hcd hc46 hc45
        have HK := Lib.hid (show hokB (sb s) k = false by obtain ⟨x1, x2, x3, x4, x5⟩ := HX.out; simp [hokB, hostI, signI, x1, x2, x3, x4, x5])
        clear hc
        go_wp2_with (first | (go_at_call 80; refine (ref_small_is _ _ _ HSm.out).mono ?_; rintro e w' ⟨rfl, rfl⟩) | (go_at_call 81; refine (ref_great_is _ _ _ HGr.out).mono ?_; rintro e w' ⟨rfl, rfl⟩) | (go_at_call 82; refine (ref_digit_is _ _ _ HDi.out).mono ?_; rintro e w' ⟨rfl, rfl⟩))
        go_ret
        refine ⟨?_, rfl⟩
        have : hostL (sb s) = false := by
          cases h : hostL (sb s)
          · rfl
          · have := HI.out.1 h k hlk; rw [HK.out] at this; cases this
        rw [this]; rfl
      · have hb46 : (((s[k]'hlt).toNat : Int) == 46) = false := by rw [← HA.out, beq_eq_false_iff_ne]; exact hc46
        have hb45 : (((s[k]'hlt).toNat : Int) == 45) = false := by rw [← HA.out, beq_eq_false_iff_ne]; exact hc45
        have HSm := Lib.hid (show smlI ((s[k]'hlt).toNat : Int) = false by rw [← HA.out]; exact hcs)
        have HGr := Lib.hid (show grtI ((s[k]'hlt).toNat : Int) = false by rw [← HA.out]; exact hcg)
        have HDi := Lib.hid (show digI ((s[k]'hlt).toNat : Int) = true by rw [← HA.out]; exact hcd)
        have HX := Lib.hid (And.intro hcs (And.intro hcg (And.intro hcd (And.intro hc46 hc45)))); clear hcs hcg hcd hc46 hc45
        have HK := Lib.hid (show hokB (sb s) k = true by obtain ⟨x1, x2, x3, x4, x5⟩ := HX.out; simp [hokB, hostI, signI, x1, x2, x3, x4, x5])
        clear hc
        go_wp2_with (first | (go_at_call 80; refine (ref_small_is _ _ _ HSm.out).mono ?_; rintro e w' ⟨rfl, rfl⟩) | (go_at_call 81; refine (ref_great_is _ _ _ HGr.out).mono ?_; rintro e w' ⟨rfl, rfl⟩) | (go_at_call 82; refine (ref_digit_is _ _ _ HDi.out).mono ?_; rintro e w' ⟨rfl, rfl⟩))
        refine ⟨⟨k + 1, by omega, by go_num, fun j hj => ?_⟩, by simp [intOf]; omega⟩
        rcases Nat.lt_or_ge j k with h | h
        · exact H.out j h
        · obtain rfl : j = k := by omega
          exact HK.out
      · have hb46 : (((s[k]'hlt).toNat : Int) == 46) = false := by rw [← HA.out, beq_eq_false_iff_ne]; exact hc46
        have hb45 : (((s[k]'hlt).toNat : Int) == 45) = false := by rw [← HA.out, beq_eq_false_iff_ne]; exact hc45
        have HSm := Lib.hid (show smlI ((s[k]'hlt).toNat : Int) = false by rw [← HA.out]; exact hcs)
        have HGr := Lib.hid (show grtI ((s[k]'hlt).toNat : Int) = true by rw [← HA.out]; exact hcg)
        have HDi := Lib.hid (show digI ((s[k]'hlt).toNat : Int) = false by rw [← HA.out]; exact hcd)
        have HX := Lib.hid (And.intro hcs (And.intro hcg (And.intro hcd (And.intro hc46 hc45)))); clear hcs hcg hcd hc46 hc45
        have HK := Lib.hid (show hokB (sb s) k = true by obtain ⟨x1, x2, x3, x4, x5⟩ := HX.out; simp [hokB, hostI, signI, x1, x2, x3, x4, x5])
        clear hc
        go_wp2_with (first | (go_at_call 80; refine (ref_small_is _ _ _ HSm.out).mono ?_; rintro e w' ⟨rfl, rfl⟩) | (go_at_call 81; refine (ref_great_is _ _ _ HGr.out).mono ?_; rintro e w' ⟨rfl, rfl⟩) | (go_at_call 82; refine (ref_digit_is _ _ _ HDi.out).mono ?_; rintro e w' ⟨rfl, rfl⟩))
        refine ⟨⟨k + 1, by omega, by go_num, fun j hj => ?_⟩, by simp [intOf]; omega⟩
        rcases Nat.lt_or_ge j k with h | h
        · exact H.out j h
        · obtain rfl : j = k := by omega
          exact HK.out
      · have hb46 : (((s[k]'hlt).toNat : Int) == 46) = false := by rw [← HA.out, beq_eq_false_iff_ne]; exact hc46
        have hb45 : (((s[k]'hlt).toNat : Int) == 45) = false := by rw [← HA.out, beq_eq_false_iff_ne]; exact hc45
        have HSm := Lib.hid (show smlI ((s[k]'hlt).toNat : Int) = false by rw [← HA.out]; exact hcs)
        have HGr := Lib.hid (show grtI ((s[k]'hlt).toNat : Int) = true by rw [← HA.out]; exact hcg)
        have HDi := Lib.hid (show digI ((s[k]'hlt).toNat : Int) = true by rw [← HA.out]; exact hcd)
        have HX := Lib.hid (And.intro hcs (And.intro hcg (And.intro hcd (And.intro hc46 hc45)))); clear hcs hcg hcd hc46 hc45
        have HK := Lib.hid (show hokB (sb s) k = true by obtain ⟨x1, x2, x3, x4, x5⟩ := HX.out; simp [hokB, hostI, signI, x1, x2, x3, x4, x5])
        clear hc
        go_wp2_with (first | (go_at_call 80; refine (ref_small_is _ _ _ HSm.out).mono ?_; rintro e w' ⟨rfl, rfl⟩) | (go_at_call 81; refine (ref_great_is _ _ _ HGr.out).mono ?_; rintro e w' ⟨rfl, rfl⟩) | (go_at_call 82; refine (ref_digit_is _ _ _ HDi.out).mono ?_; rintro e w' ⟨rfl, rfl⟩))
        refine ⟨⟨k + 1, by omega, by go_num, fun j hj => ?_⟩, by simp [intOf]; omega⟩
        rcases Nat.lt_or_ge j k with h | h
        · exact H.out j h
        · obtain rfl : j = k := by omega
          exact HK.out
      · have hb46 : (((s[k]'hlt).toNat : Int) == 46) = false := by rw [← HA.out, beq_eq_false_iff_ne]; exact hc46
        have hb45 : (((s[k]'hlt).toNat : Int) == 45) = false := by rw [← HA.out, beq_eq_false_iff_ne]; exact hc45
        have HSm := Lib.hid (show smlI ((s[k]'hlt).toNat : Int) = true by rw [← HA.out]; exact hcs)
        have HGr := Lib.hid (show grtI ((s[k]'hlt).toNat : Int) = false by rw [← HA.out]; exact hcg)
        have HDi := Lib.hid (show digI ((s[k]'hlt).toNat : Int) = false by rw [← HA.out]; exact hcd)
        have HX := Lib.hid (And.intro hcs (And.intro hcg (And.intro hcd (And.intro hc46 hc45)))); clear hcs hcg hcd hc46 hc45
        have HK := Lib.hid (show hokB (sb s) k = true by obtain ⟨x1, x2, x3, x4, x5⟩ := HX.out; simp [hokB, hostI, signI, x1, x2, x3, x4, x5])
        clear hc
        go_wp2_with (first | (go_at_call 80; refine (ref_small_is _ _ _ HSm.out).mono ?_; rintro e w' ⟨rfl, rfl⟩) | (go_at_call 81; refine (ref_great_is _ _ _ HGr.out).mono ?_; rintro e w' ⟨rfl, rfl⟩) | (go_at_call 82; refine (ref_digit_is _ _ _ HDi.out).mono ?_; rintro e w' ⟨rfl, rfl⟩))
        refine ⟨⟨k + 1, by omega, by go_num, fun j hj => ?_⟩, by simp [intOf]; omega⟩
        rcases Nat.lt_or_ge j k with h | h
        · exact H.out j h
        · obtain rfl : j = k := by omega
          exact HK.out
      · have hb46 : (((s[k]'hlt).toNat : Int) == 46) = false := by rw [← HA.out, beq_eq_false_iff_ne]; exact hc46
        have hb45 : (((s[k]'hlt).toNat : Int) == 45) = false := by rw [← HA.out, beq_eq_false_iff_ne]; exact hc45
        have HSm := Lib.hid (show smlI ((s[k]'hlt).toNat : Int) = true by rw [← HA.out]; exact hcs)
        have HGr := Lib.hid (show grtI ((s[k]'hlt).toNat : Int) = false by rw [← HA.out]; exact hcg)
        have HDi := Lib.hid (show digI ((s[k]'hlt).toNat : Int) = true by rw [← HA.out]; exact hcd)
        have HX := Lib.hid (And.intro hcs (And.intro hcg (And.intro hcd (And.intro hc46 hc45)))); clear hcs hcg hcd hc46 hc45
        have HK := Lib.hid (show hokB (sb s) k = true by obtain ⟨x1, x2, x3, x4, x5⟩ := HX.out; simp [hokB, hostI, signI, x1, x2, x3, x4, x5])
        clear hc
        go_wp2_with (first | (go_at_call 80; refine (ref_small_is _ _ _ HSm.out).mono ?_; rintro e w' ⟨rfl, rfl⟩) | (go_at_call 81; refine (ref_great_is _ _ _ HGr.out).mono ?_; rintro e w' ⟨rfl, rfl⟩) | (go_at_call 82; refine (ref_digit_is _ _ _ HDi.out).mono ?_; rintro e w' ⟨rfl, rfl⟩))
        refine ⟨⟨k + 1, by omega, by go_num, fun j hj => ?_⟩, by simp [intOf]; omega⟩
        rcases Nat.lt_or_ge j k with h | h
        · exact H.out j h
        · obtain rfl : j = k := by omega
          exact HK.out
      · have hb46 : (((s[k]'hlt).toNat : Int) == 46) = false := by rw [← HA.out, beq_eq_false_iff_ne]; exact hc46
        have hb45 : (((s[k]'hlt).toNat : Int) == 45) = false := by rw [← HA.out, beq_eq_false_iff_ne]; exact hc45
        have HSm := Lib.hid (show smlI ((s[k]'hlt).toNat : Int) = true by rw [← HA.out]; exact hcs)
        have HGr := Lib.hid (show grtI ((s[k]'hlt).toNat : Int) = true by rw [← HA.out]; exact hcg)
        have HDi := Lib.hid (show digI ((s[k]'hlt).toNat : Int) = false by rw [← HA.out]; exact hcd)
        have HX := Lib.hid (And.intro hcs (And.intro hcg (And.intro hcd (And.intro hc46 hc45)))); clear hcs hcg hcd hc46 hc45
        have HK := Lib.hid (show hokB (sb s) k = true by obtain ⟨x1, x2, x3, x4, x5⟩ := HX.out; simp [hokB, hostI, signI, x1, x2, x3, x4, x5])
        clear hc
        go_wp2_with (first | (go_at_call 80; refine (ref_small_is _ _ _ HSm.out).mono ?_; rintro e w' ⟨rfl, rfl⟩) | (go_at_call 81; refine (ref_great_is _ _ _ HGr.out).mono ?_; rintro e w' ⟨rfl, rfl⟩) | (go_at_call 82; refine (ref_digit_is _ _ _ HDi.out).mono ?_; rintro e w' ⟨rfl, rfl⟩))
        refine ⟨⟨k + 1, by omega, by go_num, fun j hj => ?_⟩, by simp [intOf]; omega⟩
        rcases Nat.lt_or_ge j k with h | h
        · exact H.out j h
        · obtain rfl : j = k := by omega
          exact HK.out
      · have hb46 : (((s[k]'hlt).toNat : Int) == 46) = false := by rw [← HA.out, beq_eq_false_iff_ne]; exact hc46
        have hb45 : (((s[k]'hlt).toNat : Int) == 45) = false := by rw [← HA.out, beq_eq_false_iff_ne]; exact hc45
        have HSm := Lib.hid (show smlI ((s[k]'hlt).toNat : Int) = true by rw [← HA.out]; exact hcs)
        have HGr := Lib.hid (show grtI ((s[k]'hlt).toNat : Int) = true by rw [← HA.out]; exact hcg)
        have HDi := Lib.hid (show digI ((s[k]'hlt).toNat : Int) = true by rw [← HA.out]; exact hcd)
        have HX := Lib.hid (And.intro hcs (And.intro hcg (And.intro hcd (And.intro hc46 hc45)))); clear hcs hcg hcd hc46 hc45
        have HK := Lib.hid (show hokB (sb s) k = true by obtain ⟨x1, x2, x3, x4, x5⟩ := HX.out; simp [hokB, hostI, signI, x1, x2, x3, x4, x5])
        clear hc
        go_wp2_with (first | (go_at_call 80; refine (ref_small_is _ _ _ HSm.out).mono ?_; rintro e w' ⟨rfl, rfl⟩) | (go_at_call 81; refine (ref_great_is _ _ _ HGr.out).mono ?_; rintro e w' ⟨rfl, rfl⟩) | (go_at_call 82; refine (ref_digit_is _ _ _ HDi.out).mono ?_; rintro e w' ⟨rfl, rfl⟩))
        refine ⟨⟨k + 1, by omega, by go_num, fun j hj => ?_⟩, by simp [intOf]; omega⟩
        rcases Nat.lt_or_ge j k with h | h
        · exact H.out j h
        · obtain rfl : j = k := by omega
          exact HK.out
    · go_wp2
      go_ret
      refine ⟨?_, rfl⟩
      have : hostL (sb s) = true := HI.out.2 (fun i hi => H.out i (by have := HL.out; omega))
      rw [this]; rfl
end Go.Proofs.YthllidchoodofaaGreatDoor
namespace Go.Proofs.YthllidchoodofaaGreatDoor
open Go.RowKit
set_option linter.unusedVariables false

theorem ref_host_is (s : ByteArray) (b : Bool) (w : World) (hs : s.size ≤ maxLen) (h : hostL (sb s) = b) :
    Calls Tryz.prog 62 #[.string s] w fun e w' => e = .returned (.bool b) ∧ w = w' := by
  rw [← h]; exact ref_host_any s w hs
end Go.Proofs.YthllidchoodofaaGreatDoor
namespace Go.Proofs.YthllidchoodofaaGreatDoor
open Go.RowKit
set_option linter.unusedVariables false

def pokB (l : List Int) (sigil : Int) : Bool := decide (l.length ≤ 255) && (l.head? == some sigil && serverL ((l.drop 1).drop (colI (l.drop 1) + 1)))
theorem named_pok (l : List Int) (sigil most : Int) (K : Int → Bool) : namedL l sigil most K = (pokB l sigil && madeI ((l.drop 1).take (colI (l.drop 1))) most K) := by
  rw [namedL, pokB]
  cases decide (l.length ≤ 255) <;> cases (l.head? == some sigil) <;> cases serverL ((l.drop 1).drop (colI (l.drop 1) + 1)) <;> cases madeI ((l.drop 1).take (colI (l.drop 1))) most K <;> rfl
theorem col_tail {l : List Int} {c : Int} (h : l.head? = some c) (hc : c ≠ 58) : colI l = colI (l.drop 1) + 1 := by
  cases l with
  | nil => cases h
  | cons x r =>
    simp only [List.head?_cons, Option.some.injEq] at h
    subst h
    unfold colI
    rw [List.findIdx_cons]
    have : (x == 58) = false := by rw [beq_eq_false_iff_ne]; exact hc
    rw [this]; rfl
theorem server_nil : serverL [] = false := by decide
def PartsOk (l : List Int) (B : Nat) (w : World) (e : Ending) (w' : World) : Prop :=
  ∃ a b : ByteArray, (sb a = (l.drop 1).take (colI (l.drop 1)) ∧ sb b = (l.drop 1).drop (colI (l.drop 1) + 1)) ∧ e = .returned (.tuple #[.string a, .string b, .bool true]) ∧ Below B w w'
end Go.Proofs.YthllidchoodofaaGreatDoor
namespace Go.Proofs.YthllidchoodofaaGreatDoor
open Go.RowKit
set_option linter.unusedVariables false

end Go.Proofs.YthllidchoodofaaGreatDoor
namespace Go.Proofs.YthllidchoodofaaGreatDoor
open Go.RowKit
set_option linter.unusedVariables false

/-- A text, cut at both ends. -/
theorem run_str_slice {P : Program} (t : TypeId) (ht : P.underlying t = some .string) (L : ByteArray) (lo hi : Int) (h0 : 0 ≤ lo) (h1 : lo ≤ hi) (h2 : hi ≤ L.size) (w : World) :
    (Instr.sliceAt t (.string L) (some (.int .i64 lo)) (some (.int .i64 hi)) none).run P w = .ok (.string (L.extract lo.toNat hi.toNat)) w := by
  obtain ⟨a, rfl⟩ := Int.eq_ofNat_of_zero_le h0
  obtain ⟨b, rfl⟩ := Int.eq_ofNat_of_zero_le (Int.le_trans h0 h1)
  have e1 : a ≤ b := by omega
  have e2 : b ≤ L.size := by omega
  rw [run_sliceAt_string w t _ _ _ _ ht]
  simp [Instr.slice, run_underlying ht, Instr.sliceBounds, run_sliceBound, *]
theorem slice_one (s : ByteArray) (k : Nat) (h : k + 1 ≤ s.size) (w : World) :
    (Instr.slice 9 (.string s) (some (.int .i64 (k : Int))) (some (.int .i64 ((k : Int) + 1))) none).run Tryz.prog w = .ok (.string (s.extract k (k + 1))) w := by
  have h1 := run_str_slice (P := Tryz.prog) 9 Tryz.underlying9 s (k : Int) ((k : Int) + 1) (by omega) (by omega) (by omega) w
  rw [run_sliceAt_string w 9 _ _ _ _ Tryz.underlying9] at h1
  rw [h1]
  congr 2
end Go.Proofs.YthllidchoodofaaGreatDoor
namespace Go.Proofs.YthllidchoodofaaGreatDoor
open Go.RowKit
set_option linter.unusedVariables false

set_option maxHeartbeats 4000000 in
theorem ref_phone_empty (s : ByteArray) (w : World) (hs : s.size ≤ 140737488355328)
    (hcountry : ∀ w, Calls Tryz.prog 65 #[.string ⟨#[]⟩] w fun e w' => e = .returned (.tuple #[.string ⟨#[]⟩, .bool false, .bool true]) ∧ w = w') :
    Calls Tryz.prog 52 #[.string ⟨#[]⟩, .string s] w (PhonePost (phoneS [] false false (sb s)) w.heap.size w) := by
  have HL := Lib.hid (sb_length s)
  go_enter Tryz.func52, Tryz.ntmps52
  go_wp2_with fail
  refine (hcountry w).mono ?_
  rintro e w' ⟨rfl, rfl⟩
  go_wp2
  go_loop [9, 10, 11, 12, 30, 44, 55] (fun t pl i _ _ _ _ => ∃ (k : Nat) (d : List Int) (p : Bool), k ≤ s.size ∧ i = .int .i64 k ∧ pl = .bool p ∧ t = .string (strOfNums d) ∧ dialS ((sb s).take k) = some (d, p) ∧ d.length ≤ k) (fun _ _ i _ _ _ _ => s.size - (intOf i).toNat)
  case atStart => exact ⟨0, [], false, Nat.zero_le _, rfl, rfl, rfl, rfl, by simp⟩
  case round =>
    obtain ⟨k, d, p, hk, rfl, rfl, rfl, hdial, hdl⟩ := hrel
    have HDI := Lib.hid hdial; clear hdial
    have hds : (strOfNums d).size ≤ 140737488355328 := by rw [strOfNums_size]; omega
    by_cases hlt : k < s.size
    · have hlk : k < (sb s).length := by have := HL.out; omega
      have hat := at0_sb s k hlt
      have HA := Lib.hid hat; clear hat
      have c0 := (s[k]'hlt).toNat_lt
      have hsucc := dial_succ (sb s) k hlk
      have hstop := dial_stop (sb s) k hlk
      rw [HDI.out, HA.out] at hsucc hstop
      have hex : sb (s.extract k (k + 1)) = [at0 (sb s) k] := by
        rw [sb_extract, List.take_add_one, List.getElem?_eq_getElem hlk, List.drop_append_of_le_length (by simp; omega), List.drop_of_length_le (by rw [List.length_take]; omega), ← at0_lt hlk]; rfl
      rw [HA.out] at hex
      generalize hcc : ((s[k]'hlt).toNat : Int) = c at *
      have hc0 : 0 ≤ c := by omega
      have hc255 : c ≤ 255 := by omega
      have hb1 : Bytes [c] := fun x hx => by simp at hx; omega
      have hnew : strOfNums d ++ s.extract k (k + 1) = strOfNums (d ++ [c]) := by
        rw [show s.extract k (k + 1) = strOfNums [c] from sb_inj (hex.trans (sb_strOf hb1).symm), strOf_append]
      have hxs : (s.extract k (k + 1)).size ≤ 1 := by rw [← sb_length, hex]; simp
      by_cases h1 : digI c = true
      · have e : dialStep (some (d, p)) c = some (d ++ [c], p) := by simp [dialStep, h1]
        have HN := Lib.hid (hsucc.trans e)
        simp only [digI, Bool.and_eq_true, decide_eq_true_eq] at h1
        obtain ⟨q1, q2⟩ := h1
        have HW := Lib.hid hnew
        have hks : (k : Int) + 1 ≤ s.size := by omega
        have hsl := slice_one s k (by omega)
        clear hsucc hstop e hex hb1 hnew
        go_wp2
        refine ⟨⟨k + 1, d ++ [c], p, by omega, by go_num, rfl, by rw [← HW.out], HN.out, by simp; omega⟩, by simp [intOf]; omega⟩
      have h1' : digI c = false := by simpa using h1
      by_cases h2 : c = 43
      · subst h2
        clear h1 hnew hxs hex hb1 c0
        by_cases hd0 : d = [] ∧ p = false
        · obtain ⟨rfl, rfl⟩ := hd0
          have e : dialStep (some ([], false)) 43 = some ([], true) := by decide
          have HN := Lib.hid (hsucc.trans e)
          clear hsucc hstop e h1'
          have hemp : (strOfNums []) = ⟨#[]⟩ := rfl
          rw [hemp]
          clear hemp
          go_wp2
          exact ⟨⟨k + 1, [], true, by omega, by go_num, rfl, rfl, HN.out, by simp⟩, by simp [intOf]; omega⟩
        · have e : dialStep (some (d, p)) 43 = none := by
            cases d with
            | nil =>
              cases p
              · exact (hd0 ⟨rfl, rfl⟩).elim
              · decide
            | cons x r => simp [dialStep, digI]
          have HN := Lib.hid (show phoneS [] false false (sb s) = none by rw [phoneS, hstop e])
          clear hsucc hstop e h1'
          cases d with
          | nil =>
            cases p
            · exact (hd0 ⟨rfl, rfl⟩).elim
            · clear hd0
              have hemp : (strOfNums []) = ⟨#[]⟩ := rfl
              rw [hemp]
              clear hemp
              go_wp2
              go_ret2
              exact .inr ⟨HN.out, rfl, Below.refl _ _⟩
          | cons x r =>
            clear hd0
            have hne : (strOfNums (x :: r)).toList.isEmpty = false := by rw [ByteArray.toList_eq]; rfl
            have hne2 : ((strOfNums (x :: r)).toList == []) = false := by rw [ByteArray.toList_eq]; rfl
            go_wp2
            go_ret2
            exact .inr ⟨HN.out, rfl, Below.refl _ _⟩
      have h2' : (c == 43) = false := beq_eq_false_iff_ne.2 h2
      cases h3 : sepI c
      · have e : dialStep (some (d, p)) c = none := by simp [dialStep, h1', h2', h3]
        have HN := Lib.hid (show phoneS [] false false (sb s) = none by rw [phoneS, hstop e])
        have n32 : (c == 32) = false := by rw [beq_eq_false_iff_ne]; rintro rfl; cases h3
        have n45 : (c == 45) = false := by rw [beq_eq_false_iff_ne]; rintro rfl; cases h3
        have n46 : (c == 46) = false := by rw [beq_eq_false_iff_ne]; rintro rfl; cases h3
        have n40 : (c == 40) = false := by rw [beq_eq_false_iff_ne]; rintro rfl; cases h3
        have n41 : (c == 41) = false := by rw [beq_eq_false_iff_ne]; rintro rfl; cases h3
        simp only [digI, Bool.and_eq_false_iff, decide_eq_false_iff_not] at h1'
        by_cases q1 : 48 ≤ c
        · have q2 : 57 < c := by omega
          clear hsucc hstop e hex hb1 hnew hxs h1 h2 h3 h1'
          go_wp2
          go_ret2
          exact .inr ⟨HN.out, rfl, Below.refl _ _⟩
        · clear hsucc hstop e hex hb1 hnew hxs h1 h2 h3 h1'
          go_wp2
          go_ret2
          exact .inr ⟨HN.out, rfl, Below.refl _ _⟩
      · have e : dialStep (some (d, p)) c = some (d, p) := by simp [dialStep, h1', h2', h3]
        have HN := Lib.hid (hsucc.trans e)
        have h5 : c = 32 ∨ c = 45 ∨ c = 46 ∨ c = 40 ∨ c = 41 := by simpa [sepI] using h3
        clear hsucc hstop e hex hb1 hnew hxs h1 h2 h3 h1' h2'
        rcases h5 with rfl | rfl | rfl | rfl | rfl
        all_goals go_wp2
        all_goals exact ⟨⟨k + 1, d, p, by omega, by go_num, rfl, rfl, HN.out, by omega⟩, by simp [intOf]; omega⟩
    · have h := HDI.out
      rw [List.take_of_length_le (by have := HL.out; omega)] at h
      obtain ⟨-, hda⟩ := dial_digits h
      have HF := Lib.hid (show phoneS [] false false (sb s) = if okLen (fullS [] false false d p) then some (fullS [] false false d p) else none by rw [phoneS, h])
      have hdb := bytes_digits hda
      clear h hda
      cases p
      · have HFB := Lib.hid (show Bytes (fullS [] false false d false) from hdb)
        have hXV : strOfNums d = strOfNums (fullS [] false false d false) := rfl
        generalize strOfNums d = X at *
        have HXV := Lib.hid hXV
        have HXS := Lib.hid (show sb X = fullS [] false false d false by rw [hXV]; exact sb_strOf HFB.out)
        have HXL := Lib.hid (show X.size = (fullS [] false false d false).length by rw [hXV, strOfNums_size])
        clear hXV hdb
        by_cases h6 : X.size < 6
        · have HN := Lib.hid (show phoneS [] false false (sb s) = none by
            rw [HF.out, if_neg]
            intro h
            have h1 := (okLen_parts _).1 h
            rw [← HXL.out] at h1
            omega)
          go_wp2
          go_ret2
          exact .inr ⟨HN.out, rfl, Below.refl _ _⟩
        by_cases h15 : 15 < X.size
        · have HN := Lib.hid (show phoneS [] false false (sb s) = none by
            rw [HF.out, if_neg]
            intro h
            have h1 := (okLen_parts _).1 h
            rw [← HXL.out] at h1
            omega)
          go_wp2
          go_ret2
          exact .inr ⟨HN.out, rfl, Below.refl _ _⟩
        have hx0 : 0 < X.size := by omega
        have hat := at0_sb X 0 hx0
        rw [HXS.out] at hat
        by_cases h48 : at0 (fullS [] false false d false) 0 = 48
        · have HN := Lib.hid (show phoneS [] false false (sb s) = none by
            rw [HF.out, if_neg]
            intro h
            exact ((okLen_parts _).1 h).2.2 h48)
          have hb : (((X[0]'hx0).toNat : Int) == 48) = true := by rw [← hat, h48]; rfl
          clear hat h48
          go_wp2
          go_ret2
          exact .inr ⟨HN.out, rfl, Below.refl _ _⟩
        · have HN := Lib.hid (show phoneS [] false false (sb s) = some (fullS [] false false d false) by
            rw [HF.out, if_pos]
            refine (okLen_parts _).2 ⟨?_, ?_, h48⟩
            · rw [← HXL.out]; omega
            · rw [← HXL.out]; omega)
          have hb : (((X[0]'hx0).toNat : Int) == 48) = false := by rw [← hat, beq_eq_false_iff_ne]; exact h48
          clear hat h48
          go_wp2
          go_ret2
          exact .inl ⟨_, HN.out, by rw [← HXV.out]; rfl, Below.refl _ _⟩
      · have HFB := Lib.hid (show Bytes (fullS [] false false d true) from hdb)
        have hXV : strOfNums d = strOfNums (fullS [] false false d true) := rfl
        generalize strOfNums d = X at *
        have HXV := Lib.hid hXV
        have HXS := Lib.hid (show sb X = fullS [] false false d true by rw [hXV]; exact sb_strOf HFB.out)
        have HXL := Lib.hid (show X.size = (fullS [] false false d true).length by rw [hXV, strOfNums_size])
        clear hXV hdb
        by_cases h6 : X.size < 6
        · have HN := Lib.hid (show phoneS [] false false (sb s) = none by
            rw [HF.out, if_neg]
            intro h
            have h1 := (okLen_parts _).1 h
            rw [← HXL.out] at h1
            omega)
          go_wp2
          go_ret2
          exact .inr ⟨HN.out, rfl, Below.refl _ _⟩
        by_cases h15 : 15 < X.size
        · have HN := Lib.hid (show phoneS [] false false (sb s) = none by
            rw [HF.out, if_neg]
            intro h
            have h1 := (okLen_parts _).1 h
            rw [← HXL.out] at h1
            omega)
          go_wp2
          go_ret2
          exact .inr ⟨HN.out, rfl, Below.refl _ _⟩
        have hx0 : 0 < X.size := by omega
        have hat := at0_sb X 0 hx0
        rw [HXS.out] at hat
        by_cases h48 : at0 (fullS [] false false d true) 0 = 48
        · have HN := Lib.hid (show phoneS [] false false (sb s) = none by
            rw [HF.out, if_neg]
            intro h
            exact ((okLen_parts _).1 h).2.2 h48)
          have hb : (((X[0]'hx0).toNat : Int) == 48) = true := by rw [← hat, h48]; rfl
          clear hat h48
          go_wp2
          go_ret2
          exact .inr ⟨HN.out, rfl, Below.refl _ _⟩
        · have HN := Lib.hid (show phoneS [] false false (sb s) = some (fullS [] false false d true) by
            rw [HF.out, if_pos]
            refine (okLen_parts _).2 ⟨?_, ?_, h48⟩
            · rw [← HXL.out]; omega
            · rw [← HXL.out]; omega)
          have hb : (((X[0]'hx0).toNat : Int) == 48) = false := by rw [← hat, beq_eq_false_iff_ne]; exact h48
          clear hat h48
          go_wp2
          go_ret2
          exact .inl ⟨_, HN.out, by rw [← HXV.out]; rfl, Below.refl _ _⟩
end Go.Proofs.YthllidchoodofaaGreatDoor
namespace Go.Proofs.YthllidchoodofaaGreatDoor
open Go.RowKit
set_option linter.unusedVariables false

theorem country_empty (w : World) : Calls Tryz.prog 65 #[.string ⟨#[]⟩] w fun e w' => e = .returned (.tuple #[.string ⟨#[]⟩, .bool false, .bool true]) ∧ w = w' := by
  go_enter Tryz.func65, Tryz.ntmps65
  go_wp2
  go_ret3
  exact ⟨rfl, rfl⟩
theorem list_ne {a b : ByteArray} (h : a ≠ b) : (a.toList == b.toList) = false := str_eq_no h
theorem nonempty_str {a : ByteArray} (h : a ≠ ⟨#[]⟩) : a.toList.isEmpty = false ∧ (a.toList == []) = false := by
  have hb0 : a.toList.isEmpty = false := by
    rw [ByteArray.toList_eq]
    cases hq : a.data.toList with
    | nil =>
      exfalso; apply h
      apply sb_inj
      simp [sb, hq]
    | cons x r => rfl
  refine ⟨hb0, ?_⟩
  cases hq : a.toList with
  | nil => rw [hq] at hb0; cases hb0
  | cons x r => rfl
/-- Both phones answer alike. -/
def Alike (land s : ByteArray) : Prop := ∃ V : Value, (∃ (x : ByteArray) (n : Int), V = .tuple #[.string x, .int .i64 n]) ∧ (∀ w, Calls Tryz.prog 49 #[.string land, .string s] w fun e w' => e = .returned V ∧ Below w.heap.size w w') ∧ (∀ w, Calls Tryz.prog 52 #[.string land, .string s] w fun e w' => e = .returned V ∧ Below w.heap.size w w')
end Go.Proofs.YthllidchoodofaaGreatDoor
namespace Go.Proofs.YthllidchoodofaaGreatDoor
open Go.RowKit
set_option linter.unusedVariables false

def hasI (l : List Int) (c : Int) : Bool := l.contains c
theorem ref_has_any (s : ByteArray) (c : Int) (w : World) (hs : s.size ≤ maxLen) :
    Calls Tryz.prog 63 #[.string s, .int .u8 c] w fun e w' => e = .returned (.bool (hasI (sb s) c)) ∧ w = w' := by
  unfold maxLen at hs
  have HL := Lib.hid (sb_length s)
  go_enter Tryz.func63, Tryz.ntmps63
  go_wp2
  go_loop [5] (fun i => ∃ k : Nat, k ≤ s.size ∧ i = .int .i64 k ∧ ((sb s).take k).all (fun x => !(x == c)) = true) (fun i => s.size - (intOf i).toNat)
  case atStart => exact ⟨0, Nat.zero_le _, rfl, rfl⟩
  case round =>
    obtain ⟨k, hk, rfl, hall⟩ := hrel
    have H := Lib.hid hall; clear hall
    by_cases hlt : k < s.size
    · have hlk : k < (sb s).length := by have := HL.out; omega
      have hat := at0_sb s k hlt
      have HA := Lib.hid hat; clear hat
      by_cases hc : at0 (sb s) k = c
      · have hb : (((s[k]'hlt).toNat : Int) == c) = true := by rw [← HA.out, hc]; simp
        have HC := Lib.hid (show hasI (sb s) c = true by rw [hasI, List.contains_iff_mem, ← hc]; exact at0_mem hlk)
        clear hc
        go_wp2
        go_ret
        refine ⟨?_, rfl⟩
        rw [HC.out]; rfl
      · have hb : (((s[k]'hlt).toNat : Int) == c) = false := by rw [← HA.out, beq_eq_false_iff_ne]; exact hc
        have HC := Lib.hid hc; clear hc
        go_wp2
        go_round
        case rel =>
          refine ⟨k + 1, by omega, by go_num, ?_⟩
          rw [List.take_add_one, List.getElem?_eq_getElem hlk, List.all_append, H.out, Option.toList_some, ← at0_lt hlk]
          simp [HC.out]
        case measure => simp [intOf]; omega
    · go_wp2
      go_ret
      refine ⟨?_, rfl⟩
      have h := H.out
      rw [List.take_of_length_le (by have := HL.out; omega)] at h
      have : hasI (sb s) c = false := by
        unfold hasI
        cases hq : (sb s).contains c
        · rfl
        · rw [List.contains_iff_mem] at hq
          have := List.all_eq_true.1 h c hq
          simp at this
      rw [this]; rfl
theorem ref_has_is (s : ByteArray) (c : Int) (b : Bool) (w : World) (hs : s.size ≤ maxLen) (h : (sb s).contains c = b) :
    Calls Tryz.prog 63 #[.string s, .int .u8 c] w fun e w' => e = .returned (.bool b) ∧ w = w' := by rw [← h]; exact ref_has_any s c w hs

def sgsI (c : Int) : Bool := [33, 35, 36, 37, 38, 39, 42, 43, 47, 61, 63, 94, 95, 96, 123, 124, 125, 126, 45].contains c
def alnI (c : Int) : Bool := smlI c || grtI c || digI c
/-- May this byte stand in this place of a local part? -/
def lokB (l : List Int) (i : Nat) : Bool := if at0 l i = 46 then decide (0 < i) && (decide (i + 1 < l.length) && !(at0 l (i - 1) == 46)) else alnI (at0 l i) || sgsI (at0 l i)
theorem lsg_split (c : Int) : lsgI c = (c == 46 || sgsI c) := by
  simp only [lsgI, sgsI, List.contains_cons]
theorem local_iff (l : List Int) (h1 : 1 ≤ l.length) (h2 : l.length ≤ 64) : localL l = true ↔ ∀ i, i < l.length → lokB l i = true := by
  have hm : madeI l 64 locI = l.all locI := made_yes l 64 locI h1 (by omega)
  rw [localL, hm, pedgesI, head_at l (by omega), last_at l (by omega)]
  simp only [Bool.and_eq_true, List.all_eq_true, Bool.not_eq_true', Option.any_some]
  have hloc : ∀ c : Int, locI c = (c == 46 || (alnI c || sgsI c)) := fun c => by
    rw [locI, lsg_split, alnI]
    cases digI c <;> cases smlI c <;> cases grtI c <;> cases (c == 46) <;> cases sgsI c <;> rfl
  constructor
  · rintro ⟨ha, hd, h0, hl⟩ i hi
    have hc := ha _ (at0_mem hi)
    rw [hloc] at hc
    unfold lokB
    by_cases e : at0 l i = 46
    · rw [if_pos e]
      have hi0 : i ≠ 0 := by rintro rfl; rw [e] at h0; cases h0
      have hil : i + 1 ≠ l.length := by
        intro e2
        rw [show l.length - 1 = i by omega, e] at hl; cases hl
      have hp : at0 l (i - 1) ≠ 46 := by
        intro e2
        have : dotsI l = true := (dots_iff l).2 ⟨i - 1, by omega, e2, by rw [show i - 1 + 1 = i by omega]; exact e⟩
        rw [this] at hd; cases hd
      simp [hp]; omega
    · rw [if_neg e]
      have : (at0 l i == 46) = false := beq_eq_false_iff_ne.2 e
      rw [this] at hc
      simpa using hc
  · intro h
    have key : ∀ i, i < l.length → locI (at0 l i) = true ∧ (at0 l i = 46 → 0 < i ∧ i + 1 < l.length ∧ at0 l (i - 1) ≠ 46) := by
      intro i hi
      have := h i hi
      unfold lokB at this
      by_cases e : at0 l i = 46
      · rw [if_pos e] at this
        simp only [Bool.and_eq_true, decide_eq_true_eq, Bool.not_eq_true', beq_eq_false_iff_ne] at this
        refine ⟨?_, fun _ => ⟨this.1, this.2.1, this.2.2⟩⟩
        rw [hloc, e]; rfl
      · rw [if_neg e] at this
        refine ⟨?_, fun q => (e q).elim⟩
        rw [hloc, this]; simp
    refine ⟨fun x hx => ?_, ?_, ?_, ?_⟩
    · obtain ⟨j, hj, rfl⟩ := List.getElem_of_mem hx
      rw [← at0_lt hj]; exact (key j hj).1
    · cases hd : dotsI l
      · rfl
      · obtain ⟨j, j1, j2, j3⟩ := (dots_iff l).1 hd
        have := (key (j + 1) j1).2 j3
        exact (this.2.2 (by simpa using j2)).elim
    · cases hs : dotI (at0 l 0)
      · rfl
      · have := (key 0 (by omega)).2 (by simpa [dotI] using hs); omega
    · cases hs : dotI (at0 l (l.length - 1))
      · rfl
      · have := (key (l.length - 1) (by omega)).2 (by simpa [dotI] using hs); omega
/-- The first so many signs. -/
def sgl : List Int := sb ⟨#[33, 35, 36, 37, 38, 39, 42, 43, 47, 61, 63, 94, 95, 96, 123, 124, 125, 126, 45]⟩
theorem sgl_len : sgl.length = 19 := by decide
theorem sgl_all (c : Int) : (sgl.take 19).any (· == c) = sgsI c := by
  have : sgl.take 19 = [33, 35, 36, 37, 38, 39, 42, 43, 47, 61, 63, 94, 95, 96, 123, 124, 125, 126, 45] := by decide
  rw [this, sgsI, ← List.any_beq]
  simp only [List.any_cons, List.any_nil]
  have e : ∀ x : Int, (x == c) = (c == x) := fun x => Bool.beq_comm
  simp only [e]
theorem sgl_succ (c : Int) (k : Nat) (hk : k < 19) : (sgl.take (k + 1)).any (· == c) = ((sgl.take k).any (· == c) || (at0 sgl k == c)) := by
  have hl : k < sgl.length := by rw [sgl_len]; exact hk
  rw [List.take_add_one, List.getElem?_eq_getElem hl, List.any_append, Option.toList_some, ← at0_lt hl]
  simp
end Go.Proofs.YthllidchoodofaaGreatDoor
namespace Go.Proofs.YthllidchoodofaaGreatDoor
open Go.RowKit
set_option linter.unusedVariables false

theorem idx_sgl (n : Nat) (h : n < 19) (w : World) :
    (Instr.index 9 (.string ⟨#[33, 35, 36, 37, 38, 39, 42, 43, 47, 61, 63, 94, 95, 96, 123, 124, 125, 126, 45]⟩) (.int .i64 (n : Int))).run Tryz.prog w = .ok (.int .u8 (at0 sgl n)) w := by
  have hk : n < (⟨#[33, 35, 36, 37, 38, 39, 42, 43, 47, 61, 63, 94, 95, 96, 123, 124, 125, 126, 45]⟩ : ByteArray).size := h
  rw [sgl, at0_sb _ n hk]
  simp [Instr.index, run_underlying Tryz.underlying9, asIntOf, hk]
theorem lok_alnum {l : List Int} {k : Nat} (h : alnI (at0 l k) = true) (hne : at0 l k ≠ 46) : lokB l k = true := by rw [lokB, if_neg hne, h]; rfl
theorem lok_sign {l : List Int} {k : Nat} {b : Bool} (h : alnI (at0 l k) = false) (hne : at0 l k ≠ 46) (hs : sgsI (at0 l k) = b) : lokB l k = b := by rw [lokB, if_neg hne, h, hs]; rfl
set_option maxHeartbeats 4000000 in
theorem ref_local_any (s : ByteArray) (w : World) (hs : s.size ≤ maxLen) :
    Calls Tryz.prog 61 #[.string s] w fun e w' => e = .returned (.bool (localL (sb s))) ∧ w = w' := by
  unfold maxLen at hs
  have hl := sb_length s
  by_cases g1 : (s.size : Int) < 1
  · have HF := Lib.hid (show localL (sb s) = false by rw [localL, made_no _ _ _ (by omega)]; rfl)
    clear hl
    go_enter Tryz.func61, Tryz.ntmps61
    go_wp2
    go_ret
    exact ⟨by rw [HF.out]; rfl, rfl⟩
  by_cases g2 : (64 : Int) < (s.size : Int)
  · have HF := Lib.hid (show localL (sb s) = false by rw [localL, made_no _ _ _ (by omega)]; rfl)
    clear hl
    go_enter Tryz.func61, Tryz.ntmps61
    go_wp2
    go_ret
    exact ⟨by rw [HF.out]; rfl, rfl⟩
  have HI := Lib.hid (local_iff (sb s) (by omega) (by omega))
  have HL := Lib.hid hl; clear hl
  go_enter Tryz.func61, Tryz.ntmps61
  go_wp2
  have hsg1 : sb (⟨#[33, 35, 36, 37, 38, 39, 42, 43, 47, 61, 63, 94, 95, 96, 123, 124, 125, 126, 45]⟩ : ByteArray) = sgl := rfl
  have hsg2 : ((⟨#[33, 35, 36, 37, 38, 39, 42, 43, 47, 61, 63, 94, 95, 96, 123, 124, 125, 126, 45]⟩ : ByteArray)).size = 19 := rfl
  generalize (⟨#[33, 35, 36, 37, 38, 39, 42, 43, 47, 61, 63, 94, 95, 96, 123, 124, 125, 126, 45]⟩ : ByteArray) = SG at *
  have HG1 := Lib.hid hsg1
  have HG2 := Lib.hid hsg2
  have hsgl : SG.size ≤ 19 := by omega
  clear hsg1 hsg2
  go_loop [4, 5, 6, 7] (fun i _ _ _ => ∃ k : Nat, k ≤ s.size ∧ i = .int .i64 k ∧ ∀ j, j < k → lokB (sb s) j = true) (fun i _ _ _ => s.size - (intOf i).toNat)
  case atStart => exact ⟨0, Nat.zero_le _, rfl, fun j h => by omega⟩
  case round =>
    obtain ⟨k, hk, rfl, hall⟩ := hrel
    have H := Lib.hid hall; clear hall
    by_cases hlt : k < s.size
    · have hlk : k < (sb s).length := by have := HL.out; omega
      have hat := at0_sb s k hlt
      have HA := Lib.hid hat; clear hat
      have c0 := (s[k]'hlt).toNat_lt
      have hA := HA.out
      generalize hcc : ((s[k]'hlt).toNat : Int) = c at *
      have hc0 : 0 ≤ c := by omega
      have hc255 : c ≤ 255 := by omega
      by_cases h46 : c = 46
      · have hA46 : at0 (sb s) k = 46 := by rw [hA, h46]
        have hlokd : lokB (sb s) k = (decide (0 < k) && (decide (k + 1 < (sb s).length) && !(at0 (sb s) (k - 1) == 46))) := by rw [lokB, if_pos hA46]
        have HLD := Lib.hid hlokd
        have hc46 : (c == 46) = true := by rw [h46]; rfl
        have hclt : c < 48 := by omega
        have HC := Lib.hid h46
        clear h46 hA hA46 hlokd
        by_cases q0 : k = 0
        · have hk0 : ¬ 0 < k := by omega
          have Q := Lib.hid q0; clear q0
          have HK := Lib.hid (show lokB (sb s) k = false by rw [HLD.out, Q.out]; rfl)
          go_wp2
          go_loop [6, 7] (fun ok j => ∃ n : Nat, n ≤ SG.size ∧ j = .int .i64 n ∧ ok = .bool ((sgl.take n).any (· == c))) (fun _ j => SG.size - (intOf j).toNat)
          case atStart => exact ⟨0, Nat.zero_le _, rfl, rfl⟩
          case round =>
            obtain ⟨n, hn, rfl, rfl⟩ := hrel
            by_cases hn2 : n < SG.size
            · have hsu := sgl_succ c n (by omega)
              have hix := at0_sb SG n hn2
              rw [HG1.out] at hix
              rw [hix] at hsu
              have HSU := Lib.hid hsu; clear hsu hix
              generalize hq : (sgl.take n).any (· == c) = q at *
              have HQ := Lib.hid hq; clear hq
              cases q
              · go_wp2
                exact ⟨⟨n + 1, by omega, by go_num, by rw [HSU.out]; rfl⟩, by simp [intOf]; omega⟩
              · go_wp2
                exact ⟨⟨n + 1, by omega, by go_num, by rw [HSU.out]; rfl⟩, by simp [intOf]; omega⟩
            · obtain rfl : n = SG.size := by omega
              clear hn hn2
              go_wp2
              go_ret
              refine ⟨?_, rfl⟩
              have : localL (sb s) = false := by
                cases h : localL (sb s)
                · rfl
                · have := HI.out.1 h k hlk; rw [HK.out] at this; cases this
              rw [this]; rfl
        by_cases q1 : k + 1 = s.size
        · have hk0 : 0 < k := by omega
          have hk1 : ¬ (k : Int) < (s.size : Int) - 1 := by omega
          have HK := Lib.hid (show lokB (sb s) k = false by rw [HLD.out, decide_eq_false (show ¬ k + 1 < (sb s).length by have := HL.out; omega)]; simp)
          go_wp2
          go_loop [6, 7] (fun ok j => ∃ n : Nat, n ≤ SG.size ∧ j = .int .i64 n ∧ ok = .bool ((sgl.take n).any (· == c))) (fun _ j => SG.size - (intOf j).toNat)
          case atStart => exact ⟨0, Nat.zero_le _, rfl, rfl⟩
          case round =>
            obtain ⟨n, hn, rfl, rfl⟩ := hrel
            by_cases hn2 : n < SG.size
            · have hsu := sgl_succ c n (by omega)
              have hix := at0_sb SG n hn2
              rw [HG1.out] at hix
              rw [hix] at hsu
              have HSU := Lib.hid hsu; clear hsu hix
              generalize hq : (sgl.take n).any (· == c) = q at *
              have HQ := Lib.hid hq; clear hq
              cases q
              · go_wp2
                exact ⟨⟨n + 1, by omega, by go_num, by rw [HSU.out]; rfl⟩, by simp [intOf]; omega⟩
              · go_wp2
                exact ⟨⟨n + 1, by omega, by go_num, by rw [HSU.out]; rfl⟩, by simp [intOf]; omega⟩
            · obtain rfl : n = SG.size := by omega
              clear hn hn2
              go_wp2
              go_ret
              refine ⟨?_, rfl⟩
              have : localL (sb s) = false := by
                cases h : localL (sb s)
                · rfl
                · have := HI.out.1 h k hlk; rw [HK.out] at this; cases this
              rw [this]; rfl
        have hp := at0_sb s (k - 1) (by omega)
        have HP := Lib.hid hp; clear hp
        have hk0 : 0 < k := by omega
        have hk1 : (k : Int) < (s.size : Int) - 1 := by omega
        have hi1 : (1 : Int) ≤ k := by omega
        have hi2 : (k : Int) - 1 < s.size := by omega
        have hi3 : ((k : Int) - 1).toNat = k - 1 := by omega
        by_cases q2 : at0 (sb s) (k - 1) = 46
        · have hb9 : (((s[k - 1]'(by omega)).toNat : Int) != 46) = false := by rw [← HP.out, q2]; rfl
          have Q2 := Lib.hid q2
          have HK := Lib.hid (show lokB (sb s) k = false by rw [HLD.out, Q2.out]; simp)
          go_wp2
          go_loop [6, 7] (fun ok j => ∃ n : Nat, n ≤ SG.size ∧ j = .int .i64 n ∧ ok = .bool ((sgl.take n).any (· == c))) (fun _ j => SG.size - (intOf j).toNat)
          case atStart => exact ⟨0, Nat.zero_le _, rfl, rfl⟩
          case round =>
            obtain ⟨n, hn, rfl, rfl⟩ := hrel
            by_cases hn2 : n < SG.size
            · have hsu := sgl_succ c n (by omega)
              have hix := at0_sb SG n hn2
              rw [HG1.out] at hix
              rw [hix] at hsu
              have HSU := Lib.hid hsu; clear hsu hix
              generalize hq : (sgl.take n).any (· == c) = q at *
              have HQ := Lib.hid hq; clear hq
              cases q
              · go_wp2
                exact ⟨⟨n + 1, by omega, by go_num, by rw [HSU.out]; rfl⟩, by simp [intOf]; omega⟩
              · go_wp2
                exact ⟨⟨n + 1, by omega, by go_num, by rw [HSU.out]; rfl⟩, by simp [intOf]; omega⟩
            · obtain rfl : n = SG.size := by omega
              clear hn hn2
              go_wp2
              go_ret
              refine ⟨?_, rfl⟩
              have : localL (sb s) = false := by
                cases h : localL (sb s)
                · rfl
                · have := HI.out.1 h k hlk; rw [HK.out] at this; cases this
              rw [this]; rfl
        · have hb9 : (((s[k - 1]'(by omega)).toNat : Int) != 46) = true := by rw [← HP.out, bne_iff_ne]; exact q2
          have Q2 := Lib.hid q2
          have HK := Lib.hid (show lokB (sb s) k = true by have hl9 := HL.out; rw [HLD.out, decide_eq_true (show 0 < k by omega), decide_eq_true (show k + 1 < (sb s).length by omega), beq_eq_false_iff_ne.2 Q2.out]; rfl)
          go_wp2
          go_loop [6, 7] (fun ok j => ∃ n : Nat, n ≤ SG.size ∧ j = .int .i64 n ∧ ok = .bool ((sgl.take n).any (· == c))) (fun _ j => SG.size - (intOf j).toNat)
          case atStart => exact ⟨0, Nat.zero_le _, rfl, rfl⟩
          case round =>
            obtain ⟨n, hn, rfl, rfl⟩ := hrel
            by_cases hn2 : n < SG.size
            · have hsu := sgl_succ c n (by omega)
              have hix := at0_sb SG n hn2
              rw [HG1.out] at hix
              rw [hix] at hsu
              have HSU := Lib.hid hsu; clear hsu hix
              generalize hq : (sgl.take n).any (· == c) = q at *
              have HQ := Lib.hid hq; clear hq
              cases q
              · go_wp2
                exact ⟨⟨n + 1, by omega, by go_num, by rw [HSU.out]; rfl⟩, by simp [intOf]; omega⟩
              · go_wp2
                exact ⟨⟨n + 1, by omega, by go_num, by rw [HSU.out]; rfl⟩, by simp [intOf]; omega⟩
            · obtain rfl : n = SG.size := by omega
              clear hn hn2
              go_wp2
              refine ⟨⟨k + 1, by omega, by go_num, fun j hj => ?_⟩, by simp [intOf]; omega⟩
              rcases Nat.lt_or_ge j k with h | h
              · exact H.out j h
              · obtain rfl : j = k := by omega
                exact HK.out
      have hc46 : (c == 46) = false := beq_eq_false_iff_ne.2 h46
      have hAne : at0 (sb s) k ≠ 46 := by rw [hA]; exact h46
      by_cases r48 : 48 ≤ c ∧ c ≤ 57
      · obtain ⟨ra, rb⟩ := r48
        have HK := Lib.hid (lok_alnum (show alnI (at0 (sb s) k) = true by rw [hA]; simp only [alnI, smlI, grtI, digI, Bool.or_eq_true, Bool.and_eq_true, decide_eq_true_eq]; omega) hAne)
        clear h46 hA hAne
        go_wp2
        go_loop [6, 7] (fun ok j => ∃ n : Nat, n ≤ SG.size ∧ j = .int .i64 n ∧ ok = .bool true) (fun _ j => SG.size - (intOf j).toNat)
        case atStart => exact ⟨0, Nat.zero_le _, rfl, rfl⟩
        case round =>
          obtain ⟨n, hn, rfl, rfl⟩ := hrel
          by_cases hn2 : n < SG.size
          · go_wp2
            exact ⟨⟨n + 1, by omega, by go_num, rfl⟩, by simp [intOf]; omega⟩
          · obtain rfl : n = SG.size := by omega
            clear hn hn2
            go_wp2
            refine ⟨⟨k + 1, by omega, by go_num, fun j hj => ?_⟩, by simp [intOf]; omega⟩
            rcases Nat.lt_or_ge j k with h | h
            · exact H.out j h
            · obtain rfl : j = k := by omega
              exact HK.out
      by_cases r65 : 65 ≤ c ∧ c ≤ 90
      · obtain ⟨ra, rb⟩ := r65
        have HK := Lib.hid (lok_alnum (show alnI (at0 (sb s) k) = true by rw [hA]; simp only [alnI, smlI, grtI, digI, Bool.or_eq_true, Bool.and_eq_true, decide_eq_true_eq]; omega) hAne)
        clear h46 hA hAne
        go_wp2
        go_loop [6, 7] (fun ok j => ∃ n : Nat, n ≤ SG.size ∧ j = .int .i64 n ∧ ok = .bool true) (fun _ j => SG.size - (intOf j).toNat)
        case atStart => exact ⟨0, Nat.zero_le _, rfl, rfl⟩
        case round =>
          obtain ⟨n, hn, rfl, rfl⟩ := hrel
          by_cases hn2 : n < SG.size
          · go_wp2
            exact ⟨⟨n + 1, by omega, by go_num, rfl⟩, by simp [intOf]; omega⟩
          · obtain rfl : n = SG.size := by omega
            clear hn hn2
            go_wp2
            refine ⟨⟨k + 1, by omega, by go_num, fun j hj => ?_⟩, by simp [intOf]; omega⟩
            rcases Nat.lt_or_ge j k with h | h
            · exact H.out j h
            · obtain rfl : j = k := by omega
              exact HK.out
      by_cases r97 : 97 ≤ c ∧ c ≤ 122
      · obtain ⟨ra, rb⟩ := r97
        have HK := Lib.hid (lok_alnum (show alnI (at0 (sb s) k) = true by rw [hA]; simp only [alnI, smlI, grtI, digI, Bool.or_eq_true, Bool.and_eq_true, decide_eq_true_eq]; omega) hAne)
        clear h46 hA hAne
        go_wp2
        go_loop [6, 7] (fun ok j => ∃ n : Nat, n ≤ SG.size ∧ j = .int .i64 n ∧ ok = .bool true) (fun _ j => SG.size - (intOf j).toNat)
        case atStart => exact ⟨0, Nat.zero_le _, rfl, rfl⟩
        case round =>
          obtain ⟨n, hn, rfl, rfl⟩ := hrel
          by_cases hn2 : n < SG.size
          · go_wp2
            exact ⟨⟨n + 1, by omega, by go_num, rfl⟩, by simp [intOf]; omega⟩
          · obtain rfl : n = SG.size := by omega
            clear hn hn2
            go_wp2
            refine ⟨⟨k + 1, by omega, by go_num, fun j hj => ?_⟩, by simp [intOf]; omega⟩
            rcases Nat.lt_or_ge j k with h | h
            · exact H.out j h
            · obtain rfl : j = k := by omega
              exact HK.out
      have haln : alnI (at0 (sb s) k) = false := by
        rw [hA]
        cases hx : alnI c
        · rfl
        · simp only [alnI, smlI, grtI, digI, Bool.or_eq_true, Bool.and_eq_true, decide_eq_true_eq] at hx; omega
      have hsga := sgl_all c
      have hlokc := lok_sign haln hAne (b := sgsI c) (by rw [hA])
      rw [← hsga] at hlokc
      have HLC := Lib.hid hlokc
      have HX := Lib.hid (And.intro r48 (And.intro r65 r97))
      have hgap : c < 48 ∨ (57 < c ∧ c < 65) ∨ (90 < c ∧ c < 97) ∨ 122 < c := by omega
      clear h46 hA hAne haln hsga hlokc r48 r65 r97
      rcases hgap with y1 | ⟨y1, y2⟩ | ⟨y1, y2⟩ | y1
      · have y3 : c < 65 := by omega
        have y4 : c < 97 := by omega
        go_wp2
        go_loop [6, 7] (fun ok j => ∃ n : Nat, n ≤ SG.size ∧ j = .int .i64 n ∧ ok = .bool ((sgl.take n).any (· == c))) (fun _ j => SG.size - (intOf j).toNat)
        case atStart => exact ⟨0, Nat.zero_le _, rfl, rfl⟩
        case round =>
          obtain ⟨n, hn, rfl, rfl⟩ := hrel
          by_cases hn2 : n < SG.size
          · have hsu := sgl_succ c n (by omega)
            have hix := at0_sb SG n hn2
            rw [HG1.out] at hix
            rw [hix] at hsu
            have HSU := Lib.hid hsu; clear hsu hix
            generalize hq : (sgl.take n).any (· == c) = q at *
            have HQ := Lib.hid hq; clear hq
            cases q
            · go_wp2
              exact ⟨⟨n + 1, by omega, by go_num, by rw [HSU.out]; rfl⟩, by simp [intOf]; omega⟩
            · go_wp2
              exact ⟨⟨n + 1, by omega, by go_num, by rw [HSU.out]; rfl⟩, by simp [intOf]; omega⟩
          · obtain rfl : n = SG.size := by omega
            clear hn hn2
            rw [HG2.out]
            generalize hq : (sgl.take 19).any (· == c) = q at *
            have HQ := Lib.hid hq; clear hq
            cases q
            · have HK := Lib.hid HLC.out
              go_wp2
              go_ret
              refine ⟨?_, rfl⟩
              have : localL (sb s) = false := by
                cases h : localL (sb s)
                · rfl
                · have := HI.out.1 h k hlk; rw [HK.out] at this; cases this
              rw [this]; rfl
            · have HK := Lib.hid HLC.out
              go_wp2
              refine ⟨⟨k + 1, by omega, by go_num, fun j hj => ?_⟩, by simp [intOf]; omega⟩
              rcases Nat.lt_or_ge j k with h | h
              · exact H.out j h
              · obtain rfl : j = k := by omega
                exact HK.out
      · have y4 : c < 97 := by omega
        have y5 : decide (c ≤ 57) = false := by simp; omega
        go_wp2
        go_loop [6, 7] (fun ok j => ∃ n : Nat, n ≤ SG.size ∧ j = .int .i64 n ∧ ok = .bool ((sgl.take n).any (· == c))) (fun _ j => SG.size - (intOf j).toNat)
        case atStart => exact ⟨0, Nat.zero_le _, rfl, rfl⟩
        case round =>
          obtain ⟨n, hn, rfl, rfl⟩ := hrel
          by_cases hn2 : n < SG.size
          · have hsu := sgl_succ c n (by omega)
            have hix := at0_sb SG n hn2
            rw [HG1.out] at hix
            rw [hix] at hsu
            have HSU := Lib.hid hsu; clear hsu hix
            generalize hq : (sgl.take n).any (· == c) = q at *
            have HQ := Lib.hid hq; clear hq
            cases q
            · go_wp2
              exact ⟨⟨n + 1, by omega, by go_num, by rw [HSU.out]; rfl⟩, by simp [intOf]; omega⟩
            · go_wp2
              exact ⟨⟨n + 1, by omega, by go_num, by rw [HSU.out]; rfl⟩, by simp [intOf]; omega⟩
          · obtain rfl : n = SG.size := by omega
            clear hn hn2
            rw [HG2.out]
            generalize hq : (sgl.take 19).any (· == c) = q at *
            have HQ := Lib.hid hq; clear hq
            cases q
            · have HK := Lib.hid HLC.out
              go_wp2
              go_ret
              refine ⟨?_, rfl⟩
              have : localL (sb s) = false := by
                cases h : localL (sb s)
                · rfl
                · have := HI.out.1 h k hlk; rw [HK.out] at this; cases this
              rw [this]; rfl
            · have HK := Lib.hid HLC.out
              go_wp2
              refine ⟨⟨k + 1, by omega, by go_num, fun j hj => ?_⟩, by simp [intOf]; omega⟩
              rcases Nat.lt_or_ge j k with h | h
              · exact H.out j h
              · obtain rfl : j = k := by omega
                exact HK.out
      · have y5 : decide (c ≤ 57) = false := by simp; omega
        have y6 : decide (c ≤ 90) = false := by simp; omega
        go_wp2
        go_loop [6, 7] (fun ok j => ∃ n : Nat, n ≤ SG.size ∧ j = .int .i64 n ∧ ok = .bool ((sgl.take n).any (· == c))) (fun _ j => SG.size - (intOf j).toNat)
        case atStart => exact ⟨0, Nat.zero_le _, rfl, rfl⟩
        case round =>
          obtain ⟨n, hn, rfl, rfl⟩ := hrel
          by_cases hn2 : n < SG.size
          · have hsu := sgl_succ c n (by omega)
            have hix := at0_sb SG n hn2
            rw [HG1.out] at hix
            rw [hix] at hsu
            have HSU := Lib.hid hsu; clear hsu hix
            generalize hq : (sgl.take n).any (· == c) = q at *
            have HQ := Lib.hid hq; clear hq
            cases q
            · go_wp2
              exact ⟨⟨n + 1, by omega, by go_num, by rw [HSU.out]; rfl⟩, by simp [intOf]; omega⟩
            · go_wp2
              exact ⟨⟨n + 1, by omega, by go_num, by rw [HSU.out]; rfl⟩, by simp [intOf]; omega⟩
          · obtain rfl : n = SG.size := by omega
            clear hn hn2
            rw [HG2.out]
            generalize hq : (sgl.take 19).any (· == c) = q at *
            have HQ := Lib.hid hq; clear hq
            cases q
            · have HK := Lib.hid HLC.out
              go_wp2
              go_ret
              refine ⟨?_, rfl⟩
              have : localL (sb s) = false := by
                cases h : localL (sb s)
                · rfl
                · have := HI.out.1 h k hlk; rw [HK.out] at this; cases this
              rw [this]; rfl
            · have HK := Lib.hid HLC.out
              go_wp2
              refine ⟨⟨k + 1, by omega, by go_num, fun j hj => ?_⟩, by simp [intOf]; omega⟩
              rcases Nat.lt_or_ge j k with h | h
              · exact H.out j h
              · obtain rfl : j = k := by omega
                exact HK.out
      · have y5 : decide (c ≤ 57) = false := by simp; omega
        have y6 : decide (c ≤ 90) = false := by simp; omega
        have y7 : decide (c ≤ 122) = false := by simp; omega
        go_wp2
        go_loop [6, 7] (fun ok j => ∃ n : Nat, n ≤ SG.size ∧ j = .int .i64 n ∧ ok = .bool ((sgl.take n).any (· == c))) (fun _ j => SG.size - (intOf j).toNat)
        case atStart => exact ⟨0, Nat.zero_le _, rfl, rfl⟩
        case round =>
          obtain ⟨n, hn, rfl, rfl⟩ := hrel
          by_cases hn2 : n < SG.size
          · have hsu := sgl_succ c n (by omega)
            have hix := at0_sb SG n hn2
            rw [HG1.out] at hix
            rw [hix] at hsu
            have HSU := Lib.hid hsu; clear hsu hix
            generalize hq : (sgl.take n).any (· == c) = q at *
            have HQ := Lib.hid hq; clear hq
            cases q
            · go_wp2
              exact ⟨⟨n + 1, by omega, by go_num, by rw [HSU.out]; rfl⟩, by simp [intOf]; omega⟩
            · go_wp2
              exact ⟨⟨n + 1, by omega, by go_num, by rw [HSU.out]; rfl⟩, by simp [intOf]; omega⟩
          · obtain rfl : n = SG.size := by omega
            clear hn hn2
            rw [HG2.out]
            generalize hq : (sgl.take 19).any (· == c) = q at *
            have HQ := Lib.hid hq; clear hq
            cases q
            · have HK := Lib.hid HLC.out
              go_wp2
              go_ret
              refine ⟨?_, rfl⟩
              have : localL (sb s) = false := by
                cases h : localL (sb s)
                · rfl
                · have := HI.out.1 h k hlk; rw [HK.out] at this; cases this
              rw [this]; rfl
            · have HK := Lib.hid HLC.out
              go_wp2
              refine ⟨⟨k + 1, by omega, by go_num, fun j hj => ?_⟩, by simp [intOf]; omega⟩
              rcases Nat.lt_or_ge j k with h | h
              · exact H.out j h
              · obtain rfl : j = k := by omega
                exact HK.out
    · go_wp2
      go_ret
      refine ⟨?_, rfl⟩
      have : localL (sb s) = true := HI.out.2 (fun i hi => H.out i (by have := HL.out; omega))
      rw [this]; rfl
theorem ref_local_is (s : ByteArray) (b : Bool) (w : World) (hs : s.size ≤ maxLen) (h : localL (sb s) = b) :
    Calls Tryz.prog 61 #[.string s] w fun e w' => e = .returned (.bool b) ∧ w = w' := by rw [← h]; exact ref_local_any s w hs
end Go.Proofs.YthllidchoodofaaGreatDoor
namespace Go.Proofs.YthllidchoodofaaGreatDoor
open Go.RowKit
set_option linter.unusedVariables false

def rdI (l : List Int) : List Int := (l.reverse.dropWhile spI).reverse
def strSize : Value → Nat
  | .string s => s.size
  | _ => 0
theorem rd_cons (x : Int) (r : List Int) : rdI (x :: r) = if rdI r = [] then (if spI x then [] else [x]) else x :: rdI r := by
  unfold rdI
  rw [List.reverse_cons, List.dropWhile_append]
  cases h : (r.reverse.dropWhile spI) with
  | nil =>
    simp only [List.isEmpty_nil, if_true, List.reverse_nil]
    by_cases hx : spI x = true
    · simp [hx]
    · simp [hx]
  | cons a b =>
    simp
theorem trim_comm (l : List Int) : (rdI l).dropWhile spI = rdI (l.dropWhile spI) := by
  induction l with
  | nil => rfl
  | cons x r ih =>
    rw [rd_cons]
    by_cases hx : spI x = true
    · have e : (x :: r).dropWhile spI = r.dropWhile spI := by simp [hx]
      rw [e]
      by_cases hr : rdI r = []
      · rw [if_pos hr, if_pos hx, ← ih, hr]
      · have e2 : (x :: rdI r).dropWhile spI = (rdI r).dropWhile spI := by simp [hx]
        rw [if_neg hr, e2, ih]
    · have e : (x :: r).dropWhile spI = x :: r := by simp [hx]
      rw [e, rd_cons]
      by_cases hr : rdI r = []
      · rw [if_pos hr, if_neg hx]
        simp [hx]
      · rw [if_neg hr]
        simp [hx]
theorem trimI_eq (l : List Int) : trimI l = rdI (l.dropWhile spI) := trim_comm l
theorem mail_nil : mailB [] = false := by decide
theorem dw_head {l : List Int} (h : 0 < l.length) (h2 : at0 l 0 = 32) : l.dropWhile spI = (l.drop 1).dropWhile spI := by
  cases l with
  | nil => simp at h
  | cons x r =>
    rw [at0_cons_zero] at h2
    rw [List.dropWhile_cons, if_pos (by rw [h2]; decide)]; rfl
theorem dw_stop {l : List Int} (h : 0 < l.length) (h2 : at0 l 0 ≠ 32) : l.dropWhile spI = l := by
  cases l with
  | nil => rfl
  | cons x r =>
    rw [at0_cons_zero] at h2
    rw [List.dropWhile_cons, if_neg]
    simp [spI, h2]
theorem rev_head (l : List Int) (h : 0 < l.length) : at0 l.reverse 0 = at0 l (l.length - 1) := by
  rw [at0_lt (by simpa using h), at0_lt (by omega), List.getElem_reverse]; simp
theorem rd_last {l : List Int} (h : 0 < l.length) (h2 : at0 l (l.length - 1) = 32) : rdI l = rdI (l.take (l.length - 1)) := by
  unfold rdI
  rw [dw_head (l := l.reverse) (by simpa using h) (by rw [rev_head l h]; exact h2)]
  congr 2
  rw [List.drop_reverse]
theorem rd_stop {l : List Int} (h : 0 < l.length) (h2 : at0 l (l.length - 1) ≠ 32) : rdI l = l := by
  unfold rdI
  rw [dw_stop (l := l.reverse) (by simpa using h) (by rw [rev_head l h]; exact h2), List.reverse_reverse]
theorem atI_at {l : List Int} {k : Nat} (hk : k < l.length) (h : (l.take k).all (fun x => !(x == 64)) = true) (h2 : at0 l k = 64) : atI l = k := findIdx_at hk h (by rw [h2]; rfl)
theorem rd_nil : rdI [] = [] := rfl
/-- What is told of an email address. -/
def MailPost (s : ByteArray) (B : Nat) (w : World) (e : Ending) (w' : World) : Prop :=
  (mailB (trimI (sb s)) = true ∧ e = .returned (.tuple #[.string (lowS (trB s)), .int .i64 0]) ∧ Below B w w') ∨
  (mailB (trimI (sb s)) = false ∧ e = .returned (.tuple #[.string ⟨#[]⟩, .int .i64 2]) ∧ Below B w w')
set_option maxHeartbeats 4000000 in
theorem ref_email_any (s : ByteArray) (w : World) (hs : s.size ≤ 140737488355328) :
    Calls Tryz.prog 51 #[.string s] w (MailPost s w.heap.size w) := by
  go_enter Tryz.func51, Tryz.ntmps51
  go_wp2
  go_loop [0] (fun v => ∃ t : ByteArray, v = .string t ∧ (sb t).dropWhile spI = (sb s).dropWhile spI ∧ t.size ≤ s.size) (fun v => strSize v)
  case atStart => exact ⟨s, rfl, rfl, Nat.le_refl _⟩
  case round =>
    obtain ⟨t, rfl, ht, hts⟩ := hrel
    have HT := Lib.hid ht; clear ht
    have HTL := Lib.hid (sb_length t)
    by_cases h0 : 0 < t.size
    rotate_left
    · have hz : t.size = 0 := by omega
      obtain rfl : t = ⟨#[]⟩ := by
        apply sb_inj
        rw [List.eq_nil_of_length_eq_zero (by rw [sb_length]; exact hz : (sb t).length = 0)]; rfl
      have HM := Lib.hid (show mailB (trimI (sb s)) = false by rw [trimI_eq, ← HT.out]; decide)
      clear hz h0 hts
      go_wp2
      go_rounds 1
      go_wp2
      go_rounds 1
      go_ret2
      exact .inr ⟨HM.out, rfl, Below.refl _ _⟩
    have hat := at0_sb t 0 h0
    have h0i : (1 : Int) ≤ t.size := by omega
    have htl : 0 < (sb t).length := by rw [sb_length]; exact h0
    by_cases h32 : at0 (sb t) 0 = 32
    · have hb : (((t[0]'h0).toNat : Int) == 32) = true := by rw [← hat, h32]; rfl
      have hx := sb_tail t 1
      have hd := dw_head htl h32
      rw [← hx] at hd
      have hxs : (t.extract 1 t.size).size + 1 = t.size := by rw [← sb_length, hx, List.length_drop, sb_length]; omega
      have HD := Lib.hid hd
      have HXS := Lib.hid hxs
      clear hat h32 hx hd htl hxs
      go_wp2
      refine ⟨⟨_, rfl, by rw [← HD.out]; exact HT.out, by have := HXS.out; omega⟩, ?_⟩
      have := HXS.out
      simp only [strSize]
      omega
    have hb : (((t[0]'h0).toNat : Int) == 32) = false := by rw [← hat, beq_eq_false_iff_ne]; exact h32
    have hts2 := dw_stop htl h32
    rw [HT.out] at hts2
    have HTS := Lib.hid hts2
    clear hat h32 htl hts2
    go_wp2
    go_loop [0] (fun v => ∃ u : ByteArray, v = .string u ∧ rdI (sb u) = rdI (sb t) ∧ u.size ≤ t.size) (fun v => strSize v)
    case atStart => exact ⟨t, rfl, rfl, Nat.le_refl _⟩
    case round =>
      obtain ⟨u, rfl, hu, hus⟩ := hrel
      clear hb
      have HU := Lib.hid hu; clear hu
      have HUL := Lib.hid (sb_length u)
      by_cases k0 : 0 < u.size
      rotate_left
      · have hz : u.size = 0 := by omega
        obtain rfl : u = ⟨#[]⟩ := by
          apply sb_inj
          rw [List.eq_nil_of_length_eq_zero (by rw [sb_length]; exact hz : (sb u).length = 0)]; rfl
        have HM := Lib.hid (show mailB (trimI (sb s)) = false by rw [trimI_eq, HTS.out, ← HU.out]; decide)
        clear hz k0 hus
        go_wp2
        go_rounds 1
        go_ret2
        exact .inr ⟨HM.out, rfl, Below.refl _ _⟩
      have kx : u.size - 1 < u.size := by omega
      have kat := at0_sb u (u.size - 1) kx
      have kul : 0 < (sb u).length := by rw [sb_length]; exact k0
      have ki1 : (0 : Int) ≤ (u.size : Int) - 1 := by omega
      have ki2 : (u.size : Int) - 1 < u.size := by omega
      have ki3 : ((u.size : Int) - 1).toNat = u.size - 1 := by omega
      have ki4 : (1 : Int) ≤ u.size := by omega
      by_cases k32 : at0 (sb u) (u.size - 1) = 32
      · have kb : (((u[u.size - 1]'kx).toNat : Int) == 32) = true := by rw [← kat, k32]; rfl
        have hx := sb_extract u 0 (u.size - 1)
        rw [List.drop_zero] at hx
        have hd := rd_last kul (by rw [sb_length]; exact k32)
        rw [sb_length, ← hx] at hd
        have hxs : (u.extract 0 (u.size - 1)).size + 1 = u.size := by rw [← sb_length, hx, List.length_take, sb_length]; omega
        have HD := Lib.hid hd
        have HXS := Lib.hid hxs
        clear kat k32 hx hd kul hxs
        go_wp2
        refine ⟨⟨_, rfl, by rw [← HD.out]; exact HU.out, by have := HXS.out; omega⟩, ?_⟩
        have := HXS.out
        simp only [strSize]
        omega
      have kb : (((u[u.size - 1]'kx).toNat : Int) == 32) = false := by rw [← kat, beq_eq_false_iff_ne]; exact k32
      have hu2 := rd_stop kul (by rw [sb_length]; exact k32)
      rw [HU.out, ← HTS.out, ← trimI_eq] at hu2
      have HUS := Lib.hid hu2
      clear kat k32 kul hu2
      go_wp2
      clear kb
      have hus2 : u.size ≤ 140737488355328 := by omega
      go_loop [4] (fun i => ∃ k : Nat, k ≤ u.size ∧ i = .int .i64 k ∧ ((sb u).take k).all (fun x => !(x == 64)) = true) (fun i => u.size - (intOf i).toNat)
      case atStart => exact ⟨0, Nat.zero_le _, rfl, rfl⟩
      case round =>
        obtain ⟨k, hk, rfl, hall⟩ := hrel
        have H := Lib.hid hall; clear hall
        by_cases hlt : k < u.size
        rotate_left
        · have hno : mailB (trimI (sb s)) = false := by
            rw [HUS.out, mailB, decide_eq_false]
            · rfl
            · have h := H.out
              rw [List.take_of_length_le (by have := HUL.out; omega)] at h
              have : atI (sb u) = (sb u).length := by
                unfold atI
                rw [List.findIdx_eq_length]
                intro x hx
                simpa using List.all_eq_true.1 h x hx
              omega
          have HM := Lib.hid hno
          clear hno
          go_wp2
          go_ret2
          exact .inr ⟨HM.out, rfl, Below.refl _ _⟩
        have hlk : k < (sb u).length := by have := HUL.out; omega
        have uat := at0_sb u k hlt
        have HAu := Lib.hid uat; clear uat
        by_cases h64 : at0 (sb u) k = 64
        rotate_left
        · have ub : (((u[k]'hlt).toNat : Int) == 64) = false := by rw [← HAu.out, beq_eq_false_iff_ne]; exact h64
          have H64 := Lib.hid h64; clear h64
          go_wp2
          refine ⟨⟨k + 1, by omega, by go_num, ?_⟩, by simp [intOf]; omega⟩
          rw [List.take_add_one, List.getElem?_eq_getElem hlk, List.all_append, H.out, Option.toList_some, ← at0_lt hlk]
          simp [H64.out]
        have ub : (((u[k]'hlt).toNat : Int) == 64) = true := by rw [← HAu.out, h64]; rfl
        have hatI : atI (sb u) = k := atI_at hlk H.out h64
        have hmail : mailB (trimI (sb s)) = (decide (u.size ≤ 254) && (localL ((sb u).take k) && (hostL ((sb u).drop (k + 1)) && ((sb u).drop (k + 1)).contains 46))) := by
          rw [HUS.out, mailB, hatI, decide_eq_true hlk, HUL.out]; rfl
        have hxa := sb_extract u 0 k
        rw [List.drop_zero] at hxa
        have hxb := sb_tail u (k + 1)
        rw [← hxa, ← hxb] at hmail
        have hk1 : (k : Int) + 1 ≤ u.size := by omega
        have hk4 : (k : Int) ≤ u.size := by omega
        have hsa : (u.extract 0 k).size ≤ maxLen := by rw [ByteArray.size_extract]; unfold maxLen; omega
        have hsb : (u.extract (k + 1) u.size).size ≤ maxLen := by rw [ByteArray.size_extract]; unfold maxLen; omega
        clear h64 hatI hxa hxb
        cases hL : localL (sb (u.extract 0 k))
        · have HM := Lib.hid (show mailB (trimI (sb s)) = false by rw [hmail, hL]; simp)
          have C1 := ref_local_is (u.extract 0 k) false w hsa hL
          clear hmail hL
          go_wp2_with fail
          refine C1.mono ?_
          rintro e w' ⟨rfl, rfl⟩
          go_wp2
          go_ret2
          exact .inr ⟨HM.out, rfl, Below.refl _ _⟩
        have C1 := ref_local_is (u.extract 0 k) true w hsa hL
        cases hH : hostL (sb (u.extract (k + 1) u.size))
        · have HM := Lib.hid (show mailB (trimI (sb s)) = false by rw [hmail, hH]; simp)
          have C2 := ref_host_is (u.extract (k + 1) u.size) false w hsb hH
          clear hmail hL hH
          go_wp2_with fail
          refine C1.mono ?_
          rintro e w' ⟨rfl, rfl⟩
          go_wp2_with fail
          refine C2.mono ?_
          rintro e w' ⟨rfl, rfl⟩
          go_wp2
          go_ret2
          exact .inr ⟨HM.out, rfl, Below.refl _ _⟩
        have C2 := ref_host_is (u.extract (k + 1) u.size) true w hsb hH
        cases hP : (sb (u.extract (k + 1) u.size)).contains 46
        · have HM := Lib.hid (show mailB (trimI (sb s)) = false by rw [hmail, hP]; simp)
          have C3 := ref_has_is (u.extract (k + 1) u.size) 46 false w hsb hP
          clear hmail hL hH hP
          go_wp2_with fail
          refine C1.mono ?_
          rintro e w' ⟨rfl, rfl⟩
          go_wp2_with fail
          refine C2.mono ?_
          rintro e w' ⟨rfl, rfl⟩
          go_wp2_with fail
          refine C3.mono ?_
          rintro e w' ⟨rfl, rfl⟩
          go_wp2
          go_ret2
          exact .inr ⟨HM.out, rfl, Below.refl _ _⟩
        have C3 := ref_has_is (u.extract (k + 1) u.size) 46 true w hsb hP
        by_cases h254 : u.size ≤ 254
        rotate_left
        · have HM := Lib.hid (show mailB (trimI (sb s)) = false by rw [hmail, decide_eq_false h254]; rfl)
          have h254i : (254 : Int) < u.size := by omega
          clear hmail hL hH hP
          go_wp2_with fail
          refine C1.mono ?_
          rintro e w' ⟨rfl, rfl⟩
          go_wp2_with fail
          refine C2.mono ?_
          rintro e w' ⟨rfl, rfl⟩
          go_wp2_with fail
          refine C3.mono ?_
          rintro e w' ⟨rfl, rfl⟩
          go_wp2
          go_ret2
          exact .inr ⟨HM.out, rfl, Below.refl _ _⟩
        have HM := Lib.hid (show mailB (trimI (sb s)) = true by rw [hmail, decide_eq_true h254, hL, hH, hP]; rfl)
        have h254i : (u.size : Int) ≤ 254 := by omega
        have HE := Lib.hid (show u = trB s from sb_inj (by rw [sb_trB]; exact HUS.out.symm))
        have C4 := ref_lower_any u w (by unfold maxLen; omega)
        clear hmail hL hH hP
        go_wp2_with fail
        refine C1.mono ?_
        rintro e w' ⟨rfl, rfl⟩
        go_wp2_with fail
        refine C2.mono ?_
        rintro e w' ⟨rfl, rfl⟩
        go_wp2_with fail
        refine C3.mono ?_
        rintro e w' ⟨rfl, rfl⟩
        go_wp2_with fail
        refine C4.mono ?_
        rintro e w9 ⟨rfl, hb9⟩
        go_wp2
        go_ret2
        refine .inl ⟨HM.out, ?_, hb9⟩
        rw [← HE.out]; rfl
end Go.Proofs.YthllidchoodofaaGreatDoor
namespace Go.Proofs.YthllidchoodofaaGreatDoor
open Go.RowKit
set_option linter.unusedVariables false
set_option linter.unusedSimpArgs false
set_option maxRecDepth 8000

theorem refEmail_v (s : ByteArray) (w : World) (hs : s.size ≤ 140737488355328) : CV Tryz.prog 51 [.string s] w fun v W => v = .tuple #[.string (mailA s).1, .int .i64 (mailA s).2] := by
  refine (ref_email_any s w hs).mono fun e w' h => ?_
  unfold mailA
  rcases h with ⟨h1, h2, h3⟩ | ⟨h1, h2, h3⟩
  · rw [if_pos h1]; exact ⟨_, h2, rfl, h3⟩
  · rw [if_neg (by rw [h1]; decide)]; exact ⟨_, h2, rfl, h3⟩
theorem refPhone_v (s : ByteArray) (w : World) (hs : s.size ≤ 140737488355328) : CV Tryz.prog 52 [.string { data := #[] }, .string s] w fun v W => v = .tuple #[.string (phoneA s).1, .int .i64 (phoneA s).2] := by
  refine (ref_phone_empty s w hs country_empty).mono fun e w' h => ?_
  unfold phoneA
  rcases h with ⟨f, h1, h2, h3⟩ | ⟨h1, h2, h3⟩
  · rw [h1]; exact ⟨_, h2, rfl, h3⟩
  · rw [h1]; exact ⟨_, h2, rfl, h3⟩
set_option maxHeartbeats 1000000 in
theorem refMake_v (m s : ByteArray) (w : World) (L : List Nat) (hL : LL L w)   (hs : s.size ≤ 140737488355328) : CV Tryz.prog 47 [.string m, .string s] w fun v W => v = .tuple #[.agg #[.string (makeA m s).1, .string (makeA m s).2.1], .int .i64 (makeA m s).2.2] := by
  refine cv_enter (N := 30) (f := [(0, .string m), (1, .string s)]) Tryz.func47 rfl rfl rfl rfl fun Q hQ hE => ?_
  have hB := Below.refl w.heap.size w
  refine WC.seq fun K1 hK1 => ?_
  refine WC.region ?_
  refine WL.get (dx_alloc rfl ty_zero_24 rfl) rfl rfl ?_
  rintro _ W2 ⟨rfl, k3, b4, z5⟩
  have l6 := hB.size
  replace hB := below_then hB b4
  replace hL := LL.more hL z5
  refine WL.val (dx_assign rfl rfl) rfl rfl ?_
  refine WL.nil ?_
  refine hK1 ?_
  refine WC.seq fun K7 hK7 => ?_
  refine WC.region ?_
  refine WL.val (dx_assign rfl rfl) rfl rfl ?_
  refine WL.val (dx_assign rfl rfl) rfl rfl ?_
  refine WL.nil ?_
  refine hK7 ?_
  refine WC.seq fun K8 hK8 => ?_
  refine WC.seq fun K9 hK9 => ?_
  refine WC.region ?_
  refine WL.val (dx_move rfl rfl) rfl rfl ?_
  refine WL.nil ?_
  refine hK9 ?_
  refine WC.block ?_
  refine WC.seq fun K10 hK10 => ?_
  refine WC.region ?_
  refine WL.val (dx_eqlT rfl rfl rfl) rfl rfl ?_
  refine WL.val (dx_assign rfl rfl) rfl rfl ?_
  refine WL.nil ?_
  refine hK10 ?_
  refine WC.cond rfl (fun c11 => ?_) (fun c11 => ?_)
  ·
    replace c11 := of_decide_eq_true c11
    refine WC.region ?_
    refine WL.val (dx_move rfl rfl) rfl rfl ?_
    refine WL.get (dx_cv rfl Tryz.func51 rfl rfl rfl (refEmail_v s W2 hs)) rfl rfl ?_
    rintro _ W13 ⟨rfl, b12⟩
    replace k3 := k3.below b12
    replace hB := below_then hB b12
    replace hL := LL.below hL b12
    refine WL.val (dx_move rfl rfl) rfl rfl ?_
    refine WL.val (dx_extract rfl rfl rfl) rfl rfl ?_
    refine WL.val (dx_extract rfl rfl rfl) rfl rfl ?_
    refine WL.val (dx_assign rfl rfl) rfl rfl ?_
    refine WL.val (dx_assign rfl rfl) rfl rfl ?_
    refine WL.nil ?_
    refine hK8 ?_
    refine WC.seq fun K14 hK14 => ?_
    refine WC.seq fun K15 hK15 => ?_
    refine WC.region ?_
    refine WL.val (dx_move rfl rfl) rfl rfl ?_
    refine WL.val (dx_neq rfl rfl rfl) rfl rfl ?_
    refine WL.nil ?_
    refine hK15 ?_
    refine WC.cond rfl (fun c16 => ?_) (fun c16 => ?_)
    ·
      replace c16 := bnot_t c16
      replace c16 := of_decide_eq_false c16
      refine WC.seq fun K17 hK17 => ?_
      refine WC.region ?_
      refine WL.val (dx_build rfl rfl (built_of_O (cs := [.string ⟨#[]⟩, .string ⟨#[]⟩]) (by kernel_rfl) oc_nil)) rfl rfl ?_
      refine WL.val (dx_move rfl rfl) rfl rfl ?_
      refine WL.do (dx_store (cs' := [.string ⟨#[]⟩, .string ⟨#[]⟩]) (vs := [.string ⟨#[]⟩, .string ⟨#[]⟩]) rfl ty_size_24_2 rfl rfl rfl (oc_cons rfl (oc_cons rfl oc_nil)) k3 rfl (Nat.le_of_ble_eq_true rfl) rfl) rfl ?_
      rintro _ W18 ⟨k20, o19⟩
      clear k3
      replace hB := o19.below hB l6
      replace hL := LL.only hL o19
      refine WL.val (dx_assign rfl rfl) rfl rfl ?_
      refine WL.nil ?_
      refine hK17 ?_
      refine WC.ret fun a_ ha_ => ?_
      exact hQ (cv_ret2 rfl (.agg rfl ty_agg_24_2 k20.range rfl) (.tmp rfl) (by unfold makeA; simp [*]) hB ha_)
    ·
      replace c16 := bnot_f c16
      replace c16 := of_decide_eq_true c16
      refine WC.skip ?_
      refine hK14 ?_
      refine WC.seq fun K21 hK21 => ?_
      refine WC.region ?_
      refine WL.val (dx_move rfl rfl) rfl rfl ?_
      refine WL.val (dx_move rfl rfl) rfl rfl ?_
      refine WL.val (dx_build rfl rfl (built_of_O (cs := [.string m, .string ((mailA s).1)]) (by kernel_rfl) (oc_cons rfl (oc_cons rfl oc_nil)))) rfl rfl ?_
      refine WL.do (dx_store (cs' := [.string m, .string ((mailA s).1)]) (vs := [.string m, .string ((mailA s).1)]) rfl ty_size_24_2 rfl rfl rfl (oc_cons rfl (oc_cons rfl oc_nil)) k3 rfl (Nat.le_of_ble_eq_true rfl) rfl) rfl ?_
      rintro _ W22 ⟨k24, o23⟩
      clear k3
      replace hB := o23.below hB l6
      replace hL := LL.only hL o23
      refine WL.val (dx_assign rfl rfl) rfl rfl ?_
      refine WL.nil ?_
      refine hK21 ?_
      refine WC.ret fun a_ ha_ => ?_
      exact hQ (cv_ret2 rfl (.agg rfl ty_agg_24_2 k24.range rfl) (.tmp rfl) (by unfold makeA; simp [*]) hB ha_)
  ·
    replace c11 := of_decide_eq_false c11
    refine WC.seq fun K25 hK25 => ?_
    refine WC.region ?_
    refine WL.val (dx_eqlT rfl rfl rfl) rfl rfl ?_
    refine WL.val (dx_assign rfl rfl) rfl rfl ?_
    refine WL.nil ?_
    refine hK25 ?_
    refine WC.cond rfl (fun c26 => ?_) (fun c26 => ?_)
    ·
      replace c26 := of_decide_eq_true c26
      refine WC.region ?_
      refine WL.val (dx_move rfl rfl) rfl rfl ?_
      refine WL.get (dx_cv rfl Tryz.func52 rfl rfl rfl (refPhone_v s W2 hs)) rfl rfl ?_
      rintro _ W28 ⟨rfl, b27⟩
      replace k3 := k3.below b27
      replace hB := below_then hB b27
      replace hL := LL.below hL b27
      refine WL.val (dx_move rfl rfl) rfl rfl ?_
      refine WL.val (dx_extract rfl rfl rfl) rfl rfl ?_
      refine WL.val (dx_extract rfl rfl rfl) rfl rfl ?_
      refine WL.val (dx_assign rfl rfl) rfl rfl ?_
      refine WL.val (dx_assign rfl rfl) rfl rfl ?_
      refine WL.nil ?_
      refine hK8 ?_
      refine WC.seq fun K29 hK29 => ?_
      refine WC.seq fun K30 hK30 => ?_
      refine WC.region ?_
      refine WL.val (dx_move rfl rfl) rfl rfl ?_
      refine WL.val (dx_neq rfl rfl rfl) rfl rfl ?_
      refine WL.nil ?_
      refine hK30 ?_
      refine WC.cond rfl (fun c31 => ?_) (fun c31 => ?_)
      ·
        replace c31 := bnot_t c31
        replace c31 := of_decide_eq_false c31
        refine WC.seq fun K32 hK32 => ?_
        refine WC.region ?_
        refine WL.val (dx_build rfl rfl (built_of_O (cs := [.string ⟨#[]⟩, .string ⟨#[]⟩]) (by kernel_rfl) oc_nil)) rfl rfl ?_
        refine WL.val (dx_move rfl rfl) rfl rfl ?_
        refine WL.do (dx_store (cs' := [.string ⟨#[]⟩, .string ⟨#[]⟩]) (vs := [.string ⟨#[]⟩, .string ⟨#[]⟩]) rfl ty_size_24_2 rfl rfl rfl (oc_cons rfl (oc_cons rfl oc_nil)) k3 rfl (Nat.le_of_ble_eq_true rfl) rfl) rfl ?_
        rintro _ W33 ⟨k35, o34⟩
        clear k3
        replace hB := o34.below hB l6
        replace hL := LL.only hL o34
        refine WL.val (dx_assign rfl rfl) rfl rfl ?_
        refine WL.nil ?_
        refine hK32 ?_
        refine WC.ret fun a_ ha_ => ?_
        exact hQ (cv_ret2 rfl (.agg rfl ty_agg_24_2 k35.range rfl) (.tmp rfl) (by unfold makeA; simp [*]) hB ha_)
      ·
        replace c31 := bnot_f c31
        replace c31 := of_decide_eq_true c31
        refine WC.skip ?_
        refine hK29 ?_
        refine WC.seq fun K36 hK36 => ?_
        refine WC.region ?_
        refine WL.val (dx_move rfl rfl) rfl rfl ?_
        refine WL.val (dx_move rfl rfl) rfl rfl ?_
        refine WL.val (dx_build rfl rfl (built_of_O (cs := [.string m, .string ((phoneA s).1)]) (by kernel_rfl) (oc_cons rfl (oc_cons rfl oc_nil)))) rfl rfl ?_
        refine WL.do (dx_store (cs' := [.string m, .string ((phoneA s).1)]) (vs := [.string m, .string ((phoneA s).1)]) rfl ty_size_24_2 rfl rfl rfl (oc_cons rfl (oc_cons rfl oc_nil)) k3 rfl (Nat.le_of_ble_eq_true rfl) rfl) rfl ?_
        rintro _ W37 ⟨k39, o38⟩
        clear k3
        replace hB := o38.below hB l6
        replace hL := LL.only hL o38
        refine WL.val (dx_assign rfl rfl) rfl rfl ?_
        refine WL.nil ?_
        refine hK36 ?_
        refine WC.ret fun a_ ha_ => ?_
        exact hQ (cv_ret2 rfl (.agg rfl ty_agg_24_2 k39.range rfl) (.tmp rfl) (by unfold makeA; simp [*]) hB ha_)
    ·
      replace c26 := of_decide_eq_false c26
      refine WC.skip ?_
      refine hK8 ?_
      refine WC.seq fun K40 hK40 => ?_
      refine WC.seq fun K41 hK41 => ?_
      refine WC.region ?_
      refine WL.val (dx_move rfl rfl) rfl rfl ?_
      refine WL.val (dx_neq rfl rfl rfl) rfl rfl ?_
      refine WL.nil ?_
      refine hK41 ?_
      refine WC.condT rfl ?_
      refine WC.seq fun K42 hK42 => ?_
      refine WC.region ?_
      refine WL.val (dx_build rfl rfl (built_of_O (cs := [.string ⟨#[]⟩, .string ⟨#[]⟩]) (by kernel_rfl) oc_nil)) rfl rfl ?_
      refine WL.val (dx_move rfl rfl) rfl rfl ?_
      refine WL.do (dx_store (cs' := [.string ⟨#[]⟩, .string ⟨#[]⟩]) (vs := [.string ⟨#[]⟩, .string ⟨#[]⟩]) rfl ty_size_24_2 rfl rfl rfl (oc_cons rfl (oc_cons rfl oc_nil)) k3 rfl (Nat.le_of_ble_eq_true rfl) rfl) rfl ?_
      rintro _ W43 ⟨k45, o44⟩
      clear k3
      replace hB := o44.below hB l6
      replace hL := LL.only hL o44
      refine WL.val (dx_assign rfl rfl) rfl rfl ?_
      refine WL.nil ?_
      refine hK42 ?_
      refine WC.ret fun a_ ha_ => ?_
      exact hQ (cv_ret2 rfl (.agg rfl ty_agg_24_2 k45.range rfl) (.tmp rfl) (by unfold makeA; simp [*]) hB ha_)

set_option maxHeartbeats 1000000 in
theorem refRightA_v (m s : ByteArray) (w : World) (L : List Nat) (hL : LL L w)   (hs : s.size ≤ 140737488355328) : CV Tryz.prog 44 [.agg #[.string m, .string s]] w fun v W => v = .bool (rightA m s) := by
  refine cv_enter (N := 20) (f := [(0, .agg #[.string m, .string s])]) Tryz.func44 rfl rfl rfl rfl fun Q hQ hE => ?_
  have hB := Below.refl w.heap.size w
  refine WC.seq fun K1 hK1 => ?_
  refine WC.region ?_
  refine WL.get (dx_box rfl rfl rfl) rfl rfl ?_
  rintro _ W2 ⟨rfl, k3, b4, z5⟩
  have l6 := hB.size
  replace hB := below_then hB b4
  replace hL := LL.more hL z5
  refine WL.val (dx_assign rfl rfl) rfl rfl ?_
  refine WL.nil ?_
  refine hK1 ?_
  refine WC.seq fun K7 hK7 => ?_
  refine WC.region ?_
  refine WL.val (dx_fld (o1 := 0) rfl ty_fld_24_0_0 rfl rfl) rfl rfl ?_
  refine WL.val (dx_load rfl ty_one_9 rfl (k3.cell (k := 0) rfl)) rfl rfl ?_
  refine WL.val (dx_fld (o1 := 1) rfl ty_fld_24_1_1 rfl rfl) rfl rfl ?_
  refine WL.val (dx_load rfl ty_one_9 rfl (k3.cell (k := 1) rfl)) rfl rfl ?_
  refine WL.get (dx_cv rfl Tryz.func47 rfl rfl rfl (refMake_v m s W2 _ hL hs)) rfl rfl ?_
  rintro _ W9 ⟨rfl, b8⟩
  replace k3 := k3.below b8
  replace hB := below_then hB b8
  replace hL := LL.below hL b8
  refine WL.val (dx_move rfl rfl) rfl rfl ?_
  refine WL.val (dx_extract rfl rfl rfl) rfl rfl ?_
  refine WL.val (dx_extract rfl rfl rfl) rfl rfl ?_
  refine WL.get (dx_alloc rfl ty_zero_24 rfl) rfl rfl ?_
  rintro _ W10 ⟨rfl, k11, b12, z13⟩
  have n14 : w.heap.size ≠ W9.heap.size := Nat.ne_of_lt k3.lt
  have l15 := hB.size
  replace k3 := k3.below b12
  replace hB := below_then hB b12
  replace hL := LL.more hL z13
  refine WL.do (dx_store (cs' := [.string ((makeA m s).1), .string ((makeA m s).2.1)]) (vs := [.string ((makeA m s).1), .string ((makeA m s).2.1)]) rfl ty_size_24_2 rfl rfl rfl (oc_cons rfl (oc_cons rfl oc_nil)) k11 rfl (Nat.le_of_ble_eq_true rfl) rfl) rfl ?_
  rintro _ W16 ⟨k18, o17⟩
  replace k3 := k3.other o17 n14
  clear k11
  replace hB := o17.below hB l15
  replace hL := LL.only hL o17
  refine WL.val (dx_assign rfl rfl) rfl rfl ?_
  refine WL.nil ?_
  refine hK7 ?_
  refine WC.seq fun K19 hK19 => ?_
  refine WC.region ?_
  refine WL.val (dx_move rfl rfl) rfl rfl ?_
  refine WL.val (dx_eql rfl rfl rfl) rfl rfl ?_
  refine WL.val (dx_move rfl rfl) rfl rfl ?_
  refine WL.split 15 rfl (fun g20 => ?_) (fun g20 => ?_)
  ·
    replace g20 := of_decide_eq_true g20
    refine WL.val (dx_loadN rfl ty_agg_24_2 rfl k3.range rfl) rfl rfl ?_
    refine WL.val (dx_loadN rfl ty_agg_24_2 rfl k18.range rfl) rfl rfl ?_
    refine WL.val (dx_eqAd rfl rfl rfl) rfl rfl ?_
    refine WL.val (dx_pick rfl rfl rfl) rfl rfl ?_
    refine WL.val (dx_assign rfl rfl) rfl rfl ?_
    refine WL.nil ?_
    refine hK19 ?_
    refine WC.ret fun a_ ha_ => ?_
    exact hQ (cv_ret1 rfl (.tmp rfl) (by unfold rightA; simp [*]) hB ha_)
  ·
    replace g20 := of_decide_eq_false g20
    refine WL.off rfl rfl rfl ?_
    refine WL.off rfl rfl rfl ?_
    refine WL.off rfl rfl rfl ?_
    refine WL.val (dx_pick rfl rfl rfl) rfl rfl ?_
    refine WL.val (dx_assign rfl rfl) rfl rfl ?_
    refine WL.nil ?_
    refine hK19 ?_
    refine WC.ret fun a_ ha_ => ?_
    exact hQ (cv_ret1 rfl (.tmp rfl) (by unfold rightA; simp [*]) hB ha_)

set_option maxHeartbeats 1000000 in
theorem refSec_v (s : ByteArray) (w : World) (L : List Nat) (hL : LL L w)   (hs : s.size ≤ 140737488355328) : CV Tryz.prog 43 [.string s] w fun v W => v = .bool (wordB s) := by
  refine cv_enter (N := 28) (f := [(0, .string s)]) Tryz.func43 rfl rfl rfl rfl fun Q hQ hE => ?_
  have hB := Below.refl w.heap.size w
  refine WC.seq fun K1 hK1 => ?_
  refine WC.region ?_
  refine WL.val (dx_assign rfl rfl) rfl rfl ?_
  refine WL.nil ?_
  refine hK1 ?_
  refine WC.seq fun K2 hK2 => ?_
  refine WC.seq fun K3 hK3 => ?_
  refine WC.region ?_
  refine WL.val (dx_assign rfl rfl) rfl rfl ?_
  refine WL.nil ?_
  refine hK3 ?_
  refine WC.block ?_
  refine WC.loop (fun (i : Nat) => [(0, .string s), (2, .bool false), (3, .int .i64 (i : Int))]) (fun (i : Nat) W => i ≤ s.size ∧ (∀ k, k < i → okB s k = true) ∧ Below w.heap.size w W ∧ LL (L) W) (fun (i : Nat) => s.size - i) 0 (by repeat first | exact trivial | exact And.intro rfl trivial | refine And.intro rfl ?_ | refine And.intro (congrArg (fun z : Int => some (Value.int .i64 z)) (by omega)) ?_) ⟨Nat.zero_le _, (fun k hk => by omega), hB, hL⟩ ?_
  clear hB hL
  rintro K4 i W5 ⟨hi, hv, hB, hL⟩ hK4
  refine WC.seq fun K6 hK6 => ?_
  refine WC.seq fun K7 hK7 => ?_
  refine WC.region ?_
  refine WL.val (dx_move rfl rfl) rfl rfl ?_
  refine WL.val (dx_move rfl rfl) rfl rfl ?_
  refine WL.val (dx_lenT rfl Tryz.underlying9 rfl) rfl rfl ?_
  refine WL.val (dx_lss rfl rfl rfl) rfl rfl ?_
  refine WL.nil ?_
  refine hK7 ?_
  refine WC.cond rfl (fun c8 => ?_) (fun c8 => ?_)
  ·
    replace c8 := of_decide_eq_true c8
    refine WC.skip ?_
    refine hK6 ?_
    refine WC.seq fun K9 hK9 => ?_
    refine WC.block ?_
    refine WC.seq fun K10 hK10 => ?_
    refine WC.region ?_
    refine WL.val (dx_move rfl rfl) rfl rfl ?_
    refine WL.val (dx_move rfl rfl) rfl rfl ?_
    refine WL.val (dx_at i rfl Tryz.underlying9 rfl rfl (by omega) (by omega)) rfl rfl ?_
    refine WL.val (dx_lss rfl rfl rfl) rfl rfl ?_
    refine WL.val (dx_move rfl rfl) rfl rfl ?_
    refine WL.split 14 rfl (fun g11 => ?_) (fun g11 => ?_)
    ·
      replace g11 := of_decide_eq_true g11
      refine WL.off rfl rfl rfl ?_
      refine WL.off rfl rfl rfl ?_
      refine WL.off rfl rfl rfl ?_
      refine WL.off rfl rfl rfl ?_
      refine WL.val (dx_pick rfl rfl rfl) rfl rfl ?_
      refine WL.nil ?_
      refine hK10 ?_
      refine WC.condT rfl ?_
      refine WC.seq fun K12 hK12 => ?_
      refine WC.region ?_
      refine WL.val (dx_assign rfl rfl) rfl rfl ?_
      refine WL.nil ?_
      refine hK12 ?_
      refine WC.ret fun a_ ha_ => ?_
      exact hQ (cv_ret1 rfl (.tmp rfl) (by first | (rw [word_f (by first | exact .inr (.inr ⟨i, by omega, by unfold okB; rw [Bool.and_eq_false_iff, decide_eq_false_iff_not, decide_eq_false_iff_not]; omega⟩))]; done) | (rw [word_f (.inl (by omega))]; done) | (by_cases h64 : s.size ≤ 64; rw [word_t (by omega) h64 (fun k hk => hv k (by omega)), decide_eq_true (by omega)]; rw [word_f (.inr (.inl (by omega))), decide_eq_false (by omega)])) hB ha_)
    ·
      replace g11 := of_decide_eq_false g11
      refine WL.val (dx_move rfl rfl) rfl rfl ?_
      refine WL.val (dx_move rfl rfl) rfl rfl ?_
      refine WL.val (dx_at i rfl Tryz.underlying9 rfl rfl (by omega) (by omega)) rfl rfl ?_
      refine WL.val (dx_gtr rfl rfl rfl) rfl rfl ?_
      refine WL.val (dx_pick rfl rfl rfl) rfl rfl ?_
      refine WL.nil ?_
      refine hK10 ?_
      refine WC.cond rfl (fun c13 => ?_) (fun c13 => ?_)
      ·
        replace c13 := of_decide_eq_true c13
        refine WC.seq fun K14 hK14 => ?_
        refine WC.region ?_
        refine WL.val (dx_assign rfl rfl) rfl rfl ?_
        refine WL.nil ?_
        refine hK14 ?_
        refine WC.ret fun a_ ha_ => ?_
        exact hQ (cv_ret1 rfl (.tmp rfl) (by first | (rw [word_f (by first | exact .inr (.inr ⟨i, by omega, by unfold okB; rw [Bool.and_eq_false_iff, decide_eq_false_iff_not, decide_eq_false_iff_not]; omega⟩))]; done) | (rw [word_f (.inl (by omega))]; done) | (by_cases h64 : s.size ≤ 64; rw [word_t (by omega) h64 (fun k hk => hv k (by omega)), decide_eq_true (by omega)]; rw [word_f (.inr (.inl (by omega))), decide_eq_false (by omega)])) hB ha_)
      ·
        replace c13 := of_decide_eq_false c13
        refine WC.skip ?_
        refine hK9 ?_
        refine WC.region ?_
        refine WL.val (dx_move rfl rfl) rfl rfl ?_
        refine WL.val (dx_add (r := (i : Int) + 1) rfl rfl rfl (wrap64_id (by omega))) rfl rfl ?_
        refine WL.val (dx_assign rfl rfl) rfl rfl ?_
        refine WL.nil ?_
        exact hK4 (i + 1) ⟨(by omega), (fun k hk => by rcases Nat.lt_or_ge k i with h | h; exact hv k h; have e : k = i := (by omega); subst e; unfold okB; simp; omega), hB, hL⟩ (by omega) (by repeat first | exact trivial | exact And.intro rfl trivial | refine And.intro rfl ?_ | refine And.intro (congrArg (fun z : Int => some (Value.int .i64 z)) (by omega)) ?_)
  ·
    replace c8 := of_decide_eq_false c8
    refine WC.exit ?_
    refine hK2 ?_
    refine WC.seq fun K15 hK15 => ?_
    refine WC.region ?_
    refine WL.val (dx_move rfl rfl) rfl rfl ?_
    refine WL.val (dx_lenT rfl Tryz.underlying9 rfl) rfl rfl ?_
    refine WL.val (dx_geq rfl rfl rfl) rfl rfl ?_
    refine WL.val (dx_move rfl rfl) rfl rfl ?_
    refine WL.split 23 rfl (fun g16 => ?_) (fun g16 => ?_)
    ·
      replace g16 := of_decide_eq_true g16
      refine WL.val (dx_move rfl rfl) rfl rfl ?_
      refine WL.val (dx_lenT rfl Tryz.underlying9 rfl) rfl rfl ?_
      refine WL.val (dx_leq rfl rfl rfl) rfl rfl ?_
      refine WL.val (dx_pick rfl rfl rfl) rfl rfl ?_
      refine WL.val (dx_assign rfl rfl) rfl rfl ?_
      refine WL.nil ?_
      refine hK15 ?_
      refine WC.ret fun a_ ha_ => ?_
      exact hQ (cv_ret1 rfl (.tmp rfl) (by first | (rw [word_f (by first | exact .inr (.inr ⟨i, by omega, by unfold okB; rw [Bool.and_eq_false_iff, decide_eq_false_iff_not, decide_eq_false_iff_not]; omega⟩))]; done) | (rw [word_f (.inl (by omega))]; done) | (by_cases h64 : s.size ≤ 64; rw [word_t (by omega) h64 (fun k hk => hv k (by omega)), decide_eq_true (by omega)]; rw [word_f (.inr (.inl (by omega))), decide_eq_false (by omega)])) hB ha_)
    ·
      replace g16 := of_decide_eq_false g16
      refine WL.off rfl rfl rfl ?_
      refine WL.off rfl rfl rfl ?_
      refine WL.off rfl rfl rfl ?_
      refine WL.val (dx_pick rfl rfl rfl) rfl rfl ?_
      refine WL.val (dx_assign rfl rfl) rfl rfl ?_
      refine WL.nil ?_
      refine hK15 ?_
      refine WC.ret fun a_ ha_ => ?_
      exact hQ (cv_ret1 rfl (.tmp rfl) (by first | (rw [word_f (by first | exact .inr (.inr ⟨i, by omega, by unfold okB; rw [Bool.and_eq_false_iff, decide_eq_false_iff_not, decide_eq_false_iff_not]; omega⟩))]; done) | (rw [word_f (.inl (by omega))]; done) | (by_cases h64 : s.size ≤ 64; rw [word_t (by omega) h64 (fun k hk => hv k (by omega)), decide_eq_true (by omega)]; rw [word_f (.inr (.inl (by omega))), decide_eq_false (by omega)])) hB ha_)

set_option maxHeartbeats 1000000 in
theorem timed_v (n : Int) (w : World) (L : List Nat) (hL : LL L w)  : CV Tryz.prog 20 [.int .i64 n] w fun v W => v = .bool (numZ n 0) := by
  refine cv_enter (N := 9) (f := [(0, .int .i64 n)]) Tryz.func20 rfl rfl rfl rfl fun Q hQ hE => ?_
  have hB := Below.refl w.heap.size w
  refine WC.seq fun K1 hK1 => ?_
  refine WC.region ?_
  refine WL.val (dx_assign rfl rfl) rfl rfl ?_
  refine WL.nil ?_
  refine hK1 ?_
  refine WC.seq fun K2 hK2 => ?_
  refine WC.region ?_
  refine WL.val (dx_move rfl rfl) rfl rfl ?_
  refine WL.val (dx_geq rfl rfl rfl) rfl rfl ?_
  refine WL.val (dx_move rfl rfl) rfl rfl ?_
  refine WL.split 5 rfl (fun g3 => ?_) (fun g3 => ?_)
  ·
    replace g3 := of_decide_eq_true g3
    refine WL.val (dx_move rfl rfl) rfl rfl ?_
    refine WL.val (dx_leq rfl rfl rfl) rfl rfl ?_
    refine WL.val (dx_pick rfl rfl rfl) rfl rfl ?_
    refine WL.val (dx_assign rfl rfl) rfl rfl ?_
    refine WL.nil ?_
    refine hK2 ?_
    refine WC.ret fun a_ ha_ => ?_
    exact hQ (cv_ret1 rfl (.tmp rfl) (by simp [numZ, *]) hB ha_)
  ·
    replace g3 := of_decide_eq_false g3
    refine WL.off rfl rfl rfl ?_
    refine WL.off rfl rfl rfl ?_
    refine WL.val (dx_pick rfl rfl rfl) rfl rfl ?_
    refine WL.val (dx_assign rfl rfl) rfl rfl ?_
    refine WL.nil ?_
    refine hK2 ?_
    refine WC.ret fun a_ ha_ => ?_
    exact hQ (cv_ret1 rfl (.tmp rfl) (by simp [numZ, *]) hB ha_)

set_option maxHeartbeats 1000000 in
theorem refGoodZ_v (p : SesX) (w : World) (L : List Nat) (hL : LL L w)   (hs : SzO p) : CV Tryz.prog 37 [.agg #[.int .i64 p.id, .string p.sec, .string p.med, .string p.whr, .string p.tok, .int .i64 p.att, .int .i64 p.since, .int .i64 p.wrong, .bool p.shown, .int .i64 p.sat]] w fun v W => v = .bool (goodZ p) := by
  refine cv_enter (N := 65) (f := [(0, .agg #[.int .i64 p.id, .string p.sec, .string p.med, .string p.whr, .string p.tok, .int .i64 p.att, .int .i64 p.since, .int .i64 p.wrong, .bool p.shown, .int .i64 p.sat])]) Tryz.func37 rfl rfl rfl rfl fun Q hQ hE => ?_
  have hB := Below.refl w.heap.size w
  refine WC.seq fun K1 hK1 => ?_
  refine WC.region ?_
  refine WL.get (dx_box rfl rfl rfl) rfl rfl ?_
  rintro _ W2 ⟨rfl, k3, b4, z5⟩
  have l6 := hB.size
  replace hB := below_then hB b4
  replace hL := LL.more hL z5
  refine WL.val (dx_assign rfl rfl) rfl rfl ?_
  refine WL.nil ?_
  refine hK1 ?_
  refine WC.seq fun K7 hK7 => ?_
  refine WC.region ?_
  refine WL.val (dx_fld (o1 := 0) rfl ty_fld_26_0_0 rfl rfl) rfl rfl ?_
  refine WL.val (dx_load rfl ty_one_3 rfl (k3.cell (k := 0) rfl)) rfl rfl ?_
  refine WL.val (dx_geq rfl rfl rfl) rfl rfl ?_
  refine WL.val (dx_move rfl rfl) rfl rfl ?_
  refine WL.split 6 rfl (fun g8 => ?_) (fun g8 => ?_)
  ·
    replace g8 := of_decide_eq_true g8
    refine WL.val (dx_fld (o1 := 0) rfl ty_fld_26_0_0 rfl rfl) rfl rfl ?_
    refine WL.val (dx_load rfl ty_one_3 rfl (k3.cell (k := 0) rfl)) rfl rfl ?_
    refine WL.val (dx_leq rfl rfl rfl) rfl rfl ?_
    refine WL.val (dx_pick rfl rfl rfl) rfl rfl ?_
    refine WL.val (dx_move rfl rfl) rfl rfl ?_
    refine WL.split 11 rfl (fun g9 => ?_) (fun g9 => ?_)
    ·
      replace g9 := of_decide_eq_true g9
      refine WL.val (dx_fld (o1 := 1) rfl ty_fld_26_1_1 rfl rfl) rfl rfl ?_
      refine WL.val (dx_load rfl ty_one_9 rfl (k3.cell (k := 1) rfl)) rfl rfl ?_
      refine WL.get (dx_cv rfl Tryz.func43 rfl rfl rfl (refSec_v p.sec W2 [] (LL.nil _) hs.1)) rfl rfl ?_
      rintro _ W11 ⟨rfl, b10⟩
      replace k3 := k3.below b10
      replace hB := below_then hB b10
      replace hL := LL.below hL b10
      refine WL.val (dx_pick rfl rfl rfl) rfl rfl ?_
      refine WL.val (dx_move rfl rfl) rfl rfl ?_
      refine WL.split 16 rfl (fun g12 => ?_) (fun g12 => ?_)
      ·
        refine WL.val (dx_fld (o1 := 4) rfl ty_fld_26_3_4 rfl rfl) rfl rfl ?_
        refine WL.val (dx_load rfl ty_one_9 rfl (k3.cell (k := 4) rfl)) rfl rfl ?_
        refine WL.get (dx_cv rfl Tryz.func43 rfl rfl rfl (refSec_v p.tok W11 [] (LL.nil _) hs.2.1)) rfl rfl ?_
        rintro _ W14 ⟨rfl, b13⟩
        replace k3 := k3.below b13
        replace hB := below_then hB b13
        replace hL := LL.below hL b13
        refine WL.val (dx_pick rfl rfl rfl) rfl rfl ?_
        refine WL.val (dx_move rfl rfl) rfl rfl ?_
        refine WL.split 21 rfl (fun g15 => ?_) (fun g15 => ?_)
        ·
          refine WL.val (dx_fld (o1 := 2) rfl ty_fld_26_2_2 rfl rfl) rfl rfl ?_
          refine WL.val (dx_loadN (cs := [.string p.med, .string p.whr]) rfl ty_agg_24_2 rfl (k3.part 2 2) rfl) rfl rfl ?_
          refine WL.get (dx_cv rfl Tryz.func44 rfl rfl rfl (refRightA_v p.med p.whr W14 _ hL hs.2.2)) rfl rfl ?_
          rintro _ W17 ⟨rfl, b16⟩
          replace k3 := k3.below b16
          replace hB := below_then hB b16
          replace hL := LL.below hL b16
          refine WL.val (dx_pick rfl rfl rfl) rfl rfl ?_
          refine WL.val (dx_move rfl rfl) rfl rfl ?_
          refine WL.split 26 rfl (fun g18 => ?_) (fun g18 => ?_)
          ·
            refine WL.val (dx_fld (o1 := 5) rfl ty_fld_26_4_5 rfl rfl) rfl rfl ?_
            refine WL.val (dx_load rfl ty_one_3 rfl (k3.cell (k := 5) rfl)) rfl rfl ?_
            refine WL.val (dx_geq rfl rfl rfl) rfl rfl ?_
            refine WL.val (dx_pick rfl rfl rfl) rfl rfl ?_
            refine WL.val (dx_move rfl rfl) rfl rfl ?_
            refine WL.split 31 rfl (fun g19 => ?_) (fun g19 => ?_)
            ·
              replace g19 := of_decide_eq_true g19
              refine WL.val (dx_fld (o1 := 5) rfl ty_fld_26_4_5 rfl rfl) rfl rfl ?_
              refine WL.val (dx_load rfl ty_one_3 rfl (k3.cell (k := 5) rfl)) rfl rfl ?_
              refine WL.val (dx_leq rfl rfl rfl) rfl rfl ?_
              refine WL.val (dx_pick rfl rfl rfl) rfl rfl ?_
              refine WL.val (dx_move rfl rfl) rfl rfl ?_
              refine WL.split 36 rfl (fun g20 => ?_) (fun g20 => ?_)
              ·
                replace g20 := of_decide_eq_true g20
                refine WL.val (dx_fld (o1 := 6) rfl ty_fld_26_5_6 rfl rfl) rfl rfl ?_
                refine WL.val (dx_load rfl ty_one_3 rfl (k3.cell (k := 6) rfl)) rfl rfl ?_
                refine WL.get (dx_cv rfl Tryz.func20 rfl rfl rfl (timed_v p.since W17 [] (LL.nil _))) rfl rfl ?_
                rintro _ W22 ⟨rfl, b21⟩
                replace k3 := k3.below b21
                replace hB := below_then hB b21
                replace hL := LL.below hL b21
                refine WL.val (dx_pick rfl rfl rfl) rfl rfl ?_
                refine WL.val (dx_move rfl rfl) rfl rfl ?_
                refine WL.split 41 rfl (fun g23 => ?_) (fun g23 => ?_)
                ·
                  refine WL.val (dx_fld (o1 := 9) rfl ty_fld_26_8_9 rfl rfl) rfl rfl ?_
                  refine WL.val (dx_load rfl ty_one_3 rfl (k3.cell (k := 9) rfl)) rfl rfl ?_
                  refine WL.get (dx_cv rfl Tryz.func20 rfl rfl rfl (timed_v p.sat W22 [] (LL.nil _))) rfl rfl ?_
                  rintro _ W25 ⟨rfl, b24⟩
                  replace k3 := k3.below b24
                  replace hB := below_then hB b24
                  replace hL := LL.below hL b24
                  refine WL.val (dx_pick rfl rfl rfl) rfl rfl ?_
                  refine WL.val (dx_move rfl rfl) rfl rfl ?_
                  refine WL.split 46 rfl (fun g26 => ?_) (fun g26 => ?_)
                  ·
                    refine WL.val (dx_fld (o1 := 7) rfl ty_fld_26_6_7 rfl rfl) rfl rfl ?_
                    refine WL.val (dx_load rfl ty_one_3 rfl (k3.cell (k := 7) rfl)) rfl rfl ?_
                    refine WL.val (dx_geq rfl rfl rfl) rfl rfl ?_
                    refine WL.val (dx_pick rfl rfl rfl) rfl rfl ?_
                    refine WL.val (dx_move rfl rfl) rfl rfl ?_
                    refine WL.split 51 rfl (fun g27 => ?_) (fun g27 => ?_)
                    ·
                      replace g27 := of_decide_eq_true g27
                      refine WL.val (dx_fld (o1 := 7) rfl ty_fld_26_6_7 rfl rfl) rfl rfl ?_
                      refine WL.val (dx_load rfl ty_one_3 rfl (k3.cell (k := 7) rfl)) rfl rfl ?_
                      refine WL.val (dx_leq rfl rfl rfl) rfl rfl ?_
                      refine WL.val (dx_pick rfl rfl rfl) rfl rfl ?_
                      refine WL.val (dx_move rfl rfl) rfl rfl ?_
                      refine WL.split 56 rfl (fun g28 => ?_) (fun g28 => ?_)
                      ·
                        replace g28 := of_decide_eq_true g28
                        refine WL.val (dx_fld (o1 := 8) rfl ty_fld_26_7_8 rfl rfl) rfl rfl ?_
                        refine WL.val (dx_load rfl ty_one_4 rfl (k3.cell (k := 8) rfl)) rfl rfl ?_
                        refine WL.val (dx_move rfl rfl) rfl rfl ?_
                        refine WL.split 59 rfl (fun g29 => ?_) (fun g29 => ?_)
                        ·
                          refine WL.off rfl rfl rfl ?_
                          refine WL.off rfl rfl rfl ?_
                          refine WL.off rfl rfl rfl ?_
                          refine WL.val (dx_pick rfl rfl rfl) rfl rfl ?_
                          refine WL.val (dx_pick rfl rfl rfl) rfl rfl ?_
                          refine WL.val (dx_assign rfl rfl) rfl rfl ?_
                          refine WL.nil ?_
                          refine hK7 ?_
                          refine WC.ret fun a_ ha_ => ?_
                          exact hQ (cv_ret1 rfl (.tmp rfl) (by simp [goodZ, numZ, *]) hB ha_)
                        ·
                          refine WL.val (dx_fld (o1 := 9) rfl ty_fld_26_8_9 rfl rfl) rfl rfl ?_
                          refine WL.val (dx_load rfl ty_one_3 rfl (k3.cell (k := 9) rfl)) rfl rfl ?_
                          refine WL.val (dx_eql rfl rfl rfl) rfl rfl ?_
                          refine WL.val (dx_pick rfl rfl rfl) rfl rfl ?_
                          refine WL.val (dx_pick rfl rfl rfl) rfl rfl ?_
                          refine WL.val (dx_assign rfl rfl) rfl rfl ?_
                          refine WL.nil ?_
                          refine hK7 ?_
                          refine WC.ret fun a_ ha_ => ?_
                          exact hQ (cv_ret1 rfl (.tmp rfl) (by simp [goodZ, numZ, *]) hB ha_)
                      ·
                        replace g28 := of_decide_eq_false g28
                        refine WL.off rfl rfl rfl ?_
                        refine WL.off rfl rfl rfl ?_
                        refine WL.off rfl rfl rfl ?_
                        refine WL.off rfl rfl rfl ?_
                        refine WL.off rfl rfl rfl ?_
                        refine WL.off rfl rfl rfl ?_
                        refine WL.off rfl rfl rfl ?_
                        refine WL.val (dx_pick rfl rfl rfl) rfl rfl ?_
                        refine WL.val (dx_assign rfl rfl) rfl rfl ?_
                        refine WL.nil ?_
                        refine hK7 ?_
                        refine WC.ret fun a_ ha_ => ?_
                        exact hQ (cv_ret1 rfl (.tmp rfl) (by simp [goodZ, numZ, *]) hB ha_)
                    ·
                      replace g27 := of_decide_eq_false g27
                      refine WL.off rfl rfl rfl ?_
                      refine WL.off rfl rfl rfl ?_
                      refine WL.off rfl rfl rfl ?_
                      refine WL.val (dx_pick rfl rfl rfl) rfl rfl ?_
                      refine WL.val (dx_move rfl rfl) rfl rfl ?_
                      refine WL.off rfl rfl rfl ?_
                      refine WL.off rfl rfl rfl ?_
                      refine WL.off rfl rfl rfl ?_
                      refine WL.off rfl rfl rfl ?_
                      refine WL.off rfl rfl rfl ?_
                      refine WL.off rfl rfl rfl ?_
                      refine WL.off rfl rfl rfl ?_
                      refine WL.val (dx_pick rfl rfl rfl) rfl rfl ?_
                      refine WL.val (dx_assign rfl rfl) rfl rfl ?_
                      refine WL.nil ?_
                      refine hK7 ?_
                      refine WC.ret fun a_ ha_ => ?_
                      exact hQ (cv_ret1 rfl (.tmp rfl) (by simp [goodZ, numZ, *]) hB ha_)
                  ·
                    refine WL.off rfl rfl rfl ?_
                    refine WL.off rfl rfl rfl ?_
                    refine WL.off rfl rfl rfl ?_
                    refine WL.val (dx_pick rfl rfl rfl) rfl rfl ?_
                    refine WL.val (dx_move rfl rfl) rfl rfl ?_
                    refine WL.off rfl rfl rfl ?_
                    refine WL.off rfl rfl rfl ?_
                    refine WL.off rfl rfl rfl ?_
                    refine WL.val (dx_pick rfl rfl rfl) rfl rfl ?_
                    refine WL.val (dx_move rfl rfl) rfl rfl ?_
                    refine WL.off rfl rfl rfl ?_
                    refine WL.off rfl rfl rfl ?_
                    refine WL.off rfl rfl rfl ?_
                    refine WL.off rfl rfl rfl ?_
                    refine WL.off rfl rfl rfl ?_
                    refine WL.off rfl rfl rfl ?_
                    refine WL.off rfl rfl rfl ?_
                    refine WL.val (dx_pick rfl rfl rfl) rfl rfl ?_
                    refine WL.val (dx_assign rfl rfl) rfl rfl ?_
                    refine WL.nil ?_
                    refine hK7 ?_
                    refine WC.ret fun a_ ha_ => ?_
                    exact hQ (cv_ret1 rfl (.tmp rfl) (by simp [goodZ, numZ, *]) hB ha_)
                ·
                  refine WL.off rfl rfl rfl ?_
                  refine WL.off rfl rfl rfl ?_
                  refine WL.off rfl rfl rfl ?_
                  refine WL.val (dx_pick rfl rfl rfl) rfl rfl ?_
                  refine WL.val (dx_move rfl rfl) rfl rfl ?_
                  refine WL.off rfl rfl rfl ?_
                  refine WL.off rfl rfl rfl ?_
                  refine WL.off rfl rfl rfl ?_
                  refine WL.val (dx_pick rfl rfl rfl) rfl rfl ?_
                  refine WL.val (dx_move rfl rfl) rfl rfl ?_
                  refine WL.off rfl rfl rfl ?_
                  refine WL.off rfl rfl rfl ?_
                  refine WL.off rfl rfl rfl ?_
                  refine WL.val (dx_pick rfl rfl rfl) rfl rfl ?_
                  refine WL.val (dx_move rfl rfl) rfl rfl ?_
                  refine WL.off rfl rfl rfl ?_
                  refine WL.off rfl rfl rfl ?_
                  refine WL.off rfl rfl rfl ?_
                  refine WL.off rfl rfl rfl ?_
                  refine WL.off rfl rfl rfl ?_
                  refine WL.off rfl rfl rfl ?_
                  refine WL.off rfl rfl rfl ?_
                  refine WL.val (dx_pick rfl rfl rfl) rfl rfl ?_
                  refine WL.val (dx_assign rfl rfl) rfl rfl ?_
                  refine WL.nil ?_
                  refine hK7 ?_
                  refine WC.ret fun a_ ha_ => ?_
                  exact hQ (cv_ret1 rfl (.tmp rfl) (by simp [goodZ, numZ, *]) hB ha_)
              ·
                replace g20 := of_decide_eq_false g20
                refine WL.off rfl rfl rfl ?_
                refine WL.off rfl rfl rfl ?_
                refine WL.off rfl rfl rfl ?_
                refine WL.val (dx_pick rfl rfl rfl) rfl rfl ?_
                refine WL.val (dx_move rfl rfl) rfl rfl ?_
                refine WL.off rfl rfl rfl ?_
                refine WL.off rfl rfl rfl ?_
                refine WL.off rfl rfl rfl ?_
                refine WL.val (dx_pick rfl rfl rfl) rfl rfl ?_
                refine WL.val (dx_move rfl rfl) rfl rfl ?_
                refine WL.off rfl rfl rfl ?_
                refine WL.off rfl rfl rfl ?_
                refine WL.off rfl rfl rfl ?_
                refine WL.val (dx_pick rfl rfl rfl) rfl rfl ?_
                refine WL.val (dx_move rfl rfl) rfl rfl ?_
                refine WL.off rfl rfl rfl ?_
                refine WL.off rfl rfl rfl ?_
                refine WL.off rfl rfl rfl ?_
                refine WL.val (dx_pick rfl rfl rfl) rfl rfl ?_
                refine WL.val (dx_move rfl rfl) rfl rfl ?_
                refine WL.off rfl rfl rfl ?_
                refine WL.off rfl rfl rfl ?_
                refine WL.off rfl rfl rfl ?_
                refine WL.off rfl rfl rfl ?_
                refine WL.off rfl rfl rfl ?_
                refine WL.off rfl rfl rfl ?_
                refine WL.off rfl rfl rfl ?_
                refine WL.val (dx_pick rfl rfl rfl) rfl rfl ?_
                refine WL.val (dx_assign rfl rfl) rfl rfl ?_
                refine WL.nil ?_
                refine hK7 ?_
                refine WC.ret fun a_ ha_ => ?_
                exact hQ (cv_ret1 rfl (.tmp rfl) (by simp [goodZ, numZ, *]) hB ha_)
            ·
              replace g19 := of_decide_eq_false g19
              refine WL.off rfl rfl rfl ?_
              refine WL.off rfl rfl rfl ?_
              refine WL.off rfl rfl rfl ?_
              refine WL.val (dx_pick rfl rfl rfl) rfl rfl ?_
              refine WL.val (dx_move rfl rfl) rfl rfl ?_
              refine WL.off rfl rfl rfl ?_
              refine WL.off rfl rfl rfl ?_
              refine WL.off rfl rfl rfl ?_
              refine WL.val (dx_pick rfl rfl rfl) rfl rfl ?_
              refine WL.val (dx_move rfl rfl) rfl rfl ?_
              refine WL.off rfl rfl rfl ?_
              refine WL.off rfl rfl rfl ?_
              refine WL.off rfl rfl rfl ?_
              refine WL.val (dx_pick rfl rfl rfl) rfl rfl ?_
              refine WL.val (dx_move rfl rfl) rfl rfl ?_
              refine WL.off rfl rfl rfl ?_
              refine WL.off rfl rfl rfl ?_
              refine WL.off rfl rfl rfl ?_
              refine WL.val (dx_pick rfl rfl rfl) rfl rfl ?_
              refine WL.val (dx_move rfl rfl) rfl rfl ?_
              refine WL.off rfl rfl rfl ?_
              refine WL.off rfl rfl rfl ?_
              refine WL.off rfl rfl rfl ?_
              refine WL.val (dx_pick rfl rfl rfl) rfl rfl ?_
              refine WL.val (dx_move rfl rfl) rfl rfl ?_
              refine WL.off rfl rfl rfl ?_
              refine WL.off rfl rfl rfl ?_
              refine WL.off rfl rfl rfl ?_
              refine WL.off rfl rfl rfl ?_
              refine WL.off rfl rfl rfl ?_
              refine WL.off rfl rfl rfl ?_
              refine WL.off rfl rfl rfl ?_
              refine WL.val (dx_pick rfl rfl rfl) rfl rfl ?_
              refine WL.val (dx_assign rfl rfl) rfl rfl ?_
              refine WL.nil ?_
              refine hK7 ?_
              refine WC.ret fun a_ ha_ => ?_
              exact hQ (cv_ret1 rfl (.tmp rfl) (by simp [goodZ, numZ, *]) hB ha_)
          ·
            refine WL.off rfl rfl rfl ?_
            refine WL.off rfl rfl rfl ?_
            refine WL.off rfl rfl rfl ?_
            refine WL.val (dx_pick rfl rfl rfl) rfl rfl ?_
            refine WL.val (dx_move rfl rfl) rfl rfl ?_
            refine WL.off rfl rfl rfl ?_
            refine WL.off rfl rfl rfl ?_
            refine WL.off rfl rfl rfl ?_
            refine WL.val (dx_pick rfl rfl rfl) rfl rfl ?_
            refine WL.val (dx_move rfl rfl) rfl rfl ?_
            refine WL.off rfl rfl rfl ?_
            refine WL.off rfl rfl rfl ?_
            refine WL.off rfl rfl rfl ?_
            refine WL.val (dx_pick rfl rfl rfl) rfl rfl ?_
            refine WL.val (dx_move rfl rfl) rfl rfl ?_
            refine WL.off rfl rfl rfl ?_
            refine WL.off rfl rfl rfl ?_
            refine WL.off rfl rfl rfl ?_
            refine WL.val (dx_pick rfl rfl rfl) rfl rfl ?_
            refine WL.val (dx_move rfl rfl) rfl rfl ?_
            refine WL.off rfl rfl rfl ?_
            refine WL.off rfl rfl rfl ?_
            refine WL.off rfl rfl rfl ?_
            refine WL.val (dx_pick rfl rfl rfl) rfl rfl ?_
            refine WL.val (dx_move rfl rfl) rfl rfl ?_
            refine WL.off rfl rfl rfl ?_
            refine WL.off rfl rfl rfl ?_
            refine WL.off rfl rfl rfl ?_
            refine WL.val (dx_pick rfl rfl rfl) rfl rfl ?_
            refine WL.val (dx_move rfl rfl) rfl rfl ?_
            refine WL.off rfl rfl rfl ?_
            refine WL.off rfl rfl rfl ?_
            refine WL.off rfl rfl rfl ?_
            refine WL.off rfl rfl rfl ?_
            refine WL.off rfl rfl rfl ?_
            refine WL.off rfl rfl rfl ?_
            refine WL.off rfl rfl rfl ?_
            refine WL.val (dx_pick rfl rfl rfl) rfl rfl ?_
            refine WL.val (dx_assign rfl rfl) rfl rfl ?_
            refine WL.nil ?_
            refine hK7 ?_
            refine WC.ret fun a_ ha_ => ?_
            exact hQ (cv_ret1 rfl (.tmp rfl) (by simp [goodZ, numZ, *]) hB ha_)
        ·
          refine WL.off rfl rfl rfl ?_
          refine WL.off rfl rfl rfl ?_
          refine WL.off rfl rfl rfl ?_
          refine WL.val (dx_pick rfl rfl rfl) rfl rfl ?_
          refine WL.val (dx_move rfl rfl) rfl rfl ?_
          refine WL.off rfl rfl rfl ?_
          refine WL.off rfl rfl rfl ?_
          refine WL.off rfl rfl rfl ?_
          refine WL.val (dx_pick rfl rfl rfl) rfl rfl ?_
          refine WL.val (dx_move rfl rfl) rfl rfl ?_
          refine WL.off rfl rfl rfl ?_
          refine WL.off rfl rfl rfl ?_
          refine WL.off rfl rfl rfl ?_
          refine WL.val (dx_pick rfl rfl rfl) rfl rfl ?_
          refine WL.val (dx_move rfl rfl) rfl rfl ?_
          refine WL.off rfl rfl rfl ?_
          refine WL.off rfl rfl rfl ?_
          refine WL.off rfl rfl rfl ?_
          refine WL.val (dx_pick rfl rfl rfl) rfl rfl ?_
          refine WL.val (dx_move rfl rfl) rfl rfl ?_
          refine WL.off rfl rfl rfl ?_
          refine WL.off rfl rfl rfl ?_
          refine WL.off rfl rfl rfl ?_
          refine WL.val (dx_pick rfl rfl rfl) rfl rfl ?_
          refine WL.val (dx_move rfl rfl) rfl rfl ?_
          refine WL.off rfl rfl rfl ?_
          refine WL.off rfl rfl rfl ?_
          refine WL.off rfl rfl rfl ?_
          refine WL.val (dx_pick rfl rfl rfl) rfl rfl ?_
          refine WL.val (dx_move rfl rfl) rfl rfl ?_
          refine WL.off rfl rfl rfl ?_
          refine WL.off rfl rfl rfl ?_
          refine WL.off rfl rfl rfl ?_
          refine WL.val (dx_pick rfl rfl rfl) rfl rfl ?_
          refine WL.val (dx_move rfl rfl) rfl rfl ?_
          refine WL.off rfl rfl rfl ?_
          refine WL.off rfl rfl rfl ?_
          refine WL.off rfl rfl rfl ?_
          refine WL.off rfl rfl rfl ?_
          refine WL.off rfl rfl rfl ?_
          refine WL.off rfl rfl rfl ?_
          refine WL.off rfl rfl rfl ?_
          refine WL.val (dx_pick rfl rfl rfl) rfl rfl ?_
          refine WL.val (dx_assign rfl rfl) rfl rfl ?_
          refine WL.nil ?_
          refine hK7 ?_
          refine WC.ret fun a_ ha_ => ?_
          exact hQ (cv_ret1 rfl (.tmp rfl) (by simp [goodZ, numZ, *]) hB ha_)
      ·
        refine WL.off rfl rfl rfl ?_
        refine WL.off rfl rfl rfl ?_
        refine WL.off rfl rfl rfl ?_
        refine WL.val (dx_pick rfl rfl rfl) rfl rfl ?_
        refine WL.val (dx_move rfl rfl) rfl rfl ?_
        refine WL.off rfl rfl rfl ?_
        refine WL.off rfl rfl rfl ?_
        refine WL.off rfl rfl rfl ?_
        refine WL.val (dx_pick rfl rfl rfl) rfl rfl ?_
        refine WL.val (dx_move rfl rfl) rfl rfl ?_
        refine WL.off rfl rfl rfl ?_
        refine WL.off rfl rfl rfl ?_
        refine WL.off rfl rfl rfl ?_
        refine WL.val (dx_pick rfl rfl rfl) rfl rfl ?_
        refine WL.val (dx_move rfl rfl) rfl rfl ?_
        refine WL.off rfl rfl rfl ?_
        refine WL.off rfl rfl rfl ?_
        refine WL.off rfl rfl rfl ?_
        refine WL.val (dx_pick rfl rfl rfl) rfl rfl ?_
        refine WL.val (dx_move rfl rfl) rfl rfl ?_
        refine WL.off rfl rfl rfl ?_
        refine WL.off rfl rfl rfl ?_
        refine WL.off rfl rfl rfl ?_
        refine WL.val (dx_pick rfl rfl rfl) rfl rfl ?_
        refine WL.val (dx_move rfl rfl) rfl rfl ?_
        refine WL.off rfl rfl rfl ?_
        refine WL.off rfl rfl rfl ?_
        refine WL.off rfl rfl rfl ?_
        refine WL.val (dx_pick rfl rfl rfl) rfl rfl ?_
        refine WL.val (dx_move rfl rfl) rfl rfl ?_
        refine WL.off rfl rfl rfl ?_
        refine WL.off rfl rfl rfl ?_
        refine WL.off rfl rfl rfl ?_
        refine WL.val (dx_pick rfl rfl rfl) rfl rfl ?_
        refine WL.val (dx_move rfl rfl) rfl rfl ?_
        refine WL.off rfl rfl rfl ?_
        refine WL.off rfl rfl rfl ?_
        refine WL.off rfl rfl rfl ?_
        refine WL.val (dx_pick rfl rfl rfl) rfl rfl ?_
        refine WL.val (dx_move rfl rfl) rfl rfl ?_
        refine WL.off rfl rfl rfl ?_
        refine WL.off rfl rfl rfl ?_
        refine WL.off rfl rfl rfl ?_
        refine WL.off rfl rfl rfl ?_
        refine WL.off rfl rfl rfl ?_
        refine WL.off rfl rfl rfl ?_
        refine WL.off rfl rfl rfl ?_
        refine WL.val (dx_pick rfl rfl rfl) rfl rfl ?_
        refine WL.val (dx_assign rfl rfl) rfl rfl ?_
        refine WL.nil ?_
        refine hK7 ?_
        refine WC.ret fun a_ ha_ => ?_
        exact hQ (cv_ret1 rfl (.tmp rfl) (by simp [goodZ, numZ, *]) hB ha_)
    ·
      replace g9 := of_decide_eq_false g9
      refine WL.off rfl rfl rfl ?_
      refine WL.off rfl rfl rfl ?_
      refine WL.off rfl rfl rfl ?_
      refine WL.val (dx_pick rfl rfl rfl) rfl rfl ?_
      refine WL.val (dx_move rfl rfl) rfl rfl ?_
      refine WL.off rfl rfl rfl ?_
      refine WL.off rfl rfl rfl ?_
      refine WL.off rfl rfl rfl ?_
      refine WL.val (dx_pick rfl rfl rfl) rfl rfl ?_
      refine WL.val (dx_move rfl rfl) rfl rfl ?_
      refine WL.off rfl rfl rfl ?_
      refine WL.off rfl rfl rfl ?_
      refine WL.off rfl rfl rfl ?_
      refine WL.val (dx_pick rfl rfl rfl) rfl rfl ?_
      refine WL.val (dx_move rfl rfl) rfl rfl ?_
      refine WL.off rfl rfl rfl ?_
      refine WL.off rfl rfl rfl ?_
      refine WL.off rfl rfl rfl ?_
      refine WL.val (dx_pick rfl rfl rfl) rfl rfl ?_
      refine WL.val (dx_move rfl rfl) rfl rfl ?_
      refine WL.off rfl rfl rfl ?_
      refine WL.off rfl rfl rfl ?_
      refine WL.off rfl rfl rfl ?_
      refine WL.val (dx_pick rfl rfl rfl) rfl rfl ?_
      refine WL.val (dx_move rfl rfl) rfl rfl ?_
      refine WL.off rfl rfl rfl ?_
      refine WL.off rfl rfl rfl ?_
      refine WL.off rfl rfl rfl ?_
      refine WL.val (dx_pick rfl rfl rfl) rfl rfl ?_
      refine WL.val (dx_move rfl rfl) rfl rfl ?_
      refine WL.off rfl rfl rfl ?_
      refine WL.off rfl rfl rfl ?_
      refine WL.off rfl rfl rfl ?_
      refine WL.val (dx_pick rfl rfl rfl) rfl rfl ?_
      refine WL.val (dx_move rfl rfl) rfl rfl ?_
      refine WL.off rfl rfl rfl ?_
      refine WL.off rfl rfl rfl ?_
      refine WL.off rfl rfl rfl ?_
      refine WL.val (dx_pick rfl rfl rfl) rfl rfl ?_
      refine WL.val (dx_move rfl rfl) rfl rfl ?_
      refine WL.off rfl rfl rfl ?_
      refine WL.off rfl rfl rfl ?_
      refine WL.off rfl rfl rfl ?_
      refine WL.val (dx_pick rfl rfl rfl) rfl rfl ?_
      refine WL.val (dx_move rfl rfl) rfl rfl ?_
      refine WL.off rfl rfl rfl ?_
      refine WL.off rfl rfl rfl ?_
      refine WL.off rfl rfl rfl ?_
      refine WL.off rfl rfl rfl ?_
      refine WL.off rfl rfl rfl ?_
      refine WL.off rfl rfl rfl ?_
      refine WL.off rfl rfl rfl ?_
      refine WL.val (dx_pick rfl rfl rfl) rfl rfl ?_
      refine WL.val (dx_assign rfl rfl) rfl rfl ?_
      refine WL.nil ?_
      refine hK7 ?_
      refine WC.ret fun a_ ha_ => ?_
      exact hQ (cv_ret1 rfl (.tmp rfl) (by simp [goodZ, numZ, *]) hB ha_)
  ·
    replace g8 := of_decide_eq_false g8
    refine WL.off rfl rfl rfl ?_
    refine WL.off rfl rfl rfl ?_
    refine WL.off rfl rfl rfl ?_
    refine WL.val (dx_pick rfl rfl rfl) rfl rfl ?_
    refine WL.val (dx_move rfl rfl) rfl rfl ?_
    refine WL.off rfl rfl rfl ?_
    refine WL.off rfl rfl rfl ?_
    refine WL.off rfl rfl rfl ?_
    refine WL.val (dx_pick rfl rfl rfl) rfl rfl ?_
    refine WL.val (dx_move rfl rfl) rfl rfl ?_
    refine WL.off rfl rfl rfl ?_
    refine WL.off rfl rfl rfl ?_
    refine WL.off rfl rfl rfl ?_
    refine WL.val (dx_pick rfl rfl rfl) rfl rfl ?_
    refine WL.val (dx_move rfl rfl) rfl rfl ?_
    refine WL.off rfl rfl rfl ?_
    refine WL.off rfl rfl rfl ?_
    refine WL.off rfl rfl rfl ?_
    refine WL.val (dx_pick rfl rfl rfl) rfl rfl ?_
    refine WL.val (dx_move rfl rfl) rfl rfl ?_
    refine WL.off rfl rfl rfl ?_
    refine WL.off rfl rfl rfl ?_
    refine WL.off rfl rfl rfl ?_
    refine WL.val (dx_pick rfl rfl rfl) rfl rfl ?_
    refine WL.val (dx_move rfl rfl) rfl rfl ?_
    refine WL.off rfl rfl rfl ?_
    refine WL.off rfl rfl rfl ?_
    refine WL.off rfl rfl rfl ?_
    refine WL.val (dx_pick rfl rfl rfl) rfl rfl ?_
    refine WL.val (dx_move rfl rfl) rfl rfl ?_
    refine WL.off rfl rfl rfl ?_
    refine WL.off rfl rfl rfl ?_
    refine WL.off rfl rfl rfl ?_
    refine WL.val (dx_pick rfl rfl rfl) rfl rfl ?_
    refine WL.val (dx_move rfl rfl) rfl rfl ?_
    refine WL.off rfl rfl rfl ?_
    refine WL.off rfl rfl rfl ?_
    refine WL.off rfl rfl rfl ?_
    refine WL.val (dx_pick rfl rfl rfl) rfl rfl ?_
    refine WL.val (dx_move rfl rfl) rfl rfl ?_
    refine WL.off rfl rfl rfl ?_
    refine WL.off rfl rfl rfl ?_
    refine WL.off rfl rfl rfl ?_
    refine WL.val (dx_pick rfl rfl rfl) rfl rfl ?_
    refine WL.val (dx_move rfl rfl) rfl rfl ?_
    refine WL.off rfl rfl rfl ?_
    refine WL.off rfl rfl rfl ?_
    refine WL.off rfl rfl rfl ?_
    refine WL.val (dx_pick rfl rfl rfl) rfl rfl ?_
    refine WL.val (dx_move rfl rfl) rfl rfl ?_
    refine WL.off rfl rfl rfl ?_
    refine WL.off rfl rfl rfl ?_
    refine WL.off rfl rfl rfl ?_
    refine WL.off rfl rfl rfl ?_
    refine WL.off rfl rfl rfl ?_
    refine WL.off rfl rfl rfl ?_
    refine WL.off rfl rfl rfl ?_
    refine WL.val (dx_pick rfl rfl rfl) rfl rfl ?_
    refine WL.val (dx_assign rfl rfl) rfl rfl ?_
    refine WL.nil ?_
    refine hK7 ?_
    refine WC.ret fun a_ ha_ => ?_
    exact hQ (cv_ret1 rfl (.tmp rfl) (by simp [goodZ, numZ, *]) hB ha_)

set_option maxHeartbeats 1000000 in
theorem refRightZ_v (xs : List SesX) (sv : Value) (w : World) (L : List Nat) (hL : LL L w) (h1 : RdF 10 L w sv (xs.map encZ))  (hsz : SzZ xs) : CV Tryz.prog 19 [sv] w fun v W => v = .bool (rightZ xs) := by
  refine cv_enter (N := 80) (f := [(0, sv)]) Tryz.func19 rfl rfl rfl rfl fun Q hQ hE => ?_
  have hB := Below.refl w.heap.size w
  have h1m : xs.length ≤ maxLen := by have := h1.len; rwa [List.length_map] at this
  unfold maxLen at h1m
  refine WC.seq fun K1 hK1 => ?_
  refine WC.region ?_
  refine WL.val (dx_assign rfl rfl) rfl rfl ?_
  refine WL.nil ?_
  refine hK1 ?_
  refine WC.seq fun K2 hK2 => ?_
  refine WC.seq fun K3 hK3 => ?_
  refine WC.region ?_
  refine WL.val (dx_move rfl rfl) rfl rfl ?_
  refine WL.val (dx_lenX rfl ty_slice_22 rfl h1) rfl rfl ?_
  refine WL.val (dx_gtr rfl rfl rfl) rfl rfl ?_
  refine WL.nil ?_
  refine hK3 ?_
  refine WC.cond rfl (fun c4 => ?_) (fun c4 => ?_)
  ·
    replace c4 := of_decide_eq_true c4
    refine WC.seq fun K5 hK5 => ?_
    refine WC.region ?_
    refine WL.val (dx_assign rfl rfl) rfl rfl ?_
    refine WL.nil ?_
    refine hK5 ?_
    refine WC.ret fun a_ ha_ => ?_
    exact hQ (cv_ret1 rfl (.tmp rfl) (by rw [show rightZ xs = false from by unfold rightZ; rw [right_f1 (by omega), Bool.false_and]]) hB ha_)
  ·
    replace c4 := of_decide_eq_false c4
    refine WC.skip ?_
    refine hK2 ?_
    refine WC.seq fun K6 hK6 => ?_
    refine WC.seq fun K7 hK7 => ?_
    refine WC.region ?_
    refine WL.val (dx_assign rfl rfl) rfl rfl ?_
    refine WL.nil ?_
    refine hK7 ?_
    refine WC.block ?_
    refine WC.loop (fun (i : Nat) => [(0, sv), (3, .int .i64 (i : Int))]) (fun (i : Nat) W => i ≤ xs.length ∧ (∀ k a, k < i → xs[k]? = some a → goodZ a = true) ∧ (∀ k a b, k + 1 < i → xs[k]? = some a → xs[k + 1]? = some b → (ltZ) a b = true) ∧ (∀ k s, k < i → xs[k]? = some s → (xs.take k).any (clashZ s) = false) ∧ Below w.heap.size w W ∧ LL (L) W ∧ RdF 10 (L) W sv (xs.map encZ)) (fun (i : Nat) => xs.length - i) 0 (by repeat first | exact trivial | exact And.intro rfl trivial | refine And.intro rfl ?_ | refine And.intro (congrArg (fun z : Int => some (Value.int .i64 z)) (by omega)) ?_) ⟨Nat.zero_le _, (fun k a hk => by omega), (fun k a b hk => by omega), (fun k s hk => by omega), hB, hL, h1⟩ ?_
    clear h1 hB hL
    rintro K8 i W9 ⟨hi, hv, hu, ha, hB, hL, h1⟩ hK8
    refine WC.seq fun K10 hK10 => ?_
    refine WC.seq fun K11 hK11 => ?_
    refine WC.region ?_
    refine WL.val (dx_move rfl rfl) rfl rfl ?_
    refine WL.val (dx_move rfl rfl) rfl rfl ?_
    refine WL.val (dx_lenX rfl ty_slice_22 rfl h1) rfl rfl ?_
    refine WL.val (dx_lss rfl rfl rfl) rfl rfl ?_
    refine WL.nil ?_
    refine hK11 ?_
    refine WC.cond rfl (fun c12 => ?_) (fun c12 => ?_)
    ·
      replace c12 := of_decide_eq_true c12
      refine WC.skip ?_
      refine hK10 ?_
      refine WC.seq fun K13 hK13 => ?_
      refine WC.block ?_
      refine WC.seq fun K14 hK14 => ?_
      refine WC.seq fun K15 hK15 => ?_
      obtain ⟨r16, e17⟩ : ∃ x, xs[i]? = some x := ⟨_, List.getElem?_eq_getElem (by omega)⟩
      obtain ⟨b18, hb18⟩ : ∃ b, b = (!(goodZ r16)) := ⟨_, rfl⟩
      obtain ⟨b19, hb19⟩ : ∃ b, b = ((!b18) && (decide (0 < (i : Int)))) := ⟨_, rfl⟩
      obtain ⟨r20, e21⟩ : ∃ x, xs[(i - 1)]? = some x := ⟨_, List.getElem?_eq_getElem (by omega)⟩
      refine WC.drawM 24 [(some 14, .is (sv)), (some 15, .is (.int .i64 (i : Int))), (some 16, .by fun u W => PtR (L) W u (encZ r16)), (some 17, .is (.agg #[.int .i64 r16.id, .string r16.sec, .string r16.med, .string r16.whr, .string r16.tok, .int .i64 r16.att, .int .i64 r16.since, .int .i64 r16.wrong, .bool r16.shown, .int .i64 r16.sat])), (some 18, .is (.bool (goodZ r16))), (some 19, .is (.bool (!(goodZ r16)))), (some 20, .is (.bool b18)), (some 21, .is (bif b18 then undef else .int .i64 (i : Int))), (some 22, .is (bif b18 then undef else .bool (decide (0 < (i : Int))))), (some 23, .is (bif b18 then undef else .bool b19)), (some 24, .is (bif b19 then sv else undef)), (some 25, .is (bif b19 then .int .i64 (i : Int) else undef)), (some 26, .is (bif b19 then .int .i64 ((i : Int) - 1) else undef)), (some 27, .by fun u W => b19 = true → PtR (L) W u (encZ r20)), (some 28, .by fun u W => b19 = true → PtR (L) W u [.int .i64 r20.id]), (some 29, .is (bif b19 then .int .i64 r20.id else undef)), (some 30, .is (bif b19 then sv else undef)), (some 31, .is (bif b19 then .int .i64 (i : Int) else undef)), (some 32, .by fun u W => b19 = true → PtR (L) W u (encZ r16)), (some 33, .by fun u W => b19 = true → PtR (L) W u [.int .i64 r16.id]), (some 34, .is (bif b19 then .int .i64 r16.id else undef)), (some 35, .is (bif b19 then .bool (decide (r16.id ≤ r20.id)) else undef)), (some 36, .is (bif b18 then undef else .bool (b19 && (decide (r16.id ≤ r20.id))))), (some 37, .is (.bool (b18 || (b19 && (decide (r16.id ≤ r20.id))))))] [[], [], [0, 1], [2], [3], [4], [5, 4], [6], [7, 6], [8, 6, 6], [9], [9], [11, 9], [10, 12, 9], [13, 9], [14, 9], [9], [9], [16, 17, 9], [18, 9], [19, 9], [15, 20, 9], [9, 21, 6], [6, 22]] (by kernel_rfl) (by kernel_rfl) (by kernel_rfl) (by kernel_rfl) (by kernel_rfl) (by kernel_rfl) (by kernel_rfl) ⟨fun _ _ _ hb h => h.below hb, fun _ _ _ hb h g => (h g).below hb, fun _ _ _ hb h g => (h g).below hb, fun _ _ _ hb h g => (h g).below hb, fun _ _ _ hb h g => (h g).below hb, trivial⟩ ?_ ?_
      ·
        refine DSteps.cons (fun Wd hd => ?_) ?_
        ·
          exact DV.dr (dx_move rfl rfl) ⟨Below.refl _ _, rfl⟩
        refine DSteps.cons (fun Wd hd => ?_) ?_
        ·
          exact DV.dr (dx_move rfl rfl) ⟨Below.refl _ _, rfl⟩
        refine DSteps.cons (fun Wd hd => ?_) ?_
        ·
          have h1 := h1.below hd
          exact (dx_idxF i rfl ty_slice_22 rfl rfl h1 (by omega) (at_mapX e17)).mono (fun v W' h => ⟨by rw [← h.1]; exact Below.refl _ _, by rw [← h.1]; exact h.2⟩)
        refine DSteps.cons (fun Wd hd => ?_) ?_
        ·
          intro u6_2 p6_2
          exact DV.dr (dx_loadPN rfl ty_agg_26_10 rfl p6_2 rfl) ⟨Below.refl _ _, rfl⟩
        refine DSteps.cons (fun Wd hd => ?_) ?_
        ·
          exact DR.mono (dx_cv rfl Tryz.func37 rfl rfl rfl (refGoodZ_v r16 Wd _ (LL.below hL hd) (hsz r16 (List.mem_of_getElem? e17)))) (fun v W' ⟨h, hb⟩ => ⟨hb, (by rw [h]; exact rfl)⟩)
        refine DSteps.cons (fun Wd hd => ?_) ?_
        ·
          exact DV.dr (dx_not rfl rfl) ⟨Below.refl _ _, rfl⟩
        refine DSteps.cons (fun Wd hd => ?_) ?_
        ·
          exact DV.dr (dx_move rfl rfl) ⟨Below.refl _ _, by rw [hb18]; rfl⟩
        refine DSteps.cons (fun Wd hd => ?_) ?_
        ·
          cases b18
          ·
            exact DV.dr (dx_move rfl rfl) ⟨Below.refl _ _, rfl⟩
          ·
            exact DV.dr (dv_off rfl) ⟨Below.refl _ _, rfl⟩
        refine DSteps.cons (fun Wd hd => ?_) ?_
        ·
          cases b18
          ·
            exact DV.dr (dx_gtr rfl rfl rfl) ⟨Below.refl _ _, rfl⟩
          ·
            exact DV.dr (dv_off rfl) ⟨Below.refl _ _, rfl⟩
        refine DSteps.cons (fun Wd hd => ?_) ?_
        ·
          cases b18
          ·
            exact DV.dr (dx_move rfl rfl) ⟨Below.refl _ _, by rw [hb19]; rfl⟩
          ·
            exact DV.dr (dv_off rfl) ⟨Below.refl _ _, by rw [hb19]; rfl⟩
        refine DSteps.cons (fun Wd hd => ?_) ?_
        ·
          cases b18
          ·
            cases b19
            ·
              exact DV.dr (dv_off rfl) ⟨Below.refl _ _, rfl⟩
            ·
              exact DV.dr (dx_move rfl rfl) ⟨Below.refl _ _, rfl⟩
          ·
            cases b19
            ·
              exact DV.dr (dv_off rfl) ⟨Below.refl _ _, rfl⟩
            ·
              exact absurd hb19 (by simp)
        refine DSteps.cons (fun Wd hd => ?_) ?_
        ·
          cases b18
          ·
            cases b19
            ·
              exact DV.dr (dv_off rfl) ⟨Below.refl _ _, rfl⟩
            ·
              exact DV.dr (dx_move rfl rfl) ⟨Below.refl _ _, rfl⟩
          ·
            cases b19
            ·
              exact DV.dr (dv_off rfl) ⟨Below.refl _ _, rfl⟩
            ·
              exact absurd hb19 (by simp)
        refine DSteps.cons (fun Wd hd => ?_) ?_
        ·
          cases b18
          ·
            cases b19
            ·
              exact DV.dr (dv_off rfl) ⟨Below.refl _ _, rfl⟩
            ·
              exact DV.dr (dx_sub (r := (i : Int) - 1) rfl rfl rfl (wrap64_id (by omega))) ⟨Below.refl _ _, rfl⟩
          ·
            cases b19
            ·
              exact DV.dr (dv_off rfl) ⟨Below.refl _ _, rfl⟩
            ·
              exact absurd hb19 (by simp)
        refine DSteps.cons (fun Wd hd => ?_) ?_
        ·
          cases b18
          ·
            cases b19
            ·
              exact DV.dr (dv_off rfl) ⟨Below.refl _ _, fun h => by cases h⟩
            ·
              have h1 := h1.below hd
              exact (dx_idxF (i - 1) rfl ty_slice_22 rfl rfl h1 (by first | omega | (have hq_ := of_decide_eq_true hb19.symm; omega)) (at_mapX e21)).mono (fun v W' h => ⟨by rw [← h.1]; exact Below.refl _ _, fun _ => by rw [← h.1]; exact h.2⟩)
          ·
            cases b19
            ·
              exact DV.dr (dv_off rfl) ⟨Below.refl _ _, fun h => by cases h⟩
            ·
              exact absurd hb19 (by simp)
        refine DSteps.cons (fun Wd hd => ?_) ?_
        ·
          intro u6_13 p6_13
          cases b18
          ·
            cases b19
            ·
              exact DV.dr (dv_off rfl) ⟨Below.refl _ _, fun h => by cases h⟩
            ·
              replace p6_13 := p6_13 rfl
              exact (dx_fldP 1 rfl ty_fld_26_0_0 rfl p6_13 (cs' := [.int .i64 r20.id]) rfl (Nat.succ_pos _)).mono (fun v W' h => ⟨by rw [← h.1]; exact Below.refl _ _, fun _ => by rw [← h.1]; exact h.2⟩)
          ·
            cases b19
            ·
              exact DV.dr (dv_off rfl) ⟨Below.refl _ _, fun h => by cases h⟩
            ·
              replace p6_13 := p6_13 rfl
              exact absurd hb19 (by simp)
        refine DSteps.cons (fun Wd hd => ?_) ?_
        ·
          intro u6_14 p6_14
          cases b18
          ·
            cases b19
            ·
              exact DV.dr (dv_off rfl) ⟨Below.refl _ _, rfl⟩
            ·
              replace p6_14 := p6_14 rfl
              exact DV.dr (dx_loadP rfl ty_one_3 rfl p6_14) ⟨Below.refl _ _, rfl⟩
          ·
            cases b19
            ·
              exact DV.dr (dv_off rfl) ⟨Below.refl _ _, rfl⟩
            ·
              replace p6_14 := p6_14 rfl
              exact absurd hb19 (by simp)
        refine DSteps.cons (fun Wd hd => ?_) ?_
        ·
          cases b18
          ·
            cases b19
            ·
              exact DV.dr (dv_off rfl) ⟨Below.refl _ _, rfl⟩
            ·
              exact DV.dr (dx_move rfl rfl) ⟨Below.refl _ _, rfl⟩
          ·
            cases b19
            ·
              exact DV.dr (dv_off rfl) ⟨Below.refl _ _, rfl⟩
            ·
              exact absurd hb19 (by simp)
        refine DSteps.cons (fun Wd hd => ?_) ?_
        ·
          cases b18
          ·
            cases b19
            ·
              exact DV.dr (dv_off rfl) ⟨Below.refl _ _, rfl⟩
            ·
              exact DV.dr (dx_move rfl rfl) ⟨Below.refl _ _, rfl⟩
          ·
            cases b19
            ·
              exact DV.dr (dv_off rfl) ⟨Below.refl _ _, rfl⟩
            ·
              exact absurd hb19 (by simp)
        refine DSteps.cons (fun Wd hd => ?_) ?_
        ·
          cases b18
          ·
            cases b19
            ·
              exact DV.dr (dv_off rfl) ⟨Below.refl _ _, fun h => by cases h⟩
            ·
              have h1 := h1.below hd
              exact (dx_idxF i rfl ty_slice_22 rfl rfl h1 (by first | omega | (have hq_ := of_decide_eq_true hb19.symm; omega)) (at_mapX e17)).mono (fun v W' h => ⟨by rw [← h.1]; exact Below.refl _ _, fun _ => by rw [← h.1]; exact h.2⟩)
          ·
            cases b19
            ·
              exact DV.dr (dv_off rfl) ⟨Below.refl _ _, fun h => by cases h⟩
            ·
              exact absurd hb19 (by simp)
        refine DSteps.cons (fun Wd hd => ?_) ?_
        ·
          intro u6_18 p6_18
          cases b18
          ·
            cases b19
            ·
              exact DV.dr (dv_off rfl) ⟨Below.refl _ _, fun h => by cases h⟩
            ·
              replace p6_18 := p6_18 rfl
              exact (dx_fldP 1 rfl ty_fld_26_0_0 rfl p6_18 (cs' := [.int .i64 r16.id]) rfl (Nat.succ_pos _)).mono (fun v W' h => ⟨by rw [← h.1]; exact Below.refl _ _, fun _ => by rw [← h.1]; exact h.2⟩)
          ·
            cases b19
            ·
              exact DV.dr (dv_off rfl) ⟨Below.refl _ _, fun h => by cases h⟩
            ·
              replace p6_18 := p6_18 rfl
              exact absurd hb19 (by simp)
        refine DSteps.cons (fun Wd hd => ?_) ?_
        ·
          intro u6_19 p6_19
          cases b18
          ·
            cases b19
            ·
              exact DV.dr (dv_off rfl) ⟨Below.refl _ _, rfl⟩
            ·
              replace p6_19 := p6_19 rfl
              exact DV.dr (dx_loadP rfl ty_one_3 rfl p6_19) ⟨Below.refl _ _, rfl⟩
          ·
            cases b19
            ·
              exact DV.dr (dv_off rfl) ⟨Below.refl _ _, rfl⟩
            ·
              replace p6_19 := p6_19 rfl
              exact absurd hb19 (by simp)
        refine DSteps.cons (fun Wd hd => ?_) ?_
        ·
          cases b18
          ·
            cases b19
            ·
              exact DV.dr (dv_off rfl) ⟨Below.refl _ _, rfl⟩
            ·
              exact DV.dr (dx_geq rfl rfl rfl) ⟨Below.refl _ _, rfl⟩
          ·
            cases b19
            ·
              exact DV.dr (dv_off rfl) ⟨Below.refl _ _, rfl⟩
            ·
              exact absurd hb19 (by simp)
        refine DSteps.cons (fun Wd hd => ?_) ?_
        ·
          cases b18
          ·
            cases b19
            ·
              exact DV.dr (dx_pick rfl rfl rfl) ⟨Below.refl _ _, rfl⟩
            ·
              exact DV.dr (dx_pick rfl rfl rfl) ⟨Below.refl _ _, rfl⟩
          ·
            cases b19
            ·
              exact DV.dr (dv_off rfl) ⟨Below.refl _ _, rfl⟩
            ·
              exact absurd hb19 (by simp)
        refine DSteps.cons (fun Wd hd => ?_) ?_
        ·
          cases b18
          ·
            exact DV.dr (dx_pick rfl rfl rfl) ⟨Below.refl _ _, rfl⟩
          ·
            exact DV.dr (dx_pick rfl rfl rfl) ⟨Below.refl _ _, rfl⟩
        exact trivial
      ·
        intro W22 b23
        intro u6_2 p6_2
        intro _ _
        intro _ _
        intro _ _
        intro _ _
        replace h1 := h1.below b23
        replace hB := below_then hB b23
        replace hL := LL.below hL b23
        refine WL.nil ?_
        refine hK15 ?_
        refine WC.cond rfl (fun c24 => ?_) (fun c24 => ?_)
        ·
          refine WC.seq fun K25 hK25 => ?_
          refine WC.region ?_
          refine WL.val (dx_assign rfl rfl) rfl rfl ?_
          refine WL.nil ?_
          refine hK25 ?_
          refine WC.ret fun a_ ha_ => ?_
          exact hQ (cv_ret1 rfl (.tmp rfl) (by rw [right_fZ e21 e17 hb18 hb19 c24]) hB ha_)
        ·
          obtain ⟨g26, g27⟩ := bor_f c24
          refine WC.skip ?_
          refine hK14 ?_
          refine WC.seq fun K28 hK28 => ?_
          refine WC.region ?_
          refine WL.val (dx_assign rfl rfl) rfl rfl ?_
          refine WL.nil ?_
          refine hK28 ?_
          refine WC.block ?_
          refine WC.loop (fun (j : Nat) => [(0, sv), (3, .int .i64 (i : Int)), (4, .int .i64 (j : Int))]) (fun (j : Nat) W => j ≤ i ∧ (∀ m b, m < j → xs[m]? = some b → clashZ r16 b = false) ∧ Below w.heap.size w W ∧ LL (L) W ∧ RdF 10 (L) W sv (xs.map encZ)) (fun (j : Nat) => i - j) 0 (by repeat first | exact trivial | exact And.intro rfl trivial | refine And.intro rfl ?_ | refine And.intro (congrArg (fun z : Int => some (Value.int .i64 z)) (by omega)) ?_) ⟨Nat.zero_le _, (fun m b hm => by omega), hB, hL, h1⟩ ?_
          clear h1 hB hL
          rintro K29 j W30 ⟨hj, hc, hB, hL, h1⟩ hK29
          refine WC.seq fun K31 hK31 => ?_
          refine WC.seq fun K32 hK32 => ?_
          refine WC.region ?_
          refine WL.val (dx_move rfl rfl) rfl rfl ?_
          refine WL.val (dx_move rfl rfl) rfl rfl ?_
          refine WL.val (dx_lss rfl rfl rfl) rfl rfl ?_
          refine WL.nil ?_
          refine hK32 ?_
          refine WC.cond rfl (fun c33 => ?_) (fun c33 => ?_)
          ·
            replace c33 := of_decide_eq_true c33
            refine WC.skip ?_
            refine hK31 ?_
            refine WC.seq fun K34 hK34 => ?_
            refine WC.block ?_
            refine WC.seq fun K35 hK35 => ?_
            obtain ⟨r36, e37⟩ : ∃ x, xs[j]? = some x := ⟨_, List.getElem?_eq_getElem (by omega)⟩
            obtain ⟨b38, hb38⟩ : ∃ b, b = (decide (r36.sec = r16.sec)) := ⟨_, rfl⟩
            obtain ⟨b39, hb39⟩ : ∃ b, b = (b38 && (decide (r36.med = r16.med ∧ r36.whr = r16.whr))) := ⟨_, rfl⟩
            refine WC.drawM 37 ((some 43, .is (sv)) :: (some 44, .is (.int .i64 (j : Int))) :: (some 45, .by fun u W => PtR (L) W u (encZ r36)) :: (some 46, .by fun u W => PtR (L) W u [.string r36.sec]) :: (some 47, .is (.string r36.sec)) :: (some 48, .is (sv)) :: (some 49, .is (.int .i64 (i : Int))) :: (some 50, .by fun u W => PtR (L) W u (encZ r16)) :: (some 51, .by fun u W => PtR (L) W u [.string r16.sec]) :: (some 52, .is (.string r16.sec)) :: (some 53, .is (.bool (decide (r36.sec = r16.sec)))) :: (some 54, .is (.bool b38)) :: (some 55, .is (bif b38 then sv else undef)) :: (some 56, .is (bif b38 then .int .i64 (j : Int) else undef)) :: (some 57, .by fun u W => b38 = true → PtR (L) W u (encZ r36)) :: (some 58, .by fun u W => b38 = true → PtR (L) W u [.string r36.med, .string r36.whr]) :: (some 59, .is (bif b38 then .agg #[.string r36.med, .string r36.whr] else undef)) :: (some 60, .is (bif b38 then sv else undef)) :: (some 61, .is (bif b38 then .int .i64 (i : Int) else undef)) :: (some 62, .by fun u W => b38 = true → PtR (L) W u (encZ r16)) :: (some 63, .by fun u W => b38 = true → PtR (L) W u [.string r16.med, .string r16.whr]) :: (some 64, .is (bif b38 then .agg #[.string r16.med, .string r16.whr] else undef)) :: (some 65, .is (bif b38 then .bool (decide (r36.med = r16.med ∧ r36.whr = r16.whr)) else undef)) :: (some 66, .is (.bool (b38 && (decide (r36.med = r16.med ∧ r36.whr = r16.whr))))) :: (some 67, .is (.bool b39)) :: (some 68, .is (bif b39 then undef else sv)) :: (some 69, .is (bif b39 then undef else .int .i64 (j : Int))) :: (some 70, .by fun u W => b39 = false → PtR (L) W u (encZ r36)) :: (some 71, .by fun u W => b39 = false → PtR (L) W u [.string r36.tok]) :: (some 72, .is (bif b39 then undef else .string r36.tok)) :: (some 73, .is (bif b39 then undef else sv)) :: (some 74, .is (bif b39 then undef else .int .i64 (i : Int))) :: (some 75, .by fun u W => b39 = false → PtR (L) W u (encZ r16)) :: (some 76, .by fun u W => b39 = false → PtR (L) W u [.string r16.tok]) :: (some 77, .is (bif b39 then undef else .string r16.tok)) :: (some 78, .is (bif b39 then undef else .bool (decide (r36.tok = r16.tok)))) :: (some 79, .is (.bool (b39 || (decide (r36.tok = r16.tok))))) :: []) [[], [], [0, 1], [2], [3], [], [], [5, 6], [7], [8], [4, 9], [10], [11], [11], [12, 13, 11], [14, 11], [15, 11], [11], [11], [17, 18, 11], [19, 11], [20, 11], [16, 21, 11], [11, 22], [23, 11], [24], [24], [25, 26, 24], [27, 24], [28, 24], [24], [24], [30, 31, 24], [32, 24], [33, 24], [29, 34, 24], [24, 35]] (by kernel_rfl) (by kernel_rfl) (by kernel_rfl) (by kernel_rfl) (by kernel_rfl) (by kernel_rfl) (by kernel_rfl) ⟨fun _ _ _ hb h => h.below hb, fun _ _ _ hb h => h.below hb, fun _ _ _ hb h => h.below hb, fun _ _ _ hb h => h.below hb, fun _ _ _ hb h g => (h g).below hb, fun _ _ _ hb h g => (h g).below hb, fun _ _ _ hb h g => (h g).below hb, fun _ _ _ hb h g => (h g).below hb, fun _ _ _ hb h g => (h g).below hb, fun _ _ _ hb h g => (h g).below hb, fun _ _ _ hb h g => (h g).below hb, fun _ _ _ hb h g => (h g).below hb, trivial⟩ ?_ ?_
            ·
              refine DSteps.cons (fun Wd hd => ?_) ?_
              ·
                exact DV.dr (dx_move rfl rfl) ⟨Below.refl _ _, rfl⟩
              refine DSteps.cons (fun Wd hd => ?_) ?_
              ·
                exact DV.dr (dx_move rfl rfl) ⟨Below.refl _ _, rfl⟩
              refine DSteps.cons (fun Wd hd => ?_) ?_
              ·
                have h1 := h1.below hd
                exact (dx_idxF j rfl ty_slice_22 rfl rfl h1 (by omega) (at_mapX e37)).mono (fun v W' h => ⟨by rw [← h.1]; exact Below.refl _ _, by rw [← h.1]; exact h.2⟩)
              refine DSteps.cons (fun Wd hd => ?_) ?_
              ·
                intro u11_2 p11_2
                exact (dx_fldP 1 rfl ty_fld_26_1_1 rfl p11_2 (cs' := [.string r36.sec]) rfl (Nat.succ_pos _)).mono (fun v W' h => ⟨by rw [← h.1]; exact Below.refl _ _, by rw [← h.1]; exact h.2⟩)
              refine DSteps.cons (fun Wd hd => ?_) ?_
              ·
                intro u11_3 p11_3
                exact DV.dr (dx_loadP rfl ty_one_9 rfl p11_3) ⟨Below.refl _ _, rfl⟩
              refine DSteps.cons (fun Wd hd => ?_) ?_
              ·
                exact DV.dr (dx_move rfl rfl) ⟨Below.refl _ _, rfl⟩
              refine DSteps.cons (fun Wd hd => ?_) ?_
              ·
                exact DV.dr (dx_move rfl rfl) ⟨Below.refl _ _, rfl⟩
              refine DSteps.cons (fun Wd hd => ?_) ?_
              ·
                have h1 := h1.below hd
                exact (dx_idxF i rfl ty_slice_22 rfl rfl h1 (by omega) (at_mapX e17)).mono (fun v W' h => ⟨by rw [← h.1]; exact Below.refl _ _, by rw [← h.1]; exact h.2⟩)
              refine DSteps.cons (fun Wd hd => ?_) ?_
              ·
                intro u11_7 p11_7
                exact (dx_fldP 1 rfl ty_fld_26_1_1 rfl p11_7 (cs' := [.string r16.sec]) rfl (Nat.succ_pos _)).mono (fun v W' h => ⟨by rw [← h.1]; exact Below.refl _ _, by rw [← h.1]; exact h.2⟩)
              refine DSteps.cons (fun Wd hd => ?_) ?_
              ·
                intro u11_8 p11_8
                exact DV.dr (dx_loadP rfl ty_one_9 rfl p11_8) ⟨Below.refl _ _, rfl⟩
              refine DSteps.cons (fun Wd hd => ?_) ?_
              ·
                exact DV.dr (dx_eqlT rfl rfl rfl) ⟨Below.refl _ _, rfl⟩
              refine DSteps.cons (fun Wd hd => ?_) ?_
              ·
                exact DV.dr (dx_move rfl rfl) ⟨Below.refl _ _, by rw [hb38]; rfl⟩
              refine DSteps.cons (fun Wd hd => ?_) ?_
              ·
                cases b38
                ·
                  exact DV.dr (dv_off rfl) ⟨Below.refl _ _, rfl⟩
                ·
                  exact DV.dr (dx_move rfl rfl) ⟨Below.refl _ _, rfl⟩
              refine DSteps.cons (fun Wd hd => ?_) ?_
              ·
                cases b38
                ·
                  exact DV.dr (dv_off rfl) ⟨Below.refl _ _, rfl⟩
                ·
                  exact DV.dr (dx_move rfl rfl) ⟨Below.refl _ _, rfl⟩
              refine DSteps.cons (fun Wd hd => ?_) ?_
              ·
                cases b38
                ·
                  exact DV.dr (dv_off rfl) ⟨Below.refl _ _, fun h => by cases h⟩
                ·
                  have h1 := h1.below hd
                  exact (dx_idxF j rfl ty_slice_22 rfl rfl h1 (by first | omega | (have hq_ := of_decide_eq_true hb38.symm; omega)) (at_mapX e37)).mono (fun v W' h => ⟨by rw [← h.1]; exact Below.refl _ _, fun _ => by rw [← h.1]; exact h.2⟩)
              refine DSteps.cons (fun Wd hd => ?_) ?_
              ·
                intro u11_14 p11_14
                cases b38
                ·
                  exact DV.dr (dv_off rfl) ⟨Below.refl _ _, fun h => by cases h⟩
                ·
                  replace p11_14 := p11_14 rfl
                  exact (dx_fldP 2 rfl ty_fld_26_2_2 rfl p11_14 (cs' := [.string r36.med, .string r36.whr]) rfl (Nat.succ_pos _)).mono (fun v W' h => ⟨by rw [← h.1]; exact Below.refl _ _, fun _ => by rw [← h.1]; exact h.2⟩)
              refine DSteps.cons (fun Wd hd => ?_) ?_
              ·
                intro u11_15 p11_15
                cases b38
                ·
                  exact DV.dr (dv_off rfl) ⟨Below.refl _ _, rfl⟩
                ·
                  replace p11_15 := p11_15 rfl
                  exact DV.dr (dx_loadPN rfl ty_agg_24_2 rfl p11_15 rfl) ⟨Below.refl _ _, rfl⟩
              refine DSteps.cons (fun Wd hd => ?_) ?_
              ·
                cases b38
                ·
                  exact DV.dr (dv_off rfl) ⟨Below.refl _ _, rfl⟩
                ·
                  exact DV.dr (dx_move rfl rfl) ⟨Below.refl _ _, rfl⟩
              refine DSteps.cons (fun Wd hd => ?_) ?_
              ·
                cases b38
                ·
                  exact DV.dr (dv_off rfl) ⟨Below.refl _ _, rfl⟩
                ·
                  exact DV.dr (dx_move rfl rfl) ⟨Below.refl _ _, rfl⟩
              refine DSteps.cons (fun Wd hd => ?_) ?_
              ·
                cases b38
                ·
                  exact DV.dr (dv_off rfl) ⟨Below.refl _ _, fun h => by cases h⟩
                ·
                  have h1 := h1.below hd
                  exact (dx_idxF i rfl ty_slice_22 rfl rfl h1 (by first | omega | (have hq_ := of_decide_eq_true hb38.symm; omega)) (at_mapX e17)).mono (fun v W' h => ⟨by rw [← h.1]; exact Below.refl _ _, fun _ => by rw [← h.1]; exact h.2⟩)
              refine DSteps.cons (fun Wd hd => ?_) ?_
              ·
                intro u11_19 p11_19
                cases b38
                ·
                  exact DV.dr (dv_off rfl) ⟨Below.refl _ _, fun h => by cases h⟩
                ·
                  replace p11_19 := p11_19 rfl
                  exact (dx_fldP 2 rfl ty_fld_26_2_2 rfl p11_19 (cs' := [.string r16.med, .string r16.whr]) rfl (Nat.succ_pos _)).mono (fun v W' h => ⟨by rw [← h.1]; exact Below.refl _ _, fun _ => by rw [← h.1]; exact h.2⟩)
              refine DSteps.cons (fun Wd hd => ?_) ?_
              ·
                intro u11_20 p11_20
                cases b38
                ·
                  exact DV.dr (dv_off rfl) ⟨Below.refl _ _, rfl⟩
                ·
                  replace p11_20 := p11_20 rfl
                  exact DV.dr (dx_loadPN rfl ty_agg_24_2 rfl p11_20 rfl) ⟨Below.refl _ _, rfl⟩
              refine DSteps.cons (fun Wd hd => ?_) ?_
              ·
                cases b38
                ·
                  exact DV.dr (dv_off rfl) ⟨Below.refl _ _, rfl⟩
                ·
                  exact DV.dr (dx_eqAd rfl rfl rfl) ⟨Below.refl _ _, rfl⟩
              refine DSteps.cons (fun Wd hd => ?_) ?_
              ·
                cases b38
                ·
                  exact DV.dr (dx_pick rfl rfl rfl) ⟨Below.refl _ _, rfl⟩
                ·
                  exact DV.dr (dx_pick rfl rfl rfl) ⟨Below.refl _ _, rfl⟩
              refine DSteps.cons (fun Wd hd => ?_) ?_
              ·
                exact DV.dr (dx_move rfl rfl) ⟨Below.refl _ _, by rw [hb39]; rfl⟩
              refine DSteps.cons (fun Wd hd => ?_) ?_
              ·
                cases b39
                ·
                  exact DV.dr (dx_move rfl rfl) ⟨Below.refl _ _, rfl⟩
                ·
                  exact DV.dr (dv_off rfl) ⟨Below.refl _ _, rfl⟩
              refine DSteps.cons (fun Wd hd => ?_) ?_
              ·
                cases b39
                ·
                  exact DV.dr (dx_move rfl rfl) ⟨Below.refl _ _, rfl⟩
                ·
                  exact DV.dr (dv_off rfl) ⟨Below.refl _ _, rfl⟩
              refine DSteps.cons (fun Wd hd => ?_) ?_
              ·
                cases b39
                ·
                  have h1 := h1.below hd
                  exact (dx_idxF j rfl ty_slice_22 rfl rfl h1 (by omega) (at_mapX e37)).mono (fun v W' h => ⟨by rw [← h.1]; exact Below.refl _ _, fun _ => by rw [← h.1]; exact h.2⟩)
                ·
                  exact DV.dr (dv_off rfl) ⟨Below.refl _ _, fun h => by cases h⟩
              refine DSteps.cons (fun Wd hd => ?_) ?_
              ·
                intro u11_27 p11_27
                cases b39
                ·
                  replace p11_27 := p11_27 rfl
                  exact (dx_fldP 1 rfl ty_fld_26_3_4 rfl p11_27 (cs' := [.string r36.tok]) rfl (Nat.succ_pos _)).mono (fun v W' h => ⟨by rw [← h.1]; exact Below.refl _ _, fun _ => by rw [← h.1]; exact h.2⟩)
                ·
                  exact DV.dr (dv_off rfl) ⟨Below.refl _ _, fun h => by cases h⟩
              refine DSteps.cons (fun Wd hd => ?_) ?_
              ·
                intro u11_28 p11_28
                cases b39
                ·
                  replace p11_28 := p11_28 rfl
                  exact DV.dr (dx_loadP rfl ty_one_9 rfl p11_28) ⟨Below.refl _ _, rfl⟩
                ·
                  exact DV.dr (dv_off rfl) ⟨Below.refl _ _, rfl⟩
              refine DSteps.cons (fun Wd hd => ?_) ?_
              ·
                cases b39
                ·
                  exact DV.dr (dx_move rfl rfl) ⟨Below.refl _ _, rfl⟩
                ·
                  exact DV.dr (dv_off rfl) ⟨Below.refl _ _, rfl⟩
              refine DSteps.cons (fun Wd hd => ?_) ?_
              ·
                cases b39
                ·
                  exact DV.dr (dx_move rfl rfl) ⟨Below.refl _ _, rfl⟩
                ·
                  exact DV.dr (dv_off rfl) ⟨Below.refl _ _, rfl⟩
              refine DSteps.cons (fun Wd hd => ?_) ?_
              ·
                cases b39
                ·
                  have h1 := h1.below hd
                  exact (dx_idxF i rfl ty_slice_22 rfl rfl h1 (by omega) (at_mapX e17)).mono (fun v W' h => ⟨by rw [← h.1]; exact Below.refl _ _, fun _ => by rw [← h.1]; exact h.2⟩)
                ·
                  exact DV.dr (dv_off rfl) ⟨Below.refl _ _, fun h => by cases h⟩
              refine DSteps.cons (fun Wd hd => ?_) ?_
              ·
                intro u11_32 p11_32
                cases b39
                ·
                  replace p11_32 := p11_32 rfl
                  exact (dx_fldP 1 rfl ty_fld_26_3_4 rfl p11_32 (cs' := [.string r16.tok]) rfl (Nat.succ_pos _)).mono (fun v W' h => ⟨by rw [← h.1]; exact Below.refl _ _, fun _ => by rw [← h.1]; exact h.2⟩)
                ·
                  exact DV.dr (dv_off rfl) ⟨Below.refl _ _, fun h => by cases h⟩
              refine DSteps.cons (fun Wd hd => ?_) ?_
              ·
                intro u11_33 p11_33
                cases b39
                ·
                  replace p11_33 := p11_33 rfl
                  exact DV.dr (dx_loadP rfl ty_one_9 rfl p11_33) ⟨Below.refl _ _, rfl⟩
                ·
                  exact DV.dr (dv_off rfl) ⟨Below.refl _ _, rfl⟩
              refine DSteps.cons (fun Wd hd => ?_) ?_
              ·
                cases b39
                ·
                  exact DV.dr (dx_eqlT rfl rfl rfl) ⟨Below.refl _ _, rfl⟩
                ·
                  exact DV.dr (dv_off rfl) ⟨Below.refl _ _, rfl⟩
              refine DSteps.cons (fun Wd hd => ?_) ?_
              ·
                cases b39
                ·
                  exact DV.dr (dx_pick rfl rfl rfl) ⟨Below.refl _ _, rfl⟩
                ·
                  exact DV.dr (dx_pick rfl rfl rfl) ⟨Below.refl _ _, rfl⟩
              exact trivial
            ·
              intro W40 b41
              intro u11_2 p11_2
              intro u11_3 p11_3
              intro u11_7 p11_7
              intro u11_8 p11_8
              intro _ _
              intro _ _
              intro _ _
              intro _ _
              intro _ _
              intro _ _
              intro _ _
              intro _ _
              replace h1 := h1.below b41
              replace hB := below_then hB b41
              replace hL := LL.below hL b41
              refine WL.nil ?_
              refine hK35 ?_
              refine WC.cond rfl (fun c42 => ?_) (fun c42 => ?_)
              ·
                refine WC.seq fun K43 hK43 => ?_
                refine WC.region ?_
                refine WL.val (dx_assign rfl rfl) rfl rfl ?_
                refine WL.nil ?_
                refine hK43 ?_
                refine WC.ret fun a_ ha_ => ?_
                exact hQ (cv_ret1 rfl (.tmp rfl) (by rw [show rightZ xs = false from by unfold rightZ; rw [apart_f e17 (any_yes (by omega) e37 ((clash_eq hb38 hb39).trans c42)), Bool.and_false]]) hB ha_)
              ·
                obtain ⟨g44, g45⟩ := bor_f c42
                replace g44 := bvar_f g44
                replace g45 := of_decide_eq_false g45
                refine WC.skip ?_
                refine hK34 ?_
                refine WC.region ?_
                refine WL.val (dx_move rfl rfl) rfl rfl ?_
                refine WL.val (dx_add (r := (j : Int) + 1) rfl rfl rfl (wrap64_id (by omega))) rfl rfl ?_
                refine WL.val (dx_assign rfl rfl) rfl rfl ?_
                refine WL.nil ?_
                have hcn := clash_no hb38 hb39 g44 g45
                exact hK29 (j + 1) ⟨(by omega), (fun m a hm ha => by rcases Nat.lt_or_ge m j with hl | hl; exact hc m a hl ha; obtain rfl : m = j := (by omega); rw [e37] at ha; cases ha; exact hcn), hB, hL, h1⟩ (by omega) (by repeat first | exact trivial | exact And.intro rfl trivial | refine And.intro rfl ?_ | refine And.intro (congrArg (fun z : Int => some (Value.int .i64 z)) (by omega)) ?_)
          ·
            replace c33 := of_decide_eq_false c33
            refine WC.exit ?_
            refine hK13 ?_
            refine WC.region ?_
            refine WL.val (dx_move rfl rfl) rfl rfl ?_
            refine WL.val (dx_add (r := (i : Int) + 1) rfl rfl rfl (wrap64_id (by omega))) rfl rfl ?_
            refine WL.val (dx_assign rfl rfl) rfl rfl ?_
            refine WL.nil ?_
            obtain ⟨hv', hu'⟩ := stepZ hv hu e21 e17 hb18 hb19 g26 g27
            exact hK8 (i + 1) ⟨(by omega), hv', hu', (apart_step ha e17 (any_no (fun m b hm => hc m b (by omega)))), hB, hL, h1⟩ (by omega) (by repeat first | exact trivial | exact And.intro rfl trivial | refine And.intro rfl ?_ | refine And.intro (congrArg (fun z : Int => some (Value.int .i64 z)) (by omega)) ?_)
    ·
      replace c12 := of_decide_eq_false c12
      refine WC.exit ?_
      refine hK6 ?_
      refine WC.seq fun K46 hK46 => ?_
      refine WC.region ?_
      refine WL.val (dx_assign rfl rfl) rfl rfl ?_
      refine WL.nil ?_
      refine hK46 ?_
      refine WC.ret fun a_ ha_ => ?_
      exact hQ (cv_ret1 rfl (.tmp rfl) (by rw [show rightZ xs = true from by unfold rightZ; rw [right_t (by omega) (fun k a hk => hv k a (by omega)) (fun k a b hk => hu k a b (by omega)), apart_t (fun k s hk => ha k s (by omega))]; rfl]) hB ha_)

set_option maxHeartbeats 1000000 in
theorem refPrune_v (xs : List SesX) (now : Int) (sv : Value) (w : World) (L : List Nat) (hL : LL L w) (h1 : RdF 10 L w sv (xs.map encZ))  (hsz : SzZ xs) : CV Tryz.prog 14 [sv, .int .i64 now] w fun v W => NewW 10 w.heap.size ((pruneZ xs now).map encZ) v W := by
  refine cv_enter (N := 37) (f := [(0, sv), (1, .int .i64 now)]) Tryz.func14 rfl rfl rfl rfl fun Q hQ hE => ?_
  have hB := Below.refl w.heap.size w
  have h1m : xs.length ≤ maxLen := by have := h1.len; rwa [List.length_map] at this
  unfold maxLen at h1m
  refine WC.seq fun K1 hK1 => ?_
  refine WC.region ?_
  refine WL.val (dx_assign rfl rfl) rfl rfl ?_
  refine WL.nil ?_
  refine hK1 ?_
  refine WC.seq fun K2 hK2 => ?_
  refine WC.seq fun K3 hK3 => ?_
  refine WC.region ?_
  refine WL.val (dx_move rfl rfl) rfl rfl ?_
  refine WL.get (dx_cv rfl Tryz.func19 rfl rfl rfl (refRightZ_v xs _ w _ hL h1 hsz)) rfl rfl ?_
  rintro _ W5 ⟨rfl, b4⟩
  replace h1 := h1.below b4
  replace hB := below_then hB b4
  replace hL := LL.below hL b4
  refine WL.val (dx_not rfl rfl) rfl rfl ?_
  refine WL.val (dx_move rfl rfl) rfl rfl ?_
  refine WL.split 10 rfl (fun g6 => ?_) (fun g6 => ?_)
  ·
    replace g6 := bnot_t g6
    refine WL.off rfl rfl rfl ?_
    refine WL.off rfl rfl rfl ?_
    refine WL.off rfl rfl rfl ?_
    refine WL.val (dx_pick rfl rfl rfl) rfl rfl ?_
    refine WL.nil ?_
    refine hK3 ?_
    refine WC.condT rfl ?_
    refine WC.seq fun K7 hK7 => ?_
    refine WC.region ?_
    refine WL.val (dx_assign rfl rfl) rfl rfl ?_
    refine WL.nil ?_
    refine hK7 ?_
    refine WC.ret fun a_ ha_ => ?_
    exact hQ (cv_ret1 rfl (.tmp rfl) (by have e : pruneZ xs now = [] := (by unfold pruneZ; rw [if_neg (by intro h; simp_all)]); rw [e]; exact .inl ⟨rfl, rfl, by decide⟩) hB ha_)
  ·
    replace g6 := bnot_f g6
    refine WL.val (dx_move rfl rfl) rfl rfl ?_
    refine WL.get (dx_cv rfl Tryz.func20 rfl rfl rfl (timed_v now W5 [] (LL.nil _))) rfl rfl ?_
    rintro _ W9 ⟨rfl, b8⟩
    replace h1 := h1.below b8
    replace hB := below_then hB b8
    replace hL := LL.below hL b8
    refine WL.val (dx_not rfl rfl) rfl rfl ?_
    refine WL.val (dx_pick rfl rfl rfl) rfl rfl ?_
    refine WL.nil ?_
    refine hK3 ?_
    refine WC.cond rfl (fun c10 => ?_) (fun c10 => ?_)
    ·
      replace c10 := bnot_t c10
      refine WC.seq fun K11 hK11 => ?_
      refine WC.region ?_
      refine WL.val (dx_assign rfl rfl) rfl rfl ?_
      refine WL.nil ?_
      refine hK11 ?_
      refine WC.ret fun a_ ha_ => ?_
      exact hQ (cv_ret1 rfl (.tmp rfl) (by have e : pruneZ xs now = [] := (by unfold pruneZ; rw [if_neg (by intro h; simp_all)]); rw [e]; exact .inl ⟨rfl, rfl, by decide⟩) hB ha_)
    ·
      replace c10 := bnot_f c10
      refine WC.skip ?_
      refine hK2 ?_
      refine WC.seq fun K12 hK12 => ?_
      refine WC.region ?_
      refine WL.val (dx_assign rfl rfl) rfl rfl ?_
      refine WL.nil ?_
      refine hK12 ?_
      refine WC.seq fun K13 hK13 => ?_
      refine WC.seq fun K14 hK14 => ?_
      refine WC.region ?_
      refine WL.val (dx_assign rfl rfl) rfl rfl ?_
      refine WL.nil ?_
      refine hK14 ?_
      refine WC.block ?_
      have zh1 := h1
      have zhB := hB
      have zhL := hL
      have h5 : NewW 10 W9.heap.size (([] : List SesX).map encZ) (.slice none 0 0) W9 := .inl ⟨rfl, rfl, by decide⟩
      have hC : SinceB W9 (L) W9 := Below.refl _ _
      have hr := (show rightZ xs = true by assumption)
      have hnw := numZ_t (show numZ now 0 = true by assumption)
      have hrl := rightZ_len hr
      refine WC.loop3 (fun (ia : Nat) (ov : Value) (out : List SesX) => [(0, sv), (1, .int .i64 now), (6, .int .i64 (ia : Int)), (5, ov)]) (fun (ia : Nat) (ov : Value) (out : List SesX) W => ia ≤ xs.length ∧ out = (xs.take ia).filter (liveZ now) ∧ Below w.heap.size w W ∧ LL (L) W ∧ RdF 10 (L) W sv (xs.map encZ) ∧ NewW 10 W9.heap.size (out.map encZ) ov W ∧ SinceB W9 (L) W) (fun (ia : Nat) (ov : Value) (out : List SesX) => xs.length - ia) 0 (.slice none 0 0) [] (by repeat first | exact trivial | exact And.intro rfl trivial | refine And.intro rfl ?_ | refine And.intro (congrArg (fun z : Int => some (Value.int .i64 z)) (by omega)) ?_) ⟨Nat.zero_le _, (by simp), hB, hL, h1, h5, hC⟩ ?_
      clear h1 h5 hC hB hL
      rintro K15 ia ov out W16 ⟨hi, hv, hB, hL, h1, h5, hC⟩ hK15
      have hol : out.length ≤ xs.length := (by rw [hv]; exact filt_le xs now ia)
      refine WC.seq fun K17 hK17 => ?_
      refine WC.seq fun K18 hK18 => ?_
      refine WC.region ?_
      refine WL.val (dx_move rfl rfl) rfl rfl ?_
      refine WL.val (dx_move rfl rfl) rfl rfl ?_
      refine WL.val (dx_lenX rfl ty_slice_22 rfl h1) rfl rfl ?_
      refine WL.val (dx_lss rfl rfl rfl) rfl rfl ?_
      refine WL.nil ?_
      refine hK18 ?_
      refine WC.cond rfl (fun c19 => ?_) (fun c19 => ?_)
      ·
        replace c19 := of_decide_eq_true c19
        refine WC.skip ?_
        refine hK17 ?_
        refine WC.seq fun K20 hK20 => ?_
        refine WC.block ?_
        refine WC.seq fun K21 hK21 => ?_
        obtain ⟨r22, e23⟩ : ∃ x, xs[ia]? = some x := ⟨_, List.getElem?_eq_getElem (by omega)⟩
        have hgr22 := goodZ_t (rightZ_good hr e23)
        refine WC.region ?_
        refine WL.val (dx_move rfl rfl) rfl rfl ?_
        refine WL.val (dx_move rfl rfl) rfl rfl ?_
        refine WL.val (dx_move rfl rfl) rfl rfl ?_
        refine WL.get (dx_idxF ia rfl ty_slice_22 rfl rfl h1 (by omega) (at_mapX e23)) rfl rfl ?_
        rintro u24 _ ⟨rfl, p25⟩
        refine WL.get (dx_fldP 1 rfl ty_fld_26_5_6 rfl p25 (cs' := [.int .i64 r22.since]) rfl (Nat.succ_pos _)) rfl rfl ?_
        rintro u26 _ ⟨rfl, p27⟩
        refine WL.val (dx_loadP rfl ty_one_3 rfl p27) rfl rfl ?_
        refine WL.val (dx_sub (r := now - r22.since) rfl rfl rfl (wrap64_id (by omega))) rfl rfl ?_
        refine WL.val (dx_leq rfl rfl rfl) rfl rfl ?_
        refine WL.nil ?_
        refine hK21 ?_
        refine WC.cond rfl (fun c28 => ?_) (fun c28 => ?_)
        ·
          replace c28 := of_decide_eq_true c28
          refine WC.region ?_
          refine WL.val (dx_move rfl rfl) rfl rfl ?_
          refine WL.val (dx_move rfl rfl) rfl rfl ?_
          refine WL.val (dx_move rfl rfl) rfl rfl ?_
          refine WL.get (dx_idxF ia rfl ty_slice_22 rfl rfl h1 (by omega) (at_mapX e23)) rfl rfl ?_
          rintro u29 _ ⟨rfl, p30⟩
          refine WL.val (dx_loadPN rfl ty_agg_26_10 rfl p30 rfl) rfl rfl ?_
          refine WL.get (dx_lit1 (r := encZ r22) rfl ty_ap_22 (by decide) (by decide) rfl rfl rfl) rfl rfl ?_
          rintro x31 W32 ⟨k34, b33, z35⟩
          replace h1 := h1.below b33
          replace h5 := h5.below b33
          replace hC := hC.below b33
          replace p30 := p30.below b33
          replace hB := below_then hB b33
          replace hL := LL.below hL b33
          have hx := k34.rd (L := []) (by simp)
          refine WL.get (dx_apW (base := W9.heap.size) rfl ty_ap_22 rfl rfl h5 hx (fun r hr => by rw [List.mem_singleton.1 hr]; exact oc_Z _) (by simp [maxLen]; omega) (by simp; omega) (Below.size hC)) rfl rfl ?_
          rintro x36 W37 ⟨h5, b38⟩
          replace h5 : NewW 10 W9.heap.size ((out ++ [r22]).map encZ) x36 W37 := by rw [List.map_append]; exact h5
          replace hC : SinceB W9 (L) W37 := Below.trans hC b38
          replace h1 := zh1.below hC
          replace hB := below_then zhB hC
          replace hL := LL.below zhL hC
          refine WL.val (dx_assign rfl rfl) rfl rfl ?_
          refine WL.nil ?_
          refine hK20 ?_
          refine WC.region ?_
          refine WL.val (dx_move rfl rfl) rfl rfl ?_
          refine WL.val (dx_add (r := (ia : Int) + 1) rfl rfl rfl (wrap64_id (by omega))) rfl rfl ?_
          refine WL.val (dx_assign rfl rfl) rfl rfl ?_
          refine WL.nil ?_
          exact hK15 (ia + 1) x36 (out ++ [r22]) ⟨(by omega), (by rw [filt_yes e23 (by assumption), ← hv]), hB, hL, h1, h5, hC⟩ (by omega) (by repeat first | exact trivial | exact And.intro rfl trivial | refine And.intro rfl ?_ | refine And.intro (congrArg (fun z : Int => some (Value.int .i64 z)) (by omega)) ?_)
        ·
          replace c28 := of_decide_eq_false c28
          refine WC.skip ?_
          refine hK20 ?_
          refine WC.region ?_
          refine WL.val (dx_move rfl rfl) rfl rfl ?_
          refine WL.val (dx_add (r := (ia : Int) + 1) rfl rfl rfl (wrap64_id (by omega))) rfl rfl ?_
          refine WL.val (dx_assign rfl rfl) rfl rfl ?_
          refine WL.nil ?_
          exact hK15 (ia + 1) ov out ⟨(by omega), (by rw [filt_no e23 (by assumption), ← hv]), hB, hL, h1, h5, hC⟩ (by omega) (by repeat first | exact trivial | exact And.intro rfl trivial | refine And.intro rfl ?_ | refine And.intro (congrArg (fun z : Int => some (Value.int .i64 z)) (by omega)) ?_)
      ·
        replace c19 := of_decide_eq_false c19
        refine WC.exit ?_
        refine hK13 ?_
        refine WC.seq fun K39 hK39 => ?_
        refine WC.region ?_
        refine WL.val (dx_move rfl rfl) rfl rfl ?_
        refine WL.val (dx_assign rfl rfl) rfl rfl ?_
        refine WL.nil ?_
        refine hK39 ?_
        refine WC.ret fun a_ ha_ => ?_
        exact hQ (cv_ret1 rfl (.tmp rfl) (by have e : pruneZ xs now = out := (by unfold pruneZ; rw [if_pos ⟨hr, by assumption⟩, hv, List.take_of_length_le (by omega)]); rw [e]; exact h5.le (Below.size zhB)) hB ha_)

end Go.Proofs.YthllidchoodofaaGreatDoor
namespace Go.Proofs.YthllidchoodofaaGreatDoor
open Go.RowKit
set_option linter.unusedVariables false
set_option linter.unusedSimpArgs false
set_option maxRecDepth 8000

set_option maxHeartbeats 1000000 in
theorem refFindZ_v (xs : List SesX) (id : Int) (sv : Value) (w : World) (L : List Nat) (hL : LL L w) (h1 : RdF 10 L w sv (xs.map encZ))  (hsz : SzZ xs) : CV Tryz.prog 11 [sv, .int .i64 id] w fun v W => v = .tuple #[.agg (encZ (findZ xs id).1).toArray, .bool (findZ xs id).2] := by
  refine cv_enter (N := 29) (f := [(0, sv), (1, .int .i64 id)]) Tryz.func11 rfl rfl rfl rfl fun Q hQ hE => ?_
  have hB := Below.refl w.heap.size w
  have h1m : xs.length ≤ maxLen := by have := h1.len; rwa [List.length_map] at this
  unfold maxLen at h1m
  refine WC.seq fun K1 hK1 => ?_
  refine WC.region ?_
  refine WL.get (dx_alloc rfl ty_zero_26 rfl) rfl rfl ?_
  rintro _ W2 ⟨rfl, k3, b4, z5⟩
  have l6 := hB.size
  replace h1 := h1.more b4 (Nat.le_refl _)
  replace hB := below_then hB b4
  replace hL := LL.more hL z5
  refine WL.val (dx_assign rfl rfl) rfl rfl ?_
  refine WL.nil ?_
  refine hK1 ?_
  refine WC.seq fun K7 hK7 => ?_
  refine WC.seq fun K8 hK8 => ?_
  refine WC.region ?_
  refine WL.val (dx_assign rfl rfl) rfl rfl ?_
  refine WL.nil ?_
  refine hK8 ?_
  refine WC.block ?_
  refine WC.loop (fun (i : Nat) => [(0, sv), (1, .int .i64 id), (4, .pointer (some ⟨w.heap.size, 0, none⟩)), (6, .int .i64 (i : Int))]) (fun (i : Nat) W => i ≤ xs.length ∧ (∀ k a, k < i → xs[k]? = some a → a.id ≠ id) ∧ Below w.heap.size w W ∧ LL (w.heap.size :: L) W ∧ RdF 10 (w.heap.size :: L) W sv (xs.map encZ) ∧ Blk W w.heap.size [.int .i64 0, .string ⟨#[]⟩, .string ⟨#[]⟩, .string ⟨#[]⟩, .string ⟨#[]⟩, .int .i64 0, .int .i64 0, .int .i64 0, .bool false, .int .i64 0]) (fun (i : Nat) => xs.length - i) 0 (by repeat first | exact trivial | exact And.intro rfl trivial | refine And.intro rfl ?_ | refine And.intro (congrArg (fun z : Int => some (Value.int .i64 z)) (by omega)) ?_) ⟨Nat.zero_le _, (fun k a hk => by omega), hB, hL, h1, k3⟩ ?_
  clear h1 k3 hB hL
  rintro K9 i W10 ⟨hi, hv, hB, hL, h1, k3⟩ hK9
  refine WC.seq fun K11 hK11 => ?_
  refine WC.seq fun K12 hK12 => ?_
  refine WC.region ?_
  refine WL.val (dx_move rfl rfl) rfl rfl ?_
  refine WL.val (dx_move rfl rfl) rfl rfl ?_
  refine WL.val (dx_lenX rfl ty_slice_22 rfl h1) rfl rfl ?_
  refine WL.val (dx_lss rfl rfl rfl) rfl rfl ?_
  refine WL.val (dx_move rfl rfl) rfl rfl ?_
  refine WL.split 11 rfl (fun g13 => ?_) (fun g13 => ?_)
  ·
    replace g13 := of_decide_eq_true g13
    refine WL.val (dx_move rfl rfl) rfl rfl ?_
    refine WL.get (dx_cv rfl Tryz.func19 rfl rfl rfl (refRightZ_v xs _ W10 _ hL h1 hsz)) rfl rfl ?_
    rintro _ W15 ⟨rfl, b14⟩
    replace h1 := h1.below b14
    replace k3 := k3.below b14
    replace hB := below_then hB b14
    replace hL := LL.below hL b14
    refine WL.val (dx_pick rfl rfl rfl) rfl rfl ?_
    refine WL.nil ?_
    refine hK12 ?_
    refine WC.cond rfl (fun c16 => ?_) (fun c16 => ?_)
    ·
      refine WC.skip ?_
      refine hK11 ?_
      refine WC.seq fun K17 hK17 => ?_
      refine WC.block ?_
      refine WC.seq fun K18 hK18 => ?_
      refine WC.region ?_
      refine WL.val (dx_move rfl rfl) rfl rfl ?_
      refine WL.val (dx_move rfl rfl) rfl rfl ?_
      obtain ⟨r19, e20⟩ : ∃ x, xs[i]? = some x := ⟨_, List.getElem?_eq_getElem (by omega)⟩
      refine WL.get (dx_idxF i rfl ty_slice_22 rfl rfl h1 (by omega) (at_mapX e20)) rfl rfl ?_
      rintro u21 _ ⟨rfl, p22⟩
      refine WL.get (dx_fldP 1 rfl ty_fld_26_0_0 rfl p22 (cs' := [.int .i64 r19.id]) rfl (Nat.succ_pos _)) rfl rfl ?_
      rintro u23 _ ⟨rfl, p24⟩
      refine WL.val (dx_loadP rfl ty_one_3 rfl p24) rfl rfl ?_
      refine WL.val (dx_move rfl rfl) rfl rfl ?_
      refine WL.val (dx_eql rfl rfl rfl) rfl rfl ?_
      refine WL.nil ?_
      refine hK18 ?_
      refine WC.cond rfl (fun c25 => ?_) (fun c25 => ?_)
      ·
        replace c25 := of_decide_eq_true c25
        refine WC.seq fun K26 hK26 => ?_
        refine WC.region ?_
        refine WL.val (dx_move rfl rfl) rfl rfl ?_
        refine WL.val (dx_move rfl rfl) rfl rfl ?_
        refine WL.get (dx_idxF i rfl ty_slice_22 rfl rfl h1 (by omega) (at_mapX e20)) rfl rfl ?_
        rintro u27 _ ⟨rfl, p28⟩
        refine WL.val (dx_loadPN rfl ty_agg_26_10 rfl p28 rfl) rfl rfl ?_
        refine WL.do (dx_store (cs' := [.int .i64 r19.id, .string r19.sec, .string r19.med, .string r19.whr, .string r19.tok, .int .i64 r19.att, .int .i64 r19.since, .int .i64 r19.wrong, .bool r19.shown, .int .i64 r19.sat]) (vs := [.int .i64 r19.id, .string r19.sec, .string r19.med, .string r19.whr, .string r19.tok, .int .i64 r19.att, .int .i64 r19.since, .int .i64 r19.wrong, .bool r19.shown, .int .i64 r19.sat]) rfl ty_size_26_10 rfl rfl rfl (oc_cons rfl (oc_cons rfl (oc_cons rfl (oc_cons rfl (oc_cons rfl (oc_cons rfl (oc_cons rfl (oc_cons rfl (oc_cons rfl (oc_cons rfl oc_nil)))))))))) k3 rfl (Nat.le_of_ble_eq_true rfl) rfl) rfl ?_
        rintro _ W29 ⟨k31, o30⟩
        clear k3
        replace h1 := h1.only o30 (.head _)
        replace p28 := p28.only o30 (.head _)
        replace hB := o30.below hB l6
        replace hL := LL.only hL o30
        refine WL.val (dx_assign rfl rfl) rfl rfl ?_
        refine WL.nil ?_
        refine hK26 ?_
        refine WC.ret fun a_ ha_ => ?_
        exact hQ (cv_ret2 rfl (.agg rfl ty_agg_26_10 k31.range rfl) (.tmp rfl) (by rw [show findZ xs id = (r19, true) from by rw [← (show r19.id = id by assumption)]; exact findZ_is (by assumption) e20] <;> rfl) hB ha_)
      ·
        replace c25 := of_decide_eq_false c25
        refine WC.skip ?_
        refine hK17 ?_
        refine WC.region ?_
        refine WL.val (dx_move rfl rfl) rfl rfl ?_
        refine WL.val (dx_add (r := (i : Int) + 1) rfl rfl rfl (wrap64_id (by omega))) rfl rfl ?_
        refine WL.val (dx_assign rfl rfl) rfl rfl ?_
        refine WL.nil ?_
        exact hK9 (i + 1) ⟨(by omega), (fun k a hk ha => by rcases Nat.lt_or_ge k i with hl | hl; exact hv k a hl ha; obtain rfl : k = i := (by omega); rw [e20] at ha; cases ha; assumption), hB, hL, h1, k3⟩ (by omega) (by repeat first | exact trivial | exact And.intro rfl trivial | refine And.intro rfl ?_ | refine And.intro (congrArg (fun z : Int => some (Value.int .i64 z)) (by omega)) ?_)
    ·
      refine WC.exit ?_
      refine hK7 ?_
      refine WC.seq fun K32 hK32 => ?_
      refine WC.region ?_
      refine WL.val (dx_build rfl rfl (built_of_O (cs := [.int .i64 0, .string ⟨#[]⟩, .string ⟨#[]⟩, .string ⟨#[]⟩, .string ⟨#[]⟩, .int .i64 0, .int .i64 0, .int .i64 0, .bool false, .int .i64 0]) (by kernel_rfl) oc_nil)) rfl rfl ?_
      refine WL.do (dx_store (cs' := [.int .i64 0, .string ⟨#[]⟩, .string ⟨#[]⟩, .string ⟨#[]⟩, .string ⟨#[]⟩, .int .i64 0, .int .i64 0, .int .i64 0, .bool false, .int .i64 0]) (vs := [.int .i64 0, .string ⟨#[]⟩, .string ⟨#[]⟩, .string ⟨#[]⟩, .string ⟨#[]⟩, .int .i64 0, .int .i64 0, .int .i64 0, .bool false, .int .i64 0]) rfl ty_size_26_10 rfl rfl rfl (oc_cons rfl (oc_cons rfl (oc_cons rfl (oc_cons rfl (oc_cons rfl (oc_cons rfl (oc_cons rfl (oc_cons rfl (oc_cons rfl (oc_cons rfl oc_nil)))))))))) k3 rfl (Nat.le_of_ble_eq_true rfl) rfl) rfl ?_
      rintro _ W33 ⟨k35, o34⟩
      clear k3
      replace h1 := h1.only o34 (.head _)
      replace hB := o34.below hB l6
      replace hL := LL.only hL o34
      refine WL.val (dx_assign rfl rfl) rfl rfl ?_
      refine WL.nil ?_
      refine hK32 ?_
      refine WC.ret fun a_ ha_ => ?_
      exact hQ (cv_ret2 rfl (.agg rfl ty_agg_26_10 k35.range rfl) (.tmp rfl) (by rw [show findZ xs id = (noZ, false) from by first | exact findZ_bad (by assumption) | exact findZ_bad (Bool.eq_false_iff.2 (by assumption)) | exact findZ_no (fun a ha => by obtain ⟨k, hk⟩ := List.getElem?_of_mem ha; have hkl := (List.getElem?_eq_some_iff.1 hk).1; exact hv k a (by omega) hk)]; rfl) hB ha_)
  ·
    replace g13 := of_decide_eq_false g13
    refine WL.off rfl rfl rfl ?_
    refine WL.off rfl rfl rfl ?_
    refine WL.val (dx_pick rfl rfl rfl) rfl rfl ?_
    refine WL.nil ?_
    refine hK12 ?_
    refine WC.condF rfl ?_
    refine WC.exit ?_
    refine hK7 ?_
    refine WC.seq fun K36 hK36 => ?_
    refine WC.region ?_
    refine WL.val (dx_build rfl rfl (built_of_O (cs := [.int .i64 0, .string ⟨#[]⟩, .string ⟨#[]⟩, .string ⟨#[]⟩, .string ⟨#[]⟩, .int .i64 0, .int .i64 0, .int .i64 0, .bool false, .int .i64 0]) (by kernel_rfl) oc_nil)) rfl rfl ?_
    refine WL.do (dx_store (cs' := [.int .i64 0, .string ⟨#[]⟩, .string ⟨#[]⟩, .string ⟨#[]⟩, .string ⟨#[]⟩, .int .i64 0, .int .i64 0, .int .i64 0, .bool false, .int .i64 0]) (vs := [.int .i64 0, .string ⟨#[]⟩, .string ⟨#[]⟩, .string ⟨#[]⟩, .string ⟨#[]⟩, .int .i64 0, .int .i64 0, .int .i64 0, .bool false, .int .i64 0]) rfl ty_size_26_10 rfl rfl rfl (oc_cons rfl (oc_cons rfl (oc_cons rfl (oc_cons rfl (oc_cons rfl (oc_cons rfl (oc_cons rfl (oc_cons rfl (oc_cons rfl (oc_cons rfl oc_nil)))))))))) k3 rfl (Nat.le_of_ble_eq_true rfl) rfl) rfl ?_
    rintro _ W37 ⟨k39, o38⟩
    clear k3
    replace h1 := h1.only o38 (.head _)
    replace hB := o38.below hB l6
    replace hL := LL.only hL o38
    refine WL.val (dx_assign rfl rfl) rfl rfl ?_
    refine WL.nil ?_
    refine hK36 ?_
    refine WC.ret fun a_ ha_ => ?_
    exact hQ (cv_ret2 rfl (.agg rfl ty_agg_26_10 k39.range rfl) (.tmp rfl) (by rw [show findZ xs id = (noZ, false) from by first | exact findZ_bad (by assumption) | exact findZ_bad (Bool.eq_false_iff.2 (by assumption)) | exact findZ_no (fun a ha => by obtain ⟨k, hk⟩ := List.getElem?_of_mem ha; have hkl := (List.getElem?_eq_some_iff.1 hk).1; exact hv k a (by omega) hk)]; rfl) hB ha_)

set_option maxHeartbeats 1000000 in
theorem refPlace_v (xs : List SesX) (now : Int) (wt : SesX) (sv : Value) (w : World) (L : List Nat) (hL : LL L w) (h1 : RdF 10 L w sv (xs.map encZ))  (hr : rightZ xs = true) (hnw : 0 ≤ now ∧ now ≤ 1099511627776) : CV Tryz.prog 21 [sv, .int .i64 now, .agg #[.int .i64 wt.id, .string wt.sec, .string wt.med, .string wt.whr, .string wt.tok, .int .i64 wt.att, .int .i64 wt.since, .int .i64 wt.wrong, .bool wt.shown, .int .i64 wt.sat]] w fun v W => v = .int .i64 (plAt xs now wt) := by
  refine cv_enter (N := 43) (f := [(0, sv), (1, .int .i64 now), (2, .agg #[.int .i64 wt.id, .string wt.sec, .string wt.med, .string wt.whr, .string wt.tok, .int .i64 wt.att, .int .i64 wt.since, .int .i64 wt.wrong, .bool wt.shown, .int .i64 wt.sat])]) Tryz.func21 rfl rfl rfl rfl fun Q hQ hE => ?_
  have hB := Below.refl w.heap.size w
  have h1m : xs.length ≤ maxLen := by have := h1.len; rwa [List.length_map] at this
  unfold maxLen at h1m
  refine WC.seq fun K1 hK1 => ?_
  refine WC.region ?_
  refine WL.get (dx_box rfl rfl rfl) rfl rfl ?_
  rintro _ W2 ⟨rfl, k3, b4, z5⟩
  have l6 := hB.size
  replace h1 := h1.more b4 (Nat.le_refl _)
  replace hB := below_then hB b4
  replace hL := LL.more hL z5
  refine WL.val (dx_assign rfl rfl) rfl rfl ?_
  refine WL.nil ?_
  refine hK1 ?_
  refine WC.seq fun K7 hK7 => ?_
  refine WC.seq fun K8 hK8 => ?_
  refine WC.region ?_
  refine WL.val (dx_assign rfl rfl) rfl rfl ?_
  refine WL.nil ?_
  refine hK8 ?_
  refine WC.block ?_
  refine WC.loop (fun (i : Nat) => [(0, sv), (1, .int .i64 now), (5, .pointer (some ⟨w.heap.size, 0, none⟩)), (7, .int .i64 (i : Int))]) (fun (i : Nat) W => i ≤ xs.length ∧ idxX (plP now wt) xs 0 = idxX (plP now wt) (xs.drop i) i ∧ Below w.heap.size w W ∧ LL (w.heap.size :: L) W ∧ RdF 10 (w.heap.size :: L) W sv (xs.map encZ) ∧ Blk W w.heap.size [.int .i64 wt.id, .string wt.sec, .string wt.med, .string wt.whr, .string wt.tok, .int .i64 wt.att, .int .i64 wt.since, .int .i64 wt.wrong, .bool wt.shown, .int .i64 wt.sat]) (fun (i : Nat) => xs.length - i) 0 (by repeat first | exact trivial | exact And.intro rfl trivial | refine And.intro rfl ?_ | refine And.intro (congrArg (fun z : Int => some (Value.int .i64 z)) (by omega)) ?_) ⟨Nat.zero_le _, rfl, hB, hL, h1, k3⟩ ?_
  clear h1 k3 hB hL
  rintro K9 i W10 ⟨hi, hv, hB, hL, h1, k3⟩ hK9
  refine WC.seq fun K11 hK11 => ?_
  refine WC.seq fun K12 hK12 => ?_
  refine WC.region ?_
  refine WL.val (dx_move rfl rfl) rfl rfl ?_
  refine WL.val (dx_move rfl rfl) rfl rfl ?_
  refine WL.val (dx_lenX rfl ty_slice_22 rfl h1) rfl rfl ?_
  refine WL.val (dx_lss rfl rfl rfl) rfl rfl ?_
  refine WL.nil ?_
  refine hK12 ?_
  refine WC.cond rfl (fun c13 => ?_) (fun c13 => ?_)
  ·
    replace c13 := of_decide_eq_true c13
    refine WC.skip ?_
    refine hK11 ?_
    refine WC.seq fun K14 hK14 => ?_
    refine WC.block ?_
    refine WC.seq fun K15 hK15 => ?_
    obtain ⟨r16, e17⟩ : ∃ x, xs[i]? = some x := ⟨_, List.getElem?_eq_getElem (by omega)⟩
    have hgr16 := goodZ_t (rightZ_good hr e17)
    obtain ⟨b18, hb18⟩ : ∃ b, b = (decide (r16.id = wt.id)) := ⟨_, rfl⟩
    obtain ⟨b19, hb19⟩ : ∃ b, b = (b18 && (decide (r16.sec = wt.sec))) := ⟨_, rfl⟩
    refine WC.drawM 28 [(some 14, .is (sv)), (some 15, .is (.int .i64 (i : Int))), (some 16, .by fun u W => PtR (w.heap.size :: L) W u (encZ r16)), (some 17, .by fun u W => PtR (w.heap.size :: L) W u [.int .i64 r16.id]), (some 18, .is (.int .i64 r16.id)), (some 19, .is (.pointer (some ⟨w.heap.size, 0, none⟩))), (some 20, .is (.int .i64 wt.id)), (some 21, .is (.bool (decide (r16.id = wt.id)))), (some 22, .is (.bool b18)), (some 23, .is (bif b18 then sv else undef)), (some 24, .is (bif b18 then .int .i64 (i : Int) else undef)), (some 25, .by fun u W => b18 = true → PtR (w.heap.size :: L) W u (encZ r16)), (some 26, .by fun u W => b18 = true → PtR (w.heap.size :: L) W u [.string r16.sec]), (some 27, .is (bif b18 then .string r16.sec else undef)), (some 28, .is (bif b18 then .pointer (some ⟨w.heap.size, 1, none⟩) else undef)), (some 29, .is (bif b18 then .string wt.sec else undef)), (some 30, .is (bif b18 then .bool (decide (r16.sec = wt.sec)) else undef)), (some 31, .is (.bool (b18 && (decide (r16.sec = wt.sec))))), (some 32, .is (.bool b19)), (some 33, .is (bif b19 then .int .i64 now else undef)), (some 34, .is (bif b19 then sv else undef)), (some 35, .is (bif b19 then .int .i64 (i : Int) else undef)), (some 36, .by fun u W => b19 = true → PtR (w.heap.size :: L) W u (encZ r16)), (some 37, .by fun u W => b19 = true → PtR (w.heap.size :: L) W u [.int .i64 r16.since]), (some 38, .is (bif b19 then .int .i64 r16.since else undef)), (some 39, .is (bif b19 then .int .i64 (now - r16.since) else undef)), (some 40, .is (bif b19 then .bool (decide (now - r16.since ≤ 86400)) else undef)), (some 41, .is (.bool (b19 && (decide (now - r16.since ≤ 86400)))))] [[], [], [0, 1], [2], [3], [], [5], [4, 6], [7], [8], [8], [9, 10, 8], [11, 8], [12, 8], [8], [14, 8], [13, 15, 8], [8, 16], [17, 8], [18], [18], [18], [20, 21, 18], [22, 18], [23, 18], [19, 24, 18], [25, 18], [18, 26]] (by kernel_rfl) (by kernel_rfl) (by kernel_rfl) (by kernel_rfl) (by kernel_rfl) (by kernel_rfl) (by kernel_rfl) ⟨fun _ _ _ hb h => h.below hb, fun _ _ _ hb h => h.below hb, fun _ _ _ hb h g => (h g).below hb, fun _ _ _ hb h g => (h g).below hb, fun _ _ _ hb h g => (h g).below hb, fun _ _ _ hb h g => (h g).below hb, trivial⟩ ?_ ?_
    ·
      refine DSteps.cons (fun Wd hd => ?_) ?_
      ·
        exact DV.dr (dx_move rfl rfl) ⟨Below.refl _ _, rfl⟩
      refine DSteps.cons (fun Wd hd => ?_) ?_
      ·
        exact DV.dr (dx_move rfl rfl) ⟨Below.refl _ _, rfl⟩
      refine DSteps.cons (fun Wd hd => ?_) ?_
      ·
        have h1 := h1.below hd
        exact (dx_idxF i rfl ty_slice_22 rfl rfl h1 (by omega) (at_mapX e17)).mono (fun v W' h => ⟨by rw [← h.1]; exact Below.refl _ _, by rw [← h.1]; exact h.2⟩)
      refine DSteps.cons (fun Wd hd => ?_) ?_
      ·
        intro u4_2 p4_2
        exact (dx_fldP 1 rfl ty_fld_26_0_0 rfl p4_2 (cs' := [.int .i64 r16.id]) rfl (Nat.succ_pos _)).mono (fun v W' h => ⟨by rw [← h.1]; exact Below.refl _ _, by rw [← h.1]; exact h.2⟩)
      refine DSteps.cons (fun Wd hd => ?_) ?_
      ·
        intro u4_3 p4_3
        exact DV.dr (dx_loadP rfl ty_one_3 rfl p4_3) ⟨Below.refl _ _, rfl⟩
      refine DSteps.cons (fun Wd hd => ?_) ?_
      ·
        exact DV.dr (dx_fld (o1 := 0) rfl ty_fld_26_0_0 rfl rfl) ⟨Below.refl _ _, rfl⟩
      refine DSteps.cons (fun Wd hd => ?_) ?_
      ·
        have k3 := k3.below hd
        exact DV.dr (dx_load rfl ty_one_3 rfl (k3.cell (k := 0) rfl)) ⟨Below.refl _ _, rfl⟩
      refine DSteps.cons (fun Wd hd => ?_) ?_
      ·
        exact DV.dr (dx_eql rfl rfl rfl) ⟨Below.refl _ _, rfl⟩
      refine DSteps.cons (fun Wd hd => ?_) ?_
      ·
        exact DV.dr (dx_move rfl rfl) ⟨Below.refl _ _, by rw [hb18]; rfl⟩
      refine DSteps.cons (fun Wd hd => ?_) ?_
      ·
        cases b18
        ·
          exact DV.dr (dv_off rfl) ⟨Below.refl _ _, rfl⟩
        ·
          exact DV.dr (dx_move rfl rfl) ⟨Below.refl _ _, rfl⟩
      refine DSteps.cons (fun Wd hd => ?_) ?_
      ·
        cases b18
        ·
          exact DV.dr (dv_off rfl) ⟨Below.refl _ _, rfl⟩
        ·
          exact DV.dr (dx_move rfl rfl) ⟨Below.refl _ _, rfl⟩
      refine DSteps.cons (fun Wd hd => ?_) ?_
      ·
        cases b18
        ·
          exact DV.dr (dv_off rfl) ⟨Below.refl _ _, fun h => by cases h⟩
        ·
          have h1 := h1.below hd
          exact (dx_idxF i rfl ty_slice_22 rfl rfl h1 (by first | omega | (have hq_ := of_decide_eq_true hb18.symm; omega)) (at_mapX e17)).mono (fun v W' h => ⟨by rw [← h.1]; exact Below.refl _ _, fun _ => by rw [← h.1]; exact h.2⟩)
      refine DSteps.cons (fun Wd hd => ?_) ?_
      ·
        intro u4_11 p4_11
        cases b18
        ·
          exact DV.dr (dv_off rfl) ⟨Below.refl _ _, fun h => by cases h⟩
        ·
          replace p4_11 := p4_11 rfl
          exact (dx_fldP 1 rfl ty_fld_26_1_1 rfl p4_11 (cs' := [.string r16.sec]) rfl (Nat.succ_pos _)).mono (fun v W' h => ⟨by rw [← h.1]; exact Below.refl _ _, fun _ => by rw [← h.1]; exact h.2⟩)
      refine DSteps.cons (fun Wd hd => ?_) ?_
      ·
        intro u4_12 p4_12
        cases b18
        ·
          exact DV.dr (dv_off rfl) ⟨Below.refl _ _, rfl⟩
        ·
          replace p4_12 := p4_12 rfl
          exact DV.dr (dx_loadP rfl ty_one_9 rfl p4_12) ⟨Below.refl _ _, rfl⟩
      refine DSteps.cons (fun Wd hd => ?_) ?_
      ·
        cases b18
        ·
          exact DV.dr (dv_off rfl) ⟨Below.refl _ _, rfl⟩
        ·
          exact DV.dr (dx_fld (o1 := 1) rfl ty_fld_26_1_1 rfl rfl) ⟨Below.refl _ _, rfl⟩
      refine DSteps.cons (fun Wd hd => ?_) ?_
      ·
        cases b18
        ·
          exact DV.dr (dv_off rfl) ⟨Below.refl _ _, rfl⟩
        ·
          have k3 := k3.below hd
          exact DV.dr (dx_load rfl ty_one_9 rfl (k3.cell (k := 1) rfl)) ⟨Below.refl _ _, rfl⟩
      refine DSteps.cons (fun Wd hd => ?_) ?_
      ·
        cases b18
        ·
          exact DV.dr (dv_off rfl) ⟨Below.refl _ _, rfl⟩
        ·
          exact DV.dr (dx_eqlT rfl rfl rfl) ⟨Below.refl _ _, rfl⟩
      refine DSteps.cons (fun Wd hd => ?_) ?_
      ·
        cases b18
        ·
          exact DV.dr (dx_pick rfl rfl rfl) ⟨Below.refl _ _, rfl⟩
        ·
          exact DV.dr (dx_pick rfl rfl rfl) ⟨Below.refl _ _, rfl⟩
      refine DSteps.cons (fun Wd hd => ?_) ?_
      ·
        exact DV.dr (dx_move rfl rfl) ⟨Below.refl _ _, by rw [hb19]; rfl⟩
      refine DSteps.cons (fun Wd hd => ?_) ?_
      ·
        cases b19
        ·
          exact DV.dr (dv_off rfl) ⟨Below.refl _ _, rfl⟩
        ·
          exact DV.dr (dx_move rfl rfl) ⟨Below.refl _ _, rfl⟩
      refine DSteps.cons (fun Wd hd => ?_) ?_
      ·
        cases b19
        ·
          exact DV.dr (dv_off rfl) ⟨Below.refl _ _, rfl⟩
        ·
          exact DV.dr (dx_move rfl rfl) ⟨Below.refl _ _, rfl⟩
      refine DSteps.cons (fun Wd hd => ?_) ?_
      ·
        cases b19
        ·
          exact DV.dr (dv_off rfl) ⟨Below.refl _ _, rfl⟩
        ·
          exact DV.dr (dx_move rfl rfl) ⟨Below.refl _ _, rfl⟩
      refine DSteps.cons (fun Wd hd => ?_) ?_
      ·
        cases b19
        ·
          exact DV.dr (dv_off rfl) ⟨Below.refl _ _, fun h => by cases h⟩
        ·
          have h1 := h1.below hd
          exact (dx_idxF i rfl ty_slice_22 rfl rfl h1 (by first | omega | (have hq_ := of_decide_eq_true hb19.symm; omega)) (at_mapX e17)).mono (fun v W' h => ⟨by rw [← h.1]; exact Below.refl _ _, fun _ => by rw [← h.1]; exact h.2⟩)
      refine DSteps.cons (fun Wd hd => ?_) ?_
      ·
        intro u4_22 p4_22
        cases b19
        ·
          exact DV.dr (dv_off rfl) ⟨Below.refl _ _, fun h => by cases h⟩
        ·
          replace p4_22 := p4_22 rfl
          exact (dx_fldP 1 rfl ty_fld_26_5_6 rfl p4_22 (cs' := [.int .i64 r16.since]) rfl (Nat.succ_pos _)).mono (fun v W' h => ⟨by rw [← h.1]; exact Below.refl _ _, fun _ => by rw [← h.1]; exact h.2⟩)
      refine DSteps.cons (fun Wd hd => ?_) ?_
      ·
        intro u4_23 p4_23
        cases b19
        ·
          exact DV.dr (dv_off rfl) ⟨Below.refl _ _, rfl⟩
        ·
          replace p4_23 := p4_23 rfl
          exact DV.dr (dx_loadP rfl ty_one_3 rfl p4_23) ⟨Below.refl _ _, rfl⟩
      refine DSteps.cons (fun Wd hd => ?_) ?_
      ·
        cases b19
        ·
          exact DV.dr (dv_off rfl) ⟨Below.refl _ _, rfl⟩
        ·
          exact DV.dr (dx_sub (r := now - r16.since) rfl rfl rfl (wrap64_id (by omega))) ⟨Below.refl _ _, rfl⟩
      refine DSteps.cons (fun Wd hd => ?_) ?_
      ·
        cases b19
        ·
          exact DV.dr (dv_off rfl) ⟨Below.refl _ _, rfl⟩
        ·
          exact DV.dr (dx_leq rfl rfl rfl) ⟨Below.refl _ _, rfl⟩
      refine DSteps.cons (fun Wd hd => ?_) ?_
      ·
        cases b19
        ·
          exact DV.dr (dx_pick rfl rfl rfl) ⟨Below.refl _ _, rfl⟩
        ·
          exact DV.dr (dx_pick rfl rfl rfl) ⟨Below.refl _ _, rfl⟩
      exact trivial
    ·
      intro W20 b21
      intro u4_2 p4_2
      intro u4_3 p4_3
      intro _ _
      intro _ _
      intro _ _
      intro _ _
      replace h1 := h1.below b21
      replace k3 := k3.below b21
      replace hB := below_then hB b21
      replace hL := LL.below hL b21
      refine WL.nil ?_
      refine hK15 ?_
      refine WC.cond rfl (fun c22 => ?_) (fun c22 => ?_)
      ·
        obtain ⟨g23, g24⟩ := band_t c22
        replace g24 := of_decide_eq_true g24
        refine WC.seq fun K25 hK25 => ?_
        refine WC.region ?_
        refine WL.val (dx_move rfl rfl) rfl rfl ?_
        refine WL.val (dx_assign rfl rfl) rfl rfl ?_
        refine WL.nil ?_
        refine hK25 ?_
        refine WC.ret fun a_ ha_ => ?_
        exact hQ (cv_ret1 rfl (.tmp rfl) (by show _ = Value.int .i64 (idxX (plP now wt) xs 0); rw [hv, idxX_here e17 ((plP_eq hb18 hb19).trans (by rw [g23, decide_eq_true g24]; rfl))]) hB ha_)
      ·
        refine WC.skip ?_
        refine hK14 ?_
        refine WC.region ?_
        refine WL.val (dx_move rfl rfl) rfl rfl ?_
        refine WL.val (dx_add (r := (i : Int) + 1) rfl rfl rfl (wrap64_id (by omega))) rfl rfl ?_
        refine WL.val (dx_assign rfl rfl) rfl rfl ?_
        refine WL.nil ?_
        exact hK9 (i + 1) ⟨(by omega), (by rw [hv]; exact idxX_step e17 ((plP_eq hb18 hb19).trans c22)), hB, hL, h1, k3⟩ (by omega) (by repeat first | exact trivial | exact And.intro rfl trivial | refine And.intro rfl ?_ | refine And.intro (congrArg (fun z : Int => some (Value.int .i64 z)) (by omega)) ?_)
  ·
    replace c13 := of_decide_eq_false c13
    refine WC.exit ?_
    refine hK7 ?_
    refine WC.seq fun K26 hK26 => ?_
    refine WC.region ?_
    refine WL.val (dx_assign rfl rfl) rfl rfl ?_
    refine WL.nil ?_
    refine hK26 ?_
    refine WC.ret fun a_ ha_ => ?_
    exact hQ (cv_ret1 rfl (.tmp rfl) (by show _ = Value.int .i64 (idxX (plP now wt) xs 0); rw [hv, idxX_end (by omega)]) hB ha_)

set_option maxHeartbeats 1000000 in
theorem refShown_v (xs : List SesX) (now : Int) (wt : SesX) (sv : Value) (w : World) (L : List Nat) (hL : LL L w) (h1 : RdF 10 L w sv (xs.map encZ))  (hsz : SzZ xs) : CV Tryz.prog 9 [sv, .int .i64 now, .agg #[.int .i64 wt.id, .string wt.sec, .string wt.med, .string wt.whr, .string wt.tok, .int .i64 wt.att, .int .i64 wt.since, .int .i64 wt.wrong, .bool wt.shown, .int .i64 wt.sat]] w fun v W => v = .tuple #[.agg #[.string (shM xs now wt), .string (shW xs now wt)], .int .i64 (shE xs now wt)] := by
  refine cv_enter (N := 37) (f := [(0, sv), (1, .int .i64 now), (2, .agg #[.int .i64 wt.id, .string wt.sec, .string wt.med, .string wt.whr, .string wt.tok, .int .i64 wt.att, .int .i64 wt.since, .int .i64 wt.wrong, .bool wt.shown, .int .i64 wt.sat])]) Tryz.func9 rfl rfl rfl rfl fun Q hQ hE => ?_
  have hB := Below.refl w.heap.size w
  have h1m : xs.length ≤ maxLen := by have := h1.len; rwa [List.length_map] at this
  unfold maxLen at h1m
  refine WC.seq fun K1 hK1 => ?_
  refine WC.region ?_
  refine WL.get (dx_box rfl rfl rfl) rfl rfl ?_
  rintro _ W2 ⟨rfl, k3, b4, z5⟩
  have l6 := hB.size
  replace h1 := h1.more b4 (Nat.le_refl _)
  replace hB := below_then hB b4
  replace hL := LL.more hL z5
  refine WL.get (dx_alloc rfl ty_zero_24 rfl) rfl rfl ?_
  rintro _ W7 ⟨rfl, k8, b9, z10⟩
  have n11 : w.heap.size ≠ W2.heap.size := Nat.ne_of_lt k3.lt
  have l12 := hB.size
  replace h1 := h1.more b9 (Nat.le_refl _)
  replace k3 := k3.below b9
  replace hB := below_then hB b9
  replace hL := LL.more hL z10
  refine WL.val (dx_assign rfl rfl) rfl rfl ?_
  refine WL.nil ?_
  refine hK1 ?_
  refine WC.seq fun K13 hK13 => ?_
  refine WC.seq fun K14 hK14 => ?_
  refine WC.region ?_
  refine WL.val (dx_move rfl rfl) rfl rfl ?_
  refine WL.get (dx_cv rfl Tryz.func19 rfl rfl rfl (refRightZ_v xs _ W7 _ hL h1 hsz)) rfl rfl ?_
  rintro _ W16 ⟨rfl, b15⟩
  replace h1 := h1.below b15
  replace k3 := k3.below b15
  replace k8 := k8.below b15
  replace hB := below_then hB b15
  replace hL := LL.below hL b15
  refine WL.val (dx_not rfl rfl) rfl rfl ?_
  refine WL.val (dx_move rfl rfl) rfl rfl ?_
  refine WL.split 12 rfl (fun g17 => ?_) (fun g17 => ?_)
  ·
    replace g17 := bnot_t g17
    refine WL.off rfl rfl rfl ?_
    refine WL.off rfl rfl rfl ?_
    refine WL.off rfl rfl rfl ?_
    refine WL.val (dx_pick rfl rfl rfl) rfl rfl ?_
    refine WL.nil ?_
    refine hK14 ?_
    refine WC.condT rfl ?_
    refine WC.seq fun K18 hK18 => ?_
    refine WC.region ?_
    refine WL.val (dx_build rfl rfl (built_of_O (cs := [.string ⟨#[]⟩, .string ⟨#[]⟩]) (by kernel_rfl) oc_nil)) rfl rfl ?_
    refine WL.do (dx_store (cs' := [.string ⟨#[]⟩, .string ⟨#[]⟩]) (vs := [.string ⟨#[]⟩, .string ⟨#[]⟩]) rfl ty_size_24_2 rfl rfl rfl (oc_cons rfl (oc_cons rfl oc_nil)) k8 rfl (Nat.le_of_ble_eq_true rfl) rfl) rfl ?_
    rintro _ W19 ⟨k21, o20⟩
    replace k3 := k3.other o20 n11
    clear k8
    replace h1 := h1.only o20 (.head _)
    replace hB := o20.below hB l12
    replace hL := LL.only hL o20
    refine WL.val (dx_assign rfl rfl) rfl rfl ?_
    refine WL.nil ?_
    refine hK18 ?_
    refine WC.ret fun a_ ha_ => ?_
    exact hQ (cv_ret2 rfl (.agg rfl ty_agg_24_2 k21.range rfl) (.tmp rfl) (by have he : shE xs now wt = 1 := (by have he1 : fndE xs now wt = 1 := (by unfold fndE; rw [if_neg (by intro h; simp_all)]); unfold shE; rw [if_neg (by rw [he1]; decide), he1]); have h2 : shM xs now wt = ⟨#[]⟩ := (by unfold shM; rw [if_neg (by rw [he]; decide)]); have h3 : shW xs now wt = ⟨#[]⟩ := (by unfold shW; rw [if_neg (by rw [he]; decide)]); rw [he, h2, h3] <;> rfl) hB ha_)
  ·
    replace g17 := bnot_f g17
    refine WL.val (dx_move rfl rfl) rfl rfl ?_
    refine WL.get (dx_cv rfl Tryz.func20 rfl rfl rfl (timed_v now W16 [] (LL.nil _))) rfl rfl ?_
    rintro _ W23 ⟨rfl, b22⟩
    replace h1 := h1.below b22
    replace k3 := k3.below b22
    replace k8 := k8.below b22
    replace hB := below_then hB b22
    replace hL := LL.below hL b22
    refine WL.val (dx_not rfl rfl) rfl rfl ?_
    refine WL.val (dx_pick rfl rfl rfl) rfl rfl ?_
    refine WL.nil ?_
    refine hK14 ?_
    refine WC.cond rfl (fun c24 => ?_) (fun c24 => ?_)
    ·
      replace c24 := bnot_t c24
      refine WC.seq fun K25 hK25 => ?_
      refine WC.region ?_
      refine WL.val (dx_build rfl rfl (built_of_O (cs := [.string ⟨#[]⟩, .string ⟨#[]⟩]) (by kernel_rfl) oc_nil)) rfl rfl ?_
      refine WL.do (dx_store (cs' := [.string ⟨#[]⟩, .string ⟨#[]⟩]) (vs := [.string ⟨#[]⟩, .string ⟨#[]⟩]) rfl ty_size_24_2 rfl rfl rfl (oc_cons rfl (oc_cons rfl oc_nil)) k8 rfl (Nat.le_of_ble_eq_true rfl) rfl) rfl ?_
      rintro _ W26 ⟨k28, o27⟩
      replace k3 := k3.other o27 n11
      clear k8
      replace h1 := h1.only o27 (.head _)
      replace hB := o27.below hB l12
      replace hL := LL.only hL o27
      refine WL.val (dx_assign rfl rfl) rfl rfl ?_
      refine WL.nil ?_
      refine hK25 ?_
      refine WC.ret fun a_ ha_ => ?_
      exact hQ (cv_ret2 rfl (.agg rfl ty_agg_24_2 k28.range rfl) (.tmp rfl) (by have he : shE xs now wt = 1 := (by have he1 : fndE xs now wt = 1 := (by unfold fndE; rw [if_neg (by intro h; simp_all)]); unfold shE; rw [if_neg (by rw [he1]; decide), he1]); have h2 : shM xs now wt = ⟨#[]⟩ := (by unfold shM; rw [if_neg (by rw [he]; decide)]); have h3 : shW xs now wt = ⟨#[]⟩ := (by unfold shW; rw [if_neg (by rw [he]; decide)]); rw [he, h2, h3] <;> rfl) hB ha_)
    ·
      replace c24 := bnot_f c24
      refine WC.skip ?_
      refine hK13 ?_
      refine WC.seq fun K29 hK29 => ?_
      refine WC.region ?_
      refine WL.val (dx_move rfl rfl) rfl rfl ?_
      refine WL.val (dx_move rfl rfl) rfl rfl ?_
      refine WL.val (dx_loadN rfl ty_agg_26_10 rfl k3.range rfl) rfl rfl ?_
      refine WL.get (dx_cv rfl Tryz.func21 rfl rfl rfl (refPlace_v xs now wt _ W23 _ hL h1 (by assumption) (numZ_t (by assumption)))) rfl rfl ?_
      rintro _ W31 ⟨rfl, b30⟩
      replace h1 := h1.below b30
      replace k3 := k3.below b30
      replace k8 := k8.below b30
      replace hB := below_then hB b30
      replace hL := LL.below hL b30
      refine WL.val (dx_assign rfl rfl) rfl rfl ?_
      refine WL.nil ?_
      refine hK29 ?_
      refine WC.seq fun K32 hK32 => ?_
      refine WC.seq fun K33 hK33 => ?_
      refine WC.region ?_
      refine WL.val (dx_move rfl rfl) rfl rfl ?_
      refine WL.val (dx_lss rfl rfl rfl) rfl rfl ?_
      refine WL.nil ?_
      refine hK33 ?_
      refine WC.cond rfl (fun c34 => ?_) (fun c34 => ?_)
      ·
        replace c34 := of_decide_eq_true c34
        refine WC.seq fun K35 hK35 => ?_
        refine WC.region ?_
        refine WL.val (dx_build rfl rfl (built_of_O (cs := [.string ⟨#[]⟩, .string ⟨#[]⟩]) (by kernel_rfl) oc_nil)) rfl rfl ?_
        refine WL.do (dx_store (cs' := [.string ⟨#[]⟩, .string ⟨#[]⟩]) (vs := [.string ⟨#[]⟩, .string ⟨#[]⟩]) rfl ty_size_24_2 rfl rfl rfl (oc_cons rfl (oc_cons rfl oc_nil)) k8 rfl (Nat.le_of_ble_eq_true rfl) rfl) rfl ?_
        rintro _ W36 ⟨k38, o37⟩
        replace k3 := k3.other o37 n11
        clear k8
        replace h1 := h1.only o37 (.head _)
        replace hB := o37.below hB l12
        replace hL := LL.only hL o37
        refine WL.val (dx_assign rfl rfl) rfl rfl ?_
        refine WL.nil ?_
        refine hK35 ?_
        refine WC.ret fun a_ ha_ => ?_
        exact hQ (cv_ret2 rfl (.agg rfl ty_agg_24_2 k38.range rfl) (.tmp rfl) (by have he : shE xs now wt = 11 := (by have he1 : fndE xs now wt = 11 := (by unfold fndE; rw [if_pos ⟨by assumption, by assumption⟩, if_pos (by assumption)]); unfold shE; rw [if_neg (by rw [he1]; decide), he1]); have h2 : shM xs now wt = ⟨#[]⟩ := (by unfold shM; rw [if_neg (by rw [he]; decide)]); have h3 : shW xs now wt = ⟨#[]⟩ := (by unfold shW; rw [if_neg (by rw [he]; decide)]); rw [he, h2, h3] <;> rfl) hB ha_)
      ·
        replace c34 := of_decide_eq_false c34
        refine WC.skip ?_
        refine hK32 ?_
        refine WC.seq fun K39 hK39 => ?_
        refine WC.seq fun K40 hK40 => ?_
        have he0 : fndE xs now wt = 0 := (by unfold fndE; rw [if_pos ⟨by assumption, by assumption⟩, if_neg (by assumption)])
        obtain ⟨hr, hnw, k0, hk0, hpl, hx0⟩ := fnd_ok (by first | assumption | exact Classical.not_not.1 (by assumption))
        obtain ⟨r0, hz⟩ : ∃ r, r = fndZ xs now wt := ⟨_, rfl⟩
        rw [← hz] at hx0
        have hl0 := (List.getElem?_eq_some_iff.1 hx0).1
        have hrl := rightZ_len hr
        have hgd := goodZ_t (rightZ_good hr hx0)
        refine WC.region ?_
        refine WL.val (dx_move rfl rfl) rfl rfl ?_
        refine WL.val (dx_move rfl rfl) rfl rfl ?_
        refine WL.get (dx_idxF k0 rfl ty_slice_22 rfl rfl h1 (by omega) (at_mapX hx0)) rfl rfl ?_
        rintro u41 _ ⟨rfl, p42⟩
        refine WL.get (dx_fldP 1 rfl ty_fld_26_7_8 rfl p42 (cs' := [.bool r0.shown]) rfl (Nat.succ_pos _)) rfl rfl ?_
        rintro u43 _ ⟨rfl, p44⟩
        refine WL.val (dx_loadP rfl ty_one_4 rfl p44) rfl rfl ?_
        refine WL.val (dx_not rfl rfl) rfl rfl ?_
        refine WL.nil ?_
        refine hK40 ?_
        refine WC.cond rfl (fun c45 => ?_) (fun c45 => ?_)
        ·
          replace c45 := bnot_t c45
          refine WC.seq fun K46 hK46 => ?_
          refine WC.region ?_
          refine WL.val (dx_build rfl rfl (built_of_O (cs := [.string ⟨#[]⟩, .string ⟨#[]⟩]) (by kernel_rfl) oc_nil)) rfl rfl ?_
          refine WL.do (dx_store (cs' := [.string ⟨#[]⟩, .string ⟨#[]⟩]) (vs := [.string ⟨#[]⟩, .string ⟨#[]⟩]) rfl ty_size_24_2 rfl rfl rfl (oc_cons rfl (oc_cons rfl oc_nil)) k8 rfl (Nat.le_of_ble_eq_true rfl) rfl) rfl ?_
          rintro _ W47 ⟨k49, o48⟩
          replace k3 := k3.other o48 n11
          clear k8
          replace h1 := h1.only o48 (.head _)
          replace hB := o48.below hB l12
          replace hL := LL.only hL o48
          refine WL.val (dx_assign rfl rfl) rfl rfl ?_
          refine WL.nil ?_
          refine hK46 ?_
          refine WC.ret fun a_ ha_ => ?_
          exact hQ (cv_ret2 rfl (.agg rfl ty_agg_24_2 k49.range rfl) (.tmp rfl) (by have he : shE xs now wt = 14 := (by unfold shE; rw [if_pos he0, ← hz, if_neg (by first | assumption | simp_all)]); have h2 : shM xs now wt = ⟨#[]⟩ := (by unfold shM; rw [if_neg (by rw [he]; decide)]); have h3 : shW xs now wt = ⟨#[]⟩ := (by unfold shW; rw [if_neg (by rw [he]; decide)]); rw [he, h2, h3] <;> rfl) hB ha_)
        ·
          replace c45 := bnot_f c45
          refine WC.skip ?_
          refine hK39 ?_
          refine WC.seq fun K50 hK50 => ?_
          refine WC.region ?_
          refine WL.val (dx_move rfl rfl) rfl rfl ?_
          refine WL.val (dx_move rfl rfl) rfl rfl ?_
          refine WL.get (dx_idxF k0 rfl ty_slice_22 rfl rfl h1 (by omega) (at_mapX hx0)) rfl rfl ?_
          rintro u51 _ ⟨rfl, p52⟩
          refine WL.get (dx_fldP 2 rfl ty_fld_26_2_2 rfl p52 (cs' := [.string r0.med, .string r0.whr]) rfl (Nat.succ_pos _)) rfl rfl ?_
          rintro u53 _ ⟨rfl, p54⟩
          refine WL.val (dx_loadPN rfl ty_agg_24_2 rfl p54 rfl) rfl rfl ?_
          refine WL.do (dx_store (cs' := [.string r0.med, .string r0.whr]) (vs := [.string r0.med, .string r0.whr]) rfl ty_size_24_2 rfl rfl rfl (oc_cons rfl (oc_cons rfl oc_nil)) k8 rfl (Nat.le_of_ble_eq_true rfl) rfl) rfl ?_
          rintro _ W55 ⟨k57, o56⟩
          replace k3 := k3.other o56 n11
          clear k8
          replace h1 := h1.only o56 (.head _)
          replace p52 := p52.only o56 (.head _)
          replace p54 := p54.only o56 (.head _)
          replace hB := o56.below hB l12
          replace hL := LL.only hL o56
          refine WL.val (dx_assign rfl rfl) rfl rfl ?_
          refine WL.nil ?_
          refine hK50 ?_
          refine WC.ret fun a_ ha_ => ?_
          exact hQ (cv_ret2 rfl (.agg rfl ty_agg_24_2 k57.range rfl) (.tmp rfl) (by have he : shE xs now wt = 0 := (by unfold shE; rw [if_pos he0, ← hz, if_pos (by first | assumption | simp_all)]); have h2 : shM xs now wt = r0.med := (by unfold shM; rw [if_pos he, ← hz]); have h3 : shW xs now wt = r0.whr := (by unfold shW; rw [if_pos he, ← hz]); rw [he, h2, h3]) hB ha_)

set_option maxHeartbeats 1000000 in
theorem refSubmit_v (xs : List SesX) (now : Int) (wt : SesX) (sv : Value) (w : World) (L : List Nat) (hL : LL L w) (h1 : RdF 10 L w sv (xs.map encZ))  (hsz : SzZ xs) : CV Tryz.prog 7 [sv, .int .i64 now, .agg #[.int .i64 wt.id, .string wt.sec, .string wt.med, .string wt.whr, .string wt.tok, .int .i64 wt.att, .int .i64 wt.since, .int .i64 wt.wrong, .bool wt.shown, .int .i64 wt.sat]] w fun v W => ∃ s2, v = .tuple #[s2, .int .i64 (subE xs now wt)] ∧ RdF 10 L W s2 ((subL xs now wt).map encZ) := by
  refine cv_enter (N := 71) (f := [(0, sv), (1, .int .i64 now), (2, .agg #[.int .i64 wt.id, .string wt.sec, .string wt.med, .string wt.whr, .string wt.tok, .int .i64 wt.att, .int .i64 wt.since, .int .i64 wt.wrong, .bool wt.shown, .int .i64 wt.sat])]) Tryz.func7 rfl rfl rfl rfl fun Q hQ hE => ?_
  have hB := Below.refl w.heap.size w
  have hL0 := hL
  have h1m : xs.length ≤ maxLen := by have := h1.len; rwa [List.length_map] at this
  unfold maxLen at h1m
  refine WC.seq fun K1 hK1 => ?_
  refine WC.region ?_
  refine WL.get (dx_box rfl rfl rfl) rfl rfl ?_
  rintro _ W2 ⟨rfl, k3, b4, z5⟩
  have l6 := hB.size
  replace h1 := h1.more b4 (Nat.le_refl _)
  replace hB := below_then hB b4
  replace hL := LL.more hL z5
  refine WL.val (dx_assign rfl rfl) rfl rfl ?_
  refine WL.val (dx_assign rfl rfl) rfl rfl ?_
  refine WL.nil ?_
  refine hK1 ?_
  refine WC.seq fun K7 hK7 => ?_
  refine WC.seq fun K8 hK8 => ?_
  refine WC.region ?_
  refine WL.val (dx_move rfl rfl) rfl rfl ?_
  refine WL.get (dx_cv rfl Tryz.func19 rfl rfl rfl (refRightZ_v xs _ W2 _ hL h1 hsz)) rfl rfl ?_
  rintro _ W10 ⟨rfl, b9⟩
  replace h1 := h1.below b9
  replace k3 := k3.below b9
  replace hB := below_then hB b9
  replace hL := LL.below hL b9
  refine WL.val (dx_not rfl rfl) rfl rfl ?_
  refine WL.val (dx_move rfl rfl) rfl rfl ?_
  refine WL.split 13 rfl (fun g11 => ?_) (fun g11 => ?_)
  ·
    replace g11 := bnot_t g11
    refine WL.off rfl rfl rfl ?_
    refine WL.off rfl rfl rfl ?_
    refine WL.off rfl rfl rfl ?_
    refine WL.val (dx_pick rfl rfl rfl) rfl rfl ?_
    refine WL.nil ?_
    refine hK8 ?_
    refine WC.condT rfl ?_
    refine WC.seq fun K12 hK12 => ?_
    refine WC.region ?_
    refine WL.val (dx_move rfl rfl) rfl rfl ?_
    refine WL.val (dx_assign rfl rfl) rfl rfl ?_
    refine WL.val (dx_assign rfl rfl) rfl rfl ?_
    refine WL.nil ?_
    refine hK12 ?_
    refine WC.ret fun a_ ha_ => ?_
    exact hQ (cv_ret2 rfl (.tmp rfl) (.tmp rfl) (by have he : subE xs now wt = 1 := (by have he1 : fndE xs now wt = 1 := (by unfold fndE; rw [if_neg (by intro h; simp_all)]); unfold subE; rw [if_neg (by rw [he1]; decide), he1]); have hs : subL xs now wt = xs := (by unfold subL; rw [if_neg (by rw [he]; decide)]); rw [he, hs]; exact ⟨_, rfl, (h1.less (fun x hx => (.tail _ hx)))⟩) hB ha_)
  ·
    replace g11 := bnot_f g11
    refine WL.val (dx_move rfl rfl) rfl rfl ?_
    refine WL.get (dx_cv rfl Tryz.func20 rfl rfl rfl (timed_v now W10 [] (LL.nil _))) rfl rfl ?_
    rintro _ W14 ⟨rfl, b13⟩
    replace h1 := h1.below b13
    replace k3 := k3.below b13
    replace hB := below_then hB b13
    replace hL := LL.below hL b13
    refine WL.val (dx_not rfl rfl) rfl rfl ?_
    refine WL.val (dx_pick rfl rfl rfl) rfl rfl ?_
    refine WL.nil ?_
    refine hK8 ?_
    refine WC.cond rfl (fun c15 => ?_) (fun c15 => ?_)
    ·
      replace c15 := bnot_t c15
      refine WC.seq fun K16 hK16 => ?_
      refine WC.region ?_
      refine WL.val (dx_move rfl rfl) rfl rfl ?_
      refine WL.val (dx_assign rfl rfl) rfl rfl ?_
      refine WL.val (dx_assign rfl rfl) rfl rfl ?_
      refine WL.nil ?_
      refine hK16 ?_
      refine WC.ret fun a_ ha_ => ?_
      exact hQ (cv_ret2 rfl (.tmp rfl) (.tmp rfl) (by have he : subE xs now wt = 1 := (by have he1 : fndE xs now wt = 1 := (by unfold fndE; rw [if_neg (by intro h; simp_all)]); unfold subE; rw [if_neg (by rw [he1]; decide), he1]); have hs : subL xs now wt = xs := (by unfold subL; rw [if_neg (by rw [he]; decide)]); rw [he, hs]; exact ⟨_, rfl, (h1.less (fun x hx => (.tail _ hx)))⟩) hB ha_)
    ·
      replace c15 := bnot_f c15
      refine WC.skip ?_
      refine hK7 ?_
      refine WC.seq fun K17 hK17 => ?_
      refine WC.region ?_
      refine WL.val (dx_move rfl rfl) rfl rfl ?_
      refine WL.val (dx_move rfl rfl) rfl rfl ?_
      refine WL.val (dx_loadN rfl ty_agg_26_10 rfl k3.range rfl) rfl rfl ?_
      refine WL.get (dx_cv rfl Tryz.func21 rfl rfl rfl (refPlace_v xs now wt _ W14 _ hL h1 (by assumption) (numZ_t (by assumption)))) rfl rfl ?_
      rintro _ W19 ⟨rfl, b18⟩
      replace h1 := h1.below b18
      replace k3 := k3.below b18
      replace hB := below_then hB b18
      replace hL := LL.below hL b18
      refine WL.val (dx_assign rfl rfl) rfl rfl ?_
      refine WL.nil ?_
      refine hK17 ?_
      refine WC.seq fun K20 hK20 => ?_
      refine WC.seq fun K21 hK21 => ?_
      refine WC.region ?_
      refine WL.val (dx_move rfl rfl) rfl rfl ?_
      refine WL.val (dx_lss rfl rfl rfl) rfl rfl ?_
      refine WL.nil ?_
      refine hK21 ?_
      refine WC.cond rfl (fun c22 => ?_) (fun c22 => ?_)
      ·
        replace c22 := of_decide_eq_true c22
        refine WC.seq fun K23 hK23 => ?_
        refine WC.region ?_
        refine WL.val (dx_move rfl rfl) rfl rfl ?_
        refine WL.val (dx_assign rfl rfl) rfl rfl ?_
        refine WL.val (dx_assign rfl rfl) rfl rfl ?_
        refine WL.nil ?_
        refine hK23 ?_
        refine WC.ret fun a_ ha_ => ?_
        exact hQ (cv_ret2 rfl (.tmp rfl) (.tmp rfl) (by have he : subE xs now wt = 11 := (by have he1 : fndE xs now wt = 11 := (by unfold fndE; rw [if_pos ⟨by assumption, by assumption⟩, if_pos (by assumption)]); unfold subE; rw [if_neg (by rw [he1]; decide), he1]); have hs : subL xs now wt = xs := (by unfold subL; rw [if_neg (by rw [he]; decide)]); rw [he, hs]; exact ⟨_, rfl, (h1.less (fun x hx => (.tail _ hx)))⟩) hB ha_)
      ·
        replace c22 := of_decide_eq_false c22
        refine WC.skip ?_
        refine hK20 ?_
        refine WC.seq fun K24 hK24 => ?_
        refine WC.seq fun K25 hK25 => ?_
        have he0 : fndE xs now wt = 0 := (by unfold fndE; rw [if_pos ⟨by assumption, by assumption⟩, if_neg (by assumption)])
        obtain ⟨hr, hnw, k0, hk0, hpl, hx0⟩ := fnd_ok (by first | assumption | exact Classical.not_not.1 (by assumption))
        obtain ⟨r0, hz⟩ : ∃ r, r = fndZ xs now wt := ⟨_, rfl⟩
        rw [← hz] at hx0
        have hl0 := (List.getElem?_eq_some_iff.1 hx0).1
        have hrl := rightZ_len hr
        have hgd := goodZ_t (rightZ_good hr hx0)
        refine WC.region ?_
        refine WL.val (dx_move rfl rfl) rfl rfl ?_
        refine WL.val (dx_move rfl rfl) rfl rfl ?_
        refine WL.get (dx_idxF k0 rfl ty_slice_22 rfl rfl h1 (by omega) (at_mapX hx0)) rfl rfl ?_
        rintro u26 _ ⟨rfl, p27⟩
        refine WL.get (dx_fldP 1 rfl ty_fld_26_6_7 rfl p27 (cs' := [.int .i64 r0.wrong]) rfl (Nat.succ_pos _)) rfl rfl ?_
        rintro u28 _ ⟨rfl, p29⟩
        refine WL.val (dx_loadP rfl ty_one_3 rfl p29) rfl rfl ?_
        refine WL.val (dx_eql rfl rfl rfl) rfl rfl ?_
        refine WL.nil ?_
        refine hK25 ?_
        refine WC.cond rfl (fun c30 => ?_) (fun c30 => ?_)
        ·
          replace c30 := of_decide_eq_true c30
          refine WC.seq fun K31 hK31 => ?_
          refine WC.region ?_
          refine WL.val (dx_move rfl rfl) rfl rfl ?_
          refine WL.val (dx_assign rfl rfl) rfl rfl ?_
          refine WL.val (dx_assign rfl rfl) rfl rfl ?_
          refine WL.nil ?_
          refine hK31 ?_
          refine WC.ret fun a_ ha_ => ?_
          exact hQ (cv_ret2 rfl (.tmp rfl) (.tmp rfl) (by have he : subE xs now wt = 16 := (by unfold subE; rw [if_pos he0, ← hz, if_pos (by assumption)]); have hs : subL xs now wt = xs := (by unfold subL; rw [if_neg (by rw [he]; decide)]); rw [he, hs]; exact ⟨_, rfl, (h1.less (fun x hx => (.tail _ hx)))⟩) hB ha_)
        ·
          replace c30 := of_decide_eq_false c30
          refine WC.skip ?_
          refine hK24 ?_
          refine WC.seq fun K32 hK32 => ?_
          refine WC.region ?_
          have zh1 := h1
          have zk3 := k3
          have zhB := hB
          have zhL := hL
          refine WL.get (dx_lit0E rfl ty_ap_22 (by decide)) rfl rfl ?_
          rintro u33 W34 ⟨b35, hE⟩
          replace h1 := h1.below b35
          replace k3 := k3.below b35
          replace hB := below_then hB b35
          replace hL := LL.below hL b35
          refine WL.val (dx_move rfl rfl) rfl rfl ?_
          refine WL.get (dx_apN rfl ty_ap_22 rfl rfl hE h1 (oc_rowsX oc_Z xs) (by rw [List.length_map]; unfold maxLen; omega) (by rw [List.length_map]; omega) b35.size) rfl rfl ?_
          rintro u36 W37 ⟨b38, hN⟩
          have b42 := b35.trans (b38.mono b35.size)
          obtain ⟨B39, q40, k41⟩ := hN.own (fun e => by have := congrArg List.length e; rw [List.length_map, List.length_nil] at this; omega)
          replace h1 := zh1
          replace k3 := zk3
          replace hB := zhB
          replace hL := zhL
          have n43 : w.heap.size ≠ B39 := Nat.ne_of_lt (Nat.lt_of_lt_of_le k3.lt q40)
          have l44 := Nat.le_trans hB.size q40
          replace h1 := h1.more b42 q40
          replace k3 := k3.below b42
          replace hB := below_then hB b42
          replace hL := LL.cons (LL.below hL b42) k41.lt
          refine WL.val (dx_assign rfl rfl) rfl rfl ?_
          refine WL.nil ?_
          refine hK32 ?_
          refine WC.seq fun K45 hK45 => ?_
          refine WC.seq fun K46 hK46 => ?_
          refine WC.drawM 7 [(some 36, .is (sv)), (some 37, .is (.int .i64 (plAt xs now wt))), (some 38, .by fun u W => PtR (B39 :: w.heap.size :: L) W u (encZ r0)), (some 39, .by fun u W => PtR (B39 :: w.heap.size :: L) W u [.string r0.tok]), (some 40, .is (.string r0.tok)), (some 41, .is (.pointer (some ⟨w.heap.size, 4, none⟩))), (some 42, .is (.string wt.tok))] [[], [], [0, 1], [2], [3], [], [5]] (by kernel_rfl) (by kernel_rfl) (by kernel_rfl) (by kernel_rfl) (by kernel_rfl) (by kernel_rfl) (by kernel_rfl) ⟨fun _ _ _ hb h => h.below hb, fun _ _ _ hb h => h.below hb, trivial⟩ ?_ ?_
          ·
            refine DSteps.cons (fun Wd hd => ?_) ?_
            ·
              exact DV.dr (dx_move rfl rfl) ⟨Below.refl _ _, rfl⟩
            refine DSteps.cons (fun Wd hd => ?_) ?_
            ·
              exact DV.dr (dx_move rfl rfl) ⟨Below.refl _ _, rfl⟩
            refine DSteps.cons (fun Wd hd => ?_) ?_
            ·
              have h1 := h1.below hd
              exact (dx_idxF k0 rfl ty_slice_22 rfl rfl h1 (by omega) (at_mapX hx0)).mono (fun v W' h => ⟨by rw [← h.1]; exact Below.refl _ _, by rw [← h.1]; exact h.2⟩)
            refine DSteps.cons (fun Wd hd => ?_) ?_
            ·
              intro u9_2 p9_2
              exact (dx_fldP 1 rfl ty_fld_26_3_4 rfl p9_2 (cs' := [.string r0.tok]) rfl (Nat.succ_pos _)).mono (fun v W' h => ⟨by rw [← h.1]; exact Below.refl _ _, by rw [← h.1]; exact h.2⟩)
            refine DSteps.cons (fun Wd hd => ?_) ?_
            ·
              intro u9_3 p9_3
              exact DV.dr (dx_loadP rfl ty_one_9 rfl p9_3) ⟨Below.refl _ _, rfl⟩
            refine DSteps.cons (fun Wd hd => ?_) ?_
            ·
              exact DV.dr (dx_fld (o1 := 4) rfl ty_fld_26_3_4 rfl rfl) ⟨Below.refl _ _, rfl⟩
            refine DSteps.cons (fun Wd hd => ?_) ?_
            ·
              have k3 := k3.below hd
              exact DV.dr (dx_load rfl ty_one_9 rfl (k3.cell (k := 4) rfl)) ⟨Below.refl _ _, rfl⟩
            exact trivial
          ·
            intro W47 b48
            intro u9_2 p9_2
            intro u9_3 p9_3
            replace h1 := h1.below b48
            replace k3 := k3.below b48
            replace k41 := k41.below b48
            replace hB := below_then hB b48
            replace hL := LL.below hL b48
            refine WL.val (dx_neqT rfl rfl rfl) rfl rfl ?_
            refine WL.nil ?_
            refine hK46 ?_
            refine WC.cond rfl (fun c49 => ?_) (fun c49 => ?_)
            ·
              replace c49 := bnot_t c49
              replace c49 := of_decide_eq_false c49
              refine WC.seq fun K50 hK50 => ?_
              refine WC.region ?_
              refine WL.val (dx_move rfl rfl) rfl rfl ?_
              refine WL.val (dx_move rfl rfl) rfl rfl ?_
              refine WL.val (dx_move rfl rfl) rfl rfl ?_
              refine WL.val (dx_move rfl rfl) rfl rfl ?_
              refine WL.get (dx_idxF k0 rfl ty_slice_22 rfl rfl h1 (by omega) (at_mapX hx0)) rfl rfl ?_
              rintro u51 _ ⟨rfl, p52⟩
              refine WL.get (dx_fldP 1 rfl ty_fld_26_6_7 rfl p52 (cs' := [.int .i64 r0.wrong]) rfl (Nat.succ_pos _)) rfl rfl ?_
              rintro u53 _ ⟨rfl, p54⟩
              refine WL.val (dx_loadP rfl ty_one_3 rfl p54) rfl rfl ?_
              refine WL.val (dx_add (r := r0.wrong + 1) rfl rfl rfl (wrap64_id (by omega))) rfl rfl ?_
              refine WL.val (dx_idxO k0 rfl ty_slice_22 rfl rfl k41 (by omega) (by rw [List.length_map]; omega) rfl) rfl rfl ?_
              refine WL.val (dx_fld (o1 := k0 * 10 + 7) rfl ty_fld_26_6_7 rfl rfl) rfl rfl ?_
              refine WL.do (dx_storeF (k := k0) (j := 7) (r := encZ r0) rfl ty_size_3_1 rfl rfl rfl rfl k41 rfl (at_mapX hx0) (by decide)) rfl ?_
              rintro _ W55 ⟨k57, o56⟩
              replace k3 := k3.other o56 n43
              clear k41
              replace h1 := h1.only o56 (.head _)
              replace p52 := p52.only o56 (.head _)
              replace p54 := p54.only o56 (.head _)
              replace hB := o56.below hB l44
              replace hL := LL.only hL o56
              rw [show (xs.map encZ).set k0 ((encZ r0).set 7 (.int .i64 (r0.wrong + 1))) = (xs.set k0 { r0 with wrong := r0.wrong + 1 }).map encZ from (List.map_set (f := encZ) (l := xs) (i := k0) (a := { r0 with wrong := r0.wrong + 1 })).symm] at k57
              obtain ⟨r1, hr1⟩ : ∃ r : SesX, r = { r0 with wrong := r0.wrong + 1 } := ⟨_, rfl⟩
              rw [← hr1] at k57
              have hlsr1 : (xs.set k0 r1).length = xs.length := List.length_set
              have hxr1 : (xs.set k0 r1)[k0]? = some r1 := List.getElem?_set_self (by first | exact hl0 | (rw [List.length_set]; exact hl0))
              refine WL.nil ?_
              refine hK50 ?_
              refine WC.seq fun K58 hK58 => ?_
              refine WC.region ?_
              refine WL.val (dx_move rfl rfl) rfl rfl ?_
              refine WL.val (dx_assign rfl rfl) rfl rfl ?_
              refine WL.val (dx_assign rfl rfl) rfl rfl ?_
              refine WL.nil ?_
              refine hK58 ?_
              refine WC.ret fun a_ ha_ => ?_
              exact hQ (cv_ret2 rfl (.tmp rfl) (.tmp rfl) (by have he : subE xs now wt = 12 := (by unfold subE; rw [if_pos he0, ← hz, if_neg (by assumption), if_neg (show ¬ r0.tok = wt.tok by first | assumption | simp_all)]); have hh : hitS r0 now wt = r1 := (by unfold hitS; rw [if_neg (show ¬ r0.tok = wt.tok by first | assumption | simp_all), hr1]); have hs : subL xs now wt = xs.set k0 (hitS r0 now wt) := (by unfold subL; rw [if_pos (by rw [he]; decide), hk0, Int.toNat_natCast, ← hz]); have hq := k57; rw [he, hs, hh]; exact ⟨_, rfl, hq.notin hL0 l44⟩) hB ha_)
            ·
              replace c49 := bnot_f c49
              replace c49 := of_decide_eq_true c49
              refine WC.skip ?_
              refine hK45 ?_
              refine WC.seq fun K59 hK59 => ?_
              refine WC.seq fun K60 hK60 => ?_
              refine WC.region ?_
              refine WL.val (dx_move rfl rfl) rfl rfl ?_
              refine WL.val (dx_move rfl rfl) rfl rfl ?_
              refine WL.get (dx_idxF k0 rfl ty_slice_22 rfl rfl h1 (by omega) (at_mapX hx0)) rfl rfl ?_
              rintro u61 _ ⟨rfl, p62⟩
              refine WL.get (dx_fldP 1 rfl ty_fld_26_7_8 rfl p62 (cs' := [.bool r0.shown]) rfl (Nat.succ_pos _)) rfl rfl ?_
              rintro u63 _ ⟨rfl, p64⟩
              refine WL.val (dx_loadP rfl ty_one_4 rfl p64) rfl rfl ?_
              refine WL.val (dx_not rfl rfl) rfl rfl ?_
              refine WL.nil ?_
              refine hK60 ?_
              refine WC.cond rfl (fun c65 => ?_) (fun c65 => ?_)
              ·
                replace c65 := bnot_t c65
                refine WC.seq fun K66 hK66 => ?_
                refine WC.region ?_
                refine WL.val (dx_move rfl rfl) rfl rfl ?_
                refine WL.val (dx_move rfl rfl) rfl rfl ?_
                refine WL.val (dx_idxO k0 rfl ty_slice_22 rfl rfl k41 (by omega) (by rw [List.length_map]; omega) rfl) rfl rfl ?_
                refine WL.val (dx_fld (o1 := k0 * 10 + 8) rfl ty_fld_26_7_8 rfl rfl) rfl rfl ?_
                refine WL.do (dx_storeF (k := k0) (j := 8) (r := encZ r0) rfl ty_size_4_1 rfl rfl rfl rfl k41 rfl (at_mapX hx0) (by decide)) rfl ?_
                rintro _ W67 ⟨k69, o68⟩
                replace k3 := k3.other o68 n43
                clear k41
                replace h1 := h1.only o68 (.head _)
                replace hB := o68.below hB l44
                replace hL := LL.only hL o68
                rw [show (xs.map encZ).set k0 ((encZ r0).set 8 (.bool true)) = (xs.set k0 { r0 with shown := true }).map encZ from (List.map_set (f := encZ) (l := xs) (i := k0) (a := { r0 with shown := true })).symm] at k69
                obtain ⟨r1, hr1⟩ : ∃ r : SesX, r = { r0 with shown := true } := ⟨_, rfl⟩
                rw [← hr1] at k69
                have hlsr1 : (xs.set k0 r1).length = xs.length := List.length_set
                have hxr1 : (xs.set k0 r1)[k0]? = some r1 := List.getElem?_set_self (by first | exact hl0 | (rw [List.length_set]; exact hl0))
                refine WL.nil ?_
                refine hK66 ?_
                refine WC.region ?_
                refine WL.val (dx_move rfl rfl) rfl rfl ?_
                refine WL.val (dx_move rfl rfl) rfl rfl ?_
                refine WL.val (dx_move rfl rfl) rfl rfl ?_
                refine WL.val (dx_idxO k0 rfl ty_slice_22 rfl rfl k69 (by omega) (by rw [List.length_map]; omega) rfl) rfl rfl ?_
                refine WL.val (dx_fld (o1 := k0 * 10 + 9) rfl ty_fld_26_8_9 rfl rfl) rfl rfl ?_
                refine WL.do (dx_storeF (k := k0) (j := 9) (r := encZ r1) rfl ty_size_3_1 rfl rfl rfl rfl k69 rfl (at_mapX hxr1) (by decide)) rfl ?_
                rintro _ W70 ⟨k72, o71⟩
                replace k3 := k3.other o71 n43
                clear k69
                replace h1 := h1.only o71 (.head _)
                replace hB := o71.below hB l44
                replace hL := LL.only hL o71
                rw [show ((xs.set k0 r1).map encZ).set k0 ((encZ r1).set 9 (.int .i64 now)) = ((xs.set k0 r1).set k0 { r1 with sat := now }).map encZ from (List.map_set (f := encZ) (l := (xs.set k0 r1)) (i := k0) (a := { r1 with sat := now })).symm] at k72
                obtain ⟨r2, hr2⟩ : ∃ r : SesX, r = { r1 with sat := now } := ⟨_, rfl⟩
                rw [← hr2] at k72
                have hlsr2 : ((xs.set k0 r1).set k0 r2).length = (xs.set k0 r1).length := List.length_set
                have hxr2 : ((xs.set k0 r1).set k0 r2)[k0]? = some r2 := List.getElem?_set_self (by first | exact hl0 | (rw [List.length_set]; exact hl0))
                refine WL.nil ?_
                refine hK59 ?_
                refine WC.seq fun K73 hK73 => ?_
                refine WC.region ?_
                refine WL.val (dx_move rfl rfl) rfl rfl ?_
                refine WL.val (dx_assign rfl rfl) rfl rfl ?_
                refine WL.val (dx_assign rfl rfl) rfl rfl ?_
                refine WL.nil ?_
                refine hK73 ?_
                refine WC.ret fun a_ ha_ => ?_
                exact hQ (cv_ret2 rfl (.tmp rfl) (.tmp rfl) (by have he : subE xs now wt = 0 := (by unfold subE; rw [if_pos he0, ← hz, if_neg (by assumption), if_pos (show r0.tok = wt.tok by first | assumption | exact Classical.not_not.1 (by assumption) | simp_all)]); have hh : hitS r0 now wt = r2 := (by unfold hitS; rw [if_pos (show r0.tok = wt.tok by first | assumption | exact Classical.not_not.1 (by assumption) | simp_all), if_neg (by first | assumption | simp_all), hr2, hr1]); have hs : subL xs now wt = xs.set k0 (hitS r0 now wt) := (by unfold subL; rw [if_pos (by rw [he]; decide), hk0, Int.toNat_natCast, ← hz]); have hq := k72; rw [List.set_set] at hq; rw [he, hs, hh]; exact ⟨_, rfl, hq.notin hL0 l44⟩) hB ha_)
              ·
                replace c65 := bnot_f c65
                refine WC.skip ?_
                refine hK59 ?_
                refine WC.seq fun K74 hK74 => ?_
                refine WC.region ?_
                refine WL.val (dx_move rfl rfl) rfl rfl ?_
                refine WL.val (dx_assign rfl rfl) rfl rfl ?_
                refine WL.val (dx_assign rfl rfl) rfl rfl ?_
                refine WL.nil ?_
                refine hK74 ?_
                refine WC.ret fun a_ ha_ => ?_
                exact hQ (cv_ret2 rfl (.tmp rfl) (.tmp rfl) (by have he : subE xs now wt = 0 := (by unfold subE; rw [if_pos he0, ← hz, if_neg (by assumption), if_pos (show r0.tok = wt.tok by first | assumption | exact Classical.not_not.1 (by assumption) | simp_all)]); have hh : hitS r0 now wt = r0 := (by unfold hitS; rw [if_pos (show r0.tok = wt.tok by first | assumption | exact Classical.not_not.1 (by assumption) | simp_all), if_pos (by first | assumption | simp_all)]); have hs : subL xs now wt = xs.set k0 (hitS r0 now wt) := (by unfold subL; rw [if_pos (by rw [he]; decide), hk0, Int.toNat_natCast, ← hz]); have hq := k41; rw [← set_same hx0] at hq; rw [he, hs, hh]; exact ⟨_, rfl, hq.notin hL0 l44⟩) hB ha_)

end Go.Proofs.YthllidchoodofaaGreatDoor
