/- Layer 5 (ids): the reference's names of users and rooms. Layer 5 (ids): the reference's names of users, rooms, events; their parts. The reference of names: User of any text. Layer 6 (address): the reference's telephone numbers. Layer 6 (address): the reference's telephone numbers where no country is told. Layer 6 (address): the reference's countries; the law on telephone numbers. Layer 6 (address): the reference's email addresses. Layer 6 (address): the reference's local parts. Layer 6 (address): the reference's email addresses; the law on them. The reference of bonds: addresses, Right. Sorted texts, each once; what slices.Sort and slices.Compact leave of a slice of one's own; a field that is stored. No program stands here. Package bond: Bind, Unbind, Of. Arrays of three as values; tests that cannot be. No program stands here. bond.Of; BondCounts. The reference of bonds: Same, Alike. The reference of bonds: without. The reference of bonds: Find. The reference of bonds: Of. -/
import Derived.IntWalk
import Derived.Sort.OwnSorted
import Derived.Lib.SlicesCompact
import Derived.Lib.RowBridge
import Derived.Lib.AppendZeros
import Derived.Test.YthefddclefimoaaGreatDoorXC
namespace Go.Proofs.YthefddclefimoaaGreatDoor
open Go.RowKit
set_option linter.unusedVariables false

theorem ref_server_is (s : ByteArray) (b : Bool) (w : World) (hs : s.size ≤ 1000000) (h : serverL (sb s) = b) :
    Calls Tryz.prog 95 #[.string s] w fun e w' => e = .returned (.bool b) ∧ w = w' := by
  rw [← h]; exact ref_server_any s w hs
def pokB (l : List Int) (sigil : Int) : Bool := decide (l.length ≤ 255) && (l.head? == some sigil && serverL ((l.drop 1).drop (colI (l.drop 1) + 1)))
theorem named_pok (l : List Int) (sigil most : Int) (K : Int → Bool) : namedL l sigil most K = (pokB l sigil && madeI ((l.drop 1).take (colI (l.drop 1))) most K) := by
  rw [namedL, pokB]
  cases decide (l.length ≤ 255) <;> cases (l.head? == some sigil) <;> cases serverL ((l.drop 1).drop (colI (l.drop 1) + 1)) <;> cases madeI ((l.drop 1).take (colI (l.drop 1))) most K <;> rfl
theorem col_tail {l : List Int} {c : Int} (h : l.head? = some c) (hc : c ≠ 58) : colI l = colI (l.drop 1) + 1 := by
  cases l with
  | nil => cases h
  | cons x r =>
    simp only [List.head?_cons, Option.some.injEq] at h
    subst h
    unfold colI
    rw [List.findIdx_cons]
    have : (x == 58) = false := by rw [beq_eq_false_iff_ne]; exact hc
    rw [this]; rfl
theorem server_nil : serverL [] = false := by decide
def PartsOk (l : List Int) (B : Nat) (w : World) (e : Ending) (w' : World) : Prop :=
  ∃ a b : ByteArray, (sb a = (l.drop 1).take (colI (l.drop 1)) ∧ sb b = (l.drop 1).drop (colI (l.drop 1) + 1)) ∧ e = .returned (.tuple #[.string a, .string b, .bool true]) ∧ Below B w w'
set_option maxHeartbeats 1000000 in
theorem ref_parts_64_no (s : ByteArray) (w : World) (hs : s.size ≤ 1000000) (h : pokB (sb s) 64 = false) :
    Calls Tryz.prog 72 #[.string s, .int .u8 64] w fun e w' => e = .returned (.tuple #[.string ⟨#[]⟩, .string ⟨#[]⟩, .bool false]) ∧ w = w' := by
  have hl := sb_length s
  have hs' : s.size ≤ maxLen := by unfold maxLen; omega
  by_cases h2 : s.size = 0
  · have hb : ((s.size : Int) == 0) = true := by rw [h2]; rfl
    clear h2 h hl
    go_enter Tryz.func72, Tryz.ntmps72
    go_wp2
    go_ret3
    exact ⟨rfl, rfl⟩
  have hb : ((s.size : Int) == 0) = false := by rw [beq_eq_false_iff_ne]; omega
  by_cases h1 : 255 < s.size
  · clear h2 h hl
    go_enter Tryz.func72, Tryz.ntmps72
    go_wp2
    go_ret3
    exact ⟨rfl, rfl⟩
  have h2' : 0 < s.size := by omega
  have hat := at0_sb s 0 h2'
  have hh := head_at (sb s) (by omega)
  have h255 : s.size ≤ 255 := by omega
  by_cases h3 : at0 (sb s) 0 = 64
  rotate_left
  · have hn : (((s[0]'h2').toNat : Int) != 64) = true := by rw [← hat, bne_iff_ne]; exact h3
    clear h2 h hl hat hh h3
    go_enter Tryz.func72, Tryz.ntmps72
    go_wp2
    go_ret3
    exact ⟨rfl, rfl⟩
  have hn : (((s[0]'h2').toNat : Int) != 64) = false := by rw [← hat, h3]; rfl
  rw [h3] at hh
  have hct := col_tail hh (by decide)
  rw [pokB, hh, decide_eq_true (show (sb s).length ≤ 255 by omega)] at h
  have hsf : serverL ((sb s).drop (colI (sb s) + 1)) = false := by
    rw [hct]
    rw [List.drop_drop] at h
    rw [show colI ((sb s).drop 1) + 1 + 1 = 1 + (colI ((sb s).drop 1) + 1) by omega]
    simpa using h
  by_cases hc : colI (sb s) < (sb s).length
  rotate_left
  · have HC := ref_colon_no s w hs' hc
    clear h2 h hl hat hh h3 hct hsf hc
    go_enter Tryz.func72, Tryz.ntmps72
    go_wp2_with fail
    refine HC.mono ?_
    rintro e w' ⟨rfl, rfl⟩
    go_wp2
    go_ret3
    exact ⟨rfl, rfl⟩
  have HC := ref_colon_yes s w hs' hc
  have ht := sb_tail s (colI (sb s) + 1)
  rw [← ht] at hsf
  have hts : (s.extract (colI (sb s) + 1) s.size).size ≤ 1000000 := size_of_sb ht (by rw [List.length_drop]; omega)
  have HS := ref_server_is _ false w hts hsf
  clear h2 h hat hh h3 hct hsf ht
  generalize colI (sb s) = k at *
  rw [hl] at hc
  have hk1 : (k : Int) + 1 ≤ s.size := by omega
  have hk0 : decide ((k : Int) < 0) = false := by simp
  clear hl
  go_enter Tryz.func72, Tryz.ntmps72
  go_wp2_with fail
  refine HC.mono ?_
  rintro e w' ⟨rfl, rfl⟩
  go_wp2_with fail
  refine HS.mono ?_
  rintro e w' ⟨rfl, rfl⟩
  go_wp2
  go_ret3
  exact ⟨rfl, rfl⟩
set_option maxHeartbeats 1000000 in
theorem ref_parts_64_yes (s : ByteArray) (w : World) (hs : s.size ≤ 1000000) (h : pokB (sb s) 64 = true) :
    Calls Tryz.prog 72 #[.string s, .int .u8 64] w (PartsOk (sb s) w.heap.size w) := by
  have hl := sb_length s
  have hs' : s.size ≤ maxLen := by unfold maxLen; omega
  simp only [pokB, Bool.and_eq_true, decide_eq_true_eq, beq_iff_eq] at h
  obtain ⟨h255, hh, hsv⟩ := h
  have h2' : 0 < s.size := by
    rw [← hl]
    cases hq : sb s with
    | nil => rw [hq] at hh; cases hh
    | cons x r => simp
  have hb : ((s.size : Int) == 0) = false := by rw [beq_eq_false_iff_ne]; omega
  have hat := at0_sb s 0 h2'
  have hh2 := head_at (sb s) (by omega)
  rw [hh] at hh2
  have h3 : at0 (sb s) 0 = 64 := (Option.some.inj hh2).symm
  have hn : (((s[0]'h2').toNat : Int) != 64) = false := by rw [← hat, h3]; rfl
  have hct := col_tail hh (by decide)
  rw [List.drop_drop, show 1 + (colI ((sb s).drop 1) + 1) = colI (sb s) + 1 by omega] at hsv
  have hc : colI (sb s) < (sb s).length := by
    rcases Nat.lt_or_ge (colI (sb s)) (sb s).length with q | q
    · exact q
    · rw [List.drop_of_length_le (by omega), server_nil] at hsv; cases hsv
  have HC := ref_colon_yes s w hs' hc
  have ht := sb_tail s (colI (sb s) + 1)
  rw [← ht] at hsv
  have hts : (s.extract (colI (sb s) + 1) s.size).size ≤ 1000000 := size_of_sb ht (by rw [List.length_drop]; omega)
  have HS := ref_server_is _ true w hts hsv
  have ha := sb_extract s 1 (colI (sb s))
  have hfa : ((sb s).drop 1).take (colI ((sb s).drop 1)) = ((sb s).take (colI (sb s))).drop 1 := by rw [hct, List.drop_take]; rfl
  have hfb : ((sb s).drop 1).drop (colI ((sb s).drop 1) + 1) = (sb s).drop (colI (sb s) + 1) := by rw [List.drop_drop, hct, show 1 + (colI ((sb s).drop 1) + 1) = colI ((sb s).drop 1) + 1 + 1 by omega]
  rw [← ha] at hfa
  rw [← ht] at hfb
  have HA := Lib.hid hfa
  have HB := Lib.hid hfb
  have hk2 : 1 ≤ colI (sb s) := by omega
  clear hh hh2 h3 hct hsv hfa hfb ha ht hat
  generalize colI (sb s) = k at *
  rw [hl] at hc
  have hk1 : (k : Int) + 1 ≤ s.size := by omega
  have hk3 : (1 : Int) ≤ (k : Int) := by omega
  have hk4 : (k : Int) ≤ s.size := by omega
  have hk5 : (0 : Int) ≤ (k : Int) + 1 := by omega
  have hk6 : IntKind.i64.wrap ((k : Int) + 1) = (k : Int) + 1 := IntWalk.i64_in _ (by omega)
  have hk7 : ((k : Int) + 1).toNat = k + 1 := by omega
  have hk0 : decide ((k : Int) < 0) = false := by simp
  have HL := Lib.hid hl
  have H255 : s.size ≤ 255 := by omega
  clear hl h255
  go_enter Tryz.func72, Tryz.ntmps72
  go_wp2_with fail
  refine HC.mono ?_
  rintro e w' ⟨rfl, rfl⟩
  go_wp2_with fail
  refine HS.mono ?_
  rintro e w' ⟨rfl, rfl⟩
  go_wp2
  go_quiet (fail)
  go_wp2
  go_ret3
  exact ⟨_, _, ⟨HA.out.symm, HB.out.symm⟩, rfl, below_drewN (Below.refl _ _) _⟩
set_option maxHeartbeats 1000000 in
theorem ref_parts_33_no (s : ByteArray) (w : World) (hs : s.size ≤ 1000000) (h : pokB (sb s) 33 = false) :
    Calls Tryz.prog 72 #[.string s, .int .u8 33] w fun e w' => e = .returned (.tuple #[.string ⟨#[]⟩, .string ⟨#[]⟩, .bool false]) ∧ w = w' := by
  have hl := sb_length s
  have hs' : s.size ≤ maxLen := by unfold maxLen; omega
  by_cases h2 : s.size = 0
  · have hb : ((s.size : Int) == 0) = true := by rw [h2]; rfl
    clear h2 h hl
    go_enter Tryz.func72, Tryz.ntmps72
    go_wp2
    go_ret3
    exact ⟨rfl, rfl⟩
  have hb : ((s.size : Int) == 0) = false := by rw [beq_eq_false_iff_ne]; omega
  by_cases h1 : 255 < s.size
  · clear h2 h hl
    go_enter Tryz.func72, Tryz.ntmps72
    go_wp2
    go_ret3
    exact ⟨rfl, rfl⟩
  have h2' : 0 < s.size := by omega
  have hat := at0_sb s 0 h2'
  have hh := head_at (sb s) (by omega)
  have h255 : s.size ≤ 255 := by omega
  by_cases h3 : at0 (sb s) 0 = 33
  rotate_left
  · have hn : (((s[0]'h2').toNat : Int) != 33) = true := by rw [← hat, bne_iff_ne]; exact h3
    clear h2 h hl hat hh h3
    go_enter Tryz.func72, Tryz.ntmps72
    go_wp2
    go_ret3
    exact ⟨rfl, rfl⟩
  have hn : (((s[0]'h2').toNat : Int) != 33) = false := by rw [← hat, h3]; rfl
  rw [h3] at hh
  have hct := col_tail hh (by decide)
  rw [pokB, hh, decide_eq_true (show (sb s).length ≤ 255 by omega)] at h
  have hsf : serverL ((sb s).drop (colI (sb s) + 1)) = false := by
    rw [hct]
    rw [List.drop_drop] at h
    rw [show colI ((sb s).drop 1) + 1 + 1 = 1 + (colI ((sb s).drop 1) + 1) by omega]
    simpa using h
  by_cases hc : colI (sb s) < (sb s).length
  rotate_left
  · have HC := ref_colon_no s w hs' hc
    clear h2 h hl hat hh h3 hct hsf hc
    go_enter Tryz.func72, Tryz.ntmps72
    go_wp2_with fail
    refine HC.mono ?_
    rintro e w' ⟨rfl, rfl⟩
    go_wp2
    go_ret3
    exact ⟨rfl, rfl⟩
  have HC := ref_colon_yes s w hs' hc
  have ht := sb_tail s (colI (sb s) + 1)
  rw [← ht] at hsf
  have hts : (s.extract (colI (sb s) + 1) s.size).size ≤ 1000000 := size_of_sb ht (by rw [List.length_drop]; omega)
  have HS := ref_server_is _ false w hts hsf
  clear h2 h hat hh h3 hct hsf ht
  generalize colI (sb s) = k at *
  rw [hl] at hc
  have hk1 : (k : Int) + 1 ≤ s.size := by omega
  have hk0 : decide ((k : Int) < 0) = false := by simp
  clear hl
  go_enter Tryz.func72, Tryz.ntmps72
  go_wp2_with fail
  refine HC.mono ?_
  rintro e w' ⟨rfl, rfl⟩
  go_wp2_with fail
  refine HS.mono ?_
  rintro e w' ⟨rfl, rfl⟩
  go_wp2
  go_ret3
  exact ⟨rfl, rfl⟩
set_option maxHeartbeats 1000000 in
theorem ref_parts_33_yes (s : ByteArray) (w : World) (hs : s.size ≤ 1000000) (h : pokB (sb s) 33 = true) :
    Calls Tryz.prog 72 #[.string s, .int .u8 33] w (PartsOk (sb s) w.heap.size w) := by
  have hl := sb_length s
  have hs' : s.size ≤ maxLen := by unfold maxLen; omega
  simp only [pokB, Bool.and_eq_true, decide_eq_true_eq, beq_iff_eq] at h
  obtain ⟨h255, hh, hsv⟩ := h
  have h2' : 0 < s.size := by
    rw [← hl]
    cases hq : sb s with
    | nil => rw [hq] at hh; cases hh
    | cons x r => simp
  have hb : ((s.size : Int) == 0) = false := by rw [beq_eq_false_iff_ne]; omega
  have hat := at0_sb s 0 h2'
  have hh2 := head_at (sb s) (by omega)
  rw [hh] at hh2
  have h3 : at0 (sb s) 0 = 33 := (Option.some.inj hh2).symm
  have hn : (((s[0]'h2').toNat : Int) != 33) = false := by rw [← hat, h3]; rfl
  have hct := col_tail hh (by decide)
  rw [List.drop_drop, show 1 + (colI ((sb s).drop 1) + 1) = colI (sb s) + 1 by omega] at hsv
  have hc : colI (sb s) < (sb s).length := by
    rcases Nat.lt_or_ge (colI (sb s)) (sb s).length with q | q
    · exact q
    · rw [List.drop_of_length_le (by omega), server_nil] at hsv; cases hsv
  have HC := ref_colon_yes s w hs' hc
  have ht := sb_tail s (colI (sb s) + 1)
  rw [← ht] at hsv
  have hts : (s.extract (colI (sb s) + 1) s.size).size ≤ 1000000 := size_of_sb ht (by rw [List.length_drop]; omega)
  have HS := ref_server_is _ true w hts hsv
  have ha := sb_extract s 1 (colI (sb s))
  have hfa : ((sb s).drop 1).take (colI ((sb s).drop 1)) = ((sb s).take (colI (sb s))).drop 1 := by rw [hct, List.drop_take]; rfl
  have hfb : ((sb s).drop 1).drop (colI ((sb s).drop 1) + 1) = (sb s).drop (colI (sb s) + 1) := by rw [List.drop_drop, hct, show 1 + (colI ((sb s).drop 1) + 1) = colI ((sb s).drop 1) + 1 + 1 by omega]
  rw [← ha] at hfa
  rw [← ht] at hfb
  have HA := Lib.hid hfa
  have HB := Lib.hid hfb
  have hk2 : 1 ≤ colI (sb s) := by omega
  clear hh hh2 h3 hct hsv hfa hfb ha ht hat
  generalize colI (sb s) = k at *
  rw [hl] at hc
  have hk1 : (k : Int) + 1 ≤ s.size := by omega
  have hk3 : (1 : Int) ≤ (k : Int) := by omega
  have hk4 : (k : Int) ≤ s.size := by omega
  have hk5 : (0 : Int) ≤ (k : Int) + 1 := by omega
  have hk6 : IntKind.i64.wrap ((k : Int) + 1) = (k : Int) + 1 := IntWalk.i64_in _ (by omega)
  have hk7 : ((k : Int) + 1).toNat = k + 1 := by omega
  have hk0 : decide ((k : Int) < 0) = false := by simp
  have HL := Lib.hid hl
  have H255 : s.size ≤ 255 := by omega
  clear hl h255
  go_enter Tryz.func72, Tryz.ntmps72
  go_wp2_with fail
  refine HC.mono ?_
  rintro e w' ⟨rfl, rfl⟩
  go_wp2_with fail
  refine HS.mono ?_
  rintro e w' ⟨rfl, rfl⟩
  go_wp2
  go_quiet (fail)
  go_wp2
  go_ret3
  exact ⟨_, _, ⟨HA.out.symm, HB.out.symm⟩, rfl, below_drewN (Below.refl _ _) _⟩
end Go.Proofs.YthefddclefimoaaGreatDoor
namespace Go.Proofs.YthefddclefimoaaGreatDoor
open Go.RowKit
set_option linter.unusedVariables false

set_option maxHeartbeats 1000000 in
theorem ref_user_any (s : ByteArray) (w : World) (hs : s.size ≤ 1000000) :
    Calls Tryz.prog 45 #[.string s] w fun e w' => e = .returned (.bool (userL (sb s))) ∧ Below w.heap.size w w' := by
  have hp := named_pok (sb s) 64 200 userI
  cases hq : pokB (sb s) 64
  · have HF := Lib.hid (show userL (sb s) = false by rw [userL, hp, hq]; rfl)
    have HP := ref_parts_64_no s w hs hq
    clear hp hq
    go_enter Tryz.func45, Tryz.ntmps45
    go_wp2_with fail
    refine HP.mono ?_
    rintro e w' ⟨rfl, rfl⟩
    go_wp2
    go_rounds 1
    go_ret
    exact ⟨by rw [HF.out]; rfl, Below.refl _ _⟩
  have HP := ref_parts_64_yes s w hs hq
  have HF0 := Lib.hid (show userL (sb s) = madeI (((sb s).drop 1).take (colI ((sb s).drop 1))) 200 userI by rw [userL, hp, hq]; rfl)
  have h255 : (sb s).length ≤ 255 := by
    simp only [pokB, Bool.and_eq_true, decide_eq_true_eq] at hq
    exact hq.1
  clear hp hq
  go_enter Tryz.func45, Tryz.ntmps45
  go_wp2_with fail
  refine HP.mono ?_
  rintro e w1 ⟨t, b, ⟨ht, -⟩, rfl, hb1⟩
  have hts := size_of_sb (n := 255) ht (by rw [List.length_take, List.length_drop]; omega)
  have hfin : userL (sb s) = madeI (sb t) 200 userI := by rw [HF0.out, ht]
  have HF := Lib.hid hfin
  have HTL := Lib.hid (sb_length t)
  clear hfin ht HP h255
  go_wp2
  go_loop [6, 7] (fun i _ => ∃ j : Nat, j ≤ t.size ∧ i = .int .i64 j ∧ ((sb t).take j).all userI = true) (fun i _ => t.size - (intOf i).toNat)
  case atStart => exact ⟨0, Nat.zero_le _, rfl, rfl⟩
  case round =>
    obtain ⟨j, hj, rfl, hall⟩ := hrel
    have H := Lib.hid hall; clear hall
    by_cases hlt : j < t.size
    · have hlj : j < (sb t).length := by have := HTL.out; omega
      have hat := at0_sb t j hlt
      have HAt := Lib.hid hat; clear hat
      have c0 := (t[j]'hlt).toNat_lt
      cases hcs : smlI (at0 (sb t) j)
      rotate_left
      · have HSm := Lib.hid (show smlI ((t[j]'hlt).toNat : Int) = true by rw [← HAt.out]; exact hcs)
        have HX := Lib.hid hcs; clear hcs
        have HDi := HSm; have HGr := HSm
        have HK := Lib.hid (show userI (at0 (sb t) j) = true by simp [userI, HX.out])
        go_wp2_with (first | (go_at_call 73; refine (ref_small_is _ _ _ HSm.out).mono ?_; rintro e w' ⟨rfl, rfl⟩) | (go_at_call 131; refine (ref_great_is _ _ _ HGr.out).mono ?_; rintro e w' ⟨rfl, rfl⟩) | (go_at_call 74; refine (ref_digit_is _ _ _ HDi.out).mono ?_; rintro e w' ⟨rfl, rfl⟩))
        refine ⟨⟨j + 1, by omega, by go_num, ?_⟩, by simp [intOf]; omega⟩
        rw [List.take_add_one, List.getElem?_eq_getElem hlj, List.all_append, H.out, Option.toList_some, ← at0_lt hlj]
        simp [HK.out]
      have HSm := Lib.hid (show smlI ((t[j]'hlt).toNat : Int) = false by rw [← HAt.out]; exact hcs)
      have HXs := Lib.hid hcs; clear hcs
      cases hcd : digI (at0 (sb t) j)
      rotate_left
      · have HDi := Lib.hid (show digI ((t[j]'hlt).toNat : Int) = true by rw [← HAt.out]; exact hcd)
        have HX := Lib.hid hcd; clear hcd
        have HGr := HSm
        have HK := Lib.hid (show userI (at0 (sb t) j) = true by simp [userI, HX.out])
        go_wp2_with (first | (go_at_call 73; refine (ref_small_is _ _ _ HSm.out).mono ?_; rintro e w' ⟨rfl, rfl⟩) | (go_at_call 131; refine (ref_great_is _ _ _ HGr.out).mono ?_; rintro e w' ⟨rfl, rfl⟩) | (go_at_call 74; refine (ref_digit_is _ _ _ HDi.out).mono ?_; rintro e w' ⟨rfl, rfl⟩))
        refine ⟨⟨j + 1, by omega, by go_num, ?_⟩, by simp [intOf]; omega⟩
        rw [List.take_add_one, List.getElem?_eq_getElem hlj, List.all_append, H.out, Option.toList_some, ← at0_lt hlj]
        simp [HK.out]
      have HDi := Lib.hid (show digI ((t[j]'hlt).toNat : Int) = false by rw [← HAt.out]; exact hcd)
      have HXd := Lib.hid hcd; clear hcd
      have HGr := HSm
      by_cases q46 : at0 (sb t) j = 46
      · have b46 : (((t[j]'hlt).toNat : Int) != 46) = false := by rw [← HAt.out, q46]; rfl
        have HQ := Lib.hid q46; clear q46
        have HK := Lib.hid (show userI (at0 (sb t) j) = true by simp [userI, HQ.out])
        go_wp2_with (first | (go_at_call 73; refine (ref_small_is _ _ _ HSm.out).mono ?_; rintro e w' ⟨rfl, rfl⟩) | (go_at_call 131; refine (ref_great_is _ _ _ HGr.out).mono ?_; rintro e w' ⟨rfl, rfl⟩) | (go_at_call 74; refine (ref_digit_is _ _ _ HDi.out).mono ?_; rintro e w' ⟨rfl, rfl⟩))
        refine ⟨⟨j + 1, by omega, by go_num, ?_⟩, by simp [intOf]; omega⟩
        rw [List.take_add_one, List.getElem?_eq_getElem hlj, List.all_append, H.out, Option.toList_some, ← at0_lt hlj]
        simp [HK.out]
      have b46 : (((t[j]'hlt).toNat : Int) != 46) = true := by rw [← HAt.out, bne_iff_ne]; exact q46
      have Q46 := Lib.hid q46; clear q46
      by_cases q95 : at0 (sb t) j = 95
      · have b95 : (((t[j]'hlt).toNat : Int) != 95) = false := by rw [← HAt.out, q95]; rfl
        have HQ := Lib.hid q95; clear q95
        have HK := Lib.hid (show userI (at0 (sb t) j) = true by simp [userI, HQ.out])
        go_wp2_with (first | (go_at_call 73; refine (ref_small_is _ _ _ HSm.out).mono ?_; rintro e w' ⟨rfl, rfl⟩) | (go_at_call 131; refine (ref_great_is _ _ _ HGr.out).mono ?_; rintro e w' ⟨rfl, rfl⟩) | (go_at_call 74; refine (ref_digit_is _ _ _ HDi.out).mono ?_; rintro e w' ⟨rfl, rfl⟩))
        refine ⟨⟨j + 1, by omega, by go_num, ?_⟩, by simp [intOf]; omega⟩
        rw [List.take_add_one, List.getElem?_eq_getElem hlj, List.all_append, H.out, Option.toList_some, ← at0_lt hlj]
        simp [HK.out]
      have b95 : (((t[j]'hlt).toNat : Int) != 95) = true := by rw [← HAt.out, bne_iff_ne]; exact q95
      have Q95 := Lib.hid q95; clear q95
      by_cases q61 : at0 (sb t) j = 61
      · have b61 : (((t[j]'hlt).toNat : Int) != 61) = false := by rw [← HAt.out, q61]; rfl
        have HQ := Lib.hid q61; clear q61
        have HK := Lib.hid (show userI (at0 (sb t) j) = true by simp [userI, HQ.out])
        go_wp2_with (first | (go_at_call 73; refine (ref_small_is _ _ _ HSm.out).mono ?_; rintro e w' ⟨rfl, rfl⟩) | (go_at_call 131; refine (ref_great_is _ _ _ HGr.out).mono ?_; rintro e w' ⟨rfl, rfl⟩) | (go_at_call 74; refine (ref_digit_is _ _ _ HDi.out).mono ?_; rintro e w' ⟨rfl, rfl⟩))
        refine ⟨⟨j + 1, by omega, by go_num, ?_⟩, by simp [intOf]; omega⟩
        rw [List.take_add_one, List.getElem?_eq_getElem hlj, List.all_append, H.out, Option.toList_some, ← at0_lt hlj]
        simp [HK.out]
      have b61 : (((t[j]'hlt).toNat : Int) != 61) = true := by rw [← HAt.out, bne_iff_ne]; exact q61
      have Q61 := Lib.hid q61; clear q61
      by_cases q47 : at0 (sb t) j = 47
      · have b47 : (((t[j]'hlt).toNat : Int) != 47) = false := by rw [← HAt.out, q47]; rfl
        have HQ := Lib.hid q47; clear q47
        have HK := Lib.hid (show userI (at0 (sb t) j) = true by simp [userI, HQ.out])
        go_wp2_with (first | (go_at_call 73; refine (ref_small_is _ _ _ HSm.out).mono ?_; rintro e w' ⟨rfl, rfl⟩) | (go_at_call 131; refine (ref_great_is _ _ _ HGr.out).mono ?_; rintro e w' ⟨rfl, rfl⟩) | (go_at_call 74; refine (ref_digit_is _ _ _ HDi.out).mono ?_; rintro e w' ⟨rfl, rfl⟩))
        refine ⟨⟨j + 1, by omega, by go_num, ?_⟩, by simp [intOf]; omega⟩
        rw [List.take_add_one, List.getElem?_eq_getElem hlj, List.all_append, H.out, Option.toList_some, ← at0_lt hlj]
        simp [HK.out]
      have b47 : (((t[j]'hlt).toNat : Int) != 47) = true := by rw [← HAt.out, bne_iff_ne]; exact q47
      have Q47 := Lib.hid q47; clear q47
      by_cases q43 : at0 (sb t) j = 43
      · have b43 : (((t[j]'hlt).toNat : Int) != 43) = false := by rw [← HAt.out, q43]; rfl
        have HQ := Lib.hid q43; clear q43
        have HK := Lib.hid (show userI (at0 (sb t) j) = true by simp [userI, HQ.out])
        go_wp2_with (first | (go_at_call 73; refine (ref_small_is _ _ _ HSm.out).mono ?_; rintro e w' ⟨rfl, rfl⟩) | (go_at_call 131; refine (ref_great_is _ _ _ HGr.out).mono ?_; rintro e w' ⟨rfl, rfl⟩) | (go_at_call 74; refine (ref_digit_is _ _ _ HDi.out).mono ?_; rintro e w' ⟨rfl, rfl⟩))
        refine ⟨⟨j + 1, by omega, by go_num, ?_⟩, by simp [intOf]; omega⟩
        rw [List.take_add_one, List.getElem?_eq_getElem hlj, List.all_append, H.out, Option.toList_some, ← at0_lt hlj]
        simp [HK.out]
      have b43 : (((t[j]'hlt).toNat : Int) != 43) = true := by rw [← HAt.out, bne_iff_ne]; exact q43
      have Q43 := Lib.hid q43; clear q43
      by_cases q45 : at0 (sb t) j = 45
      · have b45 : (((t[j]'hlt).toNat : Int) != 45) = false := by rw [← HAt.out, q45]; rfl
        have HQ := Lib.hid q45; clear q45
        have HK := Lib.hid (show userI (at0 (sb t) j) = true by simp [userI, HQ.out])
        go_wp2_with (first | (go_at_call 73; refine (ref_small_is _ _ _ HSm.out).mono ?_; rintro e w' ⟨rfl, rfl⟩) | (go_at_call 131; refine (ref_great_is _ _ _ HGr.out).mono ?_; rintro e w' ⟨rfl, rfl⟩) | (go_at_call 74; refine (ref_digit_is _ _ _ HDi.out).mono ?_; rintro e w' ⟨rfl, rfl⟩))
        refine ⟨⟨j + 1, by omega, by go_num, ?_⟩, by simp [intOf]; omega⟩
        rw [List.take_add_one, List.getElem?_eq_getElem hlj, List.all_append, H.out, Option.toList_some, ← at0_lt hlj]
        simp [HK.out]
      have b45 : (((t[j]'hlt).toNat : Int) != 45) = true := by rw [← HAt.out, bne_iff_ne]; exact q45
      have Q45 := Lib.hid q45; clear q45
      have HK := Lib.hid (show userI (at0 (sb t) j) = false by simp [userI, HXs.out, HXd.out, Q46.out, Q95.out, Q61.out, Q47.out, Q43.out, Q45.out])
      go_wp2_with (first | (go_at_call 73; refine (ref_small_is _ _ _ HSm.out).mono ?_; rintro e w' ⟨rfl, rfl⟩) | (go_at_call 131; refine (ref_great_is _ _ _ HGr.out).mono ?_; rintro e w' ⟨rfl, rfl⟩) | (go_at_call 74; refine (ref_digit_is _ _ _ HDi.out).mono ?_; rintro e w' ⟨rfl, rfl⟩))
      go_ret
      refine ⟨?_, hb1⟩
      have : (sb t).all userI = false := by rw [List.all_eq_false]; exact ⟨_, at0_mem hlj, by rw [HK.out]; decide⟩
      rw [HF.out, madeI, this]; simp
    · obtain rfl : j = t.size := by omega
      have hall : (sb t).all userI = true := by
        have h := H.out
        rwa [List.take_of_length_le (by have := HTL.out; omega)] at h
      have HALL := Lib.hid hall; clear hall hlt hj
      have hfin : userL (sb s) = (decide (1 ≤ t.size) && decide ((t.size : Int) ≤ 200)) := by
        rw [HF.out, madeI, HALL.out, HTL.out]
        simp
      have HFIN := Lib.hid hfin; clear hfin
      by_cases h1 : 1 ≤ t.size
      · by_cases h5 : t.size ≤ 200
        · have b1 : decide ((1 : Int) ≤ (t.size : Int)) = true := by simp; omega
          have b5 : decide ((t.size : Int) ≤ 200) = true := by simp; omega
          go_wp2
          go_ret
          refine ⟨?_, hb1⟩
          rw [HFIN.out, b5, decide_eq_true h1]; rfl
        · have b1 : decide ((1 : Int) ≤ (t.size : Int)) = true := by simp; omega
          have b5 : decide ((t.size : Int) ≤ 200) = false := by simp; omega
          go_wp2
          go_ret
          refine ⟨?_, hb1⟩
          rw [HFIN.out, b5, decide_eq_true h1]; rfl
      · have b1 : decide ((1 : Int) ≤ (t.size : Int)) = false := by simp; omega
        go_wp2
        go_ret
        refine ⟨?_, hb1⟩
        rw [HFIN.out, decide_eq_false h1]; rfl
end Go.Proofs.YthefddclefimoaaGreatDoor
namespace Go.Proofs.YthefddclefimoaaGreatDoor
open Go.RowKit
set_option linter.unusedVariables false
set_option linter.unusedSimpArgs false
set_option maxRecDepth 8000

abbrev e0 : ByteArray := ⟨#[]⟩
set_option maxHeartbeats 1000000 in
theorem refPartsBig_v (s : ByteArray) (w : World) (L : List Nat) (hL : LL L w)   (h : 255 < s.size) : CV Tryz.prog 72 [.string s, .int .u8 64] w fun v W => v = .tuple #[.string ⟨#[]⟩, .string ⟨#[]⟩, .bool false] := by
  refine cv_enter (N := 41) (f := [(0, .string s), (1, .int .u8 64)]) Tryz.func72 rfl rfl rfl rfl fun Q hQ hE => ?_
  have hB := Below.refl w.heap.size w
  refine WC.seq fun K1 hK1 => ?_
  refine WC.region ?_
  refine WL.val (dx_assign rfl rfl) rfl rfl ?_
  refine WL.val (dx_assign rfl rfl) rfl rfl ?_
  refine WL.val (dx_assign rfl rfl) rfl rfl ?_
  refine WL.nil ?_
  refine hK1 ?_
  refine WC.seq fun K2 hK2 => ?_
  refine WC.seq fun K3 hK3 => ?_
  refine WC.region ?_
  refine WL.val (dx_move rfl rfl) rfl rfl ?_
  refine WL.val (dx_lenT rfl Tryz.underlying9 rfl) rfl rfl ?_
  refine WL.val (dx_eql rfl rfl rfl) rfl rfl ?_
  refine WL.val (dx_move rfl rfl) rfl rfl ?_
  refine WL.split 11 rfl (fun g4 => ?_) (fun g4 => ?_)
  ·
    replace g4 := of_decide_eq_true g4
    refine WL.off rfl rfl rfl ?_
    refine WL.off rfl rfl rfl ?_
    refine WL.off rfl rfl rfl ?_
    refine WL.val (dx_pick rfl rfl rfl) rfl rfl ?_
    refine WL.val (dx_move rfl rfl) rfl rfl ?_
    refine WL.off rfl rfl rfl ?_
    refine WL.off rfl rfl rfl ?_
    refine WL.off rfl rfl rfl ?_
    refine WL.off rfl rfl rfl ?_
    refine WL.val (dx_pick rfl rfl rfl) rfl rfl ?_
    refine WL.nil ?_
    refine hK3 ?_
    refine WC.condT rfl ?_
    refine WC.seq fun K5 hK5 => ?_
    refine WC.region ?_
    refine WL.val (dx_assign rfl rfl) rfl rfl ?_
    refine WL.val (dx_assign rfl rfl) rfl rfl ?_
    refine WL.val (dx_assign rfl rfl) rfl rfl ?_
    refine WL.nil ?_
    refine hK5 ?_
    refine WC.ret fun a_ ha_ => ?_
    exact hQ (cv_ret3 rfl (.tmp rfl) (.tmp rfl) (.tmp rfl) rfl hB ha_)
  ·
    replace g4 := of_decide_eq_false g4
    refine WL.val (dx_move rfl rfl) rfl rfl ?_
    refine WL.val (dx_lenT rfl Tryz.underlying9 rfl) rfl rfl ?_
    refine WL.val (dx_gtr rfl rfl rfl) rfl rfl ?_
    refine WL.val (dx_pick rfl rfl rfl) rfl rfl ?_
    refine WL.val (dx_move rfl rfl) rfl rfl ?_
    refine WL.split 16 rfl (fun g6 => ?_) (fun g6 => ?_)
    ·
      replace g6 := of_decide_eq_true g6
      refine WL.off rfl rfl rfl ?_
      refine WL.off rfl rfl rfl ?_
      refine WL.off rfl rfl rfl ?_
      refine WL.off rfl rfl rfl ?_
      refine WL.val (dx_pick rfl rfl rfl) rfl rfl ?_
      refine WL.nil ?_
      refine hK3 ?_
      refine WC.condT rfl ?_
      refine WC.seq fun K7 hK7 => ?_
      refine WC.region ?_
      refine WL.val (dx_assign rfl rfl) rfl rfl ?_
      refine WL.val (dx_assign rfl rfl) rfl rfl ?_
      refine WL.val (dx_assign rfl rfl) rfl rfl ?_
      refine WL.nil ?_
      refine hK7 ?_
      refine WC.ret fun a_ ha_ => ?_
      exact hQ (cv_ret3 rfl (.tmp rfl) (.tmp rfl) (.tmp rfl) rfl hB ha_)
    ·
      replace g6 := of_decide_eq_false g6
      exfalso; omega

set_option maxHeartbeats 1000000 in
theorem refUserBig_v (s : ByteArray) (w : World) (L : List Nat) (hL : LL L w)   (h : 255 < s.size) : CV Tryz.prog 45 [.string s] w fun v W => v = .bool false := by
  refine cv_enter (N := 66) (f := [(0, .string s)]) Tryz.func45 rfl rfl rfl rfl fun Q hQ hE => ?_
  have hB := Below.refl w.heap.size w
  refine WC.seq fun K1 hK1 => ?_
  refine WC.region ?_
  refine WL.val (dx_assign rfl rfl) rfl rfl ?_
  refine WL.nil ?_
  refine hK1 ?_
  refine WC.seq fun K2 hK2 => ?_
  refine WC.region ?_
  refine WL.val (dx_move rfl rfl) rfl rfl ?_
  refine WL.get (dx_cv rfl Tryz.func72 rfl rfl rfl (refPartsBig_v s w [] (LL.nil _) h)) rfl rfl ?_
  rintro _ W4 ⟨rfl, b3⟩
  replace hB := below_then hB b3
  replace hL := LL.below hL b3
  refine WL.val (dx_move rfl rfl) rfl rfl ?_
  refine WL.val (dx_extract rfl rfl rfl) rfl rfl ?_
  refine WL.val (dx_extract rfl rfl rfl) rfl rfl ?_
  refine WL.val (dx_extract rfl rfl rfl) rfl rfl ?_
  refine WL.val (dx_assign rfl rfl) rfl rfl ?_
  refine WL.val (dx_assign rfl rfl) rfl rfl ?_
  refine WL.val (dx_assign rfl rfl) rfl rfl ?_
  refine WL.nil ?_
  refine hK2 ?_
  refine WC.seq fun K5 hK5 => ?_
  refine WC.seq fun K6 hK6 => ?_
  refine WC.region ?_
  refine WL.val (dx_assign rfl rfl) rfl rfl ?_
  refine WL.nil ?_
  refine hK6 ?_
  refine WC.block ?_
  refine WC.loop (fun (i : Nat) => [(0, .string s), (2, .bool false), (3, .string e0), (4, .string e0), (5, .bool false), (6, .int .i64 (i : Int))]) (fun (i : Nat) W => i = 0 ∧ Below w.heap.size w W ∧ LL (L) W) (fun (i : Nat) => i) 0 (by repeat first | exact trivial | exact And.intro rfl trivial | refine And.intro rfl ?_ | refine And.intro (congrArg (fun z : Int => some (Value.int .i64 z)) (by omega)) ?_) ⟨rfl, hB, hL⟩ ?_
  clear hB hL
  rintro K7 i W8 ⟨hi, hB, hL⟩ hK7
  refine WC.seq fun K9 hK9 => ?_
  refine WC.seq fun K10 hK10 => ?_
  refine WC.region ?_
  refine WL.val (dx_move rfl rfl) rfl rfl ?_
  refine WL.val (dx_move rfl rfl) rfl rfl ?_
  refine WL.val (dx_lenT rfl Tryz.underlying9 rfl) rfl rfl ?_
  refine WL.val (dx_lss rfl rfl rfl) rfl rfl ?_
  refine WL.nil ?_
  refine hK10 ?_
  refine WC.cond rfl (fun c11 => ?_) (fun c11 => ?_)
  ·
    replace c11 := of_decide_eq_true c11
    exfalso; have he0 : (e0.size : Int) = 0 := rfl; omega
  ·
    replace c11 := of_decide_eq_false c11
    refine WC.exit ?_
    refine hK5 ?_
    refine WC.seq fun K12 hK12 => ?_
    refine WC.region ?_
    refine WL.val (dx_move rfl rfl) rfl rfl ?_
    refine WL.val (dx_move rfl rfl) rfl rfl ?_
    refine WL.off rfl rfl rfl ?_
    refine WL.off rfl rfl rfl ?_
    refine WL.off rfl rfl rfl ?_
    refine WL.val (dx_pick rfl rfl rfl) rfl rfl ?_
    refine WL.val (dx_move rfl rfl) rfl rfl ?_
    refine WL.off rfl rfl rfl ?_
    refine WL.off rfl rfl rfl ?_
    refine WL.off rfl rfl rfl ?_
    refine WL.val (dx_pick rfl rfl rfl) rfl rfl ?_
    refine WL.val (dx_assign rfl rfl) rfl rfl ?_
    refine WL.nil ?_
    refine hK12 ?_
    refine WC.ret fun a_ ha_ => ?_
    exact hQ (cv_ret1 rfl (.tmp rfl) rfl hB ha_)

theorem refUser_v (s : ByteArray) (w : World) : CV Tryz.prog 45 [.string s] w fun v W => v = .bool (userB s) := by
  by_cases h : 255 < s.size
  · have e : userB s = false := by
      have hl := sb_length s
      unfold userB
      rw [userL, namedL, decide_eq_false (by omega)]
      rfl
    rw [e]
    exact refUserBig_v s w [] (LL.nil _) h
  · exact (ref_user_any s w (by omega)).mono fun e w' ⟨h1, h2⟩ => ⟨_, h1, rfl, h2⟩
end Go.Proofs.YthefddclefimoaaGreatDoor
namespace Go.Proofs.YthefddclefimoaaGreatDoor
open Go.RowKit
set_option linter.unusedVariables false

/-- A text, cut at both ends. -/
theorem run_str_slice {P : Program} (t : TypeId) (ht : P.underlying t = some .string) (L : ByteArray) (lo hi : Int) (h0 : 0 ≤ lo) (h1 : lo ≤ hi) (h2 : hi ≤ L.size) (w : World) :
    (Instr.sliceAt t (.string L) (some (.int .i64 lo)) (some (.int .i64 hi)) none).run P w = .ok (.string (L.extract lo.toNat hi.toNat)) w := by
  obtain ⟨a, rfl⟩ := Int.eq_ofNat_of_zero_le h0
  obtain ⟨b, rfl⟩ := Int.eq_ofNat_of_zero_le (Int.le_trans h0 h1)
  have e1 : a ≤ b := by omega
  have e2 : b ≤ L.size := by omega
  rw [run_sliceAt_string w t _ _ _ _ ht]
  simp [Instr.slice, run_underlying ht, Instr.sliceBounds, run_sliceBound, *]
theorem slice_one (s : ByteArray) (k : Nat) (h : k + 1 ≤ s.size) (w : World) :
    (Instr.slice 9 (.string s) (some (.int .i64 (k : Int))) (some (.int .i64 ((k : Int) + 1))) none).run Tryz.prog w = .ok (.string (s.extract k (k + 1))) w := by
  have h1 := run_str_slice (P := Tryz.prog) 9 Tryz.underlying9 s (k : Int) ((k : Int) + 1) (by omega) (by omega) (by omega) w
  rw [run_sliceAt_string w 9 _ _ _ _ Tryz.underlying9] at h1
  rw [h1]
  congr 2
end Go.Proofs.YthefddclefimoaaGreatDoor
namespace Go.Proofs.YthefddclefimoaaGreatDoor
open Go.RowKit
set_option linter.unusedVariables false

set_option maxHeartbeats 4000000 in
theorem ref_phone_empty (s : ByteArray) (w : World) (hs : s.size ≤ 140737488355328)
    (hcountry : ∀ w, Calls Tryz.prog 142 #[.string ⟨#[]⟩] w fun e w' => e = .returned (.tuple #[.string ⟨#[]⟩, .bool false, .bool true]) ∧ w = w') :
    Calls Tryz.prog 125 #[.string ⟨#[]⟩, .string s] w (PhonePost (phoneS [] false false (sb s)) w.heap.size w) := by
  have HL := Lib.hid (sb_length s)
  go_enter Tryz.func125, Tryz.ntmps125
  go_wp2_with fail
  refine (hcountry w).mono ?_
  rintro e w' ⟨rfl, rfl⟩
  go_wp2
  go_loop [9, 10, 11, 12, 30, 44, 55] (fun t pl i _ _ _ _ => ∃ (k : Nat) (d : List Int) (p : Bool), k ≤ s.size ∧ i = .int .i64 k ∧ pl = .bool p ∧ t = .string (strOfNums d) ∧ dialS ((sb s).take k) = some (d, p) ∧ d.length ≤ k) (fun _ _ i _ _ _ _ => s.size - (intOf i).toNat)
  case atStart => exact ⟨0, [], false, Nat.zero_le _, rfl, rfl, rfl, rfl, by simp⟩
  case round =>
    obtain ⟨k, d, p, hk, rfl, rfl, rfl, hdial, hdl⟩ := hrel
    have HDI := Lib.hid hdial; clear hdial
    have hds : (strOfNums d).size ≤ 140737488355328 := by rw [strOfNums_size]; omega
    by_cases hlt : k < s.size
    · have hlk : k < (sb s).length := by have := HL.out; omega
      have hat := at0_sb s k hlt
      have HA := Lib.hid hat; clear hat
      have c0 := (s[k]'hlt).toNat_lt
      have hsucc := dial_succ (sb s) k hlk
      have hstop := dial_stop (sb s) k hlk
      rw [HDI.out, HA.out] at hsucc hstop
      have hex : sb (s.extract k (k + 1)) = [at0 (sb s) k] := by
        rw [sb_extract, List.take_add_one, List.getElem?_eq_getElem hlk, List.drop_append_of_le_length (by simp; omega), List.drop_of_length_le (by rw [List.length_take]; omega), ← at0_lt hlk]; rfl
      rw [HA.out] at hex
      generalize hcc : ((s[k]'hlt).toNat : Int) = c at *
      have hc0 : 0 ≤ c := by omega
      have hc255 : c ≤ 255 := by omega
      have hb1 : Bytes [c] := fun x hx => by simp at hx; omega
      have hnew : strOfNums d ++ s.extract k (k + 1) = strOfNums (d ++ [c]) := by
        rw [show s.extract k (k + 1) = strOfNums [c] from sb_inj (hex.trans (sb_strOf hb1).symm), strOf_append]
      have hxs : (s.extract k (k + 1)).size ≤ 1 := by rw [← sb_length, hex]; simp
      by_cases h1 : digI c = true
      · have e : dialStep (some (d, p)) c = some (d ++ [c], p) := by simp [dialStep, h1]
        have HN := Lib.hid (hsucc.trans e)
        simp only [digI, Bool.and_eq_true, decide_eq_true_eq] at h1
        obtain ⟨q1, q2⟩ := h1
        have HW := Lib.hid hnew
        have hks : (k : Int) + 1 ≤ s.size := by omega
        have hsl := slice_one s k (by omega)
        clear hsucc hstop e hex hb1 hnew
        go_wp2
        refine ⟨⟨k + 1, d ++ [c], p, by omega, by go_num, rfl, by rw [← HW.out], HN.out, by simp; omega⟩, by simp [intOf]; omega⟩
      have h1' : digI c = false := by simpa using h1
      by_cases h2 : c = 43
      · subst h2
        clear h1 hnew hxs hex hb1 c0
        by_cases hd0 : d = [] ∧ p = false
        · obtain ⟨rfl, rfl⟩ := hd0
          have e : dialStep (some ([], false)) 43 = some ([], true) := by decide
          have HN := Lib.hid (hsucc.trans e)
          clear hsucc hstop e h1'
          have hemp : (strOfNums []) = ⟨#[]⟩ := rfl
          rw [hemp]
          clear hemp
          go_wp2
          exact ⟨⟨k + 1, [], true, by omega, by go_num, rfl, rfl, HN.out, by simp⟩, by simp [intOf]; omega⟩
        · have e : dialStep (some (d, p)) 43 = none := by
            cases d with
            | nil =>
              cases p
              · exact (hd0 ⟨rfl, rfl⟩).elim
              · decide
            | cons x r => simp [dialStep, digI]
          have HN := Lib.hid (show phoneS [] false false (sb s) = none by rw [phoneS, hstop e])
          clear hsucc hstop e h1'
          cases d with
          | nil =>
            cases p
            · exact (hd0 ⟨rfl, rfl⟩).elim
            · clear hd0
              have hemp : (strOfNums []) = ⟨#[]⟩ := rfl
              rw [hemp]
              clear hemp
              go_wp2
              go_ret2
              exact .inr ⟨HN.out, rfl, Below.refl _ _⟩
          | cons x r =>
            clear hd0
            have hne : (strOfNums (x :: r)).toList.isEmpty = false := by rw [ByteArray.toList_eq]; rfl
            have hne2 : ((strOfNums (x :: r)).toList == []) = false := by rw [ByteArray.toList_eq]; rfl
            go_wp2
            go_ret2
            exact .inr ⟨HN.out, rfl, Below.refl _ _⟩
      have h2' : (c == 43) = false := beq_eq_false_iff_ne.2 h2
      cases h3 : sepI c
      · have e : dialStep (some (d, p)) c = none := by simp [dialStep, h1', h2', h3]
        have HN := Lib.hid (show phoneS [] false false (sb s) = none by rw [phoneS, hstop e])
        have n32 : (c == 32) = false := by rw [beq_eq_false_iff_ne]; rintro rfl; cases h3
        have n45 : (c == 45) = false := by rw [beq_eq_false_iff_ne]; rintro rfl; cases h3
        have n46 : (c == 46) = false := by rw [beq_eq_false_iff_ne]; rintro rfl; cases h3
        have n40 : (c == 40) = false := by rw [beq_eq_false_iff_ne]; rintro rfl; cases h3
        have n41 : (c == 41) = false := by rw [beq_eq_false_iff_ne]; rintro rfl; cases h3
        simp only [digI, Bool.and_eq_false_iff, decide_eq_false_iff_not] at h1'
        by_cases q1 : 48 ≤ c
        · have q2 : 57 < c := by omega
          clear hsucc hstop e hex hb1 hnew hxs h1 h2 h3 h1'
          go_wp2
          go_ret2
          exact .inr ⟨HN.out, rfl, Below.refl _ _⟩
        · clear hsucc hstop e hex hb1 hnew hxs h1 h2 h3 h1'
          go_wp2
          go_ret2
          exact .inr ⟨HN.out, rfl, Below.refl _ _⟩
      · have e : dialStep (some (d, p)) c = some (d, p) := by simp [dialStep, h1', h2', h3]
        have HN := Lib.hid (hsucc.trans e)
        have h5 : c = 32 ∨ c = 45 ∨ c = 46 ∨ c = 40 ∨ c = 41 := by simpa [sepI] using h3
        clear hsucc hstop e hex hb1 hnew hxs h1 h2 h3 h1' h2'
        rcases h5 with rfl | rfl | rfl | rfl | rfl
        all_goals go_wp2
        all_goals exact ⟨⟨k + 1, d, p, by omega, by go_num, rfl, rfl, HN.out, by omega⟩, by simp [intOf]; omega⟩
    · have h := HDI.out
      rw [List.take_of_length_le (by have := HL.out; omega)] at h
      obtain ⟨-, hda⟩ := dial_digits h
      have HF := Lib.hid (show phoneS [] false false (sb s) = if okLen (fullS [] false false d p) then some (fullS [] false false d p) else none by rw [phoneS, h])
      have hdb := bytes_digits hda
      clear h hda
      cases p
      · have HFB := Lib.hid (show Bytes (fullS [] false false d false) from hdb)
        have hXV : strOfNums d = strOfNums (fullS [] false false d false) := rfl
        generalize strOfNums d = X at *
        have HXV := Lib.hid hXV
        have HXS := Lib.hid (show sb X = fullS [] false false d false by rw [hXV]; exact sb_strOf HFB.out)
        have HXL := Lib.hid (show X.size = (fullS [] false false d false).length by rw [hXV, strOfNums_size])
        clear hXV hdb
        by_cases h6 : X.size < 6
        · have HN := Lib.hid (show phoneS [] false false (sb s) = none by
            rw [HF.out, if_neg]
            intro h
            have h1 := (okLen_parts _).1 h
            rw [← HXL.out] at h1
            omega)
          go_wp2
          go_ret2
          exact .inr ⟨HN.out, rfl, Below.refl _ _⟩
        by_cases h15 : 15 < X.size
        · have HN := Lib.hid (show phoneS [] false false (sb s) = none by
            rw [HF.out, if_neg]
            intro h
            have h1 := (okLen_parts _).1 h
            rw [← HXL.out] at h1
            omega)
          go_wp2
          go_ret2
          exact .inr ⟨HN.out, rfl, Below.refl _ _⟩
        have hx0 : 0 < X.size := by omega
        have hat := at0_sb X 0 hx0
        rw [HXS.out] at hat
        by_cases h48 : at0 (fullS [] false false d false) 0 = 48
        · have HN := Lib.hid (show phoneS [] false false (sb s) = none by
            rw [HF.out, if_neg]
            intro h
            exact ((okLen_parts _).1 h).2.2 h48)
          have hb : (((X[0]'hx0).toNat : Int) == 48) = true := by rw [← hat, h48]; rfl
          clear hat h48
          go_wp2
          go_ret2
          exact .inr ⟨HN.out, rfl, Below.refl _ _⟩
        · have HN := Lib.hid (show phoneS [] false false (sb s) = some (fullS [] false false d false) by
            rw [HF.out, if_pos]
            refine (okLen_parts _).2 ⟨?_, ?_, h48⟩
            · rw [← HXL.out]; omega
            · rw [← HXL.out]; omega)
          have hb : (((X[0]'hx0).toNat : Int) == 48) = false := by rw [← hat, beq_eq_false_iff_ne]; exact h48
          clear hat h48
          go_wp2
          go_ret2
          exact .inl ⟨_, HN.out, by rw [← HXV.out]; rfl, Below.refl _ _⟩
      · have HFB := Lib.hid (show Bytes (fullS [] false false d true) from hdb)
        have hXV : strOfNums d = strOfNums (fullS [] false false d true) := rfl
        generalize strOfNums d = X at *
        have HXV := Lib.hid hXV
        have HXS := Lib.hid (show sb X = fullS [] false false d true by rw [hXV]; exact sb_strOf HFB.out)
        have HXL := Lib.hid (show X.size = (fullS [] false false d true).length by rw [hXV, strOfNums_size])
        clear hXV hdb
        by_cases h6 : X.size < 6
        · have HN := Lib.hid (show phoneS [] false false (sb s) = none by
            rw [HF.out, if_neg]
            intro h
            have h1 := (okLen_parts _).1 h
            rw [← HXL.out] at h1
            omega)
          go_wp2
          go_ret2
          exact .inr ⟨HN.out, rfl, Below.refl _ _⟩
        by_cases h15 : 15 < X.size
        · have HN := Lib.hid (show phoneS [] false false (sb s) = none by
            rw [HF.out, if_neg]
            intro h
            have h1 := (okLen_parts _).1 h
            rw [← HXL.out] at h1
            omega)
          go_wp2
          go_ret2
          exact .inr ⟨HN.out, rfl, Below.refl _ _⟩
        have hx0 : 0 < X.size := by omega
        have hat := at0_sb X 0 hx0
        rw [HXS.out] at hat
        by_cases h48 : at0 (fullS [] false false d true) 0 = 48
        · have HN := Lib.hid (show phoneS [] false false (sb s) = none by
            rw [HF.out, if_neg]
            intro h
            exact ((okLen_parts _).1 h).2.2 h48)
          have hb : (((X[0]'hx0).toNat : Int) == 48) = true := by rw [← hat, h48]; rfl
          clear hat h48
          go_wp2
          go_ret2
          exact .inr ⟨HN.out, rfl, Below.refl _ _⟩
        · have HN := Lib.hid (show phoneS [] false false (sb s) = some (fullS [] false false d true) by
            rw [HF.out, if_pos]
            refine (okLen_parts _).2 ⟨?_, ?_, h48⟩
            · rw [← HXL.out]; omega
            · rw [← HXL.out]; omega)
          have hb : (((X[0]'hx0).toNat : Int) == 48) = false := by rw [← hat, beq_eq_false_iff_ne]; exact h48
          clear hat h48
          go_wp2
          go_ret2
          exact .inl ⟨_, HN.out, by rw [← HXV.out]; rfl, Below.refl _ _⟩
end Go.Proofs.YthefddclefimoaaGreatDoor
namespace Go.Proofs.YthefddclefimoaaGreatDoor
open Go.RowKit
set_option linter.unusedVariables false

theorem country_empty (w : World) : Calls Tryz.prog 142 #[.string ⟨#[]⟩] w fun e w' => e = .returned (.tuple #[.string ⟨#[]⟩, .bool false, .bool true]) ∧ w = w' := by
  go_enter Tryz.func142, Tryz.ntmps142
  go_wp2
  go_ret3
  exact ⟨rfl, rfl⟩
theorem list_ne {a b : ByteArray} (h : a ≠ b) : (a.toList == b.toList) = false := str_eq_no h
theorem nonempty_str {a : ByteArray} (h : a ≠ ⟨#[]⟩) : a.toList.isEmpty = false ∧ (a.toList == []) = false := by
  have hb0 : a.toList.isEmpty = false := by
    rw [ByteArray.toList_eq]
    cases hq : a.data.toList with
    | nil =>
      exfalso; apply h
      apply sb_inj
      simp [sb, hq]
    | cons x r => rfl
  refine ⟨hb0, ?_⟩
  cases hq : a.toList with
  | nil => rw [hq] at hb0; cases hb0
  | cons x r => rfl
/-- Both phones answer alike. -/
def Alike (land s : ByteArray) : Prop := ∃ V : Value, (∃ (x : ByteArray) (n : Int), V = .tuple #[.string x, .int .i64 n]) ∧ (∀ w, Calls Tryz.prog 122 #[.string land, .string s] w fun e w' => e = .returned V ∧ Below w.heap.size w w') ∧ (∀ w, Calls Tryz.prog 125 #[.string land, .string s] w fun e w' => e = .returned V ∧ Below w.heap.size w w')
end Go.Proofs.YthefddclefimoaaGreatDoor
namespace Go.Proofs.YthefddclefimoaaGreatDoor
open Go.RowKit
set_option linter.unusedVariables false

def hasI (l : List Int) (c : Int) : Bool := l.contains c
theorem ref_has_any (s : ByteArray) (c : Int) (w : World) (hs : s.size ≤ maxLen) :
    Calls Tryz.prog 140 #[.string s, .int .u8 c] w fun e w' => e = .returned (.bool (hasI (sb s) c)) ∧ w = w' := by
  unfold maxLen at hs
  have HL := Lib.hid (sb_length s)
  go_enter Tryz.func140, Tryz.ntmps140
  go_wp2
  go_loop [5] (fun i => ∃ k : Nat, k ≤ s.size ∧ i = .int .i64 k ∧ ((sb s).take k).all (fun x => !(x == c)) = true) (fun i => s.size - (intOf i).toNat)
  case atStart => exact ⟨0, Nat.zero_le _, rfl, rfl⟩
  case round =>
    obtain ⟨k, hk, rfl, hall⟩ := hrel
    have H := Lib.hid hall; clear hall
    by_cases hlt : k < s.size
    · have hlk : k < (sb s).length := by have := HL.out; omega
      have hat := at0_sb s k hlt
      have HA := Lib.hid hat; clear hat
      by_cases hc : at0 (sb s) k = c
      · have hb : (((s[k]'hlt).toNat : Int) == c) = true := by rw [← HA.out, hc]; simp
        have HC := Lib.hid (show hasI (sb s) c = true by rw [hasI, List.contains_iff_mem, ← hc]; exact at0_mem hlk)
        clear hc
        go_wp2
        go_ret
        refine ⟨?_, rfl⟩
        rw [HC.out]; rfl
      · have hb : (((s[k]'hlt).toNat : Int) == c) = false := by rw [← HA.out, beq_eq_false_iff_ne]; exact hc
        have HC := Lib.hid hc; clear hc
        go_wp2
        go_round
        case rel =>
          refine ⟨k + 1, by omega, by go_num, ?_⟩
          rw [List.take_add_one, List.getElem?_eq_getElem hlk, List.all_append, H.out, Option.toList_some, ← at0_lt hlk]
          simp [HC.out]
        case measure => simp [intOf]; omega
    · go_wp2
      go_ret
      refine ⟨?_, rfl⟩
      have h := H.out
      rw [List.take_of_length_le (by have := HL.out; omega)] at h
      have : hasI (sb s) c = false := by
        unfold hasI
        cases hq : (sb s).contains c
        · rfl
        · rw [List.contains_iff_mem] at hq
          have := List.all_eq_true.1 h c hq
          simp at this
      rw [this]; rfl
theorem ref_has_is (s : ByteArray) (c : Int) (b : Bool) (w : World) (hs : s.size ≤ maxLen) (h : (sb s).contains c = b) :
    Calls Tryz.prog 140 #[.string s, .int .u8 c] w fun e w' => e = .returned (.bool b) ∧ w = w' := by rw [← h]; exact ref_has_any s c w hs

def sgsI (c : Int) : Bool := [33, 35, 36, 37, 38, 39, 42, 43, 47, 61, 63, 94, 95, 96, 123, 124, 125, 126, 45].contains c
def alnI (c : Int) : Bool := smlI c || grtI c || digI c
/-- May this byte stand in this place of a local part? -/
def lokB (l : List Int) (i : Nat) : Bool := if at0 l i = 46 then decide (0 < i) && (decide (i + 1 < l.length) && !(at0 l (i - 1) == 46)) else alnI (at0 l i) || sgsI (at0 l i)
theorem lsg_split (c : Int) : lsgI c = (c == 46 || sgsI c) := by
  simp only [lsgI, sgsI, List.contains_cons]
theorem local_iff (l : List Int) (h1 : 1 ≤ l.length) (h2 : l.length ≤ 64) : localL l = true ↔ ∀ i, i < l.length → lokB l i = true := by
  have hm : madeI l 64 locI = l.all locI := made_yes l 64 locI h1 (by omega)
  rw [localL, hm, pedgesI, head_at l (by omega), last_at l (by omega)]
  simp only [Bool.and_eq_true, List.all_eq_true, Bool.not_eq_true', Option.any_some]
  have hloc : ∀ c : Int, locI c = (c == 46 || (alnI c || sgsI c)) := fun c => by
    rw [locI, lsg_split, alnI]
    cases digI c <;> cases smlI c <;> cases grtI c <;> cases (c == 46) <;> cases sgsI c <;> rfl
  constructor
  · rintro ⟨ha, hd, h0, hl⟩ i hi
    have hc := ha _ (at0_mem hi)
    rw [hloc] at hc
    unfold lokB
    by_cases e : at0 l i = 46
    · rw [if_pos e]
      have hi0 : i ≠ 0 := by rintro rfl; rw [e] at h0; cases h0
      have hil : i + 1 ≠ l.length := by
        intro e2
        rw [show l.length - 1 = i by omega, e] at hl; cases hl
      have hp : at0 l (i - 1) ≠ 46 := by
        intro e2
        have : dotsI l = true := (dots_iff l).2 ⟨i - 1, by omega, e2, by rw [show i - 1 + 1 = i by omega]; exact e⟩
        rw [this] at hd; cases hd
      simp [hp]; omega
    · rw [if_neg e]
      have : (at0 l i == 46) = false := beq_eq_false_iff_ne.2 e
      rw [this] at hc
      simpa using hc
  · intro h
    have key : ∀ i, i < l.length → locI (at0 l i) = true ∧ (at0 l i = 46 → 0 < i ∧ i + 1 < l.length ∧ at0 l (i - 1) ≠ 46) := by
      intro i hi
      have := h i hi
      unfold lokB at this
      by_cases e : at0 l i = 46
      · rw [if_pos e] at this
        simp only [Bool.and_eq_true, decide_eq_true_eq, Bool.not_eq_true', beq_eq_false_iff_ne] at this
        refine ⟨?_, fun _ => ⟨this.1, this.2.1, this.2.2⟩⟩
        rw [hloc, e]; rfl
      · rw [if_neg e] at this
        refine ⟨?_, fun q => (e q).elim⟩
        rw [hloc, this]; simp
    refine ⟨fun x hx => ?_, ?_, ?_, ?_⟩
    · obtain ⟨j, hj, rfl⟩ := List.getElem_of_mem hx
      rw [← at0_lt hj]; exact (key j hj).1
    · cases hd : dotsI l
      · rfl
      · obtain ⟨j, j1, j2, j3⟩ := (dots_iff l).1 hd
        have := (key (j + 1) j1).2 j3
        exact (this.2.2 (by simpa using j2)).elim
    · cases hs : dotI (at0 l 0)
      · rfl
      · have := (key 0 (by omega)).2 (by simpa [dotI] using hs); omega
    · cases hs : dotI (at0 l (l.length - 1))
      · rfl
      · have := (key (l.length - 1) (by omega)).2 (by simpa [dotI] using hs); omega
/-- The first so many signs. -/
def sgl : List Int := sb ⟨#[33, 35, 36, 37, 38, 39, 42, 43, 47, 61, 63, 94, 95, 96, 123, 124, 125, 126, 45]⟩
theorem sgl_len : sgl.length = 19 := by decide
theorem sgl_all (c : Int) : (sgl.take 19).any (· == c) = sgsI c := by
  have : sgl.take 19 = [33, 35, 36, 37, 38, 39, 42, 43, 47, 61, 63, 94, 95, 96, 123, 124, 125, 126, 45] := by decide
  rw [this, sgsI, ← List.any_beq]
  simp only [List.any_cons, List.any_nil]
  have e : ∀ x : Int, (x == c) = (c == x) := fun x => Bool.beq_comm
  simp only [e]
theorem sgl_succ (c : Int) (k : Nat) (hk : k < 19) : (sgl.take (k + 1)).any (· == c) = ((sgl.take k).any (· == c) || (at0 sgl k == c)) := by
  have hl : k < sgl.length := by rw [sgl_len]; exact hk
  rw [List.take_add_one, List.getElem?_eq_getElem hl, List.any_append, Option.toList_some, ← at0_lt hl]
  simp
end Go.Proofs.YthefddclefimoaaGreatDoor
namespace Go.Proofs.YthefddclefimoaaGreatDoor
open Go.RowKit
set_option linter.unusedVariables false

theorem idx_sgl (n : Nat) (h : n < 19) (w : World) :
    (Instr.index 9 (.string ⟨#[33, 35, 36, 37, 38, 39, 42, 43, 47, 61, 63, 94, 95, 96, 123, 124, 125, 126, 45]⟩) (.int .i64 (n : Int))).run Tryz.prog w = .ok (.int .u8 (at0 sgl n)) w := by
  have hk : n < (⟨#[33, 35, 36, 37, 38, 39, 42, 43, 47, 61, 63, 94, 95, 96, 123, 124, 125, 126, 45]⟩ : ByteArray).size := h
  rw [sgl, at0_sb _ n hk]
  simp [Instr.index, run_underlying Tryz.underlying9, asIntOf, hk]
theorem lok_alnum {l : List Int} {k : Nat} (h : alnI (at0 l k) = true) (hne : at0 l k ≠ 46) : lokB l k = true := by rw [lokB, if_neg hne, h]; rfl
theorem lok_sign {l : List Int} {k : Nat} {b : Bool} (h : alnI (at0 l k) = false) (hne : at0 l k ≠ 46) (hs : sgsI (at0 l k) = b) : lokB l k = b := by rw [lokB, if_neg hne, h, hs]; rfl
set_option maxHeartbeats 4000000 in
theorem ref_local_any (s : ByteArray) (w : World) (hs : s.size ≤ maxLen) :
    Calls Tryz.prog 139 #[.string s] w fun e w' => e = .returned (.bool (localL (sb s))) ∧ w = w' := by
  unfold maxLen at hs
  have hl := sb_length s
  by_cases g1 : (s.size : Int) < 1
  · have HF := Lib.hid (show localL (sb s) = false by rw [localL, made_no _ _ _ (by omega)]; rfl)
    clear hl
    go_enter Tryz.func139, Tryz.ntmps139
    go_wp2
    go_ret
    exact ⟨by rw [HF.out]; rfl, rfl⟩
  by_cases g2 : (64 : Int) < (s.size : Int)
  · have HF := Lib.hid (show localL (sb s) = false by rw [localL, made_no _ _ _ (by omega)]; rfl)
    clear hl
    go_enter Tryz.func139, Tryz.ntmps139
    go_wp2
    go_ret
    exact ⟨by rw [HF.out]; rfl, rfl⟩
  have HI := Lib.hid (local_iff (sb s) (by omega) (by omega))
  have HL := Lib.hid hl; clear hl
  go_enter Tryz.func139, Tryz.ntmps139
  go_wp2
  have hsg1 : sb (⟨#[33, 35, 36, 37, 38, 39, 42, 43, 47, 61, 63, 94, 95, 96, 123, 124, 125, 126, 45]⟩ : ByteArray) = sgl := rfl
  have hsg2 : ((⟨#[33, 35, 36, 37, 38, 39, 42, 43, 47, 61, 63, 94, 95, 96, 123, 124, 125, 126, 45]⟩ : ByteArray)).size = 19 := rfl
  generalize (⟨#[33, 35, 36, 37, 38, 39, 42, 43, 47, 61, 63, 94, 95, 96, 123, 124, 125, 126, 45]⟩ : ByteArray) = SG at *
  have HG1 := Lib.hid hsg1
  have HG2 := Lib.hid hsg2
  have hsgl : SG.size ≤ 19 := by omega
  clear hsg1 hsg2
  go_loop [4, 5, 6, 7] (fun i _ _ _ => ∃ k : Nat, k ≤ s.size ∧ i = .int .i64 k ∧ ∀ j, j < k → lokB (sb s) j = true) (fun i _ _ _ => s.size - (intOf i).toNat)
  case atStart => exact ⟨0, Nat.zero_le _, rfl, fun j h => by omega⟩
  case round =>
    obtain ⟨k, hk, rfl, hall⟩ := hrel
    have H := Lib.hid hall; clear hall
    by_cases hlt : k < s.size
    · have hlk : k < (sb s).length := by have := HL.out; omega
      have hat := at0_sb s k hlt
      have HA := Lib.hid hat; clear hat
      have c0 := (s[k]'hlt).toNat_lt
      have hA := HA.out
      generalize hcc : ((s[k]'hlt).toNat : Int) = c at *
      have hc0 : 0 ≤ c := by omega
      have hc255 : c ≤ 255 := by omega
      by_cases h46 : c = 46
      · have hA46 : at0 (sb s) k = 46 := by rw [hA, h46]
        have hlokd : lokB (sb s) k = (decide (0 < k) && (decide (k + 1 < (sb s).length) && !(at0 (sb s) (k - 1) == 46))) := by rw [lokB, if_pos hA46]
        have HLD := Lib.hid hlokd
        have hc46 : (c == 46) = true := by rw [h46]; rfl
        have hclt : c < 48 := by omega
        have HC := Lib.hid h46
        clear h46 hA hA46 hlokd
        by_cases q0 : k = 0
        · have hk0 : ¬ 0 < k := by omega
          have Q := Lib.hid q0; clear q0
          have HK := Lib.hid (show lokB (sb s) k = false by rw [HLD.out, Q.out]; rfl)
          go_wp2
          go_loop [6, 7] (fun ok j => ∃ n : Nat, n ≤ SG.size ∧ j = .int .i64 n ∧ ok = .bool ((sgl.take n).any (· == c))) (fun _ j => SG.size - (intOf j).toNat)
          case atStart => exact ⟨0, Nat.zero_le _, rfl, rfl⟩
          case round =>
            obtain ⟨n, hn, rfl, rfl⟩ := hrel
            by_cases hn2 : n < SG.size
            · have hsu := sgl_succ c n (by omega)
              have hix := at0_sb SG n hn2
              rw [HG1.out] at hix
              rw [hix] at hsu
              have HSU := Lib.hid hsu; clear hsu hix
              generalize hq : (sgl.take n).any (· == c) = q at *
              have HQ := Lib.hid hq; clear hq
              cases q
              · go_wp2
                exact ⟨⟨n + 1, by omega, by go_num, by rw [HSU.out]; rfl⟩, by simp [intOf]; omega⟩
              · go_wp2
                exact ⟨⟨n + 1, by omega, by go_num, by rw [HSU.out]; rfl⟩, by simp [intOf]; omega⟩
            · obtain rfl : n = SG.size := by omega
              clear hn hn2
              go_wp2
              go_ret
              refine ⟨?_, rfl⟩
              have : localL (sb s) = false := by
                cases h : localL (sb s)
                · rfl
                · have := HI.out.1 h k hlk; rw [HK.out] at this; cases this
              rw [this]; rfl
        by_cases q1 : k + 1 = s.size
        · have hk0 : 0 < k := by omega
          have hk1 : ¬ (k : Int) < (s.size : Int) - 1 := by omega
          have HK := Lib.hid (show lokB (sb s) k = false by rw [HLD.out, decide_eq_false (show ¬ k + 1 < (sb s).length by have := HL.out; omega)]; simp)
          go_wp2
          go_loop [6, 7] (fun ok j => ∃ n : Nat, n ≤ SG.size ∧ j = .int .i64 n ∧ ok = .bool ((sgl.take n).any (· == c))) (fun _ j => SG.size - (intOf j).toNat)
          case atStart => exact ⟨0, Nat.zero_le _, rfl, rfl⟩
          case round =>
            obtain ⟨n, hn, rfl, rfl⟩ := hrel
            by_cases hn2 : n < SG.size
            · have hsu := sgl_succ c n (by omega)
              have hix := at0_sb SG n hn2
              rw [HG1.out] at hix
              rw [hix] at hsu
              have HSU := Lib.hid hsu; clear hsu hix
              generalize hq : (sgl.take n).any (· == c) = q at *
              have HQ := Lib.hid hq; clear hq
              cases q
              · go_wp2
                exact ⟨⟨n + 1, by omega, by go_num, by rw [HSU.out]; rfl⟩, by simp [intOf]; omega⟩
              · go_wp2
                exact ⟨⟨n + 1, by omega, by go_num, by rw [HSU.out]; rfl⟩, by simp [intOf]; omega⟩
            · obtain rfl : n = SG.size := by omega
              clear hn hn2
              go_wp2
              go_ret
              refine ⟨?_, rfl⟩
              have : localL (sb s) = false := by
                cases h : localL (sb s)
                · rfl
                · have := HI.out.1 h k hlk; rw [HK.out] at this; cases this
              rw [this]; rfl
        have hp := at0_sb s (k - 1) (by omega)
        have HP := Lib.hid hp; clear hp
        have hk0 : 0 < k := by omega
        have hk1 : (k : Int) < (s.size : Int) - 1 := by omega
        have hi1 : (1 : Int) ≤ k := by omega
        have hi2 : (k : Int) - 1 < s.size := by omega
        have hi3 : ((k : Int) - 1).toNat = k - 1 := by omega
        by_cases q2 : at0 (sb s) (k - 1) = 46
        · have hb9 : (((s[k - 1]'(by omega)).toNat : Int) != 46) = false := by rw [← HP.out, q2]; rfl
          have Q2 := Lib.hid q2
          have HK := Lib.hid (show lokB (sb s) k = false by rw [HLD.out, Q2.out]; simp)
          go_wp2
          go_loop [6, 7] (fun ok j => ∃ n : Nat, n ≤ SG.size ∧ j = .int .i64 n ∧ ok = .bool ((sgl.take n).any (· == c))) (fun _ j => SG.size - (intOf j).toNat)
          case atStart => exact ⟨0, Nat.zero_le _, rfl, rfl⟩
          case round =>
            obtain ⟨n, hn, rfl, rfl⟩ := hrel
            by_cases hn2 : n < SG.size
            · have hsu := sgl_succ c n (by omega)
              have hix := at0_sb SG n hn2
              rw [HG1.out] at hix
              rw [hix] at hsu
              have HSU := Lib.hid hsu; clear hsu hix
              generalize hq : (sgl.take n).any (· == c) = q at *
              have HQ := Lib.hid hq; clear hq
              cases q
              · go_wp2
                exact ⟨⟨n + 1, by omega, by go_num, by rw [HSU.out]; rfl⟩, by simp [intOf]; omega⟩
              · go_wp2
                exact ⟨⟨n + 1, by omega, by go_num, by rw [HSU.out]; rfl⟩, by simp [intOf]; omega⟩
            · obtain rfl : n = SG.size := by omega
              clear hn hn2
              go_wp2
              go_ret
              refine ⟨?_, rfl⟩
              have : localL (sb s) = false := by
                cases h : localL (sb s)
                · rfl
                · have := HI.out.1 h k hlk; rw [HK.out] at this; cases this
              rw [this]; rfl
        · have hb9 : (((s[k - 1]'(by omega)).toNat : Int) != 46) = true := by rw [← HP.out, bne_iff_ne]; exact q2
          have Q2 := Lib.hid q2
          have HK := Lib.hid (show lokB (sb s) k = true by have hl9 := HL.out; rw [HLD.out, decide_eq_true (show 0 < k by omega), decide_eq_true (show k + 1 < (sb s).length by omega), beq_eq_false_iff_ne.2 Q2.out]; rfl)
          go_wp2
          go_loop [6, 7] (fun ok j => ∃ n : Nat, n ≤ SG.size ∧ j = .int .i64 n ∧ ok = .bool ((sgl.take n).any (· == c))) (fun _ j => SG.size - (intOf j).toNat)
          case atStart => exact ⟨0, Nat.zero_le _, rfl, rfl⟩
          case round =>
            obtain ⟨n, hn, rfl, rfl⟩ := hrel
            by_cases hn2 : n < SG.size
            · have hsu := sgl_succ c n (by omega)
              have hix := at0_sb SG n hn2
              rw [HG1.out] at hix
              rw [hix] at hsu
              have HSU := Lib.hid hsu; clear hsu hix
              generalize hq : (sgl.take n).any (· == c) = q at *
              have HQ := Lib.hid hq; clear hq
              cases q
              · go_wp2
                exact ⟨⟨n + 1, by omega, by go_num, by rw [HSU.out]; rfl⟩, by simp [intOf]; omega⟩
              · go_wp2
                exact ⟨⟨n + 1, by omega, by go_num, by rw [HSU.out]; rfl⟩, by simp [intOf]; omega⟩
            · obtain rfl : n = SG.size := by omega
              clear hn hn2
              go_wp2
              refine ⟨⟨k + 1, by omega, by go_num, fun j hj => ?_⟩, by simp [intOf]; omega⟩
              rcases Nat.lt_or_ge j k with h | h
              · exact H.out j h
              · obtain rfl : j = k := by omega
                exact HK.out
      have hc46 : (c == 46) = false := beq_eq_false_iff_ne.2 h46
      have hAne : at0 (sb s) k ≠ 46 := by rw [hA]; exact h46
      by_cases r48 : 48 ≤ c ∧ c ≤ 57
      · obtain ⟨ra, rb⟩ := r48
        have HK := Lib.hid (lok_alnum (show alnI (at0 (sb s) k) = true by rw [hA]; simp only [alnI, smlI, grtI, digI, Bool.or_eq_true, Bool.and_eq_true, decide_eq_true_eq]; omega) hAne)
        clear h46 hA hAne
        go_wp2
        go_loop [6, 7] (fun ok j => ∃ n : Nat, n ≤ SG.size ∧ j = .int .i64 n ∧ ok = .bool true) (fun _ j => SG.size - (intOf j).toNat)
        case atStart => exact ⟨0, Nat.zero_le _, rfl, rfl⟩
        case round =>
          obtain ⟨n, hn, rfl, rfl⟩ := hrel
          by_cases hn2 : n < SG.size
          · go_wp2
            exact ⟨⟨n + 1, by omega, by go_num, rfl⟩, by simp [intOf]; omega⟩
          · obtain rfl : n = SG.size := by omega
            clear hn hn2
            go_wp2
            refine ⟨⟨k + 1, by omega, by go_num, fun j hj => ?_⟩, by simp [intOf]; omega⟩
            rcases Nat.lt_or_ge j k with h | h
            · exact H.out j h
            · obtain rfl : j = k := by omega
              exact HK.out
      by_cases r65 : 65 ≤ c ∧ c ≤ 90
      · obtain ⟨ra, rb⟩ := r65
        have HK := Lib.hid (lok_alnum (show alnI (at0 (sb s) k) = true by rw [hA]; simp only [alnI, smlI, grtI, digI, Bool.or_eq_true, Bool.and_eq_true, decide_eq_true_eq]; omega) hAne)
        clear h46 hA hAne
        go_wp2
        go_loop [6, 7] (fun ok j => ∃ n : Nat, n ≤ SG.size ∧ j = .int .i64 n ∧ ok = .bool true) (fun _ j => SG.size - (intOf j).toNat)
        case atStart => exact ⟨0, Nat.zero_le _, rfl, rfl⟩
        case round =>
          obtain ⟨n, hn, rfl, rfl⟩ := hrel
          by_cases hn2 : n < SG.size
          · go_wp2
            exact ⟨⟨n + 1, by omega, by go_num, rfl⟩, by simp [intOf]; omega⟩
          · obtain rfl : n = SG.size := by omega
            clear hn hn2
            go_wp2
            refine ⟨⟨k + 1, by omega, by go_num, fun j hj => ?_⟩, by simp [intOf]; omega⟩
            rcases Nat.lt_or_ge j k with h | h
            · exact H.out j h
            · obtain rfl : j = k := by omega
              exact HK.out
      by_cases r97 : 97 ≤ c ∧ c ≤ 122
      · obtain ⟨ra, rb⟩ := r97
        have HK := Lib.hid (lok_alnum (show alnI (at0 (sb s) k) = true by rw [hA]; simp only [alnI, smlI, grtI, digI, Bool.or_eq_true, Bool.and_eq_true, decide_eq_true_eq]; omega) hAne)
        clear h46 hA hAne
        go_wp2
        go_loop [6, 7] (fun ok j => ∃ n : Nat, n ≤ SG.size ∧ j = .int .i64 n ∧ ok = .bool true) (fun _ j => SG.size - (intOf j).toNat)
        case atStart => exact ⟨0, Nat.zero_le _, rfl, rfl⟩
        case round =>
          obtain ⟨n, hn, rfl, rfl⟩ := hrel
          by_cases hn2 : n < SG.size
          · go_wp2
            exact ⟨⟨n + 1, by omega, by go_num, rfl⟩, by simp [intOf]; omega⟩
          · obtain rfl : n = SG.size := by omega
            clear hn hn2
            go_wp2
            refine ⟨⟨k + 1, by omega, by go_num, fun j hj => ?_⟩, by simp [intOf]; omega⟩
            rcases Nat.lt_or_ge j k with h | h
            · exact H.out j h
            · obtain rfl : j = k := by omega
              exact HK.out
      have haln : alnI (at0 (sb s) k) = false := by
        rw [hA]
        cases hx : alnI c
        · rfl
        · simp only [alnI, smlI, grtI, digI, Bool.or_eq_true, Bool.and_eq_true, decide_eq_true_eq] at hx; omega
      have hsga := sgl_all c
      have hlokc := lok_sign haln hAne (b := sgsI c) (by rw [hA])
      rw [← hsga] at hlokc
      have HLC := Lib.hid hlokc
      have HX := Lib.hid (And.intro r48 (And.intro r65 r97))
      have hgap : c < 48 ∨ (57 < c ∧ c < 65) ∨ (90 < c ∧ c < 97) ∨ 122 < c := by omega
      clear h46 hA hAne haln hsga hlokc r48 r65 r97
      rcases hgap with y1 | ⟨y1, y2⟩ | ⟨y1, y2⟩ | y1
      · have y3 : c < 65 := by omega
        have y4 : c < 97 := by omega
        go_wp2
        go_loop [6, 7] (fun ok j => ∃ n : Nat, n ≤ SG.size ∧ j = .int .i64 n ∧ ok = .bool ((sgl.take n).any (· == c))) (fun _ j => SG.size - (intOf j).toNat)
        case atStart => exact ⟨0, Nat.zero_le _, rfl, rfl⟩
        case round =>
          obtain ⟨n, hn, rfl, rfl⟩ := hrel
          by_cases hn2 : n < SG.size
          · have hsu := sgl_succ c n (by omega)
            have hix := at0_sb SG n hn2
            rw [HG1.out] at hix
            rw [hix] at hsu
            have HSU := Lib.hid hsu; clear hsu hix
            generalize hq : (sgl.take n).any (· == c) = q at *
            have HQ := Lib.hid hq; clear hq
            cases q
            · go_wp2
              exact ⟨⟨n + 1, by omega, by go_num, by rw [HSU.out]; rfl⟩, by simp [intOf]; omega⟩
            · go_wp2
              exact ⟨⟨n + 1, by omega, by go_num, by rw [HSU.out]; rfl⟩, by simp [intOf]; omega⟩
          · obtain rfl : n = SG.size := by omega
            clear hn hn2
            rw [HG2.out]
            generalize hq : (sgl.take 19).any (· == c) = q at *
            have HQ := Lib.hid hq; clear hq
            cases q
            · have HK := Lib.hid HLC.out
              go_wp2
              go_ret
              refine ⟨?_, rfl⟩
              have : localL (sb s) = false := by
                cases h : localL (sb s)
                · rfl
                · have := HI.out.1 h k hlk; rw [HK.out] at this; cases this
              rw [this]; rfl
            · have HK := Lib.hid HLC.out
              go_wp2
              refine ⟨⟨k + 1, by omega, by go_num, fun j hj => ?_⟩, by simp [intOf]; omega⟩
              rcases Nat.lt_or_ge j k with h | h
              · exact H.out j h
              · obtain rfl : j = k := by omega
                exact HK.out
      · have y4 : c < 97 := by omega
        have y5 : decide (c ≤ 57) = false := by simp; omega
        go_wp2
        go_loop [6, 7] (fun ok j => ∃ n : Nat, n ≤ SG.size ∧ j = .int .i64 n ∧ ok = .bool ((sgl.take n).any (· == c))) (fun _ j => SG.size - (intOf j).toNat)
        case atStart => exact ⟨0, Nat.zero_le _, rfl, rfl⟩
        case round =>
          obtain ⟨n, hn, rfl, rfl⟩ := hrel
          by_cases hn2 : n < SG.size
          · have hsu := sgl_succ c n (by omega)
            have hix := at0_sb SG n hn2
            rw [HG1.out] at hix
            rw [hix] at hsu
            have HSU := Lib.hid hsu; clear hsu hix
            generalize hq : (sgl.take n).any (· == c) = q at *
            have HQ := Lib.hid hq; clear hq
            cases q
            · go_wp2
              exact ⟨⟨n + 1, by omega, by go_num, by rw [HSU.out]; rfl⟩, by simp [intOf]; omega⟩
            · go_wp2
              exact ⟨⟨n + 1, by omega, by go_num, by rw [HSU.out]; rfl⟩, by simp [intOf]; omega⟩
          · obtain rfl : n = SG.size := by omega
            clear hn hn2
            rw [HG2.out]
            generalize hq : (sgl.take 19).any (· == c) = q at *
            have HQ := Lib.hid hq; clear hq
            cases q
            · have HK := Lib.hid HLC.out
              go_wp2
              go_ret
              refine ⟨?_, rfl⟩
              have : localL (sb s) = false := by
                cases h : localL (sb s)
                · rfl
                · have := HI.out.1 h k hlk; rw [HK.out] at this; cases this
              rw [this]; rfl
            · have HK := Lib.hid HLC.out
              go_wp2
              refine ⟨⟨k + 1, by omega, by go_num, fun j hj => ?_⟩, by simp [intOf]; omega⟩
              rcases Nat.lt_or_ge j k with h | h
              · exact H.out j h
              · obtain rfl : j = k := by omega
                exact HK.out
      · have y5 : decide (c ≤ 57) = false := by simp; omega
        have y6 : decide (c ≤ 90) = false := by simp; omega
        go_wp2
        go_loop [6, 7] (fun ok j => ∃ n : Nat, n ≤ SG.size ∧ j = .int .i64 n ∧ ok = .bool ((sgl.take n).any (· == c))) (fun _ j => SG.size - (intOf j).toNat)
        case atStart => exact ⟨0, Nat.zero_le _, rfl, rfl⟩
        case round =>
          obtain ⟨n, hn, rfl, rfl⟩ := hrel
          by_cases hn2 : n < SG.size
          · have hsu := sgl_succ c n (by omega)
            have hix := at0_sb SG n hn2
            rw [HG1.out] at hix
            rw [hix] at hsu
            have HSU := Lib.hid hsu; clear hsu hix
            generalize hq : (sgl.take n).any (· == c) = q at *
            have HQ := Lib.hid hq; clear hq
            cases q
            · go_wp2
              exact ⟨⟨n + 1, by omega, by go_num, by rw [HSU.out]; rfl⟩, by simp [intOf]; omega⟩
            · go_wp2
              exact ⟨⟨n + 1, by omega, by go_num, by rw [HSU.out]; rfl⟩, by simp [intOf]; omega⟩
          · obtain rfl : n = SG.size := by omega
            clear hn hn2
            rw [HG2.out]
            generalize hq : (sgl.take 19).any (· == c) = q at *
            have HQ := Lib.hid hq; clear hq
            cases q
            · have HK := Lib.hid HLC.out
              go_wp2
              go_ret
              refine ⟨?_, rfl⟩
              have : localL (sb s) = false := by
                cases h : localL (sb s)
                · rfl
                · have := HI.out.1 h k hlk; rw [HK.out] at this; cases this
              rw [this]; rfl
            · have HK := Lib.hid HLC.out
              go_wp2
              refine ⟨⟨k + 1, by omega, by go_num, fun j hj => ?_⟩, by simp [intOf]; omega⟩
              rcases Nat.lt_or_ge j k with h | h
              · exact H.out j h
              · obtain rfl : j = k := by omega
                exact HK.out
      · have y5 : decide (c ≤ 57) = false := by simp; omega
        have y6 : decide (c ≤ 90) = false := by simp; omega
        have y7 : decide (c ≤ 122) = false := by simp; omega
        go_wp2
        go_loop [6, 7] (fun ok j => ∃ n : Nat, n ≤ SG.size ∧ j = .int .i64 n ∧ ok = .bool ((sgl.take n).any (· == c))) (fun _ j => SG.size - (intOf j).toNat)
        case atStart => exact ⟨0, Nat.zero_le _, rfl, rfl⟩
        case round =>
          obtain ⟨n, hn, rfl, rfl⟩ := hrel
          by_cases hn2 : n < SG.size
          · have hsu := sgl_succ c n (by omega)
            have hix := at0_sb SG n hn2
            rw [HG1.out] at hix
            rw [hix] at hsu
            have HSU := Lib.hid hsu; clear hsu hix
            generalize hq : (sgl.take n).any (· == c) = q at *
            have HQ := Lib.hid hq; clear hq
            cases q
            · go_wp2
              exact ⟨⟨n + 1, by omega, by go_num, by rw [HSU.out]; rfl⟩, by simp [intOf]; omega⟩
            · go_wp2
              exact ⟨⟨n + 1, by omega, by go_num, by rw [HSU.out]; rfl⟩, by simp [intOf]; omega⟩
          · obtain rfl : n = SG.size := by omega
            clear hn hn2
            rw [HG2.out]
            generalize hq : (sgl.take 19).any (· == c) = q at *
            have HQ := Lib.hid hq; clear hq
            cases q
            · have HK := Lib.hid HLC.out
              go_wp2
              go_ret
              refine ⟨?_, rfl⟩
              have : localL (sb s) = false := by
                cases h : localL (sb s)
                · rfl
                · have := HI.out.1 h k hlk; rw [HK.out] at this; cases this
              rw [this]; rfl
            · have HK := Lib.hid HLC.out
              go_wp2
              refine ⟨⟨k + 1, by omega, by go_num, fun j hj => ?_⟩, by simp [intOf]; omega⟩
              rcases Nat.lt_or_ge j k with h | h
              · exact H.out j h
              · obtain rfl : j = k := by omega
                exact HK.out
    · go_wp2
      go_ret
      refine ⟨?_, rfl⟩
      have : localL (sb s) = true := HI.out.2 (fun i hi => H.out i (by have := HL.out; omega))
      rw [this]; rfl
theorem ref_local_is (s : ByteArray) (b : Bool) (w : World) (hs : s.size ≤ maxLen) (h : localL (sb s) = b) :
    Calls Tryz.prog 139 #[.string s] w fun e w' => e = .returned (.bool b) ∧ w = w' := by rw [← h]; exact ref_local_any s w hs
end Go.Proofs.YthefddclefimoaaGreatDoor
namespace Go.Proofs.YthefddclefimoaaGreatDoor
open Go.RowKit
set_option linter.unusedVariables false

def rdI (l : List Int) : List Int := (l.reverse.dropWhile spI).reverse
def strSize : Value → Nat
  | .string s => s.size
  | _ => 0
theorem rd_cons (x : Int) (r : List Int) : rdI (x :: r) = if rdI r = [] then (if spI x then [] else [x]) else x :: rdI r := by
  unfold rdI
  rw [List.reverse_cons, List.dropWhile_append]
  cases h : (r.reverse.dropWhile spI) with
  | nil =>
    simp only [List.isEmpty_nil, if_true, List.reverse_nil]
    by_cases hx : spI x = true
    · simp [hx]
    · simp [hx]
  | cons a b =>
    simp
theorem trim_comm (l : List Int) : (rdI l).dropWhile spI = rdI (l.dropWhile spI) := by
  induction l with
  | nil => rfl
  | cons x r ih =>
    rw [rd_cons]
    by_cases hx : spI x = true
    · have e : (x :: r).dropWhile spI = r.dropWhile spI := by simp [hx]
      rw [e]
      by_cases hr : rdI r = []
      · rw [if_pos hr, if_pos hx, ← ih, hr]
      · have e2 : (x :: rdI r).dropWhile spI = (rdI r).dropWhile spI := by simp [hx]
        rw [if_neg hr, e2, ih]
    · have e : (x :: r).dropWhile spI = x :: r := by simp [hx]
      rw [e, rd_cons]
      by_cases hr : rdI r = []
      · rw [if_pos hr, if_neg hx]
        simp [hx]
      · rw [if_neg hr]
        simp [hx]
theorem trimI_eq (l : List Int) : trimI l = rdI (l.dropWhile spI) := trim_comm l
theorem mail_nil : mailB [] = false := by decide
theorem dw_head {l : List Int} (h : 0 < l.length) (h2 : at0 l 0 = 32) : l.dropWhile spI = (l.drop 1).dropWhile spI := by
  cases l with
  | nil => simp at h
  | cons x r =>
    rw [at0_cons_zero] at h2
    rw [List.dropWhile_cons, if_pos (by rw [h2]; decide)]; rfl
theorem dw_stop {l : List Int} (h : 0 < l.length) (h2 : at0 l 0 ≠ 32) : l.dropWhile spI = l := by
  cases l with
  | nil => rfl
  | cons x r =>
    rw [at0_cons_zero] at h2
    rw [List.dropWhile_cons, if_neg]
    simp [spI, h2]
theorem rev_head (l : List Int) (h : 0 < l.length) : at0 l.reverse 0 = at0 l (l.length - 1) := by
  rw [at0_lt (by simpa using h), at0_lt (by omega), List.getElem_reverse]; simp
theorem rd_last {l : List Int} (h : 0 < l.length) (h2 : at0 l (l.length - 1) = 32) : rdI l = rdI (l.take (l.length - 1)) := by
  unfold rdI
  rw [dw_head (l := l.reverse) (by simpa using h) (by rw [rev_head l h]; exact h2)]
  congr 2
  rw [List.drop_reverse]
theorem rd_stop {l : List Int} (h : 0 < l.length) (h2 : at0 l (l.length - 1) ≠ 32) : rdI l = l := by
  unfold rdI
  rw [dw_stop (l := l.reverse) (by simpa using h) (by rw [rev_head l h]; exact h2), List.reverse_reverse]
theorem atI_at {l : List Int} {k : Nat} (hk : k < l.length) (h : (l.take k).all (fun x => !(x == 64)) = true) (h2 : at0 l k = 64) : atI l = k := findIdx_at hk h (by rw [h2]; rfl)
theorem rd_nil : rdI [] = [] := rfl
/-- What is told of an email address. -/
def MailPost (s : ByteArray) (B : Nat) (w : World) (e : Ending) (w' : World) : Prop :=
  (mailB (trimI (sb s)) = true ∧ e = .returned (.tuple #[.string (lowS (trB s)), .int .i64 0]) ∧ Below B w w') ∨
  (mailB (trimI (sb s)) = false ∧ e = .returned (.tuple #[.string ⟨#[]⟩, .int .i64 2]) ∧ Below B w w')
set_option maxHeartbeats 4000000 in
theorem ref_email_any (s : ByteArray) (w : World) (hs : s.size ≤ 140737488355328) :
    Calls Tryz.prog 124 #[.string s] w (MailPost s w.heap.size w) := by
  go_enter Tryz.func124, Tryz.ntmps124
  go_wp2
  go_loop [0] (fun v => ∃ t : ByteArray, v = .string t ∧ (sb t).dropWhile spI = (sb s).dropWhile spI ∧ t.size ≤ s.size) (fun v => strSize v)
  case atStart => exact ⟨s, rfl, rfl, Nat.le_refl _⟩
  case round =>
    obtain ⟨t, rfl, ht, hts⟩ := hrel
    have HT := Lib.hid ht; clear ht
    have HTL := Lib.hid (sb_length t)
    by_cases h0 : 0 < t.size
    rotate_left
    · have hz : t.size = 0 := by omega
      obtain rfl : t = ⟨#[]⟩ := by
        apply sb_inj
        rw [List.eq_nil_of_length_eq_zero (by rw [sb_length]; exact hz : (sb t).length = 0)]; rfl
      have HM := Lib.hid (show mailB (trimI (sb s)) = false by rw [trimI_eq, ← HT.out]; decide)
      clear hz h0 hts
      go_wp2
      go_rounds 1
      go_wp2
      go_rounds 1
      go_ret2
      exact .inr ⟨HM.out, rfl, Below.refl _ _⟩
    have hat := at0_sb t 0 h0
    have h0i : (1 : Int) ≤ t.size := by omega
    have htl : 0 < (sb t).length := by rw [sb_length]; exact h0
    by_cases h32 : at0 (sb t) 0 = 32
    · have hb : (((t[0]'h0).toNat : Int) == 32) = true := by rw [← hat, h32]; rfl
      have hx := sb_tail t 1
      have hd := dw_head htl h32
      rw [← hx] at hd
      have hxs : (t.extract 1 t.size).size + 1 = t.size := by rw [← sb_length, hx, List.length_drop, sb_length]; omega
      have HD := Lib.hid hd
      have HXS := Lib.hid hxs
      clear hat h32 hx hd htl hxs
      go_wp2
      refine ⟨⟨_, rfl, by rw [← HD.out]; exact HT.out, by have := HXS.out; omega⟩, ?_⟩
      have := HXS.out
      simp only [strSize]
      omega
    have hb : (((t[0]'h0).toNat : Int) == 32) = false := by rw [← hat, beq_eq_false_iff_ne]; exact h32
    have hts2 := dw_stop htl h32
    rw [HT.out] at hts2
    have HTS := Lib.hid hts2
    clear hat h32 htl hts2
    go_wp2
    go_loop [0] (fun v => ∃ u : ByteArray, v = .string u ∧ rdI (sb u) = rdI (sb t) ∧ u.size ≤ t.size) (fun v => strSize v)
    case atStart => exact ⟨t, rfl, rfl, Nat.le_refl _⟩
    case round =>
      obtain ⟨u, rfl, hu, hus⟩ := hrel
      clear hb
      have HU := Lib.hid hu; clear hu
      have HUL := Lib.hid (sb_length u)
      by_cases k0 : 0 < u.size
      rotate_left
      · have hz : u.size = 0 := by omega
        obtain rfl : u = ⟨#[]⟩ := by
          apply sb_inj
          rw [List.eq_nil_of_length_eq_zero (by rw [sb_length]; exact hz : (sb u).length = 0)]; rfl
        have HM := Lib.hid (show mailB (trimI (sb s)) = false by rw [trimI_eq, HTS.out, ← HU.out]; decide)
        clear hz k0 hus
        go_wp2
        go_rounds 1
        go_ret2
        exact .inr ⟨HM.out, rfl, Below.refl _ _⟩
      have kx : u.size - 1 < u.size := by omega
      have kat := at0_sb u (u.size - 1) kx
      have kul : 0 < (sb u).length := by rw [sb_length]; exact k0
      have ki1 : (0 : Int) ≤ (u.size : Int) - 1 := by omega
      have ki2 : (u.size : Int) - 1 < u.size := by omega
      have ki3 : ((u.size : Int) - 1).toNat = u.size - 1 := by omega
      have ki4 : (1 : Int) ≤ u.size := by omega
      by_cases k32 : at0 (sb u) (u.size - 1) = 32
      · have kb : (((u[u.size - 1]'kx).toNat : Int) == 32) = true := by rw [← kat, k32]; rfl
        have hx := sb_extract u 0 (u.size - 1)
        rw [List.drop_zero] at hx
        have hd := rd_last kul (by rw [sb_length]; exact k32)
        rw [sb_length, ← hx] at hd
        have hxs : (u.extract 0 (u.size - 1)).size + 1 = u.size := by rw [← sb_length, hx, List.length_take, sb_length]; omega
        have HD := Lib.hid hd
        have HXS := Lib.hid hxs
        clear kat k32 hx hd kul hxs
        go_wp2
        refine ⟨⟨_, rfl, by rw [← HD.out]; exact HU.out, by have := HXS.out; omega⟩, ?_⟩
        have := HXS.out
        simp only [strSize]
        omega
      have kb : (((u[u.size - 1]'kx).toNat : Int) == 32) = false := by rw [← kat, beq_eq_false_iff_ne]; exact k32
      have hu2 := rd_stop kul (by rw [sb_length]; exact k32)
      rw [HU.out, ← HTS.out, ← trimI_eq] at hu2
      have HUS := Lib.hid hu2
      clear kat k32 kul hu2
      go_wp2
      clear kb
      have hus2 : u.size ≤ 140737488355328 := by omega
      go_loop [4] (fun i => ∃ k : Nat, k ≤ u.size ∧ i = .int .i64 k ∧ ((sb u).take k).all (fun x => !(x == 64)) = true) (fun i => u.size - (intOf i).toNat)
      case atStart => exact ⟨0, Nat.zero_le _, rfl, rfl⟩
      case round =>
        obtain ⟨k, hk, rfl, hall⟩ := hrel
        have H := Lib.hid hall; clear hall
        by_cases hlt : k < u.size
        rotate_left
        · have hno : mailB (trimI (sb s)) = false := by
            rw [HUS.out, mailB, decide_eq_false]
            · rfl
            · have h := H.out
              rw [List.take_of_length_le (by have := HUL.out; omega)] at h
              have : atI (sb u) = (sb u).length := by
                unfold atI
                rw [List.findIdx_eq_length]
                intro x hx
                simpa using List.all_eq_true.1 h x hx
              omega
          have HM := Lib.hid hno
          clear hno
          go_wp2
          go_ret2
          exact .inr ⟨HM.out, rfl, Below.refl _ _⟩
        have hlk : k < (sb u).length := by have := HUL.out; omega
        have uat := at0_sb u k hlt
        have HAu := Lib.hid uat; clear uat
        by_cases h64 : at0 (sb u) k = 64
        rotate_left
        · have ub : (((u[k]'hlt).toNat : Int) == 64) = false := by rw [← HAu.out, beq_eq_false_iff_ne]; exact h64
          have H64 := Lib.hid h64; clear h64
          go_wp2
          refine ⟨⟨k + 1, by omega, by go_num, ?_⟩, by simp [intOf]; omega⟩
          rw [List.take_add_one, List.getElem?_eq_getElem hlk, List.all_append, H.out, Option.toList_some, ← at0_lt hlk]
          simp [H64.out]
        have ub : (((u[k]'hlt).toNat : Int) == 64) = true := by rw [← HAu.out, h64]; rfl
        have hatI : atI (sb u) = k := atI_at hlk H.out h64
        have hmail : mailB (trimI (sb s)) = (decide (u.size ≤ 254) && (localL ((sb u).take k) && (hostL ((sb u).drop (k + 1)) && ((sb u).drop (k + 1)).contains 46))) := by
          rw [HUS.out, mailB, hatI, decide_eq_true hlk, HUL.out]; rfl
        have hxa := sb_extract u 0 k
        rw [List.drop_zero] at hxa
        have hxb := sb_tail u (k + 1)
        rw [← hxa, ← hxb] at hmail
        have hk1 : (k : Int) + 1 ≤ u.size := by omega
        have hk4 : (k : Int) ≤ u.size := by omega
        have hsa : (u.extract 0 k).size ≤ maxLen := by rw [ByteArray.size_extract]; unfold maxLen; omega
        have hsb : (u.extract (k + 1) u.size).size ≤ maxLen := by rw [ByteArray.size_extract]; unfold maxLen; omega
        clear h64 hatI hxa hxb
        cases hL : localL (sb (u.extract 0 k))
        · have HM := Lib.hid (show mailB (trimI (sb s)) = false by rw [hmail, hL]; simp)
          have C1 := ref_local_is (u.extract 0 k) false w hsa hL
          clear hmail hL
          go_wp2_with fail
          refine C1.mono ?_
          rintro e w' ⟨rfl, rfl⟩
          go_wp2
          go_ret2
          exact .inr ⟨HM.out, rfl, Below.refl _ _⟩
        have C1 := ref_local_is (u.extract 0 k) true w hsa hL
        cases hH : hostL (sb (u.extract (k + 1) u.size))
        · have HM := Lib.hid (show mailB (trimI (sb s)) = false by rw [hmail, hH]; simp)
          have C2 := ref_host_is (u.extract (k + 1) u.size) false w hsb hH
          clear hmail hL hH
          go_wp2_with fail
          refine C1.mono ?_
          rintro e w' ⟨rfl, rfl⟩
          go_wp2_with fail
          refine C2.mono ?_
          rintro e w' ⟨rfl, rfl⟩
          go_wp2
          go_ret2
          exact .inr ⟨HM.out, rfl, Below.refl _ _⟩
        have C2 := ref_host_is (u.extract (k + 1) u.size) true w hsb hH
        cases hP : (sb (u.extract (k + 1) u.size)).contains 46
        · have HM := Lib.hid (show mailB (trimI (sb s)) = false by rw [hmail, hP]; simp)
          have C3 := ref_has_is (u.extract (k + 1) u.size) 46 false w hsb hP
          clear hmail hL hH hP
          go_wp2_with fail
          refine C1.mono ?_
          rintro e w' ⟨rfl, rfl⟩
          go_wp2_with fail
          refine C2.mono ?_
          rintro e w' ⟨rfl, rfl⟩
          go_wp2_with fail
          refine C3.mono ?_
          rintro e w' ⟨rfl, rfl⟩
          go_wp2
          go_ret2
          exact .inr ⟨HM.out, rfl, Below.refl _ _⟩
        have C3 := ref_has_is (u.extract (k + 1) u.size) 46 true w hsb hP
        by_cases h254 : u.size ≤ 254
        rotate_left
        · have HM := Lib.hid (show mailB (trimI (sb s)) = false by rw [hmail, decide_eq_false h254]; rfl)
          have h254i : (254 : Int) < u.size := by omega
          clear hmail hL hH hP
          go_wp2_with fail
          refine C1.mono ?_
          rintro e w' ⟨rfl, rfl⟩
          go_wp2_with fail
          refine C2.mono ?_
          rintro e w' ⟨rfl, rfl⟩
          go_wp2_with fail
          refine C3.mono ?_
          rintro e w' ⟨rfl, rfl⟩
          go_wp2
          go_ret2
          exact .inr ⟨HM.out, rfl, Below.refl _ _⟩
        have HM := Lib.hid (show mailB (trimI (sb s)) = true by rw [hmail, decide_eq_true h254, hL, hH, hP]; rfl)
        have h254i : (u.size : Int) ≤ 254 := by omega
        have HE := Lib.hid (show u = trB s from sb_inj (by rw [sb_trB]; exact HUS.out.symm))
        have C4 := ref_lower_any u w (by unfold maxLen; omega)
        clear hmail hL hH hP
        go_wp2_with fail
        refine C1.mono ?_
        rintro e w' ⟨rfl, rfl⟩
        go_wp2_with fail
        refine C2.mono ?_
        rintro e w' ⟨rfl, rfl⟩
        go_wp2_with fail
        refine C3.mono ?_
        rintro e w' ⟨rfl, rfl⟩
        go_wp2_with fail
        refine C4.mono ?_
        rintro e w9 ⟨rfl, hb9⟩
        go_wp2
        go_ret2
        refine .inl ⟨HM.out, ?_, hb9⟩
        rw [← HE.out]; rfl
end Go.Proofs.YthefddclefimoaaGreatDoor
namespace Go.Proofs.YthefddclefimoaaGreatDoor
open Go.RowKit
set_option linter.unusedVariables false
set_option linter.unusedSimpArgs false
set_option maxRecDepth 8000

theorem refEmail_v (s : ByteArray) (w : World) (hs : s.size ≤ 140737488355328) : CV Tryz.prog 124 [.string s] w fun v W => v = .tuple #[.string (mailA s).1, .int .i64 (mailA s).2] := by
  refine (ref_email_any s w hs).mono fun e w' h => ?_
  unfold mailA
  rcases h with ⟨h1, h2, h3⟩ | ⟨h1, h2, h3⟩
  · rw [if_pos h1]; exact ⟨_, h2, rfl, h3⟩
  · rw [if_neg (by rw [h1]; decide)]; exact ⟨_, h2, rfl, h3⟩
theorem refPhone_v (s : ByteArray) (w : World) (hs : s.size ≤ 140737488355328) : CV Tryz.prog 125 [.string { data := #[] }, .string s] w fun v W => v = .tuple #[.string (phoneA s).1, .int .i64 (phoneA s).2] := by
  refine (ref_phone_empty s w hs country_empty).mono fun e w' h => ?_
  unfold phoneA
  rcases h with ⟨f, h1, h2, h3⟩ | ⟨h1, h2, h3⟩
  · rw [h1]; exact ⟨_, h2, rfl, h3⟩
  · rw [h1]; exact ⟨_, h2, rfl, h3⟩
set_option maxHeartbeats 1000000 in
theorem refMake_v (m s : ByteArray) (w : World) (L : List Nat) (hL : LL L w)   (hs : s.size ≤ 140737488355328) : CV Tryz.prog 109 [.string m, .string s] w fun v W => v = .tuple #[.agg #[.string (makeA m s).1, .string (makeA m s).2.1], .int .i64 (makeA m s).2.2] := by
  refine cv_enter (N := 30) (f := [(0, .string m), (1, .string s)]) Tryz.func109 rfl rfl rfl rfl fun Q hQ hE => ?_
  have hB := Below.refl w.heap.size w
  refine WC.seq fun K1 hK1 => ?_
  refine WC.region ?_
  refine WL.get (dx_alloc rfl ty_zero_40 rfl) rfl rfl ?_
  rintro _ W2 ⟨rfl, k3, b4, z5⟩
  have l6 := hB.size
  replace hB := below_then hB b4
  replace hL := LL.more hL z5
  refine WL.val (dx_assign rfl rfl) rfl rfl ?_
  refine WL.nil ?_
  refine hK1 ?_
  refine WC.seq fun K7 hK7 => ?_
  refine WC.region ?_
  refine WL.val (dx_assign rfl rfl) rfl rfl ?_
  refine WL.val (dx_assign rfl rfl) rfl rfl ?_
  refine WL.nil ?_
  refine hK7 ?_
  refine WC.seq fun K8 hK8 => ?_
  refine WC.seq fun K9 hK9 => ?_
  refine WC.region ?_
  refine WL.val (dx_move rfl rfl) rfl rfl ?_
  refine WL.nil ?_
  refine hK9 ?_
  refine WC.block ?_
  refine WC.seq fun K10 hK10 => ?_
  refine WC.region ?_
  refine WL.val (dx_eqlT rfl rfl rfl) rfl rfl ?_
  refine WL.val (dx_assign rfl rfl) rfl rfl ?_
  refine WL.nil ?_
  refine hK10 ?_
  refine WC.cond rfl (fun c11 => ?_) (fun c11 => ?_)
  ·
    replace c11 := of_decide_eq_true c11
    refine WC.region ?_
    refine WL.val (dx_move rfl rfl) rfl rfl ?_
    refine WL.get (dx_cv rfl Tryz.func124 rfl rfl rfl (refEmail_v s W2 hs)) rfl rfl ?_
    rintro _ W13 ⟨rfl, b12⟩
    replace k3 := k3.below b12
    replace hB := below_then hB b12
    replace hL := LL.below hL b12
    refine WL.val (dx_move rfl rfl) rfl rfl ?_
    refine WL.val (dx_extract rfl rfl rfl) rfl rfl ?_
    refine WL.val (dx_extract rfl rfl rfl) rfl rfl ?_
    refine WL.val (dx_assign rfl rfl) rfl rfl ?_
    refine WL.val (dx_assign rfl rfl) rfl rfl ?_
    refine WL.nil ?_
    refine hK8 ?_
    refine WC.seq fun K14 hK14 => ?_
    refine WC.seq fun K15 hK15 => ?_
    refine WC.region ?_
    refine WL.val (dx_move rfl rfl) rfl rfl ?_
    refine WL.val (dx_neq rfl rfl rfl) rfl rfl ?_
    refine WL.nil ?_
    refine hK15 ?_
    refine WC.cond rfl (fun c16 => ?_) (fun c16 => ?_)
    ·
      replace c16 := bnot_t c16
      replace c16 := of_decide_eq_false c16
      refine WC.seq fun K17 hK17 => ?_
      refine WC.region ?_
      refine WL.val (dx_build rfl rfl (built_of_O (cs := [.string ⟨#[]⟩, .string ⟨#[]⟩]) (by kernel_rfl) oc_nil)) rfl rfl ?_
      refine WL.val (dx_move rfl rfl) rfl rfl ?_
      refine WL.do (dx_store (cs' := [.string ⟨#[]⟩, .string ⟨#[]⟩]) (vs := [.string ⟨#[]⟩, .string ⟨#[]⟩]) rfl ty_size_40_2 rfl rfl rfl (oc_cons rfl (oc_cons rfl oc_nil)) k3 rfl (Nat.le_of_ble_eq_true rfl) rfl) rfl ?_
      rintro _ W18 ⟨k20, o19⟩
      clear k3
      replace hB := o19.below hB l6
      replace hL := LL.only hL o19
      refine WL.val (dx_assign rfl rfl) rfl rfl ?_
      refine WL.nil ?_
      refine hK17 ?_
      refine WC.ret fun a_ ha_ => ?_
      exact hQ (cv_ret2 rfl (.agg rfl ty_agg_40_2 k20.range rfl) (.tmp rfl) (by unfold makeA; simp [*]) hB ha_)
    ·
      replace c16 := bnot_f c16
      replace c16 := of_decide_eq_true c16
      refine WC.skip ?_
      refine hK14 ?_
      refine WC.seq fun K21 hK21 => ?_
      refine WC.region ?_
      refine WL.val (dx_move rfl rfl) rfl rfl ?_
      refine WL.val (dx_move rfl rfl) rfl rfl ?_
      refine WL.val (dx_build rfl rfl (built_of_O (cs := [.string m, .string ((mailA s).1)]) (by kernel_rfl) (oc_cons rfl (oc_cons rfl oc_nil)))) rfl rfl ?_
      refine WL.do (dx_store (cs' := [.string m, .string ((mailA s).1)]) (vs := [.string m, .string ((mailA s).1)]) rfl ty_size_40_2 rfl rfl rfl (oc_cons rfl (oc_cons rfl oc_nil)) k3 rfl (Nat.le_of_ble_eq_true rfl) rfl) rfl ?_
      rintro _ W22 ⟨k24, o23⟩
      clear k3
      replace hB := o23.below hB l6
      replace hL := LL.only hL o23
      refine WL.val (dx_assign rfl rfl) rfl rfl ?_
      refine WL.nil ?_
      refine hK21 ?_
      refine WC.ret fun a_ ha_ => ?_
      exact hQ (cv_ret2 rfl (.agg rfl ty_agg_40_2 k24.range rfl) (.tmp rfl) (by unfold makeA; simp [*]) hB ha_)
  ·
    replace c11 := of_decide_eq_false c11
    refine WC.seq fun K25 hK25 => ?_
    refine WC.region ?_
    refine WL.val (dx_eqlT rfl rfl rfl) rfl rfl ?_
    refine WL.val (dx_assign rfl rfl) rfl rfl ?_
    refine WL.nil ?_
    refine hK25 ?_
    refine WC.cond rfl (fun c26 => ?_) (fun c26 => ?_)
    ·
      replace c26 := of_decide_eq_true c26
      refine WC.region ?_
      refine WL.val (dx_move rfl rfl) rfl rfl ?_
      refine WL.get (dx_cv rfl Tryz.func125 rfl rfl rfl (refPhone_v s W2 hs)) rfl rfl ?_
      rintro _ W28 ⟨rfl, b27⟩
      replace k3 := k3.below b27
      replace hB := below_then hB b27
      replace hL := LL.below hL b27
      refine WL.val (dx_move rfl rfl) rfl rfl ?_
      refine WL.val (dx_extract rfl rfl rfl) rfl rfl ?_
      refine WL.val (dx_extract rfl rfl rfl) rfl rfl ?_
      refine WL.val (dx_assign rfl rfl) rfl rfl ?_
      refine WL.val (dx_assign rfl rfl) rfl rfl ?_
      refine WL.nil ?_
      refine hK8 ?_
      refine WC.seq fun K29 hK29 => ?_
      refine WC.seq fun K30 hK30 => ?_
      refine WC.region ?_
      refine WL.val (dx_move rfl rfl) rfl rfl ?_
      refine WL.val (dx_neq rfl rfl rfl) rfl rfl ?_
      refine WL.nil ?_
      refine hK30 ?_
      refine WC.cond rfl (fun c31 => ?_) (fun c31 => ?_)
      ·
        replace c31 := bnot_t c31
        replace c31 := of_decide_eq_false c31
        refine WC.seq fun K32 hK32 => ?_
        refine WC.region ?_
        refine WL.val (dx_build rfl rfl (built_of_O (cs := [.string ⟨#[]⟩, .string ⟨#[]⟩]) (by kernel_rfl) oc_nil)) rfl rfl ?_
        refine WL.val (dx_move rfl rfl) rfl rfl ?_
        refine WL.do (dx_store (cs' := [.string ⟨#[]⟩, .string ⟨#[]⟩]) (vs := [.string ⟨#[]⟩, .string ⟨#[]⟩]) rfl ty_size_40_2 rfl rfl rfl (oc_cons rfl (oc_cons rfl oc_nil)) k3 rfl (Nat.le_of_ble_eq_true rfl) rfl) rfl ?_
        rintro _ W33 ⟨k35, o34⟩
        clear k3
        replace hB := o34.below hB l6
        replace hL := LL.only hL o34
        refine WL.val (dx_assign rfl rfl) rfl rfl ?_
        refine WL.nil ?_
        refine hK32 ?_
        refine WC.ret fun a_ ha_ => ?_
        exact hQ (cv_ret2 rfl (.agg rfl ty_agg_40_2 k35.range rfl) (.tmp rfl) (by unfold makeA; simp [*]) hB ha_)
      ·
        replace c31 := bnot_f c31
        replace c31 := of_decide_eq_true c31
        refine WC.skip ?_
        refine hK29 ?_
        refine WC.seq fun K36 hK36 => ?_
        refine WC.region ?_
        refine WL.val (dx_move rfl rfl) rfl rfl ?_
        refine WL.val (dx_move rfl rfl) rfl rfl ?_
        refine WL.val (dx_build rfl rfl (built_of_O (cs := [.string m, .string ((phoneA s).1)]) (by kernel_rfl) (oc_cons rfl (oc_cons rfl oc_nil)))) rfl rfl ?_
        refine WL.do (dx_store (cs' := [.string m, .string ((phoneA s).1)]) (vs := [.string m, .string ((phoneA s).1)]) rfl ty_size_40_2 rfl rfl rfl (oc_cons rfl (oc_cons rfl oc_nil)) k3 rfl (Nat.le_of_ble_eq_true rfl) rfl) rfl ?_
        rintro _ W37 ⟨k39, o38⟩
        clear k3
        replace hB := o38.below hB l6
        replace hL := LL.only hL o38
        refine WL.val (dx_assign rfl rfl) rfl rfl ?_
        refine WL.nil ?_
        refine hK36 ?_
        refine WC.ret fun a_ ha_ => ?_
        exact hQ (cv_ret2 rfl (.agg rfl ty_agg_40_2 k39.range rfl) (.tmp rfl) (by unfold makeA; simp [*]) hB ha_)
    ·
      replace c26 := of_decide_eq_false c26
      refine WC.skip ?_
      refine hK8 ?_
      refine WC.seq fun K40 hK40 => ?_
      refine WC.seq fun K41 hK41 => ?_
      refine WC.region ?_
      refine WL.val (dx_move rfl rfl) rfl rfl ?_
      refine WL.val (dx_neq rfl rfl rfl) rfl rfl ?_
      refine WL.nil ?_
      refine hK41 ?_
      refine WC.condT rfl ?_
      refine WC.seq fun K42 hK42 => ?_
      refine WC.region ?_
      refine WL.val (dx_build rfl rfl (built_of_O (cs := [.string ⟨#[]⟩, .string ⟨#[]⟩]) (by kernel_rfl) oc_nil)) rfl rfl ?_
      refine WL.val (dx_move rfl rfl) rfl rfl ?_
      refine WL.do (dx_store (cs' := [.string ⟨#[]⟩, .string ⟨#[]⟩]) (vs := [.string ⟨#[]⟩, .string ⟨#[]⟩]) rfl ty_size_40_2 rfl rfl rfl (oc_cons rfl (oc_cons rfl oc_nil)) k3 rfl (Nat.le_of_ble_eq_true rfl) rfl) rfl ?_
      rintro _ W43 ⟨k45, o44⟩
      clear k3
      replace hB := o44.below hB l6
      replace hL := LL.only hL o44
      refine WL.val (dx_assign rfl rfl) rfl rfl ?_
      refine WL.nil ?_
      refine hK42 ?_
      refine WC.ret fun a_ ha_ => ?_
      exact hQ (cv_ret2 rfl (.agg rfl ty_agg_40_2 k45.range rfl) (.tmp rfl) (by unfold makeA; simp [*]) hB ha_)

set_option maxHeartbeats 1000000 in
theorem refRightA_v (m s : ByteArray) (w : World) (L : List Nat) (hL : LL L w)   (hs : s.size ≤ 140737488355328) : CV Tryz.prog 86 [.agg #[.string m, .string s]] w fun v W => v = .bool (rightA m s) := by
  refine cv_enter (N := 20) (f := [(0, .agg #[.string m, .string s])]) Tryz.func86 rfl rfl rfl rfl fun Q hQ hE => ?_
  have hB := Below.refl w.heap.size w
  refine WC.seq fun K1 hK1 => ?_
  refine WC.region ?_
  refine WL.get (dx_box rfl rfl rfl) rfl rfl ?_
  rintro _ W2 ⟨rfl, k3, b4, z5⟩
  have l6 := hB.size
  replace hB := below_then hB b4
  replace hL := LL.more hL z5
  refine WL.val (dx_assign rfl rfl) rfl rfl ?_
  refine WL.nil ?_
  refine hK1 ?_
  refine WC.seq fun K7 hK7 => ?_
  refine WC.region ?_
  refine WL.val (dx_fld (o1 := 0) rfl ty_fld_40_0_0 rfl rfl) rfl rfl ?_
  refine WL.val (dx_load rfl ty_one_9 rfl (k3.cell (k := 0) rfl)) rfl rfl ?_
  refine WL.val (dx_fld (o1 := 1) rfl ty_fld_40_1_1 rfl rfl) rfl rfl ?_
  refine WL.val (dx_load rfl ty_one_9 rfl (k3.cell (k := 1) rfl)) rfl rfl ?_
  refine WL.get (dx_cv rfl Tryz.func109 rfl rfl rfl (refMake_v m s W2 _ hL hs)) rfl rfl ?_
  rintro _ W9 ⟨rfl, b8⟩
  replace k3 := k3.below b8
  replace hB := below_then hB b8
  replace hL := LL.below hL b8
  refine WL.val (dx_move rfl rfl) rfl rfl ?_
  refine WL.val (dx_extract rfl rfl rfl) rfl rfl ?_
  refine WL.val (dx_extract rfl rfl rfl) rfl rfl ?_
  refine WL.get (dx_alloc rfl ty_zero_40 rfl) rfl rfl ?_
  rintro _ W10 ⟨rfl, k11, b12, z13⟩
  have n14 : w.heap.size ≠ W9.heap.size := Nat.ne_of_lt k3.lt
  have l15 := hB.size
  replace k3 := k3.below b12
  replace hB := below_then hB b12
  replace hL := LL.more hL z13
  refine WL.do (dx_store (cs' := [.string ((makeA m s).1), .string ((makeA m s).2.1)]) (vs := [.string ((makeA m s).1), .string ((makeA m s).2.1)]) rfl ty_size_40_2 rfl rfl rfl (oc_cons rfl (oc_cons rfl oc_nil)) k11 rfl (Nat.le_of_ble_eq_true rfl) rfl) rfl ?_
  rintro _ W16 ⟨k18, o17⟩
  replace k3 := k3.other o17 n14
  clear k11
  replace hB := o17.below hB l15
  replace hL := LL.only hL o17
  refine WL.val (dx_assign rfl rfl) rfl rfl ?_
  refine WL.nil ?_
  refine hK7 ?_
  refine WC.seq fun K19 hK19 => ?_
  refine WC.region ?_
  refine WL.val (dx_move rfl rfl) rfl rfl ?_
  refine WL.val (dx_eql rfl rfl rfl) rfl rfl ?_
  refine WL.val (dx_move rfl rfl) rfl rfl ?_
  refine WL.split 15 rfl (fun g20 => ?_) (fun g20 => ?_)
  ·
    replace g20 := of_decide_eq_true g20
    refine WL.val (dx_loadN rfl ty_agg_40_2 rfl k3.range rfl) rfl rfl ?_
    refine WL.val (dx_loadN rfl ty_agg_40_2 rfl k18.range rfl) rfl rfl ?_
    refine WL.val (dx_eqAd rfl rfl rfl) rfl rfl ?_
    refine WL.val (dx_pick rfl rfl rfl) rfl rfl ?_
    refine WL.val (dx_assign rfl rfl) rfl rfl ?_
    refine WL.nil ?_
    refine hK19 ?_
    refine WC.ret fun a_ ha_ => ?_
    exact hQ (cv_ret1 rfl (.tmp rfl) (by unfold rightA; simp [*]) hB ha_)
  ·
    replace g20 := of_decide_eq_false g20
    refine WL.off rfl rfl rfl ?_
    refine WL.off rfl rfl rfl ?_
    refine WL.off rfl rfl rfl ?_
    refine WL.val (dx_pick rfl rfl rfl) rfl rfl ?_
    refine WL.val (dx_assign rfl rfl) rfl rfl ?_
    refine WL.nil ?_
    refine hK19 ?_
    refine WC.ret fun a_ ha_ => ?_
    exact hQ (cv_ret1 rfl (.tmp rfl) (by unfold rightA; simp [*]) hB ha_)

set_option maxHeartbeats 1000000 in
theorem refLess_v (m1 w1 m2 w2 : ByteArray) (w : World) (L : List Nat) (hL : LL L w)  : CV Tryz.prog 64 [.agg #[.string m1, .string w1], .agg #[.string m2, .string w2]] w fun v W => v = .bool (lessA (m1, w1) (m2, w2)) := by
  refine cv_enter (N := 24) (f := [(0, .agg #[.string m1, .string w1]), (1, .agg #[.string m2, .string w2])]) Tryz.func64 rfl rfl rfl rfl fun Q hQ hE => ?_
  have hB := Below.refl w.heap.size w
  refine WC.seq fun K1 hK1 => ?_
  refine WC.region ?_
  refine WL.get (dx_box rfl rfl rfl) rfl rfl ?_
  rintro _ W2 ⟨rfl, k3, b4, z5⟩
  have l6 := hB.size
  replace hB := below_then hB b4
  replace hL := LL.more hL z5
  refine WL.get (dx_box rfl rfl rfl) rfl rfl ?_
  rintro _ W7 ⟨rfl, k8, b9, z10⟩
  have n11 : w.heap.size ≠ W2.heap.size := Nat.ne_of_lt k3.lt
  have l12 := hB.size
  replace k3 := k3.below b9
  replace hB := below_then hB b9
  replace hL := LL.more hL z10
  refine WL.val (dx_assign rfl rfl) rfl rfl ?_
  refine WL.nil ?_
  refine hK1 ?_
  refine WC.seq fun K13 hK13 => ?_
  refine WC.region ?_
  refine WL.val (dx_fld (o1 := 0) rfl ty_fld_40_0_0 rfl rfl) rfl rfl ?_
  refine WL.val (dx_load rfl ty_one_9 rfl (k3.cell (k := 0) rfl)) rfl rfl ?_
  refine WL.val (dx_fld (o1 := 0) rfl ty_fld_40_0_0 rfl rfl) rfl rfl ?_
  refine WL.val (dx_load rfl ty_one_9 rfl (k8.cell (k := 0) rfl)) rfl rfl ?_
  refine WL.val (dx_lssT rfl rfl rfl) rfl rfl ?_
  refine WL.val (dx_move rfl rfl) rfl rfl ?_
  refine WL.split 10 rfl (fun g14 => ?_) (fun g14 => ?_)
  ·
    refine WL.off rfl rfl rfl ?_
    refine WL.off rfl rfl rfl ?_
    refine WL.off rfl rfl rfl ?_
    refine WL.off rfl rfl rfl ?_
    refine WL.off rfl rfl rfl ?_
    refine WL.off rfl rfl rfl ?_
    refine WL.off rfl rfl rfl ?_
    refine WL.off rfl rfl rfl ?_
    refine WL.off rfl rfl rfl ?_
    refine WL.off rfl rfl rfl ?_
    refine WL.off rfl rfl rfl ?_
    refine WL.off rfl rfl rfl ?_
    refine WL.val (dx_pick rfl rfl rfl) rfl rfl ?_
    refine WL.val (dx_assign rfl rfl) rfl rfl ?_
    refine WL.nil ?_
    refine hK13 ?_
    refine WC.ret fun a_ ha_ => ?_
    exact hQ (cv_ret1 rfl (.tmp rfl) (by unfold lessA; by_cases hq : m1 = m2 <;> simp_all [sless_irrefl]) hB ha_)
  ·
    refine WL.val (dx_fld (o1 := 0) rfl ty_fld_40_0_0 rfl rfl) rfl rfl ?_
    refine WL.val (dx_load rfl ty_one_9 rfl (k3.cell (k := 0) rfl)) rfl rfl ?_
    refine WL.val (dx_fld (o1 := 0) rfl ty_fld_40_0_0 rfl rfl) rfl rfl ?_
    refine WL.val (dx_load rfl ty_one_9 rfl (k8.cell (k := 0) rfl)) rfl rfl ?_
    refine WL.val (dx_eqlT rfl rfl rfl) rfl rfl ?_
    refine WL.val (dx_move rfl rfl) rfl rfl ?_
    refine WL.split 16 rfl (fun g15 => ?_) (fun g15 => ?_)
    ·
      replace g15 := of_decide_eq_true g15
      refine WL.val (dx_fld (o1 := 1) rfl ty_fld_40_1_1 rfl rfl) rfl rfl ?_
      refine WL.val (dx_load rfl ty_one_9 rfl (k3.cell (k := 1) rfl)) rfl rfl ?_
      refine WL.val (dx_fld (o1 := 1) rfl ty_fld_40_1_1 rfl rfl) rfl rfl ?_
      refine WL.val (dx_load rfl ty_one_9 rfl (k8.cell (k := 1) rfl)) rfl rfl ?_
      refine WL.val (dx_lssT rfl rfl rfl) rfl rfl ?_
      refine WL.val (dx_pick rfl rfl rfl) rfl rfl ?_
      refine WL.val (dx_pick rfl rfl rfl) rfl rfl ?_
      refine WL.val (dx_assign rfl rfl) rfl rfl ?_
      refine WL.nil ?_
      refine hK13 ?_
      refine WC.ret fun a_ ha_ => ?_
      exact hQ (cv_ret1 rfl (.tmp rfl) (by unfold lessA; by_cases hq : m1 = m2 <;> simp_all [sless_irrefl]) hB ha_)
    ·
      replace g15 := of_decide_eq_false g15
      refine WL.off rfl rfl rfl ?_
      refine WL.off rfl rfl rfl ?_
      refine WL.off rfl rfl rfl ?_
      refine WL.off rfl rfl rfl ?_
      refine WL.off rfl rfl rfl ?_
      refine WL.val (dx_pick rfl rfl rfl) rfl rfl ?_
      refine WL.val (dx_pick rfl rfl rfl) rfl rfl ?_
      refine WL.val (dx_assign rfl rfl) rfl rfl ?_
      refine WL.nil ?_
      refine hK13 ?_
      refine WC.ret fun a_ ha_ => ?_
      exact hQ (cv_ret1 rfl (.tmp rfl) (by unfold lessA; by_cases hq : m1 = m2 <;> simp_all [sless_irrefl]) hB ha_)

set_option maxHeartbeats 1000000 in
theorem refGood_v (b : BondX) (w : World) (L : List Nat) (hL : LL L w)   (hs : b.1.2.size ≤ 140737488355328) : CV Tryz.prog 62 [.agg #[.string b.1.1, .string b.1.2, .string b.2.1, .int .i64 b.2.2]] w fun v W => v = .bool (goodB b) := by
  refine cv_enter (N := 21) (f := [(0, .agg #[.string b.1.1, .string b.1.2, .string b.2.1, .int .i64 b.2.2])]) Tryz.func62 rfl rfl rfl rfl fun Q hQ hE => ?_
  have hB := Below.refl w.heap.size w
  refine WC.seq fun K1 hK1 => ?_
  refine WC.region ?_
  refine WL.get (dx_box rfl rfl rfl) rfl rfl ?_
  rintro _ W2 ⟨rfl, k3, b4, z5⟩
  have l6 := hB.size
  replace hB := below_then hB b4
  replace hL := LL.more hL z5
  refine WL.val (dx_assign rfl rfl) rfl rfl ?_
  refine WL.nil ?_
  refine hK1 ?_
  refine WC.seq fun K7 hK7 => ?_
  refine WC.region ?_
  refine WL.val (dx_fld (o1 := 0) rfl ty_fld_42_0_0 rfl rfl) rfl rfl ?_
  refine WL.val (dx_loadN (cs := [.string b.1.1, .string b.1.2]) rfl ty_agg_40_2 rfl (k3.part 0 2) rfl) rfl rfl ?_
  refine WL.get (dx_cv rfl Tryz.func86 rfl rfl rfl (refRightA_v b.1.1 b.1.2 W2 _ hL hs)) rfl rfl ?_
  rintro _ W9 ⟨rfl, b8⟩
  replace k3 := k3.below b8
  replace hB := below_then hB b8
  replace hL := LL.below hL b8
  refine WL.val (dx_move rfl rfl) rfl rfl ?_
  refine WL.split 6 rfl (fun g10 => ?_) (fun g10 => ?_)
  ·
    refine WL.val (dx_fld (o1 := 2) rfl ty_fld_42_1_2 rfl rfl) rfl rfl ?_
    refine WL.val (dx_load rfl ty_one_9 rfl (k3.cell (k := 2) rfl)) rfl rfl ?_
    refine WL.get (dx_cv rfl Tryz.func45 rfl rfl rfl (refUser_v b.2.1 W9)) rfl rfl ?_
    rintro _ W12 ⟨rfl, b11⟩
    replace k3 := k3.below b11
    replace hB := below_then hB b11
    replace hL := LL.below hL b11
    refine WL.val (dx_pick rfl rfl rfl) rfl rfl ?_
    refine WL.val (dx_move rfl rfl) rfl rfl ?_
    refine WL.split 11 rfl (fun g13 => ?_) (fun g13 => ?_)
    ·
      refine WL.val (dx_fld (o1 := 3) rfl ty_fld_42_2_3 rfl rfl) rfl rfl ?_
      refine WL.val (dx_load rfl ty_one_3 rfl (k3.cell (k := 3) rfl)) rfl rfl ?_
      refine WL.val (dx_geq rfl rfl rfl) rfl rfl ?_
      refine WL.val (dx_pick rfl rfl rfl) rfl rfl ?_
      refine WL.val (dx_move rfl rfl) rfl rfl ?_
      refine WL.split 16 rfl (fun g14 => ?_) (fun g14 => ?_)
      ·
        replace g14 := of_decide_eq_true g14
        refine WL.val (dx_fld (o1 := 3) rfl ty_fld_42_2_3 rfl rfl) rfl rfl ?_
        refine WL.val (dx_load rfl ty_one_3 rfl (k3.cell (k := 3) rfl)) rfl rfl ?_
        refine WL.val (dx_leq rfl rfl rfl) rfl rfl ?_
        refine WL.val (dx_pick rfl rfl rfl) rfl rfl ?_
        refine WL.val (dx_assign rfl rfl) rfl rfl ?_
        refine WL.nil ?_
        refine hK7 ?_
        refine WC.ret fun a_ ha_ => ?_
        exact hQ (cv_ret1 rfl (.tmp rfl) (by simp [goodB, *]) hB ha_)
      ·
        replace g14 := of_decide_eq_false g14
        refine WL.off rfl rfl rfl ?_
        refine WL.off rfl rfl rfl ?_
        refine WL.off rfl rfl rfl ?_
        refine WL.val (dx_pick rfl rfl rfl) rfl rfl ?_
        refine WL.val (dx_assign rfl rfl) rfl rfl ?_
        refine WL.nil ?_
        refine hK7 ?_
        refine WC.ret fun a_ ha_ => ?_
        exact hQ (cv_ret1 rfl (.tmp rfl) (by simp [goodB, *]) hB ha_)
    ·
      refine WL.off rfl rfl rfl ?_
      refine WL.off rfl rfl rfl ?_
      refine WL.off rfl rfl rfl ?_
      refine WL.val (dx_pick rfl rfl rfl) rfl rfl ?_
      refine WL.val (dx_move rfl rfl) rfl rfl ?_
      refine WL.off rfl rfl rfl ?_
      refine WL.off rfl rfl rfl ?_
      refine WL.off rfl rfl rfl ?_
      refine WL.val (dx_pick rfl rfl rfl) rfl rfl ?_
      refine WL.val (dx_assign rfl rfl) rfl rfl ?_
      refine WL.nil ?_
      refine hK7 ?_
      refine WC.ret fun a_ ha_ => ?_
      exact hQ (cv_ret1 rfl (.tmp rfl) (by simp [goodB, *]) hB ha_)
  ·
    refine WL.off rfl rfl rfl ?_
    refine WL.off rfl rfl rfl ?_
    refine WL.off rfl rfl rfl ?_
    refine WL.val (dx_pick rfl rfl rfl) rfl rfl ?_
    refine WL.val (dx_move rfl rfl) rfl rfl ?_
    refine WL.off rfl rfl rfl ?_
    refine WL.off rfl rfl rfl ?_
    refine WL.off rfl rfl rfl ?_
    refine WL.val (dx_pick rfl rfl rfl) rfl rfl ?_
    refine WL.val (dx_move rfl rfl) rfl rfl ?_
    refine WL.off rfl rfl rfl ?_
    refine WL.off rfl rfl rfl ?_
    refine WL.off rfl rfl rfl ?_
    refine WL.val (dx_pick rfl rfl rfl) rfl rfl ?_
    refine WL.val (dx_assign rfl rfl) rfl rfl ?_
    refine WL.nil ?_
    refine hK7 ?_
    refine WC.ret fun a_ ha_ => ?_
    exact hQ (cv_ret1 rfl (.tmp rfl) (by simp [goodB, *]) hB ha_)

set_option maxHeartbeats 1000000 in
theorem refRightB_v (xs : List BondX) (sv : Value) (w : World) (L : List Nat) (hL : LL L w) (h1 : RdF 4 L w sv (xs.map encB))  (hsz : smallB xs) : CV Tryz.prog 32 [sv] w fun v W => v = .bool (rightB xs) := by
  refine cv_enter (N := 38) (f := [(0, sv)]) Tryz.func32 rfl rfl rfl rfl fun Q hQ hE => ?_
  have hB := Below.refl w.heap.size w
  have h1m : xs.length ≤ maxLen := by have := h1.len; rwa [List.length_map] at this
  unfold maxLen at h1m
  refine WC.seq fun K1 hK1 => ?_
  refine WC.region ?_
  refine WL.val (dx_assign rfl rfl) rfl rfl ?_
  refine WL.nil ?_
  refine hK1 ?_
  refine WC.seq fun K2 hK2 => ?_
  refine WC.seq fun K3 hK3 => ?_
  refine WC.region ?_
  refine WL.val (dx_move rfl rfl) rfl rfl ?_
  refine WL.val (dx_lenX rfl ty_slice_38 rfl h1) rfl rfl ?_
  refine WL.val (dx_gtr rfl rfl rfl) rfl rfl ?_
  refine WL.nil ?_
  refine hK3 ?_
  refine WC.cond rfl (fun c4 => ?_) (fun c4 => ?_)
  ·
    replace c4 := of_decide_eq_true c4
    refine WC.seq fun K5 hK5 => ?_
    refine WC.region ?_
    refine WL.val (dx_assign rfl rfl) rfl rfl ?_
    refine WL.nil ?_
    refine hK5 ?_
    refine WC.ret fun a_ ha_ => ?_
    exact hQ (cv_ret1 rfl (.tmp rfl) (by rw [show rightB xs = false from right_f1 (by omega)]) hB ha_)
  ·
    replace c4 := of_decide_eq_false c4
    refine WC.skip ?_
    refine hK2 ?_
    refine WC.seq fun K6 hK6 => ?_
    refine WC.seq fun K7 hK7 => ?_
    refine WC.region ?_
    refine WL.val (dx_assign rfl rfl) rfl rfl ?_
    refine WL.nil ?_
    refine hK7 ?_
    refine WC.block ?_
    refine WC.loop (fun (i : Nat) => [(0, sv), (2, .bool false), (3, .int .i64 (i : Int))]) (fun (i : Nat) W => i ≤ xs.length ∧ (∀ k a, k < i → xs[k]? = some a → goodB a = true) ∧ (∀ k a b, k + 1 < i → xs[k]? = some a → xs[k + 1]? = some b → (fun a b => lessA (a.1.1, a.1.2) (b.1.1, b.1.2)) a b = true) ∧ Below w.heap.size w W ∧ LL (L) W ∧ RdF 4 (L) W sv (xs.map encB)) (fun (i : Nat) => xs.length - i) 0 (by repeat first | exact trivial | exact And.intro rfl trivial | refine And.intro rfl ?_ | refine And.intro (congrArg (fun z : Int => some (Value.int .i64 z)) (by omega)) ?_) ⟨Nat.zero_le _, (fun k a hk => by omega), (fun k a b hk => by omega), hB, hL, h1⟩ ?_
    clear h1 hB hL
    rintro K8 i W9 ⟨hi, hv, hu, hB, hL, h1⟩ hK8
    refine WC.seq fun K10 hK10 => ?_
    refine WC.seq fun K11 hK11 => ?_
    refine WC.region ?_
    refine WL.val (dx_move rfl rfl) rfl rfl ?_
    refine WL.val (dx_move rfl rfl) rfl rfl ?_
    refine WL.val (dx_lenX rfl ty_slice_38 rfl h1) rfl rfl ?_
    refine WL.val (dx_lss rfl rfl rfl) rfl rfl ?_
    refine WL.nil ?_
    refine hK11 ?_
    refine WC.cond rfl (fun c12 => ?_) (fun c12 => ?_)
    ·
      replace c12 := of_decide_eq_true c12
      refine WC.skip ?_
      refine hK10 ?_
      refine WC.seq fun K13 hK13 => ?_
      refine WC.block ?_
      refine WC.seq fun K14 hK14 => ?_
      obtain ⟨r15, e16⟩ : ∃ x, xs[i]? = some x := ⟨_, List.getElem?_eq_getElem (by omega)⟩
      obtain ⟨b17, hb17⟩ : ∃ b, b = (!(goodB r15)) := ⟨_, rfl⟩
      obtain ⟨b18, hb18⟩ : ∃ b, b = ((!b17) && (decide (0 < (i : Int)))) := ⟨_, rfl⟩
      obtain ⟨r19, e20⟩ : ∃ x, xs[(i - 1)]? = some x := ⟨_, List.getElem?_eq_getElem (by omega)⟩
      refine WC.drawM 25 [(some 13, .is (sv)), (some 14, .is (.int .i64 (i : Int))), (some 15, .by fun u W => PtR (L) W u (encB r15)), (some 16, .is (.agg #[.string r15.1.1, .string r15.1.2, .string r15.2.1, .int .i64 r15.2.2])), (some 17, .is (.bool (goodB r15))), (some 18, .is (.bool (!(goodB r15)))), (some 19, .is (.bool b17)), (some 20, .is (bif b17 then undef else .int .i64 (i : Int))), (some 21, .is (bif b17 then undef else .bool (decide (0 < (i : Int))))), (some 22, .is (bif b17 then undef else .bool b18)), (some 23, .is (bif b18 then sv else undef)), (some 24, .is (bif b18 then .int .i64 (i : Int) else undef)), (some 25, .is (bif b18 then .int .i64 ((i : Int) - 1) else undef)), (some 26, .by fun u W => b18 = true → PtR (L) W u (encB r19)), (some 27, .by fun u W => b18 = true → PtR (L) W u [.string r19.1.1, .string r19.1.2]), (some 28, .is (bif b18 then .agg #[.string r19.1.1, .string r19.1.2] else undef)), (some 29, .is (bif b18 then sv else undef)), (some 30, .is (bif b18 then .int .i64 (i : Int) else undef)), (some 31, .by fun u W => b18 = true → PtR (L) W u (encB r15)), (some 32, .by fun u W => b18 = true → PtR (L) W u [.string r15.1.1, .string r15.1.2]), (some 33, .is (bif b18 then .agg #[.string r15.1.1, .string r15.1.2] else undef)), (some 34, .is (bif b18 then .bool (lessA (r19.1.1, r19.1.2) (r15.1.1, r15.1.2)) else undef)), (some 35, .is (bif b18 then .bool (!(lessA (r19.1.1, r19.1.2) (r15.1.1, r15.1.2))) else undef)), (some 36, .is (bif b17 then undef else .bool (b18 && (!(lessA (r19.1.1, r19.1.2) (r15.1.1, r15.1.2)))))), (some 37, .is (.bool (b17 || (b18 && (!(lessA (r19.1.1, r19.1.2) (r15.1.1, r15.1.2)))))))] [[], [], [0, 1], [2], [3], [4], [5, 4], [6], [7, 6], [8, 6, 6], [9], [9], [11, 9], [10, 12, 9], [13, 9], [14, 9], [9], [9], [16, 17, 9], [18, 9], [19, 9], [15, 20, 9, 9], [21, 9], [9, 22, 6], [6, 23]] (by kernel_rfl) (by kernel_rfl) (by kernel_rfl) (by kernel_rfl) (by kernel_rfl) (by kernel_rfl) (by kernel_rfl) ⟨fun _ _ _ hb h => h.below hb, fun _ _ _ hb h g => (h g).below hb, fun _ _ _ hb h g => (h g).below hb, fun _ _ _ hb h g => (h g).below hb, fun _ _ _ hb h g => (h g).below hb, trivial⟩ ?_ ?_
      ·
        refine DSteps.cons (fun Wd hd => ?_) ?_
        ·
          exact DV.dr (dx_move rfl rfl) ⟨Below.refl _ _, rfl⟩
        refine DSteps.cons (fun Wd hd => ?_) ?_
        ·
          exact DV.dr (dx_move rfl rfl) ⟨Below.refl _ _, rfl⟩
        refine DSteps.cons (fun Wd hd => ?_) ?_
        ·
          have h1 := h1.below hd
          exact (dx_idxF i rfl ty_slice_38 rfl rfl h1 (by omega) (at_mapX e16)).mono (fun v W' h => ⟨by rw [← h.1]; exact Below.refl _ _, by rw [← h.1]; exact h.2⟩)
        refine DSteps.cons (fun Wd hd => ?_) ?_
        ·
          intro u6_2 p6_2
          exact DV.dr (dx_loadPN rfl ty_agg_42_4 rfl p6_2 rfl) ⟨Below.refl _ _, rfl⟩
        refine DSteps.cons (fun Wd hd => ?_) ?_
        ·
          exact DR.mono (dx_cv rfl Tryz.func62 rfl rfl rfl (refGood_v r15 Wd _ (LL.below hL hd) (hsz r15 (List.mem_of_getElem? e16)))) (fun v W' ⟨h, hb⟩ => ⟨hb, (by rw [h]; exact rfl)⟩)
        refine DSteps.cons (fun Wd hd => ?_) ?_
        ·
          exact DV.dr (dx_not rfl rfl) ⟨Below.refl _ _, rfl⟩
        refine DSteps.cons (fun Wd hd => ?_) ?_
        ·
          exact DV.dr (dx_move rfl rfl) ⟨Below.refl _ _, by rw [hb17]; rfl⟩
        refine DSteps.cons (fun Wd hd => ?_) ?_
        ·
          cases b17
          ·
            exact DV.dr (dx_move rfl rfl) ⟨Below.refl _ _, rfl⟩
          ·
            exact DV.dr (dv_off rfl) ⟨Below.refl _ _, rfl⟩
        refine DSteps.cons (fun Wd hd => ?_) ?_
        ·
          cases b17
          ·
            exact DV.dr (dx_gtr rfl rfl rfl) ⟨Below.refl _ _, rfl⟩
          ·
            exact DV.dr (dv_off rfl) ⟨Below.refl _ _, rfl⟩
        refine DSteps.cons (fun Wd hd => ?_) ?_
        ·
          cases b17
          ·
            exact DV.dr (dx_move rfl rfl) ⟨Below.refl _ _, by rw [hb18]; rfl⟩
          ·
            exact DV.dr (dv_off rfl) ⟨Below.refl _ _, by rw [hb18]; rfl⟩
        refine DSteps.cons (fun Wd hd => ?_) ?_
        ·
          cases b17
          ·
            cases b18
            ·
              exact DV.dr (dv_off rfl) ⟨Below.refl _ _, rfl⟩
            ·
              exact DV.dr (dx_move rfl rfl) ⟨Below.refl _ _, rfl⟩
          ·
            cases b18
            ·
              exact DV.dr (dv_off rfl) ⟨Below.refl _ _, rfl⟩
            ·
              exact absurd hb18 (by simp)
        refine DSteps.cons (fun Wd hd => ?_) ?_
        ·
          cases b17
          ·
            cases b18
            ·
              exact DV.dr (dv_off rfl) ⟨Below.refl _ _, rfl⟩
            ·
              exact DV.dr (dx_move rfl rfl) ⟨Below.refl _ _, rfl⟩
          ·
            cases b18
            ·
              exact DV.dr (dv_off rfl) ⟨Below.refl _ _, rfl⟩
            ·
              exact absurd hb18 (by simp)
        refine DSteps.cons (fun Wd hd => ?_) ?_
        ·
          cases b17
          ·
            cases b18
            ·
              exact DV.dr (dv_off rfl) ⟨Below.refl _ _, rfl⟩
            ·
              exact DV.dr (dx_sub (r := (i : Int) - 1) rfl rfl rfl (wrap64_id (by omega))) ⟨Below.refl _ _, rfl⟩
          ·
            cases b18
            ·
              exact DV.dr (dv_off rfl) ⟨Below.refl _ _, rfl⟩
            ·
              exact absurd hb18 (by simp)
        refine DSteps.cons (fun Wd hd => ?_) ?_
        ·
          cases b17
          ·
            cases b18
            ·
              exact DV.dr (dv_off rfl) ⟨Below.refl _ _, fun h => by cases h⟩
            ·
              have h1 := h1.below hd
              exact (dx_idxF (i - 1) rfl ty_slice_38 rfl rfl h1 (by first | omega | (have hq_ := of_decide_eq_true hb18.symm; omega)) (at_mapX e20)).mono (fun v W' h => ⟨by rw [← h.1]; exact Below.refl _ _, fun _ => by rw [← h.1]; exact h.2⟩)
          ·
            cases b18
            ·
              exact DV.dr (dv_off rfl) ⟨Below.refl _ _, fun h => by cases h⟩
            ·
              exact absurd hb18 (by simp)
        refine DSteps.cons (fun Wd hd => ?_) ?_
        ·
          intro u6_13 p6_13
          cases b17
          ·
            cases b18
            ·
              exact DV.dr (dv_off rfl) ⟨Below.refl _ _, fun h => by cases h⟩
            ·
              replace p6_13 := p6_13 rfl
              exact (dx_fldP 2 rfl ty_fld_42_0_0 rfl p6_13 (cs' := [.string r19.1.1, .string r19.1.2]) rfl (Nat.succ_pos _)).mono (fun v W' h => ⟨by rw [← h.1]; exact Below.refl _ _, fun _ => by rw [← h.1]; exact h.2⟩)
          ·
            cases b18
            ·
              exact DV.dr (dv_off rfl) ⟨Below.refl _ _, fun h => by cases h⟩
            ·
              replace p6_13 := p6_13 rfl
              exact absurd hb18 (by simp)
        refine DSteps.cons (fun Wd hd => ?_) ?_
        ·
          intro u6_14 p6_14
          cases b17
          ·
            cases b18
            ·
              exact DV.dr (dv_off rfl) ⟨Below.refl _ _, rfl⟩
            ·
              replace p6_14 := p6_14 rfl
              exact DV.dr (dx_loadPN rfl ty_agg_40_2 rfl p6_14 rfl) ⟨Below.refl _ _, rfl⟩
          ·
            cases b18
            ·
              exact DV.dr (dv_off rfl) ⟨Below.refl _ _, rfl⟩
            ·
              replace p6_14 := p6_14 rfl
              exact absurd hb18 (by simp)
        refine DSteps.cons (fun Wd hd => ?_) ?_
        ·
          cases b17
          ·
            cases b18
            ·
              exact DV.dr (dv_off rfl) ⟨Below.refl _ _, rfl⟩
            ·
              exact DV.dr (dx_move rfl rfl) ⟨Below.refl _ _, rfl⟩
          ·
            cases b18
            ·
              exact DV.dr (dv_off rfl) ⟨Below.refl _ _, rfl⟩
            ·
              exact absurd hb18 (by simp)
        refine DSteps.cons (fun Wd hd => ?_) ?_
        ·
          cases b17
          ·
            cases b18
            ·
              exact DV.dr (dv_off rfl) ⟨Below.refl _ _, rfl⟩
            ·
              exact DV.dr (dx_move rfl rfl) ⟨Below.refl _ _, rfl⟩
          ·
            cases b18
            ·
              exact DV.dr (dv_off rfl) ⟨Below.refl _ _, rfl⟩
            ·
              exact absurd hb18 (by simp)
        refine DSteps.cons (fun Wd hd => ?_) ?_
        ·
          cases b17
          ·
            cases b18
            ·
              exact DV.dr (dv_off rfl) ⟨Below.refl _ _, fun h => by cases h⟩
            ·
              have h1 := h1.below hd
              exact (dx_idxF i rfl ty_slice_38 rfl rfl h1 (by first | omega | (have hq_ := of_decide_eq_true hb18.symm; omega)) (at_mapX e16)).mono (fun v W' h => ⟨by rw [← h.1]; exact Below.refl _ _, fun _ => by rw [← h.1]; exact h.2⟩)
          ·
            cases b18
            ·
              exact DV.dr (dv_off rfl) ⟨Below.refl _ _, fun h => by cases h⟩
            ·
              exact absurd hb18 (by simp)
        refine DSteps.cons (fun Wd hd => ?_) ?_
        ·
          intro u6_18 p6_18
          cases b17
          ·
            cases b18
            ·
              exact DV.dr (dv_off rfl) ⟨Below.refl _ _, fun h => by cases h⟩
            ·
              replace p6_18 := p6_18 rfl
              exact (dx_fldP 2 rfl ty_fld_42_0_0 rfl p6_18 (cs' := [.string r15.1.1, .string r15.1.2]) rfl (Nat.succ_pos _)).mono (fun v W' h => ⟨by rw [← h.1]; exact Below.refl _ _, fun _ => by rw [← h.1]; exact h.2⟩)
          ·
            cases b18
            ·
              exact DV.dr (dv_off rfl) ⟨Below.refl _ _, fun h => by cases h⟩
            ·
              replace p6_18 := p6_18 rfl
              exact absurd hb18 (by simp)
        refine DSteps.cons (fun Wd hd => ?_) ?_
        ·
          intro u6_19 p6_19
          cases b17
          ·
            cases b18
            ·
              exact DV.dr (dv_off rfl) ⟨Below.refl _ _, rfl⟩
            ·
              replace p6_19 := p6_19 rfl
              exact DV.dr (dx_loadPN rfl ty_agg_40_2 rfl p6_19 rfl) ⟨Below.refl _ _, rfl⟩
          ·
            cases b18
            ·
              exact DV.dr (dv_off rfl) ⟨Below.refl _ _, rfl⟩
            ·
              replace p6_19 := p6_19 rfl
              exact absurd hb18 (by simp)
        refine DSteps.cons (fun Wd hd => ?_) ?_
        ·
          cases b17
          ·
            cases b18
            ·
              exact DV.dr (dv_off rfl) ⟨Below.refl _ _, rfl⟩
            ·
              exact DR.mono (dx_cv rfl Tryz.func64 rfl rfl rfl (refLess_v r19.1.1 r19.1.2 r15.1.1 r15.1.2 Wd [] (LL.nil _))) (fun v W' ⟨h, hb⟩ => ⟨hb, (by rw [h]; exact rfl)⟩)
          ·
            cases b18
            ·
              exact DV.dr (dv_off rfl) ⟨Below.refl _ _, rfl⟩
            ·
              exact absurd hb18 (by simp)
        refine DSteps.cons (fun Wd hd => ?_) ?_
        ·
          cases b17
          ·
            cases b18
            ·
              exact DV.dr (dv_off rfl) ⟨Below.refl _ _, rfl⟩
            ·
              exact DV.dr (dx_not rfl rfl) ⟨Below.refl _ _, rfl⟩
          ·
            cases b18
            ·
              exact DV.dr (dv_off rfl) ⟨Below.refl _ _, rfl⟩
            ·
              exact absurd hb18 (by simp)
        refine DSteps.cons (fun Wd hd => ?_) ?_
        ·
          cases b17
          ·
            cases b18
            ·
              exact DV.dr (dx_pick rfl rfl rfl) ⟨Below.refl _ _, rfl⟩
            ·
              exact DV.dr (dx_pick rfl rfl rfl) ⟨Below.refl _ _, rfl⟩
          ·
            cases b18
            ·
              exact DV.dr (dv_off rfl) ⟨Below.refl _ _, rfl⟩
            ·
              exact absurd hb18 (by simp)
        refine DSteps.cons (fun Wd hd => ?_) ?_
        ·
          cases b17
          ·
            exact DV.dr (dx_pick rfl rfl rfl) ⟨Below.refl _ _, rfl⟩
          ·
            exact DV.dr (dx_pick rfl rfl rfl) ⟨Below.refl _ _, rfl⟩
        exact trivial
      ·
        intro W21 b22
        intro u6_2 p6_2
        intro _ _
        intro _ _
        intro _ _
        intro _ _
        replace h1 := h1.below b22
        replace hB := below_then hB b22
        replace hL := LL.below hL b22
        refine WL.nil ?_
        refine hK14 ?_
        refine WC.cond rfl (fun c23 => ?_) (fun c23 => ?_)
        ·
          refine WC.seq fun K24 hK24 => ?_
          refine WC.region ?_
          refine WL.val (dx_assign rfl rfl) rfl rfl ?_
          refine WL.nil ?_
          refine hK24 ?_
          refine WC.ret fun a_ ha_ => ?_
          exact hQ (cv_ret1 rfl (.tmp rfl) (by rw [show rightB xs = false from right_fD (g := goodB) (r := (fun a b => lessA (a.1.1, a.1.2) (b.1.1, b.1.2))) e20 e16 hb17 hb18 c23]) hB ha_)
        ·
          obtain ⟨g25, g26⟩ := bor_f c23
          refine WC.skip ?_
          refine hK13 ?_
          refine WC.region ?_
          refine WL.val (dx_move rfl rfl) rfl rfl ?_
          refine WL.val (dx_add (r := (i : Int) + 1) rfl rfl rfl (wrap64_id (by omega))) rfl rfl ?_
          refine WL.val (dx_assign rfl rfl) rfl rfl ?_
          refine WL.nil ?_
          obtain ⟨hv', hu'⟩ := stepD (g := goodB) (r := (fun a b => lessA (a.1.1, a.1.2) (b.1.1, b.1.2))) hv hu e20 e16 hb17 hb18 g25 g26
          exact hK8 (i + 1) ⟨(by omega), hv', hu', hB, hL, h1⟩ (by omega) (by repeat first | exact trivial | exact And.intro rfl trivial | refine And.intro rfl ?_ | refine And.intro (congrArg (fun z : Int => some (Value.int .i64 z)) (by omega)) ?_)
    ·
      replace c12 := of_decide_eq_false c12
      refine WC.exit ?_
      refine hK6 ?_
      refine WC.seq fun K27 hK27 => ?_
      refine WC.region ?_
      refine WL.val (dx_assign rfl rfl) rfl rfl ?_
      refine WL.nil ?_
      refine hK27 ?_
      refine WC.ret fun a_ ha_ => ?_
      exact hQ (cv_ret1 rfl (.tmp rfl) (by rw [show rightB xs = true from right_t (by omega) (fun k a hk => hv k a (by omega)) (fun k a b hk => hu k a b (by omega))]) hB ha_)

end Go.Proofs.YthefddclefimoaaGreatDoor
namespace Go.Proofs.YthefddclefimoaaGreatDoor
open Go.RowKit Go.Sort
set_option linter.unusedVariables false
set_option linter.unusedSimpArgs false
-- the order of lists of bytes
theorem bl_lt : ∀ x y : List UInt8, Op.bytesLess x y = decide (x < y)
  | _, [] => by cases ‹List UInt8› <;> simp [Op.bytesLess]
  | [], _ :: _ => by simp [Op.bytesLess]
  | a :: x, b :: y => by
    rw [Op.bytesLess, bl_lt x y]
    rcases u8_tri a b with h | h | h
    · simp [h, List.cons_lt_cons_iff]
    · subst h
      simp [List.cons_lt_cons_iff]
    · obtain ⟨h1, h2⟩ := u8_no h
      have h3 : ¬ a = b := fun e => h2 e.symm
      simp [h1, h3, List.cons_lt_cons_iff]
theorem bl_le (x y : List UInt8) : decide (x ≤ y) = !Op.bytesLess y x := by
  rw [bl_lt]
  by_cases h : y < x
  · simp [h, List.not_le.2 h]
  · simp [h, List.not_lt.1 h]
abbrev bL (s : ByteArray) : List UInt8 := s.data.toList
abbrev bA (l : List UInt8) : ByteArray := ⟨l.toArray⟩
theorem bA_bL (s : ByteArray) : bA (bL s) = s := rfl
/-- Sorted; each once. -/
def sortT (ts : List ByteArray) : List ByteArray := ((ts.map bL).mergeSort fun x y => decide (x ≤ y)).map bA
def onceT (ts : List ByteArray) : List ByteArray := (Lib.compact (ts.map bL)).map bA
theorem bL_bA (l : List UInt8) : bL (bA l) = l := rfl
theorem sless_bA (x y : List UInt8) : sless (bA x) (bA y) = Op.bytesLess x y := by
  unfold sless
  rw [ByteArray.toList_eq, ByteArray.toList_eq]
theorem sortT_len (ts : List ByteArray) : (sortT ts).length = ts.length := by simp [sortT, List.length_mergeSort]
theorem sortT_mem (ts : List ByteArray) (s : ByteArray) : s ∈ sortT ts ↔ s ∈ ts := by
  unfold sortT
  simp only [List.mem_map, List.mem_mergeSort]
  constructor
  · rintro ⟨l, ⟨t, ht, rfl⟩, rfl⟩
    exact ht
  · exact fun h => ⟨_, ⟨s, h, rfl⟩, rfl⟩
theorem sortT_le (ts : List ByteArray) : (sortT ts).Pairwise fun a b => sless b a = false := by
  unfold sortT
  rw [List.pairwise_map]
  have h := List.pairwise_mergeSort (le := fun x y : List UInt8 => decide (x ≤ y)) (fun a b c h1 h2 => ?_) (fun a b => ?_) (ts.map bL)
  · refine h.imp fun {a b} hab => ?_
    rw [sless_bA]
    rw [bl_le] at hab
    simpa using hab
  · simp only [bl_le, Bool.not_eq_true'] at h1 h2 ⊢
    rcases bl_tri c a with ⟨p, _, _⟩ | ⟨p, _, _⟩ | rfl
    · rcases bl_tri b a with ⟨q, _, _⟩ | ⟨_, q, _⟩ | rfl
      · rw [q] at h1; cases h1
      · rw [bl_trans _ _ _ p q] at h2; cases h2
      · rw [p] at h2; cases h2
    · exact p
    · exact bl_irrefl _
  · simp only [bl_le, Bool.or_eq_true, Bool.not_eq_true']
    rcases bl_tri a b with ⟨_, p, _⟩ | ⟨p, _, _⟩ | rfl
    · exact .inl p
    · exact .inr p
    · exact .inl (bl_irrefl _)
theorem once_mem (zs : List (List UInt8)) (x : List UInt8) : x ∈ Lib.compact zs ↔ x ∈ zs := by
  unfold Lib.compact Lib.compactUpTo
  simp only [List.mem_map, List.mem_filter, List.mem_range]
  constructor
  · rintro ⟨j, ⟨hj, _⟩, rfl⟩
    rw [getElem!_pos zs.toArray j (by simpa using hj)]
    exact List.getElem_mem _
  · intro hx
    obtain ⟨k, hk, rfl⟩ := List.getElem_of_mem hx
    have key : ∀ n k (hk : k < zs.length), k ≤ n → ∃ j, (j < zs.length ∧ Lib.keeps zs.toArray j = true) ∧ zs.toArray[j]! = zs[k] := by
      intro n
      induction n with
      | zero =>
        intro k hk hn
        obtain rfl : k = 0 := by omega
        exact ⟨0, ⟨hk, by simp [Lib.keeps]⟩, by rw [getElem!_pos zs.toArray 0 (by simpa using hk)]; rfl⟩
      | succ n ih =>
        intro k hk hn
        by_cases hq : Lib.keeps zs.toArray k = true
        · exact ⟨k, ⟨hk, hq⟩, by rw [getElem!_pos zs.toArray k (by simpa using hk)]; rfl⟩
        · have h1 : ¬ (k = 0 ∨ zs.toArray[k]! ≠ zs.toArray[k - 1]!) := fun h => hq (by unfold Lib.keeps; exact decide_eq_true h)
          have h2 : k ≠ 0 := fun e => h1 (.inl e)
          have h3 : zs.toArray[k]! = zs.toArray[k - 1]! := Classical.byContradiction fun e => h1 (.inr e)
          obtain ⟨j, hj, e⟩ := ih (k - 1) (by omega) (by omega)
          refine ⟨j, hj, ?_⟩
          rw [getElem!_pos zs.toArray k (by simpa using hk), getElem!_pos zs.toArray (k - 1) (by simp; omega)] at h3
          rw [e]
          simpa using h3.symm
    exact key k k hk (Nat.le_refl _)
theorem onceT_mem (ts : List ByteArray) (s : ByteArray) : s ∈ onceT ts ↔ s ∈ ts := by
  unfold onceT
  simp only [List.mem_map, once_mem]
  constructor
  · rintro ⟨l, ⟨t, ht, rfl⟩, rfl⟩
    exact ht
  · exact fun h => ⟨_, ⟨s, h, rfl⟩, rfl⟩
theorem onceT_up {ts : List ByteArray} (h : ts.Pairwise fun a b => sless b a = false) : (onceT ts).Pairwise fun a b => sless a b = true := by
  unfold onceT Lib.compact Lib.compactUpTo
  rw [List.map_map, List.pairwise_map]
  refine List.Pairwise.imp_of_mem ?_ (List.Pairwise.filter _ List.pairwise_lt_range)
  intro i j hi hj hij
  simp only [List.mem_filter, List.mem_range, List.length_map] at hi hj
  have gi : (ts.map bL).toArray[i]! = bL ts[i] := by rw [getElem!_pos _ i (by simpa using hi.1)]; simp
  have gj : (ts.map bL).toArray[j]! = bL ts[j] := by rw [getElem!_pos _ j (by simpa using hj.1)]; simp
  have gp : (ts.map bL).toArray[j - 1]! = bL (ts[j - 1]'(by omega)) := by rw [getElem!_pos _ (j - 1) (by simp; omega)]; simp
  have hk := of_decide_eq_true hj.2
  rw [gj, gp] at hk
  have hne : ts[j] ≠ ts[j - 1]'(by omega) := by
    rcases hk with hk | hk
    · omega
    · exact fun e => hk (by rw [e])
  have h1 := List.pairwise_iff_getElem.1 h (j - 1) j (by omega) hj.1 (by omega)
  show sless (bA (ts.map bL).toArray[i]!) (bA (ts.map bL).toArray[j]!) = true
  rw [gi, gj]
  show sless ts[i] ts[j] = true
  have h2 : sless (ts[j - 1]'(by omega)) ts[j] = true := by
    rcases sless_tri (ts[j - 1]'(by omega)) ts[j] with ⟨p, _, _⟩ | ⟨_, p, _⟩ | p
    · exact p
    · rw [p] at h1; cases h1
    · exact absurd p.symm hne
  by_cases hij' : i = j - 1
  · subst hij'; exact h2
  · have h3 := List.pairwise_iff_getElem.1 h i (j - 1) hi.1 (by omega) (by omega)
    rcases sless_tri ts[i] (ts[j - 1]'(by omega)) with ⟨p, _, _⟩ | ⟨_, p, _⟩ | p
    · exact sless_trans _ _ _ p h2
    · rw [p] at h3; cases h3
    · rw [p]; exact h2
-- texts of one's own
theorem flat_T {enc : ByteArray → List Value} (he : ∀ s, enc s = [.string s]) : ∀ ts : List ByteArray, (ts.map enc).flatten = (ts.map bL).map encStr
  | [] => rfl
  | a :: l => by rw [List.map_cons, List.flatten_cons, flat_T he l, he]; rfl
theorem OwS.holds {w : World} {v : Value} {ts : List ByteArray} {B : Nat} {enc : ByteArray → List Value} (he : ∀ s, enc s = [.string s]) (h : OwS 1 w v (ts.map enc) B) : ∃ cap cur t, v = .slice (some ⟨B, 0, none⟩) (ts.map bL).length cap ∧ ts.length ≤ cap ∧ cap ≤ maxLen ∧ w.heap[B]? = some (.cells cur t (0, 0)) ∧ cur.size = cap ∧ Holds encStr w B 0 (ts.map bL).toArray := by
  obtain ⟨_, hr, cap, sp, rfl, h1, h2, h3, t, hb⟩ := h
  simp only [List.length_map, Nat.mul_one] at h1 h3
  rw [flat_T he] at hb
  refine ⟨cap, _, t, by simp, h1, h2, hb, by simp; omega, fun j hj => ?_⟩
  have hj' : j < ts.length := by simpa using hj
  refine ⟨?_, by simp [World.frozen?, hb]⟩
  refine (Blk.range ⟨t, hb⟩) j _ ?_
  rw [List.getElem?_append_left (by simpa using hj'), getElem!_pos _ j hj]
  simp [hj']
theorem ows_cur {w : World} {B n cap : Nat} {t : TypeId} {cur : Array Value} {ts : List ByteArray} {enc : ByteArray → List Value} (he : ∀ s, enc s = [.string s]) (hb : w.heap[B]? = some (.cells cur t (0, 0))) (hs : cur.size = cap) (hn : n ≤ cap) (hc : cap ≤ maxLen) (ht : cur.toList.take n = (ts.map bL).map encStr) (hl : ts.length = n) : OwS 1 w (.slice (some ⟨B, 0, none⟩) n cap) (ts.map enc) B := by
  refine ⟨by decide, fun r hr => ?_, cap, cur.toList.drop n, by rw [List.length_map, hl], by rw [List.length_map, hl]; exact hn, hc, by rw [List.length_drop, Array.length_toList, hs, List.length_map, hl, Nat.mul_one], t, ?_⟩
  · obtain ⟨s, _, rfl⟩ := List.mem_map.1 hr
    rw [he]; rfl
  · rw [flat_T he, ← ht, List.take_append_drop]
    exact hb
theorem sort_own {P : Program} {F : FuncId} {enc : ByteArray → List Value} (he : ∀ s, enc s = [.string s]) (hS : ∀ (blk off cap : Nat) (ss : List (List UInt8)) (w : World), Holds encStr w blk off ss.toArray → blk < w.heap.size → ss.length < 4611686018427387904 → Calls P F #[.slice (some ⟨blk, off, none⟩) ss.length cap] w fun e w' => e = .returned (.tuple #[]) ∧ ∃ n os, w' = grow (putRow encStr (Sort.ahead w n) blk off (ss.mergeSort fun x y => decide (x ≤ y)).toArray) os)
    {w : World} {v : Value} {ts : List ByteArray} {B : Nat} (h : OwS 1 w v (ts.map enc) B) (hlen : ts.length ≤ 1000000) : Calls P F [v].toArray w fun e w' => ∃ x, e = .returned x ∧ x = .tuple #[] ∧ OwS 1 w' v ((sortT ts).map enc) B ∧ Chg B w w' := by
  have hlt := h.lt
  obtain ⟨cap, cur, t, rfl, h1, h2, h3, h4, h5⟩ := h.holds he
  refine (hS B 0 cap (ts.map bL) w h5 hlt (by simp; omega)).mono ?_
  rintro e w' ⟨rfl, n, os, rfl⟩
  have hg := grownBy_sorted (w := w) (g := B) (n := n) (os := os) ((ts.map bL).mergeSort fun x y => decide (x ≤ y)).toArray
  refine ⟨_, rfl, rfl, ?_, hg.os, hg.tape, hg.output, hg.size, fun k hk hne => hg.block k hk (by simpa using hne)⟩
  refine ows_cur he (heap_sorted _ h3) (by simp [putCells, h4]) (by simpa using h1) h2 ?_ (by simp [sortT_len])
  have hl : ((ts.map bL).mergeSort fun x y => decide (x ≤ y)).length = (ts.map bL).length := List.length_mergeSort _
  have := take_putCells cur ((ts.map bL).mergeSort fun x y => decide (x ≤ y)) (by rw [hl, List.length_map]; omega)
  rw [hl] at this
  rw [this]
  simp [sortT, Function.comp_def]
theorem once_own {P : Program} {F : FuncId} {enc : ByteArray → List Value} (he : ∀ s, enc s = [.string s]) (hS : ∀ (blk off cap : Nat) (zs : List (List UInt8)) (w : World), Holds encStr w blk off zs.toArray → zs.length ≤ 9223372036854775807 → zs.length ≤ cap → Calls P F #[.slice (some ⟨blk, off, none⟩) zs.length cap] w fun e w' => e = .returned (.slice (some ⟨blk, off, none⟩) (Lib.compact zs).length cap) ∧ ∃ q, w' = putRow encStr (Sort.ahead w q) blk off (Lib.compact zs ++ List.replicate (zs.length - (Lib.compact zs).length) []).toArray)
    {w : World} {v : Value} {ts : List ByteArray} {B : Nat} (h : OwS 1 w v (ts.map enc) B) (hlen : ts.length ≤ 1000000) : Calls P F [v].toArray w fun e w' => ∃ x, e = .returned x ∧ OwS 1 w' x ((onceT ts).map enc) B ∧ Chg B w w' := by
  have hlt := h.lt
  obtain ⟨cap, cur, t, rfl, h1, h2, h3, h4, h5⟩ := h.holds he
  have hle := Lib.compact_length_le (ts.map bL)
  rw [List.length_map] at hle
  refine (hS B 0 cap (ts.map bL) w h5 (by simp; omega) (by simpa using h1)).mono ?_
  rintro e w' ⟨rfl, q, rfl⟩
  refine ⟨_, rfl, ?_, ⟨rfl, rfl, rfl, by simp [putRow, mapBlock, Sort.ahead], fun k hk hne => ?_⟩⟩
  · have hb : (putRow encStr (Sort.ahead w q) B 0 (Lib.compact (ts.map bL) ++ List.replicate ((ts.map bL).length - (Lib.compact (ts.map bL)).length) []).toArray).heap[B]? = some (.cells (putCells encStr 0 (Lib.compact (ts.map bL) ++ List.replicate ((ts.map bL).length - (Lib.compact (ts.map bL)).length) []).toArray cur) t (0, 0)) := by
      simp [putRow, mapBlock, Sort.ahead, Array.getElem?_modify, h3, onCells]
    refine ows_cur he hb (by simp [putCells, h4]) (by omega) h2 ?_ (by simp [onceT])
    have hl : (Lib.compact (ts.map bL) ++ List.replicate ((ts.map bL).length - (Lib.compact (ts.map bL)).length) []).length = ts.length := by simp; omega
    have := take_putCells cur (Lib.compact (ts.map bL) ++ List.replicate ((ts.map bL).length - (Lib.compact (ts.map bL)).length) []) (by omega)
    rw [hl] at this
    have h6 : ∀ l : List Value, (l.take ts.length).take (Lib.compact (ts.map bL)).length = l.take (Lib.compact (ts.map bL)).length := fun l => by rw [List.take_take]; congr 1; omega
    rw [← h6, this, List.map_append, List.take_append_of_le_length (by simp), List.take_of_length_le (by simp)]
    simp [onceT, Function.comp_def]
  · simp [putRow, mapBlock, Sort.ahead, Array.getElem?_modify, Ne.symm hne]
/-- Nil, or a slice of one's own that is new since the base. -/
def NewW (s base : Nat) (rs : List (List Value)) (u : Value) (w : World) : Prop := (u = .slice none 0 0 ∧ rs = [] ∧ 0 < s) ∨ ∃ B, base ≤ B ∧ OwS s w u rs B
theorem NewW.below {s base : Nat} {rs : List (List Value)} {u : Value} {w w' : World} (h : NewW s base rs u w) (hb : Below w.heap.size w w') : NewW s base rs u w' := by
  rcases h with h | ⟨B, h1, h2⟩
  · exact .inl h
  · exact .inr ⟨B, h1, h2.below hb⟩
theorem NewW.le {s base n : Nat} {rs : List (List Value)} {u : Value} {w : World} (h : NewW s base rs u w) (hn : n ≤ base) : NewW s n rs u w := by
  rcases h with h | ⟨B, h1, h2⟩
  · exact .inl h
  · exact .inr ⟨B, Nat.le_trans hn h1, h2⟩
theorem NewW.rd {s base : Nat} {rs : List (List Value)} {u : Value} {w : World} (h : NewW s base rs u w) {L : List Nat} (hL : ∀ x ∈ L, x < base) : RdF s L w u rs := by
  rcases h with ⟨rfl, rfl, h0⟩ | ⟨B, h1, h2⟩
  · exact RdF.nil h0
  · exact h2.rd (fun hx => by have := hL B hx; omega)
theorem NewS.own {s base : Nat} {rs : List (List Value)} {u : Value} {w : World} (h : NewS s base rs u w) (hn : rs ≠ []) : ∃ B, base ≤ B ∧ OwS s w u rs B := by
  rcases h with ⟨_, h, _⟩ | ⟨B, sp, h1, rfl, h3, _⟩
  · exact absurd h hn
  · exact ⟨B, h1, h3.own⟩
theorem GrowB.from_base {B B' base : Nat} {w w' : World} (h : GrowB B B' w w') (hB : base ≤ B) (hs : base ≤ w.heap.size) : Below base w w' := ⟨h.os, h.tape, h.output, h.size, fun k hk => h.block k (by omega) (by omega)⟩
theorem sort_new {P : Program} {F : FuncId} {enc : ByteArray → List Value} (he : ∀ s, enc s = [.string s]) (hS : ∀ (blk off cap : Nat) (ss : List (List UInt8)) (w : World), Holds encStr w blk off ss.toArray → blk < w.heap.size → ss.length < 4611686018427387904 → Calls P F #[.slice (some ⟨blk, off, none⟩) ss.length cap] w fun e w' => e = .returned (.tuple #[]) ∧ ∃ n os, w' = grow (putRow encStr (Sort.ahead w n) blk off (ss.mergeSort fun x y => decide (x ≤ y)).toArray) os)
    (hN : ∀ (p : Option Addr) (cap : Nat) (w : World), Calls P F #[.slice p 0 cap] w fun e w' => e = .returned (.tuple #[]) ∧ w' = w)
    {w : World} {v : Value} {ts : List ByteArray} {base : Nat} (h : NewW 1 base (ts.map enc) v w) (hb : base ≤ w.heap.size) (hlen : ts.length ≤ 1000000) : Calls P F [v].toArray w fun e w' => ∃ x, e = .returned x ∧ NewW 1 base ((sortT ts).map enc) v w' ∧ Below base w w' := by
  rcases h with ⟨rfl, h, _⟩ | ⟨B, h1, h2⟩
  · have ht : ts = [] := by simpa using h
    subst ht
    exact (hN none 0 w).mono fun e w' ⟨h1, h2⟩ => ⟨_, h1, .inl ⟨rfl, by simp [sortT], by decide⟩, by rw [h2]; exact Below.refl _ _⟩
  · exact (sort_own he hS h2 hlen).mono fun e w' ⟨x, h3, _, h4, h5⟩ => ⟨x, h3, .inr ⟨B, h1, h4⟩, h5.from_base h1 hb⟩
theorem once_new {P : Program} {F : FuncId} {enc : ByteArray → List Value} (he : ∀ s, enc s = [.string s]) (hS : ∀ (blk off cap : Nat) (zs : List (List UInt8)) (w : World), Holds encStr w blk off zs.toArray → zs.length ≤ 9223372036854775807 → zs.length ≤ cap → Calls P F #[.slice (some ⟨blk, off, none⟩) zs.length cap] w fun e w' => e = .returned (.slice (some ⟨blk, off, none⟩) (Lib.compact zs).length cap) ∧ ∃ q, w' = putRow encStr (Sort.ahead w q) blk off (Lib.compact zs ++ List.replicate (zs.length - (Lib.compact zs).length) []).toArray)
    (hN : ∀ (p : Option Addr) (cap : Nat) (w : World), Calls P F #[.slice p 0 cap] w fun e w' => e = .returned (.slice p 0 cap) ∧ w' = w)
    {w : World} {v : Value} {ts : List ByteArray} {base : Nat} (h : NewW 1 base (ts.map enc) v w) (hb : base ≤ w.heap.size) (hlen : ts.length ≤ 1000000) : Calls P F [v].toArray w fun e w' => ∃ x, e = .returned x ∧ NewW 1 base ((onceT ts).map enc) x w' ∧ Below base w w' := by
  rcases h with ⟨rfl, h, _⟩ | ⟨B, h1, h2⟩
  · have ht : ts = [] := by simpa using h
    subst ht
    exact (hN none 0 w).mono fun e w' ⟨h1, h2⟩ => ⟨_, h1, .inl ⟨rfl, by simp [onceT, Lib.compact, Lib.compactUpTo], by decide⟩, by rw [h2]; exact Below.refl _ _⟩
  · exact (once_own he hS h2 hlen).mono fun e w' ⟨x, h3, h4, h5⟩ => ⟨x, h3, .inr ⟨B, h1, h4⟩, h5.from_base h1 hb⟩
section
variable {P : Program} {ops : Array Oper} {o : Oper} {N : Nat} {f : Fl} {w : World} {R : Value → World → Prop}
/-- A slice of two that is written out, of elements of one cell. -/
theorem dx_lit2 {t bytes : Nat} {x y : Operand} {V U : Value} (ho : o.op = .buildSlice t 2 #[(0, x), (1, y)]) (ht : apB P t 1 bytes = true) (hx : ev f x = some V) (hy : ev f y = some U) (hV : V.cells.toList = [V]) (hU : U.cells.toList = [U]) (hw : wantF ops o f = some true := by rfl) : DR P ops o N f w (NewO 1 w [[V], [U]]) := by
  have hV : V.cells = #[V] := Array.ext' hV
  have hU : U.cells = #[U] := Array.ext' hU
  obtain ⟨e, i, Z, hu, hi, hZ, hs, rfl, hzs⟩ := of_apB ht
  refine dx_lit (ps := [(0, V), (1, U)]) (rs := [[V], [U]]) ho hu hi hZ hs (by decide) (by simp [evl, hx, hy]) (by omega) ?_ (by simp) rfl (by unfold maxLen; omega) hw
  rw [if_neg (by decide)]
  have hl : ∀ c : Array Value, c.size = 2 → Instr.fill (fun k => some (k * 1, 1)) c [(0, V), (1, U)] = some #[V, U] := fun c hc => by
    obtain ⟨l⟩ := c
    match l, hc with
    | [a, b], _ => simp [Instr.fill, hV, hU]
  exact hl _ (by simp)
/-- A cell of an element of a slice of one's own, stored. -/
theorem dx_storeF {t s B k j o0 : Nat} {x y : Operand} {V v : Value} {rs : List (List Value)} {r : List Value} (ho : o.op = .store t x y) (ht : sizeB P t 1 = true) (hx : ev f x = some (.pointer (some ⟨B, o0, none⟩))) (hy : ev f y = some V) (hv : V.cells.toList = [V]) (h1 : V.oneCell' = true)
    (hr : OwS s w v rs B) (hk : k * s + j = o0) (hi : rs[k]? = some r) (hj : j < s) (hw : wantF ops o f = some true := by rfl) : DR P ops o N f w fun _ W => OwS s W v (rs.set k (r.set j V)) B ∧ Only B w W := by
  obtain ⟨h0, hrl, cap, sp, rfl, h2, h3, h4, h5⟩ := hr
  obtain ⟨hkl, hrk⟩ := List.getElem?_eq_some_iff.1 hi
  have hl : r.length = s := hrl r (List.mem_of_getElem? hi)
  have hlen : (k + 1) * s ≤ rs.flatten.length := by rw [flat_len hrl]; exact Nat.mul_le_mul_right _ hkl
  rw [Nat.succ_mul] at hlen
  have hf := flat_set hrl (r' := r.set j V) (by rw [List.length_set]; exact hl) hkl sp
  refine (dx_store (cs' := (rs.set k (r.set j V)).flatten ++ sp) (vs := [V]) ho ht hx hy hv (oc_cons h1 oc_nil) h5 rfl (by rw [List.length_append]; omega) ?_ hw).mono fun _ W h => ⟨⟨h0, fun r' hr' => ?_, cap, sp, by rw [List.length_set], by rw [List.length_set]; exact h2, h3, by rw [List.length_set]; exact h4, h.1⟩, h.2⟩
  · rw [← hf, ← hk]
    have hd : (rs.flatten ++ sp).drop (k * s) = r ++ (rs.flatten ++ sp).drop (k * s + s) := by
      have e1 : (rs.flatten ++ sp).drop (k * s) = ((rs.flatten ++ sp).drop (k * s)).take s ++ ((rs.flatten ++ sp).drop (k * s)).drop s := (List.take_append_drop _ _).symm
      have e2 : ((rs.flatten ++ sp).drop (k * s)).take s = r := by
        rw [List.drop_append_of_le_length (by omega), List.take_append_of_le_length (by rw [List.length_drop]; omega)]
        exact flat_row hrl hi
      rw [e1, e2, List.drop_drop]
    have hrs : r.set j V = r.take j ++ ([V] ++ r.drop (j + 1)) := by rw [List.set_eq_take_append_cons_drop, if_pos (by omega)]; rfl
    have e3 : (rs.flatten ++ sp).take (k * s + j) = (rs.flatten ++ sp).take (k * s) ++ r.take j := by
      rw [List.take_add, hd]
      congr 1
      exact List.take_append_of_le_length (by omega)
    have e4 : (rs.flatten ++ sp).drop (k * s + j + 1) = r.drop (j + 1) ++ (rs.flatten ++ sp).drop (k * s + s) := by
      rw [show k * s + j + 1 = k * s + (j + 1) by omega, ← List.drop_drop, hd, List.drop_append_of_le_length (by omega)]
    rw [e3, e4, hrs]
    simp [List.append_assoc]
  · rcases List.mem_or_eq_of_mem_set hr' with h | h
    · exact hrl r' h
    · rw [h, List.length_set]; exact hl
/-- An append to what is new. -/
theorem dx_apW {t s bytes base : Nat} {x y : Operand} {u v2 : Value} {rs news : List (List Value)} {L : List Nat} (ho : o.op = .call { callee := .builtin .append, args := #[x, y], argTypes := #[t, t] }) (ht : apB P t s bytes = true) (hx : ev f x = some u) (hy : ev f y = some v2)
    (h : NewW s base rs u w) (h2 : RdF s L w v2 news) (h1 : ∀ r ∈ news, ∀ u ∈ r, u.oneCell' = true) (hm : rs.length + news.length ≤ maxLen) (hby : (rs.length + news.length) * bytes ≤ 140737488355328) (hb : base ≤ w.heap.size) (hw : wantF ops o f = some true := by rfl) : DR P ops o N f w fun u' W => NewW s base (rs ++ news) u' W ∧ Below base w W := fun a ha => by
  rcases h with ⟨rfl, rfl, h0⟩ | ⟨B, hB, hO⟩
  · by_cases hn : news = []
    · subst hn
      obtain ⟨e, q, Z, hu, hi, hz, rfl, rfl, hzs⟩ := of_apB ht
      have hx := ha.ev hx
      have hy := ha.ev hy
      obtain ⟨_, hl2, a2, cap2, rfl, hd1, hd2, hd3, hd4⟩ := h2
      have hr0 : (Builtin.append_ #[t, t] o.type #[.slice none 0 0, .slice a2 0 cap2]).run P w = .ok (.slice none 0 0) w := by
        cases a2 with
        | none => simp [Builtin.append_, run_underlying hu, sizeOf, typeInfo, hi, Builtin.lenOf, Builtin.firstCells, storeCells]
        | some a2 => simp [Builtin.append_, run_underlying hu, sizeOf, typeInfo, hi, Builtin.lenOf, Builtin.firstCells, loadCells, loadCellsFrom, storeCells]
      refine Does.of_wp (wantF_of ha hw) fun K hK => ?_
      unfold Oper.wp execOp
      simp only [List.length_nil] at hy
      simp only [ho, resolve, invoke, builtin, Sem.run_bind, Sem.run_pure, Result.andThen_ok, List.map_toArray, List.map_cons, List.map_nil, hx, hy, hr0]
      exact hK _ _ ⟨.inl ⟨rfl, rfl, h0⟩, Below.refl _ _⟩
    · refine Does.mono (dx_apF (rs := []) ho ht hx hy (RdF.nil (L := L) h0) h2 hn hm hby hw a ha) fun v W ⟨k1, k2, k3⟩ => ⟨.inr ⟨_, hb, k1⟩, k2.mono hb⟩
  · exact Does.mono (dx_apO' ho ht hx hy hO h2 h1 hm hby hw a ha) fun v W ⟨B', k1, k2⟩ => ⟨.inr ⟨B', k2.le hB hb, k1⟩, k2.from_base hB hb⟩
/-- nil[:0] and nil[0:0]. -/
theorem dx_slNH {t s : Nat} {x y : Operand} {K : IntKind} (ho : o.op = .slice t x none (some y) none) (ht : sliceB P t s = true) (hx : ev f x = some (.slice none 0 0)) (hy : ev f y = some (.int K 0)) (hw : wantF ops o f = some true := by rfl) : DV P ops o N f w (.slice none 0 0) := fun a ha => by
  obtain ⟨e, hu, hs⟩ := of_sliceB ht
  have hx := ha.ev hx
  have hy := ha.ev hy
  cases hi : P.info? e with
  | none => rw [hi] at hs; cases hs
  | some q =>
    refine Does.pure (wantF_of ha hw) _ ?_ ⟨rfl, rfl⟩
    unfold execOp
    simp only [ho, Option.map_none, Option.map_some, hx, hy, Instr.sliceAt, Sem.run_bind, run_underlying hu, Result.andThen_ok, Instr.slice, Instr.sliceBounds, Instr.sliceBound, asIntOf, Sem.run_pure, sizeOf, typeInfo, run_program, hi]
    rw [if_pos (by decide)]
    exact rfl
/-- An append of zeros to nil: room for so many. -/
theorem dx_apZ0 {t tn s bytes : Nat} {K kn : IntKind} {x y : Operand} {j : Int} (m : Nat) (ho : o.op = .call { callee := .builtin .append, args := #[x, y], argTypes := #[t, tn] }) (ht : apB P t s bytes = true) (htn : P.underlying tn = some (.int kn)) (hs : 0 < s) (hx : ev f x = some (.slice none 0 0)) (hy : ev f y = some (.int K j)) (hj : j = (m : Int)) (hm0 : 0 < m) (hm : m ≤ 1000000) (hby : m * bytes ≤ 140737488355328) (hw : wantF ops o f = some true := by rfl) :
    DR P ops o N f w fun u W => ∃ c, u = .slice (some ⟨w.heap.size, 0, none⟩) m c ∧ m ≤ c ∧ OwS s W (.slice (some ⟨w.heap.size, 0, none⟩) 0 c) [] w.heap.size ∧ Below w.heap.size w W ∧ w.heap.size < W.heap.size := fun a ha => by
  subst hj
  obtain ⟨e, q, Z, hu, hi', hz, rfl, rfl, hzs⟩ := of_apB ht
  have hx := ha.ev hx
  have hy := ha.ev hy
  have hrun := Lib.run_append_nil_zeros (P := P) w t tn o.type e q Z K kn hu htn hi' hz m hm0 hs (by omega) (by omega)
  have hge : m ≤ grownCap w m 0 e := by have := grownCap_ge w m 0 e; omega
  refine Does.of_wp (wantF_of ha hw) fun K hK => ?_
  unfold Oper.wp execOp
  simp only [ho, resolve, invoke, builtin, Sem.run_bind, Sem.run_pure, Result.andThen_ok, List.map_toArray, List.map_cons, List.map_nil, hx, hy, hrun]
  refine hK _ _ ⟨_, rfl, hge, ⟨hs, by simp, grownCap w m 0 e, (Builtin.zeroCells Z.cells m ++ Builtin.zeroCells Z.cells (grownCap w m 0 e - m)).toList, by simp, by simp, grownCap_le_maxLen _ _ _ _ (by unfold maxLen; omega), ?_, e, ?_⟩, below_alloc (below_draws (Below.refl _ _) 1) _, ?_⟩
  · rw [Array.length_toList, Array.size_append, size_zeroCells, size_zeroCells, hzs, ← Nat.add_mul, List.length_nil, Nat.sub_zero]
    congr 1
    omega
  · rw [show w.heap.size = w.drew.heap.size from (World.size_drew w).symm, heap_alloc_new]
    simp
  · rw [World.size_alloc, World.size_drew]
    omega
end
end Go.Proofs.YthefddclefimoaaGreatDoor
namespace Go.Proofs.YthefddclefimoaaGreatDoor
open Go.RowKit
set_option linter.unusedVariables false
set_option linter.unusedSimpArgs false
set_option maxRecDepth 8000

abbrev atB (xs : List BondX) (wt : BondX) : Int × Bool := placeB xs wt.1.1 wt.1.2
def bindE (xs : List BondX) (wt : BondX) : Int := if rightB xs = true ∧ goodB wt = true then (if (atB xs wt).2 = true then 0 else if (xs.length : Int) = 64 then 10 else 0) else 1
def bindB (xs : List BondX) (wt : BondX) : List BondX := if bindE xs wt = 0 then (if (atB xs wt).2 = true then xs.set (atB xs wt).1.toNat wt else xs.take (atB xs wt).1.toNat ++ (wt :: xs.drop (atB xs wt).1.toNat)) else xs
def unbE (xs : List BondX) (wt : BondX) : Int := if rightB xs = true then (if (atB xs wt).2 = true then (if ((xs[(atB xs wt).1.toNat]?).getD noB).2.1 = wt.2.1 then 0 else 14) else 7) else 1
def unbB (xs : List BondX) (wt : BondX) : List BondX := if unbE xs wt = 0 then xs.take (atB xs wt).1.toNat ++ xs.drop ((atB xs wt).1.toNat + 1) else xs
def encAd (p : ByteArray × ByteArray) : List Value := [.string p.1, .string p.2]
theorem oc_Ad (p : ByteArray × ByteArray) : ∀ u ∈ encAd p, u.oneCell' = true := oc_cons rfl (oc_cons rfl oc_nil)
def ofB (xs : List BondX) (mx : ByteArray) : List (ByteArray × ByteArray) := if rightB xs = true then (xs.filter fun b => decide (b.2.1 = mx)).map (·.1) else []
theorem ins_rowsB (xs : List BondX) (wt : BondX) (k : Nat) : (xs.map encB).take k ++ ([encB wt] ++ (xs.map encB).drop k) = (xs.take k ++ (wt :: xs.drop k)).map encB := by simp
theorem del_rowsB (xs : List BondX) (k : Nat) : (xs.map encB).take k ++ (xs.map encB).drop (k + 1) = (xs.take k ++ xs.drop (k + 1)).map encB := by simp
theorem of_step {xs : List BondX} {i : Nat} {b : BondX} (mx : ByteArray) (h : xs[i]? = some b) : ((xs.take (i + 1)).filter fun b => decide (b.2.1 = mx)).map (·.1) = ((xs.take i).filter fun b => decide (b.2.1 = mx)).map (·.1) ++ (if b.2.1 = mx then [b.1] else []) := by
  obtain ⟨hl, rfl⟩ := List.getElem?_eq_some_iff.1 h
  rw [List.take_succ_eq_append_getElem hl, List.filter_append, List.map_append]
  by_cases hm : xs[i].2.1 = mx
  · simp [hm]
  · simp [hm]
set_option maxHeartbeats 1000000 in
theorem bind_v (xs : List BondX) (wt : BondX) (sv : Value) (w : World) (L : List Nat) (hL : LL L w) (h1 : RdF 4 L w sv (xs.map encB)) (hM : MaxL L w)  (hsz : smallB xs) (hw : wt.1.2.size ≤ 140737488355328) : CV Tryz.prog 24 [sv, .agg #[.string wt.1.1, .string wt.1.2, .string wt.2.1, .int .i64 wt.2.2]] w fun v W => ∃ s2, v = .tuple #[s2, .int .i64 (bindE xs wt)] ∧ RdF 4 L W s2 ((bindB xs wt).map encB) := by
  refine cv_enter (N := 43) (f := [(0, sv), (1, .agg #[.string wt.1.1, .string wt.1.2, .string wt.2.1, .int .i64 wt.2.2])]) Tryz.func24 rfl rfl rfl rfl fun Q hQ hE => ?_
  have hB := Below.refl w.heap.size w
  have hL0 := hL
  have h1m : xs.length ≤ maxLen := by have := h1.len; rwa [List.length_map] at this
  unfold maxLen at h1m
  refine WC.seq fun K1 hK1 => ?_
  refine WC.region ?_
  refine WL.get (dx_box rfl rfl rfl) rfl rfl ?_
  rintro _ W2 ⟨rfl, k3, b4, z5⟩
  have l6 := hB.size
  replace h1 := h1.more b4 (Nat.le_refl _)
  replace hM := hM.more b4 (Nat.le_refl _)
  replace hB := below_then hB b4
  replace hL := LL.more hL z5
  refine WL.val (dx_assign rfl rfl) rfl rfl ?_
  refine WL.val (dx_assign rfl rfl) rfl rfl ?_
  refine WL.nil ?_
  refine hK1 ?_
  refine WC.seq fun K7 hK7 => ?_
  refine WC.seq fun K8 hK8 => ?_
  refine WC.region ?_
  refine WL.val (dx_move rfl rfl) rfl rfl ?_
  refine WL.get (dx_cv rfl Tryz.func31 rfl rfl rfl (rightB_v xs _ W2 _ hL h1 hM hsz)) rfl rfl ?_
  rintro _ W10 ⟨rfl, b9⟩
  replace h1 := h1.below b9
  replace hM := hM.below b9
  replace k3 := k3.below b9
  replace hB := below_then hB b9
  replace hL := LL.below hL b9
  refine WL.val (dx_not rfl rfl) rfl rfl ?_
  refine WL.val (dx_move rfl rfl) rfl rfl ?_
  refine WL.split 12 rfl (fun g11 => ?_) (fun g11 => ?_)
  ·
    replace g11 := bnot_t g11
    refine WL.off rfl rfl rfl ?_
    refine WL.off rfl rfl rfl ?_
    refine WL.off rfl rfl rfl ?_
    refine WL.val (dx_pick rfl rfl rfl) rfl rfl ?_
    refine WL.nil ?_
    refine hK8 ?_
    refine WC.condT rfl ?_
    refine WC.seq fun K12 hK12 => ?_
    refine WC.region ?_
    refine WL.val (dx_move rfl rfl) rfl rfl ?_
    refine WL.val (dx_assign rfl rfl) rfl rfl ?_
    refine WL.val (dx_assign rfl rfl) rfl rfl ?_
    refine WL.nil ?_
    refine hK12 ?_
    refine WC.ret fun a_ ha_ => ?_
    exact hQ (cv_ret2 rfl (.tmp rfl) (.tmp rfl) (by have he : bindE xs wt = 1 := (by unfold bindE; rw [if_neg (by intro h; simp_all)]); have hr : bindB xs wt = xs := (by unfold bindB; rw [if_neg (by rw [he]; decide)]); rw [he, hr]; exact ⟨_, rfl, (h1.less (fun x hx => (.tail _ hx)))⟩) hB ha_)
  ·
    replace g11 := bnot_f g11
    refine WL.val (dx_loadN rfl ty_agg_42_4 rfl k3.range rfl) rfl rfl ?_
    refine WL.get (dx_cv rfl Tryz.func58 rfl rfl rfl (goodB_v wt W10 _ hL hM hw)) rfl rfl ?_
    rintro _ W14 ⟨rfl, b13⟩
    replace h1 := h1.below b13
    replace hM := hM.below b13
    replace k3 := k3.below b13
    replace hB := below_then hB b13
    replace hL := LL.below hL b13
    refine WL.val (dx_not rfl rfl) rfl rfl ?_
    refine WL.val (dx_pick rfl rfl rfl) rfl rfl ?_
    refine WL.nil ?_
    refine hK8 ?_
    refine WC.cond rfl (fun c15 => ?_) (fun c15 => ?_)
    ·
      replace c15 := bnot_t c15
      refine WC.seq fun K16 hK16 => ?_
      refine WC.region ?_
      refine WL.val (dx_move rfl rfl) rfl rfl ?_
      refine WL.val (dx_assign rfl rfl) rfl rfl ?_
      refine WL.val (dx_assign rfl rfl) rfl rfl ?_
      refine WL.nil ?_
      refine hK16 ?_
      refine WC.ret fun a_ ha_ => ?_
      exact hQ (cv_ret2 rfl (.tmp rfl) (.tmp rfl) (by have he : bindE xs wt = 1 := (by unfold bindE; rw [if_neg (by intro h; simp_all)]); have hr : bindB xs wt = xs := (by unfold bindB; rw [if_neg (by rw [he]; decide)]); rw [he, hr]; exact ⟨_, rfl, (h1.less (fun x hx => (.tail _ hx)))⟩) hB ha_)
    ·
      replace c15 := bnot_f c15
      refine WC.skip ?_
      refine hK7 ?_
      refine WC.seq fun K17 hK17 => ?_
      refine WC.region ?_
      refine WL.val (dx_move rfl rfl) rfl rfl ?_
      refine WL.val (dx_fld (o1 := 0) rfl ty_fld_42_0_0 rfl rfl) rfl rfl ?_
      refine WL.val (dx_loadN (cs := [.string wt.1.1, .string wt.1.2]) rfl ty_agg_40_2 rfl (k3.part 0 2) rfl) rfl rfl ?_
      refine WL.get (dx_cv rfl Tryz.func59 rfl rfl rfl (place_v xs wt.1.1 wt.1.2 _ W14 _ hL h1)) rfl rfl ?_
      rintro _ W19 ⟨rfl, b18⟩
      replace h1 := h1.below b18
      replace hM := hM.below b18
      replace k3 := k3.below b18
      replace hB := below_then hB b18
      replace hL := LL.below hL b18
      refine WL.val (dx_move rfl rfl) rfl rfl ?_
      refine WL.val (dx_extract rfl rfl rfl) rfl rfl ?_
      refine WL.val (dx_extract rfl rfl rfl) rfl rfl ?_
      refine WL.val (dx_assign rfl rfl) rfl rfl ?_
      refine WL.val (dx_assign rfl rfl) rfl rfl ?_
      refine WL.nil ?_
      refine hK17 ?_
      refine WC.seq fun K20 hK20 => ?_
      refine WC.seq fun K21 hK21 => ?_
      refine WC.region ?_
      refine WL.val (dx_move rfl rfl) rfl rfl ?_
      refine WL.nil ?_
      refine hK21 ?_
      refine WC.cond rfl (fun c22 => ?_) (fun c22 => ?_)
      ·
        refine WC.seq fun K23 hK23 => ?_
        obtain ⟨k0, hk0, hkl, hlo, hcs⟩ := placeB_cases xs wt.1.1 wt.1.2
        have hrl := right_len (show rightB xs = true by assumption)
        obtain ⟨b0, hb0, hbm, hbx⟩ : ∃ b, xs[k0]? = some b ∧ b.1.1 = wt.1.1 ∧ b.1.2 = wt.1.2 := (by rcases hcs with ⟨_, h⟩ | ⟨h, _⟩; exact h; exact absurd (show (placeB xs wt.1.1 wt.1.2).2 = true by assumption) (by rw [h]; decide))
        have hl0 := (List.getElem?_eq_some_iff.1 hb0).1
        refine WC.region ?_
        refine WL.val (dx_move rfl rfl) rfl rfl ?_
        refine WL.get (dx_cv rfl Tryz.func60 rfl rfl rfl (cloneSBond_v _ _ W19 _ hL h1 (oc_rowsX oc_B xs) (by rw [List.length_map]; omega))) rfl rfl ?_
        rintro u24 W25 ⟨p26, b27⟩
        obtain ⟨B28, q29, k30⟩ := p26.own (fun e => by have := congrArg List.length e; rw [List.length_map, List.length_nil] at this; omega)
        have n31 : w.heap.size ≠ B28 := Nat.ne_of_lt (Nat.lt_of_lt_of_le k3.lt q29)
        have l32 := Nat.le_trans hB.size q29
        replace h1 := h1.more b27 q29
        replace hM := hM.more b27 q29
        replace k3 := k3.below b27
        replace hB := below_then hB b27
        replace hL := LL.cons (LL.below hL b27) k30.lt
        refine WL.val (dx_assign rfl rfl) rfl rfl ?_
        refine WL.nil ?_
        refine hK23 ?_
        refine WC.seq fun K33 hK33 => ?_
        refine WC.region ?_
        refine WL.val (dx_move rfl rfl) rfl rfl ?_
        refine WL.val (dx_move rfl rfl) rfl rfl ?_
        refine WL.val (dx_loadN rfl ty_agg_42_4 rfl k3.range rfl) rfl rfl ?_
        refine WL.val (dx_idxO k0 rfl ty_slice_38 rfl rfl k30 (by omega) (by rw [List.length_map]; omega) rfl) rfl rfl ?_
        refine WL.do (dx_storeO (k := k0) (r := encB wt) rfl ty_size_42_4 rfl rfl rfl (oc_B wt) k30 rfl (by rw [List.length_map]; exact hl0) rfl) rfl ?_
        rintro _ W34 ⟨k36, o35⟩
        replace k3 := k3.other o35 n31
        clear k30
        replace h1 := h1.only o35 (.head _)
        replace hM := hM.only o35 (.head _)
        replace hB := o35.below hB l32
        replace hL := LL.only hL o35
        rw [← List.map_set] at k36
        refine WL.nil ?_
        refine hK33 ?_
        refine WC.seq fun K37 hK37 => ?_
        refine WC.region ?_
        refine WL.val (dx_move rfl rfl) rfl rfl ?_
        refine WL.val (dx_assign rfl rfl) rfl rfl ?_
        refine WL.val (dx_assign rfl rfl) rfl rfl ?_
        refine WL.nil ?_
        refine hK37 ?_
        refine WC.ret fun a_ ha_ => ?_
        exact hQ (cv_ret2 rfl (.tmp rfl) (.tmp rfl) (by have he : bindE xs wt = 0 := (by unfold bindE; rw [if_pos ⟨by assumption, by assumption⟩, if_pos (by assumption)]); have hr : bindB xs wt = xs.set k0 wt := (by unfold bindB; rw [if_pos he, if_pos (by assumption), hk0, Int.toNat_natCast]); rw [he, hr]; exact ⟨_, rfl, k36.notin hL0 l32⟩) hB ha_)
      ·
        refine WC.skip ?_
        refine hK20 ?_
        refine WC.seq fun K38 hK38 => ?_
        refine WC.seq fun K39 hK39 => ?_
        obtain ⟨k0, hk0, hkl, hlo, hcs⟩ := placeB_cases xs wt.1.1 wt.1.2
        have hrl := right_len (show rightB xs = true by assumption)
        refine WC.region ?_
        refine WL.val (dx_move rfl rfl) rfl rfl ?_
        refine WL.val (dx_lenX rfl ty_slice_38 rfl h1) rfl rfl ?_
        refine WL.val (dx_eql rfl rfl rfl) rfl rfl ?_
        refine WL.nil ?_
        refine hK39 ?_
        refine WC.cond rfl (fun c40 => ?_) (fun c40 => ?_)
        ·
          replace c40 := of_decide_eq_true c40
          refine WC.seq fun K41 hK41 => ?_
          refine WC.region ?_
          refine WL.val (dx_move rfl rfl) rfl rfl ?_
          refine WL.val (dx_assign rfl rfl) rfl rfl ?_
          refine WL.val (dx_assign rfl rfl) rfl rfl ?_
          refine WL.nil ?_
          refine hK41 ?_
          refine WC.ret fun a_ ha_ => ?_
          exact hQ (cv_ret2 rfl (.tmp rfl) (.tmp rfl) (by have he : bindE xs wt = 10 := (by unfold bindE; rw [if_pos ⟨by assumption, by assumption⟩, if_neg (by rw [show (placeB xs wt.1.1 wt.1.2).2 = false by assumption]; decide), if_pos (by assumption)]); have hr : bindB xs wt = xs := (by unfold bindB; rw [if_neg (by rw [he]; decide)]); rw [he, hr]; exact ⟨_, rfl, (h1.less (fun x hx => (.tail _ hx)))⟩) hB ha_)
        ·
          replace c40 := of_decide_eq_false c40
          refine WC.skip ?_
          refine hK38 ?_
          refine WC.seq fun K42 hK42 => ?_
          have hno : (placeB xs wt.1.1 wt.1.2).2 = false := (by assumption)
          have zh1 := h1
          have zhM := hM
          have zk3 := k3
          have zhB := hB
          have zhL := hL
          refine WC.drawM 5 [(some 37, .is (sv)), (some 38, .by fun u W => NewS 4 W19.heap.size (xs.map encB) u W), (some 39, .is (.int .i64 ((placeB xs wt.1.1 wt.1.2).1))), (some 40, .is (.agg #[.string wt.1.1, .string wt.1.2, .string wt.2.1, .int .i64 wt.2.2])), (some 41, .by fun u W => NewS 4 W19.heap.size [encB wt] u W)] [[], [0], [], [], [3]] (by kernel_rfl) (by kernel_rfl) (by kernel_rfl) (by kernel_rfl) (by kernel_rfl) (by kernel_rfl) (by kernel_rfl) ⟨fun _ _ _ hb h => h.below hb, fun _ _ _ hb h => h.below hb, trivial⟩ ?_ ?_
          ·
            refine DSteps.cons (fun Wd hd => ?_) ?_
            ·
              exact DV.dr (dx_move rfl rfl) ⟨Below.refl _ _, rfl⟩
            refine DSteps.cons (fun Wd hd => ?_) ?_
            ·
              have h1 := h1.below hd
              exact DR.mono (dx_cv rfl Tryz.func60 rfl rfl rfl (cloneSBond_v _ _ Wd _ (LL.below hL hd) h1 (oc_rowsX oc_B xs) (by rw [List.length_map]; omega))) (fun v W' h => ⟨h.2, h.1.le hd.size⟩)
            refine DSteps.cons (fun Wd hd => ?_) ?_
            ·
              exact DV.dr (dx_move rfl rfl) ⟨Below.refl _ _, rfl⟩
            refine DSteps.cons (fun Wd hd => ?_) ?_
            ·
              have k3 := k3.below hd
              exact DV.dr (dx_loadN rfl ty_agg_42_4 rfl k3.range rfl) ⟨Below.refl _ _, rfl⟩
            refine DSteps.cons (fun Wd hd => ?_) ?_
            ·
              exact (dx_lit1 (r := encB wt) rfl ty_ap_38 (by decide) (by decide) rfl rfl rfl).mono (fun v W' h => ⟨h.2.1, NewS.of_own h.1 hd.size (by simp)⟩)
            exact trivial
          ·
            intro W43 b44
            intro u10_1 p10_1
            intro u10_4 p10_4
            replace h1 := h1.below b44
            replace hM := hM.below b44
            replace k3 := k3.below b44
            replace hB := below_then hB b44
            replace hL := LL.below hL b44
            refine WL.get (dx_callA rfl Tryz.func61 rfl rfl rfl (insertSBond_v _ _ k0 _ _ _ _ W43 hk0 p10_1 p10_4 b44.size (by rw [List.length_map]; exact hkl) (by rw [List.length_map]; omega) (oc_rowsX oc_B xs) (oc_B wt) (bind_ne (by assumption) hno))) rfl rfl ?_
            rintro x45 W46 ⟨⟨B47, q48, k49⟩, b50⟩
            have b51 := b44.trans b50
            rw [ins_rowsB] at k49
            replace h1 := zh1
            replace hM := zhM
            replace k3 := zk3
            replace hB := zhB
            replace hL := zhL
            have n52 : w.heap.size ≠ B47 := Nat.ne_of_lt (Nat.lt_of_lt_of_le k3.lt q48)
            have l53 := Nat.le_trans hB.size q48
            replace h1 := h1.more b51 q48
            replace hM := hM.more b51 q48
            replace k3 := k3.below b51
            replace hB := below_then hB b51
            replace hL := LL.cons (LL.below hL b51) k49.lt
            refine WL.val (dx_assign rfl rfl) rfl rfl ?_
            refine WL.val (dx_assign rfl rfl) rfl rfl ?_
            refine WL.nil ?_
            refine hK42 ?_
            refine WC.ret fun a_ ha_ => ?_
            exact hQ (cv_ret2 rfl (.tmp rfl) (.tmp rfl) (by have he : bindE xs wt = 0 := (by unfold bindE; rw [if_pos ⟨by assumption, by assumption⟩, if_neg (by rw [hno]; decide), if_neg (by assumption)]); have hr : bindB xs wt = xs.take k0 ++ (wt :: xs.drop k0) := (by unfold bindB; rw [if_pos he, if_neg (by rw [hno]; decide), hk0, Int.toNat_natCast]); rw [he, hr]; exact ⟨_, rfl, k49.notin hL0 l53⟩) hB ha_)

set_option maxHeartbeats 1000000 in
theorem unbind_v (xs : List BondX) (wt : BondX) (sv : Value) (w : World) (L : List Nat) (hL : LL L w) (h1 : RdF 4 L w sv (xs.map encB)) (hM : MaxL L w)  (hsz : smallB xs) : CV Tryz.prog 26 [sv, .agg #[.string wt.1.1, .string wt.1.2, .string wt.2.1, .int .i64 wt.2.2]] w fun v W => ∃ s2, v = .tuple #[s2, .int .i64 (unbE xs wt)] ∧ RdF 4 L W s2 ((unbB xs wt).map encB) := by
  refine cv_enter (N := 37) (f := [(0, sv), (1, .agg #[.string wt.1.1, .string wt.1.2, .string wt.2.1, .int .i64 wt.2.2])]) Tryz.func26 rfl rfl rfl rfl fun Q hQ hE => ?_
  have hB := Below.refl w.heap.size w
  have hL0 := hL
  have h1m : xs.length ≤ maxLen := by have := h1.len; rwa [List.length_map] at this
  unfold maxLen at h1m
  refine WC.seq fun K1 hK1 => ?_
  refine WC.region ?_
  refine WL.get (dx_box rfl rfl rfl) rfl rfl ?_
  rintro _ W2 ⟨rfl, k3, b4, z5⟩
  have l6 := hB.size
  replace h1 := h1.more b4 (Nat.le_refl _)
  replace hM := hM.more b4 (Nat.le_refl _)
  replace hB := below_then hB b4
  replace hL := LL.more hL z5
  refine WL.val (dx_assign rfl rfl) rfl rfl ?_
  refine WL.val (dx_assign rfl rfl) rfl rfl ?_
  refine WL.nil ?_
  refine hK1 ?_
  refine WC.seq fun K7 hK7 => ?_
  refine WC.seq fun K8 hK8 => ?_
  refine WC.region ?_
  refine WL.val (dx_move rfl rfl) rfl rfl ?_
  refine WL.get (dx_cv rfl Tryz.func31 rfl rfl rfl (rightB_v xs _ W2 _ hL h1 hM hsz)) rfl rfl ?_
  rintro _ W10 ⟨rfl, b9⟩
  replace h1 := h1.below b9
  replace hM := hM.below b9
  replace k3 := k3.below b9
  replace hB := below_then hB b9
  replace hL := LL.below hL b9
  refine WL.val (dx_not rfl rfl) rfl rfl ?_
  refine WL.nil ?_
  refine hK8 ?_
  refine WC.cond rfl (fun c11 => ?_) (fun c11 => ?_)
  ·
    replace c11 := bnot_t c11
    refine WC.seq fun K12 hK12 => ?_
    refine WC.region ?_
    refine WL.val (dx_move rfl rfl) rfl rfl ?_
    refine WL.val (dx_assign rfl rfl) rfl rfl ?_
    refine WL.val (dx_assign rfl rfl) rfl rfl ?_
    refine WL.nil ?_
    refine hK12 ?_
    refine WC.ret fun a_ ha_ => ?_
    exact hQ (cv_ret2 rfl (.tmp rfl) (.tmp rfl) (by have he : unbE xs wt = 1 := (by unfold unbE; rw [if_neg (by intro h; simp_all)]); have hr : unbB xs wt = xs := (by unfold unbB; rw [if_neg (by rw [he]; decide)]); rw [he, hr]; exact ⟨_, rfl, (h1.less (fun x hx => (.tail _ hx)))⟩) hB ha_)
  ·
    replace c11 := bnot_f c11
    refine WC.skip ?_
    refine hK7 ?_
    refine WC.seq fun K13 hK13 => ?_
    refine WC.region ?_
    refine WL.val (dx_move rfl rfl) rfl rfl ?_
    refine WL.val (dx_fld (o1 := 0) rfl ty_fld_42_0_0 rfl rfl) rfl rfl ?_
    refine WL.val (dx_loadN (cs := [.string wt.1.1, .string wt.1.2]) rfl ty_agg_40_2 rfl (k3.part 0 2) rfl) rfl rfl ?_
    refine WL.get (dx_cv rfl Tryz.func59 rfl rfl rfl (place_v xs wt.1.1 wt.1.2 _ W10 _ hL h1)) rfl rfl ?_
    rintro _ W15 ⟨rfl, b14⟩
    replace h1 := h1.below b14
    replace hM := hM.below b14
    replace k3 := k3.below b14
    replace hB := below_then hB b14
    replace hL := LL.below hL b14
    refine WL.val (dx_move rfl rfl) rfl rfl ?_
    refine WL.val (dx_extract rfl rfl rfl) rfl rfl ?_
    refine WL.val (dx_extract rfl rfl rfl) rfl rfl ?_
    refine WL.val (dx_assign rfl rfl) rfl rfl ?_
    refine WL.val (dx_assign rfl rfl) rfl rfl ?_
    refine WL.nil ?_
    refine hK13 ?_
    refine WC.seq fun K16 hK16 => ?_
    refine WC.seq fun K17 hK17 => ?_
    refine WC.region ?_
    refine WL.val (dx_move rfl rfl) rfl rfl ?_
    refine WL.val (dx_not rfl rfl) rfl rfl ?_
    refine WL.nil ?_
    refine hK17 ?_
    refine WC.cond rfl (fun c18 => ?_) (fun c18 => ?_)
    ·
      replace c18 := bnot_t c18
      refine WC.seq fun K19 hK19 => ?_
      refine WC.region ?_
      refine WL.val (dx_move rfl rfl) rfl rfl ?_
      refine WL.val (dx_assign rfl rfl) rfl rfl ?_
      refine WL.val (dx_assign rfl rfl) rfl rfl ?_
      refine WL.nil ?_
      refine hK19 ?_
      refine WC.ret fun a_ ha_ => ?_
      exact hQ (cv_ret2 rfl (.tmp rfl) (.tmp rfl) (by have he : unbE xs wt = 7 := (by unfold unbE; rw [if_pos (by assumption), if_neg (by rw [show (placeB xs wt.1.1 wt.1.2).2 = false by assumption]; decide)]); have hr : unbB xs wt = xs := (by unfold unbB; rw [if_neg (by rw [he]; decide)]); rw [he, hr]; exact ⟨_, rfl, (h1.less (fun x hx => (.tail _ hx)))⟩) hB ha_)
    ·
      replace c18 := bnot_f c18
      refine WC.skip ?_
      refine hK16 ?_
      refine WC.seq fun K20 hK20 => ?_
      refine WC.seq fun K21 hK21 => ?_
      obtain ⟨k0, hk0, hkl, hlo, hcs⟩ := placeB_cases xs wt.1.1 wt.1.2
      have hrl := right_len (show rightB xs = true by assumption)
      obtain ⟨b0, hb0, hbm, hbx⟩ : ∃ b, xs[k0]? = some b ∧ b.1.1 = wt.1.1 ∧ b.1.2 = wt.1.2 := (by rcases hcs with ⟨_, h⟩ | ⟨h, _⟩; exact h; exact absurd (show (placeB xs wt.1.1 wt.1.2).2 = true by assumption) (by rw [h]; decide))
      have hl0 := (List.getElem?_eq_some_iff.1 hb0).1
      refine WC.drawM 7 [(some 22, .is (sv)), (some 23, .is (.int .i64 ((placeB xs wt.1.1 wt.1.2).1))), (some 24, .by fun u W => PtR (w.heap.size :: L) W u (encB b0)), (some 25, .by fun u W => PtR (w.heap.size :: L) W u [.string b0.2.1]), (some 26, .is (.string b0.2.1)), (some 27, .is (.pointer (some ⟨w.heap.size, 2, none⟩))), (some 28, .is (.string wt.2.1))] [[], [], [0, 1], [2], [3], [], [5]] (by kernel_rfl) (by kernel_rfl) (by kernel_rfl) (by kernel_rfl) (by kernel_rfl) (by kernel_rfl) (by kernel_rfl) ⟨fun _ _ _ hb h => h.below hb, fun _ _ _ hb h => h.below hb, trivial⟩ ?_ ?_
      ·
        refine DSteps.cons (fun Wd hd => ?_) ?_
        ·
          exact DV.dr (dx_move rfl rfl) ⟨Below.refl _ _, rfl⟩
        refine DSteps.cons (fun Wd hd => ?_) ?_
        ·
          exact DV.dr (dx_move rfl rfl) ⟨Below.refl _ _, rfl⟩
        refine DSteps.cons (fun Wd hd => ?_) ?_
        ·
          have h1 := h1.below hd
          exact (dx_idxF k0 rfl ty_slice_38 rfl rfl h1 (by omega) (at_mapX hb0)).mono (fun v W' h => ⟨by rw [← h.1]; exact Below.refl _ _, by rw [← h.1]; exact h.2⟩)
        refine DSteps.cons (fun Wd hd => ?_) ?_
        ·
          intro u6_2 p6_2
          exact (dx_fldP 1 rfl ty_fld_42_1_2 rfl p6_2 (cs' := [.string b0.2.1]) rfl (Nat.succ_pos _)).mono (fun v W' h => ⟨by rw [← h.1]; exact Below.refl _ _, by rw [← h.1]; exact h.2⟩)
        refine DSteps.cons (fun Wd hd => ?_) ?_
        ·
          intro u6_3 p6_3
          exact DV.dr (dx_loadP rfl ty_one_9 rfl p6_3) ⟨Below.refl _ _, rfl⟩
        refine DSteps.cons (fun Wd hd => ?_) ?_
        ·
          exact DV.dr (dx_fld (o1 := 2) rfl ty_fld_42_1_2 rfl rfl) ⟨Below.refl _ _, rfl⟩
        refine DSteps.cons (fun Wd hd => ?_) ?_
        ·
          have k3 := k3.below hd
          exact DV.dr (dx_load rfl ty_one_9 rfl (k3.cell (k := 2) rfl)) ⟨Below.refl _ _, rfl⟩
        exact trivial
      ·
        intro W22 b23
        intro u6_2 p6_2
        intro u6_3 p6_3
        replace h1 := h1.below b23
        replace hM := hM.below b23
        replace k3 := k3.below b23
        replace hB := below_then hB b23
        replace hL := LL.below hL b23
        refine WL.val (dx_neqT rfl rfl rfl) rfl rfl ?_
        refine WL.nil ?_
        refine hK21 ?_
        refine WC.cond rfl (fun c24 => ?_) (fun c24 => ?_)
        ·
          replace c24 := bnot_t c24
          replace c24 := of_decide_eq_false c24
          refine WC.seq fun K25 hK25 => ?_
          refine WC.region ?_
          refine WL.val (dx_move rfl rfl) rfl rfl ?_
          refine WL.val (dx_assign rfl rfl) rfl rfl ?_
          refine WL.val (dx_assign rfl rfl) rfl rfl ?_
          refine WL.nil ?_
          refine hK25 ?_
          refine WC.ret fun a_ ha_ => ?_
          exact hQ (cv_ret2 rfl (.tmp rfl) (.tmp rfl) (by have he : unbE xs wt = 14 := (by unfold unbE; rw [if_pos (by assumption), if_pos (by assumption), hk0, Int.toNat_natCast, hb0]; exact if_neg (by assumption)); have hr : unbB xs wt = xs := (by unfold unbB; rw [if_neg (by rw [he]; decide)]); rw [he, hr]; exact ⟨_, rfl, (h1.less (fun x hx => (.tail _ hx)))⟩) hB ha_)
        ·
          replace c24 := bnot_f c24
          replace c24 := of_decide_eq_true c24
          refine WC.skip ?_
          refine hK20 ?_
          refine WC.seq fun K26 hK26 => ?_
          refine WC.region ?_
          refine WL.val (dx_move rfl rfl) rfl rfl ?_
          have zh1 := h1
          have zhM := hM
          have zk3 := k3
          have zhB := hB
          have zhL := hL
          refine WL.get (dx_cv rfl Tryz.func60 rfl rfl rfl (cloneSBond_v _ _ W22 _ hL h1 (oc_rowsX oc_B xs) (by rw [List.length_map]; omega))) rfl rfl ?_
          rintro u27 W28 ⟨p29, b30⟩
          replace h1 := h1.below b30
          replace hM := hM.below b30
          replace k3 := k3.below b30
          replace hB := below_then hB b30
          replace hL := LL.below hL b30
          refine WL.val (dx_move rfl rfl) rfl rfl ?_
          refine WL.val (dx_move rfl rfl) rfl rfl ?_
          refine WL.val (dx_add (r := ((placeB xs wt.1.1 wt.1.2).1) + 1) rfl rfl rfl (wrap64_id (by omega))) rfl rfl ?_
          refine WL.get (dx_callA rfl Tryz.func65 rfl rfl rfl (deleteSBond_v _ k0 _ _ _ _ W28 (by omega) (by omega) p29 b30.size (by rw [List.length_map]; exact hl0) (oc_rowsX oc_B xs))) rfl rfl ?_
          rintro x31 W32 ⟨⟨B33, q34, k35⟩, b36⟩
          have b37 := b30.trans b36
          rw [del_rowsB] at k35
          replace h1 := zh1
          replace hM := zhM
          replace k3 := zk3
          replace hB := zhB
          replace hL := zhL
          have n38 : w.heap.size ≠ B33 := Nat.ne_of_lt (Nat.lt_of_lt_of_le k3.lt q34)
          have l39 := Nat.le_trans hB.size q34
          replace h1 := h1.more b37 q34
          replace hM := hM.more b37 q34
          replace k3 := k3.below b37
          replace hB := below_then hB b37
          replace hL := LL.cons (LL.below hL b37) k35.lt
          refine WL.val (dx_assign rfl rfl) rfl rfl ?_
          refine WL.val (dx_assign rfl rfl) rfl rfl ?_
          refine WL.nil ?_
          refine hK26 ?_
          refine WC.ret fun a_ ha_ => ?_
          exact hQ (cv_ret2 rfl (.tmp rfl) (.tmp rfl) (by have he : unbE xs wt = 0 := (by unfold unbE; rw [if_pos (by assumption), if_pos (by assumption), hk0, Int.toNat_natCast, hb0]; exact if_pos (by assumption)); have hr : unbB xs wt = xs.take k0 ++ xs.drop (k0 + 1) := (by unfold unbB; rw [if_pos he, hk0, Int.toNat_natCast]); rw [he, hr]; exact ⟨_, rfl, k35.notin hL0 l39⟩) hB ha_)

end Go.Proofs.YthefddclefimoaaGreatDoor
namespace Go.Proofs.YthefddclefimoaaGreatDoor
open Go.RowKit
set_option linter.unusedVariables false
set_option linter.unusedSimpArgs false
def arr3B (P : Program) (t : TypeId) : Bool := match P.info? t, P.underlying t with
  | some it, some (.array n e) => match it.zero, P.info? e with
    | some z, some ie => ie.size == 1 && z.cells.size == 3 && n == 3 && oneB P e
    | _, _ => false
  | _, _ => false
theorem built3 {P : Program} {t : TypeId} {a b c : Value} (h : arr3B P t = true) (ha : a.oneCell' = true) (hb : b.oneCell' = true) (hc : c.oneCell' = true) : P.built t [(0, a), (1, b), (2, c)] = some [a, b, c].toArray := by
  have ha := Array.ext' (oc_one ha) (ys := #[a])
  have hb := Array.ext' (oc_one hb) (ys := #[b])
  have hc := Array.ext' (oc_one hc) (ys := #[c])
  unfold arr3B at h
  unfold Program.built
  split at h
  · rename_i it n e h1 h2
    rw [h1, h2]
    simp only
    split at h
    · rename_i z ie h3 h4
      rw [h3, h4]
      simp only [Bool.and_eq_true, beq_iff_eq] at h
      obtain ⟨⟨⟨h5, h6⟩, _⟩, _⟩ := h
      simp only [h5]
      obtain ⟨l, hl⟩ : ∃ l, z.cells = l := ⟨_, rfl⟩
      rw [hl] at h6 ⊢
      obtain ⟨l⟩ := l
      match l, h6 with
      | [x, y, u], _ => simp [Instr.fill, ha, hb, hc]
    · cases h
  · cases h
section
variable {P : Program} {ops : Array Oper} {o : Oper} {N : Nat} {f : Fl} {w : World}
theorem dv_F {p : Prop} [Decidable p] (h : DV P ops o N f w (.bool (!decide p))) (hp : p) : DV P ops o N f w (.bool false) := by rw [decide_eq_true hp] at h; exact h
theorem dx_ixA {t : TypeId} {x y : Operand} {a b c v : Value} {K : IntKind} {i : Int} (k : Nat) (ho : o.op = .index t x y) (ht : arr3B P t = true) (hx : ev f x = some (.agg [a, b, c].toArray)) (hy : ev f y = some (.int K i)) (hi : i = (k : Int)) (hv : [a, b, c][k]? = some v) (hw : wantF ops o f = some true := by rfl) : DV P ops o N f w v := fun q hq => by
  subst hi
  have hx := hq.ev hx
  have hy := hq.ev hy
  unfold arr3B at ht
  split at ht
  · rename_i it n e h1 h2
    split at ht
    · rename_i z ie h3 h4
      simp only [Bool.and_eq_true, beq_iff_eq] at ht
      obtain ⟨⟨⟨h5, h6⟩, rfl⟩, h7⟩ := ht
      obtain ⟨d, hu, hd, _⟩ := of_oneB h7
      have hagg : (isAgg e).run P w = .ok false w := by
        unfold isAgg
        rw [Sem.run_bind, run_underlying hu w]
        cases d <;> simp_all
      have hlt : k < 3 := by have := (List.getElem?_eq_some_iff.1 hv).1; simpa using this
      refine Does.pure (wantF_of hq hw) _ ?_ ⟨rfl, rfl⟩
      have g1 : (0 : Int) ≤ (k : Int) := by omega
      have g2 : (k : Int) < 3 := by omega
      unfold execOp
      simp only [ho, hx, hy, Instr.index, asIntOf, Sem.run_bind, Sem.run_pure, Result.andThen_ok, run_underlying h2]
      simp [g1, g2, sizeOf, typeInfo, h4, h5, part, Sem.run_bind, hagg]
      have : ([a, b, c].toArray)[k]? = some v := by simpa using hv
      match k, hlt, hv with
      | 0, _, hv => simp at hv; simp [hv]
      | 1, _, hv => simp at hv; simp [hv]
      | 2, _, hv => simp at hv; simp [hv]
    · cases ht
  · cases ht
end
end Go.Proofs.YthefddclefimoaaGreatDoor
namespace Go.Proofs.YthefddclefimoaaGreatDoor
open Go.RowKit
set_option linter.unusedVariables false
set_option linter.unusedSimpArgs false
set_option maxRecDepth 8000

/-- Nil, or a slice of one's own, new since the base, in none of these blocks. -/
def OwnL (s base : Nat) (L : List Nat) (w : World) (u : Value) (rs : List (List Value)) : Prop := (u = .slice none 0 0 ∧ rs = [] ∧ 0 < s) ∨ ∃ B, base ≤ B ∧ B ∉ L ∧ OwS s w u rs B
theorem OwnL.below {s base : Nat} {L : List Nat} {w w' : World} {u : Value} {rs : List (List Value)} (h : OwnL s base L w u rs) (hb : Below w.heap.size w w') : OwnL s base L w' u rs := by
  rcases h with h | ⟨B, h1, h2, h3⟩
  · exact .inl h
  · exact .inr ⟨B, h1, h2, h3.below hb⟩
theorem OwnL.more {s base : Nat} {L : List Nat} {w w' : World} {u : Value} {rs : List (List Value)} (h : OwnL s base L w u rs) (hb : Below w.heap.size w w') {C : Nat} (hC : w.heap.size ≤ C) : OwnL s base (C :: L) w' u rs := by
  rcases h with h | ⟨B, h1, h2, h3⟩
  · exact .inl h
  · refine .inr ⟨B, h1, fun hx => ?_, h3.below hb⟩
    have := h3.lt
    rcases List.mem_cons.1 hx with e | e
    · omega
    · exact h2 e
theorem OwnL.only {s base : Nat} {L : List Nat} {w w' : World} {u : Value} {rs : List (List Value)} (h : OwnL s base L w u rs) {C : Nat} (ho : Only C w w') (hC : C ∈ L) : OwnL s base L w' u rs := by
  rcases h with h | ⟨B, h1, h2, h3⟩
  · exact .inl h
  · exact .inr ⟨B, h1, h2, h3.other ho (fun e => h2 (e ▸ hC))⟩
theorem OwnL.less {s base : Nat} {L L' : List Nat} {w : World} {u : Value} {rs : List (List Value)} (h : OwnL s base L w u rs) (hl : ∀ x, x ∈ L' → x ∈ L) : OwnL s base L' w u rs := by
  rcases h with h | ⟨B, h1, h2, h3⟩
  · exact .inl h
  · exact .inr ⟨B, h1, fun hx => h2 (hl _ hx), h3⟩
theorem OwnL.new {s base : Nat} {L : List Nat} {w : World} {u : Value} {rs : List (List Value)} (h : OwnL s base L w u rs) : NewW s base rs u w := by
  rcases h with h | ⟨B, h1, h2, h3⟩
  · exact .inl h
  · exact .inr ⟨B, h1, h3⟩
theorem NewW.toL {s : Nat} {L : List Nat} {w0 w : World} {u : Value} {rs : List (List Value)} (h : NewW s w0.heap.size rs u w) (hL : LL L w0) : OwnL s w0.heap.size L w u rs := by
  rcases h with h | ⟨B, h1, h2⟩
  · exact .inl h
  · exact .inr ⟨B, h1, hL.notin h1, h2⟩
theorem OwnL.rd {s base : Nat} {L : List Nat} {w : World} {u : Value} {rs : List (List Value)} (h : OwnL s base L w u rs) : RdF s L w u rs := by
  rcases h with ⟨rfl, rfl, h0⟩ | ⟨B, h1, h2, h3⟩
  · exact RdF.nil h0
  · exact h3.rd h2
theorem filt_len {α : Type} (p : α → Bool) (xs : List α) (i : Nat) : ((xs.take i).filter p).length ≤ i := Nat.le_trans (List.length_filter_le _ _) (by rw [List.length_take]; omega)
set_option maxHeartbeats 1000000 in
theorem of_v (xs : List BondX) (mx : ByteArray) (sv : Value) (w : World) (L : List Nat) (hL : LL L w) (h1 : RdF 4 L w sv (xs.map encB)) (hM : MaxL L w)  (hsz : smallB xs) : CV Tryz.prog 34 [sv, .string mx] w fun v W => RdF 2 L W v ((ofB xs mx).map encAd) := by
  refine cv_enter (N := 28) (f := [(0, sv), (1, .string mx)]) Tryz.func34 rfl rfl rfl rfl fun Q hQ hE => ?_
  have hB := Below.refl w.heap.size w
  have hL0 := hL
  have h10 := h1
  have hM0 := hM
  have h1m : xs.length ≤ maxLen := by have := h1.len; rwa [List.length_map] at this
  unfold maxLen at h1m
  refine WC.seq fun K1 hK1 => ?_
  refine WC.region ?_
  refine WL.val (dx_assign rfl rfl) rfl rfl ?_
  refine WL.nil ?_
  refine hK1 ?_
  refine WC.seq fun K2 hK2 => ?_
  refine WC.seq fun K3 hK3 => ?_
  refine WC.region ?_
  refine WL.val (dx_move rfl rfl) rfl rfl ?_
  refine WL.get (dx_cv rfl Tryz.func31 rfl rfl rfl (rightB_v xs _ w _ hL h1 hM hsz)) rfl rfl ?_
  rintro _ W5 ⟨rfl, b4⟩
  replace h1 := h1.below b4
  replace hM := hM.below b4
  replace hB := below_then hB b4
  replace hL := LL.below hL b4
  refine WL.val (dx_not rfl rfl) rfl rfl ?_
  refine WL.nil ?_
  refine hK3 ?_
  refine WC.cond rfl (fun c6 => ?_) (fun c6 => ?_)
  ·
    replace c6 := bnot_t c6
    refine WC.seq fun K7 hK7 => ?_
    refine WC.region ?_
    refine WL.val (dx_assign rfl rfl) rfl rfl ?_
    refine WL.nil ?_
    refine hK7 ?_
    refine WC.ret fun a_ ha_ => ?_
    exact hQ (cv_ret1 rfl (.tmp rfl) (by have hr : ofB xs mx = [] := (by unfold ofB; rw [if_neg (by intro h; simp_all)]); rw [hr]; exact RdF.nil (by decide)) hB ha_)
  ·
    replace c6 := bnot_f c6
    refine WC.skip ?_
    refine hK2 ?_
    refine WC.seq fun K8 hK8 => ?_
    refine WC.region ?_
    refine WL.val (dx_assign rfl rfl) rfl rfl ?_
    refine WL.nil ?_
    refine hK8 ?_
    refine WC.seq fun K9 hK9 => ?_
    refine WC.seq fun K10 hK10 => ?_
    have hrl := right_len (show rightB xs = true by assumption)
    have hu : OwnL 2 w.heap.size (L) W5 (.slice none 0 0) ((((xs.take 0).filter fun b => decide (b.2.1 = mx)).map (·.1)).map encAd) := .inl ⟨rfl, rfl, by decide⟩
    refine WC.region ?_
    refine WL.val (dx_move rfl rfl) rfl rfl ?_
    refine WL.val (dx_lenX rfl ty_slice_38 rfl h1) rfl rfl ?_
    refine WL.val (dx_move rfl rfl) rfl rfl ?_
    refine WL.nil ?_
    refine hK10 ?_
    refine WC.block ?_
    refine WC.loop2 (fun (i : Nat) (cu : Value) => [(0, sv), (1, .string mx), (11, sv), (12, .int .i64 (xs.length : Int)), (13, .int .i64 (i : Int)), (5, cu)]) (fun (i : Nat) (cu : Value) W => i ≤ xs.length ∧ Below w.heap.size w W ∧ LL (L) W ∧ RdF 4 (L) W sv (xs.map encB) ∧ MaxL (L) W ∧ OwnL 2 w.heap.size (L) W cu ((((xs.take i).filter fun b => decide (b.2.1 = mx)).map (·.1)).map encAd)) (fun (i : Nat) (cu : Value) => xs.length - i) 0 (.slice none 0 0) (by repeat first | exact trivial | exact And.intro rfl trivial | refine And.intro rfl ?_ | refine And.intro (congrArg (fun z : Int => some (Value.int .i64 z)) (by omega)) ?_) ⟨Nat.zero_le _, hB, hL, h1, hM, hu⟩ ?_
    clear h1 hM hu hB hL
    rintro K11 i cu W12 ⟨hi, hB, hL, h1, hM, hu⟩ hK11
    refine WC.seq fun K13 hK13 => ?_
    refine WC.region ?_
    refine WL.val (dx_lss rfl rfl rfl) rfl rfl ?_
    refine WL.nil ?_
    refine hK13 ?_
    refine WC.seq fun K14 hK14 => ?_
    refine WC.cond rfl (fun c15 => ?_) (fun c15 => ?_)
    ·
      replace c15 := of_decide_eq_true c15
      refine WC.skip ?_
      refine hK14 ?_
      refine WC.seq fun K16 hK16 => ?_
      refine WC.block ?_
      refine WC.seq fun K17 hK17 => ?_
      refine WC.region ?_
      obtain ⟨r18, e19⟩ : ∃ x, xs[i]? = some x := ⟨_, List.getElem?_eq_getElem (by omega)⟩
      refine WL.get (dx_idxF i rfl ty_slice_38 rfl rfl h1 (by omega) (at_mapX e19)) rfl rfl ?_
      rintro u20 _ ⟨rfl, p21⟩
      refine WL.val (dx_loadPN rfl ty_agg_42_4 rfl p21 rfl) rfl rfl ?_
      refine WL.get (dx_alloc rfl ty_zero_42 rfl) rfl rfl ?_
      rintro _ W22 ⟨rfl, k23, b24, z25⟩
      have l26 := hB.size
      replace h1 := h1.more b24 (Nat.le_refl _)
      replace hM := hM.more b24 (Nat.le_refl _)
      replace hu := hu.more b24 (Nat.le_refl _)
      replace p21 := p21.more b24 (Nat.le_refl _)
      replace hB := below_then hB b24
      replace hL := LL.more hL z25
      refine WL.do (dx_store (cs' := [.string r18.1.1, .string r18.1.2, .string r18.2.1, .int .i64 r18.2.2]) (vs := [.string r18.1.1, .string r18.1.2, .string r18.2.1, .int .i64 r18.2.2]) rfl ty_size_42_4 rfl rfl rfl (oc_cons rfl (oc_cons rfl (oc_cons rfl (oc_cons rfl oc_nil)))) k23 rfl (Nat.le_of_ble_eq_true rfl) rfl) rfl ?_
      rintro _ W27 ⟨k29, o28⟩
      clear k23
      replace h1 := h1.only o28 (.head _)
      replace hM := hM.only o28 (.head _)
      replace hu := hu.only o28 (.head _)
      replace p21 := p21.only o28 (.head _)
      replace hB := o28.below hB l26
      replace hL := LL.only hL o28
      refine WL.nil ?_
      refine hK17 ?_
      refine WC.seq fun K30 hK30 => ?_
      refine WC.region ?_
      refine WL.val (dx_fld (o1 := 2) rfl ty_fld_42_1_2 rfl rfl) rfl rfl ?_
      refine WL.val (dx_load rfl ty_one_9 rfl (k29.cell (k := 2) rfl)) rfl rfl ?_
      refine WL.val (dx_move rfl rfl) rfl rfl ?_
      refine WL.val (dx_eqlT rfl rfl rfl) rfl rfl ?_
      refine WL.nil ?_
      refine hK30 ?_
      refine WC.cond rfl (fun c31 => ?_) (fun c31 => ?_)
      ·
        replace c31 := of_decide_eq_true c31
        refine WC.region ?_
        refine WL.val (dx_move rfl rfl) rfl rfl ?_
        refine WL.val (dx_fld (o1 := 0) rfl ty_fld_42_0_0 rfl rfl) rfl rfl ?_
        refine WL.val (dx_loadN (cs := [.string r18.1.1, .string r18.1.2]) rfl ty_agg_40_2 rfl (k29.part 0 2) rfl) rfl rfl ?_
        refine WL.get (dx_lit1 (r := encAd r18.1) rfl ty_ap_50 (by decide) (by decide) rfl rfl rfl) rfl rfl ?_
        rintro u32 W33 ⟨k34, b35, z36⟩
        replace h1 := h1.below b35
        replace hM := hM.below b35
        replace hu := hu.below b35
        replace k29 := k29.below b35
        replace hB := below_then hB b35
        replace hL := LL.below hL b35
        have q1 := filt_len (fun b => decide (b.2.1 = mx)) xs i
        refine WL.get (dx_apW rfl ty_ap_50 rfl rfl hu.new (k34.rd (L := []) (by simp)) (fun r hr => by rw [List.mem_singleton.1 hr]; exact oc_Ad _) (by rw [List.length_map, List.length_map]; unfold maxLen; simp; omega) (by rw [List.length_map, List.length_map]; simp; omega) hB.size) rfl rfl ?_
        rintro u38 W39 ⟨k40, b41⟩
        replace hB := hB.trans b41
        replace h1 := h10.below hB
        replace hM := hM0.below hB
        replace hL := LL.below hL0 hB
        replace k40 := k40.toL hL0
        refine WL.val (dx_assign rfl rfl) rfl rfl ?_
        refine WL.nil ?_
        refine hK16 ?_
        refine WC.region ?_
        refine WL.val (dx_add (r := (i : Int) + 1) rfl rfl rfl (wrap64_id (by omega))) rfl rfl ?_
        refine WL.val (dx_move rfl rfl) rfl rfl ?_
        refine WL.nil ?_
        replace k40 : OwnL 2 w.heap.size (L) W39 u38 ((((xs.take (i + 1)).filter fun b => decide (b.2.1 = mx)).map (·.1)).map encAd) := (by rw [of_step mx e19, if_pos (by assumption), List.map_append]; exact k40)
        exact hK11 (i + 1) u38 ⟨(by omega), hB, hL, h1, hM, k40⟩ (by omega) (by repeat first | exact trivial | exact And.intro rfl trivial | refine And.intro rfl ?_ | refine And.intro (congrArg (fun z : Int => some (Value.int .i64 z)) (by omega)) ?_)
      ·
        replace c31 := of_decide_eq_false c31
        refine WC.skip ?_
        refine hK16 ?_
        refine WC.region ?_
        refine WL.val (dx_add (r := (i : Int) + 1) rfl rfl rfl (wrap64_id (by omega))) rfl rfl ?_
        refine WL.val (dx_move rfl rfl) rfl rfl ?_
        refine WL.nil ?_
        replace hu : OwnL 2 w.heap.size (W12.heap.size :: L) W27 cu ((((xs.take (i + 1)).filter fun b => decide (b.2.1 = mx)).map (·.1)).map encAd) := (by rw [of_step mx e19, if_neg (by assumption), List.append_nil]; exact hu)
        replace hL := hL.less (fun x hx => (.tail _ hx))
        replace h1 := h1.less (fun x hx => (.tail _ hx))
        replace hM := hM.less (fun x hx => (.tail _ hx))
        replace hu := hu.less (fun x hx => (.tail _ hx))
        exact hK11 (i + 1) cu ⟨(by omega), hB, hL, h1, hM, hu⟩ (by omega) (by repeat first | exact trivial | exact And.intro rfl trivial | refine And.intro rfl ?_ | refine And.intro (congrArg (fun z : Int => some (Value.int .i64 z)) (by omega)) ?_)
    ·
      replace c15 := of_decide_eq_false c15
      refine WC.exit ?_
      refine hK9 ?_
      refine WC.seq fun K42 hK42 => ?_
      refine WC.region ?_
      refine WL.val (dx_move rfl rfl) rfl rfl ?_
      refine WL.val (dx_assign rfl rfl) rfl rfl ?_
      refine WL.nil ?_
      refine hK42 ?_
      refine WC.ret fun a_ ha_ => ?_
      exact hQ (cv_ret1 rfl (.tmp rfl) (by have hr : ofB xs mx = (((xs.take i).filter fun b => decide (b.2.1 = mx)).map (·.1)) := (by unfold ofB; rw [if_pos (by assumption), show xs.take i = xs from List.take_of_length_le (by omega)]); rw [hr]; exact hu.rd) hB ha_)

end Go.Proofs.YthefddclefimoaaGreatDoor
namespace Go.Proofs.YthefddclefimoaaGreatDoor
open Go.RowKit
set_option linter.unusedVariables false
set_option linter.unusedSimpArgs false
set_option maxRecDepth 8000

section
variable {ops : Array Oper} {o : Oper} {N : Nat} {f : Fl} {w : World}
theorem dx_neAd {t' : TypeId} {x y : Operand} {a b c d : ByteArray} (ho : o.op = .binOp .neq 40 x y t') (hx : ev f x = some (.agg #[.string a, .string b])) (hy : ev f y = some (.agg #[.string c, .string d])) (hw : wantF ops o f = some true := by rfl) : DV Tryz.prog ops o N f w (.bool (!decide (a = c ∧ b = d))) := fun k ha => by
  have hx := ha.ev hx
  have hy := ha.ev hy
  have hg : Tryz.prog.eqGuardType Tryz.prog.depth 40 = false := by kernel_rfl
  have hgd : (eqGuard .neq 40 x y (.agg #[.string a, .string b]) (.agg #[.string c, .string d])).run Tryz.prog w = .ok () w := by
    simp [eqGuard, Sem.run_bind, hg]
  have e1 : binOp .neq 40 (.agg #[.string a, .string b]) (.agg #[.string c, .string d]) = (do pure (.bool (!(← Op.equal 40 (.agg #[.string a, .string b]) (.agg #[.string c, .string d]))))) := rfl
  have e2 : (Op.equal 40 (.agg #[.string a, .string b]) (.agg #[.string c, .string d])).run Tryz.prog w = .ok (decide (a = c ∧ b = d)) w := run_eqAd a b c d
  exact Does.pure (wantF_of ha hw) _ (by unfold execOp; simp only [ho, hx, hy, Sem.run_bind, hgd, Result.andThen_ok, e1, e2, Sem.run_pure]) ⟨rfl, rfl⟩
end
theorem oc_AdR (p : ByteArray × ByteArray) : ∀ u ∈ encAd p, u.oneCell' = true := oc_cons rfl (oc_cons rfl oc_nil)
set_option maxHeartbeats 1000000 in
theorem alike_v (xs : List (ByteArray × ByteArray)) (sv sv2 : Value) (w : World) (L : List Nat) (hL : LL L w) (h1 : RdF 2 L w sv (xs.map encAd)) (h3 : RdF 2 L w sv2 (xs.map encAd)) : CV Tryz.prog 33 [sv, sv2] w fun v W => v = .bool true := by
  refine cv_enter (N := 26) (f := [(0, sv), (1, sv2)]) Tryz.func33 rfl rfl rfl rfl fun Q hQ hE => ?_
  have hB := Below.refl w.heap.size w
  have h1m : xs.length ≤ maxLen := by have := h1.len; rwa [List.length_map] at this
  unfold maxLen at h1m
  have h3m : xs.length ≤ maxLen := by have := h3.len; rwa [List.length_map] at this
  unfold maxLen at h3m
  refine WC.seq fun K1 hK1 => ?_
  refine WC.region ?_
  refine WL.val (dx_assign rfl rfl) rfl rfl ?_
  refine WL.nil ?_
  refine hK1 ?_
  refine WC.seq fun K2 hK2 => ?_
  refine WC.seq fun K3 hK3 => ?_
  refine WC.region ?_
  refine WL.val (dx_move rfl rfl) rfl rfl ?_
  refine WL.val (dx_lenX rfl ty_slice_50 rfl h1) rfl rfl ?_
  refine WL.val (dx_move rfl rfl) rfl rfl ?_
  refine WL.val (dx_lenX rfl ty_slice_50 rfl h3) rfl rfl ?_
  refine WL.val (dx_neq rfl rfl rfl) rfl rfl ?_
  refine WL.nil ?_
  refine hK3 ?_
  refine WC.cond rfl (fun c4 => ?_) (fun c4 => ?_)
  ·
    replace c4 := bnot_t c4
    exact absurd rfl (of_decide_eq_false c4)
  ·
    replace c4 := bnot_f c4
    replace c4 := of_decide_eq_true c4
    refine WC.skip ?_
    refine hK2 ?_
    refine WC.seq fun K5 hK5 => ?_
    refine WC.seq fun K6 hK6 => ?_
    refine WC.region ?_
    refine WL.val (dx_assign rfl rfl) rfl rfl ?_
    refine WL.nil ?_
    refine hK6 ?_
    refine WC.block ?_
    refine WC.loop (fun (i : Nat) => [(0, sv), (1, sv2), (4, .bool false), (5, .int .i64 (i : Int))]) (fun (i : Nat) W => i ≤ xs.length ∧ Below w.heap.size w W ∧ LL (L) W ∧ RdF 2 (L) W sv (xs.map encAd) ∧ RdF 2 (L) W sv2 (xs.map encAd)) (fun (i : Nat) => xs.length - i) 0 (by repeat first | exact trivial | exact And.intro rfl trivial | refine And.intro rfl ?_ | refine And.intro (congrArg (fun z : Int => some (Value.int .i64 z)) (by omega)) ?_) ⟨Nat.zero_le _, hB, hL, h1, h3⟩ ?_
    clear h1 h3 hB hL
    rintro K7 i W8 ⟨hi, hB, hL, h1, h3⟩ hK7
    refine WC.seq fun K9 hK9 => ?_
    refine WC.seq fun K10 hK10 => ?_
    refine WC.region ?_
    refine WL.val (dx_move rfl rfl) rfl rfl ?_
    refine WL.val (dx_move rfl rfl) rfl rfl ?_
    refine WL.val (dx_lenX rfl ty_slice_50 rfl h1) rfl rfl ?_
    refine WL.val (dx_lss rfl rfl rfl) rfl rfl ?_
    refine WL.nil ?_
    refine hK10 ?_
    refine WC.cond rfl (fun c11 => ?_) (fun c11 => ?_)
    ·
      replace c11 := of_decide_eq_true c11
      refine WC.skip ?_
      refine hK9 ?_
      refine WC.seq fun K12 hK12 => ?_
      refine WC.block ?_
      refine WC.seq fun K13 hK13 => ?_
      obtain ⟨r14, e15⟩ : ∃ x, xs[i]? = some x := ⟨_, List.getElem?_eq_getElem (by omega)⟩
      refine WC.drawM 8 [(some 17, .is (sv)), (some 18, .is (.int .i64 (i : Int))), (some 19, .by fun u W => PtR (L) W u (encAd r14)), (some 20, .is (.agg #[.string r14.1, .string r14.2])), (some 21, .is (sv2)), (some 22, .is (.int .i64 (i : Int))), (some 23, .by fun u W => PtR (L) W u (encAd r14)), (some 24, .is (.agg #[.string r14.1, .string r14.2]))] [[], [], [0, 1], [2], [], [], [4, 5], [6]] (by kernel_rfl) (by kernel_rfl) (by kernel_rfl) (by kernel_rfl) (by kernel_rfl) (by kernel_rfl) (by kernel_rfl) ⟨fun _ _ _ hb h => h.below hb, fun _ _ _ hb h => h.below hb, trivial⟩ ?_ ?_
      ·
        refine DSteps.cons (fun Wd hd => ?_) ?_
        ·
          exact DV.dr (dx_move rfl rfl) ⟨Below.refl _ _, rfl⟩
        refine DSteps.cons (fun Wd hd => ?_) ?_
        ·
          exact DV.dr (dx_move rfl rfl) ⟨Below.refl _ _, rfl⟩
        refine DSteps.cons (fun Wd hd => ?_) ?_
        ·
          have h1 := h1.below hd
          exact (dx_idxF i rfl ty_slice_50 rfl rfl h1 (by omega) (at_mapX e15)).mono (fun v W' h => ⟨by rw [← h.1]; exact Below.refl _ _, by rw [← h.1]; exact h.2⟩)
        refine DSteps.cons (fun Wd hd => ?_) ?_
        ·
          intro u6_2 p6_2
          exact DV.dr (dx_loadPN rfl ty_agg_40_2 rfl p6_2 rfl) ⟨Below.refl _ _, rfl⟩
        refine DSteps.cons (fun Wd hd => ?_) ?_
        ·
          exact DV.dr (dx_move rfl rfl) ⟨Below.refl _ _, rfl⟩
        refine DSteps.cons (fun Wd hd => ?_) ?_
        ·
          exact DV.dr (dx_move rfl rfl) ⟨Below.refl _ _, rfl⟩
        refine DSteps.cons (fun Wd hd => ?_) ?_
        ·
          have h3 := h3.below hd
          exact (dx_idxF i rfl ty_slice_50 rfl rfl h3 (by omega) (at_mapX e15)).mono (fun v W' h => ⟨by rw [← h.1]; exact Below.refl _ _, by rw [← h.1]; exact h.2⟩)
        refine DSteps.cons (fun Wd hd => ?_) ?_
        ·
          intro u6_6 p6_6
          exact DV.dr (dx_loadPN rfl ty_agg_40_2 rfl p6_6 rfl) ⟨Below.refl _ _, rfl⟩
        exact trivial
      ·
        intro W16 b17
        intro u6_2 p6_2
        intro u6_6 p6_6
        replace h1 := h1.below b17
        replace h3 := h3.below b17
        replace hB := below_then hB b17
        replace hL := LL.below hL b17
        refine WL.val (dx_neAd rfl rfl rfl) rfl rfl ?_
        refine WL.nil ?_
        refine hK13 ?_
        refine WC.cond rfl (fun c18 => ?_) (fun c18 => ?_)
        ·
          replace c18 := bnot_t c18
          replace c18 := of_decide_eq_false c18
          refine WC.seq fun K19 hK19 => ?_
          refine WC.region ?_
          refine WL.val (dx_assign rfl rfl) rfl rfl ?_
          refine WL.nil ?_
          refine hK19 ?_
          refine WC.ret fun a_ ha_ => ?_
          exact hQ (cv_ret1 rfl (.tmp rfl) (by exfalso; simp_all) hB ha_)
        ·
          replace c18 := bnot_f c18
          replace c18 := of_decide_eq_true c18
          refine WC.skip ?_
          refine hK12 ?_
          refine WC.region ?_
          refine WL.val (dx_move rfl rfl) rfl rfl ?_
          refine WL.val (dx_add (r := (i : Int) + 1) rfl rfl rfl (wrap64_id (by omega))) rfl rfl ?_
          refine WL.val (dx_assign rfl rfl) rfl rfl ?_
          refine WL.nil ?_
          exact hK7 (i + 1) ⟨(by omega), hB, hL, h1, h3⟩ (by omega) (by repeat first | exact trivial | exact And.intro rfl trivial | refine And.intro rfl ?_ | refine And.intro (congrArg (fun z : Int => some (Value.int .i64 z)) (by omega)) ?_)
    ·
      replace c11 := of_decide_eq_false c11
      refine WC.exit ?_
      refine hK5 ?_
      refine WC.seq fun K20 hK20 => ?_
      refine WC.region ?_
      refine WL.val (dx_assign rfl rfl) rfl rfl ?_
      refine WL.nil ?_
      refine hK20 ?_
      refine WC.ret fun a_ ha_ => ?_
      exact hQ (cv_ret1 rfl (.tmp rfl) rfl hB ha_)

section
variable {ops : Array Oper} {o : Oper} {N : Nat} {f : Fl} {w : World}
theorem run_eqAdR (a b : ByteArray) : (Op.equalIn 9999 40 (.agg #[.string a, .string b]) (.agg #[.string a, .string b])).run Tryz.prog w = .ok true w := by
  rw [show (9999 : Nat) = 9998 + 1 from rfl, run_equalIn_struct w 9998 40 _ _ (by kernel_rfl) (by kernel_rfl)]
  obtain ⟨f0, f1, hfs, h0, h1⟩ := two_mapX fieldsAd
  rw [hfs]
  simp only [Prod.mk.injEq] at h0 h1
  obtain ⟨n0, t0, o0⟩ := h0
  obtain ⟨n1, t1, o1⟩ := h1
  have m0 : f0.name ≠ "_" := by simpa using n0
  have m1 : f1.name ≠ "_" := by simpa using n1
  have e0 := run_equalIn_string (P := Tryz.prog) (w := w) 9997 9 a a Tryz.underlying9
  have e1 := run_equalIn_string (P := Tryz.prog) (w := w) 9997 9 b b Tryz.underlying9
  rw [beq_self_eq_true] at e0 e1
  simp only [Op.eqFields, if_pos m0, if_pos m1, t0, o0, t1, o1, Sem.run_bind, (run_partAd a b).1, (run_partAd a b).2, Result.andThen_ok]
  rw [show (9998 : Nat) = 9997 + 1 from rfl, e0]
  simp only [Result.andThen_ok, Bool.not_true, Bool.false_eq_true, if_false, Sem.run_bind, (run_partAd a b).2]
  rw [e1]
  simp
theorem three_mapX {α β : Type} {g : α → β} {l : List α} {x y z : β} (h : l.map g = [x, y, z]) : ∃ a b c, l = [a, b, c] ∧ g a = x ∧ g b = y ∧ g c = z := by
  match l, h with
  | [a, b, c], h => simp at h; exact ⟨a, b, c, rfl, h.1, h.2.1, h.2.2⟩
theorem fieldsBd : (Tryz.prog.fieldsOf 42).toList.map (fun f => (f.name == "_", f.type, f.offset)) = [(false, 40, 0), (false, 9, 2), (false, 3, 3)] := by kernel_rfl
theorem run_partBd (a b c : ByteArray) (n : Int) : (part 40 #[.string a, .string b, .string c, .int .i64 n] 0).run Tryz.prog w = .ok (.agg #[.string a, .string b]) w ∧ (part 9 #[.string a, .string b, .string c, .int .i64 n] 2).run Tryz.prog w = .ok (.string c) w ∧ (part 3 #[.string a, .string b, .string c, .int .i64 n] 3).run Tryz.prog w = .ok (.int .i64 n) w := by
  have g1 : (isAgg 9).run Tryz.prog w = .ok false w := by
    unfold isAgg
    rw [Sem.run_bind, run_underlying Tryz.underlying9 w]; rfl
  have g2 : (isAgg 3).run Tryz.prog w = .ok false w := by
    unfold isAgg
    rw [Sem.run_bind, run_underlying Tryz.underlying3 w]; rfl
  have g0 : (isAgg 40).run Tryz.prog w = .ok true w := by
    unfold isAgg
    rw [Sem.run_bind, run_underlying Tryz.underlying40 w]; rfl
  refine ⟨?_, ?_, ?_⟩
  · obtain ⟨i, hi, hs⟩ := of_sizeB (show sizeB Tryz.prog 40 2 = true by kernel_rfl)
    simp [part, Sem.run_bind, g0, sizeOf, typeInfo, run_program, hi, hs]
  · simp [part, Sem.run_bind, g1]
  · simp [part, Sem.run_bind, g2]
theorem run_eqBdR (a b c : ByteArray) (n : Int) : (Op.equalIn 10000 42 (.agg #[.string a, .string b, .string c, .int .i64 n]) (.agg #[.string a, .string b, .string c, .int .i64 n])).run Tryz.prog w = .ok true w := by
  rw [show (10000 : Nat) = 9999 + 1 from rfl, run_equalIn_struct w 9999 42 _ _ (by kernel_rfl) (by kernel_rfl)]
  obtain ⟨f0, f1, f2, hfs, h0, h1, h2⟩ := three_mapX fieldsBd
  rw [hfs]
  simp only [Prod.mk.injEq] at h0 h1 h2
  obtain ⟨n0, t0, o0⟩ := h0
  obtain ⟨n1, t1, o1⟩ := h1
  obtain ⟨n2, t2, o2⟩ := h2
  have m0 : f0.name ≠ "_" := by simpa using n0
  have m1 : f1.name ≠ "_" := by simpa using n1
  have m2 : f2.name ≠ "_" := by simpa using n2
  obtain ⟨p0, p1, p2⟩ := run_partBd (w := w) a b c n
  have e1 := run_equalIn_string (P := Tryz.prog) (w := w) 9998 9 c c Tryz.underlying9
  have e2 := run_equalIn_int (P := Tryz.prog) (w := w) 9998 3 .i64 .i64 n n Tryz.underlying3
  rw [beq_self_eq_true] at e1 e2
  simp only [Op.eqFields, if_pos m0, if_pos m1, if_pos m2, t0, o0, t1, o1, t2, o2, Sem.run_bind, p0, Result.andThen_ok]
  rw [run_eqAdR]
  simp only [Result.andThen_ok, Bool.not_true, Bool.false_eq_true, if_false, Sem.run_bind, p1]
  rw [show (9999 : Nat) = 9998 + 1 from rfl, e1]
  simp only [Result.andThen_ok, Bool.not_true, Bool.false_eq_true, if_false, Sem.run_bind, p2]
  rw [e2]
  simp
theorem dx_neBdR {t' : TypeId} {x y : Operand} {a b c : ByteArray} {n : Int} (ho : o.op = .binOp .neq 42 x y t') (hx : ev f x = some (.agg #[.string a, .string b, .string c, .int .i64 n])) (hy : ev f y = some (.agg #[.string a, .string b, .string c, .int .i64 n])) (hw : wantF ops o f = some true := by rfl) : DV Tryz.prog ops o N f w (.bool false) := fun k ha => by
  have hx := ha.ev hx
  have hy := ha.ev hy
  have hg : Tryz.prog.eqGuardType Tryz.prog.depth 42 = false := by kernel_rfl
  have hgd : (eqGuard .neq 42 x y (.agg #[.string a, .string b, .string c, .int .i64 n]) (.agg #[.string a, .string b, .string c, .int .i64 n])).run Tryz.prog w = .ok () w := by
    simp [eqGuard, Sem.run_bind, hg]
  have e1 : binOp .neq 42 (.agg #[.string a, .string b, .string c, .int .i64 n]) (.agg #[.string a, .string b, .string c, .int .i64 n]) = (do pure (.bool (!(← Op.equal 42 (.agg #[.string a, .string b, .string c, .int .i64 n]) (.agg #[.string a, .string b, .string c, .int .i64 n]))))) := rfl
  have e2 : (Op.equal 42 (.agg #[.string a, .string b, .string c, .int .i64 n]) (.agg #[.string a, .string b, .string c, .int .i64 n])).run Tryz.prog w = .ok true w := run_eqBdR a b c n
  exact Does.pure (wantF_of ha hw) _ (by unfold execOp; simp only [ho, hx, hy, Sem.run_bind, hgd, Result.andThen_ok, e1, e2, Sem.run_pure, Bool.not_true]) ⟨rfl, rfl⟩
theorem dx_eqBdR {t' : TypeId} {x y : Operand} {a b c : ByteArray} {n : Int} (ho : o.op = .binOp .eql 42 x y t') (hx : ev f x = some (.agg #[.string a, .string b, .string c, .int .i64 n])) (hy : ev f y = some (.agg #[.string a, .string b, .string c, .int .i64 n])) (hw : wantF ops o f = some true := by rfl) : DV Tryz.prog ops o N f w (.bool true) := fun k ha => by
  have hx := ha.ev hx
  have hy := ha.ev hy
  have hg : Tryz.prog.eqGuardType Tryz.prog.depth 42 = false := by kernel_rfl
  have hgd : (eqGuard .eql 42 x y (.agg #[.string a, .string b, .string c, .int .i64 n]) (.agg #[.string a, .string b, .string c, .int .i64 n])).run Tryz.prog w = .ok () w := by
    simp [eqGuard, Sem.run_bind, hg]
  have e1 : binOp .eql 42 (.agg #[.string a, .string b, .string c, .int .i64 n]) (.agg #[.string a, .string b, .string c, .int .i64 n]) = (do pure (.bool (← Op.equal 42 (.agg #[.string a, .string b, .string c, .int .i64 n]) (.agg #[.string a, .string b, .string c, .int .i64 n])))) := rfl
  have e2 : (Op.equal 42 (.agg #[.string a, .string b, .string c, .int .i64 n]) (.agg #[.string a, .string b, .string c, .int .i64 n])).run Tryz.prog w = .ok true w := run_eqBdR a b c n
  exact Does.pure (wantF_of ha hw) _ (by unfold execOp; simp only [ho, hx, hy, Sem.run_bind, hgd, Result.andThen_ok, e1, e2, Sem.run_pure]) ⟨rfl, rfl⟩
end
set_option maxHeartbeats 1000000 in
theorem sameB_v (xs : List BondX) (sv sv2 : Value) (w : World) (L : List Nat) (hL : LL L w) (h1 : RdF 4 L w sv (xs.map encB)) (h3 : RdF 4 L w sv2 (xs.map encB)) : CV Tryz.prog 30 [sv, sv2] w fun v W => v = .bool true := by
  refine cv_enter (N := 26) (f := [(0, sv), (1, sv2)]) Tryz.func30 rfl rfl rfl rfl fun Q hQ hE => ?_
  have hB := Below.refl w.heap.size w
  have h1m : xs.length ≤ maxLen := by have := h1.len; rwa [List.length_map] at this
  unfold maxLen at h1m
  have h3m : xs.length ≤ maxLen := by have := h3.len; rwa [List.length_map] at this
  unfold maxLen at h3m
  refine WC.seq fun K1 hK1 => ?_
  refine WC.region ?_
  refine WL.val (dx_assign rfl rfl) rfl rfl ?_
  refine WL.nil ?_
  refine hK1 ?_
  refine WC.seq fun K2 hK2 => ?_
  refine WC.seq fun K3 hK3 => ?_
  refine WC.region ?_
  refine WL.val (dx_move rfl rfl) rfl rfl ?_
  refine WL.val (dx_lenX rfl ty_slice_38 rfl h1) rfl rfl ?_
  refine WL.val (dx_move rfl rfl) rfl rfl ?_
  refine WL.val (dx_lenX rfl ty_slice_38 rfl h3) rfl rfl ?_
  refine WL.val (dx_neq rfl rfl rfl) rfl rfl ?_
  refine WL.nil ?_
  refine hK3 ?_
  refine WC.cond rfl (fun c4 => ?_) (fun c4 => ?_)
  ·
    replace c4 := bnot_t c4
    exact absurd rfl (of_decide_eq_false c4)
  ·
    replace c4 := bnot_f c4
    replace c4 := of_decide_eq_true c4
    refine WC.skip ?_
    refine hK2 ?_
    refine WC.seq fun K5 hK5 => ?_
    refine WC.seq fun K6 hK6 => ?_
    refine WC.region ?_
    refine WL.val (dx_assign rfl rfl) rfl rfl ?_
    refine WL.nil ?_
    refine hK6 ?_
    refine WC.block ?_
    refine WC.loop (fun (i : Nat) => [(0, sv), (1, sv2), (4, .bool false), (5, .int .i64 (i : Int))]) (fun (i : Nat) W => i ≤ xs.length ∧ Below w.heap.size w W ∧ LL (L) W ∧ RdF 4 (L) W sv (xs.map encB) ∧ RdF 4 (L) W sv2 (xs.map encB)) (fun (i : Nat) => xs.length - i) 0 (by repeat first | exact trivial | exact And.intro rfl trivial | refine And.intro rfl ?_ | refine And.intro (congrArg (fun z : Int => some (Value.int .i64 z)) (by omega)) ?_) ⟨Nat.zero_le _, hB, hL, h1, h3⟩ ?_
    clear h1 h3 hB hL
    rintro K7 i W8 ⟨hi, hB, hL, h1, h3⟩ hK7
    refine WC.seq fun K9 hK9 => ?_
    refine WC.seq fun K10 hK10 => ?_
    refine WC.region ?_
    refine WL.val (dx_move rfl rfl) rfl rfl ?_
    refine WL.val (dx_move rfl rfl) rfl rfl ?_
    refine WL.val (dx_lenX rfl ty_slice_38 rfl h1) rfl rfl ?_
    refine WL.val (dx_lss rfl rfl rfl) rfl rfl ?_
    refine WL.nil ?_
    refine hK10 ?_
    refine WC.cond rfl (fun c11 => ?_) (fun c11 => ?_)
    ·
      replace c11 := of_decide_eq_true c11
      refine WC.skip ?_
      refine hK9 ?_
      refine WC.seq fun K12 hK12 => ?_
      refine WC.block ?_
      refine WC.seq fun K13 hK13 => ?_
      obtain ⟨r14, e15⟩ : ∃ x, xs[i]? = some x := ⟨_, List.getElem?_eq_getElem (by omega)⟩
      refine WC.drawM 8 [(some 17, .is (sv)), (some 18, .is (.int .i64 (i : Int))), (some 19, .by fun u W => PtR (L) W u (encB r14)), (some 20, .is (.agg #[.string r14.1.1, .string r14.1.2, .string r14.2.1, .int .i64 r14.2.2])), (some 21, .is (sv2)), (some 22, .is (.int .i64 (i : Int))), (some 23, .by fun u W => PtR (L) W u (encB r14)), (some 24, .is (.agg #[.string r14.1.1, .string r14.1.2, .string r14.2.1, .int .i64 r14.2.2]))] [[], [], [0, 1], [2], [], [], [4, 5], [6]] (by kernel_rfl) (by kernel_rfl) (by kernel_rfl) (by kernel_rfl) (by kernel_rfl) (by kernel_rfl) (by kernel_rfl) ⟨fun _ _ _ hb h => h.below hb, fun _ _ _ hb h => h.below hb, trivial⟩ ?_ ?_
      ·
        refine DSteps.cons (fun Wd hd => ?_) ?_
        ·
          exact DV.dr (dx_move rfl rfl) ⟨Below.refl _ _, rfl⟩
        refine DSteps.cons (fun Wd hd => ?_) ?_
        ·
          exact DV.dr (dx_move rfl rfl) ⟨Below.refl _ _, rfl⟩
        refine DSteps.cons (fun Wd hd => ?_) ?_
        ·
          have h1 := h1.below hd
          exact (dx_idxF i rfl ty_slice_38 rfl rfl h1 (by omega) (at_mapX e15)).mono (fun v W' h => ⟨by rw [← h.1]; exact Below.refl _ _, by rw [← h.1]; exact h.2⟩)
        refine DSteps.cons (fun Wd hd => ?_) ?_
        ·
          intro u6_2 p6_2
          exact DV.dr (dx_loadPN rfl ty_agg_42_4 rfl p6_2 rfl) ⟨Below.refl _ _, rfl⟩
        refine DSteps.cons (fun Wd hd => ?_) ?_
        ·
          exact DV.dr (dx_move rfl rfl) ⟨Below.refl _ _, rfl⟩
        refine DSteps.cons (fun Wd hd => ?_) ?_
        ·
          exact DV.dr (dx_move rfl rfl) ⟨Below.refl _ _, rfl⟩
        refine DSteps.cons (fun Wd hd => ?_) ?_
        ·
          have h3 := h3.below hd
          exact (dx_idxF i rfl ty_slice_38 rfl rfl h3 (by omega) (at_mapX e15)).mono (fun v W' h => ⟨by rw [← h.1]; exact Below.refl _ _, by rw [← h.1]; exact h.2⟩)
        refine DSteps.cons (fun Wd hd => ?_) ?_
        ·
          intro u6_6 p6_6
          exact DV.dr (dx_loadPN rfl ty_agg_42_4 rfl p6_6 rfl) ⟨Below.refl _ _, rfl⟩
        exact trivial
      ·
        intro W16 b17
        intro u6_2 p6_2
        intro u6_6 p6_6
        replace h1 := h1.below b17
        replace h3 := h3.below b17
        replace hB := below_then hB b17
        replace hL := LL.below hL b17
        refine WL.val (dx_neBdR rfl rfl rfl) rfl rfl ?_
        refine WL.nil ?_
        refine hK13 ?_
        refine WC.condF rfl ?_
        refine WC.skip ?_
        refine hK12 ?_
        refine WC.region ?_
        refine WL.val (dx_move rfl rfl) rfl rfl ?_
        refine WL.val (dx_add (r := (i : Int) + 1) rfl rfl rfl (wrap64_id (by omega))) rfl rfl ?_
        refine WL.val (dx_assign rfl rfl) rfl rfl ?_
        refine WL.nil ?_
        exact hK7 (i + 1) ⟨(by omega), hB, hL, h1, h3⟩ (by omega) (by repeat first | exact trivial | exact And.intro rfl trivial | refine And.intro rfl ?_ | refine And.intro (congrArg (fun z : Int => some (Value.int .i64 z)) (by omega)) ?_)
    ·
      replace c11 := of_decide_eq_false c11
      refine WC.exit ?_
      refine hK5 ?_
      refine WC.seq fun K18 hK18 => ?_
      refine WC.region ?_
      refine WL.val (dx_assign rfl rfl) rfl rfl ?_
      refine WL.nil ?_
      refine hK18 ?_
      refine WC.ret fun a_ ha_ => ?_
      exact hQ (cv_ret1 rfl (.tmp rfl) rfl hB ha_)

end Go.Proofs.YthefddclefimoaaGreatDoor
namespace Go.Proofs.YthefddclefimoaaGreatDoor
open Go.RowKit
set_option linter.unusedVariables false
set_option linter.unusedSimpArgs false
set_option maxRecDepth 8000

/-- What was there at a base is as it was (the list is of no weight). -/
def SinceB (w1 : World) (L : List Nat) (w : World) : Prop := Below w1.heap.size w1 w
theorem SinceB.below {w1 w w' : World} {L : List Nat} (h : SinceB w1 L w) (hb : Below w.heap.size w w') : SinceB w1 L w' := Below.trans h (hb.mono (Below.size h))
theorem SinceB.more {w1 w w' : World} {L : List Nat} (h : SinceB w1 L w) (hb : Below w.heap.size w w') {B : Nat} (hB : w.heap.size ≤ B) : SinceB w1 (B :: L) w' := h.below hb
theorem SinceB.less {w1 w : World} {L L' : List Nat} (h : SinceB w1 L w) (hl : ∀ x, x ∈ L' → x ∈ L) : SinceB w1 L' w := h
def notA (m x : ByteArray) (b : BondX) : Bool := !decide (b.1.1 = m ∧ b.1.2 = x)
def withoutB (xs : List BondX) (m x : ByteArray) : List BondX := xs.filter (notA m x)
theorem wo_yes {xs : List BondX} {m x : ByteArray} {i : Nat} {r : BondX} (h : xs[i]? = some r) (hn : ¬ (r.1.1 = m ∧ r.1.2 = x)) : withoutB (xs.take (i + 1)) m x = withoutB (xs.take i) m x ++ [r] := by
  unfold withoutB
  rw [List.take_add_one, h, List.filter_append]
  simp [notA, hn]
theorem wo_no {xs : List BondX} {m x : ByteArray} {i : Nat} {r : BondX} (h : xs[i]? = some r) (hn : r.1.1 = m ∧ r.1.2 = x) : withoutB (xs.take (i + 1)) m x = withoutB (xs.take i) m x := by
  unfold withoutB
  rw [List.take_add_one, h, List.filter_append]
  simp [notA, hn]
theorem wo_len (xs : List BondX) (m x : ByteArray) (i : Nat) : (withoutB (xs.take i) m x).length ≤ xs.length := by
  unfold withoutB
  have h1 := List.length_filter_le (notA m x) (xs.take i)
  have h2 := List.length_take_le i xs
  rw [List.length_take] at h1
  omega
set_option maxHeartbeats 1000000 in
theorem without_v (xs : List BondX) (m x : ByteArray) (sv : Value) (w : World) (L : List Nat) (hL : LL L w) (h1 : RdF 4 L w sv (xs.map encB))  (hxl : xs.length ≤ 100) : CV Tryz.prog 63 [sv, .agg #[.string m, .string x]] w fun v W => RdF 4 L W v ((withoutB xs m x).map encB) := by
  refine cv_enter (N := 28) (f := [(0, sv), (1, .agg #[.string m, .string x])]) Tryz.func63 rfl rfl rfl rfl fun Q hQ hE => ?_
  have hB := Below.refl w.heap.size w
  have hL0 := hL
  have h1m : xs.length ≤ maxLen := by have := h1.len; rwa [List.length_map] at this
  unfold maxLen at h1m
  refine WC.seq fun K1 hK1 => ?_
  refine WC.region ?_
  refine WL.get (dx_box rfl rfl rfl) rfl rfl ?_
  rintro _ W2 ⟨rfl, k3, b4, z5⟩
  have l6 := hB.size
  replace h1 := h1.more b4 (Nat.le_refl _)
  replace hB := below_then hB b4
  replace hL := LL.more hL z5
  refine WL.val (dx_assign rfl rfl) rfl rfl ?_
  refine WL.nil ?_
  refine hK1 ?_
  refine WC.seq fun K7 hK7 => ?_
  refine WC.region ?_
  refine WL.val (dx_assign rfl rfl) rfl rfl ?_
  refine WL.nil ?_
  refine hK7 ?_
  refine WC.seq fun K8 hK8 => ?_
  refine WC.seq fun K9 hK9 => ?_
  refine WC.region ?_
  refine WL.val (dx_assign rfl rfl) rfl rfl ?_
  refine WL.nil ?_
  refine hK9 ?_
  refine WC.block ?_
  have zh1 := h1
  have zk3 := k3
  have zhB := hB
  have zhL := hL
  have h5 : NewW 4 W2.heap.size (([] : List BondX).map encB) (.slice none 0 0) W2 := .inl ⟨rfl, rfl, by decide⟩
  have hC : SinceB W2 (w.heap.size :: L) W2 := Below.refl _ _
  refine WC.loop3 (fun (ia : Nat) (ov : Value) (out : List BondX) => [(0, sv), (3, .pointer (some ⟨w.heap.size, 0, none⟩)), (4, .slice none 0 0), (6, .int .i64 (ia : Int)), (5, ov)]) (fun (ia : Nat) (ov : Value) (out : List BondX) W => ia ≤ xs.length ∧ out = withoutB (xs.take ia) m x ∧ Below w.heap.size w W ∧ LL (w.heap.size :: L) W ∧ RdF 4 (w.heap.size :: L) W sv (xs.map encB) ∧ NewW 4 W2.heap.size (out.map encB) ov W ∧ SinceB W2 (w.heap.size :: L) W ∧ Blk W w.heap.size [.string m, .string x]) (fun (ia : Nat) (ov : Value) (out : List BondX) => xs.length - ia) 0 (.slice none 0 0) [] (by repeat first | exact trivial | exact And.intro rfl trivial | refine And.intro rfl ?_ | refine And.intro (congrArg (fun z : Int => some (Value.int .i64 z)) (by omega)) ?_) ⟨Nat.zero_le _, (by simp [withoutB]), hB, hL, h1, h5, hC, k3⟩ ?_
  clear h1 h5 hC k3 hB hL
  rintro K10 ia ov out W11 ⟨hi, hv, hB, hL, h1, h5, hC, k3⟩ hK10
  have hol : out.length ≤ xs.length := (by rw [hv]; exact wo_len xs m x ia)
  refine WC.seq fun K12 hK12 => ?_
  refine WC.seq fun K13 hK13 => ?_
  refine WC.region ?_
  refine WL.val (dx_move rfl rfl) rfl rfl ?_
  refine WL.val (dx_move rfl rfl) rfl rfl ?_
  refine WL.val (dx_lenX rfl ty_slice_38 rfl h1) rfl rfl ?_
  refine WL.val (dx_lss rfl rfl rfl) rfl rfl ?_
  refine WL.nil ?_
  refine hK13 ?_
  refine WC.cond rfl (fun c14 => ?_) (fun c14 => ?_)
  ·
    replace c14 := of_decide_eq_true c14
    refine WC.skip ?_
    refine hK12 ?_
    refine WC.seq fun K15 hK15 => ?_
    refine WC.block ?_
    refine WC.seq fun K16 hK16 => ?_
    obtain ⟨r17, e18⟩ : ∃ x, xs[ia]? = some x := ⟨_, List.getElem?_eq_getElem (by omega)⟩
    refine WC.drawM 6 [(some 13, .is (sv)), (some 14, .is (.int .i64 (ia : Int))), (some 15, .by fun u W => PtR (w.heap.size :: L) W u (encB r17)), (some 16, .by fun u W => PtR (w.heap.size :: L) W u [.string r17.1.1, .string r17.1.2]), (some 17, .is (.agg #[.string r17.1.1, .string r17.1.2])), (some 18, .is (.agg #[.string m, .string x]))] [[], [], [0, 1], [2], [3], []] (by kernel_rfl) (by kernel_rfl) (by kernel_rfl) (by kernel_rfl) (by kernel_rfl) (by kernel_rfl) (by kernel_rfl) ⟨fun _ _ _ hb h => h.below hb, fun _ _ _ hb h => h.below hb, trivial⟩ ?_ ?_
    ·
      refine DSteps.cons (fun Wd hd => ?_) ?_
      ·
        exact DV.dr (dx_move rfl rfl) ⟨Below.refl _ _, rfl⟩
      refine DSteps.cons (fun Wd hd => ?_) ?_
      ·
        exact DV.dr (dx_move rfl rfl) ⟨Below.refl _ _, rfl⟩
      refine DSteps.cons (fun Wd hd => ?_) ?_
      ·
        have h1 := h1.below hd
        exact (dx_idxF ia rfl ty_slice_38 rfl rfl h1 (by omega) (at_mapX e18)).mono (fun v W' h => ⟨by rw [← h.1]; exact Below.refl _ _, by rw [← h.1]; exact h.2⟩)
      refine DSteps.cons (fun Wd hd => ?_) ?_
      ·
        intro u5_2 p5_2
        exact (dx_fldP 2 rfl ty_fld_42_0_0 rfl p5_2 (cs' := [.string r17.1.1, .string r17.1.2]) rfl (Nat.succ_pos _)).mono (fun v W' h => ⟨by rw [← h.1]; exact Below.refl _ _, by rw [← h.1]; exact h.2⟩)
      refine DSteps.cons (fun Wd hd => ?_) ?_
      ·
        intro u5_3 p5_3
        exact DV.dr (dx_loadPN rfl ty_agg_40_2 rfl p5_3 rfl) ⟨Below.refl _ _, rfl⟩
      refine DSteps.cons (fun Wd hd => ?_) ?_
      ·
        have k3 := k3.below hd
        exact DV.dr (dx_loadN rfl ty_agg_40_2 rfl k3.range rfl) ⟨Below.refl _ _, rfl⟩
      exact trivial
    ·
      intro W19 b20
      intro u5_2 p5_2
      intro u5_3 p5_3
      replace h1 := h1.below b20
      replace h5 := h5.below b20
      replace hC := hC.below b20
      replace k3 := k3.below b20
      replace hB := below_then hB b20
      replace hL := LL.below hL b20
      refine WL.val (dx_neAd rfl rfl rfl) rfl rfl ?_
      refine WL.nil ?_
      refine hK16 ?_
      refine WC.cond rfl (fun c21 => ?_) (fun c21 => ?_)
      ·
        replace c21 := bnot_t c21
        replace c21 := of_decide_eq_false c21
        refine WC.region ?_
        refine WL.val (dx_move rfl rfl) rfl rfl ?_
        refine WL.val (dx_move rfl rfl) rfl rfl ?_
        refine WL.val (dx_move rfl rfl) rfl rfl ?_
        refine WL.get (dx_idxF ia rfl ty_slice_38 rfl rfl h1 (by omega) (at_mapX e18)) rfl rfl ?_
        rintro u22 _ ⟨rfl, p23⟩
        refine WL.val (dx_loadPN rfl ty_agg_42_4 rfl p23 rfl) rfl rfl ?_
        refine WL.get (dx_lit1 (r := encB r17) rfl ty_ap_38 (by decide) (by decide) rfl rfl rfl) rfl rfl ?_
        rintro x24 W25 ⟨k27, b26, z28⟩
        replace h1 := h1.below b26
        replace h5 := h5.below b26
        replace hC := hC.below b26
        replace p23 := p23.below b26
        replace k3 := k3.below b26
        replace hB := below_then hB b26
        replace hL := LL.below hL b26
        have hx := k27.rd (L := []) (by simp)
        refine WL.get (dx_apW (base := W2.heap.size) rfl ty_ap_38 rfl rfl h5 hx (fun r hr => by rw [List.mem_singleton.1 hr]; exact oc_B _) (by simp [maxLen]; omega) (by simp; omega) (Below.size hC)) rfl rfl ?_
        rintro x29 W30 ⟨h5, b31⟩
        replace h5 : NewW 4 W2.heap.size ((out ++ [r17]).map encB) x29 W30 := by rw [List.map_append]; exact h5
        replace hC : SinceB W2 (w.heap.size :: L) W30 := Below.trans hC b31
        replace h1 := zh1.below hC
        replace k3 := zk3.below hC
        replace hB := below_then zhB hC
        replace hL := LL.below zhL hC
        refine WL.val (dx_assign rfl rfl) rfl rfl ?_
        refine WL.nil ?_
        refine hK15 ?_
        refine WC.region ?_
        refine WL.val (dx_move rfl rfl) rfl rfl ?_
        refine WL.val (dx_add (r := (ia : Int) + 1) rfl rfl rfl (wrap64_id (by omega))) rfl rfl ?_
        refine WL.val (dx_assign rfl rfl) rfl rfl ?_
        refine WL.nil ?_
        exact hK10 (ia + 1) x29 (out ++ [r17]) ⟨(by omega), (by rw [wo_yes e18 (by first | assumption | simp_all), ← hv]), hB, hL, h1, h5, hC, k3⟩ (by omega) (by repeat first | exact trivial | exact And.intro rfl trivial | refine And.intro rfl ?_ | refine And.intro (congrArg (fun z : Int => some (Value.int .i64 z)) (by omega)) ?_)
      ·
        replace c21 := bnot_f c21
        replace c21 := of_decide_eq_true c21
        refine WC.skip ?_
        refine hK15 ?_
        refine WC.region ?_
        refine WL.val (dx_move rfl rfl) rfl rfl ?_
        refine WL.val (dx_add (r := (ia : Int) + 1) rfl rfl rfl (wrap64_id (by omega))) rfl rfl ?_
        refine WL.val (dx_assign rfl rfl) rfl rfl ?_
        refine WL.nil ?_
        exact hK10 (ia + 1) ov out ⟨(by omega), (by rw [wo_no e18 (by first | assumption | simp_all), ← hv]), hB, hL, h1, h5, hC, k3⟩ (by omega) (by repeat first | exact trivial | exact And.intro rfl trivial | refine And.intro rfl ?_ | refine And.intro (congrArg (fun z : Int => some (Value.int .i64 z)) (by omega)) ?_)
  ·
    replace c14 := of_decide_eq_false c14
    refine WC.exit ?_
    refine hK8 ?_
    refine WC.seq fun K32 hK32 => ?_
    refine WC.region ?_
    refine WL.val (dx_move rfl rfl) rfl rfl ?_
    refine WL.val (dx_assign rfl rfl) rfl rfl ?_
    refine WL.nil ?_
    refine hK32 ?_
    refine WC.ret fun a_ ha_ => ?_
    exact hQ (cv_ret1 rfl (.tmp rfl) (by rw [List.take_of_length_le (by omega)] at hv; rw [← hv]; exact h5.rd (fun y hy => zhL y (.tail _ hy))) hB ha_)

end Go.Proofs.YthefddclefimoaaGreatDoor
namespace Go.Proofs.YthefddclefimoaaGreatDoor
open Go.RowKit
set_option linter.unusedVariables false
set_option linter.unusedSimpArgs false
set_option maxRecDepth 8000

theorem find_is {xs : List BondX} {m x : ByteArray} {i : Nat} {r : BondX} (hr : rightB xs = true) (h : xs[i]? = some r) (he : r.1.1 = m ∧ r.1.2 = x) : findB xs m x = (r, true) := by
  have hpw := ((rightB_iff xs).1 hr).2.2
  cases hp : (placeB xs m x).2 with
  | false => exact (place_none hr hp r (List.mem_of_getElem? h) he).elim
  | true =>
    obtain ⟨k, hk, hkl, hlo, hc⟩ := placeB_cases xs m x
    rcases hc with ⟨_, b, hb, hbm, hbx⟩ | ⟨hf, _⟩
    · obtain ⟨hki, ek⟩ := List.getElem?_eq_some_iff.1 hb
      obtain ⟨hii, ei⟩ := List.getElem?_eq_some_iff.1 h
      have hirr := lessA_irrefl (m, x)
      have e : k = i := by
        rcases Nat.lt_trichotomy k i with hl | hl | hl
        · have := List.pairwise_iff_getElem.1 hpw k i hki hii hl
          rw [ek, ei] at this
          unfold ltB at this
          rw [hbm, hbx, he.1, he.2, hirr] at this
          cases this
        · exact hl
        · have := List.pairwise_iff_getElem.1 hpw i k hii hki hl
          rw [ek, ei] at this
          unfold ltB at this
          rw [hbm, hbx, he.1, he.2, hirr] at this
          cases this
      subst e
      rw [hb] at h
      cases h
      unfold findB
      rw [if_pos ⟨hr, hp⟩, hk, Int.toNat_natCast, hb]
      rfl
    · rw [hf] at hp
      cases hp
theorem find_no {xs : List BondX} {m x : ByteArray} (h : ∀ r ∈ xs, ¬ (r.1.1 = m ∧ r.1.2 = x)) : findB xs m x = (noB, false) := by
  unfold findB
  refine if_neg ?_
  rintro ⟨_, hp⟩
  obtain ⟨k, hk, hkl, hlo, hc⟩ := placeB_cases xs m x
  rcases hc with ⟨_, b, hb, hbm, hbx⟩ | ⟨hf, _⟩
  · exact h b (List.mem_of_getElem? hb) ⟨hbm, hbx⟩
  · rw [hf] at hp
    cases hp
theorem find_badB {xs : List BondX} {m x : ByteArray} (h : rightB xs = false) : findB xs m x = (noB, false) := by
  unfold findB
  refine if_neg ?_
  rintro ⟨hr, _⟩
  rw [h] at hr
  cases hr
set_option maxHeartbeats 1000000 in
theorem refFind_v (xs : List BondX) (m x : ByteArray) (sv : Value) (w : World) (L : List Nat) (hL : LL L w) (h1 : RdF 4 L w sv (xs.map encB))  (hsz : smallB xs) : CV Tryz.prog 29 [sv, .agg #[.string m, .string x]] w fun v W => v = .tuple #[.agg (encB (findB xs m x).1).toArray, .bool (findB xs m x).2] := by
  refine cv_enter (N := 29) (f := [(0, sv), (1, .agg #[.string m, .string x])]) Tryz.func29 rfl rfl rfl rfl fun Q hQ hE => ?_
  have hB := Below.refl w.heap.size w
  have h1m : xs.length ≤ maxLen := by have := h1.len; rwa [List.length_map] at this
  unfold maxLen at h1m
  refine WC.seq fun K1 hK1 => ?_
  refine WC.region ?_
  refine WL.get (dx_box rfl rfl rfl) rfl rfl ?_
  rintro _ W2 ⟨rfl, k3, b4, z5⟩
  have l6 := hB.size
  replace h1 := h1.more b4 (Nat.le_refl _)
  replace hB := below_then hB b4
  replace hL := LL.more hL z5
  refine WL.get (dx_alloc rfl ty_zero_42 rfl) rfl rfl ?_
  rintro _ W7 ⟨rfl, k8, b9, z10⟩
  have n11 : w.heap.size ≠ W2.heap.size := Nat.ne_of_lt k3.lt
  have l12 := hB.size
  replace h1 := h1.more b9 (Nat.le_refl _)
  replace k3 := k3.below b9
  replace hB := below_then hB b9
  replace hL := LL.more hL z10
  refine WL.val (dx_assign rfl rfl) rfl rfl ?_
  refine WL.nil ?_
  refine hK1 ?_
  refine WC.seq fun K13 hK13 => ?_
  refine WC.seq fun K14 hK14 => ?_
  refine WC.region ?_
  refine WL.val (dx_assign rfl rfl) rfl rfl ?_
  refine WL.nil ?_
  refine hK14 ?_
  refine WC.block ?_
  refine WC.loop (fun (ia : Nat) => [(0, sv), (3, .pointer (some ⟨w.heap.size, 0, none⟩)), (4, .pointer (some ⟨W2.heap.size, 0, none⟩)), (5, .bool false), (6, .int .i64 (ia : Int))]) (fun (ia : Nat) W => ia ≤ xs.length ∧ (∀ k a, k < ia → xs[k]? = some a → notA m x a = true) ∧ Below w.heap.size w W ∧ LL (W2.heap.size :: w.heap.size :: L) W ∧ RdF 4 (W2.heap.size :: w.heap.size :: L) W sv (xs.map encB) ∧ Blk W w.heap.size [.string m, .string x] ∧ Blk W W2.heap.size [.string ⟨#[]⟩, .string ⟨#[]⟩, .string ⟨#[]⟩, .int .i64 0]) (fun (ia : Nat) => xs.length - ia) 0 (by repeat first | exact trivial | exact And.intro rfl trivial | refine And.intro rfl ?_ | refine And.intro (congrArg (fun z : Int => some (Value.int .i64 z)) (by omega)) ?_) ⟨Nat.zero_le _, (fun k a hk => by omega), hB, hL, h1, k3, k8⟩ ?_
  clear h1 k3 k8 hB hL
  rintro K15 ia W16 ⟨hi, hv, hB, hL, h1, k3, k8⟩ hK15
  refine WC.seq fun K17 hK17 => ?_
  refine WC.seq fun K18 hK18 => ?_
  refine WC.region ?_
  refine WL.val (dx_move rfl rfl) rfl rfl ?_
  refine WL.val (dx_move rfl rfl) rfl rfl ?_
  refine WL.val (dx_lenX rfl ty_slice_38 rfl h1) rfl rfl ?_
  refine WL.val (dx_lss rfl rfl rfl) rfl rfl ?_
  refine WL.val (dx_move rfl rfl) rfl rfl ?_
  refine WL.split 11 rfl (fun g19 => ?_) (fun g19 => ?_)
  ·
    replace g19 := of_decide_eq_true g19
    refine WL.val (dx_move rfl rfl) rfl rfl ?_
    refine WL.get (dx_cv rfl Tryz.func32 rfl rfl rfl (refRightB_v xs _ W16 _ hL h1 hsz)) rfl rfl ?_
    rintro _ W21 ⟨rfl, b20⟩
    replace h1 := h1.below b20
    replace k3 := k3.below b20
    replace k8 := k8.below b20
    replace hB := below_then hB b20
    replace hL := LL.below hL b20
    refine WL.val (dx_pick rfl rfl rfl) rfl rfl ?_
    refine WL.nil ?_
    refine hK18 ?_
    refine WC.cond rfl (fun c22 => ?_) (fun c22 => ?_)
    ·
      refine WC.skip ?_
      refine hK17 ?_
      refine WC.seq fun K23 hK23 => ?_
      refine WC.block ?_
      refine WC.seq fun K24 hK24 => ?_
      obtain ⟨r25, e26⟩ : ∃ x, xs[ia]? = some x := ⟨_, List.getElem?_eq_getElem (by omega)⟩
      refine WC.drawM 6 [(some 17, .is (sv)), (some 18, .is (.int .i64 (ia : Int))), (some 19, .by fun u W => PtR (W2.heap.size :: w.heap.size :: L) W u (encB r25)), (some 20, .by fun u W => PtR (W2.heap.size :: w.heap.size :: L) W u [.string r25.1.1, .string r25.1.2]), (some 21, .is (.agg #[.string r25.1.1, .string r25.1.2])), (some 22, .is (.agg #[.string m, .string x]))] [[], [], [0, 1], [2], [3], []] (by kernel_rfl) (by kernel_rfl) (by kernel_rfl) (by kernel_rfl) (by kernel_rfl) (by kernel_rfl) (by kernel_rfl) ⟨fun _ _ _ hb h => h.below hb, fun _ _ _ hb h => h.below hb, trivial⟩ ?_ ?_
      ·
        refine DSteps.cons (fun Wd hd => ?_) ?_
        ·
          exact DV.dr (dx_move rfl rfl) ⟨Below.refl _ _, rfl⟩
        refine DSteps.cons (fun Wd hd => ?_) ?_
        ·
          exact DV.dr (dx_move rfl rfl) ⟨Below.refl _ _, rfl⟩
        refine DSteps.cons (fun Wd hd => ?_) ?_
        ·
          have h1 := h1.below hd
          exact (dx_idxF ia rfl ty_slice_38 rfl rfl h1 (by omega) (at_mapX e26)).mono (fun v W' h => ⟨by rw [← h.1]; exact Below.refl _ _, by rw [← h.1]; exact h.2⟩)
        refine DSteps.cons (fun Wd hd => ?_) ?_
        ·
          intro u4_2 p4_2
          exact (dx_fldP 2 rfl ty_fld_42_0_0 rfl p4_2 (cs' := [.string r25.1.1, .string r25.1.2]) rfl (Nat.succ_pos _)).mono (fun v W' h => ⟨by rw [← h.1]; exact Below.refl _ _, by rw [← h.1]; exact h.2⟩)
        refine DSteps.cons (fun Wd hd => ?_) ?_
        ·
          intro u4_3 p4_3
          exact DV.dr (dx_loadPN rfl ty_agg_40_2 rfl p4_3 rfl) ⟨Below.refl _ _, rfl⟩
        refine DSteps.cons (fun Wd hd => ?_) ?_
        ·
          have k3 := k3.below hd
          exact DV.dr (dx_loadN rfl ty_agg_40_2 rfl k3.range rfl) ⟨Below.refl _ _, rfl⟩
        exact trivial
      ·
        intro W27 b28
        intro u4_2 p4_2
        intro u4_3 p4_3
        replace h1 := h1.below b28
        replace k3 := k3.below b28
        replace k8 := k8.below b28
        replace hB := below_then hB b28
        replace hL := LL.below hL b28
        refine WL.val (dx_eqAd rfl rfl rfl) rfl rfl ?_
        refine WL.nil ?_
        refine hK24 ?_
        refine WC.cond rfl (fun c29 => ?_) (fun c29 => ?_)
        ·
          replace c29 := of_decide_eq_true c29
          refine WC.seq fun K30 hK30 => ?_
          refine WC.region ?_
          refine WL.val (dx_move rfl rfl) rfl rfl ?_
          refine WL.val (dx_move rfl rfl) rfl rfl ?_
          refine WL.get (dx_idxF ia rfl ty_slice_38 rfl rfl h1 (by omega) (at_mapX e26)) rfl rfl ?_
          rintro u31 _ ⟨rfl, p32⟩
          refine WL.val (dx_loadPN rfl ty_agg_42_4 rfl p32 rfl) rfl rfl ?_
          refine WL.do (dx_store (cs' := [.string r25.1.1, .string r25.1.2, .string r25.2.1, .int .i64 r25.2.2]) (vs := [.string r25.1.1, .string r25.1.2, .string r25.2.1, .int .i64 r25.2.2]) rfl ty_size_42_4 rfl rfl rfl (oc_cons rfl (oc_cons rfl (oc_cons rfl (oc_cons rfl oc_nil)))) k8 rfl (Nat.le_of_ble_eq_true rfl) rfl) rfl ?_
          rintro _ W33 ⟨k35, o34⟩
          replace k3 := k3.other o34 n11
          clear k8
          replace h1 := h1.only o34 (.head _)
          replace p32 := p32.only o34 (.head _)
          replace hB := o34.below hB l12
          replace hL := LL.only hL o34
          refine WL.val (dx_assign rfl rfl) rfl rfl ?_
          refine WL.nil ?_
          refine hK30 ?_
          refine WC.ret fun a_ ha_ => ?_
          exact hQ (cv_ret2 rfl (.agg rfl ty_agg_42_4 k35.range rfl) (.tmp rfl) (by rw [find_is (by first | assumption | simp_all) e26 (by first | assumption | simp_all)]; rfl) hB ha_)
        ·
          replace c29 := of_decide_eq_false c29
          refine WC.skip ?_
          refine hK23 ?_
          refine WC.region ?_
          refine WL.val (dx_move rfl rfl) rfl rfl ?_
          refine WL.val (dx_add (r := (ia : Int) + 1) rfl rfl rfl (wrap64_id (by omega))) rfl rfl ?_
          refine WL.val (dx_assign rfl rfl) rfl rfl ?_
          refine WL.nil ?_
          exact hK15 (ia + 1) ⟨(by omega), (good_step (g := notA m x) hv e26 (by show (!decide _) = true; first | (rw [decide_eq_false (by assumption)]; rfl) | simp_all)), hB, hL, h1, k3, k8⟩ (by omega) (by repeat first | exact trivial | exact And.intro rfl trivial | refine And.intro rfl ?_ | refine And.intro (congrArg (fun z : Int => some (Value.int .i64 z)) (by omega)) ?_)
    ·
      refine WC.exit ?_
      refine hK13 ?_
      refine WC.seq fun K36 hK36 => ?_
      refine WC.region ?_
      refine WL.val (dx_build rfl rfl (built_of_O (cs := [.string ⟨#[]⟩, .string ⟨#[]⟩, .string ⟨#[]⟩, .int .i64 0]) (by kernel_rfl) oc_nil)) rfl rfl ?_
      refine WL.do (dx_store (cs' := [.string ⟨#[]⟩, .string ⟨#[]⟩, .string ⟨#[]⟩, .int .i64 0]) (vs := [.string ⟨#[]⟩, .string ⟨#[]⟩, .string ⟨#[]⟩, .int .i64 0]) rfl ty_size_42_4 rfl rfl rfl (oc_cons rfl (oc_cons rfl (oc_cons rfl (oc_cons rfl oc_nil)))) k8 rfl (Nat.le_of_ble_eq_true rfl) rfl) rfl ?_
      rintro _ W37 ⟨k39, o38⟩
      replace k3 := k3.other o38 n11
      clear k8
      replace h1 := h1.only o38 (.head _)
      replace hB := o38.below hB l12
      replace hL := LL.only hL o38
      refine WL.val (dx_assign rfl rfl) rfl rfl ?_
      refine WL.nil ?_
      refine hK36 ?_
      refine WC.ret fun a_ ha_ => ?_
      exact hQ (cv_ret2 rfl (.agg rfl ty_agg_42_4 k39.range rfl) (.tmp rfl) (by first | (rw [find_badB (by first | assumption | exact Bool.eq_false_iff.2 (by assumption))]; rfl) | (rw [find_no (fun r hr he => by obtain ⟨k, hk, rfl⟩ := List.getElem_of_mem hr; have h9 := hv k _ (by omega) (List.getElem?_eq_getElem hk); unfold notA at h9; rw [decide_eq_true he] at h9; cases h9)]; rfl)) hB ha_)
  ·
    replace g19 := of_decide_eq_false g19
    refine WL.off rfl rfl rfl ?_
    refine WL.off rfl rfl rfl ?_
    refine WL.val (dx_pick rfl rfl rfl) rfl rfl ?_
    refine WL.nil ?_
    refine hK18 ?_
    refine WC.condF rfl ?_
    refine WC.exit ?_
    refine hK13 ?_
    refine WC.seq fun K40 hK40 => ?_
    refine WC.region ?_
    refine WL.val (dx_build rfl rfl (built_of_O (cs := [.string ⟨#[]⟩, .string ⟨#[]⟩, .string ⟨#[]⟩, .int .i64 0]) (by kernel_rfl) oc_nil)) rfl rfl ?_
    refine WL.do (dx_store (cs' := [.string ⟨#[]⟩, .string ⟨#[]⟩, .string ⟨#[]⟩, .int .i64 0]) (vs := [.string ⟨#[]⟩, .string ⟨#[]⟩, .string ⟨#[]⟩, .int .i64 0]) rfl ty_size_42_4 rfl rfl rfl (oc_cons rfl (oc_cons rfl (oc_cons rfl (oc_cons rfl oc_nil)))) k8 rfl (Nat.le_of_ble_eq_true rfl) rfl) rfl ?_
    rintro _ W41 ⟨k43, o42⟩
    replace k3 := k3.other o42 n11
    clear k8
    replace h1 := h1.only o42 (.head _)
    replace hB := o42.below hB l12
    replace hL := LL.only hL o42
    refine WL.val (dx_assign rfl rfl) rfl rfl ?_
    refine WL.nil ?_
    refine hK40 ?_
    refine WC.ret fun a_ ha_ => ?_
    exact hQ (cv_ret2 rfl (.agg rfl ty_agg_42_4 k43.range rfl) (.tmp rfl) (by first | (rw [find_badB (by first | assumption | exact Bool.eq_false_iff.2 (by assumption))]; rfl) | (rw [find_no (fun r hr he => by obtain ⟨k, hk, rfl⟩ := List.getElem_of_mem hr; have h9 := hv k _ (by omega) (List.getElem?_eq_getElem hk); unfold notA at h9; rw [decide_eq_true he] at h9; cases h9)]; rfl)) hB ha_)

end Go.Proofs.YthefddclefimoaaGreatDoor
namespace Go.Proofs.YthefddclefimoaaGreatDoor
open Go.RowKit
set_option linter.unusedVariables false
set_option linter.unusedSimpArgs false
set_option maxRecDepth 8000

def ofM (xs : List BondX) (mx : ByteArray) : List (ByteArray × ByteArray) := (xs.filter fun b => decide (b.2.1 = mx)).map (·.1)
theorem ofM_yes {xs : List BondX} {mx : ByteArray} {i : Nat} {r : BondX} (h : xs[i]? = some r) (hn : r.2.1 = mx) : ofM (xs.take (i + 1)) mx = ofM (xs.take i) mx ++ [r.1] := by
  unfold ofM
  rw [List.take_add_one, h, List.filter_append]
  simp [hn]
theorem ofM_no {xs : List BondX} {mx : ByteArray} {i : Nat} {r : BondX} (h : xs[i]? = some r) (hn : ¬ r.2.1 = mx) : ofM (xs.take (i + 1)) mx = ofM (xs.take i) mx := by
  unfold ofM
  rw [List.take_add_one, h, List.filter_append]
  simp [hn]
theorem ofM_len (xs : List BondX) (mx : ByteArray) (i : Nat) : (ofM (xs.take i) mx).length ≤ xs.length := by
  unfold ofM
  have h1 := List.length_filter_le (fun b : BondX => decide (b.2.1 = mx)) (xs.take i)
  rw [List.length_take] at h1
  rw [List.length_map]
  omega
set_option maxHeartbeats 1000000 in
theorem refOf_v (xs : List BondX) (mx : ByteArray) (sv : Value) (w : World) (L : List Nat) (hL : LL L w) (h1 : RdF 4 L w sv (xs.map encB))  (hxl : xs.length ≤ 100) (hsz : smallB xs) : CV Tryz.prog 35 [sv, .string mx] w fun v W => RdF 2 L W v ((ofB xs mx).map encAd) := by
  refine cv_enter (N := 33) (f := [(0, sv), (1, .string mx)]) Tryz.func35 rfl rfl rfl rfl fun Q hQ hE => ?_
  have hB := Below.refl w.heap.size w
  have hL0 := hL
  have h1m : xs.length ≤ maxLen := by have := h1.len; rwa [List.length_map] at this
  unfold maxLen at h1m
  refine WC.seq fun K1 hK1 => ?_
  refine WC.region ?_
  refine WL.val (dx_assign rfl rfl) rfl rfl ?_
  refine WL.nil ?_
  refine hK1 ?_
  refine WC.seq fun K2 hK2 => ?_
  refine WC.region ?_
  refine WL.val (dx_assign rfl rfl) rfl rfl ?_
  refine WL.nil ?_
  refine hK2 ?_
  refine WC.seq fun K3 hK3 => ?_
  refine WC.seq fun K4 hK4 => ?_
  refine WC.region ?_
  refine WL.val (dx_assign rfl rfl) rfl rfl ?_
  refine WL.nil ?_
  refine hK4 ?_
  refine WC.block ?_
  have zh1 := h1
  have zhB := hB
  have zhL := hL
  have h5 : NewW 2 w.heap.size (([] : List (ByteArray × ByteArray)).map encAd) (.slice none 0 0) w := .inl ⟨rfl, rfl, by decide⟩
  have hC : SinceB w (L) w := Below.refl _ _
  refine WC.loop3 (fun (ia : Nat) (ov : Value) (out : List (ByteArray × ByteArray)) => [(0, sv), (1, .string mx), (4, .slice none 0 0), (6, .int .i64 (ia : Int)), (5, ov)]) (fun (ia : Nat) (ov : Value) (out : List (ByteArray × ByteArray)) W => ia ≤ xs.length ∧ out = ofM (xs.take ia) mx ∧ (0 < ia → rightB xs = true) ∧ Below w.heap.size w W ∧ LL (L) W ∧ RdF 4 (L) W sv (xs.map encB) ∧ NewW 2 w.heap.size (out.map encAd) ov W ∧ SinceB w (L) W) (fun (ia : Nat) (ov : Value) (out : List (ByteArray × ByteArray)) => xs.length - ia) 0 (.slice none 0 0) [] (by repeat first | exact trivial | exact And.intro rfl trivial | refine And.intro rfl ?_ | refine And.intro (congrArg (fun z : Int => some (Value.int .i64 z)) (by omega)) ?_) ⟨Nat.zero_le _, (by simp [ofM]), (fun h => by omega), hB, hL, h1, h5, hC⟩ ?_
  clear h1 h5 hC hB hL
  rintro K5 ia ov out W6 ⟨hi, hv, hr, hB, hL, h1, h5, hC⟩ hK5
  have hol : out.length ≤ xs.length := (by rw [hv]; exact ofM_len xs mx ia)
  refine WC.seq fun K7 hK7 => ?_
  refine WC.seq fun K8 hK8 => ?_
  refine WC.region ?_
  refine WL.val (dx_move rfl rfl) rfl rfl ?_
  refine WL.val (dx_move rfl rfl) rfl rfl ?_
  refine WL.val (dx_lenX rfl ty_slice_38 rfl h1) rfl rfl ?_
  refine WL.val (dx_lss rfl rfl rfl) rfl rfl ?_
  refine WL.val (dx_move rfl rfl) rfl rfl ?_
  refine WL.split 11 rfl (fun g9 => ?_) (fun g9 => ?_)
  ·
    replace g9 := of_decide_eq_true g9
    refine WL.val (dx_move rfl rfl) rfl rfl ?_
    refine WL.get (dx_cv rfl Tryz.func32 rfl rfl rfl (refRightB_v xs _ W6 _ hL h1 hsz)) rfl rfl ?_
    rintro _ W11 ⟨rfl, b10⟩
    replace h1 := h1.below b10
    replace h5 := h5.below b10
    replace hC := hC.below b10
    replace hB := below_then hB b10
    replace hL := LL.below hL b10
    refine WL.val (dx_pick rfl rfl rfl) rfl rfl ?_
    refine WL.nil ?_
    refine hK8 ?_
    refine WC.cond rfl (fun c12 => ?_) (fun c12 => ?_)
    ·
      refine WC.skip ?_
      refine hK7 ?_
      refine WC.seq fun K13 hK13 => ?_
      refine WC.block ?_
      refine WC.seq fun K14 hK14 => ?_
      refine WC.region ?_
      refine WL.val (dx_move rfl rfl) rfl rfl ?_
      refine WL.val (dx_move rfl rfl) rfl rfl ?_
      obtain ⟨r15, e16⟩ : ∃ x, xs[ia]? = some x := ⟨_, List.getElem?_eq_getElem (by omega)⟩
      refine WL.get (dx_idxF ia rfl ty_slice_38 rfl rfl h1 (by omega) (at_mapX e16)) rfl rfl ?_
      rintro u17 _ ⟨rfl, p18⟩
      refine WL.get (dx_fldP 1 rfl ty_fld_42_1_2 rfl p18 (cs' := [.string r15.2.1]) rfl (Nat.succ_pos _)) rfl rfl ?_
      rintro u19 _ ⟨rfl, p20⟩
      refine WL.val (dx_loadP rfl ty_one_9 rfl p20) rfl rfl ?_
      refine WL.val (dx_move rfl rfl) rfl rfl ?_
      refine WL.val (dx_eqlT rfl rfl rfl) rfl rfl ?_
      refine WL.nil ?_
      refine hK14 ?_
      refine WC.cond rfl (fun c21 => ?_) (fun c21 => ?_)
      ·
        replace c21 := of_decide_eq_true c21
        refine WC.region ?_
        refine WL.val (dx_move rfl rfl) rfl rfl ?_
        refine WL.val (dx_move rfl rfl) rfl rfl ?_
        refine WL.val (dx_move rfl rfl) rfl rfl ?_
        refine WL.get (dx_idxF ia rfl ty_slice_38 rfl rfl h1 (by omega) (at_mapX e16)) rfl rfl ?_
        rintro u22 _ ⟨rfl, p23⟩
        refine WL.get (dx_fldP 2 rfl ty_fld_42_0_0 rfl p23 (cs' := [.string r15.1.1, .string r15.1.2]) rfl (Nat.succ_pos _)) rfl rfl ?_
        rintro u24 _ ⟨rfl, p25⟩
        refine WL.val (dx_loadPN rfl ty_agg_40_2 rfl p25 rfl) rfl rfl ?_
        refine WL.get (dx_lit1 (r := encAd r15.1) rfl ty_ap_50 (by decide) (by decide) rfl rfl rfl) rfl rfl ?_
        rintro x26 W27 ⟨k29, b28, z30⟩
        replace h1 := h1.below b28
        replace h5 := h5.below b28
        replace hC := hC.below b28
        replace p23 := p23.below b28
        replace p25 := p25.below b28
        replace hB := below_then hB b28
        replace hL := LL.below hL b28
        have hx := k29.rd (L := []) (by simp)
        refine WL.get (dx_apW (base := w.heap.size) rfl ty_ap_50 rfl rfl h5 hx (fun r hr => by rw [List.mem_singleton.1 hr]; exact oc_AdR _) (by simp [maxLen]; omega) (by simp; omega) (Below.size hC)) rfl rfl ?_
        rintro x31 W32 ⟨h5, b33⟩
        replace h5 : NewW 2 w.heap.size ((out ++ [r15.1]).map encAd) x31 W32 := by rw [List.map_append]; exact h5
        replace hC : SinceB w (L) W32 := Below.trans hC b33
        replace h1 := zh1.below hC
        replace hB := below_then zhB hC
        replace hL := LL.below zhL hC
        refine WL.val (dx_assign rfl rfl) rfl rfl ?_
        refine WL.nil ?_
        refine hK13 ?_
        refine WC.region ?_
        refine WL.val (dx_move rfl rfl) rfl rfl ?_
        refine WL.val (dx_add (r := (ia : Int) + 1) rfl rfl rfl (wrap64_id (by omega))) rfl rfl ?_
        refine WL.val (dx_assign rfl rfl) rfl rfl ?_
        refine WL.nil ?_
        exact hK5 (ia + 1) x31 (out ++ [r15.1]) ⟨(by omega), (by rw [ofM_yes e16 (by first | assumption | simp_all), ← hv]), (fun _ => by first | assumption | simp_all), hB, hL, h1, h5, hC⟩ (by omega) (by repeat first | exact trivial | exact And.intro rfl trivial | refine And.intro rfl ?_ | refine And.intro (congrArg (fun z : Int => some (Value.int .i64 z)) (by omega)) ?_)
      ·
        replace c21 := of_decide_eq_false c21
        refine WC.skip ?_
        refine hK13 ?_
        refine WC.region ?_
        refine WL.val (dx_move rfl rfl) rfl rfl ?_
        refine WL.val (dx_add (r := (ia : Int) + 1) rfl rfl rfl (wrap64_id (by omega))) rfl rfl ?_
        refine WL.val (dx_assign rfl rfl) rfl rfl ?_
        refine WL.nil ?_
        exact hK5 (ia + 1) ov out ⟨(by omega), (by rw [ofM_no e16 (by first | assumption | simp_all), ← hv]), (fun _ => by first | assumption | simp_all), hB, hL, h1, h5, hC⟩ (by omega) (by repeat first | exact trivial | exact And.intro rfl trivial | refine And.intro rfl ?_ | refine And.intro (congrArg (fun z : Int => some (Value.int .i64 z)) (by omega)) ?_)
    ·
      refine WC.exit ?_
      refine hK3 ?_
      refine WC.seq fun K34 hK34 => ?_
      refine WC.region ?_
      refine WL.val (dx_move rfl rfl) rfl rfl ?_
      refine WL.val (dx_assign rfl rfl) rfl rfl ?_
      refine WL.nil ?_
      refine hK34 ?_
      refine WC.ret fun a_ ha_ => ?_
      exact hQ (cv_ret1 rfl (.tmp rfl) (by have hq : ofB xs mx = out := (by unfold ofB; by_cases hrr : rightB xs = true; rw [if_pos hrr, hv, show xs.take ia = xs from List.take_of_length_le (by first | omega | simp_all)]; rfl; rw [if_neg hrr, hv, show ia = 0 from Nat.eq_zero_of_not_pos (fun h0 => hrr (hr h0))]; simp [ofM]); rw [hq]; exact h5.rd (fun y hy => hL0 y hy)) hB ha_)
  ·
    replace g9 := of_decide_eq_false g9
    refine WL.off rfl rfl rfl ?_
    refine WL.off rfl rfl rfl ?_
    refine WL.val (dx_pick rfl rfl rfl) rfl rfl ?_
    refine WL.nil ?_
    refine hK8 ?_
    refine WC.condF rfl ?_
    refine WC.exit ?_
    refine hK3 ?_
    refine WC.seq fun K35 hK35 => ?_
    refine WC.region ?_
    refine WL.val (dx_move rfl rfl) rfl rfl ?_
    refine WL.val (dx_assign rfl rfl) rfl rfl ?_
    refine WL.nil ?_
    refine hK35 ?_
    refine WC.ret fun a_ ha_ => ?_
    exact hQ (cv_ret1 rfl (.tmp rfl) (by have hq : ofB xs mx = out := (by unfold ofB; by_cases hrr : rightB xs = true; rw [if_pos hrr, hv, show xs.take ia = xs from List.take_of_length_le (by first | omega | simp_all)]; rfl; rw [if_neg hrr, hv, show ia = 0 from Nat.eq_zero_of_not_pos (fun h0 => hrr (hr h0))]; simp [ofM]); rw [hq]; exact h5.rd (fun y hy => hL0 y hy)) hB ha_)

end Go.Proofs.YthefddclefimoaaGreatDoor
