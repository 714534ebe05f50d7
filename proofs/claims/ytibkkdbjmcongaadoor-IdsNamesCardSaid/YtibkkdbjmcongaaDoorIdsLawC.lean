/- Layer 5 (ids): the kinds and the parts of names are the document's: what the law's call does. -/
import Derived.Test.YtibkkdbjmcongaaDoorIdsRefF
namespace Go.Proofs.YtibkkdbjmcongaaDoor
open Go.RowKit
set_option linter.unusedVariables false

set_option maxHeartbeats 1000000 in
theorem names_no (s : ByteArray) (w : World) (hm : MaxC w) (hs : s.size ≤ 2000) (hu : userL (sb s) = false) (hr : roomL (sb s) = false) :
    Calls Tryd.prog 3 #[.string s] w fun e w' => e = .returned (.bool true) ∧ Below w.heap.size w w' := by
  have hs' : s.size ≤ 1000000 := by omega
  have HB := Below.refl w.heap.size w
  have C1 := fun w1 (hm : MaxC w1) => split_no s w1 hm hs' hu hr
  have C2 := fun w1 => ref_split_no s w1 hs' hu hr
  obtain ⟨A, hA⟩ : ∃ b, serverL (sb s) = b := ⟨_, rfl⟩
  obtain ⟨B, hB⟩ : ∃ b, userL (sb s) = b := ⟨_, rfl⟩
  obtain ⟨C, hC⟩ : ∃ b, roomL (sb s) = b := ⟨_, rfl⟩
  obtain ⟨D, hD⟩ : ∃ b, eventS s = b := ⟨_, rfl⟩
  have P1 := fun w1 (hm : MaxC w1) => server_is s A w1 hm hs' hA
  have R1 := fun w1 => ref_server_is s A w1 hs' hA
  have P2 := fun w1 (hm : MaxC w1) => user_is s B w1 hm hs' hB
  have R2 := fun w1 => ref_user_is s B w1 hs' hB
  have P3 := fun w1 (hm : MaxC w1) => room_is s C w1 hm hs' hC
  have R3 := fun w1 => ref_room_is s C w1 hs' hC
  have P4 := fun w1 => event_is s D w1 hs' hD
  have R4 := fun w1 => ref_event_is s D w1 hs' hD
  clear hA hB hC hD hu hr
  go_enter Tryd.func3, Tryd.ntmps3
  go_wp2_with fail
  refine (alive05 w hm).mono ?_
  rintro e w1 ⟨rfl, hb2⟩
  replace hm := hm.below hb2
  replace HB := below_then HB hb2
  clear hb2
  go_wp2_with fail
  refine (C1 _ hm).mono ?_
  rintro e w2 ⟨rfl, hb2⟩
  replace hm := hm.below hb2
  replace HB := below_then HB hb2
  clear hb2
  go_wp2_with fail
  refine (C2 _).mono ?_
  rintro e w2 ⟨rfl, hb2⟩
  replace hm := hm.below hb2
  replace HB := below_then HB hb2
  clear hb2
  go_wp2_with fail
  refine (P1 _ hm).mono ?_
  rintro e w2 ⟨rfl, hb2⟩
  replace hm := hm.below hb2
  replace HB := below_then HB hb2
  clear hb2
  go_wp2_with fail
  refine (R1 _).mono ?_
  rintro e w2 ⟨rfl, rfl⟩
  go_wp2_with fail
  refine (P2 _ hm).mono ?_
  rintro e w2 ⟨rfl, hb2⟩
  replace hm := hm.below hb2
  replace HB := below_then HB hb2
  clear hb2
  go_wp2_with fail
  refine (R2 _).mono ?_
  rintro e w2 ⟨rfl, hb2⟩
  replace hm := hm.below hb2
  replace HB := below_then HB hb2
  clear hb2
  go_wp2_with fail
  refine (P3 _ hm).mono ?_
  rintro e w2 ⟨rfl, hb2⟩
  replace hm := hm.below hb2
  replace HB := below_then HB hb2
  clear hb2
  go_wp2_with fail
  refine (R3 _).mono ?_
  rintro e w2 ⟨rfl, hb2⟩
  replace hm := hm.below hb2
  replace HB := below_then HB hb2
  clear hb2
  go_wp2_with fail
  refine (P4 _).mono ?_
  rintro e w2 ⟨rfl, hb2⟩
  replace hm := hm.below hb2
  replace HB := below_then HB hb2
  clear hb2
  go_wp2_with fail
  refine (R4 _).mono ?_
  rintro e w2 ⟨rfl, hb2⟩
  replace hm := hm.below hb2
  replace HB := below_then HB hb2
  clear hb2
  go_wp2
  go_ret
  exact ⟨rfl, HB⟩
set_option maxHeartbeats 1000000 in
theorem names_user (s : ByteArray) (w : World) (hm : MaxC w) (hs : s.size ≤ 2000) (hne : 0 < s.size) (hu : userL (sb s) = true) :
    Calls Tryd.prog 3 #[.string s] w fun e w' => e = .returned (.bool true) ∧ Below w.heap.size w w' := by
  have hs' : s.size ≤ 1000000 := by omega
  have HB := Below.refl w.heap.size w
  have C1 := fun w1 (hm : MaxC w1) => split_user s w1 hm hs' hne hu
  have C2 := fun w1 => ref_split_user s w1 hs' hu
  obtain ⟨A, hA⟩ : ∃ b, serverL (sb s) = b := ⟨_, rfl⟩
  obtain ⟨B, hB⟩ : ∃ b, userL (sb s) = b := ⟨_, rfl⟩
  obtain ⟨C, hC⟩ : ∃ b, roomL (sb s) = b := ⟨_, rfl⟩
  obtain ⟨D, hD⟩ : ∃ b, eventS s = b := ⟨_, rfl⟩
  have P1 := fun w1 (hm : MaxC w1) => server_is s A w1 hm hs' hA
  have R1 := fun w1 => ref_server_is s A w1 hs' hA
  have P2 := fun w1 (hm : MaxC w1) => user_is s B w1 hm hs' hB
  have R2 := fun w1 => ref_user_is s B w1 hs' hB
  have P3 := fun w1 (hm : MaxC w1) => room_is s C w1 hm hs' hC
  have R3 := fun w1 => ref_room_is s C w1 hs' hC
  have P4 := fun w1 => event_is s D w1 hs' hD
  have R4 := fun w1 => ref_event_is s D w1 hs' hD
  clear hA hB hC hD hu
  go_enter Tryd.func3, Tryd.ntmps3
  go_wp2_with fail
  refine (alive05 w hm).mono ?_
  rintro e w1 ⟨rfl, hb2⟩
  replace hm := hm.below hb2
  replace HB := below_then HB hb2
  clear hb2
  go_wp2_with fail
  refine (C1 _ hm).mono ?_
  rintro e w2 ⟨a, b, hab, rfl, hb2⟩
  replace hm := hm.below hb2
  replace HB := below_then HB hb2
  clear hb2
  have HAB := Lib.hid hab; clear hab
  go_wp2_with fail
  refine (C2 _).mono ?_
  rintro e w2 ⟨a', b', hab', rfl, hb2⟩
  replace hm := hm.below hb2
  replace HB := below_then HB hb2
  clear hb2
  obtain rfl : a' = a := sb_inj (hab'.1.trans HAB.out.1.symm)
  obtain rfl : b' = b := sb_inj (hab'.2.trans HAB.out.2.symm)
  clear hab'
  have ea := str_eq_yes (rfl : a' = a')
  have eb := str_eq_yes (rfl : b' = b')
  go_wp2_with fail
  refine (P1 _ hm).mono ?_
  rintro e w2 ⟨rfl, hb2⟩
  replace hm := hm.below hb2
  replace HB := below_then HB hb2
  clear hb2
  go_wp2_with fail
  refine (R1 _).mono ?_
  rintro e w2 ⟨rfl, rfl⟩
  go_wp2_with fail
  refine (P2 _ hm).mono ?_
  rintro e w2 ⟨rfl, hb2⟩
  replace hm := hm.below hb2
  replace HB := below_then HB hb2
  clear hb2
  go_wp2_with fail
  refine (R2 _).mono ?_
  rintro e w2 ⟨rfl, hb2⟩
  replace hm := hm.below hb2
  replace HB := below_then HB hb2
  clear hb2
  go_wp2_with fail
  refine (P3 _ hm).mono ?_
  rintro e w2 ⟨rfl, hb2⟩
  replace hm := hm.below hb2
  replace HB := below_then HB hb2
  clear hb2
  go_wp2_with fail
  refine (R3 _).mono ?_
  rintro e w2 ⟨rfl, hb2⟩
  replace hm := hm.below hb2
  replace HB := below_then HB hb2
  clear hb2
  go_wp2_with fail
  refine (P4 _).mono ?_
  rintro e w2 ⟨rfl, hb2⟩
  replace hm := hm.below hb2
  replace HB := below_then HB hb2
  clear hb2
  go_wp2_with fail
  refine (R4 _).mono ?_
  rintro e w2 ⟨rfl, hb2⟩
  replace hm := hm.below hb2
  replace HB := below_then HB hb2
  clear hb2
  go_wp2
  go_ret
  exact ⟨rfl, HB⟩
set_option maxHeartbeats 1000000 in
theorem names_room (s : ByteArray) (w : World) (hm : MaxC w) (hs : s.size ≤ 2000) (hne : 0 < s.size) (hu : userL (sb s) = false) (hr : roomL (sb s) = true) :
    Calls Tryd.prog 3 #[.string s] w fun e w' => e = .returned (.bool true) ∧ Below w.heap.size w w' := by
  have hs' : s.size ≤ 1000000 := by omega
  have HB := Below.refl w.heap.size w
  have C1 := fun w1 (hm : MaxC w1) => split_room s w1 hm hs' hne hu hr
  have C2 := fun w1 => ref_split_room s w1 hs' hu hr
  obtain ⟨A, hA⟩ : ∃ b, serverL (sb s) = b := ⟨_, rfl⟩
  obtain ⟨B, hB⟩ : ∃ b, userL (sb s) = b := ⟨_, rfl⟩
  obtain ⟨C, hC⟩ : ∃ b, roomL (sb s) = b := ⟨_, rfl⟩
  obtain ⟨D, hD⟩ : ∃ b, eventS s = b := ⟨_, rfl⟩
  have P1 := fun w1 (hm : MaxC w1) => server_is s A w1 hm hs' hA
  have R1 := fun w1 => ref_server_is s A w1 hs' hA
  have P2 := fun w1 (hm : MaxC w1) => user_is s B w1 hm hs' hB
  have R2 := fun w1 => ref_user_is s B w1 hs' hB
  have P3 := fun w1 (hm : MaxC w1) => room_is s C w1 hm hs' hC
  have R3 := fun w1 => ref_room_is s C w1 hs' hC
  have P4 := fun w1 => event_is s D w1 hs' hD
  have R4 := fun w1 => ref_event_is s D w1 hs' hD
  clear hA hB hC hD hu hr
  go_enter Tryd.func3, Tryd.ntmps3
  go_wp2_with fail
  refine (alive05 w hm).mono ?_
  rintro e w1 ⟨rfl, hb2⟩
  replace hm := hm.below hb2
  replace HB := below_then HB hb2
  clear hb2
  go_wp2_with fail
  refine (C1 _ hm).mono ?_
  rintro e w2 ⟨a, b, hab, rfl, hb2⟩
  replace hm := hm.below hb2
  replace HB := below_then HB hb2
  clear hb2
  have HAB := Lib.hid hab; clear hab
  go_wp2_with fail
  refine (C2 _).mono ?_
  rintro e w2 ⟨a', b', hab', rfl, hb2⟩
  replace hm := hm.below hb2
  replace HB := below_then HB hb2
  clear hb2
  obtain rfl : a' = a := sb_inj (hab'.1.trans HAB.out.1.symm)
  obtain rfl : b' = b := sb_inj (hab'.2.trans HAB.out.2.symm)
  clear hab'
  have ea := str_eq_yes (rfl : a' = a')
  have eb := str_eq_yes (rfl : b' = b')
  go_wp2_with fail
  refine (P1 _ hm).mono ?_
  rintro e w2 ⟨rfl, hb2⟩
  replace hm := hm.below hb2
  replace HB := below_then HB hb2
  clear hb2
  go_wp2_with fail
  refine (R1 _).mono ?_
  rintro e w2 ⟨rfl, rfl⟩
  go_wp2_with fail
  refine (P2 _ hm).mono ?_
  rintro e w2 ⟨rfl, hb2⟩
  replace hm := hm.below hb2
  replace HB := below_then HB hb2
  clear hb2
  go_wp2_with fail
  refine (R2 _).mono ?_
  rintro e w2 ⟨rfl, hb2⟩
  replace hm := hm.below hb2
  replace HB := below_then HB hb2
  clear hb2
  go_wp2_with fail
  refine (P3 _ hm).mono ?_
  rintro e w2 ⟨rfl, hb2⟩
  replace hm := hm.below hb2
  replace HB := below_then HB hb2
  clear hb2
  go_wp2_with fail
  refine (R3 _).mono ?_
  rintro e w2 ⟨rfl, hb2⟩
  replace hm := hm.below hb2
  replace HB := below_then HB hb2
  clear hb2
  go_wp2_with fail
  refine (P4 _).mono ?_
  rintro e w2 ⟨rfl, hb2⟩
  replace hm := hm.below hb2
  replace HB := below_then HB hb2
  clear hb2
  go_wp2_with fail
  refine (R4 _).mono ?_
  rintro e w2 ⟨rfl, hb2⟩
  replace hm := hm.below hb2
  replace HB := below_then HB hb2
  clear hb2
  go_wp2
  go_ret
  exact ⟨rfl, HB⟩
theorem named_pos {s : ByteArray} {sigil most : Int} {K : Int → Bool} (h : namedL (sb s) sigil most K = true) : 0 < s.size := by
  rw [← sb_length]
  have := (named_head h).1
  cases hq : sb s with
  | nil => rw [hq] at this; cases this
  | cons x r => simp
theorem law_names (s : ByteArray) (w : World) (hm : MaxC w) (hs : s.size ≤ maxLen) :
    Calls Tryd.prog 3 #[.string s] w fun e w' => e = .returned (.bool true) ∧ Below w.heap.size w w' := by
  by_cases h2 : 2000 < s.size
  · unfold maxLen at hs
    go_enter Tryd.func3, Tryd.ntmps3
    go_wp2_with fail
    refine (alive05 w hm).mono ?_
    rintro e w1 ⟨rfl, hb1⟩
    go_wp2
    go_ret
    exact ⟨rfl, hb1⟩
  cases hu : userL (sb s)
  · cases hr : roomL (sb s)
    · exact names_no s w hm (by omega) hu hr
    · exact names_room s w hm (by omega) (named_pos hr) hu hr
  · exact names_user s w hm (by omega) (named_pos hu) hu
end Go.Proofs.YtibkkdbjmcongaaDoor
