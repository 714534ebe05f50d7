/- Layer 5 (ids): the reference's names of users, rooms, events; their parts. -/
import Derived.Test.YtibkkdbjmcongaaDoorIdsRefD
namespace Go.Proofs.YtibkkdbjmcongaaDoor
open Go.RowKit
set_option linter.unusedVariables false

set_option maxHeartbeats 1000000 in
theorem ref_user_any (s : ByteArray) (w : World) (hs : s.size ≤ 1000000) :
    Calls Tryd.prog 18 #[.string s] w fun e w' => e = .returned (.bool (userL (sb s))) ∧ Below w.heap.size w w' := by
  have hp := named_pok (sb s) 64 200 userI
  cases hq : pokB (sb s) 64
  · have HF := Lib.hid (show userL (sb s) = false by rw [userL, hp, hq]; rfl)
    have HP := ref_parts_64_no s w hs hq
    clear hp hq
    go_enter Tryd.func18, Tryd.ntmps18
    go_wp2_with fail
    refine HP.mono ?_
    rintro e w' ⟨rfl, rfl⟩
    go_wp2
    go_rounds 1
    go_ret
    exact ⟨by rw [HF.out]; rfl, Below.refl _ _⟩
  have HP := ref_parts_64_yes s w hs hq
  have HF0 := Lib.hid (show userL (sb s) = madeI (((sb s).drop 1).take (colI ((sb s).drop 1))) 200 userI by rw [userL, hp, hq]; rfl)
  have h255 : (sb s).length ≤ 255 := by
    simp only [pokB, Bool.and_eq_true, decide_eq_true_eq] at hq
    exact hq.1
  clear hp hq
  go_enter Tryd.func18, Tryd.ntmps18
  go_wp2_with fail
  refine HP.mono ?_
  rintro e w1 ⟨t, b, ⟨ht, -⟩, rfl, hb1⟩
  have hts := size_of_sb (n := 255) ht (by rw [List.length_take, List.length_drop]; omega)
  have hfin : userL (sb s) = madeI (sb t) 200 userI := by rw [HF0.out, ht]
  have HF := Lib.hid hfin
  have HTL := Lib.hid (sb_length t)
  clear hfin ht HP h255
  go_wp2
  go_loop [6, 7] (fun i _ => ∃ j : Nat, j ≤ t.size ∧ i = .int .i64 j ∧ ((sb t).take j).all userI = true) (fun i _ => t.size - (intOf i).toNat)
  case atStart => exact ⟨0, Nat.zero_le _, rfl, rfl⟩
  case round =>
    obtain ⟨j, hj, rfl, hall⟩ := hrel
    have H := Lib.hid hall; clear hall
    by_cases hlt : j < t.size
    · have hlj : j < (sb t).length := by have := HTL.out; omega
      have hat := at0_sb t j hlt
      have HAt := Lib.hid hat; clear hat
      have c0 := (t[j]'hlt).toNat_lt
      cases hcs : smlI (at0 (sb t) j)
      rotate_left
      · have HSm := Lib.hid (show smlI ((t[j]'hlt).toNat : Int) = true by rw [← HAt.out]; exact hcs)
        have HX := Lib.hid hcs; clear hcs
        have HDi := HSm; have HGr := HSm
        have HK := Lib.hid (show userI (at0 (sb t) j) = true by simp [userI, HX.out])
        go_wp2_with (first | (go_at_call 47; refine (ref_small_is _ _ _ HSm.out).mono ?_; rintro e w' ⟨rfl, rfl⟩) | (go_at_call 49; refine (ref_great_is _ _ _ HGr.out).mono ?_; rintro e w' ⟨rfl, rfl⟩) | (go_at_call 43; refine (ref_digit_is _ _ _ HDi.out).mono ?_; rintro e w' ⟨rfl, rfl⟩))
        refine ⟨⟨j + 1, by omega, by go_num, ?_⟩, by simp [intOf]; omega⟩
        rw [List.take_add_one, List.getElem?_eq_getElem hlj, List.all_append, H.out, Option.toList_some, ← at0_lt hlj]
        simp [HK.out]
      have HSm := Lib.hid (show smlI ((t[j]'hlt).toNat : Int) = false by rw [← HAt.out]; exact hcs)
      have HXs := Lib.hid hcs; clear hcs
      cases hcd : digI (at0 (sb t) j)
      rotate_left
      · have HDi := Lib.hid (show digI ((t[j]'hlt).toNat : Int) = true by rw [← HAt.out]; exact hcd)
        have HX := Lib.hid hcd; clear hcd
        have HGr := HSm
        have HK := Lib.hid (show userI (at0 (sb t) j) = true by simp [userI, HX.out])
        go_wp2_with (first | (go_at_call 47; refine (ref_small_is _ _ _ HSm.out).mono ?_; rintro e w' ⟨rfl, rfl⟩) | (go_at_call 49; refine (ref_great_is _ _ _ HGr.out).mono ?_; rintro e w' ⟨rfl, rfl⟩) | (go_at_call 43; refine (ref_digit_is _ _ _ HDi.out).mono ?_; rintro e w' ⟨rfl, rfl⟩))
        refine ⟨⟨j + 1, by omega, by go_num, ?_⟩, by simp [intOf]; omega⟩
        rw [List.take_add_one, List.getElem?_eq_getElem hlj, List.all_append, H.out, Option.toList_some, ← at0_lt hlj]
        simp [HK.out]
      have HDi := Lib.hid (show digI ((t[j]'hlt).toNat : Int) = false by rw [← HAt.out]; exact hcd)
      have HXd := Lib.hid hcd; clear hcd
      have HGr := HSm
      by_cases q46 : at0 (sb t) j = 46
      · have b46 : (((t[j]'hlt).toNat : Int) != 46) = false := by rw [← HAt.out, q46]; rfl
        have HQ := Lib.hid q46; clear q46
        have HK := Lib.hid (show userI (at0 (sb t) j) = true by simp [userI, HQ.out])
        go_wp2_with (first | (go_at_call 47; refine (ref_small_is _ _ _ HSm.out).mono ?_; rintro e w' ⟨rfl, rfl⟩) | (go_at_call 49; refine (ref_great_is _ _ _ HGr.out).mono ?_; rintro e w' ⟨rfl, rfl⟩) | (go_at_call 43; refine (ref_digit_is _ _ _ HDi.out).mono ?_; rintro e w' ⟨rfl, rfl⟩))
        refine ⟨⟨j + 1, by omega, by go_num, ?_⟩, by simp [intOf]; omega⟩
        rw [List.take_add_one, List.getElem?_eq_getElem hlj, List.all_append, H.out, Option.toList_some, ← at0_lt hlj]
        simp [HK.out]
      have b46 : (((t[j]'hlt).toNat : Int) != 46) = true := by rw [← HAt.out, bne_iff_ne]; exact q46
      have Q46 := Lib.hid q46; clear q46
      by_cases q95 : at0 (sb t) j = 95
      · have b95 : (((t[j]'hlt).toNat : Int) != 95) = false := by rw [← HAt.out, q95]; rfl
        have HQ := Lib.hid q95; clear q95
        have HK := Lib.hid (show userI (at0 (sb t) j) = true by simp [userI, HQ.out])
        go_wp2_with (first | (go_at_call 47; refine (ref_small_is _ _ _ HSm.out).mono ?_; rintro e w' ⟨rfl, rfl⟩) | (go_at_call 49; refine (ref_great_is _ _ _ HGr.out).mono ?_; rintro e w' ⟨rfl, rfl⟩) | (go_at_call 43; refine (ref_digit_is _ _ _ HDi.out).mono ?_; rintro e w' ⟨rfl, rfl⟩))
        refine ⟨⟨j + 1, by omega, by go_num, ?_⟩, by simp [intOf]; omega⟩
        rw [List.take_add_one, List.getElem?_eq_getElem hlj, List.all_append, H.out, Option.toList_some, ← at0_lt hlj]
        simp [HK.out]
      have b95 : (((t[j]'hlt).toNat : Int) != 95) = true := by rw [← HAt.out, bne_iff_ne]; exact q95
      have Q95 := Lib.hid q95; clear q95
      by_cases q61 : at0 (sb t) j = 61
      · have b61 : (((t[j]'hlt).toNat : Int) != 61) = false := by rw [← HAt.out, q61]; rfl
        have HQ := Lib.hid q61; clear q61
        have HK := Lib.hid (show userI (at0 (sb t) j) = true by simp [userI, HQ.out])
        go_wp2_with (first | (go_at_call 47; refine (ref_small_is _ _ _ HSm.out).mono ?_; rintro e w' ⟨rfl, rfl⟩) | (go_at_call 49; refine (ref_great_is _ _ _ HGr.out).mono ?_; rintro e w' ⟨rfl, rfl⟩) | (go_at_call 43; refine (ref_digit_is _ _ _ HDi.out).mono ?_; rintro e w' ⟨rfl, rfl⟩))
        refine ⟨⟨j + 1, by omega, by go_num, ?_⟩, by simp [intOf]; omega⟩
        rw [List.take_add_one, List.getElem?_eq_getElem hlj, List.all_append, H.out, Option.toList_some, ← at0_lt hlj]
        simp [HK.out]
      have b61 : (((t[j]'hlt).toNat : Int) != 61) = true := by rw [← HAt.out, bne_iff_ne]; exact q61
      have Q61 := Lib.hid q61; clear q61
      by_cases q47 : at0 (sb t) j = 47
      · have b47 : (((t[j]'hlt).toNat : Int) != 47) = false := by rw [← HAt.out, q47]; rfl
        have HQ := Lib.hid q47; clear q47
        have HK := Lib.hid (show userI (at0 (sb t) j) = true by simp [userI, HQ.out])
        go_wp2_with (first | (go_at_call 47; refine (ref_small_is _ _ _ HSm.out).mono ?_; rintro e w' ⟨rfl, rfl⟩) | (go_at_call 49; refine (ref_great_is _ _ _ HGr.out).mono ?_; rintro e w' ⟨rfl, rfl⟩) | (go_at_call 43; refine (ref_digit_is _ _ _ HDi.out).mono ?_; rintro e w' ⟨rfl, rfl⟩))
        refine ⟨⟨j + 1, by omega, by go_num, ?_⟩, by simp [intOf]; omega⟩
        rw [List.take_add_one, List.getElem?_eq_getElem hlj, List.all_append, H.out, Option.toList_some, ← at0_lt hlj]
        simp [HK.out]
      have b47 : (((t[j]'hlt).toNat : Int) != 47) = true := by rw [← HAt.out, bne_iff_ne]; exact q47
      have Q47 := Lib.hid q47; clear q47
      by_cases q43 : at0 (sb t) j = 43
      · have b43 : (((t[j]'hlt).toNat : Int) != 43) = false := by rw [← HAt.out, q43]; rfl
        have HQ := Lib.hid q43; clear q43
        have HK := Lib.hid (show userI (at0 (sb t) j) = true by simp [userI, HQ.out])
        go_wp2_with (first | (go_at_call 47; refine (ref_small_is _ _ _ HSm.out).mono ?_; rintro e w' ⟨rfl, rfl⟩) | (go_at_call 49; refine (ref_great_is _ _ _ HGr.out).mono ?_; rintro e w' ⟨rfl, rfl⟩) | (go_at_call 43; refine (ref_digit_is _ _ _ HDi.out).mono ?_; rintro e w' ⟨rfl, rfl⟩))
        refine ⟨⟨j + 1, by omega, by go_num, ?_⟩, by simp [intOf]; omega⟩
        rw [List.take_add_one, List.getElem?_eq_getElem hlj, List.all_append, H.out, Option.toList_some, ← at0_lt hlj]
        simp [HK.out]
      have b43 : (((t[j]'hlt).toNat : Int) != 43) = true := by rw [← HAt.out, bne_iff_ne]; exact q43
      have Q43 := Lib.hid q43; clear q43
      by_cases q45 : at0 (sb t) j = 45
      · have b45 : (((t[j]'hlt).toNat : Int) != 45) = false := by rw [← HAt.out, q45]; rfl
        have HQ := Lib.hid q45; clear q45
        have HK := Lib.hid (show userI (at0 (sb t) j) = true by simp [userI, HQ.out])
        go_wp2_with (first | (go_at_call 47; refine (ref_small_is _ _ _ HSm.out).mono ?_; rintro e w' ⟨rfl, rfl⟩) | (go_at_call 49; refine (ref_great_is _ _ _ HGr.out).mono ?_; rintro e w' ⟨rfl, rfl⟩) | (go_at_call 43; refine (ref_digit_is _ _ _ HDi.out).mono ?_; rintro e w' ⟨rfl, rfl⟩))
        refine ⟨⟨j + 1, by omega, by go_num, ?_⟩, by simp [intOf]; omega⟩
        rw [List.take_add_one, List.getElem?_eq_getElem hlj, List.all_append, H.out, Option.toList_some, ← at0_lt hlj]
        simp [HK.out]
      have b45 : (((t[j]'hlt).toNat : Int) != 45) = true := by rw [← HAt.out, bne_iff_ne]; exact q45
      have Q45 := Lib.hid q45; clear q45
      have HK := Lib.hid (show userI (at0 (sb t) j) = false by simp [userI, HXs.out, HXd.out, Q46.out, Q95.out, Q61.out, Q47.out, Q43.out, Q45.out])
      go_wp2_with (first | (go_at_call 47; refine (ref_small_is _ _ _ HSm.out).mono ?_; rintro e w' ⟨rfl, rfl⟩) | (go_at_call 49; refine (ref_great_is _ _ _ HGr.out).mono ?_; rintro e w' ⟨rfl, rfl⟩) | (go_at_call 43; refine (ref_digit_is _ _ _ HDi.out).mono ?_; rintro e w' ⟨rfl, rfl⟩))
      go_ret
      refine ⟨?_, hb1⟩
      have : (sb t).all userI = false := by rw [List.all_eq_false]; exact ⟨_, at0_mem hlj, by rw [HK.out]; decide⟩
      rw [HF.out, madeI, this]; simp
    · obtain rfl : j = t.size := by omega
      have hall : (sb t).all userI = true := by
        have h := H.out
        rwa [List.take_of_length_le (by have := HTL.out; omega)] at h
      have HALL := Lib.hid hall; clear hall hlt hj
      have hfin : userL (sb s) = (decide (1 ≤ t.size) && decide ((t.size : Int) ≤ 200)) := by
        rw [HF.out, madeI, HALL.out, HTL.out]
        simp
      have HFIN := Lib.hid hfin; clear hfin
      by_cases h1 : 1 ≤ t.size
      · by_cases h5 : t.size ≤ 200
        · have b1 : decide ((1 : Int) ≤ (t.size : Int)) = true := by simp; omega
          have b5 : decide ((t.size : Int) ≤ 200) = true := by simp; omega
          go_wp2
          go_ret
          refine ⟨?_, hb1⟩
          rw [HFIN.out, b5, decide_eq_true h1]; rfl
        · have b1 : decide ((1 : Int) ≤ (t.size : Int)) = true := by simp; omega
          have b5 : decide ((t.size : Int) ≤ 200) = false := by simp; omega
          go_wp2
          go_ret
          refine ⟨?_, hb1⟩
          rw [HFIN.out, b5, decide_eq_true h1]; rfl
      · have b1 : decide ((1 : Int) ≤ (t.size : Int)) = false := by simp; omega
        go_wp2
        go_ret
        refine ⟨?_, hb1⟩
        rw [HFIN.out, decide_eq_false h1]; rfl
set_option maxHeartbeats 1000000 in
theorem ref_room_any (s : ByteArray) (w : World) (hs : s.size ≤ 1000000) :
    Calls Tryd.prog 20 #[.string s] w fun e w' => e = .returned (.bool (roomL (sb s))) ∧ Below w.heap.size w w' := by
  have hp := named_pok (sb s) 33 64 roomI
  cases hq : pokB (sb s) 33
  · have HF := Lib.hid (show roomL (sb s) = false by rw [roomL, hp, hq]; rfl)
    have HP := ref_parts_33_no s w hs hq
    clear hp hq
    go_enter Tryd.func20, Tryd.ntmps20
    go_wp2_with fail
    refine HP.mono ?_
    rintro e w' ⟨rfl, rfl⟩
    go_wp2
    go_rounds 1
    go_ret
    exact ⟨by rw [HF.out]; rfl, Below.refl _ _⟩
  have HP := ref_parts_33_yes s w hs hq
  have HF0 := Lib.hid (show roomL (sb s) = madeI (((sb s).drop 1).take (colI ((sb s).drop 1))) 64 roomI by rw [roomL, hp, hq]; rfl)
  have h255 : (sb s).length ≤ 255 := by
    simp only [pokB, Bool.and_eq_true, decide_eq_true_eq] at hq
    exact hq.1
  clear hp hq
  go_enter Tryd.func20, Tryd.ntmps20
  go_wp2_with fail
  refine HP.mono ?_
  rintro e w1 ⟨t, b, ⟨ht, -⟩, rfl, hb1⟩
  have hts := size_of_sb (n := 255) ht (by rw [List.length_take, List.length_drop]; omega)
  have hfin : roomL (sb s) = madeI (sb t) 64 roomI := by rw [HF0.out, ht]
  have HF := Lib.hid hfin
  have HTL := Lib.hid (sb_length t)
  clear hfin ht HP h255
  go_wp2
  go_loop [6] (fun i => ∃ j : Nat, j ≤ t.size ∧ i = .int .i64 j ∧ ((sb t).take j).all roomI = true) (fun i => t.size - (intOf i).toNat)
  case atStart => exact ⟨0, Nat.zero_le _, rfl, rfl⟩
  case round =>
    obtain ⟨j, hj, rfl, hall⟩ := hrel
    have H := Lib.hid hall; clear hall
    by_cases hlt : j < t.size
    · have hlj : j < (sb t).length := by have := HTL.out; omega
      have hat := at0_sb t j hlt
      have HAt := Lib.hid hat; clear hat
      have c0 := (t[j]'hlt).toNat_lt
      cases hcs : smlI (at0 (sb t) j) <;> cases hcg : grtI (at0 (sb t) j) <;> cases hcd : digI (at0 (sb t) j)
      · have HSm := Lib.hid (show smlI ((t[j]'hlt).toNat : Int) = false by rw [← HAt.out]; exact hcs)
        have HGr := Lib.hid (show grtI ((t[j]'hlt).toNat : Int) = false by rw [← HAt.out]; exact hcg)
        have HDi := Lib.hid (show digI ((t[j]'hlt).toNat : Int) = false by rw [← HAt.out]; exact hcd)
        have HX := Lib.hid (And.intro hcs (And.intro hcg hcd)); clear hcs hcg hcd
        have HK := Lib.hid (show roomI (at0 (sb t) j) = false by obtain ⟨x1, x2, x3⟩ := HX.out; simp [roomI, x1, x2, x3])
        go_wp2_with (first | (go_at_call 47; refine (ref_small_is _ _ _ HSm.out).mono ?_; rintro e w' ⟨rfl, rfl⟩) | (go_at_call 49; refine (ref_great_is _ _ _ HGr.out).mono ?_; rintro e w' ⟨rfl, rfl⟩) | (go_at_call 43; refine (ref_digit_is _ _ _ HDi.out).mono ?_; rintro e w' ⟨rfl, rfl⟩))
        go_ret
        refine ⟨?_, hb1⟩
        have : (sb t).all roomI = false := by rw [List.all_eq_false]; exact ⟨_, at0_mem hlj, by rw [HK.out]; decide⟩
        rw [HF.out, madeI, this]; simp
      · have HSm := Lib.hid (show smlI ((t[j]'hlt).toNat : Int) = false by rw [← HAt.out]; exact hcs)
        have HGr := Lib.hid (show grtI ((t[j]'hlt).toNat : Int) = false by rw [← HAt.out]; exact hcg)
        have HDi := Lib.hid (show digI ((t[j]'hlt).toNat : Int) = true by rw [← HAt.out]; exact hcd)
        have HX := Lib.hid (And.intro hcs (And.intro hcg hcd)); clear hcs hcg hcd
        have HK := Lib.hid (show roomI (at0 (sb t) j) = true by obtain ⟨x1, x2, x3⟩ := HX.out; simp [roomI, x1, x2, x3])
        go_wp2_with (first | (go_at_call 47; refine (ref_small_is _ _ _ HSm.out).mono ?_; rintro e w' ⟨rfl, rfl⟩) | (go_at_call 49; refine (ref_great_is _ _ _ HGr.out).mono ?_; rintro e w' ⟨rfl, rfl⟩) | (go_at_call 43; refine (ref_digit_is _ _ _ HDi.out).mono ?_; rintro e w' ⟨rfl, rfl⟩))
        refine ⟨⟨j + 1, by omega, by go_num, ?_⟩, by simp [intOf]; omega⟩
        rw [List.take_add_one, List.getElem?_eq_getElem hlj, List.all_append, H.out, Option.toList_some, ← at0_lt hlj]
        simp [HK.out]
      · have HSm := Lib.hid (show smlI ((t[j]'hlt).toNat : Int) = false by rw [← HAt.out]; exact hcs)
        have HGr := Lib.hid (show grtI ((t[j]'hlt).toNat : Int) = true by rw [← HAt.out]; exact hcg)
        have HDi := Lib.hid (show digI ((t[j]'hlt).toNat : Int) = false by rw [← HAt.out]; exact hcd)
        have HX := Lib.hid (And.intro hcs (And.intro hcg hcd)); clear hcs hcg hcd
        have HK := Lib.hid (show roomI (at0 (sb t) j) = true by obtain ⟨x1, x2, x3⟩ := HX.out; simp [roomI, x1, x2, x3])
        go_wp2_with (first | (go_at_call 47; refine (ref_small_is _ _ _ HSm.out).mono ?_; rintro e w' ⟨rfl, rfl⟩) | (go_at_call 49; refine (ref_great_is _ _ _ HGr.out).mono ?_; rintro e w' ⟨rfl, rfl⟩) | (go_at_call 43; refine (ref_digit_is _ _ _ HDi.out).mono ?_; rintro e w' ⟨rfl, rfl⟩))
        refine ⟨⟨j + 1, by omega, by go_num, ?_⟩, by simp [intOf]; omega⟩
        rw [List.take_add_one, List.getElem?_eq_getElem hlj, List.all_append, H.out, Option.toList_some, ← at0_lt hlj]
        simp [HK.out]
      · have HSm := Lib.hid (show smlI ((t[j]'hlt).toNat : Int) = false by rw [← HAt.out]; exact hcs)
        have HGr := Lib.hid (show grtI ((t[j]'hlt).toNat : Int) = true by rw [← HAt.out]; exact hcg)
        have HDi := Lib.hid (show digI ((t[j]'hlt).toNat : Int) = true by rw [← HAt.out]; exact hcd)
        have HX := Lib.hid (And.intro hcs (And.intro hcg hcd)); clear hcs hcg hcd
        have HK := Lib.hid (show roomI (at0 (sb t) j) = true by obtain ⟨x1, x2, x3⟩ := HX.out; simp [roomI, x1, x2, x3])
        go_wp2_with (first | (go_at_call 47; refine (ref_small_is _ _ _ HSm.out).mono ?_; rintro e w' ⟨rfl, rfl⟩) | (go_at_call 49; refine (ref_great_is _ _ _ HGr.out).mono ?_; rintro e w' ⟨rfl, rfl⟩) | (go_at_call 43; refine (ref_digit_is _ _ _ HDi.out).mono ?_; rintro e w' ⟨rfl, rfl⟩))
        refine ⟨⟨j + 1, by omega, by go_num, ?_⟩, by simp [intOf]; omega⟩
        rw [List.take_add_one, List.getElem?_eq_getElem hlj, List.all_append, H.out, Option.toList_some, ← at0_lt hlj]
        simp [HK.out]
      · have HSm := Lib.hid (show smlI ((t[j]'hlt).toNat : Int) = true by rw [← HAt.out]; exact hcs)
        have HGr := Lib.hid (show grtI ((t[j]'hlt).toNat : Int) = false by rw [← HAt.out]; exact hcg)
        have HDi := Lib.hid (show digI ((t[j]'hlt).toNat : Int) = false by rw [← HAt.out]; exact hcd)
        have HX := Lib.hid (And.intro hcs (And.intro hcg hcd)); clear hcs hcg hcd
        have HK := Lib.hid (show roomI (at0 (sb t) j) = true by obtain ⟨x1, x2, x3⟩ := HX.out; simp [roomI, x1, x2, x3])
        go_wp2_with (first | (go_at_call 47; refine (ref_small_is _ _ _ HSm.out).mono ?_; rintro e w' ⟨rfl, rfl⟩) | (go_at_call 49; refine (ref_great_is _ _ _ HGr.out).mono ?_; rintro e w' ⟨rfl, rfl⟩) | (go_at_call 43; refine (ref_digit_is _ _ _ HDi.out).mono ?_; rintro e w' ⟨rfl, rfl⟩))
        refine ⟨⟨j + 1, by omega, by go_num, ?_⟩, by simp [intOf]; omega⟩
        rw [List.take_add_one, List.getElem?_eq_getElem hlj, List.all_append, H.out, Option.toList_some, ← at0_lt hlj]
        simp [HK.out]
      · have HSm := Lib.hid (show smlI ((t[j]'hlt).toNat : Int) = true by rw [← HAt.out]; exact hcs)
        have HGr := Lib.hid (show grtI ((t[j]'hlt).toNat : Int) = false by rw [← HAt.out]; exact hcg)
        have HDi := Lib.hid (show digI ((t[j]'hlt).toNat : Int) = true by rw [← HAt.out]; exact hcd)
        have HX := Lib.hid (And.intro hcs (And.intro hcg hcd)); clear hcs hcg hcd
        have HK := Lib.hid (show roomI (at0 (sb t) j) = true by obtain ⟨x1, x2, x3⟩ := HX.out; simp [roomI, x1, x2, x3])
        go_wp2_with (first | (go_at_call 47; refine (ref_small_is _ _ _ HSm.out).mono ?_; rintro e w' ⟨rfl, rfl⟩) | (go_at_call 49; refine (ref_great_is _ _ _ HGr.out).mono ?_; rintro e w' ⟨rfl, rfl⟩) | (go_at_call 43; refine (ref_digit_is _ _ _ HDi.out).mono ?_; rintro e w' ⟨rfl, rfl⟩))
        refine ⟨⟨j + 1, by omega, by go_num, ?_⟩, by simp [intOf]; omega⟩
        rw [List.take_add_one, List.getElem?_eq_getElem hlj, List.all_append, H.out, Option.toList_some, ← at0_lt hlj]
        simp [HK.out]
      · have HSm := Lib.hid (show smlI ((t[j]'hlt).toNat : Int) = true by rw [← HAt.out]; exact hcs)
        have HGr := Lib.hid (show grtI ((t[j]'hlt).toNat : Int) = true by rw [← HAt.out]; exact hcg)
        have HDi := Lib.hid (show digI ((t[j]'hlt).toNat : Int) = false by rw [← HAt.out]; exact hcd)
        have HX := Lib.hid (And.intro hcs (And.intro hcg hcd)); clear hcs hcg hcd
        have HK := Lib.hid (show roomI (at0 (sb t) j) = true by obtain ⟨x1, x2, x3⟩ := HX.out; simp [roomI, x1, x2, x3])
        go_wp2_with (first | (go_at_call 47; refine (ref_small_is _ _ _ HSm.out).mono ?_; rintro e w' ⟨rfl, rfl⟩) | (go_at_call 49; refine (ref_great_is _ _ _ HGr.out).mono ?_; rintro e w' ⟨rfl, rfl⟩) | (go_at_call 43; refine (ref_digit_is _ _ _ HDi.out).mono ?_; rintro e w' ⟨rfl, rfl⟩))
        refine ⟨⟨j + 1, by omega, by go_num, ?_⟩, by simp [intOf]; omega⟩
        rw [List.take_add_one, List.getElem?_eq_getElem hlj, List.all_append, H.out, Option.toList_some, ← at0_lt hlj]
        simp [HK.out]
      · have HSm := Lib.hid (show smlI ((t[j]'hlt).toNat : Int) = true by rw [← HAt.out]; exact hcs)
        have HGr := Lib.hid (show grtI ((t[j]'hlt).toNat : Int) = true by rw [← HAt.out]; exact hcg)
        have HDi := Lib.hid (show digI ((t[j]'hlt).toNat : Int) = true by rw [← HAt.out]; exact hcd)
        have HX := Lib.hid (And.intro hcs (And.intro hcg hcd)); clear hcs hcg hcd
        have HK := Lib.hid (show roomI (at0 (sb t) j) = true by obtain ⟨x1, x2, x3⟩ := HX.out; simp [roomI, x1, x2, x3])
        go_wp2_with (first | (go_at_call 47; refine (ref_small_is _ _ _ HSm.out).mono ?_; rintro e w' ⟨rfl, rfl⟩) | (go_at_call 49; refine (ref_great_is _ _ _ HGr.out).mono ?_; rintro e w' ⟨rfl, rfl⟩) | (go_at_call 43; refine (ref_digit_is _ _ _ HDi.out).mono ?_; rintro e w' ⟨rfl, rfl⟩))
        refine ⟨⟨j + 1, by omega, by go_num, ?_⟩, by simp [intOf]; omega⟩
        rw [List.take_add_one, List.getElem?_eq_getElem hlj, List.all_append, H.out, Option.toList_some, ← at0_lt hlj]
        simp [HK.out]
    · obtain rfl : j = t.size := by omega
      have hall : (sb t).all roomI = true := by
        have h := H.out
        rwa [List.take_of_length_le (by have := HTL.out; omega)] at h
      have HALL := Lib.hid hall; clear hall hlt hj
      have hfin : roomL (sb s) = (decide (1 ≤ t.size) && decide ((t.size : Int) ≤ 64)) := by
        rw [HF.out, madeI, HALL.out, HTL.out]
        simp
      have HFIN := Lib.hid hfin; clear hfin
      by_cases h1 : 1 ≤ t.size
      · by_cases h5 : t.size ≤ 64
        · have b1 : decide ((1 : Int) ≤ (t.size : Int)) = true := by simp; omega
          have b5 : decide ((t.size : Int) ≤ 64) = true := by simp; omega
          go_wp2
          go_ret
          refine ⟨?_, hb1⟩
          rw [HFIN.out, b5, decide_eq_true h1]; rfl
        · have b1 : decide ((1 : Int) ≤ (t.size : Int)) = true := by simp; omega
          have b5 : decide ((t.size : Int) ≤ 64) = false := by simp; omega
          go_wp2
          go_ret
          refine ⟨?_, hb1⟩
          rw [HFIN.out, b5, decide_eq_true h1]; rfl
      · have b1 : decide ((1 : Int) ≤ (t.size : Int)) = false := by simp; omega
        go_wp2
        go_ret
        refine ⟨?_, hb1⟩
        rw [HFIN.out, decide_eq_false h1]; rfl
end Go.Proofs.YtibkkdbjmcongaaDoor
