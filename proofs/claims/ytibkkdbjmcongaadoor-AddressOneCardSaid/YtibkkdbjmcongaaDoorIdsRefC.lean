/- Layer 5 (ids): the reference's names of servers, users, rooms, events; and their parts. -/
import Derived.Test.YtibkkdbjmcongaaDoorIdsRefB
namespace Go.Proofs.YtibkkdbjmcongaaDoor
open Go.RowKit
set_option linter.unusedVariables false

theorem ref_colon_yes (s : ByteArray) (w : World) (hs : s.size ≤ maxLen) (h : colI (sb s) < (sb s).length) :
    Calls Tryd.prog 38 #[.string s] w fun e w' => e = .returned (.int .i64 (colI (sb s) : Nat)) ∧ w = w' := by
  have := ref_colon_any s w hs
  rwa [colV, if_pos h] at this
theorem ref_colon_no (s : ByteArray) (w : World) (hs : s.size ≤ maxLen) (h : ¬ colI (sb s) < (sb s).length) :
    Calls Tryd.prog 38 #[.string s] w fun e w' => e = .returned (.int .i64 (-1)) ∧ w = w' := by
  have := ref_colon_any s w hs
  rwa [colV, if_neg h] at this
theorem ref_host_is (s : ByteArray) (b : Bool) (w : World) (hs : s.size ≤ maxLen) (h : hostL (sb s) = b) :
    Calls Tryd.prog 42 #[.string s] w fun e w' => e = .returned (.bool b) ∧ w = w' := by
  rw [← h]; exact ref_host_any s w hs
set_option maxHeartbeats 1000000 in
theorem ref_server_any (s : ByteArray) (w : World) (hs : s.size ≤ 1000000) :
    Calls Tryd.prog 16 #[.string s] w fun e w' => e = .returned (.bool (serverL (sb s))) ∧ w = w' := by
  have hl := sb_length s
  have hs' : s.size ≤ maxLen := by unfold maxLen; omega
  by_cases hc : colI (sb s) < (sb s).length
  rotate_left
  · have HC := ref_colon_no s w hs' hc
    have HF := Lib.hid (show serverL (sb s) = hostL (sb s) by rw [serverL, List.take_of_length_le (by omega), decide_eq_true (show (sb s).length ≤ colI (sb s) by omega)]; rfl)
    have HH := ref_host_any s w hs'
    clear hc hl
    go_enter Tryd.func16, Tryd.ntmps16
    go_wp2_with fail
    refine HC.mono ?_
    rintro e w' ⟨rfl, rfl⟩
    go_wp2_with fail
    refine HH.mono ?_
    rintro e w' ⟨rfl, rfl⟩
    go_wp2
    go_ret
    exact ⟨by rw [HF.out]; rfl, rfl⟩
  have HC := ref_colon_yes s w hs' hc
  have hsv : serverL (sb s) = (madeI ((sb s).drop (colI (sb s) + 1)) 5 digI && hostL ((sb s).take (colI (sb s)))) := by
    rw [serverL, decide_eq_false (show ¬ (sb s).length ≤ colI (sb s) by omega)]; rfl
  generalize colI (sb s) = k at *
  rw [hl] at hc
  have ht := sb_tail s (k + 1)
  have ha := sb_extract s 0 k
  rw [List.drop_zero] at ha
  rw [← ht, ← ha] at hsv
  have hts : (s.extract (k + 1) s.size).size ≤ 1000000 := size_of_sb ht (by rw [List.length_drop]; omega)
  have has : (s.extract 0 k).size ≤ 1000000 := size_of_sb ha (by rw [List.length_take]; omega)
  have hk1 : (k : Int) + 1 ≤ s.size := by omega
  have hk0 : decide ((k : Int) < 0) = false := by simp
  have HV := Lib.hid hsv; clear hsv
  have HT := Lib.hid ht; clear ht
  have HA := Lib.hid ha; clear ha
  have HL := Lib.hid hl; clear hl
  go_enter Tryd.func16, Tryd.ntmps16
  go_wp2_with fail
  refine HC.mono ?_
  rintro e w' ⟨rfl, rfl⟩
  go_wp2
  generalize s.extract (k + 1) s.size = t at *
  have HTL := Lib.hid (sb_length t)
  have HHa := fun w' => ref_host_any (s.extract 0 k) w' (by unfold maxLen; omega)
  have hkle : (k : Int) ≤ s.size := by omega
  go_loop [5] (fun i => ∃ j : Nat, j ≤ t.size ∧ i = .int .i64 j ∧ ((sb t).take j).all digI = true) (fun i => t.size - (intOf i).toNat)
  case atStart => exact ⟨0, Nat.zero_le _, rfl, rfl⟩
  case round =>
    obtain ⟨j, hj, rfl, hall⟩ := hrel
    have H := Lib.hid hall; clear hall
    by_cases hlt : j < t.size
    · have hlj : j < (sb t).length := by have := HTL.out; omega
      have hat := at0_sb t j hlt
      have HAt := Lib.hid hat; clear hat
      have c0 := (t[j]'hlt).toNat_lt
      cases hd : digI (at0 (sb t) j)
      · have HD := Lib.hid (show digI ((t[j]'hlt).toNat : Int) = false by rw [← HAt.out]; exact hd)
        have HF := Lib.hid (show (sb t).all digI = false by rw [List.all_eq_false]; exact ⟨_, at0_mem hlj, by rw [hd]; decide⟩)
        clear hd
        go_wp2_with (go_at_call 43; refine (ref_digit_is _ _ _ HD.out).mono ?_; rintro e w' ⟨rfl, rfl⟩)
        go_ret
        refine ⟨?_, rfl⟩
        rw [HV.out, madeI, HF.out]; simp
      · have HD := Lib.hid (show digI ((t[j]'hlt).toNat : Int) = true by rw [← HAt.out]; exact hd)
        have HDD := Lib.hid hd; clear hd
        go_wp2_with (go_at_call 43; refine (ref_digit_is _ _ _ HD.out).mono ?_; rintro e w' ⟨rfl, rfl⟩)
        refine ⟨⟨j + 1, by omega, by go_num, ?_⟩, by simp [intOf]; omega⟩
        rw [List.take_add_one, List.getElem?_eq_getElem hlj, List.all_append, H.out, Option.toList_some, ← at0_lt hlj]
        simp [HDD.out]
    · obtain rfl : j = t.size := by omega
      have hall : (sb t).all digI = true := by
        have h := H.out
        rwa [List.take_of_length_le (by have := HTL.out; omega)] at h
      have HALL := Lib.hid hall; clear hall hlt hj
      have hfin : serverL (sb s) = ((decide (1 ≤ t.size) && decide ((t.size : Int) ≤ 5)) && hostL (sb (s.extract 0 k))) := by
        rw [HV.out, madeI, HALL.out, HTL.out]
        simp
      have HFIN := Lib.hid hfin; clear hfin
      cases hh : hostL (sb (s.extract 0 k))
      · have HR := ref_host_is (s.extract 0 k) false w (by unfold maxLen; omega) hh
        have HH := Lib.hid hh; clear hh
        go_wp2_with fail
        refine HR.mono ?_
        rintro e w' ⟨rfl, rfl⟩
        go_wp2
        go_ret
        refine ⟨?_, rfl⟩
        rw [HFIN.out, HH.out]; simp
      · have HR := ref_host_is (s.extract 0 k) true w (by unfold maxLen; omega) hh
        have HH := Lib.hid hh; clear hh
        by_cases h1 : 1 ≤ t.size
        · by_cases h5 : t.size ≤ 5
          · have b1 : decide ((1 : Int) ≤ (t.size : Int)) = true := by simp; omega
            have b5 : decide ((t.size : Int) ≤ 5) = true := by simp; omega
            go_wp2_with fail
            refine HR.mono ?_
            rintro e w' ⟨rfl, rfl⟩
            go_wp2
            go_ret
            refine ⟨?_, rfl⟩
            rw [HFIN.out, HH.out, b5, decide_eq_true h1]; rfl
          · have b1 : decide ((1 : Int) ≤ (t.size : Int)) = true := by simp; omega
            have b5 : decide ((t.size : Int) ≤ 5) = false := by simp; omega
            go_wp2_with fail
            refine HR.mono ?_
            rintro e w' ⟨rfl, rfl⟩
            go_wp2
            go_ret
            refine ⟨?_, rfl⟩
            rw [HFIN.out, HH.out, b5, decide_eq_true h1]; rfl
        · have b1 : decide ((1 : Int) ≤ (t.size : Int)) = false := by simp; omega
          go_wp2_with fail
          refine HR.mono ?_
          rintro e w' ⟨rfl, rfl⟩
          go_wp2
          go_ret
          refine ⟨?_, rfl⟩
          rw [HFIN.out, HH.out, decide_eq_false h1]; rfl
end Go.Proofs.YtibkkdbjmcongaaDoor
