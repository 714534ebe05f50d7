/- Layer 6 (address): email addresses, as the program tells them. -/
import Derived.Test.YtibkkdbjmcongaaDoorAddrPure
namespace Go.Proofs.YtibkkdbjmcongaaDoor
open Go.RowKit
set_option linter.unusedVariables false

set_option maxHeartbeats 400000 in
theorem adigit_any (c : Int) (w : World) : Calls Tryd.prog 82 #[.int .u8 c] w fun e w' => e = .returned (.bool (digI c)) ∧ w = w' := by
  go_enter Tryd.func82, Tryd.ntmps82
  go_wp2
  all_goals go_ret
  all_goals exact ⟨by simp [digI, *]; try omega, rfl⟩
theorem adigit_is (c : Int) (b : Bool) (w : World) (h : digI c = b) : Calls Tryd.prog 82 #[.int .u8 c] w fun e w' => e = .returned (.bool b) ∧ w = w' := by rw [← h]; exact adigit_any c w
theorem idxLocal_any (c : Int) (b : Bool) (w : World) (h0 : 0 ≤ c) (h1 : c ≤ 255) (h : lsgI c = b) :
    Calls Tryd.prog 69 #[.string ⟨#[46, 33, 35, 36, 37, 38, 39, 42, 43, 47, 61, 63, 94, 95, 96, 123, 124, 125, 126, 45]⟩, .int .u8 c] w fun e w' => (∃ k : Int, decide (0 ≤ k) = b ∧ e = .returned (.int .i64 k)) ∧ w = w' := by
  refine (Tryd.strings_IndexByte ⟨#[46, 33, 35, 36, 37, 38, 39, 42, 43, 47, 61, 63, 94, 95, 96, 123, 124, 125, 126, 45]⟩ c w).mono ?_
  rintro e w' ⟨rfl, rfl⟩
  exact ⟨⟨_, by rw [← h, ← signs_local c h0 h1], rfl⟩, rfl⟩
set_option maxHeartbeats 400000 in
theorem ofLocal_any (c : Int) (w : World) (h0 : 0 ≤ c) (h1 : c ≤ 255) : Calls Tryd.prog 81 #[.int .u8 c] w fun e w' => e = .returned (.bool (locI c)) ∧ w = w' := by
  have HI := fun w' => idxLocal_any c (lsgI c) w' h0 h1 rfl
  have HD := adigit_any c
  go_enter Tryd.func81, Tryd.ntmps81
  go_wp2_with (first | (go_at_call 82; refine (HD _).mono ?_; rintro e w' ⟨rfl, rfl⟩) | (go_at_call 69; refine (HI _).mono ?_; rintro e w' ⟨⟨k, hk, rfl⟩, rfl⟩; have HK := Lib.hid hk; clear hk))
  all_goals go_ret
  all_goals refine ⟨?_, rfl⟩
  · have h : digI c = true := by assumption
    show Ending.returned (.bool true) = _
    rw [locI, h]; rfl
  · have h : digI c = false := by simpa using ‹¬digI c = true›
    show Ending.returned (.bool (decide (0 ≤ k))) = _
    rw [HK.out, locI, h, smlI, grtI, decide_eq_false (show ¬ c ≤ 122 by omega), decide_eq_false (show ¬ c ≤ 90 by omega)]; simp
  · show Ending.returned (.bool true) = _
    rw [locI, smlI, decide_eq_true (show 97 ≤ c by assumption), decide_eq_true (show c ≤ 122 by assumption)]; simp
  · show Ending.returned (.bool true) = _
    rw [locI, grtI, decide_eq_true (show 65 ≤ c by assumption), decide_eq_true (show c ≤ 90 by assumption)]; simp
  · have h : digI c = false := by simpa using ‹¬digI c = true›
    show Ending.returned (.bool (decide (0 ≤ k))) = _
    rw [HK.out, locI, h, smlI, grtI, decide_eq_false (show ¬ 97 ≤ c by omega), decide_eq_false (show ¬ c ≤ 90 by omega)]; simp
  · have h : digI c = false := by simpa using ‹¬digI c = true›
    show Ending.returned (.bool (decide (0 ≤ k))) = _
    rw [HK.out, locI, h, smlI, grtI, decide_eq_false (show ¬ 97 ≤ c by omega), decide_eq_false (show ¬ 65 ≤ c by omega)]; simp
theorem ofLocal_is (c : Int) (b : Bool) (w : World) (h0 : 0 ≤ c) (h1 : c ≤ 255) (h : locI c = b) : Calls Tryd.prog 81 #[.int .u8 c] w fun e w' => e = .returned (.bool b) ∧ w = w' := by rw [← h]; exact ofLocal_any c w h0 h1
theorem trim1_any (s : ByteArray) (w : World) (hs : s.size ≤ 1000000) :
    Calls Tryd.prog 54 #[.string s, .string ⟨#[46]⟩] w fun e w' => ∃ t : ByteArray, (t = s ↔ pedgesI (sb s) = true) ∧ e = .returned (.string t) ∧ Below w.heap.size w w' := by
  refine (Tryd.strings_Trim_one s 46 (by decide) w (by omega)).mono ?_
  rintro e w' ⟨rfl, hw⟩
  refine ⟨_, ?_, rfl, ?_⟩
  · rw [sb, ← trimS_pedges, Lib.trimS_one]
    constructor
    · intro h
      have := congrArg (fun t : ByteArray => t.data.toList) h
      simpa using this
    · intro h
      show (⟨(Lib.trimB s.data.toList 46).toArray⟩ : ByteArray) = s
      rw [h]
  · rcases hw with rfl | rfl
    · exact Below.refl _ _
    · exact (Below.refl _ _).drew
theorem trimsp_any (s : ByteArray) (w : World) (hs : s.size ≤ 1000000) :
    Calls Tryd.prog 54 #[.string s, .string ⟨#[32]⟩] w fun e w' => ∃ t : ByteArray, sb t = trimI (sb s) ∧ e = .returned (.string t) ∧ Below w.heap.size w w' := by
  refine (Tryd.strings_Trim_one s 32 (by decide) w (by omega)).mono ?_
  rintro e w' ⟨rfl, hw⟩
  refine ⟨_, ?_, rfl, ?_⟩
  · rw [sb_mk, trim_sp]; rfl
  · rcases hw with rfl | rfl
    · exact Below.refl _ _
    · exact (Below.refl _ _).drew
set_option maxHeartbeats 1000000 in
theorem local_any (s : ByteArray) (w : World) (hm : MaxC w) (hs : s.size ≤ 1000000) :
    Calls Tryd.prog 55 #[.string s] w fun e w' => e = .returned (.bool (localL (sb s))) ∧ Below w.heap.size w w' := by
  have hl := sb_length s
  by_cases h1 : (s.size : Int) < 1
  · have HF := Lib.hid (show localL (sb s) = false by rw [localL, made_no _ _ _ (by omega)]; rfl)
    clear hl
    go_enter Tryd.func55, Tryd.ntmps55
    go_wp2
    go_ret
    exact ⟨by rw [HF.out]; rfl, Below.refl _ _⟩
  by_cases h2 : (64 : Int) < s.size
  · have HF := Lib.hid (show localL (sb s) = false by rw [localL, made_no _ _ _ (by omega)]; rfl)
    clear hl
    go_enter Tryd.func55, Tryd.ntmps55
    go_wp2
    go_ret
    exact ⟨by rw [HF.out]; rfl, Below.refl _ _⟩
  have hlv : localL (sb s) = ((sb s).all locI && (!dotsI (sb s) && pedgesI (sb s))) := by rw [localL, made_yes _ _ _ (by omega) (by omega)]
  have h1' : (1 : Int) ≤ s.size := by omega
  have h2' : (s.size : Int) ≤ 64 := by omega
  have HL := Lib.hid hl; clear hl
  cases hd : dotsI (sb s)
  rotate_left
  · have HF := Lib.hid (show localL (sb s) = false by rw [hlv, hd]; simp)
    have HD := dots_any s w hm hs true hd
    clear hd hlv
    go_enter Tryd.func55, Tryd.ntmps55
    go_wp2_with fail
    refine HD.mono ?_
    rintro e w' ⟨rfl, rfl⟩
    go_wp2
    go_ret
    exact ⟨by rw [HF.out]; rfl, Below.refl _ _⟩
  have HD := dots_any s w hm hs false hd
  have HT := trim1_any s w hs
  cases he : pedgesI (sb s)
  · have HF := Lib.hid (show localL (sb s) = false by rw [hlv, hd, he]; simp)
    rw [he] at HT
    clear hd he hlv
    go_enter Tryd.func55, Tryd.ntmps55
    go_wp2_with fail
    refine HD.mono ?_
    rintro e w' ⟨rfl, rfl⟩
    go_wp2_with fail
    refine HT.mono ?_
    rintro e w1 ⟨t, ht, rfl, hb1⟩
    have hne := str_eq_no (show ¬ t = s by simpa using ht)
    have hne2 : (t.toList != s.toList) = true := by rw [bne, hne]; rfl
    clear ht
    go_wp2
    go_ret
    exact ⟨by rw [HF.out]; rfl, hb1⟩
  have HF := Lib.hid (show localL (sb s) = (sb s).all locI by rw [hlv, hd, he]; simp)
  rw [he] at HT
  clear hd he hlv
  go_enter Tryd.func55, Tryd.ntmps55
  go_wp2_with fail
  refine HD.mono ?_
  rintro e w' ⟨rfl, rfl⟩
  go_wp2_with fail
  refine HT.mono ?_
  rintro e w1 ⟨t, ht, rfl, hb1⟩
  obtain rfl : t = s := by simpa using ht
  have hne := str_eq_yes (rfl : t = t)
  have hne2 : (t.toList != t.toList) = false := by rw [bne, hne]; rfl
  clear ht HT HD
  go_wp2
  go_loop [3, 24] (fun _ i => ∃ j : Nat, j ≤ t.size ∧ i = .int .i64 j ∧ ((sb t).take j).all locI = true) (fun _ i => t.size - (intOf i).toNat)
  case atStart => exact ⟨0, Nat.zero_le _, rfl, rfl⟩
  case round =>
    obtain ⟨j, hj, rfl, hall⟩ := hrel
    have H := Lib.hid hall; clear hall
    by_cases hlt : j < t.size
    · have hlj : j < (sb t).length := by have := HL.out; omega
      have hat := at0_sb t j hlt
      have HAt := Lib.hid hat; clear hat
      have c0 := (t[j]'hlt).toNat_lt
      cases hd : locI (at0 (sb t) j)
      · have HDc := Lib.hid (show locI ((t[j]'hlt).toNat : Int) = false by rw [← HAt.out]; exact hd)
        have HN := Lib.hid (show (sb t).all locI = false by rw [List.all_eq_false]; exact ⟨_, at0_mem hlj, by rw [hd]; decide⟩)
        clear hd
        go_wp2_with (go_at_call 81; refine (ofLocal_is _ _ _ (by omega) (by omega) HDc.out).mono ?_; rintro e w' ⟨rfl, rfl⟩)
        go_ret
        refine ⟨?_, hb1⟩
        rw [HF.out, HN.out]; rfl
      · have HDc := Lib.hid (show locI ((t[j]'hlt).toNat : Int) = true by rw [← HAt.out]; exact hd)
        have HDD := Lib.hid hd; clear hd
        go_wp2_with (go_at_call 81; refine (ofLocal_is _ _ _ (by omega) (by omega) HDc.out).mono ?_; rintro e w' ⟨rfl, rfl⟩)
        refine ⟨⟨j + 1, by omega, by go_num, ?_⟩, by simp [intOf]; omega⟩
        rw [List.take_add_one, List.getElem?_eq_getElem hlj, List.all_append, H.out, Option.toList_some, ← at0_lt hlj]
        simp [HDD.out]
    · go_wp2
      go_ret
      refine ⟨?_, hb1⟩
      have h := H.out
      rw [List.take_of_length_le (by have := HL.out; omega)] at h
      rw [HF.out, h]; rfl
theorem local_is (s : ByteArray) (b : Bool) (w : World) (hm : MaxC w) (hs : s.size ≤ 1000000) (h : localL (sb s) = b) :
    Calls Tryd.prog 55 #[.string s] w fun e w' => e = .returned (.bool b) ∧ Below w.heap.size w w' := by rw [← h]; exact local_any s w hm hs
theorem has_lib (l : List UInt8) (c : UInt8) : decide (0 ≤ Lib.indexByte l c) = (l.map fun c => (c.toNat : Int)).contains (c.toNat : Int) := by
  induction l with
  | nil => rfl
  | cons b r ih =>
    have hge := Lib.indexByte_ge r c
    rw [List.map_cons, List.contains_cons, ← ih, Lib.indexByte, beq_num b c]
    have e : ((c.toNat : Int) == (b.toNat : Int)) = ((b.toNat : Int) == (c.toNat : Int)) := Bool.beq_comm
    rw [e]
    cases ((b.toNat : Int) == (c.toNat : Int))
    · by_cases h : Lib.indexByte r c = -1
      · simp [h]
      · have h0 : 0 ≤ Lib.indexByte r c := by omega
        have h1 : 0 ≤ Lib.indexByte r c + 1 := by omega
        simp [h, h0, h1]
    · simp
theorem has_any (s : ByteArray) (c : UInt8) (b : Bool) (w : World) (h : (sb s).contains (c.toNat : Int) = b) :
    Calls Tryd.prog 67 #[.string s, .string ⟨#[c]⟩] w fun e w' => e = .returned (.bool b) ∧ w = w' := by
  refine (Tryd.strings_Contains_one s c w).mono ?_
  rintro e w' ⟨rfl, rfl⟩
  exact ⟨by rw [← h, has_lib]; rfl, rfl⟩
set_option maxHeartbeats 400000 in
theorem domain_any (s : ByteArray) (w : World) (hm : MaxC w) (hs : s.size ≤ 1000000) :
    Calls Tryd.prog 56 #[.string s] w fun e w' => e = .returned (.bool (domainL (sb s))) ∧ Below w.heap.size w w' := by
  have hd := domain_server (sb s)
  cases h1 : serverL (sb s)
  · have HF := Lib.hid (show domainL (sb s) = false by rw [← hd, h1]; rfl)
    have HS := server_is s false w hm hs h1
    clear hd h1
    go_enter Tryd.func56, Tryd.ntmps56
    go_wp2_with fail
    refine HS.mono ?_
    rintro e w1 ⟨rfl, hb1⟩
    go_wp2
    go_ret
    exact ⟨by rw [HF.out]; rfl, hb1⟩
  have HS := server_is s true w hm hs h1
  cases h2 : (sb s).contains 46
  · have HF := Lib.hid (show domainL (sb s) = false by rw [← hd, h2]; simp)
    have H2 := fun w' => has_any s 46 false w' h2
    clear hd h1 h2
    go_enter Tryd.func56, Tryd.ntmps56
    go_wp2_with fail
    refine HS.mono ?_
    rintro e w1 ⟨rfl, hb1⟩
    go_wp2_with fail
    refine (H2 _).mono ?_
    rintro e w' ⟨rfl, rfl⟩
    go_wp2
    go_ret
    exact ⟨by rw [HF.out]; rfl, hb1⟩
  have H2 := fun w' => has_any s 46 true w' h2
  cases h3 : (sb s).contains 58
  · have HF := Lib.hid (show domainL (sb s) = true by rw [← hd, h1, h2, h3]; rfl)
    have H3 := fun w' => has_any s 58 false w' h3
    clear hd h1 h2 h3
    go_enter Tryd.func56, Tryd.ntmps56
    go_wp2_with fail
    refine HS.mono ?_
    rintro e w1 ⟨rfl, hb1⟩
    go_wp2_with fail
    refine (H2 _).mono ?_
    rintro e w' ⟨rfl, rfl⟩
    go_wp2_with fail
    refine (H3 _).mono ?_
    rintro e w' ⟨rfl, rfl⟩
    go_wp2
    go_ret
    exact ⟨by rw [HF.out]; rfl, hb1⟩
  · have HF := Lib.hid (show domainL (sb s) = false by rw [← hd, h3]; simp)
    have H3 := fun w' => has_any s 58 true w' h3
    clear hd h1 h2 h3
    go_enter Tryd.func56, Tryd.ntmps56
    go_wp2_with fail
    refine HS.mono ?_
    rintro e w1 ⟨rfl, hb1⟩
    go_wp2_with fail
    refine (H2 _).mono ?_
    rintro e w' ⟨rfl, rfl⟩
    go_wp2_with fail
    refine (H3 _).mono ?_
    rintro e w' ⟨rfl, rfl⟩
    go_wp2
    go_ret
    exact ⟨by rw [HF.out]; rfl, hb1⟩
theorem domain_is (s : ByteArray) (b : Bool) (w : World) (hm : MaxC w) (hs : s.size ≤ 1000000) (h : domainL (sb s) = b) :
    Calls Tryd.prog 56 #[.string s] w fun e w' => e = .returned (.bool b) ∧ Below w.heap.size w w' := by rw [← h]; exact domain_any s w hm hs
end Go.Proofs.YtibkkdbjmcongaaDoor
