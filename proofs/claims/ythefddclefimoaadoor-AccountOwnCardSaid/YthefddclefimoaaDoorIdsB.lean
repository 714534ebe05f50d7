--@optional
/- Layer 5 (ids): servers' names, users', rooms'. -/
import Derived.Test.YthefddclefimoaaDoorIdsA
namespace Go.Proofs.YthefddclefimoaaDoor
open Go.RowKit
set_option linter.unusedVariables false

theorem sb_extract (s : ByteArray) (i j : Nat) : sb (s.extract i j) = ((sb s).take j).drop i := by
  rw [Lib.extract_eq]
  simp [sb, List.map_take, List.map_drop, List.drop_take]
theorem sb_tail (s : ByteArray) (i : Nat) : sb (s.extract i s.size) = (sb s).drop i := by
  rw [sb_extract, List.take_of_length_le (by rw [sb_length]; omega)]
theorem size_of_sb {a : ByteArray} {l : List Int} {n : Nat} (h : sb a = l) (hl : l.length ≤ n) : a.size ≤ n := by
  rw [← sb_length, h]; exact hl
set_option maxHeartbeats 400000 in
theorem server_any (s : ByteArray) (w : World) (hm : MaxC w) (hs : s.size ≤ 1000000) :
    Calls Tryd.prog 75 #[.string s] w fun e w' => e = .returned (.bool (serverL (sb s))) ∧ Below w.heap.size w w' := by
  have hL := sb_length s
  by_cases hc : colI (sb s) < (sb s).length
  · have HC := cut_yes s w hm hs hc
    have HD := Lib.hid (show decide ((sb s).length ≤ colI (sb s)) = false by simp; omega)
    have HL := Lib.hid hL; clear hL hc
    go_enter Tryd.func75, Tryd.ntmps75
    go_wp2_with fail
    refine HC.mono ?_
    rintro e w1 ⟨a, b, hab, rfl, hb⟩
    have sa := size_of_sb (n := 1000000) hab.1 (by have := HL.out; rw [List.length_take]; omega)
    have sb' := size_of_sb (n := 1000000) hab.2 (by have := HL.out; rw [List.length_drop]; omega)
    have HAB := Lib.hid hab; clear hab HC
    have hm1 := hm.below hb
    go_wp2_with fail
    refine (made_digit b 5 _ (by unfold maxLen; omega)).mono ?_
    rintro e w' ⟨rfl, rfl⟩
    go_wp2_with (go_at_call 89; refine (host_any a _ hm1 sa).mono ?_; rintro e w2 ⟨rfl, hb2⟩)
    · go_ret
      refine ⟨?_, hb⟩
      have h1 : (!madeI (sb b) 5 digI) = true := by assumption
      have h2 : madeI (sb b) 5 digI = false := by simpa using h1
      rw [HAB.out.2] at h2
      rw [serverL, HD.out, h2]; rfl
    · go_ret
      refine ⟨?_, below_then hb hb2⟩
      have h1 : (!madeI (sb b) 5 digI) = false := by assumption
      have h2 : madeI (sb b) 5 digI = true := by simpa using h1
      rw [HAB.out.2] at h2
      rw [serverL, HD.out, h2, ← HAB.out.1]; rfl
  · have HC := cut_no s w hm hs hc
    have HD := Lib.hid (show decide ((sb s).length ≤ colI (sb s)) = true by simp; omega)
    have HL := Lib.hid hL; clear hL hc
    go_enter Tryd.func75, Tryd.ntmps75
    go_wp2_with fail
    refine HC.mono ?_
    rintro e w1 ⟨a, b, hab, rfl, hb⟩
    have sa := size_of_sb (n := 1000000) hab.1 (by have := HL.out; rw [List.length_take]; omega)
    have HAB := Lib.hid hab; clear hab HC
    have hm1 := hm.below hb
    go_wp2_with (go_at_call 89; refine (host_any a _ hm1 sa).mono ?_; rintro e w2 ⟨rfl, hb2⟩)
    go_ret
    refine ⟨?_, below_then hb hb2⟩
    rw [serverL, HD.out, ← HAB.out.1]; rfl
theorem head_at (l : List Int) (h : 0 < l.length) : l.head? = some (at0 l 0) := by
  cases l with
  | nil => simp at h
  | cons x l => rfl
set_option maxHeartbeats 400000 in
theorem named_user_any (s : ByteArray) (w : World) (hm : MaxC w) (hs : s.size ≤ 1000000) :
    Calls Tryd.prog 49 #[.string s, .int .u8 64, .int .i64 200, .func (.func 50) #[] #[]] w fun e w' => e = .returned (.bool (userL (sb s))) ∧ Below w.heap.size w w' := by
  have hL := sb_length s
  by_cases h1 : 255 < s.size
  · have HF := Lib.hid (show userL (sb s) = false by rw [userL, namedL, decide_eq_false (by omega)]; rfl)
    go_enter Tryd.func49, Tryd.ntmps49
    go_wp2
    go_ret
    exact ⟨by rw [HF.out]; rfl, Below.refl _ _⟩
  by_cases h2 : s.size = 0
  · have HF := Lib.hid (show userL (sb s) = false by rw [userL, namedL, List.eq_nil_of_length_eq_zero (by omega : (sb s).length = 0)]; rfl)
    have hb : ((s.size : Int) == 0) = true := by rw [h2]; rfl
    clear h2
    go_enter Tryd.func49, Tryd.ntmps49
    go_wp2
    go_ret
    exact ⟨by rw [HF.out]; rfl, Below.refl _ _⟩
  have h2' : 0 < s.size := by omega
  have hat := at0_sb s 0 h2'
  have hh := head_at (sb s) (by omega)
  have HL := Lib.hid hL; clear hL
  have hb : ((s.size : Int) == 0) = false := by rw [beq_eq_false_iff_ne]; omega
  have HA := Lib.hid hat; clear hat
  have HH := Lib.hid hh; clear hh
  by_cases h3 : at0 (sb s) 0 = 64
  · have h4 := h3
    rw [HA.out] at h4
    have hn : (((s[0]'h2').toNat : Int) != 64) = false := by simpa using h4
    have h1' : s.size ≤ 255 := by omega
    have h2i : (1 : Int) ≤ (s.size : Int) := by omega
    clear h4
    go_enter Tryd.func49, Tryd.ntmps49
    go_wp2_with fail
    have ht := sb_tail s 1
    have st : (s.extract 1 s.size).size ≤ 255 := size_of_sb ht (by have := HL.out; rw [List.length_drop]; omega)
    generalize s.extract 1 s.size = t at *
    have HT := Lib.hid ht; clear ht
    refine (cut_any t w hm (by omega)).mono ?_
    rintro e w1 ⟨a, b, hab, rfl, hbl⟩
    have HTL := Lib.hid (sb_length t)
    have sa := size_of_sb (n := 255) hab.1 (by have := HTL.out; rw [List.length_take]; omega)
    have sb' := size_of_sb (n := 1000000) hab.2 (by have := HTL.out; rw [List.length_drop]; omega)
    have HAB := Lib.hid hab; clear hab
    have hm1 := hm.below hbl
    have HF := Lib.hid (show userL (sb s) = (madeI (sb a) 200 userI && serverL (sb b)) by
      rw [userL, namedL, HH.out, h3, ← HT.out, decide_eq_true (show (sb s).length ≤ 255 by have := HL.out; omega), HAB.out.1, HAB.out.2]; rfl)
    go_wp2_with (first | (go_at_call 74; refine (made_user a 200 _ (by unfold maxLen; omega)).mono ?_; rintro e w' ⟨rfl, rfl⟩) | (go_at_call 75; refine (server_any b _ hm1 sb').mono ?_; rintro e w2 ⟨rfl, hb2⟩))
    · go_ret
      refine ⟨?_, below_then hbl hb2⟩
      have h5 : madeI (sb a) 200 userI = true := by assumption
      rw [HF.out, h5]; rfl
    · go_ret
      refine ⟨?_, hbl⟩
      have h5 : madeI (sb a) 200 userI = false := by simp only [*]
      rw [HF.out, h5]; rfl
  · have HF := Lib.hid (show userL (sb s) = false by
      have : ((some (at0 (sb s) 0) : Option Int) == some 64) = false := by rw [beq_eq_false_iff_ne]; simpa using h3
      rw [userL, namedL, HH.out, this]; simp)
    have h4 := h3
    rw [HA.out] at h4
    have hn : (((s[0]'h2').toNat : Int) != 64) = true := by simpa using h4
    go_enter Tryd.func49, Tryd.ntmps49
    go_wp2
    go_ret
    exact ⟨by rw [HF.out]; rfl, Below.refl _ _⟩
set_option maxHeartbeats 400000 in
theorem user_any (s : ByteArray) (w : World) (hm : MaxC w) (hs : s.size ≤ 1000000) :
    Calls Tryd.prog 29 #[.string s] w fun e w' => e = .returned (.bool (userL (sb s))) ∧ Below w.heap.size w w' := by
  go_enter Tryd.func29, Tryd.ntmps29
  go_wp2_with (go_at_call 49; refine (named_user_any s _ hm hs).mono ?_; rintro e w2 ⟨rfl, hb2⟩)
  go_ret
  exact ⟨rfl, hb2⟩
end Go.Proofs.YthefddclefimoaaDoor
