--@optional
/- Layer 5 (ids): what the program's small functions do, and which texts are names. -/
import Derived.Test.YthefddclefimoaaDoorIdsPure
import Derived.Test.YthefddclefimoaaDoorShelf
import Derived.Shelf.Strings.SlTrimAscii
namespace Go.Proofs.YthefddclefimoaaDoor
open Go.RowKit
set_option linter.unusedVariables false

set_option maxHeartbeats 400000 in
theorem isDigit_any (c : Int) (w : World) : Calls Tryd.prog 77 #[.int .u8 c] w fun e w' => e = .returned (.bool (digI c)) ∧ w = w' := by
  go_enter Tryd.func77, Tryd.ntmps77
  go_wp2
  all_goals go_ret
  all_goals exact ⟨by simp [digI, *]; try omega, rfl⟩
set_option maxHeartbeats 400000 in
theorem isSmall_any (c : Int) (w : World) : Calls Tryd.prog 76 #[.int .u8 c] w fun e w' => e = .returned (.bool (smlI c)) ∧ w = w' := by
  go_enter Tryd.func76, Tryd.ntmps76
  go_wp2
  all_goals go_ret
  all_goals exact ⟨by simp [smlI, *]; try omega, rfl⟩
set_option maxHeartbeats 400000 in
theorem isGreat_any (c : Int) (w : World) : Calls Tryd.prog 110 #[.int .u8 c] w fun e w' => e = .returned (.bool (grtI c)) ∧ w = w' := by
  go_enter Tryd.func110, Tryd.ntmps110
  go_wp2
  all_goals go_ret
  all_goals exact ⟨by simp [grtI, *]; try omega, rfl⟩
set_option maxHeartbeats 400000 in
theorem ofHost_any (c : Int) (w : World) : Calls Tryd.prog 97 #[.int .u8 c] w fun e w' => e = .returned (.bool (hostI c)) ∧ w = w' := by
  go_enter Tryd.func97, Tryd.ntmps97
  go_wp2_with (first | (go_at_call 76; refine (isSmall_any _ _).mono ?_; rintro e w' ⟨rfl, rfl⟩) | (go_at_call 110; refine (isGreat_any _ _).mono ?_; rintro e w' ⟨rfl, rfl⟩) | (go_at_call 77; refine (isDigit_any _ _).mono ?_; rintro e w' ⟨rfl, rfl⟩))
  all_goals go_ret
  all_goals exact ⟨by simp [hostI, *], rfl⟩
theorem signs_user (c : Int) (h0 : 0 ≤ c) (h1 : c ≤ 255) : decide (0 ≤ Lib.indexByte [46, 95, 61, 47, 43, 45] c.toNat.toUInt8) = (c == 46 || c == 95 || c == 61 || c == 47 || c == 43 || c == 45) := by
  have key : ∀ n : Fin 256, decide (0 ≤ Lib.indexByte [46, 95, 61, 47, 43, 45] n.val.toUInt8) = ((n.val : Int) == 46 || (n.val : Int) == 95 || (n.val : Int) == 61 || (n.val : Int) == 47 || (n.val : Int) == 43 || (n.val : Int) == 45) := by decide +kernel
  have := key ⟨c.toNat, by omega⟩
  simpa only [Int.toNat_of_nonneg h0] using this
set_option maxHeartbeats 400000 in
theorem ofUser_any (c : Int) (w : World) (h0 : 0 ≤ c) (h1 : c ≤ 255) : Calls Tryd.prog 50 #[.int .u8 c] w fun e w' => e = .returned (.bool (userI c)) ∧ w = w' := by
  have hs := Lib.hid (signs_user c h0 h1)
  go_enter Tryd.func50, Tryd.ntmps50
  go_wp2_with (first | (go_at_call 76; refine (isSmall_any _ _).mono ?_; rintro e w' ⟨rfl, rfl⟩) | (go_at_call 77; refine (isDigit_any _ _).mono ?_; rintro e w' ⟨rfl, rfl⟩) | (go_at_call 78; refine (Tryd.strings_IndexByte ⟨#[46, 95, 61, 47, 43, 45]⟩ _ _).mono ?_; rintro e w' ⟨rfl, hw⟩; subst hw))
  all_goals go_ret
  all_goals refine ⟨?_, rfl⟩
  · simp [userI, *]
  · simp [userI, *]
  · have h := hs.out
    simp only [Bool.or_assoc] at h
    have : (smlI c || digI c) = false := by simp [*]
    simp only [userI, Bool.or_assoc]
    rw [← h]
    simp [*]

/-- What a kind of bytes is, as the program's functions of it tell. -/
def Kind (g : Nat) (K : Int → Bool) : Prop := ∀ (c : Int) (w : World), 0 ≤ c → c ≤ 255 → Calls Tryd.prog g #[.int .u8 c] w fun e w' => e = .returned (.bool (K c)) ∧ w = w'
theorem kind_digit : Kind 77 digI := fun c w _ _ => isDigit_any c w
theorem kind_host : Kind 97 hostI := fun c w _ _ => ofHost_any c w
theorem kind_user : Kind 50 userI := fun c w h0 h1 => ofUser_any c w h0 h1
theorem made_no (l : List Int) (most : Int) (K : Int → Bool) (h : l.length < 1 ∨ most < (l.length : Int)) : madeI l most K = false := by
  unfold madeI
  rcases h with h | h
  · rw [decide_eq_false (by omega)]; rfl
  · rw [decide_eq_false (p := (l.length : Int) ≤ most) (by omega)]; simp
theorem made_yes (l : List Int) (most : Int) (K : Int → Bool) (h1 : 1 ≤ l.length) (h2 : (l.length : Int) ≤ most) : madeI l most K = l.all K := by
  unfold madeI
  rw [decide_eq_true h1, decide_eq_true h2]; rfl
set_option maxHeartbeats 400000 in
theorem made_digit (s : ByteArray) (most : Int) (w : World) (hs : s.size ≤ maxLen) :
    Calls Tryd.prog 74 #[.string s, .int .i64 most, .func (.func 77) #[] #[]] w fun e w' => e = .returned (.bool (madeI (sb s) most digI)) ∧ w = w' := by
  have hl := sb_length s
  unfold maxLen at hs
  have HL := Lib.hid hl; clear hl
  by_cases h1 : (s.size : Int) < 1
  · have HM := Lib.hid (made_no (sb s) most digI (by have := HL.out; omega))
    go_enter Tryd.func74, Tryd.ntmps74
    go_wp2
    go_ret
    exact ⟨by rw [HM.out]; rfl, rfl⟩
  by_cases h2 : most < (s.size : Int)
  · have HM := Lib.hid (made_no (sb s) most digI (by have := HL.out; omega))
    go_enter Tryd.func74, Tryd.ntmps74
    go_wp2
    go_ret
    exact ⟨by rw [HM.out]; rfl, rfl⟩
  have HM := Lib.hid (made_yes (sb s) most digI (by have := HL.out; omega) (by have := HL.out; omega))
  go_enter Tryd.func74, Tryd.ntmps74
  go_wp2
  go_loop [7, 19] (fun _ i => ∃ k : Nat, k ≤ s.size ∧ i = .int .i64 k ∧ ((sb s).take k).all digI = true) (fun _ i => s.size - (intOf i).toNat)
  case atStart => exact ⟨0, Nat.zero_le _, rfl, rfl⟩
  case round =>
    obtain ⟨k, hk, rfl, hall⟩ := hrel
    have H := Lib.hid hall; clear hall
    by_cases hlt : k < s.size
    · have hat := at0_sb s k hlt
      have HA := Lib.hid hat; clear hat
      have hlk : k < (sb s).length := by have := HL.out; omega
      go_wp2_with fail
      have hb := (s[k]'hlt).toNat_lt
      refine (kind_digit _ _ (by omega) (by omega)).mono ?_
      rintro e w' ⟨rfl, rfl⟩
      rw [← HA.out]
      go_wp2
      · go_ret
        refine ⟨?_, rfl⟩
        have : (sb s).all digI = false := by
          rw [List.all_eq_false]
          exact ⟨_, at0_mem hlk, by simpa using ‹(!digI (at0 (sb s) k)) = true›⟩
        rw [HM.out, this]; rfl
      · go_round
        case rel =>
          refine ⟨k + 1, by omega, by go_num, ?_⟩
          rw [List.take_add_one, List.getElem?_eq_getElem hlk, List.all_append, H.out, Option.toList_some, ← at0_lt hlk]
          have h9 : (!digI (at0 (sb s) k)) = false := by assumption
          simpa using h9
        case measure => simp [intOf]; omega
    · go_wp2
      go_ret
      refine ⟨?_, rfl⟩
      have h := H.out
      rw [List.take_of_length_le (by have := HL.out; omega)] at h
      rw [HM.out, h]; rfl

set_option maxHeartbeats 400000 in
theorem made_host (s : ByteArray) (most : Int) (w : World) (hs : s.size ≤ maxLen) :
    Calls Tryd.prog 74 #[.string s, .int .i64 most, .func (.func 97) #[] #[]] w fun e w' => e = .returned (.bool (madeI (sb s) most hostI)) ∧ w = w' := by
  have hl := sb_length s
  unfold maxLen at hs
  have HL := Lib.hid hl; clear hl
  by_cases h1 : (s.size : Int) < 1
  · have HM := Lib.hid (made_no (sb s) most hostI (by have := HL.out; omega))
    go_enter Tryd.func74, Tryd.ntmps74
    go_wp2
    go_ret
    exact ⟨by rw [HM.out]; rfl, rfl⟩
  by_cases h2 : most < (s.size : Int)
  · have HM := Lib.hid (made_no (sb s) most hostI (by have := HL.out; omega))
    go_enter Tryd.func74, Tryd.ntmps74
    go_wp2
    go_ret
    exact ⟨by rw [HM.out]; rfl, rfl⟩
  have HM := Lib.hid (made_yes (sb s) most hostI (by have := HL.out; omega) (by have := HL.out; omega))
  go_enter Tryd.func74, Tryd.ntmps74
  go_wp2
  go_loop [7, 19] (fun _ i => ∃ k : Nat, k ≤ s.size ∧ i = .int .i64 k ∧ ((sb s).take k).all hostI = true) (fun _ i => s.size - (intOf i).toNat)
  case atStart => exact ⟨0, Nat.zero_le _, rfl, rfl⟩
  case round =>
    obtain ⟨k, hk, rfl, hall⟩ := hrel
    have H := Lib.hid hall; clear hall
    by_cases hlt : k < s.size
    · have hat := at0_sb s k hlt
      have HA := Lib.hid hat; clear hat
      have hlk : k < (sb s).length := by have := HL.out; omega
      go_wp2_with fail
      have hb := (s[k]'hlt).toNat_lt
      refine (kind_host _ _ (by omega) (by omega)).mono ?_
      rintro e w' ⟨rfl, rfl⟩
      rw [← HA.out]
      go_wp2
      · go_ret
        refine ⟨?_, rfl⟩
        have : (sb s).all hostI = false := by
          rw [List.all_eq_false]
          exact ⟨_, at0_mem hlk, by simpa using ‹(!hostI (at0 (sb s) k)) = true›⟩
        rw [HM.out, this]; rfl
      · go_round
        case rel =>
          refine ⟨k + 1, by omega, by go_num, ?_⟩
          rw [List.take_add_one, List.getElem?_eq_getElem hlk, List.all_append, H.out, Option.toList_some, ← at0_lt hlk]
          have h9 : (!hostI (at0 (sb s) k)) = false := by assumption
          simpa using h9
        case measure => simp [intOf]; omega
    · go_wp2
      go_ret
      refine ⟨?_, rfl⟩
      have h := H.out
      rw [List.take_of_length_le (by have := HL.out; omega)] at h
      rw [HM.out, h]; rfl

set_option maxHeartbeats 400000 in
theorem made_user (s : ByteArray) (most : Int) (w : World) (hs : s.size ≤ maxLen) :
    Calls Tryd.prog 74 #[.string s, .int .i64 most, .func (.func 50) #[] #[]] w fun e w' => e = .returned (.bool (madeI (sb s) most userI)) ∧ w = w' := by
  have hl := sb_length s
  unfold maxLen at hs
  have HL := Lib.hid hl; clear hl
  by_cases h1 : (s.size : Int) < 1
  · have HM := Lib.hid (made_no (sb s) most userI (by have := HL.out; omega))
    go_enter Tryd.func74, Tryd.ntmps74
    go_wp2
    go_ret
    exact ⟨by rw [HM.out]; rfl, rfl⟩
  by_cases h2 : most < (s.size : Int)
  · have HM := Lib.hid (made_no (sb s) most userI (by have := HL.out; omega))
    go_enter Tryd.func74, Tryd.ntmps74
    go_wp2
    go_ret
    exact ⟨by rw [HM.out]; rfl, rfl⟩
  have HM := Lib.hid (made_yes (sb s) most userI (by have := HL.out; omega) (by have := HL.out; omega))
  go_enter Tryd.func74, Tryd.ntmps74
  go_wp2
  go_loop [7, 19] (fun _ i => ∃ k : Nat, k ≤ s.size ∧ i = .int .i64 k ∧ ((sb s).take k).all userI = true) (fun _ i => s.size - (intOf i).toNat)
  case atStart => exact ⟨0, Nat.zero_le _, rfl, rfl⟩
  case round =>
    obtain ⟨k, hk, rfl, hall⟩ := hrel
    have H := Lib.hid hall; clear hall
    by_cases hlt : k < s.size
    · have hat := at0_sb s k hlt
      have HA := Lib.hid hat; clear hat
      have hlk : k < (sb s).length := by have := HL.out; omega
      go_wp2_with fail
      have hb := (s[k]'hlt).toNat_lt
      refine (kind_user _ _ (by omega) (by omega)).mono ?_
      rintro e w' ⟨rfl, rfl⟩
      rw [← HA.out]
      go_wp2
      · go_ret
        refine ⟨?_, rfl⟩
        have : (sb s).all userI = false := by
          rw [List.all_eq_false]
          exact ⟨_, at0_mem hlk, by simpa using ‹(!userI (at0 (sb s) k)) = true›⟩
        rw [HM.out, this]; rfl
      · go_round
        case rel =>
          refine ⟨k + 1, by omega, by go_num, ?_⟩
          rw [List.take_add_one, List.getElem?_eq_getElem hlk, List.all_append, H.out, Option.toList_some, ← at0_lt hlk]
          have h9 : (!userI (at0 (sb s) k)) = false := by assumption
          simpa using h9
        case measure => simp [intOf]; omega
    · go_wp2
      go_ret
      refine ⟨?_, rfl⟩
      have h := H.out
      rw [List.take_of_length_le (by have := HL.out; omega)] at h
      rw [HM.out, h]; rfl

/-- The library's variable holds some int. -/
def MaxC (w : World) : Prop := ∃ m, w.cell? ⟨0, 0, none⟩ = some (.int .i64 m)
theorem MaxC.below {w w' : World} (h : MaxC w) (hb : Below w.heap.size w w') : MaxC w' := by
  obtain ⟨m, h⟩ := h
  exact ⟨m, by rw [hb.cell (World.block_lt_of_cell? w _ h)]; exact h⟩
theorem cut_any (s : ByteArray) (w : World) (hm : MaxC w) (hs : s.size ≤ 1000000) :
    Calls Tryd.prog 73 #[.string s, .string ⟨#[58]⟩] w fun e w' => ∃ a b : ByteArray, (sb a = (sb s).take (colI (sb s)) ∧ sb b = (sb s).drop (colI (sb s) + 1)) ∧ e = .returned (.tuple #[.string a, .string b, .bool (decide (colI (sb s) < (sb s).length))]) ∧ Below w.heap.size w w' := by
  obtain ⟨m, hm⟩ := hm
  obtain ⟨h1, h2, h3⟩ := cut_col s
  refine (Tryd.strings_Cut s ⟨#[58]⟩ m w (by omega) hm).mono ?_
  rintro e w' ⟨rfl, n, rfl⟩
  exact ⟨_, _, ⟨h1, h2⟩, by rw [← h3], below_drewN (Below.refl _ _) n⟩
theorem cut_yes (s : ByteArray) (w : World) (hm : MaxC w) (hs : s.size ≤ 1000000) (hc : colI (sb s) < (sb s).length) :
    Calls Tryd.prog 73 #[.string s, .string ⟨#[58]⟩] w fun e w' => ∃ a b : ByteArray, (sb a = (sb s).take (colI (sb s)) ∧ sb b = (sb s).drop (colI (sb s) + 1)) ∧ e = .returned (.tuple #[.string a, .string b, .bool true]) ∧ Below w.heap.size w w' := by
  have := cut_any s w hm hs
  rwa [decide_eq_true hc] at this
theorem cut_no (s : ByteArray) (w : World) (hm : MaxC w) (hs : s.size ≤ 1000000) (hc : ¬ colI (sb s) < (sb s).length) :
    Calls Tryd.prog 73 #[.string s, .string ⟨#[58]⟩] w fun e w' => ∃ a b : ByteArray, (sb a = (sb s).take (colI (sb s)) ∧ sb b = (sb s).drop (colI (sb s) + 1)) ∧ e = .returned (.tuple #[.string a, .string b, .bool false]) ∧ Below w.heap.size w w' := by
  have := cut_any s w hm hs
  rwa [decide_eq_false hc] at this
theorem dots_any (s : ByteArray) (w : World) (hm : MaxC w) (hs : s.size ≤ 1000000) (b : Bool) (hb : dotsI (sb s) = b) :
    Calls Tryd.prog 98 #[.string s, .string ⟨#[46, 46]⟩] w fun e w' => e = .returned (.bool b) ∧ w = w' := by
  obtain ⟨m, hm⟩ := hm
  refine (Tryd.strings_Contains s ⟨#[46, 46]⟩ m w (by omega) hm).mono ?_
  rintro e w' ⟨rfl, rfl⟩
  exact ⟨by rw [← hb, dots_lib]; rfl, rfl⟩
theorem trim_any (s : ByteArray) (w : World) (hs : s.size ≤ 1000000) :
    Calls Tryd.prog 99 #[.string s, .string ⟨#[46, 45]⟩] w fun e w' => ∃ t : ByteArray, (t = s ↔ edgesI (sb s) = true) ∧ e = .returned (.string t) ∧ Below w.heap.size w w' := by
  refine (Any.strings_Trim_laid Tryd.lays160 (by kernel_rfl) s ⟨#[46, 45]⟩ w (by omega) (by decide) (ascii_of_all (by decide))).mono ?_
  rintro e w' ⟨rfl, hb⟩
  refine ⟨_, ?_, rfl, hb⟩
  rw [sb, ← trimS_edges]
  constructor
  · intro h
    have := congrArg (fun t : ByteArray => t.data.toList) h
    simpa using this
  · intro h
    show (⟨(Lib.trimS s.data.toList [46, 45]).toArray⟩ : ByteArray) = s
    rw [h]
set_option maxHeartbeats 400000 in
theorem host_any (s : ByteArray) (w : World) (hm : MaxC w) (hs : s.size ≤ 1000000) :
    Calls Tryd.prog 89 #[.string s] w fun e w' => e = .returned (.bool (hostL (sb s))) ∧ Below w.heap.size w w' := by
  have hs' : s.size ≤ maxLen := by unfold maxLen; omega
  have HM := made_host s 230
  cases h1 : madeI (sb s) 230 hostI
  · have HF := Lib.hid (show hostL (sb s) = false by rw [hostL, h1]; rfl)
    rw [h1] at HM
    clear h1
    go_enter Tryd.func89, Tryd.ntmps89
    go_wp2_with fail
    refine (HM _ hs').mono ?_
    rintro e w' ⟨rfl, rfl⟩
    go_wp2
    go_ret
    exact ⟨by rw [HF.out]; rfl, Below.refl _ _⟩
  rw [h1] at HM
  cases h2 : dotsI (sb s)
  · have HD := dots_any s w hm hs false h2
    have HF := Lib.hid (show hostL (sb s) = edgesI (sb s) by rw [hostL, h1, h2]; rfl)
    have HT := trim_any s w hs
    clear h1 h2
    go_enter Tryd.func89, Tryd.ntmps89
    go_wp2_with fail
    refine (HM _ hs').mono ?_
    rintro e w' ⟨rfl, rfl⟩
    go_wp2_with fail
    refine HD.mono ?_
    rintro e w' ⟨rfl, rfl⟩
    go_wp2_with fail
    refine HT.mono ?_
    rintro e w1 ⟨t, ht, rfl, hb⟩
    go_wp2
    go_ret
    refine ⟨?_, hb⟩
    rw [HF.out]
    show Ending.returned (.bool (t.toList == s.toList)) = _
    by_cases hts : t = s
    · rw [str_eq_yes hts, ht.1 hts]
    · rw [str_eq_no hts]
      cases he : edgesI (sb s)
      · rfl
      · exact (hts (ht.2 he)).elim
  · have HD := dots_any s w hm hs true h2
    have HF := Lib.hid (show hostL (sb s) = false by rw [hostL, h1, h2]; rfl)
    clear h1 h2
    go_enter Tryd.func89, Tryd.ntmps89
    go_wp2_with fail
    refine (HM _ hs').mono ?_
    rintro e w' ⟨rfl, rfl⟩
    go_wp2_with fail
    refine HD.mono ?_
    rintro e w' ⟨rfl, rfl⟩
    go_wp2
    go_ret
    exact ⟨by rw [HF.out]; rfl, Below.refl _ _⟩
end Go.Proofs.YthefddclefimoaaDoor
