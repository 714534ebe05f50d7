/- Layer 5 (ids): the reference's answers are the same. -/
import Derived.Test.YtibkkdbjmcongaaDoorIdsLawA
namespace Go.Proofs.YtibkkdbjmcongaaDoor
open Go.RowKit
set_option linter.unusedVariables false

set_option maxHeartbeats 400000 in
theorem ref_digit_any (c : Int) (w : World) : Calls Tryd.prog 43 #[.int .u8 c] w fun e w' => e = .returned (.bool (digI c)) ∧ w = w' := by
  go_enter Tryd.func43, Tryd.ntmps43
  go_wp2
  all_goals go_ret
  all_goals exact ⟨by simp [digI, *]; try omega, rfl⟩
set_option maxHeartbeats 400000 in
theorem ref_small_any (c : Int) (w : World) : Calls Tryd.prog 47 #[.int .u8 c] w fun e w' => e = .returned (.bool (smlI c)) ∧ w = w' := by
  go_enter Tryd.func47, Tryd.ntmps47
  go_wp2
  all_goals go_ret
  all_goals exact ⟨by simp [smlI, *]; try omega, rfl⟩
set_option maxHeartbeats 400000 in
theorem ref_great_any (c : Int) (w : World) : Calls Tryd.prog 49 #[.int .u8 c] w fun e w' => e = .returned (.bool (grtI c)) ∧ w = w' := by
  go_enter Tryd.func49, Tryd.ntmps49
  go_wp2
  all_goals go_ret
  all_goals exact ⟨by simp [grtI, *]; try omega, rfl⟩
/-- The place of the first colon, or -1. -/
def colV (l : List Int) : Int := if colI l < l.length then (colI l : Int) else -1
theorem findIdx_at {p : Int → Bool} {l : List Int} {k : Nat} (hk : k < l.length) (h : (l.take k).all (fun x => !p x) = true) (hp : p (at0 l k) = true) : l.findIdx p = k := by
  rw [List.findIdx_eq hk]
  refine ⟨by rw [← at0_lt hk]; exact hp, fun j hj => ?_⟩
  have hm : l[j] ∈ l.take k := List.mem_take_iff_getElem.2 ⟨j, by omega, rfl⟩
  have := List.all_eq_true.1 h _ hm
  simpa using this
set_option maxHeartbeats 400000 in
theorem ref_colon_any (s : ByteArray) (w : World) (hs : s.size ≤ maxLen) :
    Calls Tryd.prog 38 #[.string s] w fun e w' => e = .returned (.int .i64 (colV (sb s))) ∧ w = w' := by
  unfold maxLen at hs
  have HL := Lib.hid (sb_length s)
  go_enter Tryd.func38, Tryd.ntmps38
  go_wp2
  go_loop [3] (fun i => ∃ k : Nat, k ≤ s.size ∧ i = .int .i64 k ∧ ((sb s).take k).all (fun x => !(x == 58)) = true) (fun i => s.size - (intOf i).toNat)
  case atStart => exact ⟨0, Nat.zero_le _, rfl, rfl⟩
  case round =>
    obtain ⟨k, hk, rfl, hall⟩ := hrel
    have H := Lib.hid hall; clear hall
    by_cases hlt : k < s.size
    · have hlk : k < (sb s).length := by have := HL.out; omega
      have hat := at0_sb s k hlt
      have HA := Lib.hid hat; clear hat
      by_cases hc : at0 (sb s) k = 58
      · have hb : (((s[k]'hlt).toNat : Int) == 58) = true := by rw [← HA.out, hc]; rfl
        have HC := Lib.hid hc; clear hc
        go_wp2
        go_ret
        refine ⟨?_, rfl⟩
        have e : colI (sb s) = k := findIdx_at hlk H.out (by rw [HC.out]; rfl)
        rw [colV, e, if_pos hlk]; rfl
      · have hb : (((s[k]'hlt).toNat : Int) == 58) = false := by rw [← HA.out, beq_eq_false_iff_ne]; exact hc
        have HC := Lib.hid hc; clear hc
        go_wp2
        go_round
        case rel =>
          refine ⟨k + 1, by omega, by go_num, ?_⟩
          rw [List.take_add_one, List.getElem?_eq_getElem hlk, List.all_append, H.out, Option.toList_some, ← at0_lt hlk]
          simp [HC.out]
        case measure => simp [intOf]; omega
    · go_wp2
      go_ret
      refine ⟨?_, rfl⟩
      have h := H.out
      rw [List.take_of_length_le (by have := HL.out; omega)] at h
      have e : ¬ colI (sb s) < (sb s).length := by
        have : colI (sb s) = (sb s).length := by
          unfold colI
          rw [List.findIdx_eq_length]
          intro x hx
          simpa using List.all_eq_true.1 h x hx
        omega
      rw [colV, if_neg e]; rfl
end Go.Proofs.YtibkkdbjmcongaaDoor
