/- Lower and Printable of both packages. -/
import Derived.Test.YticeogdagnogpaaRow
namespace Go.Proofs.Yticeogdagnogpaa
open Go.RowKit
set_option linter.unusedVariables false

def lowI (x : Int) : Int := if 65 ≤ x ∧ x ≤ 90 then x + 32 else x
theorem low_bytes {l : List Int} (h : Bytes l) : Bytes (l.map lowI) := by
  intro x hx
  obtain ⟨y, hy, rfl⟩ := List.mem_map.1 hx
  have := h y hy
  unfold lowI
  split <;> omega
/-- A text with small letters. -/
def lowS (s : ByteArray) : ByteArray := strOfNums ((sb s).map lowI)
def okI (x : Int) : Bool := decide (32 ≤ x) && decide (x ≤ 126)
def printS (s : ByteArray) : Bool := (sb s).all okI

/-- The first k are small. -/
def lowTo (l : List Int) (k : Nat) : List Int := (l.take k).map lowI ++ l.drop k
theorem lowTo_length (l : List Int) (k : Nat) (hk : k ≤ l.length) : (lowTo l k).length = l.length := by simp [lowTo]; omega
theorem lowTo_zero (l : List Int) : lowTo l 0 = l := by simp [lowTo]
theorem lowTo_all (l : List Int) : lowTo l l.length = l.map lowI := by simp [lowTo]
theorem at0_lowTo (l : List Int) (k : Nat) (hk : k < l.length) : at0 (lowTo l k) k = at0 l k := by
  simp only [at0, lowTo]
  rw [List.getElem?_append_right (by simp; omega)]
  simp only [List.length_map, List.length_take, List.getElem?_drop]
  congr 2
  omega
theorem lowTo_succ (l : List Int) (k : Nat) (hk : k < l.length) : lowTo l (k + 1) = (lowTo l k).set k (lowI (at0 l k)) := by
  apply List.ext_getElem
  · rw [lowTo_length _ _ (by omega), List.length_set, lowTo_length _ _ (by omega)]
  intro i h1 h2
  rw [lowTo_length _ _ (by omega)] at h1
  rw [List.getElem_set]
  simp only [lowTo, List.getElem_append, List.length_map, List.length_take]
  by_cases hik : i = k
  · subst hik
    have a1 : i < min (i + 1) l.length := by omega
    simp [at0, hk, a1]
  · by_cases hlt : i < k
    · have a1 : i < min (k + 1) l.length := by omega
      have a2 : i < min k l.length := by omega
      simp [a1, a2, show ¬ k = i by omega]
    · have a1 : ¬ i < min (k + 1) l.length := by omega
      have a2 : ¬ i < min k l.length := by omega
      simp [a1, a2, show ¬ k = i by omega]
      congr 1
      omega
theorem lowTo_same (l : List Int) (k : Nat) (hk : k < l.length) (h : lowI (at0 l k) = at0 l k) : lowTo l (k + 1) = lowTo l k := by
  rw [lowTo_succ l k hk, h, ← at0_lowTo l k hk]
  have hl : k < (lowTo l k).length := by rw [lowTo_length _ _ (by omega)]; exact hk
  rw [at0_lt hl]
  exact List.set_getElem_self hl

set_option maxHeartbeats 1000000 in
theorem lower_any (s : ByteArray) (w : World) (hs : s.size ≤ maxLen) :
    Calls Try.prog 25 #[.string s] w fun e w' => e = .returned (.string (lowS s)) ∧ Below w.heap.size w w' := by
  have hs0 := hs
  unfold maxLen at hs
  go_enter Try.func25, Try.ntmps25
  go_wp2_with (with_reducible refine wpList_conv_sb rfl _ _ _ 5 rfl Try.underlying9 Try.underlying22 Try.underlying5 s rfl hs0 ?_; intro w1 cap hc1 hc2 hrow hbel)
  go_loopw [4, 9] (fun _ i wr => ∃ k : Nat, k ≤ s.size ∧ i = .int .i64 k ∧ BRow .u8 wr w.heap.size (lowTo (sb s) k) ∧ Below w.heap.size w wr) (fun _ i _ => s.size - (intOf i).toNat)
  case atStart => exact ⟨0, Nat.zero_le _, rfl, by rw [lowTo_zero]; exact hrow, hbel⟩
  case round =>
    obtain ⟨k, hk, rfl, hr, hb⟩ := hrel
    clear hrow hbel
    by_cases hlt : k < s.size
    · have hl : k < (sb s).length := by rw [sb_length]; exact hlt
      have hl2 : k < (lowTo (sb s) k).length := by rw [lowTo_length _ _ (by omega)]; exact hl
      have hcell := hr.cell hl2
      rw [at0_lowTo _ _ hl] at hcell
      have hfr := hr.free hl2
      obtain ⟨z0, z1⟩ := (sb_bytes s).at k
      have HR := Lib.hid hr; clear hr
      go_wp2
      · refine ⟨⟨k + 1, by omega, by go_num, ?_, hb.setCell (Nat.le_refl _) _⟩, by simp [intOf]; omega⟩
        rw [lowTo_succ _ _ hl, show lowI (at0 (sb s) k) = at0 (sb s) k + 32 from if_pos ⟨by assumption, by assumption⟩]
        exact HR.out.set hl2 _
      · refine ⟨⟨k + 1, by omega, by go_num, ?_, hb⟩, by simp [intOf]; omega⟩
        rw [lowTo_same _ _ hl (if_neg (by omega))]
        exact HR.out
      · refine ⟨⟨k + 1, by omega, by go_num, ?_, hb⟩, by simp [intOf]; omega⟩
        rw [lowTo_same _ _ hl (if_neg (by omega))]
        exact HR.out
    · have hks : k = s.size := by omega
      have hrd : RdI .u8 wr (.slice (some ⟨w.heap.size, 0, none⟩) s.size cap) ((sb s).map lowI) := by
        rw [hks, ← sb_length s, lowTo_all] at hr
        have := hr.rd (cap := cap) (by simp [sb_length]; exact hc1) hc2
        simpa [sb_length] using this
      clear hks hr
      have hcv := run_conv_bs (P := Try.prog) 22 9 5 Try.underlying22 Try.underlying9 Try.underlying5 _ _ hrd
      go_wp2
      go_ret
      exact ⟨rfl, hb⟩
set_option maxHeartbeats 1000000 in
theorem ref_lower_any (s : ByteArray) (w : World) (hs : s.size ≤ maxLen) :
    Calls Try.prog 26 #[.string s] w fun e w' => e = .returned (.string (lowS s)) ∧ Below w.heap.size w w' := by
  have hs0 := hs
  unfold maxLen at hs
  go_enter Try.func26, Try.ntmps26
  go_wp2_with (with_reducible refine wpList_conv_sb rfl _ _ _ 5 rfl Try.underlying9 Try.underlying22 Try.underlying5 s rfl hs0 ?_; intro w1 cap hc1 hc2 hrow hbel)
  go_loopw [4] (fun i wr => ∃ k : Nat, k ≤ s.size ∧ i = .int .i64 k ∧ BRow .u8 wr w.heap.size (lowTo (sb s) k) ∧ Below w.heap.size w wr) (fun i _ => s.size - (intOf i).toNat)
  case atStart => exact ⟨0, Nat.zero_le _, rfl, by rw [lowTo_zero]; exact hrow, hbel⟩
  case round =>
    obtain ⟨k, hk, rfl, hr, hb⟩ := hrel
    clear hrow hbel
    by_cases hlt : k < s.size
    · have hl : k < (sb s).length := by rw [sb_length]; exact hlt
      have hl2 : k < (lowTo (sb s) k).length := by rw [lowTo_length _ _ (by omega)]; exact hl
      have hcell := hr.cell hl2
      rw [at0_lowTo _ _ hl] at hcell
      have hfr := hr.free hl2
      obtain ⟨z0, z1⟩ := (sb_bytes s).at k
      have HR := Lib.hid hr; clear hr
      go_wp2
      · refine ⟨⟨k + 1, by omega, by go_num, ?_, hb.setCell (Nat.le_refl _) _⟩, by simp [intOf]; omega⟩
        rw [lowTo_succ _ _ hl, show lowI (at0 (sb s) k) = at0 (sb s) k + 32 from if_pos ⟨by assumption, by assumption⟩]
        exact HR.out.set hl2 _
      · refine ⟨⟨k + 1, by omega, by go_num, ?_, hb⟩, by simp [intOf]; omega⟩
        rw [lowTo_same _ _ hl (if_neg (by omega))]
        exact HR.out
      · refine ⟨⟨k + 1, by omega, by go_num, ?_, hb⟩, by simp [intOf]; omega⟩
        rw [lowTo_same _ _ hl (if_neg (by omega))]
        exact HR.out
    · have hks : k = s.size := by omega
      have hrd : RdI .u8 wr (.slice (some ⟨w.heap.size, 0, none⟩) s.size cap) ((sb s).map lowI) := by
        rw [hks, ← sb_length s, lowTo_all] at hr
        have := hr.rd (cap := cap) (by simp [sb_length]; exact hc1) hc2
        simpa [sb_length] using this
      clear hks hr
      have hcv := run_conv_bs (P := Try.prog) 22 9 5 Try.underlying22 Try.underlying9 Try.underlying5 _ _ hrd
      go_wp2
      go_ret
      exact ⟨rfl, hb⟩
set_option maxHeartbeats 400000 in
theorem printable_any (s : ByteArray) (w : World) (hs : s.size ≤ maxLen) :
    Calls Try.prog 27 #[.string s] w fun e w' => e = .returned (.bool (printS s)) ∧ w' = w := by
  unfold maxLen at hs
  go_enter Try.func27, Try.ntmps27
  go_wp2
  go_loop [3, 6] (fun _ i => ∃ k : Nat, k ≤ s.size ∧ i = .int .i64 k ∧ ((sb s).take k).all okI = true) (fun _ i => s.size - (intOf i).toNat)
  case atStart => exact ⟨0, Nat.zero_le _, rfl, rfl⟩
  case round =>
    obtain ⟨k, hk, rfl, hall⟩ := hrel
    have H := Lib.hid hall; clear hall
    by_cases hlt : k < s.size
    · have hat := at0_sb s k hlt
      have HA := Lib.hid hat; clear hat
      have hl : k < (sb s).length := by rw [sb_length]; exact hlt
      go_wp2
      · go_ret
        refine ⟨?_, rfl⟩
        have : printS s = false := by
          rw [printS, List.all_eq_false]
          exact ⟨_, at0_mem hl, by rw [HA.out]; simp [okI]; omega⟩
        rw [this]; rfl
      · go_round
        case rel =>
          refine ⟨k + 1, by omega, by go_num, ?_⟩
          rw [List.take_add_one, List.getElem?_eq_getElem hl, List.all_append, H.out, ← at0_lt hl, HA.out]
          simp [okI]; omega
        case measure => simp [intOf]; omega
      · go_ret
        refine ⟨?_, rfl⟩
        have : printS s = false := by
          rw [printS, List.all_eq_false]
          exact ⟨_, at0_mem hl, by rw [HA.out]; simp [okI]; omega⟩
        rw [this]; rfl
    · go_wp2
      go_ret
      refine ⟨?_, rfl⟩
      have h := H.out
      rw [List.take_of_length_le (by rw [sb_length]; omega)] at h
      rw [printS, h]; rfl
set_option maxHeartbeats 400000 in
theorem ref_printable_any (s : ByteArray) (w : World) (hs : s.size ≤ maxLen) :
    Calls Try.prog 28 #[.string s] w fun e w' => e = .returned (.bool (printS s)) ∧ w' = w := by
  unfold maxLen at hs
  go_enter Try.func28, Try.ntmps28
  go_wp2
  go_loop [3] (fun i => ∃ k : Nat, k ≤ s.size ∧ i = .int .i64 k ∧ ((sb s).take k).all okI = true) (fun i => s.size - (intOf i).toNat)
  case atStart => exact ⟨0, Nat.zero_le _, rfl, rfl⟩
  case round =>
    obtain ⟨k, hk, rfl, hall⟩ := hrel
    have H := Lib.hid hall; clear hall
    by_cases hlt : k < s.size
    · have hat := at0_sb s k hlt
      have HA := Lib.hid hat; clear hat
      have hl : k < (sb s).length := by rw [sb_length]; exact hlt
      go_wp2
      · go_ret
        refine ⟨?_, rfl⟩
        have : printS s = false := by
          rw [printS, List.all_eq_false]
          exact ⟨_, at0_mem hl, by rw [HA.out]; simp [okI]; omega⟩
        rw [this]; rfl
      · go_round
        case rel =>
          refine ⟨k + 1, by omega, by go_num, ?_⟩
          rw [List.take_add_one, List.getElem?_eq_getElem hl, List.all_append, H.out, ← at0_lt hl, HA.out]
          simp [okI]; omega
        case measure => simp [intOf]; omega
      · go_ret
        refine ⟨?_, rfl⟩
        have : printS s = false := by
          rw [printS, List.all_eq_false]
          exact ⟨_, at0_mem hl, by rw [HA.out]; simp [okI]; omega⟩
        rw [this]; rfl
    · go_wp2
      go_ret
      refine ⟨?_, rfl⟩
      have h := H.out
      rw [List.take_of_length_le (by rw [sb_length]; omega)] at h
      rw [printS, h]; rfl
end Go.Proofs.Yticeogdagnogpaa
