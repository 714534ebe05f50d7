/- Lower and Printable of both packages. -/
--@optional
import Derived.Test.YtibkkdbjmcongaaDoorRow
namespace Go.Proofs.YtibkkdbjmcongaaDoor
open Go.RowKit
set_option linter.unusedVariables false

def lowI (x : Int) : Int := if 65 ≤ x ∧ x ≤ 90 then x + 32 else x
theorem low_bytes {l : List Int} (h : Bytes l) : Bytes (l.map lowI) := by
  intro x hx
  obtain ⟨y, hy, rfl⟩ := List.mem_map.1 hx
  have := h y hy
  unfold lowI
  split <;> omega
/-- A text with small letters. -/
def lowS (s : ByteArray) : ByteArray := strOfNums ((sb s).map lowI)
def okI (x : Int) : Bool := decide (32 ≤ x) && decide (x ≤ 126)
def printS (s : ByteArray) : Bool := (sb s).all okI

/-- The first k are small. -/
def lowTo (l : List Int) (k : Nat) : List Int := (l.take k).map lowI ++ l.drop k
theorem lowTo_length (l : List Int) (k : Nat) (hk : k ≤ l.length) : (lowTo l k).length = l.length := by simp [lowTo]; omega
theorem lowTo_zero (l : List Int) : lowTo l 0 = l := by simp [lowTo]
theorem lowTo_all (l : List Int) : lowTo l l.length = l.map lowI := by simp [lowTo]
theorem at0_lowTo (l : List Int) (k : Nat) (hk : k < l.length) : at0 (lowTo l k) k = at0 l k := by
  simp only [at0, lowTo]
  rw [List.getElem?_append_right (by simp; omega)]
  simp only [List.length_map, List.length_take, List.getElem?_drop]
  congr 2
  omega
theorem lowTo_succ (l : List Int) (k : Nat) (hk : k < l.length) : lowTo l (k + 1) = (lowTo l k).set k (lowI (at0 l k)) := by
  apply List.ext_getElem
  · rw [lowTo_length _ _ (by omega), List.length_set, lowTo_length _ _ (by omega)]
  intro i h1 h2
  rw [lowTo_length _ _ (by omega)] at h1
  rw [List.getElem_set]
  simp only [lowTo, List.getElem_append, List.length_map, List.length_take]
  by_cases hik : i = k
  · subst hik
    have a1 : i < min (i + 1) l.length := by omega
    simp [at0, hk, a1]
  · by_cases hlt : i < k
    · have a1 : i < min (k + 1) l.length := by omega
      have a2 : i < min k l.length := by omega
      simp [a1, a2, show ¬ k = i by omega]
    · have a1 : ¬ i < min (k + 1) l.length := by omega
      have a2 : ¬ i < min k l.length := by omega
      simp [a1, a2, show ¬ k = i by omega]
      congr 1
      omega
theorem lowTo_same (l : List Int) (k : Nat) (hk : k < l.length) (h : lowI (at0 l k) = at0 l k) : lowTo l (k + 1) = lowTo l k := by
  rw [lowTo_succ l k hk, h, ← at0_lowTo l k hk]
  have hl : k < (lowTo l k).length := by rw [lowTo_length _ _ (by omega)]; exact hk
  rw [at0_lt hl]
  exact List.set_getElem_self hl

set_option maxHeartbeats 1000000 in
theorem lower_any (s : ByteArray) (w : World) (hs : s.size ≤ maxLen) :
    Calls Tryd.prog 57 #[.string s] w fun e w' => e = .returned (.string (lowS s)) ∧ Below w.heap.size w w' := by
  have hs0 := hs
  unfold maxLen at hs
  go_enter Tryd.func57, Tryd.ntmps57
  go_wp2_with (with_reducible refine wpList_conv_sb rfl _ _ _ 5 rfl Tryd.underlying9 Tryd.underlying43 Tryd.underlying5 s rfl hs0 ?_; intro w1 cap hc1 hc2 hrow hbel)
  go_loopw [4, 9] (fun _ i wr => ∃ k : Nat, k ≤ s.size ∧ i = .int .i64 k ∧ BRow .u8 wr w.heap.size (lowTo (sb s) k) ∧ Below w.heap.size w wr) (fun _ i _ => s.size - (intOf i).toNat)
  case atStart => exact ⟨0, Nat.zero_le _, rfl, by rw [lowTo_zero]; exact hrow, hbel⟩
  case round =>
    obtain ⟨k, hk, rfl, hr, hb⟩ := hrel
    clear hrow hbel
    by_cases hlt : k < s.size
    · have hl : k < (sb s).length := by rw [sb_length]; exact hlt
      have hl2 : k < (lowTo (sb s) k).length := by rw [lowTo_length _ _ (by omega)]; exact hl
      have hcell := hr.cell hl2
      rw [at0_lowTo _ _ hl] at hcell
      have hfr := hr.free hl2
      obtain ⟨z0, z1⟩ := (sb_bytes s).at k
      have HR := Lib.hid hr; clear hr
      go_wp2
      · refine ⟨⟨k + 1, by omega, by go_num, ?_, hb.setCell (Nat.le_refl _) _⟩, by simp [intOf]; omega⟩
        rw [lowTo_succ _ _ hl, show lowI (at0 (sb s) k) = at0 (sb s) k + 32 from if_pos ⟨by assumption, by assumption⟩]
        exact HR.out.set hl2 _
      · refine ⟨⟨k + 1, by omega, by go_num, ?_, hb⟩, by simp [intOf]; omega⟩
        rw [lowTo_same _ _ hl (if_neg (by omega))]
        exact HR.out
      · refine ⟨⟨k + 1, by omega, by go_num, ?_, hb⟩, by simp [intOf]; omega⟩
        rw [lowTo_same _ _ hl (if_neg (by omega))]
        exact HR.out
    · have hks : k = s.size := by omega
      have hrd : RdI .u8 wr (.slice (some ⟨w.heap.size, 0, none⟩) s.size cap) ((sb s).map lowI) := by
        rw [hks, ← sb_length s, lowTo_all] at hr
        have := hr.rd (cap := cap) (by simp [sb_length]; exact hc1) hc2
        simpa [sb_length] using this
      clear hks hr
      have hcv := run_conv_bs (P := Tryd.prog) 43 9 5 Tryd.underlying43 Tryd.underlying9 Tryd.underlying5 _ _ hrd
      go_wp2
      go_ret
      exact ⟨rfl, hb⟩
set_option maxHeartbeats 1000000 in
theorem ref_lower_any (s : ByteArray) (w : World) (hs : s.size ≤ maxLen) :
    Calls Tryd.prog 35 #[.string s] w fun e w' => e = .returned (.string (lowS s)) ∧ Below w.heap.size w w' := by
  have hs0 := hs
  unfold maxLen at hs
  go_enter Tryd.func35, Tryd.ntmps35
  go_wp2_with (with_reducible refine wpList_conv_sb rfl _ _ _ 5 rfl Tryd.underlying9 Tryd.underlying43 Tryd.underlying5 s rfl hs0 ?_; intro w1 cap hc1 hc2 hrow hbel)
  go_loopw [4] (fun i wr => ∃ k : Nat, k ≤ s.size ∧ i = .int .i64 k ∧ BRow .u8 wr w.heap.size (lowTo (sb s) k) ∧ Below w.heap.size w wr) (fun i _ => s.size - (intOf i).toNat)
  case atStart => exact ⟨0, Nat.zero_le _, rfl, by rw [lowTo_zero]; exact hrow, hbel⟩
  case round =>
    obtain ⟨k, hk, rfl, hr, hb⟩ := hrel
    clear hrow hbel
    by_cases hlt : k < s.size
    · have hl : k < (sb s).length := by rw [sb_length]; exact hlt
      have hl2 : k < (lowTo (sb s) k).length := by rw [lowTo_length _ _ (by omega)]; exact hl
      have hcell := hr.cell hl2
      rw [at0_lowTo _ _ hl] at hcell
      have hfr := hr.free hl2
      obtain ⟨z0, z1⟩ := (sb_bytes s).at k
      have HR := Lib.hid hr; clear hr
      go_wp2
      · refine ⟨⟨k + 1, by omega, by go_num, ?_, hb.setCell (Nat.le_refl _) _⟩, by simp [intOf]; omega⟩
        rw [lowTo_succ _ _ hl, show lowI (at0 (sb s) k) = at0 (sb s) k + 32 from if_pos ⟨by assumption, by assumption⟩]
        exact HR.out.set hl2 _
      · refine ⟨⟨k + 1, by omega, by go_num, ?_, hb⟩, by simp [intOf]; omega⟩
        rw [lowTo_same _ _ hl (if_neg (by omega))]
        exact HR.out
      · refine ⟨⟨k + 1, by omega, by go_num, ?_, hb⟩, by simp [intOf]; omega⟩
        rw [lowTo_same _ _ hl (if_neg (by omega))]
        exact HR.out
    · have hks : k = s.size := by omega
      have hrd : RdI .u8 wr (.slice (some ⟨w.heap.size, 0, none⟩) s.size cap) ((sb s).map lowI) := by
        rw [hks, ← sb_length s, lowTo_all] at hr
        have := hr.rd (cap := cap) (by simp [sb_length]; exact hc1) hc2
        simpa [sb_length] using this
      clear hks hr
      have hcv := run_conv_bs (P := Tryd.prog) 43 9 5 Tryd.underlying43 Tryd.underlying9 Tryd.underlying5 _ _ hrd
      go_wp2
      go_ret
      exact ⟨rfl, hb⟩
end Go.Proofs.YtibkkdbjmcongaaDoor
