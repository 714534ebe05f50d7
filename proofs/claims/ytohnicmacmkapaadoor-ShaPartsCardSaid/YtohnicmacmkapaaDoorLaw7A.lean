/- alive of layer 7. -/
import Derived.Test.YtohnicmacmkapaaDoorShaH
import Derived.Test.YtohnicmacmkapaaDoorShaI
import Derived.Lib.SmallJoins
namespace Go.Proofs.YtohnicmacmkapaaDoor
open Go.RowKit
set_option linter.unusedVariables false
set_option maxRecDepth 8000

theorem arr_rd {w : World} {B o n cap : Nat} {zs : List Int} (h : Arr .u8 w B zs) (hn : o + n ≤ zs.length) (hc : n ≤ cap) (hm : cap ≤ maxLen) : RdI .u8 w (.slice (some ⟨B, o, none⟩) n cap) ((zs.drop o).take n) := by
  have hl : ((zs.drop o).take n).length = n := by simp; omega
  refine ⟨_, cap, by rw [hl], by omega, hm, fun k hk => ⟨_, _, rfl, ?_⟩, by simp⟩
  rw [hl] at hk
  rw [h.cell (k := o + k) (by omega)]
  simp [at0, hk]
theorem abc_b : Bytes [97, 98, 99] := by intro x hx; simp only [List.mem_cons, List.not_mem_nil, or_false] at hx; rcases hx with rfl | rfl | rfl <;> decide
def abcA : List Int := [186, 120, 22, 191, 143, 1, 207, 234, 65, 65, 64, 222, 93, 174, 34, 35, 176, 3, 97, 163, 150, 23, 122, 156, 180, 16, 255, 97, 242, 0, 21, 173]
def abcB : List Int := [221, 175, 53, 161, 147, 97, 122, 186, 204, 65, 115, 73, 174, 32, 65, 49, 18, 230, 250, 78, 137, 169, 126, 162, 10, 158, 238, 230, 75, 85, 211, 154, 33, 146, 153, 42, 39, 79, 193, 168, 54, 186, 60, 35, 163, 254, 235, 189, 69, 77, 68, 35, 100, 60, 232, 14, 42, 154, 201, 79, 165, 76, 164, 159]
theorem sum_abcA : sum32 [97, 98, 99] = abcA := by decide +kernel
theorem sum_abcB : sum64 [97, 98, 99] = abcB := by decide +kernel
theorem hex_abcA : strOfNums (hexL ((abcA.drop 0).take 8)) = ⟨#[98, 97, 55, 56, 49, 54, 98, 102, 56, 102, 48, 49, 99, 102, 101, 97]⟩ := by decide +kernel
theorem hex_abcB : strOfNums (hexL ((abcB.drop 56).take 8)) = ⟨#[50, 97, 57, 97, 99, 57, 52, 102, 97, 53, 52, 99, 97, 52, 57, 102]⟩ := by decide +kernel
theorem abcA_b : Bytes abcA := by unfold Bytes; decide +kernel
theorem abcB_b : Bytes abcB := by unfold Bytes; decide +kernel
theorem abc_rd (w : World) (t1 t2 : TypeId) (fr : Nat × Nat) : RdP ((w.alloc (.cells #[.int .u8 97, .int .u8 98, .int .u8 99] t1 fr)).alloc (.cells #[.slice (some ⟨w.heap.size, 0, none⟩) 3 3] t2)) (.slice (some ⟨w.heap.size + 1, 0, none⟩) 1 1) [(.slice (some ⟨w.heap.size, 0, none⟩) 3 3, [97, 98, 99])] := by
  have h1 := heap_alloc_new (w.alloc (.cells #[.int .u8 97, .int .u8 98, .int .u8 99] t1 fr)) (.cells #[.slice (some ⟨w.heap.size, 0, none⟩) 3 3] t2)
  rw [World.size_alloc] at h1
  have h0 : ((w.alloc (.cells #[.int .u8 97, .int .u8 98, .int .u8 99] t1 fr)).alloc (.cells #[.slice (some ⟨w.heap.size, 0, none⟩) 3 3] t2)).heap[w.heap.size]? = some (.cells #[.int .u8 97, .int .u8 98, .int .u8 99] t1 fr) := by
    have hb := (Below.refl (w.alloc (.cells #[.int .u8 97, .int .u8 98, .int .u8 99] t1 fr)).heap.size (w.alloc (.cells #[.int .u8 97, .int .u8 98, .int .u8 99] t1 fr))).alloc (Nat.le_refl _) (.cells #[.slice (some ⟨w.heap.size, 0, none⟩) 3 3] t2)
    rw [hb.block w.heap.size (by rw [World.size_alloc]; omega)]
    exact heap_alloc_new w _
  generalize (w.alloc (.cells #[.int .u8 97, .int .u8 98, .int .u8 99] t1 fr)).alloc (.cells #[.slice (some ⟨w.heap.size, 0, none⟩) 3 3] t2) = W at *
  refine ⟨_, 1, rfl, ⟨Nat.le_refl _, by unfold maxLen; omega⟩, fun k hk => ?_, fun p hp => ?_⟩
  · obtain rfl : k = 0 := by simpa using hk
    refine ⟨_, _, rfl, ?_⟩
    simp only [World.cell?, h1]
    rfl
  · obtain rfl : p = _ := List.mem_singleton.1 hp
    refine ⟨⟨_, 3, rfl, Nat.le_refl _, by unfold maxLen; omega, fun k hk => ⟨_, _, rfl, ?_⟩, fun e => by cases e⟩, abc_b⟩
    simp only [World.cell?, h0, Nat.zero_add]
    rcases (by simp at hk; omega : k = 0 ∨ k = 1 ∨ k = 2) with rfl | rfl | rfl <;> rfl
theorem sumA_v (w : World) (hT : TabS w) (fr : Nat × Nat) : Calls Tryd.prog 10 #[.slice (some ⟨w.heap.size + 1, 0, none⟩) 1 1] ((w.alloc (.cells #[.int .u8 97, .int .u8 98, .int .u8 99] 5 fr)).alloc (.cells #[.slice (some ⟨w.heap.size, 0, none⟩) 3 3] 25)) fun e w' => e = .returned (aggI .u8 abcA) ∧ Below w.heap.size w w' := by
  have hb := ((Below.refl w.heap.size w).alloc (Nat.le_refl _) (.cells #[.int .u8 97, .int .u8 98, .int .u8 99] 5 fr)).alloc (by rw [World.size_alloc]; omega) (.cells #[.slice (some ⟨w.heap.size, 0, none⟩) 3 3] 25)
  refine (sum32_v _ (hT.below hb) _ _ (abc_rd w _ _ _) (by show 3 < 1099511627776; omega)).mono fun e w' h => ⟨?_, below_then hb h.2⟩
  rw [h.1, ← sum_abcA]
  rfl
theorem sumB_v (w : World) (hT : TabS w) (fr : Nat × Nat) : Calls Tryd.prog 12 #[.slice (some ⟨w.heap.size + 1, 0, none⟩) 1 1] ((w.alloc (.cells #[.int .u8 97, .int .u8 98, .int .u8 99] 5 fr)).alloc (.cells #[.slice (some ⟨w.heap.size, 0, none⟩) 3 3] 25)) fun e w' => e = .returned (aggI .u8 abcB) ∧ Below w.heap.size w w' := by
  have hb := ((Below.refl w.heap.size w).alloc (Nat.le_refl _) (.cells #[.int .u8 97, .int .u8 98, .int .u8 99] 5 fr)).alloc (by rw [World.size_alloc]; omega) (.cells #[.slice (some ⟨w.heap.size, 0, none⟩) 3 3] 25)
  refine (sum64_v _ (hT.below hb) _ _ (abc_rd w _ _ _) (by show 3 < 1099511627776; omega)).mono fun e w' h => ⟨?_, below_then hb h.2⟩
  rw [h.1, ← sum_abcB]
  rfl
theorem hexA_v {w : World} {B : Nat} (h : Arr .u8 w B abcA) : Calls Tryd.prog 16 #[.slice (some ⟨B, 0, none⟩) 8 32] w fun e w' => e = .returned (.string ⟨#[98, 97, 55, 56, 49, 54, 98, 102, 56, 102, 48, 49, 99, 102, 101, 97]⟩) ∧ Below w.heap.size w w' := by
  have h2 := hex_v _ _ w (arr_rd h (o := 0) (n := 8) (cap := 32) (by decide) (by decide) (by unfold maxLen; omega)) (fun x hx => abcA_b x (List.mem_of_mem_drop (List.mem_of_mem_take hx))) (by simp; omega)
  rw [hex_abcA] at h2
  exact h2
theorem hexB_v {w : World} {B : Nat} (h : Arr .u8 w B abcB) : Calls Tryd.prog 16 #[.slice (some ⟨B, 56, none⟩) 8 8] w fun e w' => e = .returned (.string ⟨#[50, 97, 57, 97, 99, 57, 52, 102, 97, 53, 52, 99, 97, 52, 57, 102]⟩) ∧ Below w.heap.size w w' := by
  have h2 := hex_v _ _ w (arr_rd h (o := 56) (n := 8) (cap := 8) (by decide) (by decide) (by unfold maxLen; omega)) (fun x hx => abcB_b x (List.mem_of_mem_drop (List.mem_of_mem_take hx))) (by simp; omega)
  rw [hex_abcB] at h2
  exact h2
set_option maxHeartbeats 1000000 in
theorem alive_v (w : World) (hT : TabS w) : Calls Tryd.prog 7 #[] w fun e w' => e = .returned (.bool true) ∧ Below w.heap.size w w' := by
  have hcv := fun W => Lib.run_convert_bytes_const (P := Tryd.prog) W 25 5 #[.int .u8 97, .int .u8 98, .int .u8 99] 3 3 Tryd.underlying25 Tryd.underlying5
  have la : abcA.length = 32 := rfl
  have lb : abcB.length = 64 := rfl
  go_enter Tryd.func7, Tryd.ntmps7
  go_wp2_with (first
    | (go_at_call 10; (with_reducible refine (sumA_v w hT _).mono ?_); rintro e w2 ⟨rfl, b2⟩; have hT2 := hT.below b2)
    | (go_at_call 12; (with_reducible refine (sumB_v w2 hT2 _).mono ?_); rintro e w3 ⟨rfl, b3⟩; have BB := below_then b2 b3)
    | (with_reducible refine at_n 1 ?_; refine wpList_allocI rfl 27 rfl .u8 32 zero_b32 ?_; intro w4 A4 s4 b4; replace BB := below_then BB b4)
    | (with_reducible refine at_n 2 ?_; refine wpList_allocI rfl 30 rfl .u8 64 zero_b64 ?_; intro w5 A5 s5 b5; replace A4 := A4.below b5; replace BB := below_then BB b5; have z3 := b2.size; have z4 := b3.size)
    | (with_reducible refine at_op (o := ⟨_, .store 27 _ _, _, _, _, _⟩) ?_; refine wpList_storeI rfl 27 _ _ rfl 32 info_b32 w3.heap.size rfl .u8 _ _ rfl A4 (by simp) la ?_; intro A6; refine wp_named fun w6 hw6 => ?_; rw [← hw6] at A6; have A7 : Arr .u8 w6 w4.heap.size (List.replicate 64 0) := (by rw [hw6]; exact A5.rowOther (by omega) _); have B7 : Below w.heap.size w w6 := (by rw [hw6]; exact below_row BB (by omega) _); clear hw6 A4 A5 BB)
    | (with_reducible refine at_op (o := ⟨_, .store 30 _ _, _, _, _, _⟩) ?_; refine wpList_storeI rfl 30 _ _ rfl 64 info_b64 w4.heap.size rfl .u8 _ _ rfl A7 (by simp) lb ?_; intro A8; refine wp_named fun w8 hw8 => ?_; rw [← hw8] at A8; have A9 : Arr .u8 w8 w3.heap.size abcA := (by rw [hw8]; exact A6.rowOther (by omega) _); have B9 : Below w.heap.size w w8 := (by rw [hw8]; exact below_row B7 (by omega) _); clear hw8 A6 A7 B7)
    | (go_at_call 16; first
        | ((with_reducible refine (hexA_v A9).mono ?_); rintro e w9 ⟨rfl, b9⟩; replace A8 := A8.below b9; replace B9 := below_then B9 b9)
        | ((with_reducible refine (hexB_v A8).mono ?_); rintro e w9 ⟨rfl, b9⟩; replace B9 := below_then B9 b9)))
  go_ret
  exact ⟨rfl, B9⟩
end Go.Proofs.YtohnicmacmkapaaDoor
