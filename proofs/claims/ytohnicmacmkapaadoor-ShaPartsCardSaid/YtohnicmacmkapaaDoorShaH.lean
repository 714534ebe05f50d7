/- The sums of sha. -/
import Derived.Test.YtohnicmacmkapaaDoorShaG
namespace Go.Proofs.YtohnicmacmkapaaDoor
open Go.RowKit
set_option linter.unusedVariables false
set_option maxRecDepth 8000

theorem wp_named {P : Program} {ops : Array Oper} {Q : Exit → Act → World → Prop} {l : List Oper} {a : Act} {w : World} (h : ∀ W, W = w → wpList P ops Q l a W) : wpList P ops Q l a w := h w rfl
/-- The sum of bytes. -/
def sum64 (D : List Int) : List Int := tell64 (absorb64 (fed64 begin64 D) (padS (padB64 (held64 D) (D.length % 128)) (D.length : Int) 8) (padN64 (D.length % 128) / 128))
theorem zero_b64 : (Tryd.prog.info? 30).bind (·.zero) = some (.agg (Array.replicate 64 (Value.int .u8 0))) := by kernel_rfl
theorem info_b64 : (Tryd.prog.info? 30).map (·.size) = some 64 := by kernel_rfl
theorem und_b64 : Tryd.prog.underlying 30 = some (.array 64 5) := by kernel_rfl
theorem zero_in64 : ∀ x ∈ List.replicate 8 (0 : Int), In64 x := fun x hx => by
  obtain ⟨-, rfl⟩ := List.mem_replicate.1 hx
  unfold In64; omega
theorem rs_new64 {w : World} {B : Nat} {cur : Array Value} {t : TypeId} (h : w.heap[B]? = some (.cells cur t (0, 0))) : RS64 (w.setRow B #[.int .i64 64, .int .i64 80, .int .u64 0, .int .u64 0, .int .u64 0, .int .u64 0, .int .u64 0, .int .u64 0, .int .u64 0, .int .u64 0, .func (.func 27) #[] #[], .func (.func 29) #[] #[], .func (.func 30) #[] #[], .func (.func 31) #[] #[]]) B (List.replicate 8 0) :=
  ⟨rfl, zero_in64, t, setRow_heap _ _ _ _ _ _ h⟩
set_option maxHeartbeats 4000000 in
theorem sum64_v (w : World) (hT : TabS w) (v : Value) (ps : List (Value × List Int)) (hp : RdP w v ps) (hlen : (cat ps).length < 1099511627776) :
    Calls Tryd.prog 12 #[v] w fun e w' => e = .returned (aggI .u8 (sum64 (cat ps))) ∧ Below w.heap.size w w' := by
  go_enter Tryd.func12, Tryd.ntmps12
  have hTt := hT.lt
  go_wp2_with (first
    | (with_reducible refine at_n 2 ?_; refine wpList_allocI rfl 30 rfl .u8 64 zero_b64 ?_; intro w1 A1 s1 b1)
    | (with_reducible refine at_op (o := ⟨_, .store 54 _ _, _, _, _, _⟩) ?_; refine wpList_store_row rfl 54 _ _ rfl w1.heap.size _ rfl rfl 54 _ (heap_alloc_new _ _) (by kernel_rfl) (by simp) (by simp [Value.oneCell']) ?_; refine wp_named fun w3 hw3 => ?_; have hr3 : RS64 w3 w1.heap.size (List.replicate 8 0) := (by rw [hw3]; exact rs_new64 (heap_alloc_new _ _)); have b3 : Below w1.heap.size w1 w3 := (by rw [hw3]; exact below_row ((Below.refl _ _).alloc (Nat.le_refl _) _) (Nat.le_refl _) _); clear hw3; have bb3 := below_then b1 b3; have hT3 := hT.below bb3; replace A1 := A1.below b3; have s3 := hr3.lt)
    | (go_at_call 32; (with_reducible refine (begin64_v w3 w1.heap.size _ hr3 hT3 (by omega) (by omega)).mono ?_); rintro e w4 ⟨⟨v4, rfl⟩, hr4, hg4⟩; have bb4 : Below w.heap.size w w4 := bb3.grown hg4 bb3.size (fun k hk => by cases hk; exact b1.size); replace A1 := arr_but A1 hg4 (by simp; omega))
    | (go_at_call 33; (with_reducible refine (all64_v w w4 bb4 w1.heap.size _ hr4 b1.size hT v ps hp hlen).mono ?_); rintro e w5 ⟨⟨v5, rfl⟩, hr5, hg5⟩; have bb5 : Below w.heap.size w w5 := bb4.grown hg5 bb4.size (fun k hk => by cases hk; exact b1.size); replace A1 := arr_but A1 hg5 (by simp; omega))
    | (with_reducible refine at_n 4 ?_; refine wpList_allocI rfl 30 rfl .u8 64 zero_b64 ?_; intro w6 A6 s6 b6; have bb6 := below_then bb5 b6; replace A1 := A1.below b6; have hr6 := hr5.below b6; have hz6 := A1.lt; have hz7 := hr5.lt; have hz8 := b1.size; have hz9 := bb5.size)
    | (go_at_call 34; (with_reducible refine (tell64_v w6 w1.heap.size w5.heap.size _ _ hr6 A6 (by simp) (by omega)).mono ?_); rintro e w7 ⟨⟨v7, rfl⟩, A7, hg7⟩; have bb7 : Below w.heap.size w w7 := bb6.grown hg7 bb6.size (fun k hk => by cases hk; exact bb5.size); replace A1 := arr_but A1 hg7 (by simp; omega))
    | (with_reducible refine at_n 11 ?_; refine wpList_loadI rfl 30 _ rfl 64 5 und_b64 info_b64 w5.heap.size rfl .u8 _ A7 (by simp [tell64]) ?_)
    | (with_reducible refine at_op (o := ⟨_, .store 30 _ _, _, _, _, _⟩) ?_; refine wpList_storeI rfl 30 _ _ rfl 64 info_b64 w.heap.size rfl .u8 _ _ rfl A1 (by simp) (by simp [tell64]) ?_; intro A9))
  refine bodyPost_ret (results_cellI rfl _ 64 5 und_b64 info_b64 w.heap.size rfl .u8 _ A9 (by simp [tell64])) rfl ?_
  exact ⟨rfl, below_row bb7 (Nat.le_refl _) _⟩
/-- The sum of bytes. -/
def sum32 (D : List Int) : List Int := tell32 (absorb32 (fed32 begin32 D) (padS (padB32 (held32 D) (D.length % 64)) (D.length : Int) 8) (padN32 (D.length % 64) / 64))
theorem zero_b32 : (Tryd.prog.info? 27).bind (·.zero) = some (.agg (Array.replicate 32 (Value.int .u8 0))) := by kernel_rfl
theorem info_b32 : (Tryd.prog.info? 27).map (·.size) = some 32 := by kernel_rfl
theorem und_b32 : Tryd.prog.underlying 27 = some (.array 32 5) := by kernel_rfl
theorem zero_in32 : ∀ x ∈ List.replicate 8 (0 : Int), In32 x := fun x hx => by
  obtain ⟨-, rfl⟩ := List.mem_replicate.1 hx
  unfold In32; omega
theorem rs_new32 {w : World} {B : Nat} {cur : Array Value} {t : TypeId} (h : w.heap[B]? = some (.cells cur t (0, 0))) : RS32 (w.setRow B #[.int .i64 32, .int .i64 64, .int .u32 0, .int .u32 0, .int .u32 0, .int .u32 0, .int .u32 0, .int .u32 0, .int .u32 0, .int .u32 0, .func (.func 18) #[] #[], .func (.func 20) #[] #[], .func (.func 21) #[] #[], .func (.func 22) #[] #[]]) B (List.replicate 8 0) :=
  ⟨rfl, zero_in32, t, setRow_heap _ _ _ _ _ _ h⟩
set_option maxHeartbeats 4000000 in
theorem sum32_v (w : World) (hT : TabS w) (v : Value) (ps : List (Value × List Int)) (hp : RdP w v ps) (hlen : (cat ps).length < 1099511627776) :
    Calls Tryd.prog 10 #[v] w fun e w' => e = .returned (aggI .u8 (sum32 (cat ps))) ∧ Below w.heap.size w w' := by
  go_enter Tryd.func10, Tryd.ntmps10
  have hTt := hT.lt
  go_wp2_with (first
    | (with_reducible refine at_n 2 ?_; refine wpList_allocI rfl 27 rfl .u8 32 zero_b32 ?_; intro w1 A1 s1 b1)
    | (with_reducible refine at_op (o := ⟨_, .store 45 _ _, _, _, _, _⟩) ?_; refine wpList_store_row rfl 45 _ _ rfl w1.heap.size _ rfl rfl 45 _ (heap_alloc_new _ _) (by kernel_rfl) (by simp) (by simp [Value.oneCell']) ?_; refine wp_named fun w3 hw3 => ?_; have hr3 : RS32 w3 w1.heap.size (List.replicate 8 0) := (by rw [hw3]; exact rs_new32 (heap_alloc_new _ _)); have b3 : Below w1.heap.size w1 w3 := (by rw [hw3]; exact below_row ((Below.refl _ _).alloc (Nat.le_refl _) _) (Nat.le_refl _) _); clear hw3; have bb3 := below_then b1 b3; have hT3 := hT.below bb3; replace A1 := A1.below b3; have s3 := hr3.lt)
    | (go_at_call 23; (with_reducible refine (begin32_v w3 w1.heap.size _ hr3 hT3 (by omega) (by omega)).mono ?_); rintro e w4 ⟨⟨v4, rfl⟩, hr4, hg4⟩; have bb4 : Below w.heap.size w w4 := bb3.grown hg4 bb3.size (fun k hk => by cases hk; exact b1.size); replace A1 := arr_but A1 hg4 (by simp; omega))
    | (go_at_call 24; (with_reducible refine (all32_v w w4 bb4 w1.heap.size _ hr4 b1.size hT v ps hp hlen).mono ?_); rintro e w5 ⟨⟨v5, rfl⟩, hr5, hg5⟩; have bb5 : Below w.heap.size w w5 := bb4.grown hg5 bb4.size (fun k hk => by cases hk; exact b1.size); replace A1 := arr_but A1 hg5 (by simp; omega))
    | (with_reducible refine at_n 4 ?_; refine wpList_allocI rfl 27 rfl .u8 32 zero_b32 ?_; intro w6 A6 s6 b6; have bb6 := below_then bb5 b6; replace A1 := A1.below b6; have hr6 := hr5.below b6; have hz6 := A1.lt; have hz7 := hr5.lt; have hz8 := b1.size; have hz9 := bb5.size)
    | (go_at_call 25; (with_reducible refine (tell32_v w6 w1.heap.size w5.heap.size _ _ hr6 A6 (by simp) (by omega)).mono ?_); rintro e w7 ⟨⟨v7, rfl⟩, A7, hg7⟩; have bb7 : Below w.heap.size w w7 := bb6.grown hg7 bb6.size (fun k hk => by cases hk; exact bb5.size); replace A1 := arr_but A1 hg7 (by simp; omega))
    | (with_reducible refine at_n 11 ?_; refine wpList_loadI rfl 27 _ rfl 32 5 und_b32 info_b32 w5.heap.size rfl .u8 _ A7 (by simp [tell32]) ?_)
    | (with_reducible refine at_op (o := ⟨_, .store 27 _ _, _, _, _, _⟩) ?_; refine wpList_storeI rfl 27 _ _ rfl 32 info_b32 w.heap.size rfl .u8 _ _ rfl A1 (by simp) (by simp [tell32]) ?_; intro A9))
  refine bodyPost_ret (results_cellI rfl _ 32 5 und_b32 info_b32 w.heap.size rfl .u8 _ A9 (by simp [tell32])) rfl ?_
  exact ⟨rfl, below_row bb7 (Nat.le_refl _) _⟩
end Go.Proofs.YtohnicmacmkapaaDoor
