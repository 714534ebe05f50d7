/- Package scalar's cut, where the number is not below the order. -/
import Derived.Test.YteocdjgdljfpdaaCutB
namespace Go.Proofs.Yteocdjgdljfpdaa
open Go.RowKit Go.Shelf
set_option linter.unusedVariables false

set_option maxHeartbeats 4000000 in
theorem cut_walk2 (x0 x1 x2 x3 d0 d1 d2 d3 l0 l1 l2 l3 : Int) (w : World)
    (HO : ∀ w, Calls Try.prog 26 #[] w fun e w' => e = .returned (.agg #[.int .u64 l0, .int .u64 l1, .int .u64 l2, .int .u64 l3]) ∧ Below w.heap.size w w')
    (HL : ∀ w, Calls Try.prog 25 #[.agg #[.int .u64 x0, .int .u64 x1, .int .u64 x2, .int .u64 x3], .agg #[.int .u64 l0, .int .u64 l1, .int .u64 l2, .int .u64 l3]] w fun e w' => e = .returned (.tuple #[.agg #[.int .u64 d0, .int .u64 d1, .int .u64 d2, .int .u64 d3], .int .u64 0]) ∧ Below w.heap.size w w') :
    Calls Try.prog 29 #[.agg #[.int .u64 x0, .int .u64 x1, .int .u64 x2, .int .u64 x3]] w fun e w' => e = .returned (.agg #[.int .u64 d0, .int .u64 d1, .int .u64 d2, .int .u64 d3]) ∧ Below w.heap.size w w' := by
  go_enter Try.func29, Try.ntmps29
  go_wp2
  have HS := CutS.new x0 x1 x2 x3 w
  have HW : Below w.heap.size w ((w.alloc (.cells #[.int .u64 x0, .int .u64 x1, .int .u64 x2, .int .u64 x3] 39)).alloc (.cells #[.int .u64 0, .int .u64 0, .int .u64 0, .int .u64 0] 39)) := ((Below.refl _ _).alloc (Nat.le_refl _) _).alloc (by simp) _
  have hz : w.heap.size + 1 < ((w.alloc (.cells #[.int .u64 x0, .int .u64 x1, .int .u64 x2, .int .u64 x3] 39)).alloc (.cells #[.int .u64 0, .int .u64 0, .int .u64 0, .int .u64 0] 39)).heap.size := by simp
  generalize (w.alloc (.cells #[.int .u64 x0, .int .u64 x1, .int .u64 x2, .int .u64 x3] 39)).alloc (.cells #[.int .u64 0, .int .u64 0, .int .u64 0, .int .u64 0] 39) = W at *
  have HR : ((W.cell? ⟨w.heap.size, 0, none⟩ = some (.int .u64 x0) ∧ W.cell? ⟨w.heap.size, 1, none⟩ = some (.int .u64 x1) ∧ W.cell? ⟨w.heap.size, 2, none⟩ = some (.int .u64 x2) ∧ W.cell? ⟨w.heap.size, 3, none⟩ = some (.int .u64 x3)) ∧ (W.cell? ⟨w.heap.size + 1, 0, none⟩ = some (.int .u64 0) ∧ W.cell? ⟨w.heap.size + 1, 1, none⟩ = some (.int .u64 0) ∧ W.cell? ⟨w.heap.size + 1, 2, none⟩ = some (.int .u64 0) ∧ W.cell? ⟨w.heap.size + 1, 3, none⟩ = some (.int .u64 0)) ∧ (W.frozen? ⟨w.heap.size + 1, 0, none⟩ = false ∧ W.frozen? ⟨w.heap.size + 1, 1, none⟩ = false ∧ W.frozen? ⟨w.heap.size + 1, 2, none⟩ = false ∧ W.frozen? ⟨w.heap.size + 1, 3, none⟩ = false)) ∧ CutR x0 x1 x2 x3 w.heap.size (w.heap.size + 1) W W := CutR.out ⟨⟨HS, by omega, hz⟩, Below.refl _ _⟩
  go_region_held3 (fun w' => ((w'.cell? ⟨w.heap.size, 0, none⟩ = some (.int .u64 x0) ∧ w'.cell? ⟨w.heap.size, 1, none⟩ = some (.int .u64 x1) ∧ w'.cell? ⟨w.heap.size, 2, none⟩ = some (.int .u64 x2) ∧ w'.cell? ⟨w.heap.size, 3, none⟩ = some (.int .u64 x3)) ∧ (w'.cell? ⟨(w.heap.size + 1), 0, none⟩ = some (.int .u64 0) ∧ w'.cell? ⟨(w.heap.size + 1), 1, none⟩ = some (.int .u64 0) ∧ w'.cell? ⟨(w.heap.size + 1), 2, none⟩ = some (.int .u64 0) ∧ w'.cell? ⟨(w.heap.size + 1), 3, none⟩ = some (.int .u64 0)) ∧ (w'.frozen? ⟨(w.heap.size + 1), 0, none⟩ = false ∧ w'.frozen? ⟨(w.heap.size + 1), 1, none⟩ = false ∧ w'.frozen? ⟨(w.heap.size + 1), 2, none⟩ = false ∧ w'.frozen? ⟨(w.heap.size + 1), 3, none⟩ = false)) ∧ CutR x0 x1 x2 x3 w.heap.size (w.heap.size + 1) W w')
    (with_reducible (first | assumption | exact CutR.drew (by assumption) | exact CutR.alloc (by assumption) | exact CutR.allocDrew (by assumption) | exact CutR.then (by assumption) (by assumption) | exact CutR.realloc (by assumption) (by assumption) | exact CutR.store (by assumption) (by assumption) | exact CutR.store (Nat.le_refl _) (by assumption)))
    (first
      | (go_at_call 26; refine (HO _).mono ?_; rintro e w' ⟨rfl, hb⟩; have hz2 := CutR.size hb (by assumption); first | ((have N2 := New4.below N hb); (have ⟨⟨m1, m2, m3, m4⟩, ⟨m5, m6, m7, m8⟩, m9⟩ := N2); (try replace N := N2)) | ((with_reducible (have hq : Below (World.drew (World.alloc _ _)).heap.size (World.drew (World.alloc _ _)) _ := hb)); have N := (New4.new _ _).draw.below hq; have ⟨⟨n1, n2, n3, n4⟩, ⟨n5, n6, n7, n8⟩, n9⟩ := N) | ((with_reducible (have hq : Below (World.alloc _ _).heap.size (World.alloc _ _) _ := hb)); have N := (New4.new _ _).below hq; (try simp only [World.size_drew] at N); have ⟨⟨n1, n2, n3, n4⟩, ⟨n5, n6, n7, n8⟩, n9⟩ := N) | skip)
      | (go_at_call 25; refine (HL _).mono ?_; rintro e w' ⟨rfl, hb⟩; have hz2 := CutR.size hb (by assumption); first | ((have N2 := New4.below N hb); (have ⟨⟨m1, m2, m3, m4⟩, ⟨m5, m6, m7, m8⟩, m9⟩ := N2); (try replace N := N2)) | ((with_reducible (have hq : Below (World.drew (World.alloc _ _)).heap.size (World.drew (World.alloc _ _)) _ := hb)); have N := (New4.new _ _).draw.below hq; have ⟨⟨n1, n2, n3, n4⟩, ⟨n5, n6, n7, n8⟩, n9⟩ := N) | ((with_reducible (have hq : Below (World.alloc _ _).heap.size (World.alloc _ _) _ := hb)); have N := (New4.new _ _).below hq; (try simp only [World.size_drew] at N); have ⟨⟨n1, n2, n3, n4⟩, ⟨n5, n6, n7, n8⟩, n9⟩ := N) | skip))
  all_goals
    go_wp2
    refine bodyPost_ret (v := .agg #[.int .u64 d0, .int .u64 d1, .int .u64 d2, .int .u64 d3]) ?_ rfl ⟨rfl, CutR.done HW (Nat.le_succ _) (by assumption)⟩
    simp [results, Try.results29, go_sem, *]
end Go.Proofs.Yteocdjgdljfpdaa
