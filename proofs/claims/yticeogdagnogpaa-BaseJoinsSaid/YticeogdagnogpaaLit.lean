/- Slices that are typed out; the same slices, a copy: contracts in the form that laws use. -/
import Derived.Test.YticeogdagnogpaaSame
namespace Go.Proofs.Yticeogdagnogpaa
open Go.RowKit
set_option linter.unusedVariables false

theorem rd_lit {w : World} {K : IntKind} {e : TypeId} {zs : List Int} (cs : Array Value) (n : Nat) (hn : n = zs.length) (hm : zs.length ≤ maxLen) (h : cs = (zs.map (Value.int K)).toArray) : RdI K (w.alloc (.cells cs e)) (.slice (some ⟨w.heap.size, 0, none⟩) n n) zs := by
  subst h hn
  refine ⟨_, _, rfl, Nat.le_refl _, hm, fun k hk => ⟨_, _, rfl, ?_⟩, fun h => by cases h⟩
  rw [World.cell?_alloc_at _ _ _ _ rfl]
  simp [at0, hk]
theorem decide_rfl (l : List Int) : decide (l = l) = true := by simp
theorem same_yes (v1 v2 : Value) (l : List Int) (w : World) (h1 : RdI .u8 w v1 l) (h2 : RdI .u8 w v2 l) :
    Calls Try.prog 22 #[v1, v2] w fun e w' => e = .returned (.bool true) ∧ Below w.heap.size w w' := by
  have := same_any v1 v2 l l w h1 h2
  rwa [decide_rfl] at this
theorem rd_form {K : IntKind} {w : World} {v : Value} {zs : List Int} (h : RdI K w v zs) : ∃ a cap, v = .slice a zs.length cap ∧ (a = none → cap = 0) ∧ ∀ k, k < zs.length → ∃ x o, a = some ⟨x, o, none⟩ ∧ w.cell? ⟨x, o + k, none⟩ = some (.int K (at0 zs k)) := by
  obtain ⟨a, cap, rfl, _, _, h3, h4⟩ := h
  exact ⟨a, cap, rfl, h4, h3⟩
theorem copy_rd (v : Value) (l : List Int) (w : World) (h : RdI .u8 w v l) (hlen : l.length ≤ 1000000) :
    Calls Try.prog 14 #[v] w fun e w' => ∃ a cap, e = .returned (.slice a l.length cap) ∧ w'.ownsRow w.heap.size 5 1 (.slice a l.length cap) l.length (l.map (Value.int .u8)) ∧ RdI .u8 w' (.slice a l.length cap) l ∧ Below w.heap.size w w' := by
  refine (copy_any v l w h hlen).mono ?_
  rintro e w1 ⟨v', rfl, hown, hb⟩
  have hrd := RdI.of_own hown
  obtain ⟨a, cap, rfl, _, _⟩ := rd_form hrd
  exact ⟨a, cap, rfl, hown, hrd, hb⟩
theorem reads_of {K : IntKind} {w : World} {a : Option Addr} {n c : Nat} {zs : List Int} (h : RdI K w (.slice a n c) zs) : Reads w a n (zs.map (Value.int K)) ∧ (a = none → c = 0) := by
  obtain ⟨a', cap, he, h1, h2, h3, h4⟩ := h
  cases he
  exact ⟨reads_rd h3, h4⟩
theorem Reads.below {w w' : World} {a : Option Addr} {m : Nat} {xs : List Value} (h : Reads w a m xs) (hb : Below w.heap.size w w') : Reads w' a m xs := by
  refine ⟨h.1, fun j hj => ?_⟩
  obtain ⟨x, o, rfl, hc⟩ := h.2 j hj
  have hj' : j < xs.length := by rw [h.1]; exact hj
  rw [List.getElem?_eq_getElem hj'] at hc
  exact ⟨x, o, rfl, by rw [hb.cell (World.block_lt_of_cell? w _ hc), hc, List.getElem?_eq_getElem hj']⟩
end Go.Proofs.Yticeogdagnogpaa
