/- Plain words of ours on slices that are read, on worlds that have grown, and on bytes. No program stands here. -/
import Derived.Test.YthefddclefimoaaDoorRows
import Derived.WalkKit
import Derived.ProofKit
import Derived.OpenShut
import Derived.Handy
import Derived.Lib.Hide
import Derived.Outline
import Derived.Deep.QuietTactic
import Derived.BigQuiet
import Derived.Carry
namespace Go.Proofs.YthefddclefimoaaDoor
open Go.RowKit
set_option linter.unusedVariables false

/-- The number at a place, as a word that no rewriting opens. -/
def at0 (l : List Int) (k : Nat) : Int := l[k]?.getD 0
theorem at0_lt {l : List Int} {k : Nat} (h : k < l.length) : at0 l k = l[k] := by simp [at0, h]
theorem at0_mem {l : List Int} {k : Nat} (h : k < l.length) : at0 l k ∈ l := by rw [at0_lt h]; exact List.getElem_mem _
theorem at0_cons_zero (x : Int) (l : List Int) : at0 (x :: l) 0 = x := rfl
theorem at0_cons_succ (x : Int) (l : List Int) (k : Nat) : at0 (x :: l) (k + 1) = at0 l k := by simp [at0]
theorem at0_drop (l : List Int) (i k : Nat) : at0 (l.drop i) k = at0 l (i + k) := by simp [at0]
/-- All are bytes. -/
def Bytes (l : List Int) : Prop := ∀ x ∈ l, 0 ≤ x ∧ x ≤ 255
theorem Bytes.at {l : List Int} (h : Bytes l) (k : Nat) : 0 ≤ at0 l k ∧ at0 l k ≤ 255 := by
  by_cases hk : k < l.length
  · exact h _ (at0_mem hk)
  · simp [at0, hk]
theorem Bytes.drop {l : List Int} (h : Bytes l) (k : Nat) : Bytes (l.drop k) := fun x hx => h x (List.mem_of_mem_drop hx)
theorem Bytes.append {l m : List Int} (h : Bytes l) (k : Bytes m) : Bytes (l ++ m) := fun x hx => (List.mem_append.1 hx).elim (h x) (k x)
theorem eq_of_all {la lb : List Int} (hl : la.length = lb.length) (h : ∀ j, j < la.length → at0 la j = at0 lb j) : la = lb := by
  apply List.ext_getElem hl
  intro i h1 h2
  have := h i h1
  rwa [at0_lt h1, at0_lt h2] at this

/-- A slice value that holds these integers, of one kind. -/
def RdI (K : IntKind) (w : World) (v : Value) (zs : List Int) : Prop :=
  ∃ a cap, v = .slice a zs.length cap ∧ zs.length ≤ cap ∧ cap ≤ maxLen ∧ (∀ k, k < zs.length → ∃ x o, a = some ⟨x, o, none⟩ ∧ w.cell? ⟨x, o + k, none⟩ = some (.int K (at0 zs k))) ∧ (a = none → cap = 0)

theorem below_drewN {B : Nat} {a w : World} (h : Below B a w) (n : Nat) : Below B a (w.drewN n) := ⟨h.os, h.tape, h.output, h.size, h.block⟩

theorem RdI.below {K : IntKind} {w w' : World} {v : Value} {zs : List Int} (h : RdI K w v zs) (hb : Below w.heap.size w w') : RdI K w' v zs := by
  obtain ⟨a, cap, rfl, h1, h2, h3, h4⟩ := h
  refine ⟨a, cap, rfl, h1, h2, fun k hk => ?_, h4⟩
  obtain ⟨x, o, rfl, hc⟩ := h3 k hk
  exact ⟨x, o, rfl, by rw [hb.cell (World.block_lt_of_cell? w _ hc)]; exact hc⟩

theorem RdI.drewN {K : IntKind} {w : World} {v : Value} {zs : List Int} (h : RdI K w v zs) (n : Nat) : RdI K (w.drewN n) v zs := h.below (below_drewN (Below.refl _ _) n)

theorem RdI.nil {K : IntKind} {w : World} : RdI K w (.slice none 0 0) [] := ⟨none, 0, rfl, Nat.le_refl _, by unfold maxLen; omega, fun k hk => by simp at hk, fun _ => rfl⟩

theorem own_cell {w : World} {base e : Nat} {v : Value} {n : Nat} {xs : List Value} (h : w.ownsRow base e 1 v n xs) :
    ∃ a cap, v = .slice a n cap ∧ n ≤ cap ∧ cap ≤ maxLen ∧ xs.length = n ∧ (∀ k, k < n → ∃ x, a = some ⟨x, 0, none⟩ ∧ base ≤ x ∧ w.cell? ⟨x, k, none⟩ = xs[k]?) ∧ (a = none → cap = 0) := by
  obtain ⟨hl, h2⟩ := h
  rw [Nat.mul_one] at hl
  rcases h2 with ⟨rfl, rfl⟩ | ⟨g, cap, cur, rfl, hb, hh, hn, hm, hs, ht⟩
  · exact ⟨none, 0, rfl, Nat.le_refl _, by unfold maxLen; omega, hl, fun k hk => by omega, fun _ => rfl⟩
  · refine ⟨_, cap, rfl, hn, hm, hl, fun k hk => ⟨g, rfl, hb, ?_⟩, fun h => by cases h⟩
    rw [Nat.mul_one] at ht
    rw [← ht, List.getElem?_take, if_pos hk]
    simp [World.cell?, hh]

theorem RdI.of_own {K : IntKind} {w : World} {base e : Nat} {v : Value} {n : Nat} {zs : List Int} (h : w.ownsRow base e 1 v n (zs.map (Value.int K))) : RdI K w v zs := by
  obtain ⟨a, cap, rfl, h1, h2, h3, h4, h5⟩ := own_cell h
  have hn : n = zs.length := by simpa using h3.symm
  subst hn
  refine ⟨a, cap, rfl, h1, h2, fun k hk => ?_, h5⟩
  obtain ⟨x, rfl, _, hc⟩ := h4 k hk
  exact ⟨x, 0, rfl, by rw [Nat.zero_add, hc]; simp [hk, at0]⟩

theorem own_below {w w' : World} {base e size : Nat} {v : Value} {n : Nat} {xs : List Value} (h : w.ownsRow base e size v n xs) (hb : Below w.heap.size w w') : w'.ownsRow base e size v n xs :=
  h.kept (row := none) ⟨hb.os, hb.tape, hb.output, hb.size, fun k hk _ => hb.block k hk⟩ (by cases h' : v.ownBlock <;> simp)

/-- What is below the heap's size of a later world is below an earlier one's. -/
theorem below_then {a b c : World} (h : Below a.heap.size a b) (k : Below b.heap.size b c) : Below a.heap.size a c := h.trans (k.mono h.size)

theorem below_alloc {a b : World} (h : Below a.heap.size a b) (o : Obj) : Below a.heap.size a (b.alloc o) := h.alloc h.size o
theorem below_draws {a b : World} (h : Below a.heap.size a b) (n : Nat) : Below a.heap.size a (b.drewN n) := below_drewN h n
end Go.Proofs.YthefddclefimoaaDoor
