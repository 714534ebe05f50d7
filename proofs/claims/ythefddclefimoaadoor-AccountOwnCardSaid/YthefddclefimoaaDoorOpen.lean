/- Arguments with depth, opened: slices of structs, of arrays. No program stands here. -/
import Derived.Test.YthefddclefimoaaDoorOwn
import Derived.ChangeSlices
import Derived.ChangeSame
import Derived.Deep.Strs
import Derived.Lib.SmallJoins
namespace Go.Proofs.YthefddclefimoaaDoor
open Go.ChangeShapes Go.WideShapes Go.ChangeAt Go.RowKit
set_option linter.unusedVariables false

theorem choose_list {α : Type} (p : Nat → α → Prop) : ∀ n, (∀ i, i < n → ∃ a, p i a) → ∃ xs : List α, xs.length = n ∧ ∀ i x, xs[i]? = some x → p i x
  | 0, _ => ⟨[], rfl, fun i x h => by simp at h⟩
  | n + 1, h => by
    obtain ⟨xs, hl, hx⟩ := choose_list p n fun i hi => h i (by omega)
    obtain ⟨a, ha⟩ := h n (by omega)
    refine ⟨xs ++ [a], by simp [hl], fun i x hi => ?_⟩
    rw [List.getElem?_append] at hi
    split at hi
    · exact hx i x hi
    · rename_i hlt
      have : i = n := by
        have := (List.getElem?_eq_some_iff.1 hi).1
        simp at this
        omega
      subst this
      rw [hl, Nat.sub_self] at hi
      cases hi
      exact ha
theorem range_flat {w : World} {X s : Nat} : ∀ (rs : List (List Value)) (o : Nat), (∀ r ∈ rs, r.length = s) → (∀ i r, rs[i]? = some r → w.rangeAt X (o + i * s) r) → w.rangeAt X o rs.flatten
  | [], o, _, _ => fun j v hj => by simp at hj
  | r :: rs, o, hl, h => fun j v hj => by
    have hr := hl r (by simp)
    rw [List.flatten_cons, List.getElem?_append] at hj
    split at hj
    · have := h 0 r rfl j v hj
      simpa using this
    · rename_i hge
      have ih := range_flat rs (o + s) (fun r hr => hl r (List.mem_cons_of_mem _ hr)) (fun i r hi => by
        have := h (i + 1) r (by simpa using hi)
        rw [Nat.succ_mul] at this
        rw [show o + s + i * s = o + (i * s + s) by omega]; exact this)
      have := ih (j - r.length) v hj
      rw [hr] at this hge
      rw [show o + s + (j - s) = o + j by omega] at this
      exact this
section
variable {P : Program} {H : Type} {enc : TypeId × Value → H} {W : World} {base : Nat} {sp : Nat → Bool} {held : Bool}
theorem rd_of_slice {α : Type} (en : α → List Value) (good : α → Prop) {s : Nat} (hs : 0 < s) {t e : TypeId} {fuel : Nat} {cs : List Value} {x : DataW H × List MemPlace} (ht : P.underlying t = some (.slice e)) (hce : P.cellsOf e = s) (hl : ∀ a, good a → (en a).length = s)
    (hel : ∀ n cs x, DataW.trod enc P W base sp held n e cs = some x → ∃ a, cs = en a ∧ good a) (h : DataW.trod enc P W base sp held fuel t cs = some x) : ∃ (v : Value) (xs : List α), cs = [v] ∧ RdF s [] W v (xs.map en) ∧ ∀ a ∈ xs, good a := by
  rcases DataW.trod_slice ht h with ⟨rfl, _⟩ | ⟨a, len, cap, elems, rest, n, rfl, rfl, _, hb, hlc, hcm, hlen, hx, _⟩
  · exact ⟨_, [], rfl, RdF.nil hs, fun a ha => by cases ha⟩
  · obtain ⟨xs, hxl, hxs⟩ := choose_list (fun i (y : α) => good y ∧ W.cells? base (a.add (i * s)) s = some (en y)) len (fun i hi => by
      have h1 := hx i hi
      rw [hce, List.getElem?_eq_getElem (by omega)] at h1
      obtain ⟨cs', h2, h3⟩ := Option.bind_eq_some_iff.1 h1
      obtain ⟨y, rfl, hg⟩ := hel n cs' _ h3
      exact ⟨y, hg, h2⟩)
    have hgood : ∀ y ∈ xs, good y := fun y hy => by
      obtain ⟨i, hi⟩ := List.getElem?_of_mem hy
      exact (hxs i y hi).1
    have hrl : ∀ r ∈ xs.map en, r.length = s := fun r hr => by
      obtain ⟨y, hy, rfl⟩ := List.mem_map.1 hr
      exact hl y (hgood y hy)
    refine ⟨_, xs, rfl, ⟨hs, hrl, some a, cap, by rw [List.length_map, hxl], by rw [List.length_map, hxl]; exact hlc, hcm, (fun e => by cases e), fun hn => ?_⟩, hgood⟩
    have cellat : ∀ i y, xs[i]? = some y → ∀ j v, (en y)[j]? = some v → W.cell? ((a.add (i * s)).add j) = some v := fun i y hi j v hj => by
      have h2 := (hxs i y hi).2
      unfold World.cells? at h2
      split at h2
      · have hj' : j < s := by have := (List.getElem?_eq_some_iff.1 hj).1; rw [hl y (hxs i y hi).1] at this; exact this
        have := mapM_some_get h2 j j (by simp [hj'])
        rw [this]; exact hj
      · cases h2
    have hne : 0 < xs.length := by
      rcases Nat.eq_zero_or_pos xs.length with h0 | h0
      · exact absurd (by rw [List.length_eq_zero_iff.1 h0]; rfl) hn
      · exact h0
    have hx0 : xs[0]? = some xs[0] := List.getElem?_eq_getElem hne
    have hspot : a.spot = none := by
      have hlen0 : 0 < (en xs[0]).length := by rw [hl _ (hxs 0 _ hx0).1]; exact hs
      have := cellat 0 _ hx0 0 _ (List.getElem?_eq_getElem hlen0)
      have h3 := World.cell?_spot this
      have e0 : (a.add (0 * s)).add 0 = a := by simp [Addr.add]
      rw [e0] at h3
      exact h3
    obtain ⟨b, off, spot⟩ := a
    simp only at hspot
    subst hspot
    refine ⟨b, off, rfl, by simp, range_flat _ off hrl fun i r hi => ?_⟩
    rw [List.getElem?_map] at hi
    cases hy : xs[i]? with
    | none => rw [hy] at hi; cases hi
    | some y =>
      rw [hy] at hi
      cases hi
      intro j v hj
      have := cellat i y hy j v hj
      rw [addr_at, addr_at] at this
      exact this
theorem cells_one : ∀ (n : Nat) (K : IntKind) (cs : List Value), cs.length = n → (∀ i, i < n → ∃ x, (cs.drop i).take 1 = [.int K x] ∧ (Lit.int K x).wf = true) → ∃ zs : List Int, cs = zs.map (Value.int K) ∧ zs.length = n ∧ ∀ x ∈ zs, (Lit.int K x).wf = true
  | 0, K, cs, hl, _ => ⟨[], by simpa using List.eq_nil_of_length_eq_zero hl, rfl, fun x hx => by cases hx⟩
  | n + 1, K, [], hl, _ => by simp at hl
  | n + 1, K, c :: cs, hl, h => by
    obtain ⟨x, hx, hw⟩ := h 0 (by omega)
    obtain ⟨zs, h1, h2, h3⟩ := cells_one n K cs (by simpa using hl) fun i hi => by simpa using h (i + 1) (by omega)
    simp at hx
    refine ⟨x :: zs, by simp [hx, h1], by simp [h2], fun y hy => ?_⟩
    rcases List.mem_cons.1 hy with rfl | hy
    · exact hw
    · exact h3 y hy
/-- The cells of an array of numbers. -/
theorem trod_arr {t e : TypeId} {K : IntKind} {n fuel : Nat} {cs : List Value} {x : DataW H × List MemPlace} (ht : P.underlying t = some (.array n e)) (he : P.underlying e = some (.int K)) (hc : P.cellsOf e = 1) (hct : P.cellsOf t = n) (h : DataW.trod enc P W base sp held fuel t cs = some x) :
    ∃ zs : List Int, cs = zs.map (Value.int K) ∧ zs.length = n ∧ ∀ x ∈ zs, (Lit.int K x).wf = true := by
  obtain ⟨xs, m, rfl, hx, hl, hxl, hi⟩ := DataW.trod_array ht h
  rw [hct] at hl
  rw [hc] at hi
  refine cells_one n K cs hl fun i hin => ?_
  have h := hi i hin
  rw [Nat.mul_one] at h
  rw [List.getElem?_eq_getElem (by omega)] at h
  obtain ⟨x, h1, h2, h3⟩ := DataW.trod_int he h
  exact ⟨x, h1, h3⟩
theorem open_arr {t e : TypeId} {K : IntKind} {n : Nat} {v : Value} {d : DataW H} {p : List MemPlace} (ht : P.underlying t = some (.array n e)) (he : P.underlying e = some (.int K)) (hc : P.cellsOf e = 1) (hct : P.cellsOf t = n) (hn : n ≠ 1) (h0 : DataW.Trod enc P W base sp held t v d p) :
    ∃ zs : List Int, v = .agg (zs.map (Value.int K)).toArray ∧ zs.length = n ∧ ∀ x ∈ zs, (Lit.int K x).wf = true := by
  obtain ⟨fuel, hf⟩ := h0
  obtain ⟨zs, h1, h2, h3⟩ := trod_arr ht he hc hct hf
  refine ⟨zs, ?_, h2, h3⟩
  cases v with
  | agg cs =>
    simp only [Value.cells] at h1
    rw [← h1]
  | _ => simp [Value.cells] at h1; have := congrArg List.length h1; simp at this; omega
end
end Go.Proofs.YthefddclefimoaaDoor
