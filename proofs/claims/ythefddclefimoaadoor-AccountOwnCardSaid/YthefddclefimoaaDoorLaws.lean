/- Laws of ours over the walk: an append to a slice of the call's own, whatever is appended; a slice cut at its beginning. -/
import Derived.Test.YthefddclefimoaaDoorBase
import Derived.Laws.AppendOwnNone
namespace Go.Proofs.YthefddclefimoaaDoor
open Go.RowKit
set_option linter.unusedVariables false

/-- The cells of what is appended: each is there, read from the world. -/
def Reads (w : World) (a : Option Addr) (m : Nat) (news : List Value) : Prop := news.length = m ∧ ∀ j, j < m → ∃ x o, a = some ⟨x, o, none⟩ ∧ w.cell? ⟨x, o + j, none⟩ = news[j]?

theorem reads_rd {K : IntKind} {w : World} {a : Option Addr} {zs : List Int} (h : ∀ k, k < zs.length → ∃ x o, a = some ⟨x, o, none⟩ ∧ w.cell? ⟨x, o + k, none⟩ = some (.int K (at0 zs k))) :
    Reads w a zs.length (zs.map (Value.int K)) := by
  refine ⟨by simp, fun j hj => ?_⟩
  obtain ⟨x, o, e, hc⟩ := h j hj
  exact ⟨x, o, e, by rw [hc]; simp [at0, hj]⟩

theorem reads_one {w : World} {v : Value} {e : TypeId} : Reads (w.alloc (.cells #[v] e)) (some ⟨w.heap.size, 0, none⟩) 1 [v] :=
  ⟨rfl, fun j hj => ⟨_, _, rfl, by obtain rfl : j = 0 := by omega
                                   rw [World.cell?_alloc_at _ _ _ _ rfl]; rfl⟩⟩

theorem wpList_append_rd {P : Program} {w : World} {ops : Array Oper} {rest : List Oper} {o : Oper} {a : Act} {Q : Exit → Act → World → Prop} (hgd : Region.wanted o (yielded ops a.tmps) = true) (s x : Operand) (t : TypeId)
    (ho : o.op = .call { callee := .builtin .append, args := #[s, x], argTypes := #[t, t] })
    (base : Nat) (e : TypeId) (i : TypeInfo) (z : Value) (bytes : Nat) (ht : P.underlying t = some (.slice e)) (hi : P.info? e = some i) (hz : i.zero = some z)
    (hsize : i.size = 1) (hby : i.bytes = bytes) (hzs : z.cells.size = 1)
    (v : Value) (n : Nat) (xs : List Value) (hs : a.eval s = v) (hown : w.ownsRow base e 1 v n xs)
    (ad : Option Addr) (m c : Nat) (news : List Value) (hx : a.eval x = .slice ad m c) (hr : Reads w ad m news) (h1 : ∀ u ∈ news, u.oneCell' = true)
    (h63 : n + m ≤ maxLen) (hbytes : (n + m) * bytes ≤ 140737488355328) (hbase : base ≤ w.heap.size) (hcn : ad = none → c = 0)
    (h : ∀ v' w', w'.ownsRow base e 1 v' (n + m) (xs ++ news) → w.grownBy w' v.ownBlock → Below base w w' → wpList P ops Q rest (a.put o.dst v') w') : wpList P ops Q (o :: rest) a w := by
  obtain ⟨hl, hnews⟩ := hr
  cases ad with
  | none =>
    obtain rfl := hcn rfl
    obtain rfl : m = 0 := by
      cases m with
      | zero => rfl
      | succ k => obtain ⟨x, o, h, _⟩ := hnews 0 (by omega); cases h
    obtain rfl : news = [] := List.eq_nil_of_length_eq_zero hl
    have hrun := run_append_owned_none (P := P) (w := w) base t o.type e i 1 ht hi v n xs hown
    unfold wpList
    rw [if_pos hgd]
    left
    unfold Oper.wp
    simp [execOp, ho, resolve, invoke, builtin, hs, hx, hrun, Result.andThen]
    exact h v w (by simpa using hown) ⟨rfl, rfl, rfl, Nat.le_refl _, fun _ _ _ => rfl⟩ (Below.refl _ _)
  | some ad =>
    have hc : ∀ j u, news[j]? = some u → w.cell? (ad.add j) = some u := fun j u hu => by
      have hj : j < m := by
        have := (List.getElem?_eq_some_iff.1 hu).1
        omega
      obtain ⟨x, o, he, hc⟩ := hnews j hj
      cases he
      rw [Addr.add_lit, hc, hu]
    unfold wpList
    rw [if_pos hgd]
    left
    refine wp_append_own w s x t ho base e i z 1 bytes ht hi hz hsize hby hzs (by omega) v n xs hs hown ad m c news hx (by omega) hc h1 h63 hbytes hbase ?_
    intro v' w' ho' hg _
    exact h v' w' ho' hg ((Below.refl _ _).grown hg hbase (fun k hk => (hown.lt k hk).1))

/-- A slice, cut at its beginning, as the walk writes it. -/
theorem rd_cut {K : IntKind} {w : World} {ad : Option Addr} {cap n k : Nat} {zs : List Int} (hr : RdI K w (.slice ad n cap) zs) (h1 : k ≤ n) :
    RdI K w (.slice (if cap = k then ad else ad.map (·.add k)) (n - k) (cap - k)) (zs.drop k) := by
  obtain ⟨a', cap', he, hc1, hc2, hc3, hc4⟩ := hr
  cases he
  refine ⟨if cap = k then ad else ad.map (·.add k), cap - k, by simp, by simp; omega, by unfold maxLen at *; omega, fun j hj => ?_, fun hn => ?_⟩
  rotate_left
  · by_cases hne : cap = k
    · omega
    · rw [if_neg hne] at hn
      have := hc4 (by cases ad with
        | none => rfl
        | some y => cases hn)
      omega
  simp only [List.length_drop] at hj
  obtain ⟨x, o, rfl, hc⟩ := hc3 (k + j) (by omega)
  have hne : cap ≠ k := by omega
  refine ⟨x, o + k, ?_, ?_⟩
  · rw [if_neg hne]
    simp [Addr.add_lit]
  · rw [at0_drop, Nat.add_assoc]
    exact hc
end Go.Proofs.YthefddclefimoaaDoor
