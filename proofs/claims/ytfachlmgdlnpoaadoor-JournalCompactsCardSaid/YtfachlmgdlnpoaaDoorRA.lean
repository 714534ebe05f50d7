/- Plain words of ours on slices that are read, on worlds that have grown, and on bytes. No program stands here. A law of ours on regions whose order is  -/
import Derived.Test.YtfachlmgdlnpoaaDoorRows
import Derived.WalkKit
import Derived.ProofKit
import Derived.OpenShut
import Derived.Handy
import Derived.Lib.Hide
import Derived.Outline
import Derived.Deep.QuietTactic
import Derived.BigQuiet
import Derived.Carry
import Derived.RegionTactic
import Derived.Laws.AppendOwnNone
import Derived.Laws.BytesArg
import Derived.Laws.IdiomStrings
import Derived.Laws.Rows
import Derived.KernelRfl
import Derived.Laws.Tables
import Derived.Laws.CopyRow
import Derived.Deep.LoopGhost
import Derived.Deep.MidRow
import Derived.Laws.MakeOwn
import Derived.ChangeKeysEq
import Derived.Laws.StructEq
import Derived.ChangeSlices
import Derived.ChangeSame
import Derived.Deep.Strs
import Derived.Lib.SmallJoins
namespace Go.Proofs.YtfachlmgdlnpoaaDoor
open Go.RowKit
set_option linter.unusedVariables false
set_option linter.unusedSimpArgs false
set_option maxRecDepth 8000
set_option maxHeartbeats 2000000

def QX (l : List Int) (k : Nat) : Int := l[k]?.getD 0
theorem FJ {l : List Int} {k : Nat} (h : k < l.length) : QX l k = l[k] := by simp [QX, h]
theorem FI {l : List Int} {k : Nat} (h : k < l.length) : QX l k ∈ l := by rw [FJ h]; exact List.getElem_mem _
theorem Hs (x : Int) (l : List Int) (k : Nat) : QX (x :: l) (k + 1) = QX l k := by simp [QX]
theorem Qdd (l : List Int) (i k : Nat) : QX (l.drop i) k = QX l (i + k) := by simp [QX]
def ZK (l : List Int) : Prop := ∀ x ∈ l, 0 <= x /\ x <= 255
theorem ZK.at {l : List Int} (h : ZK l) (k : Nat) : 0 <= QX l k /\ QX l k <= 255 := by
 by_cases hk : k < l.length
 . exact h _ (FI hk)
 . simp [QX, hk]
theorem Z9 {la lb : List Int} (hl : la.length = lb.length) (h : ∀ j, j < la.length -> QX la j = QX lb j) : la = lb := by
 apply List.ext_getElem hl
 intro i h1 h2
 have := h i h1
 rwa [FJ h1, FJ h2] at this

def H2 (K : IntKind) (w : World) (v : Value) (zs : List Int) : Prop :=
 ∃ a cap, v = .slice a zs.length cap /\ zs.length <= cap /\ cap <= maxLen /\ (∀ k, k < zs.length -> ∃ x o, a = some ⟨x, o, none⟩ /\ w.cell? ⟨x, o + k, none⟩ = some (.int K (QX zs k))) /\ (a = none -> cap = 0)

theorem YI {B : Nat} {a w : World} (h : Below B a w) (n : Nat) : Below B a (w.drewN n) := ⟨h.os, h.tape, h.output, h.size, h.block⟩

theorem Qco {w : World} {base e : Nat} {v : Value} {n : Nat} {xs : List Value} (h : w.ownsRow base e 1 v n xs) :
    ∃ a cap, v = .slice a n cap /\ n <= cap /\ cap <= maxLen /\ xs.length = n /\ (∀ k, k < n -> ∃ x, a = some ⟨x, 0, none⟩ /\ base <= x /\ w.cell? ⟨x, k, none⟩ = xs[k]?) /\ (a = none -> cap = 0) := by
  obtain ⟨hl, h2⟩ := h
  rw [Nat.mul_one] at hl
  rcases h2 with ⟨rfl, rfl⟩ | ⟨g, cap, cur, rfl, hb, hh, hn, hm, hs, ht⟩
  . exact ⟨none, 0, rfl, Nat.le_refl _, by unfold maxLen; omega, hl, fun k hk => by omega, fun _ => rfl⟩
  . refine ⟨_, cap, rfl, hn, hm, hl, fun k hk => ⟨g, rfl, hb, ?_⟩, fun h => by cases h⟩
    rw [Nat.mul_one] at ht
    rw [<- ht, List.getElem?_take, if_pos hk]
    simp [World.cell?, hh]

theorem H2.of_own {K : IntKind} {w : World} {base e : Nat} {v : Value} {n : Nat} {zs : List Int} (h : w.ownsRow base e 1 v n (zs.map (Value.int K))) : H2 K w v zs := by
 obtain ⟨a, cap, rfl, h1, h2, h3, h4, h5⟩ := Qco h
 have hn : n = zs.length := by simpa using h3.symm
 subst hn
 refine ⟨a, cap, rfl, h1, h2, fun k hk => ?_, h5⟩
 obtain ⟨x, rfl, _, hc⟩ := h4 k hk
 exact ⟨x, 0, rfl, by rw [Nat.zero_add, hc]; simp [hk, QX]⟩

theorem Qe {a b c : World} (h : Below a.heap.size a b) (k : Below b.heap.size b c) : Below a.heap.size a c := h.trans (k.mono h.size)

theorem KW {a b : World} (h : Below a.heap.size a b) (o : Obj) : Below a.heap.size a (b.alloc o) := h.alloc h.size o
theorem YJ {a b : World} (h : Below a.heap.size a b) (n : Nat) : Below a.heap.size a (b.drewN n) := YI h n
def XJ (md : Region.Mode) (o : Oper) : List Nat := (o.after.toList.filter (Region.binds md)).map (·.on)
def Xs (md : Region.Mode) (ops : Array Oper) (i : Nat) : List Nat := ((ops[i]?).map (XJ md)).getD []
def Zr (ops : Array Oper) (i : Nat) : Option Tmp := (ops[i]?).bind (·.dst)
def Zj (f : Nat -> Value) (l : List Nat) (k : Nat) : Value := if l.contains k then f k else undef
def Ua {α : Type} (f : Nat -> α) (i : Nat) (v : α) (k : Nat) : α := if k = i then v else f k
def Yl (ops : Array Oper) (f : Nat -> Value) : List Nat -> Act -> Act
 | [], a => a
 | j :: l, a => Yl ops f l (a.put (Zr ops j) (f j))
def VT (md : Region.Mode) (ops : Array Oper) : Bool :=
 (List.range ops.size).all fun i => match ops[i]? with
  | none => true
  | some o => (match o.op with | .select .. => false | _ => true) && (XJ md o).all (fun j => decide (j < i)) &&
   (List.range ops.size).all fun j => match Zr ops j with
    | none => true
    | some t => (j == i || Zr ops i != some t) && (!(o.looksAt ops).contains t || j == i || (XJ md o).contains j || (Xs md ops j).contains i) && !((XJ md o).contains j && (Xs md ops j).contains i)

structure XV (ops : Array Oper) (L : Nat -> Prop) (f : Nat -> Value) (a a' : Act) : Prop where
 defers : a'.defers = a.defers
 size : a'.tmps.size = a.tmps.size
 put : ∀ j t, L j -> Zr ops j = some t -> t < a.tmps.size -> a'.tmps[t]? = some (f j)
 same : ∀ t, (∀ j, L j -> Zr ops j ≠ some t) -> a'.tmps[t]? = a.tmps[t]?

theorem XV.start {ops : Array Oper} {f : Nat -> Value} {a : Act} {L : Nat -> Prop} (h : ∀ j, ¬ L j) : XV ops L f a a :=
 ⟨rfl, rfl, fun j t hj => absurd hj (h j), fun t _ => rfl⟩
theorem Ef (a : Act) (d : Option Tmp) (v : Value) : (a.put d v).tmps.size = a.tmps.size := by cases d <;> simp [Act.put]
theorem JG (a : Act) (d : Option Tmp) (v : Value) : (a.put d v).defers = a.defers := by cases d <;> rfl
theorem J3 (a : Act) (d : Option Tmp) (v : Value) (t : Nat) : (a.put d v).tmps[t]? = if d = some t /\ t < a.tmps.size then some v else a.tmps[t]? := by
  cases d with
  | none => simp [Act.put]
  | some d =>
    simp only [Act.put, Option.some.injEq]
    by_cases h : d = t
    . subst h
      by_cases hs : d < a.tmps.size
      . simp [hs]
      . simp [hs]
    . simp [h, Array.getElem?_setIfInBounds_ne h]

def Own (ops : Array Oper) : Prop := ∀ i j t, Zr ops i = some t -> Zr ops j = some t -> i = j
theorem XV.step {ops : Array Oper} (ho : Own ops) {L L' : Nat -> Prop} {f f' : Nat -> Value} {a a' : Act} (h : XV ops L f a a') (i : Nat) (v : Value)
    (hL : ∀ j, L' j ↔ (j = i \/ L j)) (hf : ∀ j, j ≠ i -> L j -> f' j = f j) (hi : f' i = v) : XV ops L' f' a (a'.put (Zr ops i) v) := by
  refine ⟨by rw [JG]; exact h.defers, by rw [Ef]; exact h.size, fun j t hj hd ht => ?_, fun t hn => ?_⟩
  . rw [J3]
    by_cases e : Zr ops i = some t
    . have hij := ho i j t e hd
      subst hij
      rw [if_pos ⟨e, by rw [h.size]; exact ht⟩, hi]
    . rw [if_neg (fun x => e x.1)]
      have hji : j ≠ i := fun e2 => e (e2 ▸ hd)
      have hLj := ((hL j).1 hj).resolve_left hji
      rw [h.put j t hLj hd ht, hf j hji hLj]
  . rw [J3, if_neg (fun x => hn i ((hL i).2 (.inl rfl)) x.1)]
    exact h.same t fun j hj => hn j ((hL j).2 (.inr hj))
theorem XV.congr {ops : Array Oper} {L L' : Nat -> Prop} {f f' : Nat -> Value} {a a' : Act} (h : XV ops L f a a') (hL : ∀ j, L j ↔ L' j) (hf : ∀ j, L j -> f j = f' j) : XV ops L' f' a a' :=
 ⟨h.defers, h.size, fun j t hj hd ht => by rw [<- hf j ((hL j).2 hj)]; exact h.put j t ((hL j).2 hj) hd ht, fun t hn => h.same t fun j hj => hn j ((hL j).1 hj)⟩
theorem XV.puts {ops : Array Oper} (ho : Own ops) {f : Nat -> Value} {a : Act} : ∀ (l : List Nat) {L : Nat -> Prop} {a' : Act}, XV ops L f a a' -> XV ops (fun j => j ∈ l \/ L j) f a (Yl ops f l a')
 | [], L, a', h => h.congr (by simp) (fun _ _ => rfl)
 | i :: l, L, a', h => by
  have h1 := h.step ho (L' := fun j => j = i \/ L j) (f' := f) i (f i) (fun j => Iff.rfl) (fun _ _ _ => rfl) rfl
  have h2 := XV.puts ho l h1
  exact h2.congr (fun j => by simp only [List.mem_cons]; exact ⟨fun h => h.elim (fun h => .inl (.inr h)) (fun h => h.elim (fun h => .inl (.inl h)) .inr), fun h => h.elim (fun h => h.elim (fun h => .inr (.inl h)) .inl) (fun h => .inr (.inr h))⟩) (fun _ _ => rfl)
theorem XV.of {ops : Array Oper} (ho : Own ops) (f : Nat -> Value) (a : Act) (l : List Nat) : XV ops (· ∈ l) f a (Yl ops f l a) :=
 (XV.puts ho l (XV.start (L := fun _ => False) (fun _ h => h))).congr (by simp) (fun _ _ => rfl)
theorem XV.unique {ops : Array Oper} {L : Nat -> Prop} {f : Nat -> Value} {a a' a'' : Act} (h : XV ops L f a a') (k : XV ops L f a a'') : a' = a'' := by
  have ht : a'.tmps = a''.tmps := by
    apply Array.ext_getElem?
    intro t
    by_cases ht : t < a.tmps.size
    . by_cases e : ∃ j, L j /\ Zr ops j = some t
      . obtain ⟨j, hj, hd⟩ := e
        rw [h.put j t hj hd ht, k.put j t hj hd ht]
      . have hn : ∀ j, L j -> Zr ops j ≠ some t := fun j hj hd => e ⟨j, hj, hd⟩
        rw [h.same t hn, k.same t hn]
    . rw [Array.getElem?_eq_none (by rw [h.size]; omega), Array.getElem?_eq_none (by rw [k.size]; omega)]
  have hd : a'.defers = a''.defers := by rw [h.defers, k.defers]
  cases a'; cases a''
  simp only at ht hd
  rw [ht, hd]

theorem Di {a a' : Act} {x : Operand} (h : ∀ t, x = .tmp t -> a'.tmps[t]? = a.tmps[t]?) : a'.eval x = a.eval x := by
 cases x with
 | tmp t => have := h t rfl; simp [Act.eval, Array.getD_eq_getD_getElem?, this]
 | _ => rfl
theorem H9 {ops : Array Oper} {o : Oper} {a a' : Act} (h : ∀ t, t ∈ o.looksAt ops -> a'.tmps[t]? = a.tmps[t]?) : Region.wanted o (yielded ops a'.tmps) = Region.wanted o (yielded ops a.tmps) := by
 unfold Region.wanted
 cases hg : o.guard with
 | none => rfl
 | some gw =>
  obtain ⟨g, want⟩ := gw
  have hy : yielded ops a'.tmps g = yielded ops a.tmps g := by
   unfold yielded
   cases ht : (ops[g]?).bind (·.dst) with
   | none => rfl
   | some t =>
    have := h t (by simp [Oper.looksAt, hg, ht])
    simp [this]
  simp only [hy]
theorem Dh {ops : Array Oper} {o : Oper} {a a' : Act} (hs : ∀ cs b, o.op ≠ .select cs b) (h : ∀ t, t ∈ o.looksAt ops -> a'.tmps[t]? = a.tmps[t]?) : execOp a'.eval o = execOp a.eval o :=
 execOp_congr o hs fun x hx => Di fun t ht => h t (by subst ht; exact List.mem_append_left _ (List.mem_filterMap.2 ⟨.tmp t, by simpa using hx, rfl⟩))

section
variable {P : Program} {ops : Array Oper} {md : Region.Mode}

def QK (P : Program) (ops : Array Oper) (o : Oper) (a : Act) (w : World) (R : Value -> World -> Prop) : Prop :=
 ∀ K : Act -> World -> Prop, (∀ v w', R v w' -> K (a.put o.dst v) w') -> if Region.wanted o (yielded ops a.tmps) then Oper.wp P o a w K (fun _ _ _ => False) else K (a.put o.dst undef) w

theorem J2 {a a' : Act} {d : Option Tmp} {u v : Value} (hs : a'.tmps.size = a.tmps.size) (h : a.put d u = a.put d v) : a'.put d u = a'.put d v := by
  cases d with
  | none => rfl
  | some d =>
    by_cases hd : d < a.tmps.size
    . have h1 := congrArg (fun x : Act => x.tmps[d]?) h
      simp only [J3, hd, and_self, if_true, Option.some.injEq] at h1
      rw [h1]
    . simp only [Act.put]
      rw [Array.setIfInBounds_eq_of_size_le (by rw [hs]; exact Nat.le_of_not_lt hd), Array.setIfInBounds_eq_of_size_le (by rw [hs]; exact Nat.le_of_not_lt hd)]

theorem QK.wpOp {Q : Exit -> Act -> World -> Prop} {i : Nat} {o : Oper} (hi : ops[i]? = some o) (hs : ∀ cs b, o.op ≠ .select cs b) {a a' : Act} {w : World} {R : Value -> World -> Prop} (hsz : a'.tmps.size = a.tmps.size)
    (hl : ∀ t, t ∈ o.looksAt ops -> a'.tmps[t]? = a.tmps[t]?) (h : QK P ops o a w R) {K : Act -> World -> Prop} (hK : ∀ v w', R v w' -> K (a'.put o.dst v) w') : wpOp P ops Q i K a' w := by
  unfold Go.wpOp
  simp only [hi]
  have h := h (fun a1 w1 => ∃ v, a1 = a.put o.dst v /\ R v w1) (fun v w' hr => ⟨v, rfl, hr⟩)
  rw [H9 hl]
  by_cases hw : Region.wanted o (yielded ops a.tmps) = true
  . rw [if_pos hw] at h ⊢
    refine .inl ?_
    unfold Oper.wp at *
    rw [Dh hs hl]
    generalize (execOp a.eval o).run P w = r at *
    cases r with
    | ok n w' =>
      cases n <;> simp only [Oper.upon] at h ⊢
      case value u => obtain ⟨v, he, hr⟩ := h; rw [J2 hsz he]; exact hK v _ hr
      case skip => obtain ⟨v, he, hr⟩ := h; rw [J2 hsz he]; exact hK v _ hr
      case defer d =>
        obtain ⟨v, he, hr⟩ := h
        have h1 := congrArg (fun x : Act => x.defers.length) he
        simp [JG] at h1
      case enter f args =>
        refine Calls.mono h fun e w'' he => ?_
        cases e with
        | returned u => obtain ⟨v, he, hr⟩ := he; show K (a'.put o.dst u) w''; rw [J2 hsz he]; exact hK v _ hr
        | panicked c => exact False.elim he
        | outgrown => obtain ⟨_, _, hf⟩ := he; exact False.elim hf
      case row row args => exact Rows.mono h fun u w'' he => by obtain ⟨v, he, hr⟩ := he; rw [J2 hsz he]; exact hK v _ hr
    | halt x w' =>
      cases x <;> simp only [Oper.upon] at h ⊢
  . rw [if_neg hw] at h ⊢
    obtain ⟨v, he, hr⟩ := h
    rw [J2 hsz he]
    exact hK v _ hr

theorem HE {f : Nat -> Value} {l : List Nat} {i : Nat} {v : Value} (h : l.contains i = false) : Zj (Ua f i v) l = Zj f l := by
 funext k
 unfold Zj Ua
 by_cases e : k = i
 . subst e; rw [h]; simp
 . simp [e]

abbrev H3 := Nat -> (Nat -> Value) -> World -> Prop

theorem Em (h : VT md ops = true) : Own ops := by
  intro i j t hi hj
  by_cases hij : i = j
  . exact hij
  . exfalso
    have hi' : i < ops.size := by
      rcases Nat.lt_or_ge i ops.size with h | h
      . exact h
      . simp [Zr, Array.getElem?_eq_none h] at hi
    have hj' : j < ops.size := by
      rcases Nat.lt_or_ge j ops.size with h | h
      . exact h
      . simp [Zr, Array.getElem?_eq_none h] at hj
    have h1 := List.all_eq_true.1 h i (List.mem_range.2 hi')
    rw [Array.getElem?_eq_getElem hi'] at h1
    simp only [Bool.and_eq_true] at h1
    have h2 := List.all_eq_true.1 h1.2 j (List.mem_range.2 hj')
    rw [hj] at h2
    simp only [Bool.and_eq_true] at h2
    have h3 := h2.1.1
    simp [hi] at h3
    exact hij h3.symm

theorem Jd (h : VT md ops = true) {i : Nat} {o : Oper} (hi : ops[i]? = some o) : (∀ cs b, o.op ≠ .select cs b) /\ (∀ j ∈ XJ md o, j < i) /\
    ∀ j t, j < ops.size -> Zr ops j = some t -> (t ∈ o.looksAt ops -> j = i \/ j ∈ XJ md o \/ i ∈ Xs md ops j) /\ ¬ (j ∈ XJ md o /\ i ∈ Xs md ops j) := by
  have hi' : i < ops.size := (Array.getElem?_eq_some_iff.1 hi).1
  have h1 := List.all_eq_true.1 h i (List.mem_range.2 hi')
  rw [hi] at h1
  simp only [Bool.and_eq_true] at h1
  refine ⟨fun cs b e => ?_, fun j hj => ?_, fun j t hj hd => ?_⟩
  . have := h1.1.1
    rw [e] at this
    simp at this
  . have := List.all_eq_true.1 h1.1.2 j hj
    simpa using this
  . have h2 := List.all_eq_true.1 h1.2 j (List.mem_range.2 hj)
    rw [hd] at h2
    simp only [Bool.and_eq_true] at h2
    refine ⟨fun ht => ?_, fun hx => ?_⟩
    . have h3 := h2.1.2
      simp only [Bool.or_eq_true, Bool.not_eq_true', List.contains_iff_mem, beq_iff_eq] at h3
      rcases h3 with ((h3 | h3) | h3) | h3
      . rw [<- List.contains_iff_mem] at ht; rw [ht] at h3; cases h3
      . exact .inl h3
      . exact .inr (.inl h3)
      . exact .inr (.inr h3)
    . have h3 := h2.2
      simp only [Bool.not_eq_true', Bool.and_eq_false_iff] at h3
      rcases h3 with h3 | h3
      . have := List.contains_iff_mem.2 hx.1; rw [this] at h3; cases h3
      . have := List.contains_iff_mem.2 hx.2; rw [this] at h3; cases h3

theorem JR (hb : VT md ops = true) {listed : Array Bool} (hsz : listed.size = ops.size) (hr : Region.ready md ops listed = []) : ∀ j, j < ops.size -> listed.getD j false = true := by
  intro j
  induction j using Nat.strongRecOn with
  | _ j ih =>
    intro hj
    by_cases hl : listed.getD j false = true
    . exact hl
    . exfalso
      have ho : ops[j]? = some ops[j] := Array.getElem?_eq_getElem hj
      have hd := (Jd hb ho).2.1
      have : j ∈ Region.ready md ops listed := by
        refine mem_ready.2 ⟨?_, _, ho, fun e he hbd => ?_⟩
        . rw [Array.getD_eq_getD_getElem?, Array.getElem?_eq_getElem (by omega)] at hl ⊢
          simpa using hl
        . have hm : e.on ∈ XJ md ops[j] := List.mem_map.2 ⟨e, List.mem_filter.2 ⟨by simpa using he, hbd⟩, rfl⟩
          have := hd _ hm
          exact ih _ this (by omega)
      rw [hr] at this
      cases this

theorem Yn {i : Nat} {o : Oper} (hi : ops[i]? = some o) : Xs md ops i = XJ md o := by simp [Xs, hi]
theorem UO {Q : Exit -> Act -> World -> Prop} (hb : VT md ops = true) (a : Act) (G : (Nat -> Bool) -> World -> Prop) (F : H3) (R : Nat -> (Nat -> Value) -> World -> World -> Prop)
    (hF : ∀ i f w w' j g, R i f w w' -> j ≠ i -> F j g w -> F j g w')
    (hstep : ∀ i o, ops[i]? = some o -> ∀ L f w, L i = false -> (∀ j, i ∈ Xs md ops j -> L j = false) -> G L w -> (∀ j ∈ XJ md o, F j (Zj f (j :: Xs md ops j)) w) ->
      QK P ops o (Yl ops f (XJ md o) a) w fun v w' => R i (Zj f (XJ md o)) w w' /\ G (Ua L i true) w' /\ F i (Zj (Ua f i v) (i :: XJ md o)) w')
    (hend : ∀ L f w, (∀ j, L j = decide (j < ops.size)) -> G L w -> (∀ j, j < ops.size -> F j (Zj f (j :: Xs md ops j)) w) -> Q .normal (Yl ops f (List.range ops.size) a) w) :
    ∀ (fuel : Nat) (listed : Array Bool) (f : Nat -> Value) (a' : Act) (w : World), listed.size = ops.size -> (listed.toList.countP (fun b => !b) <= fuel) ->
      (∀ j, listed.getD j false = true -> ∀ k ∈ Xs md ops j, listed.getD k false = true) ->
      XV ops (fun j => listed.getD j false = true) f a a' -> G (fun j => listed.getD j false) w -> (∀ j, listed.getD j false = true -> F j (Zj f (j :: Xs md ops j)) w) -> wpAny P md ops Q fuel listed a' w := by
  have ho := Em hb
  have fin : ∀ (listed : Array Bool) (f : Nat -> Value) (a' : Act) (w : World), listed.size = ops.size -> Region.ready md ops listed = [] ->
      XV ops (fun j => listed.getD j false = true) f a a' -> G (fun j => listed.getD j false) w -> (∀ j, listed.getD j false = true -> F j (Zj f (j :: Xs md ops j)) w) -> Q .normal a' w := by
    intro listed f a' w hsz hr hag hg hf
    have hl := JR hb hsz hr
    have hout : ∀ j, listed.getD j false = true -> j < ops.size := by
      intro j h
      rcases Nat.lt_or_ge j ops.size with h' | h'
      . exact h'
      . simp [Array.getElem?_eq_none (by omega : listed.size <= j)] at h
    have e : a' = Yl ops f (List.range ops.size) a := by
      refine hag.unique ((XV.of ho f a (List.range ops.size)).congr (fun j => ?_) (fun _ _ => rfl))
      rw [List.mem_range]
      exact ⟨hl j, hout j⟩
    rw [e]
    refine hend _ f w (fun j => ?_) hg fun j hj => hf j (hl j hj)
    by_cases hj : j < ops.size
    . rw [hl j hj]; simp [hj]
    . have : ¬ listed.getD j false = true := fun h => hj (hout j h)
      rw [Bool.not_eq_true] at this
      rw [this]; simp [hj]
  intro fuel
  induction fuel with
  | zero =>
    intro listed f a' w hsz hc hcl hag hg hf
    have hr : Region.ready md ops listed = [] := by
      rw [List.eq_nil_iff_forall_not_mem]
      intro j hj
      obtain ⟨h0, o, hoj, _⟩ := mem_ready.1 hj
      have hjs : j < ops.size := (Array.getElem?_eq_some_iff.1 hoj).1
      have hc0 : listed.toList.countP (fun b => !b) = 0 := by omega
      rw [List.countP_eq_zero] at hc0
      have h1 := hc0 listed[j] (by simp)
      rw [Array.getD_eq_getD_getElem?, Array.getElem?_eq_getElem (by omega)] at h0
      simp only [Option.getD_some] at h0
      rw [h0] at h1
      exact h1 rfl
    exact ⟨hr, fin listed f a' w hsz hr hag hg hf⟩
  | succ fuel ih =>
    intro listed f a' w hsz hc hcl hag hg hf
    refine ⟨fun hr => fin listed f a' w hsz hr hag hg hf, fun i hi => ?_⟩
    obtain ⟨h0, o, hoi, hdep⟩ := mem_ready.1 hi
    have his : i < ops.size := (Array.getElem?_eq_some_iff.1 hoi).1
    obtain ⟨hsel, hlt, hlook⟩ := Jd hb hoi
    have hdl : ∀ j ∈ XJ md o, listed.getD j false = true := by
      intro j hj
      obtain ⟨e, he, rfl⟩ := List.mem_map.1 hj
      obtain ⟨he1, he2⟩ := List.mem_filter.1 he
      exact hdep e (by simpa using he1) he2
    have hun : ¬ listed.getD i false = true := by
      intro h
      rw [Array.getD_eq_getD_getElem?, Array.getElem?_eq_getElem (by omega)] at h0 h
      simp only [Option.getD_some] at h0 h
      rw [h0] at h
      cases h
    have hA := XV.of ho f a (XJ md o)
    have hdst : o.dst = Zr ops i := by simp [Zr, hoi]
    have hset : ∀ j, (listed.setIfInBounds i true).getD j false = Ua (fun j => listed.getD j false) i true j := by
      intro j
      unfold Ua
      by_cases e : j = i
      . subst e
        simp [Array.getD_eq_getD_getElem?, hsz, his]
      . rw [getD_set_ne false (fun h => e h.symm), if_neg e]
    refine QK.wpOp hoi hsel (a := Yl ops f (XJ md o) a) (by rw [hag.size, hA.size]) (fun t ht => ?_)
      (hstep i o hoi (fun j => listed.getD j false) f w (by simpa using hun) (fun j hj => by
        rw [<- Bool.not_eq_true]
        exact fun h => hun (hcl j h i hj)) hg fun j hj => hf j (hdl j hj)) fun v w' hR => ?_
    . by_cases hts : t < a.tmps.size
      . by_cases e : ∃ j, Zr ops j = some t
        . obtain ⟨j, hd⟩ := e
          have hj' : j < ops.size := by
            rcases Nat.lt_or_ge j ops.size with h | h
            . exact h
            . simp [Zr, Array.getElem?_eq_none h] at hd
          have hl := hlook j t hj' hd
          by_cases hjd : j ∈ XJ md o
          . rw [hag.put j t (hdl j hjd) hd hts, hA.put j t hjd hd hts]
          . have hjl : ¬ listed.getD j false = true := by
              intro hjl
              rcases hl.1 ht with h | h | h
              . exact hun (h ▸ hjl)
              . exact hjd h
              . exact hun (hcl j hjl i h)
            rw [hag.same t (fun k hk hkd => hjl (ho k j t hkd hd ▸ hk)), hA.same t (fun k hk hkd => hjd (ho k j t hkd hd ▸ hk))]
        . have hn : ∀ j, Zr ops j ≠ some t := fun j hj => e ⟨j, hj⟩
          rw [hag.same t (fun j _ => hn j), hA.same t (fun j _ => hn j)]
      . rw [Array.getElem?_eq_none (by rw [hag.size]; exact Nat.le_of_not_lt hts), Array.getElem?_eq_none (by rw [hA.size]; exact Nat.le_of_not_lt hts)]
    . obtain ⟨hR1, hR3, hR2⟩ := hR
      have hset' : ∀ j, (listed.setIfInBounds i true).getD j false = true ↔ (j = i \/ listed.getD j false = true) := by
        intro j
        rw [hset j]
        unfold Ua
        by_cases e : j = i <;> simp [e]
      rw [hdst]
      refine ih (listed.setIfInBounds i true) (Ua f i v) _ w' (by simp [hsz]) ?_ ?_ ?_ (by rw [show (fun j => (listed.setIfInBounds i true).getD j false) = Ua (fun j => listed.getD j false) i true from funext hset]; exact hR3) ?_
      . have hc2 : (listed.setIfInBounds i true).toList.countP (fun b => !b) + 1 <= listed.toList.countP (fun b => !b) := by
          rw [Array.toList_setIfInBounds]
          have hlen : i < listed.toList.length := by simpa [hsz] using his
          have hli : listed.toList[i] = false := by
            rw [Array.getD_eq_getD_getElem?, Array.getElem?_eq_getElem (by omega)] at h0
            simpa using h0
          rw [List.countP_set hlen, hli]
          have : 0 < listed.toList.countP (fun b => !b) := List.countP_pos_iff.2 ⟨false, by rw [<- hli]; exact List.getElem_mem _, rfl⟩
          simp only [Bool.not_false, Bool.not_true, if_true, Bool.false_eq_true, if_false]
          omega
        omega
      . intro j hj k hk
        rw [hset'] at hj ⊢
        rcases hj with rfl | hj
        . rw [Yn hoi] at hk
          exact .inr (hdl k hk)
        . exact .inr (hcl j hj k hk)
      . exact hag.step ho i v hset' (fun j hji _ => by simp [Ua, hji]) (by simp [Ua])
      . intro j hj
        rw [hset'] at hj
        by_cases e : j = i
        . subst e
          rw [Yn hoi]
          exact hR2
        . have hjl := hj.resolve_left e
          have hnc : (j :: Xs md ops j).contains i = false := by
            rw [<- Bool.not_eq_true, List.contains_iff_mem, List.mem_cons]
            rintro (h | h)
            . exact e h.symm
            . exact hun (hcl j hjl i h)
          rw [HE hnc]
          exact hF i _ w w' j _ hR1 e (hf j hjl)

def Eg (ds : List (Option Tmp)) (f : Nat -> Value) : List Nat -> Act -> Act
 | [], a => a
 | j :: l, a => Eg ds f l (a.put (ds[j]?.join) (f j))
theorem Vu {ds : List (Option Tmp)} (h : ops.toList.map (·.dst) = ds) (f : Nat -> Value) : ∀ (l : List Nat) (a : Act), Yl ops f l a = Eg ds f l a
 | [], a => rfl
 | j :: l, a => by
  have e : Zr ops j = ds[j]?.join := by
   subst h
   simp only [Zr, List.getElem?_map, Array.getElem?_toList]
   cases ops[j]? <;> rfl
  simp only [Yl, Eg, e, Vu h f l]
def Vp (F : H3) (dl : List (List Nat)) (f : Nat -> Value) (w : World) : List Nat -> Prop
 | [] => True
 | j :: l => F j (Zj f (j :: (dl[j]?).getD [])) w /\ Vp F dl f w l
theorem Vp.of {F : H3} {dl : List (List Nat)} {f : Nat -> Value} {w : World} : ∀ (l : List Nat), (∀ j ∈ l, F j (Zj f (j :: (dl[j]?).getD [])) w) -> Vp F dl f w l
 | [], _ => trivial
 | j :: l, h => ⟨h j (by simp), Vp.of l fun k hk => h k (by simp [hk])⟩
theorem QK.mono {o : Oper} {a : Act} {w : World} {R R' : Value -> World -> Prop} (h : QK P ops o a w R) (hr : ∀ v w', R v w' -> R' v w') : QK P ops o a w R' := fun K hK => h K fun v w' hv => hK v w' (hr v w' hv)

end

def Qdm (K : IntKind) (w : World) (B : Nat) (zs : List Int) : Prop :=
 ∃ cur e fz, w.heap[B]? = some (.cells cur e fz) /\ zs.length <= cur.size /\ ∀ j, j < zs.length -> cur[j]? = some (.int K (QX zs j)) /\ ¬ (fz.1 <= j /\ j < fz.2)

theorem Qdm.cell {K : IntKind} {w : World} {B : Nat} {zs : List Int} (h : Qdm K w B zs) {k : Nat} (hk : k < zs.length) : w.cell? ⟨B, k, none⟩ = some (.int K (QX zs k)) := by
 obtain ⟨cur, e, fz, h1, h2, h3⟩ := h
 simp [World.cell?, h1, (h3 k hk).1]
theorem Qdm.free {K : IntKind} {w : World} {B : Nat} {zs : List Int} (h : Qdm K w B zs) {k : Nat} (hk : k < zs.length) : w.frozen? ⟨B, k, none⟩ = false := by
 obtain ⟨cur, e, ⟨lo, hi⟩, h1, h2, h3⟩ := h
 have := (h3 k hk).2
 simp only [World.frozen?, h1]
 simp at this ⊢
 exact this
theorem UF (zs : List Int) (k j : Nat) (x : Int) (hk : k < zs.length) : QX (zs.set k x) j = if j = k then x else QX zs j := by
 unfold QX
 by_cases h : j = k
 . subst h; simp [hk]
 . rw [if_neg h, List.getElem?_set_ne (by omega)]
def sb (s : ByteArray) : List Int := s.data.toList.map fun c => (c.toNat : Int)
theorem QbR {l : List Int} (h : ZK l) : sb (strOfNums l) = l := by
 simp only [sb, strOfNums_data, List.map_map]
 have : ∀ x ∈ l, ((fun c : UInt8 => (c.toNat : Int)) ∘ fun n : Int => UInt8.ofNat n.toNat) x = x := by
  intro x hx
  have := h x hx
  simp only [Function.comp, UInt8.toNat_ofNat']
  omega
 rw [List.map_congr_left this]
 simp
theorem ET {a b : ByteArray} (h : a = b) : (a.toList == b.toList) = true := by subst h; simp
theorem QaB {a b : ByteArray} (h : ¬ a = b) : (a.toList == b.toList) = false := by
 rw [beq_eq_false_iff_ne]
 intro e
 apply h
 rw [ByteArray.toList_eq, ByteArray.toList_eq] at e
 cases a; cases b
 congr 1
 exact Array.toList_inj.1 e
section
variable {P : Program} {w : World} {ops : Array Oper} {rest : List Oper} {o : Oper} {a : Act} {Q : Exit -> Act -> World -> Prop}
theorem F3 (src dst e : TypeId) (hs : P.underlying src = some (.slice e)) (hd : P.underlying dst = some .string) (he : P.underlying e = some (.int .u8))
    (v : Value) (zs : List Int) (hx : H2 .u8 w v zs) : (convert src dst v).run P w = .ok (.string (strOfNums zs)) w := by
  obtain ⟨ad, cap, rfl, h1, h2, h3, h4⟩ := hx
  by_cases h0 : zs.length = 0
  . obtain rfl := List.eq_nil_of_length_eq_zero h0
    rw [run_convert_bytes_string w src dst e _ _ _ hs he hd]
    cases ad with
    | none => simp [Conv.bytesToString, strOfNums]; rfl
    | some ad =>
      rw [<- run_convert_bytes_string w src dst e (some ad) _ cap hs he hd]
      obtain ⟨b, off, sp⟩ := ad
      cases sp with
      | none => exact run_convert_bytes_arg w src e hs he b off 0 cap [] rfl (fun i hi => by omega) dst hd
      | some sp =>
        rw [run_convert_bytes_string w src dst e _ _ _ hs he hd]
        simp [Conv.bytesToString, strOfNums, loadCells, loadCellsFrom]
        rfl
  . obtain ⟨x, o, rfl, _⟩ := h3 0 (by omega)
    refine run_convert_bytes_arg w src e hs he x o zs.length cap zs rfl (fun i hi => ?_) dst hd
    obtain ⟨x', o', he2, hc⟩ := h3 i hi
    cases he2
    rw [hc]
    simp [QX, List.getD]
end
def Z6 (K : IntKind) (zs : List Int) : Value := .agg (zs.map (Value.int K)).toArray
def V9 (K : IntKind) (w : World) (B : Nat) (zs : List Int) : Prop := ∃ t, w.heap[B]? = some (.cells (zs.map (Value.int K)).toArray t (0, 0))

theorem V9.row {K : IntKind} {w : World} {B : Nat} {zs : List Int} (h : V9 K w B zs) : Qdm K w B zs := by
 obtain ⟨t, h⟩ := h
 refine ⟨_, t, _, h, by simp, fun j hj => ⟨by simp [hj, QX], by simp⟩⟩
theorem V9.below {K : IntKind} {w w' : World} {B : Nat} {zs : List Int} (h : V9 K w B zs) (hb : Below w.heap.size w w') : V9 K w' B zs := by
 obtain ⟨t, h⟩ := h
 exact ⟨t, by rw [hb.block B (Array.getElem?_eq_some_iff.1 h).1]; exact h⟩
theorem V9.lt {K : IntKind} {w : World} {B : Nat} {zs : List Int} (h : V9 K w B zs) : B < w.heap.size := by
 obtain ⟨t, h⟩ := h
 exact (Array.getElem?_eq_some_iff.1 h).1
theorem V9.cell {K : IntKind} {w : World} {B : Nat} {zs : List Int} (h : V9 K w B zs) {k : Nat} (hk : k < zs.length) : w.cell? ⟨B, k, none⟩ = some (.int K (QX zs k)) := h.row.cell hk
theorem V9.free {K : IntKind} {w : World} {B : Nat} {zs : List Int} (h : V9 K w B zs) {k : Nat} (hk : k < zs.length) : w.frozen? ⟨B, k, none⟩ = false := h.row.free hk
theorem V9.set {K : IntKind} {w : World} {B : Nat} {zs : List Int} (h : V9 K w B zs) (k : Nat) (x : Int) : V9 K (w.setCell ⟨B, k, none⟩ (.int K x)) B (zs.set k x) := by
 obtain ⟨t, h⟩ := h
 refine ⟨t, ?_⟩
 simp [World.setCell, Array.getElem?_modify, h, List.map_set]
theorem V9.setOther {K : IntKind} {w : World} {B : Nat} {zs : List Int} (h : V9 K w B zs) {B' : Nat} (hne : B ≠ B') (k : Nat) (v : Value) : V9 K (w.setCell ⟨B', k, none⟩ v) B zs := by
 obtain ⟨t, h⟩ := h
 exact ⟨t, by rw [heap_setCell_other w ⟨B', k, none⟩ B v hne]; exact h⟩
theorem V9.setRow {K : IntKind} {w : World} {B : Nat} {zs : List Int} (h : V9 K w B zs) (ys : List Int) : V9 K (w.setRow B (ys.map (Value.int K)).toArray) B ys := by
 obtain ⟨t, h⟩ := h
 exact ⟨t, setRow_heap w B _ _ t _ h⟩
section
variable {P : Program} {w : World} {ops : Array Oper} {rest : List Oper} {o : Oper} {a : Act} {Q : Exit -> Act -> World -> Prop}

theorem Ko (n : Tmp) {b c d e f} (h : wpList P ops Q (⟨some n, b, c, d, e, f⟩ :: rest) a w) : wpList P ops Q (⟨some n, b, c, d, e, f⟩ :: rest) a w := h
theorem Qan (h : wpList P ops Q (o :: rest) a w) : wpList P ops Q (o :: rest) a w := h
theorem KP (hgd : o.guard = none) (t : TypeId) (x : Operand) (ho : o.op = .box t x) (K : IntKind) (zs : List Int) (hx : a.eval x = Z6 K zs)
  (h : ∀ w1, V9 K w1 w.heap.size zs -> w.heap.size < w1.heap.size -> Below w.heap.size w w1 -> wpList P ops Q rest (a.put o.dst (.pointer (some ⟨w.heap.size, 0, none⟩))) w1) : wpList P ops Q (o :: rest) a w := by
 refine wpList_plain hgd fun Kq hK => ?_
 unfold Oper.wp execOp
 simp only [ho, hx, Z6, Value.cells, Sem.run_bind, Instr.box, newVar, newRow, run_newObj_alloc, Sem.run_pure, Result.andThen_ok]
 exact hK _ _ (h _ ⟨_, heap_alloc_new w _⟩ (Array.getElem?_eq_some_iff.1 (heap_alloc_new w _)).1 ((Below.refl _ _).alloc (Nat.le_refl _) _))

theorem Ys (hgd : o.guard = none) (t : TypeId) (ho : o.op = .alloc t) (K : IntKind) (n : Nat) (hz : (P.info? t).bind (·.zero) = some (.agg (Array.replicate n (Value.int K 0))))
  (h : ∀ w1, V9 K w1 w.heap.size (List.replicate n 0) -> w.heap.size < w1.heap.size -> Below w.heap.size w w1 -> wpList P ops Q rest (a.put o.dst (.pointer (some ⟨w.heap.size, 0, none⟩))) w1) : wpList P ops Q (o :: rest) a w := by
 refine wpList_plain hgd fun Kq hK => ?_
 cases hi : P.info? t with
 | none => rw [hi] at hz; cases hz
 | some i =>
  rw [hi] at hz
  have hz' : i.zero = some (.agg (Array.replicate n (Value.int K 0))) := hz
  have hti : (typeInfo t).run P w = .ok i w := by simp [typeInfo, hi]
  unfold Oper.wp execOp
  simp only [ho, Sem.run_bind, Instr.alloc, zeroValue, hti, hz', newVar, newRow, run_newObj_alloc, Sem.run_pure, Result.andThen_ok, Value.cells]
  refine hK _ _ (h _ ⟨t, ?_⟩ (Array.getElem?_eq_some_iff.1 (heap_alloc_new w _)).1 ((Below.refl _ _).alloc (Nat.le_refl _) _))
  rw [heap_alloc_new]
  simp

theorem JT (hgd : o.guard = none) (ty : TypeId) (x : Operand) (ho : o.op = .load ty x) (n : Nat) (e : TypeId) (hu : P.underlying ty = some (.array n e)) (hi : (P.info? ty).map (·.size) = some n)
  (B : Nat) (hx : a.eval x = .pointer (some ⟨B, 0, none⟩)) (K : IntKind) (zs : List Int) (hz : V9 K w B zs) (hn : zs.length = n)
  (h : wpList P ops Q rest (a.put o.dst (Z6 K zs)) w) : wpList P ops Q (o :: rest) a w := by
 obtain ⟨t, hz⟩ := hz
 exact wpList_load_row hgd ty x ho B hx t _ _ _ hz hu rfl (by rw [hi]; simp [hn]) h

theorem V3 (hgd : o.guard = none) (ty : TypeId) (x y : Operand) (ho : o.op = .store ty x y) (n : Nat) (hi : (P.info? ty).map (·.size) = some n)
  (B : Nat) (hx : a.eval x = .pointer (some ⟨B, 0, none⟩)) (K : IntKind) (zs ys : List Int) (hy : a.eval y = Z6 K ys) (hz : V9 K w B zs) (hn : zs.length = n) (hm : ys.length = n)
  (h : V9 K (w.setRow B (ys.map (Value.int K)).toArray) B ys -> wpList P ops Q rest (a.put o.dst undef) (w.setRow B (ys.map (Value.int K)).toArray)) : wpList P ops Q (o :: rest) a w := by
 have h' := h (hz.setRow ys)
 obtain ⟨t, hz⟩ := hz
 refine wpList_store_row hgd ty x y ho B _ hx hy t _ hz (by rw [hi]; simp [hm]) (by simp [hn, hm]) ?_ h'
 simp [Value.oneCell']

theorem EZ (ty : TypeId) (n : Nat) (e : TypeId) (hu : P.underlying ty = some (.array n e)) (d : TypeDesc) (he : P.underlying e = some d) (hd : (match d with | .struct _ | .array _ _ => true | _ => false) = false)
  (hi : (P.info? e).map (·.size) = some 1) (K : IntKind) (zs : List Int) (hn : zs.length = n) (i : Int) (h0 : 0 <= i) (h1 : i < n) :
  (Instr.index ty (Z6 K zs) (.int .i64 i)).run P w = .ok (.int K (QX zs i.toNat)) w := by
 cases hq : P.info? e with
 | none => rw [hq] at hi; cases hi
 | some q =>
  have hs : q.size = 1 := by simpa [hq] using hi
  have hlt : i.toNat < zs.length := by omega
  have hagg : (isAgg e).run P w = .ok false w := by
   unfold isAgg
   rw [Sem.run_bind, run_underlying he w]
   cases d <;> simp_all
  simp [Instr.index, Z6, asIntOf, Sem.run_bind, run_underlying hu w, h0, h1, sizeOf, typeInfo, hq, hs, part, hagg, hlt, QX]

theorem Jw {fn : Func} {p : Tmp} {ty : TypeId} (h : fn.results = #[.cell p ty]) (tmps : Array Value) (n : Nat) (e : TypeId) (hu : P.underlying ty = some (.array n e)) (hi : (P.info? ty).map (·.size) = some n)
  (B : Nat) (hp : tmps.getD p undef = .pointer (some ⟨B, 0, none⟩)) (K : IntKind) (zs : List Int) (hz : V9 K w B zs) (hn : zs.length = n) : (results fn tmps).run P w = .ok (Z6 K zs) w := by
 obtain ⟨t, hz⟩ := hz
 exact results_cell_row h tmps w B t _ _ _ hp hz hu rfl (by rw [hi]; simp [hn])
end
section
variable {P : Program} {ops : Array Oper} {o : Oper} {a : Act} {w : World} {R : Value -> World -> Prop}

theorem QK.of_wp (hw : Region.wanted o (yielded ops a.tmps) = true) (h : ∀ K : Act -> World -> Prop, (∀ v w', R v w' -> K (a.put o.dst v) w') -> Oper.wp P o a w K (fun _ _ _ => False)) : QK P ops o a w R := fun K hK => by
 rw [if_pos hw]; exact h K hK
theorem QK.pure (hw : Region.wanted o (yielded ops a.tmps) = true) (v : Value) (hx : (execOp a.eval o).run P w = .ok (.value v) w) (hR : R v w) : QK P ops o a w R :=
 QK.of_wp hw fun K hK => by unfold Oper.wp; rw [hx]; exact hK v w hR
theorem QK.off (hw : Region.wanted o (yielded ops a.tmps) = false) (hR : R undef w) : QK P ops o a w R := fun K hK => by
 rw [if_neg (by rw [hw]; simp)]; exact hK _ _ hR
theorem QK.call (hw : Region.wanted o (yielded ops a.tmps) = true) (f : FuncId) (args : Array Value) (hx : (execOp a.eval o).run P w = .ok (.enter f args) w) (hc : Calls P f args w fun e w' => ∃ v, e = .returned v /\ R v w') : QK P ops o a w R :=
 QK.of_wp hw fun K hK => by
  unfold Oper.wp
  rw [hx]
  refine Calls.mono hc fun e w' he => ?_
  obtain ⟨v, rfl, hr⟩ := he
  exact hK v w' hr
theorem Oper.wp_weaken {K : Act -> World -> Prop} {Q' Q : Exit -> Act -> World -> Prop} (hq : ∀ e a w, Q' e a w -> Q e a w) (h : Oper.wp P o a w K Q') : Oper.wp P o a w K Q := by
 unfold Oper.wp at *
 generalize (execOp a.eval o).run P w = r at *
 cases r with
 | ok n w' =>
  cases n <;> simp only [Oper.upon] at h ⊢ <;>
   first
    | exact h
    | exact Calls.mono h (fun e w'' he => by
      cases e with
      | returned u => exact he
      | panicked c => exact hq _ _ _ he
      | outgrown => obtain ⟨x, y, hxy⟩ := he; exact ⟨x, y, hq _ _ _ hxy⟩)
 | halt x w' =>
  cases x <;> simp only [Oper.upon] at h ⊢
  case panic u => exact hq _ _ _ h
theorem VU {rest : List Oper} {Q : Exit -> Act -> World -> Prop} (h : QK P ops o a w R) (hk : ∀ v w', R v w' -> wpList P ops Q rest (a.put o.dst v) w') : wpList P ops Q (o :: rest) a w := by
 refine wpList_step fun K hK => ?_
 have h' := h K fun v w' hr => hK _ _ (hk v w' hr)
 split
 . next hw => rw [if_pos hw] at h'; exact Oper.wp_weaken (fun _ _ _ hf => hf.elim) h'
 . next hw => rw [if_neg hw] at h'; exact h'
theorem Qas {g t : Nat} {b : Bool} (hg : o.guard = some (g, b)) (hd : Zr ops g = some t) (hv : a.eval (.tmp t) = .bool b) : Region.wanted o (yielded ops a.tmps) = true := by
 have h : a.tmps[t]? = some (.bool b) := by
  simp only [Act.eval, Array.getD_eq_getD_getElem?] at hv
  cases hq : a.tmps[t]? with
  | none => rw [hq] at hv; simp [undef] at hv
  | some x => rw [hq] at hv; simp at hv; rw [hv]
 have hy : yielded ops a.tmps g = some b := by
  unfold yielded
  unfold Zr at hd
  rw [hd]
  simp [h]
 unfold Region.wanted
 simp [hg, hy]
variable {ds : List (Option Tmp)} {dl : List (List Nat)} {s : Nat} {G : Bool -> World -> Prop} {F : H3} {S : (Nat -> Value) -> World -> World -> Prop}
end
def Fm (n : Nat) (a : Act) : Prop := a.tmps.size = n /\ a.defers = []
def QfQ (a a' : Act) (d : Nat) : Prop := ∀ t u, decide (t = d) = false -> a.eval (.tmp t) = u -> a'.eval (.tmp t) = u
theorem VD (a : Act) (t : Nat) : a.eval (.tmp t) = a.tmps[t]?.getD undef := by simp [Act.eval, Array.getD_eq_getD_getElem?]
theorem Fm.put {n : Nat} {a : Act} (h : Fm n a) (d : Option Tmp) (v : Value) : Fm n (a.put d v) := ⟨by rw [Ef]; exact h.1, by rw [JG]; exact h.2⟩
theorem Qcd {n d : Nat} {a : Act} (h : Fm n a) (hd : decide (d < n) = true) (v : Value) : (a.put (some d) v).eval (.tmp d) = v := by
 rw [VD, J3, if_pos ⟨rfl, by rw [h.1]; exact of_decide_eq_true hd⟩]
 rfl
theorem Qcc {a : Act} {d : Nat} (v : Value) : QfQ a (a.put (some d) v) d := fun t u ht hu => by
 rw [VD, J3, if_neg (fun h => by have := of_decide_eq_false ht; cases h.1; exact this rfl), <- VD, hu]

section
variable {P : Program} {ops : Array Oper} {o : Oper} {a : Act} {w : World} {R : Value -> World -> Prop} {rest : List Oper} {Q : Exit -> Act -> World -> Prop} {n : Nat}

theorem FR {g t : Nat} {b c : Bool} (hg : o.guard = some (g, b)) (hd : Zr ops g = some t) (hv : a.eval (.tmp t) = .bool c) (hbc : (c == b) = false) : Region.wanted o (yielded ops a.tmps) = false := by
 have h : a.tmps[t]? = some (.bool c) := by
  rw [VD] at hv
  cases hq : a.tmps[t]? with
  | none => rw [hq] at hv; simp [undef] at hv
  | some x => rw [hq] at hv; simp at hv; rw [hv]
 have hy : yielded ops a.tmps g = some c := by
  unfold Zr at hd
  unfold yielded
  rw [hd]
  simp [h]
 unfold Region.wanted
 rw [hg]
 simp only [hy]
 cases b <;> cases c <;> simp_all
theorem QK.move (hw : Region.wanted o (yielded ops a.tmps) = true) {x : Operand} (ho : o.op = .move x) {v : Value} (hx : a.eval x = v) (hR : R v w) : QK P ops o a w R :=
 QK.pure hw v (by unfold execOp; simp only [ho, hx]; rfl) hR
theorem QK.assign (hw : Region.wanted o (yielded ops a.tmps) = true) {x : Operand} (ho : o.op = .assign x) {v : Value} (hx : a.eval x = v) (hR : R v w) : QK P ops o a w R :=
 QK.pure hw v (by unfold execOp; simp only [ho, hx]; rfl) hR
theorem QK.pick (hw : Region.wanted o (yielded ops a.tmps) = true) {c x y : Operand} (ho : o.op = .pick c x y) {b : Bool} (hc : a.eval c = .bool b) {v : Value} (hv : (if b then a.eval x else a.eval y) = v) (hR : R v w) : QK P ops o a w R :=
 QK.pure hw v (by unfold execOp; simp only [ho, hc, asBool, Sem.run_bind, Sem.run_pure, Result.andThen_ok]; rw [<- hv]) hR
theorem QK.not (hw : Region.wanted o (yielded ops a.tmps) = true) {t : TypeId} {x : Operand} (ho : o.op = .unOp .not t x) {b : Bool} (hx : a.eval x = .bool b) {c : Bool} (hc : (!b) = c) (hR : R (.bool c) w) : QK P ops o a w R :=
 QK.pure hw _ (by unfold execOp; simp only [ho, hx]; simp [Op.unary, hc]) hR
theorem QK.add (hw : Region.wanted o (yielded ops a.tmps) = true) {t t' : TypeId} {x y : Operand} (ho : o.op = .binOp .add t x y t') {K : IntKind} {m n : Int} (hx : a.eval x = .int K m) (hy : a.eval y = .int K n) {r : Int} (hr : K.wrap (m + n) = r) (hR : R (.int K r) w) : QK P ops o a w R :=
 QK.pure hw _ (by unfold execOp; simp only [ho, hx, hy, eqGuard, Sem.run_bind, Sem.run_pure, Result.andThen_ok]; simp [binOp, Op.intArith, hr]) hR
theorem QK.sub (hw : Region.wanted o (yielded ops a.tmps) = true) {t t' : TypeId} {x y : Operand} (ho : o.op = .binOp .sub t x y t') {K : IntKind} {m n : Int} (hx : a.eval x = .int K m) (hy : a.eval y = .int K n) {r : Int} (hr : K.wrap (m - n) = r) (hR : R (.int K r) w) : QK P ops o a w R :=
 QK.pure hw _ (by unfold execOp; simp only [ho, hx, hy, eqGuard, Sem.run_bind, Sem.run_pure, Result.andThen_ok]; simp [binOp, Op.intArith, hr]) hR
theorem QK.mul (hw : Region.wanted o (yielded ops a.tmps) = true) {t t' : TypeId} {x y : Operand} (ho : o.op = .binOp .mul t x y t') {K : IntKind} {m n : Int} (hx : a.eval x = .int K m) (hy : a.eval y = .int K n) {r : Int} (hr : K.wrap (m * n) = r) (hR : R (.int K r) w) : QK P ops o a w R :=
 QK.pure hw _ (by unfold execOp; simp only [ho, hx, hy, eqGuard, Sem.run_bind, Sem.run_pure, Result.andThen_ok]; simp [binOp, Op.intArith, hr]) hR
theorem QK.quo (hw : Region.wanted o (yielded ops a.tmps) = true) {t t' : TypeId} {x y : Operand} (ho : o.op = .binOp .quo t x y t') {K : IntKind} {m n : Int} (hx : a.eval x = .int K m) (hy : a.eval y = .int K n) (hn : n ≠ 0) {r : Int} (hr : K.wrap (m.tdiv n) = r) (hR : R (.int K r) w) : QK P ops o a w R :=
 QK.pure hw _ (by unfold execOp; simp only [ho, hx, hy, eqGuard, Sem.run_bind, Sem.run_pure, Result.andThen_ok]; simp [binOp, Op.intDiv, hn, hr]) hR
theorem QK.and (hw : Region.wanted o (yielded ops a.tmps) = true) {t t' : TypeId} {x y : Operand} (ho : o.op = .binOp .and t x y t') {K : IntKind} {m n : Int} (hx : a.eval x = .int K m) (hy : a.eval y = .int K n) {r : Int} (hr : bits .and K m n = r) (hR : R (.int K r) w) : QK P ops o a w R :=
 QK.pure hw _ (by unfold execOp; simp only [ho, hx, hy, eqGuard, Sem.run_bind, Sem.run_pure, Result.andThen_ok]; simp [binOp, Op.intBits, <- hr, bits]) hR
theorem QK.or (hw : Region.wanted o (yielded ops a.tmps) = true) {t t' : TypeId} {x y : Operand} (ho : o.op = .binOp .or t x y t') {K : IntKind} {m n : Int} (hx : a.eval x = .int K m) (hy : a.eval y = .int K n) {r : Int} (hr : bits .or K m n = r) (hR : R (.int K r) w) : QK P ops o a w R :=
 QK.pure hw _ (by unfold execOp; simp only [ho, hx, hy, eqGuard, Sem.run_bind, Sem.run_pure, Result.andThen_ok]; simp [binOp, Op.intBits, <- hr, bits]) hR
theorem QK.xor (hw : Region.wanted o (yielded ops a.tmps) = true) {t t' : TypeId} {x y : Operand} (ho : o.op = .binOp .xor t x y t') {K : IntKind} {m n : Int} (hx : a.eval x = .int K m) (hy : a.eval y = .int K n) {r : Int} (hr : bits .xor K m n = r) (hR : R (.int K r) w) : QK P ops o a w R :=
 QK.pure hw _ (by unfold execOp; simp only [ho, hx, hy, eqGuard, Sem.run_bind, Sem.run_pure, Result.andThen_ok]; simp [binOp, Op.intBits, <- hr, bits]) hR
theorem QK.lss (hw : Region.wanted o (yielded ops a.tmps) = true) {t t' : TypeId} {x y : Operand} (ho : o.op = .binOp .lss t x y t') {K : IntKind} {m n : Int} (hx : a.eval x = .int K m) (hy : a.eval y = .int K n) {b : Bool} (hb : decide (m < n) = b) (hR : R (.bool b) w) : QK P ops o a w R :=
 QK.pure hw _ (by unfold execOp; simp only [ho, hx, hy, eqGuard, Sem.run_bind, Sem.run_pure, Result.andThen_ok]; simp [binOp, Op.intCmp, <- hb]) hR
theorem QK.leq (hw : Region.wanted o (yielded ops a.tmps) = true) {t t' : TypeId} {x y : Operand} (ho : o.op = .binOp .leq t x y t') {K : IntKind} {m n : Int} (hx : a.eval x = .int K m) (hy : a.eval y = .int K n) {b : Bool} (hb : decide (m <= n) = b) (hR : R (.bool b) w) : QK P ops o a w R :=
 QK.pure hw _ (by unfold execOp; simp only [ho, hx, hy, eqGuard, Sem.run_bind, Sem.run_pure, Result.andThen_ok]; simp [binOp, Op.intCmp, <- hb]) hR
theorem QK.gtr (hw : Region.wanted o (yielded ops a.tmps) = true) {t t' : TypeId} {x y : Operand} (ho : o.op = .binOp .gtr t x y t') {K : IntKind} {m n : Int} (hx : a.eval x = .int K m) (hy : a.eval y = .int K n) {b : Bool} (hb : decide (m > n) = b) (hR : R (.bool b) w) : QK P ops o a w R :=
 QK.pure hw _ (by unfold execOp; simp only [ho, hx, hy, eqGuard, Sem.run_bind, Sem.run_pure, Result.andThen_ok]; simp [binOp, Op.intCmp, <- hb]) hR
theorem QK.geq (hw : Region.wanted o (yielded ops a.tmps) = true) {t t' : TypeId} {x y : Operand} (ho : o.op = .binOp .geq t x y t') {K : IntKind} {m n : Int} (hx : a.eval x = .int K m) (hy : a.eval y = .int K n) {b : Bool} (hb : decide (m ≥ n) = b) (hR : R (.bool b) w) : QK P ops o a w R :=
 QK.pure hw _ (by unfold execOp; simp only [ho, hx, hy, eqGuard, Sem.run_bind, Sem.run_pure, Result.andThen_ok]; simp [binOp, Op.intCmp, <- hb]) hR
theorem QK.eqlN (hw : Region.wanted o (yielded ops a.tmps) = true) {t t' : TypeId} {x y : Operand} (ho : o.op = .binOp .eql t x y t') {K : IntKind} {m n : Int} (hx : a.eval x = .int K m) (hy : a.eval y = .int K n) {b : Bool} (hb : (m == n) = b) (hR : R (.bool b) w) : QK P ops o a w R :=
 QK.pure hw _ (by unfold execOp; simp only [ho, hx, hy, eqGuard, Sem.run_bind, Sem.run_pure, Result.andThen_ok]; simp [binOp, Op.intCmp, <- hb]) hR
theorem QK.neqN (hw : Region.wanted o (yielded ops a.tmps) = true) {t t' : TypeId} {x y : Operand} (ho : o.op = .binOp .neq t x y t') {K : IntKind} {m n : Int} (hx : a.eval x = .int K m) (hy : a.eval y = .int K n) {b : Bool} (hb : (m != n) = b) (hR : R (.bool b) w) : QK P ops o a w R :=
 QK.pure hw _ (by unfold execOp; simp only [ho, hx, hy, eqGuard, Sem.run_bind, Sem.run_pure, Result.andThen_ok]; simp [binOp, Op.intCmp, <- hb]) hR
theorem QK.shl (hw : Region.wanted o (yielded ops a.tmps) = true) {t t' : TypeId} {x y : Operand} (ho : o.op = .binOp .shl t x y t') {K K2 : IntKind} {m n : Int} (hx : a.eval x = .int K m) (hy : a.eval y = .int K2 n) (hn : 0 <= n) (hn2 : n <= K.bits) {r : Int} (hr : K.wrap (m * 2 ^ n.toNat) = r) (hR : R (.int K r) w) : QK P ops o a w R := by
 have e1 : min n.toNat K.bits = n.toNat := Nat.min_eq_left (by omega)
 have e2 : ¬ n < 0 := by omega
 exact QK.pure hw _ (by unfold execOp; simp only [ho, hx, hy, eqGuard, Sem.run_bind, Sem.run_pure, Result.andThen_ok]; simp [binOp, Op.shift, e1, e2, hr]) hR
theorem QK.shr (hw : Region.wanted o (yielded ops a.tmps) = true) {t t' : TypeId} {x y : Operand} (ho : o.op = .binOp .shr t x y t') {K K2 : IntKind} {m n : Int} (hx : a.eval x = .int K m) (hy : a.eval y = .int K2 n) (hn : 0 <= n) (hn2 : n <= K.bits) {r : Int} (hr : m / 2 ^ n.toNat = r) (hR : R (.int K r) w) : QK P ops o a w R := by
 have e1 : min n.toNat K.bits = n.toNat := Nat.min_eq_left (by omega)
 have e2 : ¬ n < 0 := by omega
 have e3 : m.fdiv (2 ^ n.toNat) = m / 2 ^ n.toNat := Int.fdiv_eq_ediv_of_nonneg _ (by rw [show (2 : Int) ^ n.toNat = ((2 ^ n.toNat : Nat) : Int) by simp]; exact Int.natCast_nonneg _)
 exact QK.pure hw _ (by unfold execOp; simp only [ho, hx, hy, eqGuard, Sem.run_bind, Sem.run_pure, Result.andThen_ok]; simp [binOp, Op.shift, e1, e2, e3, hr]) hR
theorem QK.conv (hw : Region.wanted o (yielded ops a.tmps) = true) {s d : TypeId} {x : Operand} (ho : o.op = .convert s d x) {K K' : IntKind} {ts : TypeDesc} (hs : P.underlying s = some ts) (hd : P.underlying d = some (.int K')) {m : Int} (hx : a.eval x = .int K m) {r : Int} (hr : K'.wrap m = r) (hR : R (.int K' r) w) : QK P ops o a w R :=
 QK.pure hw _ (by unfold execOp; simp only [ho, hx, convert, Sem.run_bind, run_underlying hs, run_underlying hd, Result.andThen_ok]; simp [Conv.intToInt, hr]) hR
theorem QK.lenS (hw : Region.wanted o (yielded ops a.tmps) = true) {t : TypeId} {x : Operand} (ho : o.op = .call { callee := .builtin .len, args := #[x], argTypes := #[t] }) {e : TypeId} (ht : P.underlying t = some (.slice e)) {p : Option Addr} {l c : Nat} (hx : a.eval x = .slice p l c) (hR : R (.int .i64 (l : Int)) w) : QK P ops o a w R :=
 QK.pure hw _ (by unfold execOp; simp only [ho, resolve, invoke, builtin, Sem.run_bind, Sem.run_pure, Result.andThen_ok, List.map_toArray, List.map_cons, List.map_nil, hx]; simp [Builtin.len_, run_underlying ht, goInt]) hR
end
theorem Qe2 (a : Act) (v : Value) : a.eval (.const v) = v := rfl
theorem Qm {x : Int} (h : -9223372036854775808 <= x /\ x <= 9223372036854775807) : IntKind.i64.wrap x = x := by
 simp [IntKind.wrap, IntKind.bits, IntKind.signed]
 omega
theorem Uq {x : Int} (h : 0 <= x /\ x < 18446744073709551616) : IntKind.u64.wrap x = x := by
 rw [IntKind.wrap_u64]; omega
abbrev Fl := List (Nat × Value)
def UN : Fl -> Nat -> Option Value
 | [], _ => none
 | (k, v) :: l, t => match Nat.beq k t with
  | true => some v
  | false => UN l t
def ev (f : Fl) : Operand -> Option Value
 | .tmp t => UN f t
 | .const v => some v
 | .global g => some (.pointer (some ⟨g, 0, none⟩))
 | .func g => some (.func (.func g) #[] #[])
def evl (f : Fl) : List Operand -> Option (List Value)
 | [] => some []
 | x :: l => match ev f x with
  | none => none
  | some v => match evl f l with
   | none => none
   | some vs => some (v :: vs)
def Fr (N : Nat) (a : Act) (f : Fl) : Prop := Fm N a /\ ∀ t v, UN f t = some v -> a.eval (.tmp t) = v
def Sub : Fl -> Fl -> Prop
 | [], _ => True
 | (t, v) :: l, f => UN f t = some v /\ Sub l f
theorem Fr.ev {N : Nat} {a : Act} {f : Fl} {x : Operand} {v : Value} (h : Fr N a f) (hx : ev f x = some v) : a.eval x = v := by
 cases x with
 | tmp t => exact h.2 t v hx
 | const u => simpa [Go.Proofs.YtfachlmgdlnpoaaDoor.ev, Act.eval] using hx
 | global g => simpa [Go.Proofs.YtfachlmgdlnpoaaDoor.ev, Act.eval] using hx
 | func g => simpa [Go.Proofs.YtfachlmgdlnpoaaDoor.ev, Act.eval] using hx
theorem Fr.evl {N : Nat} {a : Act} {f : Fl} (h : Fr N a f) : ∀ {xs : List Operand} {vs : List Value}, evl f xs = some vs -> xs.map a.eval = vs
 | [], vs, hx => by simpa [Go.Proofs.YtfachlmgdlnpoaaDoor.evl] using hx
 | x :: l, vs, hx => by
  unfold Go.Proofs.YtfachlmgdlnpoaaDoor.evl at hx
  cases h1 : Go.Proofs.YtfachlmgdlnpoaaDoor.ev f x with
  | none => rw [h1] at hx; cases hx
  | some v =>
   cases h2 : Go.Proofs.YtfachlmgdlnpoaaDoor.evl f l with
   | none => rw [h1, h2] at hx; cases hx
   | some us =>
    rw [h1, h2] at hx
    cases hx
    rw [List.map_cons, h.ev h1, Fr.evl h h2]
theorem Er : ∀ {f' f : Fl}, Sub f' f -> ∀ {t v}, UN f' t = some v -> UN f t = some v
 | [], _, _, t, v, h => by cases h
 | (k, u) :: l, f, hs, t, v, h => by
  unfold UN at h
  cases hk : Nat.beq k t with
  | true =>
   rw [hk] at h
   cases h
   have : k = t := Nat.eq_of_beq_eq_true hk
   subst this
   exact hs.1
  | false =>
   rw [hk] at h
   exact Er hs.2 h
theorem Fr.sub {N : Nat} {a : Act} {f f' : Fl} (h : Fr N a f) (hs : Sub f' f) : Fr N a f' := ⟨h.1, fun t v hv => h.2 t v (Er hs hv)⟩
theorem Fr.put {N : Nat} {a : Act} {f : Fl} (h : Fr N a f) {d : Nat} (hd : decide (d < N) = true) (v : Value) : Fr N (a.put (some d) v) ((d, v) :: f) := by
 refine ⟨h.1.put _ _, fun t u hu => ?_⟩
 unfold UN at hu
 cases hk : Nat.beq d t with
 | true =>
  rw [hk] at hu
  cases hu
  have : d = t := Nat.eq_of_beq_eq_true hk
  subst this
  exact Qcd h.1 hd v
 | false =>
  rw [hk] at hu
  exact Qcc v t u (by simpa using (fun e : t = d => Nat.ne_of_beq_eq_false hk e.symm)) (h.2 t u hu)
def QP (ops : Array Oper) (o : Oper) (f : Fl) : Option Bool := match o.guard with
 | none => some true
 | some (g, b) => match Zr ops g with
  | none => none
  | some t => match UN f t with
   | some (.bool c) => some (c == b)
   | some _ => some false
   | none => none
theorem FS {ops : Array Oper} {o : Oper} {a : Act} {g t : Nat} {b : Bool} {v : Value} (hg : o.guard = some (g, b)) (hd : Zr ops g = some t) (hv : a.eval (.tmp t) = v) (hnb : ∀ c, v ≠ .bool c) : Region.wanted o (yielded ops a.tmps) = false := by
 have hy : yielded ops a.tmps g = none := by
  unfold Zr at hd
  unfold yielded
  rw [hd]
  rw [VD] at hv
  cases hq : a.tmps[t]? with
  | none => simp [hq]
  | some x =>
   rw [hq] at hv
   simp only [Option.getD_some] at hv
   subst hv
   cases x <;> simp_all
 unfold Region.wanted
 rw [hg]
 simp [hy]
theorem Qw {ops : Array Oper} {o : Oper} {f : Fl} {N : Nat} {a : Act} (h : Fr N a f) {b : Bool} (hw : QP ops o f = some b) : Region.wanted o (yielded ops a.tmps) = b := by
  unfold QP at hw
  cases hg : o.guard with
  | none => rw [hg] at hw; cases hw; unfold Region.wanted; rw [hg]
  | some p =>
    obtain ⟨g, c⟩ := p
    rw [hg] at hw
    simp only at hw
    cases hd : Zr ops g with
    | none => rw [hd] at hw; cases hw
    | some t =>
      rw [hd] at hw
      simp only at hw
      split at hw
      . rename_i c' hl
        cases hw
        have hv := h.2 t _ hl
        cases hcc : (c' == c) with
        | true => have : c' = c := by simpa using hcc
                  subst this; exact Qas hg hd hv
        | false => exact FR hg hd hv hcc
      . rename_i v hnb hl
        cases hw
        exact FS hg hd (h.2 t _ hl) (fun c e => hnb c e)
      . cases hw

def DR (P : Program) (ops : Array Oper) (o : Oper) (N : Nat) (f : Fl) (w : World) (R : Value -> World -> Prop) : Prop := ∀ a, Fr N a f -> QK P ops o a w R
def DV (P : Program) (ops : Array Oper) (o : Oper) (N : Nat) (f : Fl) (w : World) (v : Value) : Prop := DR P ops o N f w fun v' w' => v' = v /\ w' = w
def WL (P : Program) (ops : Array Oper) (Q : Exit -> Act -> World -> Prop) (N : Nat) (l : List Oper) (f : Fl) (w : World) : Prop := ∀ a, Fr N a f -> wpList P ops Q l a w
def WC (P : Program) (N : Nat) (c : Code) (Q : Exit -> Act -> World -> Prop) (f : Fl) (w : World) : Prop := ∀ a, Fr N a f -> c.wp P Q a w

section
variable {P : Program} {ops : Array Oper} {o : Oper} {N : Nat} {f : Fl} {w : World} {R : Value -> World -> Prop} {rest : List Oper} {Q : Exit -> Act -> World -> Prop}

theorem DR.mono {R' : Value -> World -> Prop} (h : DR P ops o N f w R) (hr : ∀ v w', R v w' -> R' v w') : DR P ops o N f w R' := fun a ha => (h a ha).mono hr
theorem DV.dr {v : Value} (h : DV P ops o N f w v) (hr : R v w) : DR P ops o N f w R := DR.mono h fun v' w' e => by obtain ⟨rfl, rfl⟩ := e; exact hr
theorem WL.val {d : Nat} {v : Value} (hd : DV P ops o N f w v) (ho : o.dst = some d) (hN : decide (d < N) = true) (k : WL P ops Q N rest ((d, v) :: f) w) : WL P ops Q N (o :: rest) f w := fun a ha =>
 VU (hd a ha) fun v' w' e => by obtain ⟨rfl, rfl⟩ := e; rw [ho]; exact k _ (ha.put hN _)
theorem WL.get {d : Nat} (hd : DR P ops o N f w R) (ho : o.dst = some d) (hN : decide (d < N) = true) (k : ∀ v w', R v w' -> WL P ops Q N rest ((d, v) :: f) w') : WL P ops Q N (o :: rest) f w := fun a ha =>
 VU (hd a ha) fun v' w' e => by rw [ho]; exact k v' w' e _ (ha.put hN _)
theorem WL.do (hd : DR P ops o N f w R) (ho : o.dst = none) (k : ∀ v w', R v w' -> WL P ops Q N rest f w') : WL P ops Q N (o :: rest) f w := fun a ha =>
 VU (hd a ha) fun v' w' e => by rw [ho]; exact k v' w' e _ ha
theorem WL.off {d : Nat} (hw : QP ops o f = some false) (ho : o.dst = some d) (hN : decide (d < N) = true) (k : WL P ops Q N rest ((d, undef) :: f) w) : WL P ops Q N (o :: rest) f w := fun a ha =>
 VU (QK.off (R := fun v' w' => v' = undef /\ w' = w) (Qw ha hw) ⟨rfl, rfl⟩) fun v' w' e => by obtain ⟨rfl, rfl⟩ := e; rw [ho]; exact k _ (ha.put hN _)
theorem WL.nil (h : ∀ a, Fr N a f -> Q .normal a w) : WL P ops Q N [] f w := fun a ha => wpList_nil (h a ha)
theorem WL.split {l : List Oper} (t : Nat) {b : Bool} (hl : UN f t = some (.bool b)) (ht : b = true -> WL P ops Q N l ((t, .bool true) :: f) w) (hf : b = false -> WL P ops Q N l ((t, .bool false) :: f) w) : WL P ops Q N l f w := fun a ha => by
 have key : ∀ c, b = c -> Fr N a ((t, .bool c) :: f) := fun c hc => ⟨ha.1, fun t' v hv => by
  unfold UN at hv
  cases hk : Nat.beq t t' with
  | true => rw [hk] at hv; cases hv; have := Nat.eq_of_beq_eq_true hk; subst this; subst hc; exact ha.2 t _ hl
  | false => rw [hk] at hv; exact ha.2 t' v hv⟩
 cases hb : b with
 | true => exact ht hb a (key _ hb)
 | false => exact hf hb a (key _ hb)

theorem Qam (m n : Int) : (m == n) = decide (m = n) := by
 by_cases h : m = n
 . simp [h]
 . simp [h]
-- operations that yield, and leave the world alone
theorem Qt {x : Operand} {v : Value} (ho : o.op = .move x) (hx : ev f x = some v) (hw : QP ops o f = some true := by rfl) : DV P ops o N f w v := fun a ha => QK.move (Qw ha hw) ho (ha.ev hx) ⟨rfl, rfl⟩
theorem KH {x : Operand} {v : Value} (ho : o.op = .assign x) (hx : ev f x = some v) (hw : QP ops o f = some true := by rfl) : DV P ops o N f w v := fun a ha => QK.assign (Qw ha hw) ho (ha.ev hx) ⟨rfl, rfl⟩
theorem ZT {c x y : Operand} {b : Bool} {v : Value} (ho : o.op = .pick c x y) (hc : ev f c = some (.bool b)) (hv : (bif b then ev f x else ev f y) = some v) (hw : QP ops o f = some true := by rfl) : DV P ops o N f w v := fun a ha =>
 QK.pick (Qw ha hw) ho (ha.ev hc) (by cases b <;> simp at hv ⊢ <;> exact ha.ev hv) ⟨rfl, rfl⟩
theorem XU {t : TypeId} {x : Operand} {b : Bool} (ho : o.op = .unOp .not t x) (hx : ev f x = some (.bool b)) (hw : QP ops o f = some true := by rfl) : DV P ops o N f w (.bool (!b)) := fun a ha =>
 QK.not (Qw ha hw) ho (ha.ev hx) rfl ⟨rfl, rfl⟩
theorem QR {t t' : TypeId} {x y : Operand} {K : IntKind} {m n r : Int} (ho : o.op = .binOp .add t x y t') (hx : ev f x = some (.int K m)) (hy : ev f y = some (.int K n)) (hr : K.wrap (m + n) = r) (hw : QP ops o f = some true := by rfl) : DV P ops o N f w (.int K r) := fun a ha =>
 QK.add (Qw ha hw) ho (ha.ev hx) (ha.ev hy) hr ⟨rfl, rfl⟩
theorem Zm {t t' : TypeId} {x y : Operand} {K : IntKind} {m n r : Int} (ho : o.op = .binOp .sub t x y t') (hx : ev f x = some (.int K m)) (hy : ev f y = some (.int K n)) (hr : K.wrap (m - n) = r) (hw : QP ops o f = some true := by rfl) : DV P ops o N f w (.int K r) := fun a ha =>
 QK.sub (Qw ha hw) ho (ha.ev hx) (ha.ev hy) hr ⟨rfl, rfl⟩
theorem VO {t t' : TypeId} {x y : Operand} {K : IntKind} {m n r : Int} (ho : o.op = .binOp .mul t x y t') (hx : ev f x = some (.int K m)) (hy : ev f y = some (.int K n)) (hr : K.wrap (m * n) = r) (hw : QP ops o f = some true := by rfl) : DV P ops o N f w (.int K r) := fun a ha =>
 QK.mul (Qw ha hw) ho (ha.ev hx) (ha.ev hy) hr ⟨rfl, rfl⟩
theorem Y3 {t t' : TypeId} {x y : Operand} {K : IntKind} {m n r : Int} (ho : o.op = .binOp .quo t x y t') (hx : ev f x = some (.int K m)) (hy : ev f y = some (.int K n)) (hn : n ≠ 0) (hr : K.wrap (m.tdiv n) = r) (hw : QP ops o f = some true := by rfl) : DV P ops o N f w (.int K r) := fun a ha =>
 QK.quo (Qw ha hw) ho (ha.ev hx) (ha.ev hy) hn hr ⟨rfl, rfl⟩
theorem VP {t t' : TypeId} {x y : Operand} {K : IntKind} {m n r : Int} (ho : o.op = .binOp .and t x y t') (hx : ev f x = some (.int K m)) (hy : ev f y = some (.int K n)) (hr : bits .and K m n = r) (hw : QP ops o f = some true := by rfl) : DV P ops o N f w (.int K r) := fun a ha =>
 QK.and (Qw ha hw) ho (ha.ev hx) (ha.ev hy) hr ⟨rfl, rfl⟩
theorem Jn {t t' : TypeId} {x y : Operand} {K : IntKind} {m n r : Int} (ho : o.op = .binOp .or t x y t') (hx : ev f x = some (.int K m)) (hy : ev f y = some (.int K n)) (hr : bits .or K m n = r) (hw : QP ops o f = some true := by rfl) : DV P ops o N f w (.int K r) := fun a ha =>
 QK.or (Qw ha hw) ho (ha.ev hx) (ha.ev hy) hr ⟨rfl, rfl⟩
theorem G9 {t t' : TypeId} {x y : Operand} {K : IntKind} {m n r : Int} (ho : o.op = .binOp .xor t x y t') (hx : ev f x = some (.int K m)) (hy : ev f y = some (.int K n)) (hr : bits .xor K m n = r) (hw : QP ops o f = some true := by rfl) : DV P ops o N f w (.int K r) := fun a ha =>
 QK.xor (Qw ha hw) ho (ha.ev hx) (ha.ev hy) hr ⟨rfl, rfl⟩
theorem Xe {t t' : TypeId} {x y : Operand} {K : IntKind} {m n : Int} (ho : o.op = .binOp .lss t x y t') (hx : ev f x = some (.int K m)) (hy : ev f y = some (.int K n)) (hw : QP ops o f = some true := by rfl) : DV P ops o N f w (.bool (decide (m < n))) := fun a ha =>
 QK.lss (Qw ha hw) ho (ha.ev hx) (ha.ev hy) rfl ⟨rfl, rfl⟩
theorem Hc {t t' : TypeId} {x y : Operand} {K : IntKind} {m n : Int} (ho : o.op = .binOp .leq t x y t') (hx : ev f x = some (.int K m)) (hy : ev f y = some (.int K n)) (hw : QP ops o f = some true := by rfl) : DV P ops o N f w (.bool (decide (m <= n))) := fun a ha =>
 QK.leq (Qw ha hw) ho (ha.ev hx) (ha.ev hy) rfl ⟨rfl, rfl⟩
theorem XL {t t' : TypeId} {x y : Operand} {K : IntKind} {m n : Int} (ho : o.op = .binOp .gtr t x y t') (hx : ev f x = some (.int K m)) (hy : ev f y = some (.int K n)) (hw : QP ops o f = some true := by rfl) : DV P ops o N f w (.bool (decide (n < m))) := fun a ha =>
 QK.gtr (Qw ha hw) ho (ha.ev hx) (ha.ev hy) rfl ⟨rfl, rfl⟩
theorem Yr {t t' : TypeId} {x y : Operand} {K : IntKind} {m n : Int} (ho : o.op = .binOp .geq t x y t') (hx : ev f x = some (.int K m)) (hy : ev f y = some (.int K n)) (hw : QP ops o f = some true := by rfl) : DV P ops o N f w (.bool (decide (n <= m))) := fun a ha =>
 QK.geq (Qw ha hw) ho (ha.ev hx) (ha.ev hy) rfl ⟨rfl, rfl⟩
theorem Zw {t t' : TypeId} {x y : Operand} {K : IntKind} {m n : Int} (ho : o.op = .binOp .eql t x y t') (hx : ev f x = some (.int K m)) (hy : ev f y = some (.int K n)) (hw : QP ops o f = some true := by rfl) : DV P ops o N f w (.bool (decide (m = n))) := fun a ha =>
 QK.eqlN (Qw ha hw) ho (ha.ev hx) (ha.ev hy) (Qam m n) ⟨rfl, rfl⟩
theorem Xl {t t' : TypeId} {x y : Operand} {K : IntKind} {m n : Int} (ho : o.op = .binOp .neq t x y t') (hx : ev f x = some (.int K m)) (hy : ev f y = some (.int K n)) (hw : QP ops o f = some true := by rfl) : DV P ops o N f w (.bool (!decide (m = n))) := fun a ha =>
 QK.neqN (Qw ha hw) ho (ha.ev hx) (ha.ev hy) (by rw [bne, Qam m n]) ⟨rfl, rfl⟩
theorem XP {s d : TypeId} {x : Operand} {K K' : IntKind} {ts : TypeDesc} {m r : Int} (ho : o.op = .convert s d x) (hs : P.underlying s = some ts) (hd : P.underlying d = some (.int K')) (hx : ev f x = some (.int K m)) (hr : K'.wrap m = r) (hw : QP ops o f = some true := by rfl) : DV P ops o N f w (.int K' r) := fun a ha =>
 QK.conv (Qw ha hw) ho hs hd (ha.ev hx) hr ⟨rfl, rfl⟩
theorem Hd {t e : TypeId} {x : Operand} {p : Option Addr} {l c : Nat} (ho : o.op = .call { callee := .builtin .len, args := #[x], argTypes := #[t] }) (ht : P.underlying t = some (.slice e)) (hx : ev f x = some (.slice p l c)) (hw : QP ops o f = some true := by rfl) : DV P ops o N f w (.int .i64 (l : Int)) := fun a ha =>
 QK.lenS (Qw ha hw) ho ht (ha.ev hx) ⟨rfl, rfl⟩
theorem Zd {x : Operand} {i : Nat} {vs : Array Value} {v : Value} (ho : o.op = .extract x i) (hx : ev f x = some (.tuple vs)) (hv : vs[i]? = some v) (hw : QP ops o f = some true := by rfl) : DV P ops o N f w v := fun a ha => by
 have hx := ha.ev hx
 exact QK.pure (Qw ha hw) _ (by unfold execOp; simp only [ho, hx, Instr.extract, hv, Sem.run_bind, Sem.run_pure, Result.andThen_ok]) ⟨rfl, rfl⟩
theorem Qee {fn : Fn} {first captured : Array Operand} {cs : List Value} (ho : o.op = .makeFunc fn first captured) (h1 : first = #[]) (hc : evl f captured.toList = some cs) (hw : QP ops o f = some true := by rfl) : DV P ops o N f w (.func fn #[] cs.toArray) := fun a ha => by
 have hx := ha.evl hc
 exact QK.pure (Qw ha hw) _ (by unfold execOp; simp only [ho, h1, Instr.makeFunc, Sem.run_bind, Sem.run_pure, Result.andThen_ok]; rw [<- hx]; congr 3 <;> first | (simp; done) | (rw [<- Array.toList_map])) ⟨rfl, rfl⟩
-- strings
theorem Qdy (s t : ByteArray) : (s.toList == t.toList) = decide (s = t) := by
 by_cases h : s = t
 . rw [ET h, decide_eq_true h]
 . rw [QaB h, decide_eq_false h]
theorem Qea {t t' : TypeId} {x y : Operand} {m n : ByteArray} (ho : o.op = .binOp .neq t x y t') (hx : ev f x = some (.string m)) (hy : ev f y = some (.string n)) (hw : QP ops o f = some true := by rfl) : DV P ops o N f w (.bool (!decide (m = n))) := fun a ha => by
 have hx := ha.ev hx
 have hy := ha.ev hy
 exact QK.pure (Qw ha hw) _ (by unfold execOp; simp only [ho, hx, hy, eqGuard, Sem.run_bind, Sem.run_pure, Result.andThen_ok]; simp [binOp, Op.stringOp, Qdy]) ⟨rfl, rfl⟩
theorem QcR {a : Act} {xs : List Operand} {vs : List Value} (h : xs.map a.eval = vs) : xs.toArray.map a.eval = vs.toArray := by rw [<- h]; simp
theorem FD {c : Operand} {F : FuncId} {fn : Func} {xs : List Operand} {ts : Array TypeId} {vs : List Value} {cap : Array Value} (ho : o.op = .call { callee := .value c, args := xs.toArray, argTypes := ts }) (hcv : ev f c = some (.func (.func F) #[] cap)) (hf : P.funcs[F]? = some fn) (hn : (fn.name == "runtime.NumGoroutine") = false) (hb : fn.body.isNone = false)
  (hx : evl f xs = some vs) (hc : Calls P F (vs.toArray ++ cap) w fun e w' => ∃ v, e = .returned v /\ R v w') (hw : QP ops o f = some true := by rfl) : DR P ops o N f w R := fun a ha => by
 have he := QcR (ha.evl hx)
 have hc' := ha.ev hcv
 exact QK.call (Qw ha hw) F (vs.toArray ++ cap) (by
  unfold execOp
  simp only [ho, resolve, he, hc', Deferred.ofValue, Sem.run_bind, Sem.run_pure, Result.andThen_ok, invoke]
  simp only [Array.empty_append, callFunc, Sem.run_bind, run_program, Result.andThen_ok, hf, hn, hb]
  rfl) hc
end
section
variable {P : Program} {N : Nat} {f : Fl} {w : World} {Q : Exit -> Act -> World -> Prop}
theorem WC.seq {x y : Code} (h : ∀ K : Act -> World -> Prop, (∀ {f w}, WC P N y Q f w -> ∀ a, Fr N a f -> K a w) -> WC P N x (Exit.then K Q) f w) : WC P N (.seq x y) Q f w := fun a ha =>
 wp_seq_k fun K hK => h K (fun {f w} hy a ha => hK a w (hy a ha)) a ha
theorem WC.skip (h : ∀ a, Fr N a f -> Q .normal a w) : WC P N .skip Q f w := fun a ha => wp_skip (h a ha)
theorem WC.exit {id : Nat} (h : ∀ a, Fr N a f -> Q (.exit id) a w) : WC P N (.exit id) Q f w := fun a ha => wp_exit (h a ha)
theorem WC.ret (h : ∀ a, Fr N a f -> Q .ret a w) : WC P N .ret Q f w := fun a ha => wp_ret (h a ha)
theorem WC.block {id : Nat} {c : Code} (h : WC P N c (Exit.inBlock id Q) f w) : WC P N (.block id c) Q f w := fun a ha => wp_block (h a ha)
theorem WC.region {id : Nat} {l : List Oper} (h : WL P l.toArray Q N l f w) : WC P N (.region id l.toArray false) Q f w := fun a ha => wp_region_lit (h a ha)
theorem WC.cond {c : Operand} {x y : Code} {b : Bool} (hc : ev f c = some (.bool b)) (ht : b = true -> WC P N x Q f w) (hf : b = false -> WC P N y Q f w) : WC P N (.cond c x y) Q f w := fun a ha =>
 wp_cond_split (ha.ev hc) (fun h => ht h a ha) (fun h => hf h a ha)
theorem WC.condT {c : Operand} {x y : Code} (hc : ev f c = some (.bool true)) (h : WC P N x Q f w) : WC P N (.cond c x y) Q f w := fun a ha => wp_cond_true (ha.ev hc) (h a ha)
theorem WC.condF {c : Operand} {x y : Code} (hc : ev f c = some (.bool false)) (h : WC P N y Q f w) : WC P N (.cond c x y) Q f w := fun a ha => wp_cond_false (ha.ev hc) (h a ha)
theorem WC.loop {σ : Type} {c : Code} (fr : σ -> Fl) (I : σ -> World -> Prop) (μ : σ -> Nat) (s0 : σ) (hs : Sub (fr s0) f) (h0 : I s0 w)
  (round : ∀ (K : Act -> World -> Prop) s w, I s w -> (∀ {f' w'} (s' : σ), I s' w' -> μ s' < μ s -> Sub (fr s') f' -> ∀ a, Fr N a f' -> K a w') -> WC P N c (Exit.then K Q) (fr s) w) : WC P N (.loop c) Q f w := fun a ha =>
 wp_loop_ghost (fun n a w => ∃ s, μ s = n /\ I s w /\ Fr N a (fr s)) (μ s0) ⟨s0, rfl, h0, ha.sub hs⟩ fun n a w hI => by
  obtain ⟨s, rfl, hI, hfr⟩ := hI
  exact round _ s w hI (fun {f' w'} s' hI' hlt hsub a' hf' => ⟨μ s', hlt, s', rfl, hI', hf'.sub hsub⟩) a hfr
theorem WC.loop2 {α β : Type} {c : Code} (fr : α -> β -> Fl) (I : α -> β -> World -> Prop) (μ : α -> β -> Nat) (a0 : α) (b0 : β) (hs : Sub (fr a0 b0) f) (h0 : I a0 b0 w)
  (round : ∀ (K : Act -> World -> Prop) a b w, I a b w -> (∀ {f' w'} (a' : α) (b' : β), I a' b' w' -> μ a' b' < μ a b -> Sub (fr a' b') f' -> ∀ x, Fr N x f' -> K x w') -> WC P N c (Exit.then K Q) (fr a b) w) : WC P N (.loop c) Q f w :=
 WC.loop (σ := α × β) (fun s => fr s.1 s.2) (fun s => I s.1 s.2) (fun s => μ s.1 s.2) (a0, b0) hs h0 fun K s w hI hK => round K s.1 s.2 w hI fun a' b' h1 h2 h3 => hK (a', b') h1 h2 h3
theorem WC.loop3 {α β γ : Type} {c : Code} (fr : α -> β -> γ -> Fl) (I : α -> β -> γ -> World -> Prop) (μ : α -> β -> γ -> Nat) (a0 : α) (b0 : β) (c0 : γ) (hs : Sub (fr a0 b0 c0) f) (h0 : I a0 b0 c0 w)
  (round : ∀ (K : Act -> World -> Prop) a b c' w, I a b c' w -> (∀ {f' w'} (a' : α) (b' : β) (c'' : γ), I a' b' c'' w' -> μ a' b' c'' < μ a b c' -> Sub (fr a' b' c'') f' -> ∀ x, Fr N x f' -> K x w') -> WC P N c (Exit.then K Q) (fr a b c') w) : WC P N (.loop c) Q f w :=
 WC.loop (σ := α × β × γ) (fun s => fr s.1 s.2.1 s.2.2) (fun s => I s.1 s.2.1 s.2.2) (fun s => μ s.1 s.2.1 s.2.2) (a0, b0, c0) hs h0 fun K s w hI hK => round K s.1 s.2.1 s.2.2 w hI fun a' b' c' h1 h2 h3 => hK (a', b', c') h1 h2 h3
end
theorem Qc7 {P : Program} {f : FuncId} {fn : Func} {args : Array Value} {body : Code} {w : World} {R : Ending -> World -> Prop} {N : Nat} (hf : P.funcs[f]? = some fn) (hb : fn.body = some body) (hn : fn.ntmps = N) (hN : decide (args.size <= N) = true)
    (h : ∀ a, Fm N a -> (∀ t v, args[t]? = some v -> a.eval (.tmp t) = v) -> body.wp P (bodyPost P fn R) a w) : Calls P f args w R := by
  refine calls_of_wp hf hb ?_
  refine h _ ⟨?_, rfl⟩ fun t v hv => ?_
  . have := of_decide_eq_true hN
    simp [hn]
    omega
  . have ht := (Array.getElem?_eq_some_iff.1 hv).1
    rw [VD]
    have he := Array.getElem?_eq_getElem ht
    rw [he] at hv
    simp [Array.getElem?_append, ht]
    exact Option.some.inj hv
theorem EC {P : Program} {F : FuncId} {fn : Func} {body : Code} {w : World} {R : Ending -> World -> Prop} {N : Nat} (vs : List Value) (f : Fl) (hf : P.funcs[F]? = some fn) (hb : fn.body = some body) (hn : fn.ntmps = N) (hN : decide (vs.length <= N) = true)
  (hfr : f = (vs.zipIdx.map fun p => (p.2, p.1))) (h : WC P N body (bodyPost P fn R) f w) : Calls P F vs.toArray w R := by
 refine Qc7 hf hb hn (by simpa using hN) fun a hfm harg => h a ⟨hfm, fun t v hv => harg t v ?_⟩
 subst hfr
 have key : ∀ (l : List Value) (k : Nat), UN ((l.zipIdx k).map fun p => (p.2, p.1)) t = some v -> k <= t /\ l[t - k]? = some v := by
  intro l
  induction l with
  | nil => intro k hk; cases hk
  | cons x l ih =>
   intro k hk
   simp only [List.zipIdx_cons, List.map_cons] at hk
   unfold UN at hk
   cases hb : Nat.beq k t with
   | true =>
    rw [hb] at hk
    cases hk
    have := Nat.eq_of_beq_eq_true hb
    subst this
    simp
   | false =>
    rw [hb] at hk
    obtain ⟨h1, h2⟩ := ih (k + 1) hk
    refine ⟨by omega, ?_⟩
    rw [show t - k = (t - (k + 1)) + 1 by omega]
    simpa using h2
 have := (key vs 0 hv).2
 simpa using this
def fin (P : Program) (fn : Func) (R : Ending -> World -> Prop) (a : Act) (w : World) : Prop := a.defers = [] /\ ∃ v, (results fn a.tmps).run P w = .ok v w /\ R (.returned v) w
section
variable {P : Program} {fn : Func} {R : Ending -> World -> Prop} {N : Nat} {f : Fl} {w : World}
theorem Fd {a : Act} {t : Nat} {v : Value} (ha : Fr N a f) (h : UN f t = some v) : a.tmps.getD t undef = v := ha.2 t v h
end
inductive VS where
 | is (v : Value)
 | by (p : Value -> World -> Prop)
def VS.ok : VS -> Value -> World -> Prop
 | .is v, u, _ => u = v
 | .by p, u, w => p u w
def VS.mono : List (Option Tmp × VS) -> Prop
 | [] => True
 | (_, .is _) :: l => VS.mono l
 | (_, .by p) :: l => (∀ u W W', Below W.heap.size W W' -> p u W -> p u W') /\ VS.mono l
def XE (P : Program) (ops : Array Oper) (o : Oper) (N : Nat) (W : World) (sd : List (Option Tmp × VS)) (R : Value -> World -> Prop) : List Nat -> Fl -> Prop
 | [], f => DR P ops o N f W R
 | j :: l, f => match sd[j]? with
  | some (some d, .is v) => XE P ops o N W sd R l ((d, v) :: f)
  | some (some d, .by p) => ∀ u, p u W -> XE P ops o N W sd R l ((d, u) :: f)
  | some (none, .by p) => ∀ u, p u W -> XE P ops o N W sd R l f
  | _ => XE P ops o N W sd R l f
def XT (sd : List (Option Tmp × VS)) (k : Nat) (v : Value) (w : World) : Prop := match sd[k]? with
 | some (_, s) => s.ok v w
 | none => True
def UH (P : Program) (ops : Array Oper) (N : Nat) (w0 : World) (sd : List (Option Tmp × VS)) (dl : List (List Nat)) (f : Fl) : Nat -> List Oper -> Prop
 | _, [] => True
 | k, o :: l => (∀ W, Below w0.heap.size w0 W -> XE P ops o N W sd (fun v W' => Below W.heap.size W W' /\ XT sd k v W') ((dl[k]?).getD []) f) /\ UH P ops N w0 sd dl f (k + 1) l
def V8 (K : Fl -> World -> Prop) (W : World) : List (Option Tmp × VS) -> Fl -> Prop
 | [], f => K f W
 | (some d, .is v) :: l, f => V8 K W l ((d, v) :: f)
 | (some d, .by p) :: l, f => ∀ u, p u W -> V8 K W l ((d, u) :: f)
 | (none, .by p) :: l, f => ∀ u, p u W -> V8 K W l f
 | (none, .is _) :: l, f => V8 K W l f
def E8 (N : Nat) (sd : List (Option Tmp × VS)) : Bool := sd.all fun p => match p.1 with
 | some d => decide (d < N)
 | none => true
section
variable {P : Program} {ops : Array Oper} {N : Nat} {sd : List (Option Tmp × VS)} {dl : List (List Nat)}
theorem X4 (g : Nat -> Value) (j : Nat) (l : List Nat) : Zj g (j :: l) j = g j := by simp [Zj]
theorem QcF (hN : E8 N sd = true) {j d : Nat} {s : VS} (h : sd[j]? = some (some d, s)) : decide (d < N) = true := by
 have := List.all_eq_true.1 hN _ (List.mem_of_getElem? h)
 simpa using this
theorem XE.to {o : Oper} {W : World} {R : Value -> World -> Prop} (hN : E8 N sd = true) {g : Nat -> Value} : ∀ (l : List Nat) (f : Fl) (a : Act), XE P ops o N W sd R l f -> Fr N a f -> Vp (fun j g w => XT sd j (g j) w) dl g W l -> QK P ops o (Eg (sd.map (·.1)) g l a) W R
 | [], f, a, h, ha, _ => h a ha
 | j :: l, f, a, h, ha, hh => by
  obtain ⟨h1, h2⟩ := hh
  simp only [X4] at h1
  unfold XE at h
  unfold Eg
  rw [List.getElem?_map]
  cases hs : sd[j]? with
  | none => rw [hs] at h; exact XE.to hN l f _ h ha h2
  | some p =>
   obtain ⟨d, s⟩ := p
   rw [hs] at h
   unfold XT at h1
   rw [hs] at h1
   cases d with
   | none =>
    cases s with
    | is v => exact XE.to hN l f _ h ha h2
    | «by» p => exact XE.to hN l f _ (h _ h1) ha h2
   | some d =>
    have hd := QcF hN hs
    cases s with
    | is v => exact XE.to hN l _ _ h (by have e : g j = v := h1; rw [<- e]; exact ha.put hd _) h2
    | «by» p => exact XE.to hN l _ _ (h _ h1) (ha.put hd _) h2
theorem V8.to {K : Fl -> World -> Prop} {W : World} (hN : E8 N sd = true) {Q : Act -> World -> Prop} (hK : ∀ f, K f W -> ∀ a, Fr N a f -> Q a W) {g : Nat -> Value} : ∀ (l : List (Option Tmp × VS)) (k : Nat) (f : Fl) (a : Act), sd.drop k = l -> V8 K W l f -> Fr N a f -> Vp (fun j g w => XT sd j (g j) w) dl g W (List.range' k l.length) -> Q (Eg (sd.map (·.1)) g (List.range' k l.length) a) W
 | [], k, f, a, _, h, ha, _ => hK f h a ha
 | (d, s) :: l, k, f, a, he, h, ha, hh => by
  have hs : sd[k]? = some (d, s) := by
   have := congrArg List.head? he
   simpa [List.head?_drop] using this
  have ht : sd.drop (k + 1) = l := by rw [<- List.drop_drop, he]; rfl
  rw [List.length_cons, List.range'_succ] at hh ⊢
  obtain ⟨h1, h2⟩ := hh
  simp only [X4] at h1
  unfold XT at h1
  rw [hs] at h1
  unfold Eg
  rw [List.getElem?_map, hs]
  cases d with
  | none =>
   cases s with
   | is v => exact V8.to hN hK l (k + 1) f _ ht h ha h2
   | «by» p => exact V8.to hN hK l (k + 1) f _ ht (h _ h1) ha h2
  | some d =>
   have hd := QcF hN hs
   cases s with
   | is v => exact V8.to hN hK l (k + 1) _ _ ht h (by have e : g k = v := h1; rw [<- e]; exact ha.put hd _) h2
   | «by» p => exact V8.to hN hK l (k + 1) _ _ ht (h _ h1) (ha.put hd _) h2
theorem Kc : ∀ {sd : List (Option Tmp × VS)}, VS.mono sd -> ∀ {j : Nat} {d : Option Tmp} {p : Value -> World -> Prop}, sd[j]? = some (d, .by p) -> ∀ u W W', Below W.heap.size W W' -> p u W -> p u W'
 | [], _, j, d, p, h => by simp at h
 | (d', .is v) :: l, hm, j, d, p, h => by
  cases j with
  | zero => simp at h
  | succ j => exact Kc (sd := l) hm (by simpa using h)
 | (d', .by q) :: l, hm, j, d, p, h => by
  cases j with
  | zero =>
   simp only [List.getElem?_cons_zero, Option.some.injEq, Prod.mk.injEq, VS.by.injEq] at h
   rw [<- h.2]
   exact hm.1
  | succ j => exact Kc (sd := l) hm.2 (by simpa using h)
end
structure Yi (B : Nat) (w w' : World) : Prop where
 os : w'.os = w.os
 tape : w'.tape = w.tape
 output : w'.output = w.output
 size : w'.heap.size = w.heap.size
 block : ∀ k, k ≠ B -> w'.heap[k]? = w.heap[k]?
theorem Yi.below {n0 B : Nat} {w0 w w' : World} (h : Yi B w w') (hb : Below n0 w0 w) (hB : n0 <= B) : Below n0 w0 w' :=
 ⟨by rw [h.os]; exact hb.os, by rw [h.tape]; exact hb.tape, by rw [h.output]; exact hb.output, by rw [h.size]; exact hb.size, fun k hk => by rw [h.block k (by omega)]; exact hb.block k hk⟩
theorem Vk (w : World) (B : Nat) (cs : Array Value) : Yi B w (w.setRow B cs) := ⟨rfl, rfl, rfl, by simp [World.setRow], fun k hk => setRow_other w B k cs hk⟩
def Up (L : List Nat) (w w' : World) : Prop := w.heap.size <= w'.heap.size /\ ∀ k, k ∉ L -> k < w.heap.size -> w'.heap[k]? = w.heap[k]?
theorem Up.of_below {L : List Nat} {w w' : World} (h : Below w.heap.size w w') : Up L w w' := ⟨h.size, fun k _ hk => h.block k hk⟩
theorem Up.of_only {L : List Nat} {B : Nat} {w w' : World} (h : Yi B w w') (hB : B ∈ L) : Up L w w' := ⟨by rw [h.size]; exact Nat.le_refl _, fun k hk _ => h.block k (fun e => hk (e ▸ hB))⟩
def Xc (w : World) (B : Nat) (cs : List Value) : Prop := ∃ t, w.heap[B]? = some (.cells cs.toArray t (0, 0))
theorem Xc.lt {w : World} {B : Nat} {cs : List Value} (h : Xc w B cs) : B < w.heap.size := by
 obtain ⟨t, h⟩ := h
 exact (Array.getElem?_eq_some_iff.1 h).1
theorem Xc.below {w w' : World} {B : Nat} {cs : List Value} (h : Xc w B cs) (hb : Below w.heap.size w w') : Xc w' B cs := by
 obtain ⟨t, h'⟩ := h
 exact ⟨t, by rw [hb.block B (Xc.lt ⟨t, h'⟩)]; exact h'⟩
theorem Xc.other {w w' : World} {B C : Nat} {cs : List Value} (h : Xc w B cs) (ho : Yi C w w') (hn : B ≠ C) : Xc w' B cs := by
 obtain ⟨t, h'⟩ := h
 exact ⟨t, by rw [ho.block B hn]; exact h'⟩
theorem Xc.range {w : World} {B : Nat} {cs : List Value} (h : Xc w B cs) : w.rangeAt B 0 cs := fun j v hj => by
 obtain ⟨t, h⟩ := h
 simp [World.cell?, h, hj]
theorem Xc.part {w : World} {B : Nat} {cs : List Value} (h : Xc w B cs) (o n : Nat) : w.rangeAt B o ((cs.drop o).take n) := fun j v hj => by
  rw [List.getElem?_take] at hj
  split at hj
  . rw [List.getElem?_drop] at hj
    have := h.range (o + j) v hj
    simpa using this
  . cases hj
theorem Xc.partE {w : World} {B : Nat} {cs cs' : List Value} (h : Xc w B cs) {o n : Nat} (he : (cs.drop o).take n = cs') : w.rangeAt B o cs' := he ▸ h.part o n
theorem Xc.cell {w : World} {B k : Nat} {cs : List Value} {v : Value} (h : Xc w B cs) (hk : cs[k]? = some v) : w.cell? ⟨B, k, none⟩ = some v := by simpa using h.range k v hk
theorem Vi {w w' : World} {L : List Nat} {X o : Nat} {cs : List Value} (h : w.rangeAt X o cs) (ha : Up L w w') (hX : X ∉ L) : w'.rangeAt X o cs := fun j v hj => by
 have h1 := h j v hj
 have hlt := World.block_lt_of_cell? w _ h1
 rw [<- h1]
 exact World.cell?_of_block (ha.2 X hX hlt)
theorem GS {w : World} {X o : Nat} {cs : List Value} (h : w.rangeAt X o cs) (hn : 0 < cs.length) : X < w.heap.size :=
 World.block_lt_of_cell? w _ (h 0 _ (List.getElem?_eq_getElem hn))
theorem Uw {w : World} {X o : Nat} {cs : List Value} (h : w.rangeAt X o cs) (p n : Nat) : w.rangeAt X (o + p) ((cs.drop p).take n) := fun j v hj => by
  rw [List.getElem?_take] at hj
  split at hj
  . rw [List.getElem?_drop] at hj
    rw [Nat.add_assoc]
    exact h (p + j) v hj
  . cases hj
def JB (L : List Nat) (w : World) (u : Value) (cs : List Value) : Prop := 0 < cs.length /\ ∃ X o, u = .pointer (some ⟨X, o, none⟩) /\ X ∉ L /\ w.rangeAt X o cs
theorem JB.agree {L : List Nat} {w w' : World} {u : Value} {cs : List Value} (h : JB L w u cs) (ha : Up L w w') : JB L w' u cs := by
 obtain ⟨h0, X, o, h1, h2, h3⟩ := h
 exact ⟨h0, X, o, h1, h2, Vi h3 ha h2⟩
theorem JB.below {L : List Nat} {w w' : World} {u : Value} {cs : List Value} (h : JB L w u cs) (hb : Below w.heap.size w w') : JB L w' u cs := h.agree (.of_below hb)
theorem JB.only {L : List Nat} {w w' : World} {u : Value} {cs : List Value} (h : JB L w u cs) {B : Nat} (ho : Yi B w w') (hB : B ∈ L) : JB L w' u cs := h.agree (.of_only ho hB)
theorem JB.more {L : List Nat} {w w' : World} {u : Value} {cs : List Value} (h : JB L w u cs) (hb : Below w.heap.size w w') {B : Nat} (hB : w.heap.size <= B) : JB (B :: L) w' u cs := by
 have h := h
 obtain ⟨h0, X, o, h1, h2, h3⟩ := h
 have hlt := GS h3 h0
 refine ⟨h0, X, o, h1, ?_, Vi h3 (.of_below (L := L) hb) h2⟩
 simp only [List.mem_cons, not_or]
 exact ⟨by omega, h2⟩
def QD (s : Nat) (L : List Nat) (w : World) (v : Value) (rs : List (List Value)) : Prop :=
 0 < s /\ (∀ r ∈ rs, r.length = s) /\ ∃ a cap, v = .slice a rs.length cap /\ rs.length <= cap /\ cap <= maxLen /\ (a = none -> cap = 0) /\ (rs ≠ [] -> ∃ X o, a = some ⟨X, o, none⟩ /\ X ∉ L /\ w.rangeAt X o rs.flatten)
theorem ZI {s : Nat} : ∀ {rs : List (List Value)}, (∀ r ∈ rs, r.length = s) -> rs.flatten.length = rs.length * s
 | [], _ => by simp
 | r :: rs, h => by
  rw [List.flatten_cons, List.length_append, ZI (fun r hr => h r (List.mem_cons_of_mem _ hr)), h r (by simp), List.length_cons, Nat.succ_mul, Nat.add_comm]
theorem HV {s : Nat} : ∀ {rs : List (List Value)} (i : Nat), (∀ r ∈ rs, r.length = s) -> rs.flatten.drop (i * s) = (rs.drop i).flatten
 | rs, 0, _ => by simp
 | [], i + 1, _ => by simp
 | r :: rs, i + 1, h => by
  have hr := h r (by simp)
  rw [List.flatten_cons, Nat.succ_mul, Nat.add_comm, <- List.drop_drop, <- hr, List.drop_left, hr, HV i (fun r hr => h r (List.mem_cons_of_mem _ hr)), List.drop_succ_cons]
theorem UZ {s : Nat} {rs : List (List Value)} {i : Nat} {r : List Value} (h : ∀ r ∈ rs, r.length = s) (hi : rs[i]? = some r) : (rs.flatten.drop (i * s)).take s = r := by
 obtain ⟨hl, he⟩ := List.getElem?_eq_some_iff.1 hi
 have hr := h r (List.mem_of_getElem? hi)
 rw [HV i h, List.drop_eq_getElem_cons hl, he, List.flatten_cons, <- hr, List.take_left]
theorem QD.agree {s : Nat} {L : List Nat} {w w' : World} {v : Value} {rs : List (List Value)} (h : QD s L w v rs) (ha : Up L w w') : QD s L w' v rs := by
 obtain ⟨h0, hr, a, cap, h1, h2, h3, h4, h5⟩ := h
 refine ⟨h0, hr, a, cap, h1, h2, h3, h4, fun hn => ?_⟩
 obtain ⟨X, o, e, hX, hc⟩ := h5 hn
 exact ⟨X, o, e, hX, Vi hc ha hX⟩
theorem QD.below {s : Nat} {L : List Nat} {w w' : World} {v : Value} {rs : List (List Value)} (h : QD s L w v rs) (hb : Below w.heap.size w w') : QD s L w' v rs := h.agree (.of_below hb)
theorem QD.only {s : Nat} {L : List Nat} {w w' : World} {v : Value} {rs : List (List Value)} (h : QD s L w v rs) {B : Nat} (ho : Yi B w w') (hB : B ∈ L) : QD s L w' v rs := h.agree (.of_only ho hB)
theorem QD.more {s : Nat} {L : List Nat} {w w' : World} {v : Value} {rs : List (List Value)} (h : QD s L w v rs) (hb : Below w.heap.size w w') {B : Nat} (hB : w.heap.size <= B) : QD s (B :: L) w' v rs := by
 obtain ⟨h0, hr, a, cap, h1, h2, h3, h4, h5⟩ := h.below hb
 obtain ⟨_, _, a', cap', h1', _, _, _, h5'⟩ := h
 refine ⟨h0, hr, a, cap, h1, h2, h3, h4, fun hn => ?_⟩
 obtain ⟨X, o, e, hX, hc⟩ := h5 hn
 obtain ⟨X', o', e', hX', hc'⟩ := h5' hn
 refine ⟨X, o, e, ?_, hc⟩
 have hlen : 0 < rs.flatten.length := by
  rw [ZI hr]
  exact Nat.mul_pos (List.length_pos_iff.2 hn) h0
 have hlt := GS hc' hlen
 have : X = X' := by rw [h1] at h1'; simp only [Value.slice.injEq] at h1'; rw [e, e'] at h1'; simp at h1'; exact h1'.1.1
 simp only [List.mem_cons, not_or]
 exact ⟨by omega, hX⟩
theorem QD.less {s : Nat} {L L' : List Nat} {w : World} {v : Value} {rs : List (List Value)} (h : QD s L w v rs) (hl : ∀ x, x ∈ L' -> x ∈ L) : QD s L' w v rs := by
 obtain ⟨h0, hr, a, cap, h1, h2, h3, h4, h5⟩ := h
 refine ⟨h0, hr, a, cap, h1, h2, h3, h4, fun hn => ?_⟩
 obtain ⟨X, o, e, hX, hc⟩ := h5 hn
 exact ⟨X, o, e, fun hx => hX (hl X hx), hc⟩
theorem QD.nil {s : Nat} {L : List Nat} {w : World} (hs : 0 < s) : QD s L w (.slice none 0 0) [] := ⟨hs, by simp, none, 0, rfl, Nat.le_refl _, by unfold maxLen; omega, fun _ => rfl, fun h => absurd rfl h⟩
theorem QD.len {s : Nat} {L : List Nat} {w : World} {v : Value} {rs : List (List Value)} (h : QD s L w v rs) : rs.length <= maxLen := by
 obtain ⟨_, _, a, cap, _, h2, h3, _⟩ := h
 omega

theorem Qk : ∀ v ∈ ([] : List Value), v.oneCell' = true := fun v h => by cases h
theorem VY {v : Value} {l : List Value} (h : v.oneCell' = true) (t : ∀ u ∈ l, u.oneCell' = true) : ∀ u ∈ v :: l, u.oneCell' = true := fun u hu => by
 cases hu with
 | head => exact h
 | tail _ hu => exact t u hu
theorem Ux {v : Value} (h : v.oneCell' = true) : v.cells.toList = [v] := by cases v <;> simp_all [Value.cells, Value.oneCell']
theorem QD.one {s : Nat} {L : List Nat} {w : World} {v : Value} {rs : List (List Value)} (h : QD s L w v rs) : v.oneCell' = true := by
 obtain ⟨_, _, a, cap, rfl, _⟩ := h
 rfl
-- what is asked of types, as one test each
def Jp (P : Program) (t n : Nat) : Bool := (match P.underlying t with | some (.struct _) => true | some (.array _ _) => true | _ => false) && (match P.info? t with | some i => i.size == n | none => false)
def J9 (P : Program) (t : Nat) : Bool := (match P.underlying t with | none => false | some (.struct _) => false | some (.array _ _) => false | some _ => true) && (match P.info? t with | some i => i.size == 1 | none => false)
def Zh (P : Program) (t n : Nat) : Bool := match P.info? t with | some i => i.size == n | none => false
def X3 (P : Program) (t s : Nat) : Bool := match P.underlying t with | some (.slice e) => Zh P e s | _ => false
def YK (P : Program) (s : TypeId) (f off : Nat) : Bool := match P.underlying s with
 | some (.struct fs) => match fs[f]? with
  | some fd => fd.offset == off && (match P.info? fd.type with | some i => i.size != 0 | none => false)
  | none => false
 | _ => false
section
variable {P : Program}
theorem Vl {t n : Nat} (h : Zh P t n = true) : ∃ i, P.info? t = some i /\ i.size = n := by
 unfold Zh at h
 split at h
 . rename_i i hi; exact ⟨i, hi, by simpa using h⟩
 . cases h
theorem VK {t n : Nat} (h : Zh P t n = true) : (P.info? t).map (·.size) = some n := by
 obtain ⟨i, hi, hn⟩ := Vl h
 rw [hi, <- hn]; rfl
theorem DZ {t n : Nat} (h : Jp P t n = true) : ∃ d, P.underlying t = some d /\ d.isRow = true /\ (P.info? t).map (·.size) = some n := by
 unfold Jp at h
 simp only [Bool.and_eq_true] at h
 obtain ⟨h1, h2⟩ := h
 have h3 := VK (P := P) (t := t) (n := n) h2
 split at h1
 . rename_i fs hu; exact ⟨_, hu, rfl, h3⟩
 . rename_i m e hu; exact ⟨_, hu, rfl, h3⟩
 . cases h1
theorem DY {t : Nat} (h : J9 P t = true) : ∃ d, P.underlying t = some d /\ (match d with | .struct _ | .array _ _ => true | _ => false) = false /\ (P.info? t).map (·.size) = some 1 := by
  unfold J9 at h
  simp only [Bool.and_eq_true] at h
  obtain ⟨h1, h2⟩ := h
  have h3 := VK (P := P) (t := t) (n := 1) h2
  split at h1
  . cases h1
  . cases h1
  . cases h1
  . rename_i d hs ha hu
    exact ⟨_, hu, by cases d <;> simp_all, h3⟩
theorem X6 {t s : Nat} (h : X3 P t s = true) : ∃ e, P.underlying t = some (.slice e) /\ (P.info? e).map (·.size) = some s := by
 unfold X3 at h
 split at h
 . rename_i e hu; exact ⟨e, hu, VK h⟩
 . cases h
theorem Zs (b o j : Nat) : (⟨b, o, none⟩ : Addr).add j = ⟨b, o + j, none⟩ := Go.Addr.add_mid b o j
theorem GM {w : World} {s : TypeId} {f off : Nat} (hf : YK P s f off = true) (B o0 : Nat) : (Instr.fieldAt s (.pointer (some ⟨B, o0, none⟩)) f).run P w = .ok (.pointer (some ⟨B, o0 + off, none⟩)) w := by
 unfold YK at hf
 cases hu : P.underlying s with
 | none => rw [hu] at hf; cases hf
 | some d =>
  rw [hu] at hf
  cases d <;> simp only [Bool.false_eq_true] at hf
  rename_i fs
  cases hfs : fs[f]? with
  | none => rw [hfs] at hf; cases hf
  | some fd =>
   rw [hfs] at hf
   simp only [Bool.and_eq_true, beq_iff_eq] at hf
   obtain ⟨h1, h2⟩ := hf
   subst h1
   cases hi : P.info? fd.type with
   | none => rw [hi] at h2; cases h2
   | some i =>
    rw [hi] at h2
    have hne : i.size ≠ 0 := by simpa using h2
    simp [Instr.fieldAt, fieldPlace, Instr.sureAddr, Sem.run_bind, run_underlying hu w, hfs, sizeOf, typeInfo, hi, hne, Zs]
theorem JX {w : World} {t e : TypeId} {n c s : Nat} (hu : P.underlying t = some (.slice e)) (hs : (P.info? e).map (·.size) = some s) (X o0 : Nat) (k : IntKind) (i : Int) (h0 : 0 <= i) (h1 : i < n) :
  (Instr.indexAt t (.slice (some ⟨X, o0, none⟩) n c) (.int k i)).run P w = .ok (.pointer (some ⟨X, o0 + i.toNat * s, none⟩)) w := by
 cases hi : P.info? e with
 | none => rw [hi] at hs; cases hs
 | some q =>
  have hq : q.size = s := by simpa [hi] using hs
  simp [Instr.indexAt, asIntOf, Sem.run_bind, run_underlying hu w, h0, h1, sizeOf, typeInfo, hi, hq, Zs]
theorem QbT {w : World} {t e : TypeId} {n s : Nat} (hu : P.underlying t = some (.array n e)) (hs : (P.info? e).map (·.size) = some s) (B o0 : Nat) (k : IntKind) (i : Int) (h0 : 0 <= i) (h1 : i < n) :
  (Instr.indexAt t (.pointer (some ⟨B, o0, none⟩)) (.int k i)).run P w = .ok (.pointer (some ⟨B, o0 + i.toNat * s, none⟩)) w := by
 cases hi : P.info? e with
 | none => rw [hi] at hs; cases hs
 | some q =>
  have hq : q.size = s := by simpa [hi] using hs
  simp [Instr.indexAt, asIntOf, Instr.sureAddr, Sem.run_bind, run_underlying hu w, h0, h1, sizeOf, typeInfo, hi, hq, Zs]
end
section
variable {P : Program} {ops : Array Oper} {o : Oper} {N : Nat} {f : Fl} {w : World}
def Qfd (w : World) (cs : List Value) (u : Value) (W : World) : Prop := u = .pointer (some ⟨w.heap.size, 0, none⟩) /\ Xc W w.heap.size cs /\ Below w.heap.size w W /\ w.heap.size < W.heap.size
theorem JI (w : World) (t : TypeId) (V : Value) : Qfd w V.cells.toList (.pointer (some ⟨w.heap.size, 0, none⟩)) (w.alloc (.cells V.cells t)) :=
 ⟨rfl, ⟨t, by rw [heap_alloc_new]⟩, (Below.refl _ _).alloc (Nat.le_refl _) _, (Array.getElem?_eq_some_iff.1 (heap_alloc_new w _)).1⟩
theorem Xa {t : TypeId} {x : Operand} {V : Value} {cs : List Value} (ho : o.op = .box t x) (hx : ev f x = some V) (hc : V.cells.toList = cs) (hw : QP ops o f = some true := by rfl) : DR P ops o N f w (Qfd w cs) := fun a ha => by
 have hx := ha.ev hx
 subst hc
 exact QK.of_wp (Qw ha hw) fun K hK => by
  unfold Oper.wp execOp
  simp only [ho, hx, Sem.run_bind, Instr.box, newVar, newRow, run_newObj_alloc, Sem.run_pure, Result.andThen_ok]
  exact hK _ _ (JI w t V)
theorem Qu {t : TypeId} {Z : Value} {cs : List Value} (ho : o.op = .alloc t) (hz : (P.info? t).bind (·.zero) = some Z) (hc : Z.cells.toList = cs) (hw : QP ops o f = some true := by rfl) : DR P ops o N f w (Qfd w cs) := fun a ha => by
 subst hc
 exact QK.of_wp (Qw ha hw) fun K hK => by
  cases hi : P.info? t with
  | none => rw [hi] at hz; cases hz
  | some i =>
   rw [hi] at hz
   have hz' : i.zero = some Z := hz
   have hti : (typeInfo t).run P w = .ok i w := by simp [typeInfo, hi]
   unfold Oper.wp execOp
   simp only [ho, Sem.run_bind, Instr.alloc, zeroValue, hti, hz', newVar, newRow, run_newObj_alloc, Sem.run_pure, Result.andThen_ok]
   exact hK _ _ (JI w t Z)
theorem Qn {t : TypeId} {x : Operand} {k off B o0 o1 : Nat} (ho : o.op = .fieldAddr t x k) (hf : YK P t k off = true) (hx : ev f x = some (.pointer (some ⟨B, o0, none⟩))) (h1 : o0 + off = o1) (hw : QP ops o f = some true := by rfl) : DV P ops o N f w (.pointer (some ⟨B, o1, none⟩)) := fun a ha => by
 have hx := ha.ev hx
 exact QK.pure (Qw ha hw) _ (by unfold execOp; simp only [ho, hx, Sem.run_bind, GM hf, Result.andThen_ok, h1]; rfl) ⟨rfl, rfl⟩
theorem QU {t e : TypeId} {x y : Operand} {n s B o0 o1 : Nat} {K : IntKind} {i : Int} (ho : o.op = .indexAddr t x y) (hu : P.underlying t = some (.array n e)) (hs : Zh P e s = true) (hx : ev f x = some (.pointer (some ⟨B, o0, none⟩))) (hy : ev f y = some (.int K i)) (h0 : 0 <= i /\ i < n) (h1 : o0 + i.toNat * s = o1) (hw : QP ops o f = some true := by rfl) : DV P ops o N f w (.pointer (some ⟨B, o1, none⟩)) := fun a ha => by
 have hx := ha.ev hx
 have hy := ha.ev hy
 exact QK.pure (Qw ha hw) _ (by unfold execOp; simp only [ho, hx, hy, Sem.run_bind, QbT hu (VK hs) B o0 K i h0.1 h0.2, Result.andThen_ok, h1]; rfl) ⟨rfl, rfl⟩
theorem Qi {t : TypeId} {x : Operand} {B o0 : Nat} {v : Value} (ho : o.op = .load t x) (ht : J9 P t = true) (hx : ev f x = some (.pointer (some ⟨B, o0, none⟩))) (hc : w.cell? ⟨B, o0, none⟩ = some v) (hw : QP ops o f = some true := by rfl) : DV P ops o N f w v := fun a ha => by
 obtain ⟨d, hu, hd, _⟩ := DY ht
 have hx := ha.ev hx
 have hagg : (isAgg t).run P w = .ok false w := by
  unfold isAgg
  rw [Sem.run_bind, run_underlying hu w]
  cases d <;> simp_all
 exact QK.pure (Qw ha hw) v (by unfold execOp; simp [ho, hx, Sem.run_bind, Instr.loadAt, Instr.sureAddr, loadVar, hagg, hc]) ⟨rfl, rfl⟩
theorem Qg {t : TypeId} {x : Operand} {B o0 n : Nat} {cs : List Value} (ho : o.op = .load t x) (ht : Jp P t n = true) (hx : ev f x = some (.pointer (some ⟨B, o0, none⟩))) (hc : w.rangeAt B o0 cs) (hn : cs.length = n) (hw : QP ops o f = some true := by rfl) : DV P ops o N f w (.agg cs.toArray) := fun a ha => by
 obtain ⟨d, hu, hd, hi⟩ := DZ ht
 have hx := ha.ev hx
 exact QK.of_wp (Qw ha hw) fun K hK => wp_load_mid t x ho B o0 hx cs d hc hu hd (by rw [hi, hn]) (hK _ _ ⟨rfl, rfl⟩)
theorem Qh {t : TypeId} {x y : Operand} {B o0 n : Nat} {V : Value} {vs cs cs' : List Value} (ho : o.op = .store t x y) (ht : Zh P t n = true) (hx : ev f x = some (.pointer (some ⟨B, o0, none⟩))) (hy : ev f y = some V) (hv : V.cells.toList = vs) (h1 : ∀ v ∈ vs, v.oneCell' = true)
  (hb : Xc w B cs) (hn : vs.length = n) (hl : o0 + n <= cs.length) (hr : cs.take o0 ++ (vs ++ cs.drop (o0 + n)) = cs') (hw : QP ops o f = some true := by rfl) : DR P ops o N f w fun _ W => Xc W B cs' /\ Yi B w W := fun a ha => by
 obtain ⟨i, hi, hs⟩ := Vl ht
 have hx := ha.ev hx
 have hy := ha.ev hy
 exact QK.of_wp (Qw ha hw) fun K hK => by
  obtain ⟨tt, hb'⟩ := hb
  have hst := run_storeCells_at P B o0 tt vs 0 _ w hb' (by simp; omega) h1
  simp only [Nat.add_zero] at hst
  have hcs : (cs.toArray.toList.take o0 ++ vs ++ cs.toArray.toList.drop (o0 + vs.length)) = cs' := by rw [<- hr, hn]; simp
  rw [hcs] at hst
  have hsz : V.cells.size = i.size := by rw [<- Array.length_toList, hv, hn, hs]
  unfold Oper.wp execOp
  simp only [ho, hx, hy, Instr.storeAt, Instr.sureAddr, storeVar, sizeOf, typeInfo, Sem.run_bind, Sem.run_pure, Result.andThen_ok, run_program, hi, hsz, hv, ne_eq, not_true_eq_false, if_false, hst]
  exact hK _ _ ⟨⟨tt, setRow_heap w B _ _ tt _ hb'⟩, Vk w B _⟩
theorem Qx {t : TypeId} {x y : Operand} {B n : Nat} {V : Value} {vs cs : List Value} (ho : o.op = .store t x y) (ht : Zh P t n = true) (hx : ev f x = some (.pointer (some ⟨B, 0, none⟩))) (hy : ev f y = some V) (hv : V.cells.toList = vs) (h1 : ∀ v ∈ vs, v.oneCell' = true)
  (hb : Xc w B cs) (hn : vs.length = n) (hl : cs.length = n) (hw : QP ops o f = some true := by rfl) : DR P ops o N f w fun _ W => Xc W B vs /\ Yi B w W :=
 Qh (cs' := vs) ho ht hx hy hv h1 hb hn (by omega) (by rw [List.drop_eq_nil_of_le (by omega)]; simp) hw
-- slices of rows
theorem Kj {t s s' : Nat} {L : List Nat} {x : Operand} {v : Value} {rs : List (List Value)} (ho : o.op = .call { callee := .builtin .len, args := #[x], argTypes := #[t] }) (ht : X3 P t s' = true) (hx : ev f x = some v) (hr : QD s L w v rs) (hw : QP ops o f = some true := by rfl) : DV P ops o N f w (.int .i64 (rs.length : Int)) := by
 obtain ⟨_, _, a, cap, rfl, _⟩ := hr
 obtain ⟨e, hu, _⟩ := X6 ht
 exact Hd ho hu hx hw
theorem XH {t s : Nat} {L : List Nat} {x y : Operand} {v : Value} {rs : List (List Value)} {K : IntKind} {i : Int} {r : List Value} (k : Nat) (ho : o.op = .indexAddr t x y) (ht : X3 P t s = true) (hx : ev f x = some v) (hy : ev f y = some (.int K i)) (hr : QD s L w v rs) (hk : i = (k : Int)) (hi : rs[k]? = some r) (hw : QP ops o f = some true := by rfl) :
  DR P ops o N f w fun u W => w = W /\ JB L w u r := fun a ha => by
 obtain ⟨h0, hl, ad, cap, rfl, h2, h3, h4, h5⟩ := hr
 obtain ⟨e, hu, hs⟩ := X6 ht
 have hx := ha.ev hx
 have hy := ha.ev hy
 subst hk
 have hlt := (List.getElem?_eq_some_iff.1 hi).1
 obtain ⟨X, o0, rfl, hX, hc⟩ := h5 (by intro e; subst e; simp at hlt)
 have hrun := JX (w := w) (n := rs.length) (c := cap) hu hs X o0 K (k : Int) (by omega) (by omega)
 refine QK.pure (Qw ha hw) (.pointer (some ⟨X, o0 + k * s, none⟩)) (by unfold execOp; simp only [ho, hx, hy, Sem.run_bind, hrun, Result.andThen_ok]; rfl) ⟨rfl, by rw [hl r (List.mem_of_getElem? hi)]; exact h0, X, _, rfl, hX, ?_⟩
 have := Uw hc (k * s) s
 rw [UZ hl hi] at this
 simpa using this
theorem V1 {t : TypeId} {x : Operand} {k off : Nat} {L : List Nat} {u : Value} {cs cs' : List Value} (n : Nat) (ho : o.op = .fieldAddr t x k) (hf : YK P t k off = true) (hx : ev f x = some u) (hp : JB L w u cs) (hr : (cs.drop off).take n = cs') (hn : 0 < cs'.length) (hw : QP ops o f = some true := by rfl) : DR P ops o N f w fun u' W => w = W /\ JB L w u' cs' := fun a ha => by
 obtain ⟨_, X, o0, rfl, hX, hc⟩ := hp
 have hx := ha.ev hx
 refine QK.pure (Qw ha hw) _ (by unfold execOp; simp only [ho, hx, Sem.run_bind, GM hf, Result.andThen_ok]; rfl) ⟨rfl, hn, X, _, rfl, hX, ?_⟩
 have := Uw hc off n
 rwa [hr] at this
theorem Zn {t : TypeId} {x : Operand} {L : List Nat} {u v : Value} (ho : o.op = .load t x) (ht : J9 P t = true) (hx : ev f x = some u) (hp : JB L w u [v]) (hw : QP ops o f = some true := by rfl) : DV P ops o N f w v := by
 obtain ⟨_, X, o0, rfl, hX, hc⟩ := hp
 exact Qi ho ht hx (by simpa using hc 0 v rfl) hw
theorem Zc {t : TypeId} {x : Operand} {n : Nat} {L : List Nat} {u : Value} {cs : List Value} (ho : o.op = .load t x) (ht : Jp P t n = true) (hx : ev f x = some u) (hp : JB L w u cs) (hn : cs.length = n) (hw : QP ops o f = some true := by rfl) : DV P ops o N f w (.agg cs.toArray) := by
 obtain ⟨_, X, o0, rfl, hX, hc⟩ := hp
 exact Qg ho ht hx hc hn hw
theorem QS {t : TypeId} {parts : Array (Nat × Operand)} {ps : List (Nat × Value)} {cs : List Value} (ho : o.op = .build t parts) (hp : (evl f (parts.toList.map (·.2))).map (fun vs => (parts.toList.map (·.1)).zip vs) = some ps) (hb : P.built t ps = some cs.toArray) (hw : QP ops o f = some true := by rfl) : DV P ops o N f w (.agg cs.toArray) := fun a ha => by
 have key : (parts.map fun (i, x) => (i, a.eval x)).toList = ps := by
  cases hq : evl f (parts.toList.map (·.2)) with
  | none => rw [hq] at hp; cases hp
  | some vs =>
   rw [hq] at hp
   have h1 := ha.evl hq
   simp only [Option.map_some, Option.some.injEq] at hp
   rw [<- hp, <- h1, Array.toList_map]
   clear hp h1 hq ho
   induction parts.toList with
   | nil => rfl
   | cons p l ih => simp only [List.map_cons, List.zip_cons_cons, List.cons.injEq, true_and]; exact ih
 refine QK.pure (Qw ha hw) _ ?_ ⟨rfl, rfl⟩
 unfold execOp
 simp only [ho, Sem.run_bind, run_build w t _ _ (by rw [key]; exact hb), Result.andThen_ok]
 rfl
end
def CV (P : Program) (F : FuncId) (args : List Value) (w : World) (R : Value -> World -> Prop) : Prop := Calls P F args.toArray w fun e w' => ∃ v, e = .returned v /\ R v w' /\ Below w.heap.size w w'
theorem CV.mono {P : Program} {F : FuncId} {args : List Value} {w : World} {R R' : Value -> World -> Prop} (h : CV P F args w R) (hr : ∀ v w', Below w.heap.size w w' -> R v w' -> R' v w') : CV P F args w R' :=
 Calls.mono h fun e w' ⟨v, he, hR, hb⟩ => ⟨v, he, hr v w' hb hR, hb⟩
def Qba (P : Program) (fn : Func) (R : Value -> World -> Prop) (w0 : World) (a : Act) (w : World) : Prop := a.defers = [] /\ ∃ v, (results fn a.tmps).run P w = .ok v w /\ R v w /\ Below w0.heap.size w0 w
theorem QN {P : Program} {F : FuncId} {fn : Func} {body : Code} {w : World} {R : Value -> World -> Prop} {N : Nat} {vs : List Value} (hf : P.funcs[F]? = some fn) (hb : fn.body = some body) (hn : fn.ntmps = N) (hN : decide (vs.length <= N) = true) {f : Fl}
  (hfr : (vs.zipIdx.map fun p => (p.2, p.1)) = f) (h : ∀ Q : Exit -> Act -> World -> Prop, (∀ {a W}, Qba P fn R w a W -> Q .ret a W) -> (∀ {a W}, Qba P fn R w a W -> Q .normal a W) -> WC P N body Q f w) : CV P F vs w R :=
 EC vs f hf hb hn hN hfr.symm (h _ (fun {a W} ⟨h1, v, h2, h3, h4⟩ => ⟨h1, v, h2, v, rfl, h3, h4⟩) (fun {a W} ⟨h1, v, h2, h3, h4⟩ => ⟨h1, v, h2, v, rfl, h3, h4⟩))
def LL (L : List Nat) (w : World) : Prop := ∀ x ∈ L, x < w.heap.size
theorem LL.nil (w : World) : LL [] w := fun x h => by cases h
theorem LL.more {L : List Nat} {w w' : World} (h : LL L w) (hz : w.heap.size < w'.heap.size) : LL (w.heap.size :: L) w' := fun x hx => by
 cases hx with
 | head => exact hz
 | tail _ hx => have := h x hx; omega
theorem LL.below {L : List Nat} {w w' : World} (h : LL L w) (hb : Below w.heap.size w w') : LL L w' := fun x hx => Nat.lt_of_lt_of_le (h x hx) hb.size
theorem LL.only {L : List Nat} {w w' : World} (h : LL L w) {B : Nat} (ho : Yi B w w') : LL L w' := fun x hx => by rw [ho.size]; exact h x hx
theorem LL.less {L L' : List Nat} {w : World} (h : LL L w) (hl : ∀ x, x ∈ L' -> x ∈ L) : LL L' w := fun x hx => h x (hl x hx)
theorem Q4 {b : Bool} (h : (!b) = true) : b = false := by cases b <;> simp_all
theorem Q2 {b : Bool} (h : (!b) = false) : b = true := by cases b <;> simp_all
theorem ZY {b : Bool} (h : b = false) : ¬ b = true := by simp [h]
theorem Qaj {a b : Bool} (h : (a || b) = false) : a = false /\ b = false := by cases a <;> simp_all
section
variable {P : Program} {ops : Array Oper} {o : Oper} {N : Nat} {f : Fl} {w : World} {R : Value -> World -> Prop}
theorem QQ {F : FuncId} {fn : Func} {xs : List Operand} {ts : Array TypeId} {vs : List Value} (ho : o.op = .call { callee := .value (.func F), args := xs.toArray, argTypes := ts }) (hf : P.funcs[F]? = some fn) (hn : (fn.name == "runtime.NumGoroutine") = false) (hb : fn.body.isNone = false)
  (hx : evl f xs = some vs) (hc : CV P F vs w R) (hw : QP ops o f = some true := by rfl) : DR P ops o N f w fun v W => R v W /\ Below w.heap.size w W :=
 FD (cap := #[]) ho rfl hf hn hb hx (by rw [Array.append_empty]; exact Calls.mono hc fun e w' ⟨v, he, h⟩ => ⟨v, he, h⟩) hw
theorem Qe7 {c : Operand} {F : FuncId} {fn : Func} {xs : List Operand} {ts : Array TypeId} {vs cs : List Value} (ho : o.op = .call { callee := .value c, args := xs.toArray, argTypes := ts }) (hcv : ev f c = some (.func (.func F) #[] cs.toArray)) (hf : P.funcs[F]? = some fn) (hn : (fn.name == "runtime.NumGoroutine") = false) (hb : fn.body.isNone = false)
  (hx : evl f xs = some vs) (hc : CV P F (vs ++ cs) w R) (hw : QP ops o f = some true := by rfl) : DR P ops o N f w fun v W => R v W /\ Below w.heap.size w W :=
 FD ho hcv hf hn hb hx (by rw [List.append_toArray]; exact Calls.mono hc fun e w' ⟨v, he, h⟩ => ⟨v, he, h⟩) hw
def FV (P : Program) (g : Value) (args : List Value) (w : World) (R : Value -> World -> Prop) : Prop := ∃ F cs fn, g = .func (.func F) #[] cs /\ P.funcs[F]? = some fn /\ (fn.name == "runtime.NumGoroutine") = false /\ fn.body.isNone = false /\ CV P F (args ++ cs.toList) w R
theorem Qeu {c : Operand} {g : Value} {xs : List Operand} {ts : Array TypeId} {vs : List Value} (ho : o.op = .call { callee := .value c, args := xs.toArray, argTypes := ts }) (hcv : ev f c = some g)
  (hx : evl f xs = some vs) (hc : FV P g vs w R) (hw : QP ops o f = some true := by rfl) : DR P ops o N f w fun v W => R v W /\ Below w.heap.size w W := by
 obtain ⟨F, cs, fn, rfl, hf, hn, hb, hc⟩ := hc
 exact Qe7 (cs := cs.toList) ho (by simpa using hcv) hf hn hb hx hc hw
theorem Qet {F : FuncId} {cs : List Value} {fn : Func} {args : List Value} (hf : P.funcs[F]? = some fn) (hn : (fn.name == "runtime.NumGoroutine") = false) (hb : fn.body.isNone = false) (hc : CV P F (args ++ cs) w R) : FV P (.func (.func F) #[] cs.toArray) args w R := ⟨F, cs.toArray, fn, rfl, hf, hn, hb, hc⟩
inductive RV (P : Program) (f : Fl) (w : World) : ResultVar -> Value -> Prop
 | tmp {t : Tmp} {v : Value} (h : UN f t = some v) : RV P f w (.tmp t) v
 | one {t ty B o0 : Nat} {v : Value} (h : UN f t = some (.pointer (some ⟨B, o0, none⟩))) (ht : J9 P ty = true) (hc : w.cell? ⟨B, o0, none⟩ = some v) : RV P f w (.cell t ty) v
 | agg {t ty B o0 n : Nat} {cs : List Value} (h : UN f t = some (.pointer (some ⟨B, o0, none⟩))) (ht : Jp P ty n = true) (hc : w.rangeAt B o0 cs) (hn : cs.length = n) : RV P f w (.cell t ty) (.agg cs.toArray)
def E0 (tmps : Array Value) : ResultVar -> Sem Value
 | .tmp t => pure (tmps.getD t undef)
 | .cell p ty => do loadVar ty (<- asAddr (tmps.getD p undef))
theorem Uv (fn : Func) (tmps : Array Value) : results fn tmps = (do let vs <- fn.results.mapM (E0 tmps); pure (if h : vs.size = 1 then vs[0] else .tuple vs)) := rfl
theorem RV.run {r : ResultVar} {v : Value} (h : RV P f w r v) {a : Act} (ha : Fr N a f) : (E0 a.tmps r).run P w = .ok v w := by
 unfold E0
 cases h with
 | tmp h => simp only [Fd ha h]; rfl
 | @one t ty B o0 v h ht hc =>
  obtain ⟨d, hu, hd, _⟩ := DY ht
  have hagg : (isAgg ty).run P w = .ok false w := by
   unfold isAgg
   rw [Sem.run_bind, run_underlying hu w]
   cases d <;> simp_all
  simp [Fd ha h, asAddr, Sem.run_bind, loadVar, hagg, hc]
 | agg h ht hc hn =>
  obtain ⟨d, hu, hd, hi⟩ := DZ ht
  simp only [Fd ha h, asAddr, Sem.run_bind, Sem.run_pure, Result.andThen_ok]
  exact run_loadVar_mid w _ _ _ _ d hc hu hd (by rw [hi, hn])
variable {fn : Func} {Rr : Ending -> World -> Prop}
theorem fn0 (h : fn.results = #[]) (hR : Rr (.returned (.tuple #[])) w) {a : Act} (ha : Fr N a f) : fin P fn Rr a w := ⟨ha.1.2, _, by simp [results, h], hR⟩
theorem fn1 {r0 : ResultVar} {v0 : Value} (h : fn.results = #[r0]) (h0 : RV P f w r0 v0) (hR : Rr (.returned v0) w) {a : Act} (ha : Fr N a f) : fin P fn Rr a w := ⟨ha.1.2, _, by
 rw [Uv, h]
 simp only [List.mapM_toArray, List.mapM_cons, List.mapM_nil, Sem.run_bind, Sem.run_pure, Result.andThen_ok, Sem.run_map]
 have e0 := h0.run ha
 simp only [e0, Result.andThen_ok, Sem.run_bind, Sem.run_pure]
 simp, hR⟩
theorem fn2 {r0 r1 : ResultVar} {v0 v1 : Value} (h : fn.results = #[r0, r1]) (h0 : RV P f w r0 v0) (h1 : RV P f w r1 v1) (hR : Rr (.returned (.tuple #[v0, v1])) w) {a : Act} (ha : Fr N a f) : fin P fn Rr a w := ⟨ha.1.2, _, by
 rw [Uv, h]
 simp only [List.mapM_toArray, List.mapM_cons, List.mapM_nil, Sem.run_bind, Sem.run_pure, Result.andThen_ok, Sem.run_map]
 have e0 := h0.run ha
 have e1 := h1.run ha
 simp only [e0, e1, Result.andThen_ok, Sem.run_bind, Sem.run_pure]
 simp, hR⟩
theorem fn3 {r0 r1 r2 : ResultVar} {v0 v1 v2 : Value} (h : fn.results = #[r0, r1, r2]) (h0 : RV P f w r0 v0) (h1 : RV P f w r1 v1) (h2 : RV P f w r2 v2) (hR : Rr (.returned (.tuple #[v0, v1, v2])) w) {a : Act} (ha : Fr N a f) : fin P fn Rr a w := ⟨ha.1.2, _, by
 rw [Uv, h]
 simp only [List.mapM_toArray, List.mapM_cons, List.mapM_nil, Sem.run_bind, Sem.run_pure, Result.andThen_ok, Sem.run_map]
 have e0 := h0.run ha
 have e1 := h1.run ha
 have e2 := h2.run ha
 simp only [e0, e1, e2, Result.andThen_ok, Sem.run_bind, Sem.run_pure]
 simp, hR⟩
theorem fn4 {r0 r1 r2 r3 : ResultVar} {v0 v1 v2 v3 : Value} (h : fn.results = #[r0, r1, r2, r3]) (h0 : RV P f w r0 v0) (h1 : RV P f w r1 v1) (h2 : RV P f w r2 v2) (h3 : RV P f w r3 v3) (hR : Rr (.returned (.tuple #[v0, v1, v2, v3])) w) {a : Act} (ha : Fr N a f) : fin P fn Rr a w := ⟨ha.1.2, _, by
 rw [Uv, h]
 simp only [List.mapM_toArray, List.mapM_cons, List.mapM_nil, Sem.run_bind, Sem.run_pure, Result.andThen_ok, Sem.run_map]
 have e0 := h0.run ha
 have e1 := h1.run ha
 have e2 := h2.run ha
 have e3 := h3.run ha
 simp only [e0, e1, e2, e3, Result.andThen_ok, Sem.run_bind, Sem.run_pure]
 simp, hR⟩
theorem QI {w0 : World} {r0 : ResultVar} {v0 : Value} (h : fn.results = #[r0]) (h0 : RV P f w r0 v0) (hR : R v0 w) (hb : Below w0.heap.size w0 w) {a : Act} (ha : Fr N a f) : Qba P fn R w0 a w := by
 obtain ⟨x, v, hv, v', he, h1, h2⟩ := fn1 (Rr := fun e w' => ∃ v, e = .returned v /\ R v w' /\ Below w0.heap.size w0 w') h h0 ⟨_, rfl, hR, hb⟩ ha
 cases he
 exact ⟨x, _, hv, h1, h2⟩
theorem QO {w0 : World} {r0 r1 : ResultVar} {v0 v1 : Value} (h : fn.results = #[r0, r1]) (h0 : RV P f w r0 v0) (h1 : RV P f w r1 v1) (hR : R (.tuple #[v0, v1]) w) (hb : Below w0.heap.size w0 w) {a : Act} (ha : Fr N a f) : Qba P fn R w0 a w := by
 obtain ⟨x, v, hv, v', he, h1, h2⟩ := fn2 (Rr := fun e w' => ∃ v, e = .returned v /\ R v w' /\ Below w0.heap.size w0 w') h h0 h1 ⟨_, rfl, hR, hb⟩ ha
 cases he
 exact ⟨x, _, hv, h1, h2⟩
theorem Xh {w0 : World} {r0 r1 r2 : ResultVar} {v0 v1 v2 : Value} (h : fn.results = #[r0, r1, r2]) (h0 : RV P f w r0 v0) (h1 : RV P f w r1 v1) (h2 : RV P f w r2 v2) (hR : R (.tuple #[v0, v1, v2]) w) (hb : Below w0.heap.size w0 w) {a : Act} (ha : Fr N a f) : Qba P fn R w0 a w := by
 obtain ⟨x, v, hv, v', he, h1, h2⟩ := fn3 (Rr := fun e w' => ∃ v, e = .returned v /\ R v w' /\ Below w0.heap.size w0 w') h h0 h1 h2 ⟨_, rfl, hR, hb⟩ ha
 cases he
 exact ⟨x, _, hv, h1, h2⟩
theorem YQ {w0 : World} {r0 r1 r2 r3 : ResultVar} {v0 v1 v2 v3 : Value} (h : fn.results = #[r0, r1, r2, r3]) (h0 : RV P f w r0 v0) (h1 : RV P f w r1 v1) (h2 : RV P f w r2 v2) (h3 : RV P f w r3 v3) (hR : R (.tuple #[v0, v1, v2, v3]) w) (hb : Below w0.heap.size w0 w) {a : Act} (ha : Fr N a f) : Qba P fn R w0 a w := by
 obtain ⟨x, v, hv, v', he, h1, h2⟩ := fn4 (Rr := fun e w' => ∃ v, e = .returned v /\ R v w' /\ Below w0.heap.size w0 w') h h0 h1 h2 h3 ⟨_, rfl, hR, hb⟩ ha
 cases he
 exact ⟨x, _, hv, h1, h2⟩
end
theorem Oper.wp_weakenN {P : Program} {o : Oper} {a : Act} {w : World} {K : Act -> World -> Prop} {Q' Q : Exit -> Act -> World -> Prop} (hq : ∀ e a w, e ≠ .normal -> Q' e a w -> Q e a w) (h : Oper.wp P o a w K Q') : Oper.wp P o a w K Q := by
 unfold Oper.wp at *
 generalize (execOp a.eval o).run P w = r at *
 cases r with
 | ok n w' =>
  cases n <;> simp only [Oper.upon] at h ⊢ <;>
   first
    | exact h
    | exact Calls.mono h (fun e w'' he => by
      cases e with
      | returned u => exact he
      | panicked c => exact hq _ _ _ (by simp) he
      | outgrown => obtain ⟨x, y, hxy⟩ := he; exact ⟨x, y, hq _ _ _ (by simp) hxy⟩)
 | halt x w' =>
  cases x <;> simp only [Oper.upon] at h ⊢
  case panic u => exact hq _ _ _ (by simp) h
def Kx (md : Region.Mode) (ops : Array Oper) : Nat -> Nat -> Nat -> Bool
 | 0, _, _ => false
 | n + 1, k, j => (Xs md ops k).any fun a => a == j || Kx md ops n a j
def UI (md : Region.Mode) (ops : Array Oper) (m : Nat) : Bool :=
 (List.range ops.size).all fun k => (k < m || (if k = m then (List.range m).all fun j => Kx md ops ops.size k j else (Xs md ops k).contains (k - 1))) && (match (ops[k]?).bind (·.guard) with | some (g, _) => decide (g < k) | none => true)
section
variable {P : Program} {ops pre : Array Oper} {md : Region.Mode} {Q : Exit -> Act -> World -> Prop} {m : Nat}
theorem KT (h : UI md ops m = true) {k : Nat} (hk : k < ops.size) (hm : m < k) : k - 1 ∈ Xs md ops k := by
  have := List.all_eq_true.1 h k (List.mem_range.2 hk)
  simp only [Bool.and_eq_true, Bool.or_eq_true, decide_eq_true_eq] at this
  rcases this.1 with h1 | h1
  . omega
  . rw [if_neg (by omega)] at h1
    simpa using h1
theorem Qax (h : UI md ops m = true) (hk : m < ops.size) {j : Nat} (hj : j < m) : Kx md ops ops.size m j = true := by
  have := List.all_eq_true.1 h m (List.mem_range.2 hk)
  simp only [Bool.and_eq_true, Bool.or_eq_true, decide_eq_true_eq] at this
  rcases this.1 with h1 | h1
  . omega
  . simp only [if_true] at h1
    exact List.all_eq_true.1 h1 j (List.mem_range.2 hj)
theorem Jx {p : Nat -> Prop} (hcl : ∀ a, p a -> ∀ b ∈ Xs md ops a, p b) : ∀ (n k j : Nat), Kx md ops n k j = true -> (∀ a ∈ Xs md ops k, p a) -> p j
 | 0, k, j, h, _ => by simp [Kx] at h
 | n + 1, k, j, h, hd => by
  unfold Kx at h
  obtain ⟨a, ha, hor⟩ := List.any_eq_true.1 h
  simp only [Bool.or_eq_true, beq_iff_eq] at hor
  rcases hor with rfl | h'
  . exact hd a ha
  . exact Jx hcl n a j h' (hcl a (hd a ha))
theorem F0 (h : UI md ops m = true) {k g : Nat} {o : Oper} {b : Bool} (ho : ops[k]? = some o) (hg : o.guard = some (g, b)) : g < k := by
 have := List.all_eq_true.1 h k (List.mem_range.2 (Array.getElem?_eq_some_iff.1 ho).1)
 simp only [Bool.and_eq_true] at this
 have h2 := this.2
 rw [ho] at h2
 simp only [Option.bind_some, hg, decide_eq_true_eq] at h2
 exact h2
theorem JF {k : Nat} {listed : Array Bool} (h : k ∈ Region.ready md ops listed) : ∀ j ∈ Xs md ops k, listed.getD j false = true := by
 obtain ⟨h0, o, ho, hd⟩ := mem_ready.1 h
 intro j hj
 rw [Yn ho] at hj
 obtain ⟨e, he, rfl⟩ := List.mem_map.1 hj
 obtain ⟨he1, he2⟩ := List.mem_filter.1 he
 exact hd e (by simpa using he1) he2
theorem Yg {listed : Array Bool} {j : Nat} (hj : j < listed.size) : listed.getD j true = listed.getD j false := by
 simp [Array.getD_eq_getD_getElem?, Array.getElem?_eq_getElem hj]
theorem QbN (hb : VT md ops = true) (ht : UI md ops m = true) : ∀ (t k : Nat), m <= k -> k + t = ops.size -> ∀ (fuel : Nat), t <= fuel -> ∀ (listed : Array Bool), listed.size = ops.size -> (∀ j, listed.getD j false = decide (j < k)) -> ∀ a w, wpOps P ops Q (List.range' k t) a w -> wpAny P md ops Q fuel listed a w := by
  intro t
  induction t with
  | zero =>
    intro k hm hk fuel hf listed hsz hl a w h
    have hr : Region.ready md ops listed = [] := by
      rw [List.eq_nil_iff_forall_not_mem]
      intro j hj
      obtain ⟨h0, o, ho, _⟩ := mem_ready.1 hj
      have hjs := (Array.getElem?_eq_some_iff.1 ho).1
      rw [Yg (by omega), hl] at h0
      have := of_decide_eq_false h0
      omega
    cases fuel with
    | zero => exact ⟨hr, h⟩
    | succ fuel => exact ⟨fun _ => h, fun i hi => (by rw [hr] at hi; cases hi)⟩
  | succ t ih =>
    intro k hm hk fuel hf listed hsz hl a w h
    cases fuel with
    | zero => omega
    | succ fuel =>
      have hks : k < ops.size := by omega
      have hmem : k ∈ Region.ready md ops listed := by
        refine mem_ready.2 ⟨by rw [Yg (by omega), hl]; simp, _, Array.getElem?_eq_getElem hks, fun e he hbd => ?_⟩
        rw [hl]
        have hd := (Jd hb (Array.getElem?_eq_getElem hks)).2.1
        have := hd e.on (List.mem_map.2 ⟨e, List.mem_filter.2 ⟨by simpa using he, hbd⟩, rfl⟩)
        simpa using this
      refine ⟨fun hr => (by rw [hr] at hmem; cases hmem), fun i hi => ?_⟩
      have hik : i = k := by
        obtain ⟨h0, o, ho, _⟩ := mem_ready.1 hi
        have his := (Array.getElem?_eq_some_iff.1 ho).1
        rw [Yg (by omega), hl] at h0
        have h1 := of_decide_eq_false h0
        rcases Nat.lt_or_ge k i with h2 | h2
        . have := JF hi (i - 1) (KT ht his (by omega))
          rw [hl] at this
          have := of_decide_eq_true this
          omega
        . omega
      subst hik
      rw [List.range'_succ, wpOps_cons] at h
      refine wpOp_mono (fun a' w' h' => ih (i + 1) (by omega) (by omega) fuel (by omega) _ (by simp [hsz]) (fun j => ?_) a' w' h') h
      by_cases e : j = i
      . subst e
        simp [Array.getD_eq_getD_getElem?, hsz, hks]
      . rw [getD_set_ne false (fun h => e h.symm), hl]
        simp only [decide_eq_decide]
        omega
def Qfj (P : Program) (ops : Array Oper) (Q : Exit -> Act -> World -> Prop) (m t : Nat) : Exit -> Act -> World -> Prop
 | .normal, a, w => wpOps P ops Q (List.range' m t) a w
 | _, _, _ => False
theorem J4 (hb : VT md ops = true) (hbp : VT md pre = true) {suf : List Oper} (hops : ops.toList = pre.toList ++ suf) (ht : UI md ops pre.size = true) : ∀ (fuel : Nat) (listed : Array Bool), listed.size = pre.size -> (∀ j, listed.getD j false = true -> ∀ k ∈ Xs md pre j, listed.getD k false = true) -> ∀ a w, wpAny P md pre (Qfj P ops Q pre.size suf.length) fuel listed a w ->
    wpAny P md ops Q (fuel + suf.length) (listed ++ Array.replicate suf.length false) a w := by
  have hsize : ops.size = pre.size + suf.length := by rw [<- Array.length_toList, hops]; simp
  have hget : ∀ i, i < pre.size -> ops[i]? = pre[i]? := fun i hi => by
    rw [<- Array.getElem?_toList, hops, List.getElem?_append_left (by simpa using hi), Array.getElem?_toList]
  have hlist : ∀ (listed : Array Bool), listed.size = pre.size -> ∀ j, (listed ++ Array.replicate suf.length false).getD j false = listed.getD j false := fun listed hsz j => by
    rw [Array.getD_eq_getD_getElem?, Array.getD_eq_getD_getElem?]
    rcases Nat.lt_or_ge j listed.size with h | h
    . rw [Array.getElem?_append_left h]
    . rw [Array.getElem?_append_right h, Array.getElem?_eq_none h, Array.getElem?_replicate]
      split <;> rfl
  have done : ∀ (listed : Array Bool), listed.size = pre.size -> Region.ready md pre listed = [] -> ∀ a w, wpOps P ops Q (List.range' pre.size suf.length) a w -> ∀ fuel, suf.length <= fuel -> wpAny P md ops Q fuel (listed ++ Array.replicate suf.length false) a w := by
    intro listed hsz hr a w h fuel hf
    have hall := JR hbp hsz hr
    refine QbN hb ht suf.length pre.size (Nat.le_refl _) hsize.symm fuel hf _ (by simp [hsz, hsize]) (fun j => ?_) a w h
    rw [hlist listed hsz]
    by_cases hj : j < pre.size
    . rw [hall j hj]; simp [hj]
    . rw [Array.getD_eq_getD_getElem?, Array.getElem?_eq_none (by omega)]
      simp [hj]
  intro fuel
  induction fuel with
  | zero =>
    intro listed hsz hcl a w h
    exact done listed hsz h.1 a w h.2 _ (by omega)
  | succ fuel ih =>
    intro listed hsz hcl a w h
    by_cases hr : Region.ready md pre listed = []
    . exact done listed hsz hr a w (h.1 hr) _ (by omega)
    . obtain ⟨i0, hi0⟩ := List.exists_mem_of_ne_nil _ hr
      have hun : ∃ j, j < pre.size /\ listed.getD j false = false := by
        obtain ⟨h0, o, ho, _⟩ := mem_ready.1 hi0
        have hjs := (Array.getElem?_eq_some_iff.1 ho).1
        exact ⟨i0, hjs, by rw [<- Yg (by omega)]; exact h0⟩
      have hsub : ∀ i, i ∈ Region.ready md ops (listed ++ Array.replicate suf.length false) -> i < pre.size /\ i ∈ Region.ready md pre listed := by
        intro i hi
        obtain ⟨h0, o, ho, hd⟩ := mem_ready.1 hi
        have his := (Array.getElem?_eq_some_iff.1 ho).1
        have hip : i < pre.size := by
          rcases Nat.lt_or_ge i pre.size with h | h
          . exact h
          . exfalso
            have hdeps := JF hi
            simp only [hlist listed hsz] at hdeps
            have hout : ∀ j, listed.getD j false = true -> j < pre.size := fun j hj => by
              rcases Nat.lt_or_ge j pre.size with h' | h'
              . exact h'
              . simp [Array.getElem?_eq_none (by omega : listed.size <= j)] at hj
            rcases Nat.lt_or_ge pre.size i with h' | h'
            . have := hout _ (hdeps (i - 1) (KT ht his h'))
              omega
            . have him : i = pre.size := by omega
              subst him
              obtain ⟨j, hj, hlj⟩ := hun
              have := Jx (p := fun j => listed.getD j false = true) (fun b hb' c hc => hcl b hb' c (by
                have : Xs md pre b = Xs md ops b := by unfold Xs; rw [hget b (hout b hb')]
                rw [this]; exact hc)) _ _ _ (Qax ht his hj) hdeps
              rw [hlj] at this
              cases this
        refine ⟨hip, mem_ready.2 ⟨?_, o, by rw [<- hget i hip]; exact ho, fun e he hbd => by rw [<- hlist listed hsz]; exact hd e he hbd⟩⟩
        rw [Yg (by omega)]
        rw [Yg (by simp [hsz]; omega), hlist listed hsz] at h0
        exact h0
      have hsup : i0 ∈ Region.ready md ops (listed ++ Array.replicate suf.length false) := by
        obtain ⟨h0, o, ho, hd⟩ := mem_ready.1 hi0
        have hip := (Array.getElem?_eq_some_iff.1 ho).1
        refine mem_ready.2 ⟨?_, o, by rw [hget i0 hip]; exact ho, fun e he hbd => by rw [hlist listed hsz]; exact hd e he hbd⟩
        rw [Yg (by simp [hsz]; omega), hlist listed hsz, <- Yg (by omega)]
        exact h0
      rw [show fuel + 1 + suf.length = (fuel + suf.length) + 1 by omega]
      refine ⟨fun h' => (by rw [h'] at hsup; cases hsup), fun i hi => ?_⟩
      obtain ⟨hip, hir⟩ := hsub i hi
      have hw := h.2 i hir
      have hset : (listed ++ Array.replicate suf.length false).setIfInBounds i true = listed.setIfInBounds i true ++ Array.replicate suf.length false := by
        rw [Array.setIfInBounds_append, if_pos (by omega)]
      rw [hset]
      have hcl' : ∀ j, (listed.setIfInBounds i true).getD j false = true -> ∀ k ∈ Xs md pre j, (listed.setIfInBounds i true).getD k false = true := by
        have hset' : ∀ j, listed.getD j false = true -> (listed.setIfInBounds i true).getD j false = true := fun j hj => by
          by_cases e : j = i
          . subst e
            simp [Array.getD_eq_getD_getElem?, hsz, hip]
          . rw [getD_set_ne false (fun h => e h.symm)]; exact hj
        intro j hj k hk
        by_cases e : j = i
        . subst e
          exact hset' k (JF hir k hk)
        . rw [getD_set_ne false (fun h => e h.symm)] at hj
          exact hset' k (hcl j hj k hk)
      unfold wpOp at hw ⊢
      rw [hget i hip]
      cases ho : pre[i]? with
      | none => simp only [ho] at hw ⊢; exact ih _ (by simp [hsz]) hcl' a w hw
      | some o =>
        simp only [ho] at hw ⊢
        have hwant : Region.wanted o (yielded ops a.tmps) = Region.wanted o (yielded pre a.tmps) := by
          unfold Region.wanted
          cases hg : o.guard with
          | none => rfl
          | some p =>
            obtain ⟨g, b⟩ := p
            have hgi := F0 ht (by rw [hget i hip]; exact ho) hg
            simp only
            unfold yielded
            rw [hget g (by omega)]
        rw [hwant]
        split
        . next hw1 =>
          rw [if_pos hw1] at hw
          rcases hw with hw | hw
          . refine .inl (Oper.wp_weakenN (Q' := Qfj P ops Q pre.size suf.length) (fun e a w he h => by cases e <;> first | exact absurd rfl he | exact h.elim) (Oper.wp_mono (fun a' w' h' => ih _ (by simp [hsz]) hcl' a' w' h') hw))
          . obtain ⟨_, _, _, hf⟩ := hw
            exact hf.elim
        . next hw1 =>
          rw [if_neg hw1] at hw
          exact ih _ (by simp [hsz]) hcl' _ _ hw
end
section
variable {P : Program} {N : Nat} {sd : List (Option Tmp × VS)} {dl : List (List Nat)}
theorem WC.drawT {id : Nat} {f : Fl} {w : World} {Q : Exit -> Act -> World -> Prop} (pre suf : List Oper) {ops : List Oper} (hops : pre ++ suf = ops) (sd : List (Option Tmp × VS)) (dl : List (List Nat)) (hm : P.follows .mixedOrders = true) (hb : VT .any ops.toArray = true) (hbp : VT .any pre.toArray = true) (ht : UI .any ops.toArray pre.length = true) (hdl : pre.map (XJ .any) = dl)
    (hds : pre.map (·.dst) = sd.map (·.1)) (hN : E8 N sd = true) (hmono : VS.mono sd) (hst : UH P pre.toArray N w sd dl f 0 pre)
    (hend : ∀ W, Below w.heap.size w W -> V8 (fun f W => WL P ops.toArray Q N suf f W) W sd f) : WC P N (.region id ops.toArray true) Q f w := fun a ha => by
  subst hops
  have hlen : dl.length = sd.length := by rw [<- hdl, List.length_map, <- List.length_map (f := (·.dst)), hds, List.length_map]
  have hpl : pre.length = dl.length := by rw [<- hdl, List.length_map]
  refine wp_region_any hm ?_
  have hrep : Array.replicate (pre ++ suf).toArray.size false = Array.replicate pre.toArray.size false ++ Array.replicate suf.length false := by
    simp [Array.replicate_append_replicate]
  rw [hrep]
  have hsz : (pre ++ suf).toArray.size = pre.toArray.size + suf.length := by simp
  rw [hsz]
  refine J4 (pre := pre.toArray) (suf := suf) hb hbp (by simp) (by simpa using ht) pre.toArray.size _ (by simp) (fun j hj => by simp [Array.getD_eq_getD_getElem?, Array.getElem?_replicate] at hj; split at hj <;> simp_all) a w.drew ?_
  have hda : ∀ j, Xs .any pre.toArray j = (dl[j]?).getD [] := by
    intro j
    subst hdl
    simp only [Xs, List.getElem?_map, List.getElem?_toArray]
  have hF0 : ∀ j, (Array.replicate pre.toArray.size false).getD j false = true -> False := fun j hj => by simp [Array.getD_eq_getD_getElem?, Array.getElem?_replicate] at hj; split at hj <;> simp_all
  refine UO hbp a (fun _ W => Below w.heap.size w W) (fun j g W => XT sd j (g j) W) (fun _ _ W W' => Below W.heap.size W W') ?_ ?_ ?_ pre.toArray.size _ (fun _ => undef) a w.drew (by simp) (by
      have := List.countP_le_length (p := fun b => !b) (l := (Array.replicate pre.toArray.size false).toList)
      simpa using this) (fun j hj => (hF0 j hj).elim) (XV.start fun j hj => hF0 j hj) (YJ (Below.refl _ _) 1) (fun j hj => (hF0 j hj).elim)
  . intro i g W W' j g' hB _ h
    unfold XT at h ⊢
    cases hs : sd[j]? with
    | none => trivial
    | some p =>
      obtain ⟨d, s⟩ := p
      rw [hs] at h
      cases s with
      | is v => exact h
      | «by» p => exact Kc hmono hs _ W W' hB h
  . intro i o hoi L g W _ _ hG hd
    have key : ∀ (l : List Oper) (k : Nat), UH P pre.toArray N w sd dl f k l -> ∀ j o, l[j]? = some o -> ∀ W, Below w.heap.size w W -> XE P pre.toArray o N W sd (fun v W' => Below W.heap.size W W' /\ XT sd (k + j) v W') ((dl[k + j]?).getD []) f := by
      intro l
      induction l with
      | nil => intro k _ j o h; simp at h
      | cons x l ih =>
        intro k hs j o h
        cases j with
        | zero =>
          simp only [List.getElem?_cons_zero, Option.some.injEq] at h
          subst h
          exact hs.1
        | succ j =>
          have := ih (k + 1) hs.2 j o (by simpa using h)
          rw [show k + (j + 1) = k + 1 + j by omega]
          exact this
    have hk := key pre 0 hst i o (by simpa using hoi) W hG
    rw [Nat.zero_add] at hk
    have hdo : XJ .any o = (dl[i]?).getD [] := by rw [<- hda i, Yn hoi]
    rw [hdo] at hd ⊢
    rw [Vu (ds := sd.map (·.1)) (by simpa using hds)]
    have hH : Vp (fun j g w => XT sd j (g j) w) dl g W ((dl[i]?).getD []) := Vp.of _ fun j hj => by have := hd j hj; rwa [hda j] at this
    refine (XE.to hN _ f a hk ha hH).mono fun v W' h => ⟨h.1, hG.trans (h.1.mono hG.size), ?_⟩
    simp only [X4]
    rw [show Ua g i v i = v by simp [Ua]]
    exact h.2
  . intro L g W hL hG hd
    rw [Vu (ds := sd.map (·.1)) (by simpa using hds)]
    have hH : Vp (fun j g w => XT sd j (g j) w) dl g W (List.range' 0 sd.length) := Vp.of _ fun j hj => by
      have hj' : j < pre.toArray.size := by
        simp [List.mem_range'] at hj
        simp
        omega
      have := hd j hj'
      rwa [hda j] at this
    have hfin := V8.to (Q := fun a W => wpList P (pre ++ suf).toArray Q suf a W) hN (fun f h a ha => h a ha) sd 0 f a (by simp) (hend W hG) ha hH
    show wpOps P (pre ++ suf).toArray Q (List.range' pre.toArray.size suf.length) _ _
    rw [wpOps_eq_wpList suf pre.toArray.size (fun j => by simp [List.getElem?_append_right])]
    rw [List.range_eq_range', show pre.toArray.size = sd.length by simp; omega]
    exact hfin
theorem WC.drawM {id : Nat} {f : Fl} {w : World} {Q : Exit -> Act -> World -> Prop} (m : Nat) {ops : List Oper} (sd : List (Option Tmp × VS)) (dl : List (List Nat)) (hm : P.follows .mixedOrders = true) (hb : VT .any ops.toArray = true) (hbp : VT .any (ops.take m).toArray = true) (ht : UI .any ops.toArray (ops.take m).length = true) (hdl : (ops.take m).map (XJ .any) = dl)
  (hds : (ops.take m).map (·.dst) = sd.map (·.1)) (hN : E8 N sd = true) (hmono : VS.mono sd) (hst : UH P (ops.take m).toArray N w sd dl f 0 (ops.take m))
  (hend : ∀ W, Below w.heap.size w W -> V8 (fun f W => WL P ops.toArray Q N (ops.drop m) f W) W sd f) : WC P N (.region id ops.toArray true) Q f w :=
 WC.drawT (ops.take m) (ops.drop m) (List.take_append_drop m ops) sd dl hm hb hbp ht hdl hds hN hmono hst hend
theorem UH.cons {ops : Array Oper} {w0 : World} {f : Fl} {k : Nat} {o : Oper} {l : List Oper} (h : ∀ W, Below w0.heap.size w0 W -> XE P ops o N W sd (fun v W' => Below W.heap.size W W' /\ XT sd k v W') ((dl[k]?).getD []) f) (hl : UH P ops N w0 sd dl f (k + 1) l) : UH P ops N w0 sd dl f k (o :: l) := ⟨h, hl⟩
theorem Xb {ops : Array Oper} {o : Oper} {f : Fl} {w : World} (hw : QP ops o f = some false) : DV P ops o N f w undef := fun a ha => QK.off (R := fun v' w' => v' = undef /\ w' = w) (Qw ha hw) ⟨rfl, rfl⟩
end
section
variable {P : Program} {ops : Array Oper} {o : Oper} {N : Nat} {f : Fl} {w : World} {Q : Exit -> Act -> World -> Prop} {rest : List Oper}
/-- What an operation that only moves a value yields. -/
def puF (ops : Array Oper) (N : Nat) (o : Oper) (f : Fl) : Option (Nat × Value) := match QP ops o f, o.dst with
  | some true, some d => bif Nat.blt d N then (match o.op with
    | .move x => (ev f x).map fun v => (d, v)
    | .assign x => (ev f x).map fun v => (d, v)
    | .extract x i => match ev f x with
      | some (.tuple vs) => (vs[i]?).map fun v => (d, v)
      | _ => none
    | .pick c x y => match ev f c with
      | some (.bool b) => (bif b then ev f x else ev f y).map fun v => (d, v)
      | _ => none
    | _ => none) else none
  | _, _ => none
theorem Pu {d : Nat} {v : Value} (h : puF ops N o f = some (d, v)) (k : WL P ops Q N rest ((d, v) :: f) w) : WL P ops Q N (o :: rest) f w := by
  unfold puF at h
  split at h
  . rename_i d' hw hd
    cases hb : Nat.blt d' N with
    | false => rw [hb] at h; cases h
    | true =>
      rw [hb] at h
      simp only [cond_true] at h
      have hN : decide (d' < N) = true := decide_eq_true (by simpa [Nat.blt_eq] using hb)
      split at h
      . rename_i x ho
        obtain ⟨v', hv, e⟩ := Option.map_eq_some_iff.1 h
        cases e
        exact WL.val (Qt ho hv hw) hd hN k
      . rename_i x ho
        obtain ⟨v', hv, e⟩ := Option.map_eq_some_iff.1 h
        cases e
        exact WL.val (KH ho hv hw) hd hN k
      . rename_i x i ho
        split at h
        . rename_i vs hx
          obtain ⟨v', hv, e⟩ := Option.map_eq_some_iff.1 h
          cases e
          exact WL.val (Zd ho hx hv hw) hd hN k
        . cases h
      . rename_i c x y ho
        split at h
        . rename_i b hc
          obtain ⟨v', hv, e⟩ := Option.map_eq_some_iff.1 h
          cases e
          exact WL.val (ZT ho hc hv hw) hd hN k
        . cases h
      . cases h
  . cases h
def ofF (ops : Array Oper) (N : Nat) (o : Oper) (f : Fl) : Option Nat := match QP ops o f, o.dst with
  | some false, some d => bif Nat.blt d N then some d else none
  | _, _ => none
theorem Of {d : Nat} (h : ofF ops N o f = some d) (k : WL P ops Q N rest ((d, undef) :: f) w) : WL P ops Q N (o :: rest) f w := by
  unfold ofF at h
  split at h
  . rename_i d' hw hd
    cases hb : Nat.blt d' N with
    | false => rw [hb] at h; cases h
    | true =>
      rw [hb] at h
      cases h
      exact WL.off hw hd (decide_eq_true (by simpa [Nat.blt_eq] using hb)) k
  . cases h
theorem Dd {sd : List (Option Tmp × VS)} {k : Nat} {v : Value} (h : DV P ops o N f w v) (e : XT sd k v w) : DR P ops o N f w (fun v' W' => Below w.heap.size w W' /\ XT sd k v' W') := DV.dr h ⟨Below.refl _ _, e⟩
end
abbrev Sq := @WC.seq
abbrev Rg := @WC.region
abbrev Va := @WL.val
abbrev Ni := @WL.nil
abbrev Ge := @WL.get
abbrev Dc := @UH.cons
abbrev dT := @of_decide_eq_true
abbrev dF := @of_decide_eq_false
abbrev zV : List Value := [.int .i64 0, .int .i64 0, .string ⟨#[]⟩, .slice none 0 0, .slice none 0 0]
abbrev oC := @VY
abbrev nB := @Nat.le_of_ble_eq_true
theorem o5 {a b c d e : Value} (h1 : a.oneCell' = true := by rfl) (h2 : b.oneCell' = true := by rfl) (h3 : c.oneCell' = true := by rfl) (h4 : d.oneCell' = true := by rfl) (h5 : e.oneCell' = true := by rfl) : ∀ u ∈ [a, b, c, d, e], u.oneCell' = true := VY h1 (VY h2 (VY h3 (VY h4 (VY h5 Qk))))
theorem aR {α : Type} {a : α} {q : Prop} (k : q) : a = a /\ q := ⟨rfl, k⟩
theorem aI {a b : Int} {q : Prop} (h : a = b) (k : q) : some (Value.int .i64 a) = some (Value.int .i64 b) /\ q := ⟨by rw [h], k⟩
theorem dM {P : Program} {N : Nat} {id : Nat} {f : Fl} {w : World} {Q : Exit -> Act -> World -> Prop} (m : Nat) {ops : List Oper} (sd : List (Option Tmp × VS)) (dl : List (List Nat)) (hmono : VS.mono sd) (hst : UH P (ops.take m).toArray N w sd dl f 0 (ops.take m)) (hend : ∀ W, Below w.heap.size w W -> V8 (fun f W => WL P ops.toArray Q N (ops.drop m) f W) W sd f) (hm : P.follows .mixedOrders = true := by kernel_rfl) (hb : VT .any ops.toArray = true := by kernel_rfl) (hbp : VT .any (ops.take m).toArray = true := by kernel_rfl) (ht : UI .any ops.toArray (ops.take m).length = true := by kernel_rfl) (hdl : (ops.take m).map (XJ .any) = dl := by kernel_rfl) (hds : (ops.take m).map (·.dst) = sd.map (·.1) := by kernel_rfl) (hN : E8 N sd = true := by kernel_rfl) : WC P N (.region id ops.toArray true) Q f w := WC.drawM m sd dl hm hb hbp ht hdl hds hN hmono hst hend
theorem mA {α : Type} {a : α} {p : α -> Prop} (h : p a) : ∀ x ∈ [a], p x := fun x hx => by rw [List.mem_singleton.1 hx]; exact h
theorem mB {α : Type} {a b : α} {p : α -> Prop} (h : p a) (k : p b) : ∀ x ∈ [a, b], p x := fun x hx => by
  rcases List.mem_cons.1 hx with rfl | hx
  . exact h
  . rw [List.mem_singleton.1 hx]; exact k
structure YR (B B' : Nat) (w w' : World) : Prop where
 os : w'.os = w.os
 tape : w'.tape = w.tape
 output : w'.output = w.output
 size : w.heap.size <= w'.heap.size
 block : ∀ k, k < w.heap.size -> k ≠ B -> w'.heap[k]? = w.heap[k]?
 new : B' = B \/ w.heap.size <= B'
theorem YR.of_only {B : Nat} {w w' : World} (h : Yi B w w') : YR B B w w' := ⟨h.os, h.tape, h.output, by rw [h.size]; exact Nat.le_refl _, fun k _ hk => h.block k hk, .inl rfl⟩
theorem YR.of_below {B : Nat} {w w' : World} (h : Below w.heap.size w w') : YR B w.heap.size w w' := ⟨h.os, h.tape, h.output, h.size, fun k hk _ => h.block k hk, .inr (Nat.le_refl _)⟩
theorem YR.below {n0 B B' : Nat} {w0 w w' : World} (h : YR B B' w w') (hb : Below n0 w0 w) (hB : n0 <= B) (hn : n0 <= w.heap.size) : Below n0 w0 w' :=
 ⟨by rw [h.os]; exact hb.os, by rw [h.tape]; exact hb.tape, by rw [h.output]; exact hb.output, Nat.le_trans hb.size h.size, fun k hk => by rw [h.block k (by omega) (by omega)]; exact hb.block k hk⟩
theorem YR.le {n0 B B' : Nat} {w w' : World} (h : YR B B' w w') (hB : n0 <= B) (hn : n0 <= w.heap.size) : n0 <= B' := by
 cases h.new with
 | inl e => omega
 | inr e => omega
theorem Xc.grow {w w' : World} {B B' C : Nat} {cs : List Value} (h : Xc w C cs) (hg : YR B B' w w') (hn : C ≠ B) : Xc w' C cs := by
 have hlt := h.lt
 obtain ⟨t, h'⟩ := h
 exact ⟨t, by rw [hg.block C hlt hn]; exact h'⟩
theorem Xc.grow_ne {w w' : World} {B B' C : Nat} {cs : List Value} (h : Xc w C cs) (hg : YR B B' w w') (hn : C ≠ B) : C ≠ B' := by
 have hlt := h.lt
 cases hg.new with
 | inl e => rw [e]; exact hn
 | inr e => omega
theorem E3 {s : Nat} {L : List Nat} {w : World} {a : Option Addr} {n cap : Nat} {rs : List (List Value)} (h : QD s L w (.slice a n cap) rs) {X o : Nat} (ha : a = some ⟨X, o, none⟩) (hn : rs ≠ []) : X < w.heap.size := by
 obtain ⟨h0, hr, a', cap', h1, h2, h3, h4, h5⟩ := h
 obtain ⟨X', o', e, hX, hc⟩ := h5 hn
 simp only [Value.slice.injEq] at h1
 rw [<- h1.1, ha] at e
 simp at e
 have hlen : 0 < rs.flatten.length := by
  rw [ZI hr]
  exact Nat.mul_pos (List.length_pos_iff.2 hn) h0
 have := GS hc hlen
 omega
theorem QD.grow {s : Nat} {L : List Nat} {B B' : Nat} {w w' : World} {v : Value} {rs : List (List Value)} (h : QD s (B :: L) w v rs) (hg : YR B B' w w') : QD s (B' :: L) w' v rs := by
  have hh := h
  obtain ⟨h0, hr, a, cap, h1, h2, h3, h4, h5⟩ := h
  refine ⟨h0, hr, a, cap, h1, h2, h3, h4, fun hn => ?_⟩
  obtain ⟨X, o, e, hX, hc⟩ := h5 hn
  subst h1
  have hlt := E3 hh e hn
  simp only [List.mem_cons, not_or] at hX
  refine ⟨X, o, e, ?_, fun j v hj => ?_⟩
  . simp only [List.mem_cons, not_or]
    refine ⟨?_, hX.2⟩
    cases hg.new with
    | inl e => rw [e]; exact hX.1
    | inr e => omega
  . rw [<- hc j v hj]
    exact World.cell?_of_block (hg.block X hlt hX.1)
def Y5 (s : Nat) (w : World) (v : Value) (rs : List (List Value)) (B : Nat) : Prop :=
 0 < s /\ (∀ r ∈ rs, r.length = s) /\ ∃ cap sp, v = .slice (some ⟨B, 0, none⟩) rs.length cap /\ rs.length <= cap /\ cap <= maxLen /\ sp.length = (cap - rs.length) * s /\ Xc w B (rs.flatten ++ sp)
theorem Y5.rd {s : Nat} {w : World} {v : Value} {rs : List (List Value)} {B : Nat} {L : List Nat} (h : Y5 s w v rs B) (hB : B ∉ L) : QD s L w v rs := by
 obtain ⟨h0, hr, cap, sp, rfl, h2, h3, h4, h5⟩ := h
 refine ⟨h0, hr, _, cap, rfl, h2, h3, by simp, fun _ => ⟨B, 0, rfl, hB, fun j v hj => h5.range j v ?_⟩⟩
 rw [List.getElem?_append_left (List.getElem?_eq_some_iff.1 hj).1]
 exact hj
theorem Y5.one {s : Nat} {w : World} {v : Value} {rs : List (List Value)} {B : Nat} (h : Y5 s w v rs B) : v.oneCell' = true := by
 obtain ⟨_, _, cap, sp, rfl, _⟩ := h
 rfl
theorem Y5.lt {s : Nat} {w : World} {v : Value} {rs : List (List Value)} {B : Nat} (h : Y5 s w v rs B) : B < w.heap.size := by
 obtain ⟨h0, hr, cap, sp, rfl, h2, h3, h4, h5⟩ := h
 exact h5.lt
theorem Y5.below {s : Nat} {w w' : World} {v : Value} {rs : List (List Value)} {B : Nat} (h : Y5 s w v rs B) (hb : Below w.heap.size w w') : Y5 s w' v rs B := by
 obtain ⟨h0, hr, cap, sp, h1, h2, h3, h4, h5⟩ := h
 exact ⟨h0, hr, cap, sp, h1, h2, h3, h4, h5.below hb⟩
theorem Y5.other {s : Nat} {w w' : World} {v : Value} {rs : List (List Value)} {B C : Nat} (h : Y5 s w v rs B) (ho : Yi C w w') (hn : B ≠ C) : Y5 s w' v rs B := by
 obtain ⟨h0, hr, cap, sp, h1, h2, h3, h4, h5⟩ := h
 exact ⟨h0, hr, cap, sp, h1, h2, h3, h4, h5.other ho hn⟩
theorem QcO {s : Nat} {rs : List (List Value)} {i : Nat} {r' : List Value} (h : ∀ r ∈ rs, r.length = s) (hr : r'.length = s) (hi : i < rs.length) (sp : List Value) :
  (rs.flatten ++ sp).take (i * s) ++ (r' ++ (rs.flatten ++ sp).drop (i * s + s)) = (rs.set i r').flatten ++ sp := by
 have hl : (rs.take i).flatten.length = i * s := by rw [ZI (fun r hr => h r (List.mem_of_mem_take hr)), List.length_take, Nat.min_eq_left (by omega)]
 have e1 : rs.flatten = (rs.take i).flatten ++ ((rs.drop i).flatten) := by rw [<- List.flatten_append, List.take_append_drop]
 have e2 : (rs.drop i).flatten = rs[i] ++ (rs.drop (i + 1)).flatten := by rw [List.drop_eq_getElem_cons hi, List.flatten_cons]
 have hri := h rs[i] (List.getElem_mem hi)
 have e3 : rs.set i r' = rs.take i ++ r' :: rs.drop (i + 1) := by rw [List.set_eq_take_append_cons_drop, if_pos hi]
 rw [e3, List.flatten_append, List.flatten_cons, e1, e2]
 simp only [List.append_assoc]
 rw [<- hl, List.take_left, List.drop_append, List.drop_eq_nil_of_le (by omega), List.nil_append, Nat.add_sub_cancel_left, <- hri, List.drop_left]
section
variable {P : Program} {ops : Array Oper} {o : Oper} {N : Nat} {f : Fl} {w : World}
theorem UC {t s B : Nat} {x y : Operand} {v : Value} {rs : List (List Value)} {K : IntKind} {i : Int} (k : Nat) {o1 : Nat} (ho : o.op = .indexAddr t x y) (ht : X3 P t s = true) (hx : ev f x = some v) (hy : ev f y = some (.int K i)) (hr : Y5 s w v rs B) (hk : i = (k : Int)) (hi : k < rs.length) (h1 : k * s = o1) (hw : QP ops o f = some true := by rfl) :
  DV P ops o N f w (.pointer (some ⟨B, o1, none⟩)) := fun a ha => by
 obtain ⟨h0, hl, cap, sp, rfl, h2, h3, h4, h5⟩ := hr
 obtain ⟨e, hu, hs⟩ := X6 ht
 have hx := ha.ev hx
 have hy := ha.ev hy
 subst hk
 have hrun := JX (w := w) (n := rs.length) (c := cap) hu hs B 0 K (k : Int) (by omega) (by omega)
 refine QK.pure (Qw ha hw) _ (by unfold execOp; simp only [ho, hx, hy, Sem.run_bind, hrun, Result.andThen_ok]; rfl) ⟨?_, rfl⟩
 rw [<- h1]; simp
theorem Qaa {t s s' B : Nat} {x : Operand} {v : Value} {rs : List (List Value)} (ho : o.op = .call { callee := .builtin .len, args := #[x], argTypes := #[t] }) (ht : X3 P t s' = true) (hx : ev f x = some v) (hr : Y5 s w v rs B) (hw : QP ops o f = some true := by rfl) : DV P ops o N f w (.int .i64 (rs.length : Int)) := by
 obtain ⟨_, _, cap, sp, rfl, _⟩ := hr
 obtain ⟨e, hu, _⟩ := X6 ht
 exact Hd ho hu hx hw
theorem QcV {t s B k o0 : Nat} {x : Operand} {v : Value} {rs : List (List Value)} {r : List Value} (ho : o.op = .load t x) (ht : Jp P t s = true) (hx : ev f x = some (.pointer (some ⟨B, o0, none⟩))) (hr : Y5 s w v rs B) (hk : k * s = o0) (hi : rs[k]? = some r) (hw : QP ops o f = some true := by rfl) : DV P ops o N f w (.agg r.toArray) := by
 obtain ⟨h0, hl, cap, sp, rfl, h2, h3, h4, h5⟩ := hr
 have hlt := (List.getElem?_eq_some_iff.1 hi).1
 have hc := h5.part (k * s) s
 have hf := UZ hl hi
 have e : ((rs.flatten ++ sp).drop (k * s)).take s = r := by
  have hlen : (k + 1) * s <= rs.flatten.length := by rw [ZI hl]; exact Nat.mul_le_mul_right _ hlt
  rw [Nat.succ_mul] at hlen
  rw [List.drop_append_of_le_length (by omega), List.take_append_of_le_length (by rw [List.length_drop]; omega)]
  exact hf
 rw [e, hk] at hc
 exact Qg ho ht hx hc (hl r (List.mem_of_getElem? hi)) hw
theorem HW {t s B k o0 : Nat} {x y : Operand} {V v : Value} {rs : List (List Value)} {r : List Value} (ho : o.op = .store t x y) (ht : Zh P t s = true) (hx : ev f x = some (.pointer (some ⟨B, o0, none⟩))) (hy : ev f y = some V) (hv : V.cells.toList = r) (h1 : ∀ v ∈ r, v.oneCell' = true)
  (hr : Y5 s w v rs B) (hk : k * s = o0) (hi : k < rs.length) (hl : r.length = s) (hw : QP ops o f = some true := by rfl) : DR P ops o N f w fun _ W => Y5 s W v (rs.set k r) B /\ Yi B w W := by
 obtain ⟨h0, hrl, cap, sp, rfl, h2, h3, h4, h5⟩ := hr
 have hlen : (k + 1) * s <= rs.flatten.length := by rw [ZI hrl]; exact Nat.mul_le_mul_right _ hi
 rw [Nat.succ_mul] at hlen
 refine (Qh (cs' := (rs.set k r).flatten ++ sp) ho ht hx hy hv h1 h5 hl (by rw [List.length_append]; omega) (by rw [<- hk]; exact QcO hrl hl hi sp) hw).mono fun _ W h => ⟨⟨h0, fun r' hr' => ?_, cap, sp, by rw [List.length_set], by rw [List.length_set]; exact h2, h3, by rw [List.length_set]; exact h4, h.1⟩, h.2⟩
 rcases List.mem_or_eq_of_mem_set hr' with h | h
 . exact hrl r' h
 . rw [h]; exact hl
theorem VI {t e : TypeId} (hu : P.underlying t = some (.slice e)) {i : TypeInfo} (hi : P.info? e = some i) {Z : Value} (hz : i.zero = some Z) (len : Nat) (parts : Array (Nat × Value)) (hlen : len * i.size <= 16777216) {cs : Array Value}
    (hf : Instr.fill (fun k => some (k * i.size, i.size)) (if len * i.size = 0 then #[] else (Array.range (len * i.size)).map (Z.cells[· % Z.cells.size]!)) parts.toList = some cs) :
    (Instr.buildSlice t len parts).run P w = .ok (.slice (some ⟨w.heap.size, 0, none⟩) len len) (w.alloc (.cells cs e)) := by
  have hn : ¬ len * i.size > 2 ^ 24 := by omega
  unfold Instr.buildSlice
  simp only [Sem.run_bind, run_underlying hu, Result.andThen_ok, sizeOf, typeInfo, run_program, hi, Sem.run_pure, if_neg hn]
  by_cases h0 : len * i.size = 0
  . rw [if_pos h0] at hf
    have e0 : Array.map (fun x => (#[] : Array Value)[x % (#[] : Array Value).size]!) (Array.range (len * i.size)) = #[] := by rw [h0]; simp
    simp only [if_pos h0, Sem.run_pure, Result.andThen_ok, e0, hf, newRow, Sem.run_bind, run_newObj_alloc]
  . rw [if_neg h0] at hf
    simp only [if_neg h0, zeroValue, typeInfo, Sem.run_bind, run_program, hi, hz, Sem.run_pure, Result.andThen_ok, hf, newRow, run_newObj_alloc]
theorem Ka (w : World) (t : TypeId) (cs : List Value) : Xc (w.alloc (.cells cs.toArray t)) w.heap.size cs /\ Below w.heap.size w (w.alloc (.cells cs.toArray t)) /\ w.heap.size < (w.alloc (.cells cs.toArray t)).heap.size :=
 ⟨⟨t, by rw [heap_alloc_new]⟩, (Below.refl _ _).alloc (Nat.le_refl _) _, (Array.getElem?_eq_some_iff.1 (heap_alloc_new w _)).1⟩
def Hu (s : Nat) (w : World) (rs : List (List Value)) (u : Value) (W : World) : Prop := Y5 s W u rs w.heap.size /\ Below w.heap.size w W /\ w.heap.size < W.heap.size
theorem FB {t len s : Nat} {parts : Array (Nat × Operand)} {e : TypeId} {i : TypeInfo} {Z : Value} {ps : List (Nat × Value)} {rs : List (List Value)} (ho : o.op = .buildSlice t len parts) (hu : P.underlying t = some (.slice e)) (hi : P.info? e = some i) (hz : i.zero = some Z) (hs : i.size = s) (h0 : 0 < s)
  (hp : (evl f (parts.toList.map (·.2))).map (fun vs => (parts.toList.map (·.1)).zip vs) = some ps) (hlen : len * s <= 16777216)
  (hf : Instr.fill (fun k => some (k * s, s)) (if len * s = 0 then #[] else (Array.range (len * s)).map (Z.cells[· % Z.cells.size]!)) ps = some rs.flatten.toArray) (hrs : ∀ r ∈ rs, r.length = s) (hl : rs.length = len) (hm : len <= maxLen) (hw : QP ops o f = some true := by rfl) : DR P ops o N f w (Hu s w rs) := fun a ha => by
 have key : (parts.map fun (i, x) => (i, a.eval x)).toList = ps := by
  cases hq : evl f (parts.toList.map (·.2)) with
  | none => rw [hq] at hp; cases hp
  | some vs =>
   rw [hq] at hp
   have h1 := ha.evl hq
   simp only [Option.map_some, Option.some.injEq] at hp
   rw [<- hp, <- h1, Array.toList_map]
   clear hp h1 hq ho
   induction parts.toList with
   | nil => rfl
   | cons p l ih => simp only [List.map_cons, List.zip_cons_cons, List.cons.injEq, true_and]; exact ih
 subst hs
 have hrun := VI (w := w) hu hi hz len (parts.map fun (i, x) => (i, a.eval x)) hlen (cs := rs.flatten.toArray) (by rw [key]; exact hf)
 exact QK.of_wp (Qw ha hw) fun K hK => by
  unfold Oper.wp execOp
  simp only [ho, Sem.run_bind, hrun, Sem.run_pure, Result.andThen_ok]
  obtain ⟨n1, n2, n3⟩ := Ka w e rs.flatten
  exact hK _ _ ⟨⟨h0, hrs, len, [], by rw [hl], by omega, hm, by simp [hl], by simpa using n1⟩, n2, n3⟩
theorem F4 {t ty e t' : TypeId} {i : TypeInfo} (ht : P.underlying t = some (.slice e)) (hi : P.info? e = some i)
  (g sLen sCap : Nat) (cur : Array Value) (hg : w.heap[g]? = some (.cells cur t' (0, 0)))
  (a : Addr) (m c : Nat) (news : List Value) (hl : news.length = m * i.size) (hnews : ∀ j u, news[j]? = some u -> w.cell? (a.add j) = some u) (h1 : ∀ u ∈ news, u.oneCell' = true)
  (hroom : sLen + m <= sCap) (hfit : sLen * i.size + news.length <= cur.size) :
  (Builtin.append_ #[t, t] ty #[.slice (some ⟨g, 0, none⟩) sLen sCap, .slice (some a) m c]).run P w =
   .ok (.slice (some ⟨g, 0, none⟩) (sLen + m) sCap) (w.setRow g (cur.toList.take (sLen * i.size) ++ news ++ cur.toList.drop (sLen * i.size + news.length)).toArray) := by
 have hf := run_firstCells_some (P := P) w i.size m a m c news hl hnews
 have hst := run_storeCells_at P g (sLen * i.size) t' news 0 cur w hg (by simpa using hfit) h1
 simp only [Nat.add_zero] at hst
 simp [Builtin.append_, run_underlying ht, sizeOf, typeInfo, hi, Builtin.lenOf, hroom, hf, Zs, hst]
theorem QdC {t ty e : TypeId} (hu : P.underlying t = some (.slice e)) {i : TypeInfo} (hi : P.info? e = some i) {Z : Value} (hz : i.zero = some Z) (hzs : Z.cells.size = i.size) {B : Nat} {v v2 : Value} {rs news : List (List Value)} {L : List Nat}
    (h : Y5 i.size w v rs B) (h2 : QD i.size L w v2 news) (h1 : ∀ r ∈ news, ∀ u ∈ r, u.oneCell' = true) (hm : rs.length + news.length <= maxLen) (hby : (rs.length + news.length) * i.bytes <= 140737488355328) :
    ∃ v' w' B', (Builtin.append_ #[t, t] ty #[v, v2]).run P w = .ok v' w' /\ Y5 i.size w' v' (rs ++ news) B' /\ YR B B' w w' := by
  obtain ⟨h0, hl, cap, sp, rfl, hc1, hc2, hc3, hb⟩ := h
  obtain ⟨_, hl2, a2, cap2, rfl, hd1, hd2, hd3, hd4⟩ := h2
  have hlr : ∀ r ∈ rs ++ news, r.length = i.size := fun r hr => by
    rcases List.mem_append.1 hr with h | h
    . exact hl r h
    . exact hl2 r h
  by_cases hn : news = []
  . subst hn
    refine ⟨.slice (some ⟨B, 0, none⟩) rs.length cap, w, B, ?_, ⟨h0, hlr, cap, sp, by simp, by simpa using hc1, hc2, by simpa using hc3, by simpa using hb⟩, ⟨rfl, rfl, rfl, Nat.le_refl _, fun _ _ _ => rfl, .inl rfl⟩⟩
    obtain ⟨tt, hb'⟩ := hb
    cases a2 with
    | none =>
      obtain rfl := hd3 rfl
      simp [Builtin.append_, run_underlying hu, sizeOf, typeInfo, hi, Builtin.lenOf, hc1, Builtin.firstCells, storeCells]
    | some a2 =>
      simp [Builtin.append_, run_underlying hu, sizeOf, typeInfo, hi, Builtin.lenOf, hc1, Builtin.firstCells, loadCells, loadCellsFrom, storeCells]
  . obtain ⟨X, o0, rfl, hX, hc⟩ := hd4 hn
    obtain ⟨tt, hb'⟩ := hb
    have hnews : ∀ j u, news.flatten[j]? = some u -> w.cell? ((⟨X, o0, none⟩ : Addr).add j) = some u := fun j u hj => by rw [Zs]; exact hc j u hj
    have hflat : news.flatten.length = news.length * i.size := ZI hl2
    have h1' : ∀ u ∈ news.flatten, u.oneCell' = true := fun u hu => by
      obtain ⟨r, hr, hur⟩ := List.mem_flatten.1 hu
      exact h1 r hr u hur
    have hfl : rs.flatten.length = rs.length * i.size := ZI hl
    by_cases hroom : rs.length + news.length <= cap
    . have hle : news.length * i.size <= sp.length := by
        rw [hc3]
        exact Nat.mul_le_mul_right _ (by omega)
      have hr := F4 (P := P) (w := w) (t := t) (ty := ty) hu hi B rs.length cap _ hb' ⟨X, o0, none⟩ news.length cap2 news.flatten hflat hnews h1' hroom (by rw [List.size_toArray, List.length_append, hflat, hfl]; omega)
      refine ⟨_, _, B, hr, ⟨h0, hlr, cap, sp.drop news.flatten.length, by rw [List.length_append], by rw [List.length_append]; exact hroom, hc2, ?_, ⟨tt, ?_⟩⟩, YR.of_only (Vk w B _)⟩
      . rw [List.length_drop, List.length_append, hc3, hflat, <- Nat.sub_mul]
        congr 1
        omega
      . rw [setRow_heap w B _ _ tt _ hb']
        congr 3
        simp only [List.flatten_append, List.append_assoc]
        rw [<- hfl, List.take_left, List.drop_append, List.drop_eq_nil_of_le (by omega), List.nil_append, Nat.add_sub_cancel_left]
    . have holds : ∀ j u, rs.flatten[j]? = some u -> w.cell? ((⟨B, 0, none⟩ : Addr).add j) = some u := fun j u hj => by
        have := (Xc.range ⟨tt, hb'⟩) j u (by rw [List.getElem?_append_left (List.getElem?_eq_some_iff.1 hj).1]; exact hj)
        rw [Zs]; exact this
      have hsmall : rs.length + news.length <= 9223372036854775807 := by unfold maxLen at hm; omega
      have hr := run_append_grow (P := P) w t ty e i Z hu hi hz ⟨B, 0, none⟩ rs.length cap rs.flatten hfl holds ⟨X, o0, none⟩ news.length cap2 news.flatten hflat hnews (by omega) (by omega) (growslice_fits (by omega) hby)
      refine ⟨_, _, w.heap.size, hr, ⟨h0, hlr, grownCap w (rs.length + news.length) cap e, (Builtin.zeroCells Z.cells (grownCap w (rs.length + news.length) cap e - (rs.length + news.length))).toList, by rw [List.length_append], by rw [List.length_append]; exact grownCap_ge _ _ _ _, grownCap_le_maxLen _ _ _ _ hm, ?_, ⟨e, ?_⟩⟩, ?_⟩
      . rw [Array.length_toList, size_zeroCells, hzs, List.length_append]
      . rw [show w.heap.size = w.drew.heap.size from (World.size_drew w).symm, heap_alloc_new]
        congr 2
        apply Array.ext'
        simp
      . exact YR.of_below (KW (YJ (Below.refl _ _) 1) _)
def Hq (P : Program) (t s bytes : Nat) : Bool := match P.underlying t with
 | some (.slice e) => match P.info? e with
  | some i => i.size == s && i.bytes == bytes && (match i.zero with | some z => z.cells.size == s | none => false)
  | none => false
 | _ => false
theorem Y1 {t s bytes : Nat} (h : Hq P t s bytes = true) : ∃ e i Z, P.underlying t = some (.slice e) /\ P.info? e = some i /\ i.zero = some Z /\ i.size = s /\ i.bytes = bytes /\ Z.cells.size = i.size := by
  unfold Hq at h
  split at h
  . rename_i e hu
    split at h
    . rename_i i hi
      simp only [Bool.and_eq_true, beq_iff_eq] at h
      obtain ⟨⟨h1, h2⟩, h3⟩ := h
      split at h3
      . rename_i z hz
        exact ⟨e, i, z, hu, hi, hz, h1, h2, by rw [h1]; simpa using h3⟩
      . cases h3
    . cases h
  . cases h
def GrO (s B : Nat) (w : World) (rs : List (List Value)) (u : Value) (W : World) : Prop := ∃ B', Y5 s W u rs B' /\ YR B B' w W
theorem JM {t s bytes : Nat} {x y : Operand} {v2 : Value} {a1 : Option Addr} {rs news : List (List Value)} {L : List Nat} (ho : o.op = .call { callee := .builtin .append, args := #[x, y], argTypes := #[t, t] }) (ht : Hq P t s bytes = true) (hx : ev f x = some (.slice a1 rs.length rs.length)) (hy : ev f y = some v2)
  (h : QD s L w (.slice a1 rs.length rs.length) rs) (h2 : QD s L w v2 news) (hn : news ≠ []) (hm : rs.length + news.length <= maxLen) (hby : (rs.length + news.length) * bytes <= 140737488355328) (hw : QP ops o f = some true := by rfl) : DR P ops o N f w (Hu s w (rs ++ news)) := fun a ha => by
 obtain ⟨e, i, Z, hu, hi, hz, rfl, rfl, hzs⟩ := Y1 ht
 have hx := ha.ev hx
 have hy := ha.ev hy
 obtain ⟨h0, hl, ad, cap, he, hc1, hc2, hc3, hc4⟩ := h
 obtain ⟨_, hl2, a2, cap2, rfl, hd1, hd2, hd3, hd4⟩ := h2
 simp only [Value.slice.injEq, true_and] at he
 obtain ⟨rfl, rfl⟩ := he
 have hlr : ∀ r ∈ rs ++ news, r.length = i.size := fun r hr => by
  rcases List.mem_append.1 hr with h | h
  . exact hl r h
  . exact hl2 r h
 obtain ⟨X, o0, rfl, hX, hc⟩ := hd4 hn
 have hpos : 0 < news.length := List.length_pos_iff.2 hn
 have hnews : ∀ j u, news.flatten[j]? = some u -> w.cell? ((⟨X, o0, none⟩ : Addr).add j) = some u := fun j u hj => by rw [Zs]; exact hc j u hj
 have hflat : news.flatten.length = news.length * i.size := ZI hl2
 have hfl : rs.flatten.length = rs.length * i.size := ZI hl
 have hsmall : rs.length + news.length <= 9223372036854775807 := by unfold maxLen at hm; omega
 have fin : ∀ cap', rs.length + news.length <= cap' -> cap' <= maxLen -> Hu i.size w (rs ++ news) (.slice (some ⟨w.heap.size, 0, none⟩) (rs.length + news.length) cap') (w.drew.alloc (.cells ((rs ++ news).flatten ++ (Builtin.zeroCells Z.cells (cap' - (rs.length + news.length))).toList).toArray e)) := fun cap' hcap1 hcap2 => by
  refine ⟨⟨h0, hlr, cap', (Builtin.zeroCells Z.cells (cap' - (rs.length + news.length))).toList, by rw [List.length_append], by rw [List.length_append]; exact hcap1, hcap2, ?_, ⟨e, ?_⟩⟩, KW (YJ (Below.refl _ _) 1) _, ?_⟩
  . rw [Array.length_toList, size_zeroCells, hzs, List.length_append]
  . rw [show w.heap.size = w.drew.heap.size from (World.size_drew w).symm, heap_alloc_new]
  . rw [show w.heap.size = w.drew.heap.size from (World.size_drew w).symm]; exact (Array.getElem?_eq_some_iff.1 (heap_alloc_new _ _)).1
 refine QK.of_wp (Qw ha hw) fun K hK => ?_
 have main : ∃ cap', rs.length + news.length <= cap' /\ cap' <= maxLen /\ (Builtin.append_ #[t, t] o.type #[.slice a1 rs.length rs.length, .slice (some ⟨X, o0, none⟩) news.length cap2]).run P w = .ok (.slice (some ⟨w.heap.size, 0, none⟩) (rs.length + news.length) cap') (w.drew.alloc (.cells ((rs ++ news).flatten ++ (Builtin.zeroCells Z.cells (cap' - (rs.length + news.length))).toList).toArray e)) := by
  cases a1 with
  | none =>
   have hz0 := hc3 rfl
   have hrs : rs = [] := List.length_eq_zero_iff.1 hz0
   subst hrs
   have hr := run_append_nil (P := P) w t o.type e i Z hu hi hz ⟨X, o0, none⟩ news.length cap2 news.flatten hflat hnews hpos (by omega) (by simp only [List.length_nil, Nat.zero_add] at hby; omega)
   refine ⟨grownCap w news.length 0 e, by simpa using grownCap_ge _ _ _ _, grownCap_le_maxLen _ _ _ _ (by simpa using hm), ?_⟩
   simp only [List.length_nil, Nat.zero_add]
   rw [hr]
   congr 3
   congr 1
   apply Array.ext'
   simp
  | some b =>
   have holds : ∀ j u, rs.flatten[j]? = some u -> w.cell? (b.add j) = some u := fun j u hj => by
    have hne : rs ≠ [] := by intro e; subst e; simp at hj
    obtain ⟨X', o', e, _, hc'⟩ := hc4 hne
    cases e
    rw [Zs]; exact hc' j u hj
   have hr := run_append_grow (P := P) w t o.type e i Z hu hi hz b rs.length rs.length rs.flatten hfl holds ⟨X, o0, none⟩ news.length cap2 news.flatten hflat hnews (by omega) (by omega) (growslice_fits (by omega) hby)
   refine ⟨grownCap w (rs.length + news.length) rs.length e, grownCap_ge _ _ _ _, grownCap_le_maxLen _ _ _ _ hm, ?_⟩
   rw [hr]
   congr 3
   apply Array.ext'
   simp
 obtain ⟨cap', k1, k2, k3⟩ := main
 unfold Oper.wp execOp
 simp only [ho, resolve, invoke, builtin, Sem.run_bind, Sem.run_pure, Result.andThen_ok, List.map_toArray, List.map_cons, List.map_nil, hx, hy, k3]
 exact hK _ _ (fin cap' k1 k2)
theorem D9 {t s bytes : Nat} {x y : Operand} {K : IntKind} {n : Int} {r : List Value} (ho : o.op = .makeSlice t x y) (ht : Hq P t s bytes = true) (hz : ∀ e, P.underlying t = some (.slice e) -> (P.info? e).bind (fun i => i.zero.map (·.cells.toList)) = some r) (hx : ev f x = some (.int K n)) (hy : ev f y = some (.int K n)) (h0 : 0 <= n) (hs : 0 < s) (hb : bytes * n <= 140737488355328) (hm : n <= maxLen) (hw : QP ops o f = some true := by rfl) :
    DR P ops o N f w (Hu s w (List.replicate n.toNat r)) := fun a ha => by
  obtain ⟨e, i, Z, hu, hi, hZ, rfl, rfl, hzs⟩ := Y1 ht
  have hx := ha.ev hx
  have hy := ha.ev hy
  have hr := hz e hu
  rw [hi] at hr
  simp only [Option.bind_some, hZ, Option.map_some, Option.some.injEq] at hr
  have hrun := run_make (P := P) w t e i Z hu hi hZ K K n n h0 (Int.le_refl _) (by omega) (by unfold maxLen at hm; omega)
  have hrl : r.length = i.size := by rw [<- hr, Array.length_toList, hzs]
  have hcs : madeCells Z.cells (n.toNat * i.size) = (List.replicate n.toNat r).flatten.toArray := by
    apply Array.ext
    . rw [size_madeCells, List.size_toArray, ZI (s := i.size) (fun r' hr' => by rw [(List.mem_replicate.1 hr').2]; exact hrl), List.length_replicate]
    . intro j h1 h2
      rw [size_madeCells] at h1
      have hjs : j % i.size < i.size := Nat.mod_lt _ hs
      have hjd : j / i.size < n.toNat := (Nat.div_lt_iff_lt_mul hs).2 h1
      have hrow := UZ (rs := List.replicate n.toNat r) (s := i.size) (i := j / i.size) (r := r) (fun r' hr' => by rw [(List.mem_replicate.1 hr').2]; exact hrl) (by rw [List.getElem?_replicate, if_pos hjd])
      have hg : (List.replicate n.toNat r).flatten[j]? = r[j % i.size]? := by
        conv => rhs; rw [<- hrow]
        rw [List.getElem?_take, if_pos hjs, List.getElem?_drop]
        congr 1
        have := Nat.div_add_mod j i.size
        rw [Nat.mul_comm] at this
        exact this.symm
      have hzj : j % Z.cells.size < Z.cells.size := by rw [hzs]; exact hjs
      simp only [madeCells, Array.getElem_map, Array.getElem_range]
      rw [getElem!_pos Z.cells _ hzj]
      have h3 : (List.replicate n.toNat r).flatten.toArray[j]? = some ((List.replicate n.toNat r).flatten.toArray[j]) := Array.getElem?_eq_getElem h2
      have h4 : r[j % i.size]? = some (Z.cells[j % Z.cells.size]) := by
        have h5 : r[j % i.size]? = Z.cells.toList[j % i.size]? := by rw [hr]
        rw [h5, Array.getElem?_toList, <- Array.getElem?_eq_getElem hzj, hzs]
      rw [List.getElem?_toArray, hg, h4] at h3
      exact Option.some.inj h3
  exact QK.of_wp (Qw ha hw) fun KK hK => by
    unfold Oper.wp execOp
    simp only [ho, hx, hy, Sem.run_bind, hrun, Sem.run_pure, Result.andThen_ok]
    rw [hcs]
    obtain ⟨n1, n2, n3⟩ := Ka w e (List.replicate n.toNat r).flatten
    exact hK _ _ ⟨⟨hs, fun r' hr' => by rw [(List.mem_replicate.1 hr').2]; exact hrl, n.toNat, [], by rw [List.length_replicate], by rw [List.length_replicate]; omega, by omega, by simp, by simpa using n1⟩, n2, n3⟩
end

def Jr (w : World) (B t : Nat) (cs : List Value) : Prop := w.heap[B]? = some (.cells cs.toArray t (0, 0))
theorem Jr.blk {w : World} {B t : Nat} {cs : List Value} (h : Jr w B t cs) : Xc w B cs := ⟨t, h⟩
theorem Jr.ne {w : World} {B C t t' : Nat} {cs cs' : List Value} (h : Jr w B t cs) (h' : Jr w C t' cs') (hn : (t == t') = false) : B ≠ C := fun e => by
 subst e
 unfold Jr at h h'
 rw [h] at h'
 simp only [Option.some.injEq, Obj.cells.injEq] at h'
 rw [h'.2.1] at hn
 simp at hn
def Ks (base t : Nat) (cs : List Value) (u : Value) (w : World) : Prop := ∃ B, u = .pointer (some ⟨B, 0, none⟩) /\ base <= B /\ Jr w B t cs
theorem Ks.below {base t : Nat} {cs : List Value} {u : Value} {w w' : World} (h : Ks base t cs u w) (hb : Below w.heap.size w w') : Ks base t cs u w' := by
 obtain ⟨B, h1, h2, h3⟩ := h
 exact ⟨B, h1, h2, by unfold Jr; rw [hb.block B h3.blk.lt]; exact h3⟩
theorem LL.cons {L : List Nat} {w : World} {B : Nat} (h : LL L w) (hB : B < w.heap.size) : LL (B :: L) w := fun x hx => by
 cases hx with
 | head => exact hB
 | tail _ hx => exact h x hx
theorem LL.notin {L : List Nat} {w : World} (h : LL L w) {B : Nat} (hB : w.heap.size <= B) : B ∉ L := fun hx => by have := h B hx; omega
theorem Y5.notin {s : Nat} {w0 w : World} {v : Value} {rs : List (List Value)} {B : Nat} {L : List Nat} (h : Y5 s w v rs B) (hL : LL L w0) (hB : w0.heap.size <= B) : QD s L w v rs := h.rd (hL.notin hB)
section
variable {P : Program} {ops : Array Oper} {o : Oper} {N : Nat} {f : Fl} {w : World}
theorem Ul {t : TypeId} {Z : Value} {cs : List Value} (ho : o.op = .alloc t) (hz : (P.info? t).bind (·.zero) = some Z) (hc : Z.cells.toList = cs) (hw : QP ops o f = some true := by rfl) : DR P ops o N f w (fun u W => Below w.heap.size w W /\ ∀ {w0 : World}, Below w0.heap.size w0 w -> Ks w0.heap.size t cs u W) := fun a ha => by
 subst hc
 exact QK.of_wp (Qw ha hw) fun K hK => by
  cases hi : P.info? t with
  | none => rw [hi] at hz; cases hz
  | some i =>
   rw [hi] at hz
   have hz' : i.zero = some Z := hz
   have hti : (typeInfo t).run P w = .ok i w := by simp [typeInfo, hi]
   unfold Oper.wp execOp
   simp only [ho, Sem.run_bind, Instr.alloc, zeroValue, hti, hz', newVar, newRow, run_newObj_alloc, Sem.run_pure, Result.andThen_ok]
   obtain ⟨h1, h2, h3, h4⟩ := JI w t Z
   refine hK _ _ ⟨h3, fun hb => ⟨_, rfl, hb.size, ?_⟩⟩
   unfold Jr
   rw [heap_alloc_new]
theorem Qeg {t s : Nat} {L : List Nat} {x y z : Operand} {v : Value} {rs : List (List Value)} {n : Int} (ho : o.op = .slice t x none (some y) (some z)) (ht : X3 P t s = true) (hx : ev f x = some v) (hr : QD s L w v rs) (hy : ev f y = some (.int .i64 n)) (hz : ev f z = some (.int .i64 n)) (hn : n = (rs.length : Int)) (hw : QP ops o f = some true := by rfl) :
    DR P ops o N f w fun u W => w = W /\ ∃ a, u = .slice a rs.length rs.length /\ QD s L w u rs := fun a ha => by
  subst hn
  obtain ⟨h0, hl, ad, cap, rfl, h2, h3, h4, h5⟩ := hr
  obtain ⟨e, hu, hs⟩ := X6 ht
  have hx := ha.ev hx
  have hy := ha.ev hy
  have hz := ha.ev hz
  have hadd : (ad.map (·.add (0 * s))) = ad := by
    cases ad with
    | none => rfl
    | some b =>
      by_cases hn : rs = []
      . subst hn
        simp [Addr.add]
      . obtain ⟨X, o, e, _⟩ := h5 hn
        cases e
        simp [Zs]
  cases hi : P.info? e with
  | none => rw [hi] at hs; cases hs
  | some q =>
    have hq : q.size = s := by simpa [hi] using hs
    refine QK.pure (Qw ha hw) (.slice ad rs.length rs.length) ?_ ⟨rfl, ad, rfl, h0, hl, ad, rs.length, rfl, Nat.le_refl _, by omega, fun h => by have := h4 h; omega, h5⟩
    have hlen : ((rs.length : Int) <= (cap : Int)) := by omega
    unfold execOp
    simp only [ho, Option.map_none, Option.map_some, hx, hy, hz, Instr.sliceAt, Sem.run_bind, run_underlying hu, Result.andThen_ok, Instr.slice, Instr.sliceBounds, Instr.sliceBound, asIntOf, Sem.run_pure, sizeOf, typeInfo, run_program, hi]
    simp [hlen, hq, Int.le_refl]
    intro hne
    have := hadd
    simp only [Nat.zero_mul] at this
    exact this
theorem FA {x y : Operand} {ts : Array TypeId} {K : IntKind} {m n : Int} (ho : o.op = .call { callee := .builtin .max, args := #[x, y], argTypes := ts }) (hx : ev f x = some (.int K m)) (hy : ev f y = some (.int K n)) (hw : QP ops o f = some true := by rfl) : DV P ops o N f w (.int K (if m < n then n else m)) := fun a ha => by
 have hx := ha.ev hx
 have hy := ha.ev hy
 refine QK.pure (Qw ha hw) _ ?_ ⟨rfl, rfl⟩
 unfold execOp
 simp only [ho, resolve, invoke, builtin, Sem.run_bind, Sem.run_pure, Result.andThen_ok, List.map_toArray, List.map_cons, List.map_nil, hx, hy, Builtin.max_, List.foldlM_cons, List.foldlM_nil, Builtin.max2]
theorem Fz {x y : Operand} {ts : Array TypeId} {K : IntKind} {m n : Int} (ho : o.op = .call { callee := .builtin .min, args := #[x, y], argTypes := ts }) (hx : ev f x = some (.int K m)) (hy : ev f y = some (.int K n)) (hw : QP ops o f = some true := by rfl) : DV P ops o N f w (.int K (if n < m then n else m)) := fun a ha => by
 have hx := ha.ev hx
 have hy := ha.ev hy
 refine QK.pure (Qw ha hw) _ ?_ ⟨rfl, rfl⟩
 unfold execOp
 simp only [ho, resolve, invoke, builtin, Sem.run_bind, Sem.run_pure, Result.andThen_ok, List.map_toArray, List.map_cons, List.map_nil, hx, hy, Builtin.min_, List.foldlM_cons, List.foldlM_nil, Builtin.min2]
theorem QcS {t : TypeId} {e : TypeId} (hu : P.underlying t = some (.slice e)) (d : Nat) (a : Addr) (n c : Nat) : (Op.equalIn (d + 1) t (.slice (some a) n c) (.slice none 0 0)).run P w = .ok false w := by
 simp [Op.equalIn, run_underlying hu]
theorem Qd8 {t t' s : Nat} {L : List Nat} {x : Operand} {v : Value} {rs : List (List Value)} {e : TypeId} (ho : o.op = .binOp .eql t x (.const (.slice none 0 0)) t') (hu : P.underlying t = some (.slice e)) (hx : ev f x = some v) (hr : QD s L w v rs) (hn : rs ≠ []) (hw : QP ops o f = some true := by rfl) : DV P ops o N f w (.bool false) := fun a ha => by
 obtain ⟨h0, hl, ad, cap, rfl, h2, h3, h4, h5⟩ := hr
 obtain ⟨X, o0, rfl, _, _⟩ := h5 hn
 have hx := ha.ev hx
 have e1 : binOp .eql t (.slice (some ⟨X, o0, none⟩) rs.length cap) (.slice none 0 0) = (do pure (.bool (<- Op.equal t (.slice (some ⟨X, o0, none⟩) rs.length cap) (.slice none 0 0)))) := rfl
 have e2 : (Op.equal t (.slice (some ⟨X, o0, none⟩) rs.length cap) (.slice none 0 0)).run P w = .ok false w := QcS hu 9999 _ _ _
 exact QK.pure (Qw ha hw) _ (by unfold execOp; simp only [ho, hx, Qe2, eqGuard, Sem.run_bind, Sem.run_pure, Result.andThen_ok, e1]; show ((((Sem.run P (Op.equal t (Value.slice (some { block := X, off := o0 }) rs.length cap) (Value.slice none 0 0)) w).andThen fun a w' => Result.ok (Value.bool a) w').andThen fun a w' => Result.ok (Next.value a) w') = _); rw [e2]; rfl) ⟨rfl, rfl⟩
theorem Gh {t s bytes : Nat} (ho : o.op = .buildSlice t 0 #[]) (ht : Hq P t s bytes = true) (h0 : 0 < s) (hw : QP ops o f = some true := by rfl) : DR P ops o N f w (Hu s w []) := by
 obtain ⟨e, i, Z, hu, hi, hZ, rfl, rfl, hzs⟩ := Y1 ht
 exact FB (ps := []) (rs := []) ho hu hi hZ rfl h0 rfl (by omega) (by simp [Instr.fill]) (by simp) rfl (by unfold maxLen; omega) hw
theorem QcP (s : Nat) (cells : Array Value) (hc : cells.size = s) (V : Value) (hV : V.cells.size = s) : Instr.fill (fun k => some (k * s, s)) cells [(0, V)] = some V.cells := by
 have key : ∀ (l : List (Value × Nat)) (cs : Array Value), l.foldl (fun cs (p : Value × Nat) => cs.setIfInBounds (0 * s + p.2) p.1) cs = l.foldl (fun cs (p : Value × Nat) => cs.setIfInBounds p.2 p.1) cs := by
  intro l; induction l with
  | nil => intro cs; rfl
  | cons x l ih => intro cs; simp only [List.foldl_cons, Nat.zero_mul, Nat.zero_add]
 have gen : ∀ (l : List Value) (k : Nat) (cs : Array Value), k + l.length = cs.size -> ((l.zipIdx k).foldl (fun cs (p : Value × Nat) => cs.setIfInBounds p.2 p.1) cs).toList = cs.toList.take k ++ l := by
  intro l
  induction l with
  | nil => intro k cs h; simp only [List.length_nil, Nat.add_zero] at h; rw [List.take_of_length_le (by simp [h])]; simp
  | cons x l ih =>
   intro k cs h
   simp only [List.zipIdx_cons, List.foldl_cons]
   rw [ih (k + 1) _ (by simp at h ⊢; omega)]
   have hk : k < cs.toList.length := by simp at h ⊢; omega
   rw [Array.toList_setIfInBounds, List.take_succ_eq_append_getElem (by simpa using hk)]
   simp only [List.getElem_set_self, List.append_assoc, List.singleton_append, List.cons_append, List.nil_append]
   congr 1
   rw [List.take_set, List.set_eq_of_length_le (by rw [List.length_take]; omega)]
 unfold Instr.fill
 simp only [Nat.zero_mul, hV, hc, ne_eq, not_true_eq_false, Nat.zero_add, Nat.lt_irrefl, gt_iff_lt, or_self, if_false, Instr.fill, Bool.or_self, decide_false, decide_true]
 simp only [<- Array.foldl_toList, Array.toList_zipIdx]
 have h2 := gen V.cells.toList 0 cells (by simp [hV, hc])
 have h3 : (List.foldl (fun cs (p : Value × Nat) => cs.setIfInBounds p.2 p.1) cells (V.cells.toList.zipIdx 0)) = V.cells := by
  apply Array.ext'
  rw [h2]; simp
 simpa using h3
theorem ZP {t s bytes : Nat} {x : Operand} {V : Value} {r : List Value} (ho : o.op = .buildSlice t 1 #[(0, x)]) (ht : Hq P t s bytes = true) (h0 : 0 < s) (hs : s <= 16777216) (hx : ev f x = some V) (hV : V.cells.toList = r) (hl : r.length = s) (hw : QP ops o f = some true := by rfl) : DR P ops o N f w (Hu s w [r]) := by
 obtain ⟨e, i, Z, hu, hi, hZ, rfl, rfl, hzs⟩ := Y1 ht
 have hVs : V.cells.size = i.size := by rw [<- Array.length_toList, hV, hl]
 refine FB (ps := [(0, V)]) (rs := [r]) ho hu hi hZ rfl h0 (by simp [evl, hx]) (by omega) ?_ (by simpa using hl) rfl (by unfold maxLen; omega) hw
 rw [if_neg (by omega), QcP i.size _ (by simp) V hVs]
 simp [<- hV]
theorem LL.grow {L : List Nat} {w w' : World} {B B' : Nat} (h : LL L w) (hg : YR B B' w w') (hB : B' < w'.heap.size) : LL (B' :: L) w' := fun x hx => by
 cases hx with
 | head => exact hB
 | tail _ hx => exact Nat.lt_of_lt_of_le (h x hx) hg.size
theorem QD.grow' {s : Nat} {L : List Nat} {B B' : Nat} {w w' : World} {v : Value} {rs : List (List Value)} (h : QD s L w v rs) (hg : YR B B' w w') (hB : B ∈ L) : QD s (B' :: L) w' v rs := by
  have hh := h
  obtain ⟨h0, hr, a, cap, h1, h2, h3, h4, h5⟩ := h
  refine ⟨h0, hr, a, cap, h1, h2, h3, h4, fun hn => ?_⟩
  obtain ⟨X, o, e, hX, hc⟩ := h5 hn
  subst h1
  have hlt := E3 hh e hn
  have hXB : X ≠ B := fun e => hX (e ▸ hB)
  refine ⟨X, o, e, ?_, fun j v hj => ?_⟩
  . simp only [List.mem_cons, not_or]
    refine ⟨?_, hX⟩
    cases hg.new with
    | inl e => rw [e]; exact hXB
    | inr e => omega
  . rw [<- hc j v hj]
    exact World.cell?_of_block (hg.block X hlt hXB)
theorem Jl {t e : TypeId} {x y : Operand} {n B o0 : Nat} {h : Int} (k : Nat) (ho : o.op = .slice t x none (some y) none) (hu : P.underlying t = some (.array n e)) (hs : Zh P e 1 = true) (hx : ev f x = some (.pointer (some ⟨B, o0, none⟩))) (hy : ev f y = some (.int .i64 h)) (hk : h = (k : Int)) (hh : k <= n) (h0 : 0 < n) (hw : QP ops o f = some true := by rfl) : DV P ops o N f w (.slice (some ⟨B, o0, none⟩) k n) := fun a ha => by
 subst hk
 have hx := ha.ev hx
 have hy := ha.ev hy
 obtain ⟨i, hi, hsz⟩ := Vl hs
 have hle : (k : Int) <= (n : Int) := by omega
 refine QK.pure (Qw ha hw) _ ?_ ⟨rfl, rfl⟩
 unfold execOp
 simp only [ho, Option.map_none, Option.map_some, hx, hy, Instr.sliceAt, Sem.run_bind, run_underlying hu, Result.andThen_ok, Instr.sureAddr, Instr.sliceBounds, Instr.sliceBound, asIntOf, Sem.run_pure, sizeOf, typeInfo, run_program, hi]
 simp [hle, Zs]
theorem Dk {t e : TypeId} {x : Operand} {n B o0 : Nat} (ho : o.op = .slice t x none none none) (hu : P.underlying t = some (.array n e)) (hs : Zh P e 1 = true) (hx : ev f x = some (.pointer (some ⟨B, o0, none⟩))) (h0 : 0 < n) (hw : QP ops o f = some true := by rfl) : DV P ops o N f w (.slice (some ⟨B, o0, none⟩) n n) := fun a ha => by
 have hx := ha.ev hx
 obtain ⟨i, hi, hsz⟩ := Vl hs
 refine QK.pure (Qw ha hw) _ ?_ ⟨rfl, rfl⟩
 unfold execOp
 simp only [ho, Option.map_none, hx, Instr.sliceAt, Sem.run_bind, run_underlying hu, Result.andThen_ok, Instr.sureAddr, Instr.sliceBounds, Sem.run_pure, sizeOf, typeInfo, run_program, hi]
 simp [Zs]
def Qc9 (P : Program) (t : TypeId) (ps : List (Nat × Value)) : Option (List Value) := match P.info? t, P.underlying t with
 | some it, some (.struct fs) => match it.zero, fs.toList.mapM (fun f => (P.info? f.type).map fun i => (f.offset, i.size)) with
  | some z, some places => ps.foldl (fun (acc : Option (List Value)) (p : Nat × Value) => acc.bind fun cs => match places[p.1]? with
    | some (off, 1) => if off < cs.length then some (cs.set off p.2) else none
    | _ => none) (some z.cells.toList)
  | _, _ => none
 | _, _ => none
theorem Xi {t : TypeId} {ps : List (Nat × Value)} {cs : List Value} (h : Qc9 P t ps = some cs) (h1 : ∀ v ∈ ps.map (·.2), v.oneCell' = true) : P.built t ps = some cs.toArray := by
  unfold Qc9 at h
  unfold Program.built
  cases hi : P.info? t with
  | none => rw [hi] at h; cases h
  | some it =>
    cases hu : P.underlying t with
    | none => rw [hi, hu] at h; cases h
    | some d =>
      rw [hi, hu] at h
      cases d <;> simp only [reduceCtorEq] at h
      rename_i fs
      simp only
      cases hz : it.zero with
      | none => rw [hz] at h; cases h
      | some z =>
        rw [hz] at h
        cases hp : fs.toList.mapM (fun f => (P.info? f.type).map fun i => (f.offset, i.size)) with
        | none => rw [hp] at h; cases h
        | some places =>
          rw [hp] at h
          simp only at h ⊢
          have key : ∀ (ps : List (Nat × Value)) (acc cs : List Value), (∀ v ∈ ps.map (·.2), v.oneCell' = true) -> ps.foldl (fun (acc : Option (List Value)) (p : Nat × Value) => acc.bind fun cs => match places[p.1]? with
              | some (off, 1) => if off < cs.length then some (cs.set off p.2) else none
              | _ => none) (some acc) = some cs -> Instr.fill (places.toArray[·]?) acc.toArray ps = some cs.toArray := by
            have none_ : ∀ (ps : List (Nat × Value)), ps.foldl (fun (acc : Option (List Value)) (p : Nat × Value) => acc.bind fun cs => match places[p.1]? with
              | some (off, 1) => if off < cs.length then some (cs.set off p.2) else none
              | _ => none) none = none := by
              intro ps; induction ps with
              | nil => rfl
              | cons p ps ih => simpa using ih
            intro ps
            induction ps with
            | nil => intro acc cs _ h; simp at h; simp [Instr.fill, h]
            | cons p ps ih =>
              intro acc cs h1 h
              obtain ⟨i, v⟩ := p
              simp only [List.foldl_cons, Option.bind_some] at h
              have hv : v.oneCell' = true := h1 v (by simp)
              have hcs : v.cells = #[v] := by cases v <;> simp_all [Value.cells, Value.oneCell']
              unfold Instr.fill
              simp only [List.getElem?_toArray]
              cases hpl : places[i]? with
              | none => rw [hpl] at h; simp only [none_] at h; cases h
              | some q =>
                obtain ⟨off, sz⟩ := q
                rw [hpl] at h
                by_cases hsz : sz = 1
                . subst hsz
                  simp only at h
                  by_cases hlt : off < acc.length
                  . rw [if_pos hlt] at h
                    have := ih (acc.set off v) cs (fun u hu => h1 u (by simp at hu ⊢; exact .inr hu)) h
                    simp only [hcs]
                    simp
                    exact ⟨by omega, by simpa using this⟩
                  . rw [if_neg hlt, none_] at h; cases h
                . exfalso
                  split at h
                  . rename_i heq; simp at heq; exact hsz heq.2
                  . rw [none_] at h; cases h
          exact key ps _ _ h1 h
end
def Qen (s : Nat) (L : List Nat) (w : World) (u : Value) (rs : List (List Value)) : Prop := ∃ a, u = .slice a rs.length rs.length /\ QD s L w u rs
theorem Qen.below {s : Nat} {L : List Nat} {w w' : World} {v : Value} {rs : List (List Value)} (h : Qen s L w v rs) (hb : Below w.heap.size w w') : Qen s L w' v rs := by
 obtain ⟨a, h1, h2⟩ := h
 exact ⟨a, h1, h2.below hb⟩
section
variable {P : Program} {ops : Array Oper} {o : Oper} {N : Nat} {f : Fl} {w : World}
theorem HD (e : TypeId) (d : TypeDesc) (he : P.underlying e = some d) (hd : (match d with | .struct _ | .array _ _ => true | _ => false) = false) (K : IntKind) (zs : List Int) (i : Nat) (hi : i < zs.length) :
  (part e (zs.map (Value.int K)).toArray i).run P w = .ok (.int K (QX zs i)) w := by
 have hagg : (isAgg e).run P w = .ok false w := by
  unfold isAgg
  rw [Sem.run_bind, run_underlying he w]
  cases d <;> simp_all
 simp [part, Sem.run_bind, hagg, hi, QX]
theorem Uu (d : Nat) (e : TypeId) (K K' : IntKind) (xs ys : List Int) (he : P.underlying e = some (.int K')) : ∀ is : List Nat, (∀ i ∈ is, i < xs.length /\ i < ys.length) ->
  (Op.eqItems (d + 1) e 1 (xs.map (Value.int K)).toArray (ys.map (Value.int K)).toArray is).run P w = .ok (decide (∀ i ∈ is, QX xs i = QX ys i)) w
 | [], _ => by simp [Op.eqItems]
 | i :: is, h => by
  have h1 := HD (w := w) e _ he rfl K xs i (h i (by simp)).1
  have h2 := HD (w := w) e _ he rfl K ys i (h i (by simp)).2
  have h3 := Uu d e K K' xs ys he is (fun j hj => h j (by simp [hj]))
  have h4 := run_equalIn_int (P := P) w d e K K' (QX xs i) (QX ys i) he
  simp only [Op.eqItems, Sem.run_bind, Nat.mul_one, h1, h2, h4, Result.andThen_ok]
  by_cases hb : QX xs i = QX ys i
  . simp [hb, h3]
  . simp [hb]
theorem QdB (t e : TypeId) (n : Nat) (hu : P.underlying t = some (.array n e)) (K K' : IntKind) (he : P.underlying e = some (.int K')) (hc : (P.info? e).map (·.size) = some 1) (hg : P.eqGuardType P.depth t = false) (x y : Operand) (xs ys : List Int) (hx : xs.length = n) (hy : ys.length = n) :
    (do eqGuard .eql t x y (Z6 K xs) (Z6 K ys); binOp .eql t (Z6 K xs) (Z6 K ys) : Sem Value).run P w = .ok (.bool (decide (xs = ys))) w := by
  cases hi : P.info? e with
  | none => rw [hi] at hc; cases hc
  | some i =>
    have hcells : P.cellsOf e = 1 := by simp [Program.cellsOf, hc]
    have hq : (eqGuard .eql t x y (Z6 K xs) (Z6 K ys)).run P w = .ok () w := by
      simp [eqGuard, Z6, Sem.run_bind, hg]
    have hall : (∀ i ∈ List.range n, QX xs i = QX ys i) ↔ xs = ys := by
      constructor
      . intro h
        exact Z9 (by omega) fun j hj => h j (List.mem_range.2 (by omega))
      . rintro rfl _ _; rfl
    simp only [Sem.run_bind, hq, Result.andThen_ok]
    unfold Z6
    rw [run_eql_struct, show (10000 : Nat) = 9999 + 1 from rfl, run_equalIn_array w 9999 _ _ hu hi, hcells, show (9999 : Nat) = 9998 + 1 from rfl, Uu 9998 e K K' xs ys he (List.range n) (fun i hi => by have := List.mem_range.1 hi; omega)]
    simp only [Result.andThen_ok]
    congr 2
    exact decide_eq_decide.2 hall
theorem GN (t e : TypeId) (n : Nat) (hu : P.underlying t = some (.array n e)) (K K' : IntKind) (he : P.underlying e = some (.int K')) (hc : (P.info? e).map (·.size) = some 1) (d : Nat) (xs ys : List Int) (hx : xs.length = n) (hy : ys.length = n) :
    (Op.equalIn (d + 2) t (Z6 K xs) (Z6 K ys)).run P w = .ok (decide (xs = ys)) w := by
  cases hi : P.info? e with
  | none => rw [hi] at hc; cases hc
  | some i =>
    have hcells : P.cellsOf e = 1 := by simp [Program.cellsOf, hc]
    have hall : (∀ i ∈ List.range n, QX xs i = QX ys i) ↔ xs = ys := by
      constructor
      . intro h
        exact Z9 (by omega) fun j hj => h j (List.mem_range.2 (by omega))
      . rintro rfl _ _; rfl
    unfold Z6
    rw [run_equalIn_array w (d + 1) _ _ hu hi, hcells, Uu d e K K' xs ys he (List.range n) (fun i hi => by have := List.mem_range.1 hi; omega)]
    congr 1
    exact decide_eq_decide.2 hall
theorem Qe6 {t t' e : TypeId} {x y : Operand} {n : Nat} {K K' : IntKind} {xs ys : List Int} (ho : o.op = .binOp .eql t x y t') (hu : P.underlying t = some (.array n e)) (he : P.underlying e = some (.int K')) (hc : Zh P e 1 = true) (hg : P.eqGuardType P.depth t = false) (hx : ev f x = some (Z6 K xs)) (hy : ev f y = some (Z6 K ys)) (hxl : xs.length = n) (hyl : ys.length = n) (hw : QP ops o f = some true := by rfl) : DV P ops o N f w (.bool (decide (xs = ys))) := fun a ha => by
 have hx := ha.ev hx
 have hy := ha.ev hy
 refine QK.pure (Qw ha hw) _ ?_ ⟨rfl, rfl⟩
 unfold execOp
 have h := QdB (w := w) t e n hu K K' he (VK hc) hg x y xs ys hxl hyl
 simp only [ho, hx, hy, Sem.run_bind] at h ⊢
 rw [h]
 rfl
theorem D8 {t t' e : TypeId} {x y : Operand} {n : Nat} {K K' : IntKind} {xs ys : List Int} (ho : o.op = .binOp .neq t x y t') (hu : P.underlying t = some (.array n e)) (he : P.underlying e = some (.int K')) (hc : Zh P e 1 = true) (hg : P.eqGuardType P.depth t = false) (hx : ev f x = some (Z6 K xs)) (hy : ev f y = some (Z6 K ys)) (hxl : xs.length = n) (hyl : ys.length = n) (hw : QP ops o f = some true := by rfl) : DV P ops o N f w (.bool (!decide (xs = ys))) := fun a ha => by
 have hx := ha.ev hx
 have hy := ha.ev hy
 have hq : (eqGuard .neq t x y (Z6 K xs) (Z6 K ys)).run P w = .ok () w := by
  simp [eqGuard, Z6, Sem.run_bind, hg]
 have h := GN (w := w) t e n hu K K' he (VK hc) 9998 xs ys hxl hyl
 have e1 : binOp .neq t (Z6 K xs) (Z6 K ys) = (do pure (.bool (!(<- Op.equal t (Z6 K xs) (Z6 K ys))))) := rfl
 have e2 : (Op.equal t (Z6 K xs) (Z6 K ys)).run P w = .ok (decide (xs = ys)) w := h
 exact QK.pure (Qw ha hw) _ (by unfold execOp; simp only [ho, hx, hy, Sem.run_bind, hq, Result.andThen_ok, e1, e2, Sem.run_pure]) ⟨rfl, rfl⟩
theorem D7 {t t' : TypeId} {x y : Operand} {b c : Bool} (ho : o.op = .binOp .neq t x y t') (hu : P.underlying t = some .bool) (hx : ev f x = some (.bool b)) (hy : ev f y = some (.bool c)) (hw : QP ops o f = some true := by rfl) : DV P ops o N f w (.bool (!decide (b = c))) := fun a ha => by
 have hx := ha.ev hx
 have hy := ha.ev hy
 have e1 : binOp .neq t (.bool b) (.bool c) = (do pure (.bool (!(<- Op.equal t (.bool b) (.bool c))))) := rfl
 have e2 : (Op.equal t (.bool b) (.bool c)).run P w = .ok (b == c) w := run_equalIn_bool' w 9999 t b c hu
 have e3 : (b == c) = decide (b = c) := by cases b <;> cases c <;> rfl
 exact QK.pure (Qw ha hw) _ (by unfold execOp; simp only [ho, hx, hy, eqGuard, Sem.run_bind, Sem.run_pure, Result.andThen_ok, e1]; simp [e2, e3]) ⟨rfl, rfl⟩
end
end Go.Proofs.YtfachlmgdlnpoaaDoor
namespace Go.Proofs.YtfachlmgdlnpoaaDoor
open Go.ChangeShapes Go.WideShapes Go.ChangeAt Go.RowKit
set_option linter.unusedVariables false

theorem KV {α : Type} (p : Nat -> α -> Prop) : ∀ n, (∀ i, i < n -> ∃ a, p i a) -> ∃ xs : List α, xs.length = n /\ ∀ i x, xs[i]? = some x -> p i x
  | 0, _ => ⟨[], rfl, fun i x h => by simp at h⟩
  | n + 1, h => by
    obtain ⟨xs, hl, hx⟩ := KV p n fun i hi => h i (by omega)
    obtain ⟨a, ha⟩ := h n (by omega)
    refine ⟨xs ++ [a], by simp [hl], fun i x hi => ?_⟩
    rw [List.getElem?_append] at hi
    split at hi
    . exact hx i x hi
    . rename_i hlt
      have : i = n := by
        have := (List.getElem?_eq_some_iff.1 hi).1
        simp at this
        omega
      subst this
      rw [hl, Nat.sub_self] at hi
      cases hi
      exact ha
theorem GT {w : World} {X s : Nat} : ∀ (rs : List (List Value)) (o : Nat), (∀ r ∈ rs, r.length = s) -> (∀ i r, rs[i]? = some r -> w.rangeAt X (o + i * s) r) -> w.rangeAt X o rs.flatten
  | [], o, _, _ => fun j v hj => by simp at hj
  | r :: rs, o, hl, h => fun j v hj => by
    have hr := hl r (by simp)
    rw [List.flatten_cons, List.getElem?_append] at hj
    split at hj
    . have := h 0 r rfl j v hj
      simpa using this
    . rename_i hge
      have ih := GT rs (o + s) (fun r hr => hl r (List.mem_cons_of_mem _ hr)) (fun i r hi => by
        have := h (i + 1) r (by simpa using hi)
        rw [Nat.succ_mul] at this
        rw [show o + s + i * s = o + (i * s + s) by omega]; exact this)
      have := ih (j - r.length) v hj
      rw [hr] at this hge
      rw [show o + s + (j - s) = o + j by omega] at this
      exact this
section
variable {P : Program} {H : Type} {enc : TypeId × Value -> H} {W : World} {base : Nat} {sp : Nat -> Bool} {held : Bool}
theorem VX {α : Type} (en : α -> List Value) (good : α -> Prop) {s : Nat} (hs : 0 < s) {t e : TypeId} {fuel : Nat} {cs : List Value} {x : DataW H × List MemPlace} (ht : P.underlying t = some (.slice e)) (hce : P.cellsOf e = s) (hl : ∀ a, good a -> (en a).length = s)
    (hel : ∀ n cs x, DataW.trod enc P W base sp held n e cs = some x -> ∃ a, cs = en a /\ good a) (h : DataW.trod enc P W base sp held fuel t cs = some x) : ∃ (v : Value) (xs : List α), cs = [v] /\ QD s [] W v (xs.map en) /\ ∀ a ∈ xs, good a := by
  rcases DataW.trod_slice ht h with ⟨rfl, _⟩ | ⟨a, len, cap, elems, rest, n, rfl, rfl, _, hb, hlc, hcm, hlen, hx, _⟩
  . exact ⟨_, [], rfl, QD.nil hs, fun a ha => by cases ha⟩
  . obtain ⟨xs, hxl, hxs⟩ := KV (fun i (y : α) => good y /\ W.cells? base (a.add (i * s)) s = some (en y)) len (fun i hi => by
      have h1 := hx i hi
      rw [hce, List.getElem?_eq_getElem (by omega)] at h1
      obtain ⟨cs', h2, h3⟩ := Option.bind_eq_some_iff.1 h1
      obtain ⟨y, rfl, hg⟩ := hel n cs' _ h3
      exact ⟨y, hg, h2⟩)
    have hgood : ∀ y ∈ xs, good y := fun y hy => by
      obtain ⟨i, hi⟩ := List.getElem?_of_mem hy
      exact (hxs i y hi).1
    have hrl : ∀ r ∈ xs.map en, r.length = s := fun r hr => by
      obtain ⟨y, hy, rfl⟩ := List.mem_map.1 hr
      exact hl y (hgood y hy)
    refine ⟨_, xs, rfl, ⟨hs, hrl, some a, cap, by rw [List.length_map, hxl], by rw [List.length_map, hxl]; exact hlc, hcm, (fun e => by cases e), fun hn => ?_⟩, hgood⟩
    have cellat : ∀ i y, xs[i]? = some y -> ∀ j v, (en y)[j]? = some v -> W.cell? ((a.add (i * s)).add j) = some v := fun i y hi j v hj => by
      have h2 := (hxs i y hi).2
      unfold World.cells? at h2
      split at h2
      . have hj' : j < s := by have := (List.getElem?_eq_some_iff.1 hj).1; rw [hl y (hxs i y hi).1] at this; exact this
        have := mapM_some_get h2 j j (by simp [hj'])
        rw [this]; exact hj
      . cases h2
    have hne : 0 < xs.length := by
      rcases Nat.eq_zero_or_pos xs.length with h0 | h0
      . exact absurd (by rw [List.length_eq_zero_iff.1 h0]; rfl) hn
      . exact h0
    have hx0 : xs[0]? = some xs[0] := List.getElem?_eq_getElem hne
    have hspot : a.spot = none := by
      have hlen0 : 0 < (en xs[0]).length := by rw [hl _ (hxs 0 _ hx0).1]; exact hs
      have := cellat 0 _ hx0 0 _ (List.getElem?_eq_getElem hlen0)
      have h3 := World.cell?_spot this
      have e0 : (a.add (0 * s)).add 0 = a := by simp [Addr.add]
      rw [e0] at h3
      exact h3
    obtain ⟨b, off, spot⟩ := a
    simp only at hspot
    subst hspot
    refine ⟨b, off, rfl, by simp, GT _ off hrl fun i r hi => ?_⟩
    rw [List.getElem?_map] at hi
    cases hy : xs[i]? with
    | none => rw [hy] at hi; cases hi
    | some y =>
      rw [hy] at hi
      cases hi
      intro j v hj
      have := cellat i y hy j v hj
      rw [Zs, Zs] at this
      exact this
theorem H0 : ∀ (n : Nat) (K : IntKind) (cs : List Value), cs.length = n -> (∀ i, i < n -> ∃ x, (cs.drop i).take 1 = [.int K x] /\ (Lit.int K x).wf = true) -> ∃ zs : List Int, cs = zs.map (Value.int K) /\ zs.length = n /\ ∀ x ∈ zs, (Lit.int K x).wf = true
 | 0, K, cs, hl, _ => ⟨[], by simpa using List.eq_nil_of_length_eq_zero hl, rfl, fun x hx => by cases hx⟩
 | n + 1, K, [], hl, _ => by simp at hl
 | n + 1, K, c :: cs, hl, h => by
  obtain ⟨x, hx, hw⟩ := h 0 (by omega)
  obtain ⟨zs, h1, h2, h3⟩ := H0 n K cs (by simpa using hl) fun i hi => by simpa using h (i + 1) (by omega)
  simp at hx
  refine ⟨x :: zs, by simp [hx, h1], by simp [h2], fun y hy => ?_⟩
  rcases List.mem_cons.1 hy with rfl | hy
  . exact hw
  . exact h3 y hy
theorem QbD {t e : TypeId} {K : IntKind} {n fuel : Nat} {cs : List Value} {x : DataW H × List MemPlace} (ht : P.underlying t = some (.array n e)) (he : P.underlying e = some (.int K)) (hc : P.cellsOf e = 1) (hct : P.cellsOf t = n) (h : DataW.trod enc P W base sp held fuel t cs = some x) :
  ∃ zs : List Int, cs = zs.map (Value.int K) /\ zs.length = n /\ ∀ x ∈ zs, (Lit.int K x).wf = true := by
 obtain ⟨xs, m, rfl, hx, hl, hxl, hi⟩ := DataW.trod_array ht h
 rw [hct] at hl
 rw [hc] at hi
 refine H0 n K cs hl fun i hin => ?_
 have h := hi i hin
 rw [Nat.mul_one] at h
 rw [List.getElem?_eq_getElem (by omega)] at h
 obtain ⟨x, h1, h2, h3⟩ := DataW.trod_int he h
 exact ⟨x, h1, h3⟩
end
end Go.Proofs.YtfachlmgdlnpoaaDoor
namespace Go.Proofs.YtfachlmgdlnpoaaDoor
open Go.RowKit
set_option linter.unusedVariables false
set_option linter.unusedSimpArgs false
set_option maxRecDepth 8000
set_option maxHeartbeats 2000000

def KZ (s base : Nat) (u : Value) (w : World) : Prop := ∃ B, base <= B /\ u = .slice (some ⟨B, 0, none⟩) 0 0 /\ Y5 s w u [] B
def Qbs (s base : Nat) (rs : List (List Value)) (u : Value) (w : World) : Prop := ∃ B, base <= B /\ Y5 s w u rs B
theorem KZ.below {s base : Nat} {u : Value} {w w' : World} (h : KZ s base u w) (hb : Below w.heap.size w w') : KZ s base u w' := by
 obtain ⟨B, h1, h2, h3⟩ := h
 exact ⟨B, h1, h2, h3.below hb⟩
theorem KZ.le {s base n : Nat} {u : Value} {w : World} (h : KZ s base u w) (hn : n <= base) : KZ s n u w := by
 obtain ⟨B, h1, h2, h3⟩ := h
 exact ⟨B, Nat.le_trans hn h1, h2, h3⟩
theorem Qbs.below {s base : Nat} {rs : List (List Value)} {u : Value} {w w' : World} (h : Qbs s base rs u w) (hb : Below w.heap.size w w') : Qbs s base rs u w' := by
 obtain ⟨B, h1, h3⟩ := h
 exact ⟨B, h1, h3.below hb⟩
section
variable {P : Program} {ops : Array Oper} {o : Oper} {N : Nat} {f : Fl} {w : World}
theorem Qfx {p : Prop} [Decidable p] (h : DV P ops o N f w (.bool (decide p))) (hp : p) : DV P ops o N f w (.bool true) := by rwa [decide_eq_true hp] at h
theorem Hb {t s bytes : Nat} (ho : o.op = .buildSlice t 0 #[]) (ht : Hq P t s bytes = true) (h0 : 0 < s) (hw : QP ops o f = some true := by rfl) : DR P ops o N f w (fun u W => Below w.heap.size w W /\ KZ s w.heap.size u W) := fun a ha => by
 obtain ⟨e, i, Z, hu, hi, hZ, rfl, rfl, hzs⟩ := Y1 ht
 have hrun := VI (P := P) (w := w) hu hi hZ 0 #[] (by omega) (cs := #[]) (by simp [Instr.fill])
 exact QK.of_wp (Qw ha hw) fun K hK => by
  unfold Oper.wp execOp
  simp only [ho, Sem.run_bind, List.map_toArray, List.map_nil, hrun, Sem.run_pure, Result.andThen_ok]
  obtain ⟨n1, n2, n3⟩ := Ka w e []
  exact hK _ _ ⟨n2, _, Nat.le_refl _, rfl, h0, (fun r hr => by cases hr), 0, [], rfl, Nat.le_refl _, Nat.zero_le _, by simp, by simpa using n1⟩
theorem Vx {t s bytes B : Nat} {x y : Operand} {v v2 : Value} {rs news : List (List Value)} {L : List Nat} (ho : o.op = .call { callee := .builtin .append, args := #[x, y], argTypes := #[t, t] }) (ht : Hq P t s bytes = true) (hx : ev f x = some v) (hy : ev f y = some v2)
  (h : Y5 s w v rs B) (h2 : QD s L w v2 news) (h1 : ∀ r ∈ news, ∀ u ∈ r, u.oneCell' = true) (hm : rs.length + news.length <= maxLen) (hby : (rs.length + news.length) * bytes <= 140737488355328) (hw : QP ops o f = some true := by rfl) : DR P ops o N f w (GrO s B w (rs ++ news)) := fun a ha => by
 obtain ⟨e, i, Z, hu, hi, hz, rfl, rfl, hzs⟩ := Y1 ht
 have hx := ha.ev hx
 have hy := ha.ev hy
 obtain ⟨v', w', B', hr, h3, h4⟩ := QdC (w := w) (t := t) (ty := o.type) hu hi hz hzs h h2 h1 hm hby
 exact QK.of_wp (Qw ha hw) fun K hK => by
  unfold Oper.wp execOp
  simp only [ho, resolve, invoke, builtin, Sem.run_bind, Sem.run_pure, Result.andThen_ok, List.map_toArray, List.map_cons, List.map_nil, hx, hy, hr]
  exact hK _ _ ⟨B', h3, h4⟩
theorem Dl {t s bytes base : Nat} {x y : Operand} {u v2 : Value} {news : List (List Value)} {L : List Nat} (ho : o.op = .call { callee := .builtin .append, args := #[x, y], argTypes := #[t, t] }) (ht : Hq P t s bytes = true) (hx : ev f x = some u) (hy : ev f y = some v2)
    (h : KZ s base u w) (h2 : QD s L w v2 news) (hm : news.length <= maxLen) (hby : news.length * bytes <= 140737488355328) (hb : base <= w.heap.size) (hw : QP ops o f = some true := by rfl) : DR P ops o N f w (fun u W => Below w.heap.size w W /\ Qbs s base news u W) := fun a ha => by
  obtain ⟨B, h3, rfl, h4⟩ := h
  by_cases hn : news = []
  . subst hn
    have ht0 := ht
    obtain ⟨e, i, Z, hu, hi, hz, rfl, rfl, hzs⟩ := Y1 ht
    have hx := ha.ev hx
    have hy := ha.ev hy
    obtain ⟨_, _, a2, cap2, rfl, hd1, hd2, hd3, hd4⟩ := h2
    have hr : (Builtin.append_ #[t, t] o.type #[.slice (some ⟨B, 0, none⟩) 0 0, .slice a2 0 cap2]).run P w = .ok (.slice (some ⟨B, 0, none⟩) 0 0) w := by
      cases a2 with
      | none => simp [Builtin.append_, run_underlying hu, sizeOf, typeInfo, hi, Builtin.lenOf, Builtin.firstCells, storeCells]
      | some a2 => simp [Builtin.append_, run_underlying hu, sizeOf, typeInfo, hi, Builtin.lenOf, Builtin.firstCells, loadCells, loadCellsFrom, storeCells]
    exact QK.of_wp (Qw ha hw) fun K hK => by
      unfold Oper.wp execOp
      simp only [List.length_nil] at hy
      simp only [ho, resolve, invoke, builtin, Sem.run_bind, Sem.run_pure, Result.andThen_ok, List.map_toArray, List.map_cons, List.map_nil, hx, hy, hr]
      exact hK _ _ ⟨Below.refl _ _, B, h3, h4⟩
  . have hrd : QD s [] w (.slice (some ⟨B, 0, none⟩) ([] : List (List Value)).length ([] : List (List Value)).length) [] := h4.rd (by simp)
    have := JM (N := N) (f := f) (P := P) (ops := ops) (o := o) (w := w) (s := s) (rs := []) (news := news) (L := []) ho ht hx hy hrd (h2.less (by simp)) hn (by simpa using hm) (by simpa using hby) hw
    exact (this.mono fun v W' h => ⟨h.2.1, _, hb, by simpa using h.1⟩) a ha
end
end Go.Proofs.YtfachlmgdlnpoaaDoor
namespace Go.Proofs.YtfachlmgdlnpoaaDoor
set_option linter.unusedVariables false
set_option maxRecDepth 8000
theorem Qv : J9 Tryd.prog 3 = true := by kernel_rfl
theorem ZO : Zh Tryd.prog 3 1 = true := by kernel_rfl
theorem Yt : J9 Tryd.prog 4 = true := by kernel_rfl
theorem UQ : Zh Tryd.prog 4 1 = true := by kernel_rfl
theorem X1 : J9 Tryd.prog 5 = true := by kernel_rfl
theorem QA : Zh Tryd.prog 5 1 = true := by kernel_rfl
theorem Q7 : J9 Tryd.prog 22 = true := by kernel_rfl
theorem JV : Zh Tryd.prog 22 1 = true := by kernel_rfl
theorem QW : X3 Tryd.prog 22 128 = true := by kernel_rfl
theorem UT : Hq Tryd.prog 22 128 128 = true := by kernel_rfl
theorem Xf : J9 Tryd.prog 23 = true := by kernel_rfl
theorem YM : Zh Tryd.prog 23 1 = true := by kernel_rfl
theorem QY : X3 Tryd.prog 23 129 = true := by kernel_rfl
theorem Yw : Hq Tryd.prog 23 129 136 = true := by kernel_rfl
theorem Qf : Jp Tryd.prog 25 4 = true := by kernel_rfl
theorem Qj : Zh Tryd.prog 25 4 = true := by kernel_rfl
theorem QE : YK Tryd.prog 25 0 0 = true := by kernel_rfl
theorem QJ : YK Tryd.prog 25 1 1 = true := by kernel_rfl
theorem XZ : YK Tryd.prog 25 2 2 = true := by kernel_rfl
theorem XC : YK Tryd.prog 25 3 3 = true := by kernel_rfl
theorem QV : (Tryd.prog.info? 25).bind (·.zero) = some (.agg #[.slice none 0 0, .slice none 0 0, .int .i64 0, .bool false]) := by kernel_rfl
theorem Qq : Jp Tryd.prog 30 3 = true := by kernel_rfl
theorem Qs : Zh Tryd.prog 30 3 = true := by kernel_rfl
theorem ZC : YK Tryd.prog 30 0 0 = true := by kernel_rfl
theorem XY : YK Tryd.prog 30 1 1 = true := by kernel_rfl
theorem XB : YK Tryd.prog 30 2 2 = true := by kernel_rfl
theorem Xv : (Tryd.prog.info? 30).bind (·.zero) = some (.agg #[.int .i64 0, .int .i64 0, .int .i64 0]) := by kernel_rfl
theorem XO : X3 Tryd.prog 31 1 = true := by kernel_rfl
theorem US : Hq Tryd.prog 31 1 24 = true := by kernel_rfl
theorem YX : J9 Tryd.prog 32 = true := by kernel_rfl
theorem JU : Zh Tryd.prog 32 1 = true := by kernel_rfl
theorem XR : J9 Tryd.prog 40 = true := by kernel_rfl
theorem Fb : Zh Tryd.prog 40 1 = true := by kernel_rfl
theorem QH : X3 Tryd.prog 40 1 = true := by kernel_rfl
theorem X2 : Hq Tryd.prog 40 1 1 = true := by kernel_rfl
theorem KR : Jp Tryd.prog 71 6 = true := by kernel_rfl
theorem Fa : Zh Tryd.prog 71 6 = true := by kernel_rfl
theorem ZR : YK Tryd.prog 71 0 0 = true := by kernel_rfl
theorem Ju : YK Tryd.prog 71 1 4 = true := by kernel_rfl
theorem V4 : YK Tryd.prog 71 2 5 = true := by kernel_rfl
theorem EQ : (Tryd.prog.info? 71).bind (·.zero) = some (.agg #[.slice none 0 0, .slice none 0 0, .int .i64 0, .bool false, .int .i64 0, .int .i64 0]) := by kernel_rfl
theorem QF : Jp Tryd.prog 75 128 = true := by kernel_rfl
theorem Q1 : Zh Tryd.prog 75 128 = true := by kernel_rfl
theorem ZE : (Tryd.prog.info? 75).bind (·.zero) = some (.agg (Array.replicate 128 (.int .u8 0))) := by kernel_rfl
theorem Vd : Jp Tryd.prog 77 129 = true := by kernel_rfl
theorem Gx : Zh Tryd.prog 77 129 = true := by kernel_rfl
theorem ZB : YK Tryd.prog 77 0 0 = true := by kernel_rfl
theorem Vc : YK Tryd.prog 77 1 1 = true := by kernel_rfl
theorem ZA : YK Tryd.prog 81 0 0 = true := by kernel_rfl
theorem Ze : YK Tryd.prog 81 1 6 = true := by kernel_rfl
theorem X7 : X3 Tryd.prog 82 4 = true := by kernel_rfl
theorem JW : Hq Tryd.prog 82 4 48 = true := by kernel_rfl
theorem Xq : Jp Tryd.prog 85 4 = true := by kernel_rfl
theorem Xu : Zh Tryd.prog 85 4 = true := by kernel_rfl
theorem Yu : YK Tryd.prog 85 0 0 = true := by kernel_rfl
theorem Vb : YK Tryd.prog 85 1 1 = true := by kernel_rfl
theorem Zz : YK Tryd.prog 85 2 2 = true := by kernel_rfl
theorem Zy : YK Tryd.prog 85 3 3 = true := by kernel_rfl
theorem ZQ : (Tryd.prog.info? 85).bind (·.zero) = some (.agg #[.int .i64 0, .int .i64 0, .int .i64 0, .slice none 0 0]) := by kernel_rfl
theorem Vh : X3 Tryd.prog 89 4 = true := by kernel_rfl
theorem Yv : Hq Tryd.prog 89 4 48 = true := by kernel_rfl
theorem XD : Jp Tryd.prog 96 4 = true := by kernel_rfl
theorem ZN : Zh Tryd.prog 96 4 = true := by kernel_rfl
theorem Z7 : YK Tryd.prog 96 0 0 = true := by kernel_rfl
theorem Y9 : YK Tryd.prog 96 1 1 = true := by kernel_rfl
theorem Zx : YK Tryd.prog 96 2 2 = true := by kernel_rfl
theorem Y8 : YK Tryd.prog 96 3 3 = true := by kernel_rfl
theorem VF : (Tryd.prog.info? 96).bind (·.zero) = some (.agg #[.int .i64 0, .int .i64 0, .int .u8 0, .slice none 0 0]) := by kernel_rfl
theorem UR : YK Tryd.prog 116 0 0 = true := by kernel_rfl
theorem Gz : YK Tryd.prog 116 1 6 = true := by kernel_rfl
theorem ZF : YK Tryd.prog 116 2 7 = true := by kernel_rfl
theorem Jv : Jp Tryd.prog 132 32 = true := by kernel_rfl
theorem VG : Zh Tryd.prog 132 32 = true := by kernel_rfl
theorem VV : (Tryd.prog.info? 132).bind (·.zero) = some (.agg (Array.replicate 32 (.int .u8 0))) := by kernel_rfl
theorem Q3 : J9 Tryd.prog 149 = true := by kernel_rfl
theorem QB : Zh Tryd.prog 149 1 = true := by kernel_rfl
theorem Fc : Jp Tryd.prog 150 8 = true := by kernel_rfl
theorem Jt : Zh Tryd.prog 150 8 = true := by kernel_rfl
theorem KQ : (Tryd.prog.info? 150).bind (·.zero) = some (.agg #[.int .u64 0, .int .u64 0, .int .u64 0, .int .u64 0, .int .u64 0, .int .u64 0, .int .u64 0, .int .u64 0]) := by kernel_rfl
theorem Vt : Jp Tryd.prog 151 3 = true := by kernel_rfl
theorem Y7 : Zh Tryd.prog 151 3 = true := by kernel_rfl
theorem Gy : Zh Tryd.prog 152 12 = true := by kernel_rfl
theorem FX : (Tryd.prog.info? 152).bind (·.zero) = some (.agg #[.int .i64 0, .int .i64 0, .int .i64 0, .int .i64 0, .int .i64 0, .int .i64 0, .int .i64 0, .int .i64 0, .int .i64 0, .int .i64 0, .int .i64 0, .int .i64 0]) := by kernel_rfl
theorem FW : (Tryd.prog.info? 154).bind (·.zero) = some (.agg (Array.replicate 80 (.int .u64 0))) := by kernel_rfl
end Go.Proofs.YtfachlmgdlnpoaaDoor
