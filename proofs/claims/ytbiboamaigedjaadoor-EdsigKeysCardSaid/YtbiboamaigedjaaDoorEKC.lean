/- The machine of symbols: a region whose order is drawn, in whatever order. No program stands here. The machine of symbols: the rule of drawn regions. N -/
import Derived.Laws.Externs
import Derived.LoopN
import Derived.Lib.Mul64
import Derived.Shelf.Spec.BitsCarry
import Derived.Test.YtbiboamaigedjaaDoorEKB
namespace Go.Proofs.YtbiboamaigedjaaDoor
open Go.RowKit
set_option linter.unusedVariables false
set_option linter.constructorNameAsVariable false
set_option linter.unusedSimpArgs false

def Ef.av (q : Nat) : Ef -> Bool
  | .no => true
  | .wr _ c => G8 q c
def G2 (A : List (Nat × Nat)) (k q : Nat) : List Ef -> Nat -> Bool
  | [], _ => true
  | .no :: l, i => G2 A k q l (Nat.succ i)
  | .wr q' _ :: l, i => match Nat.beq q' q with
    | true => match Nat.beq i k with
      | true => G2 A k q l (Nat.succ i)
      | false => match tb (ZG A k) i with
        | true => G2 A k q l (Nat.succ i)
        | false => match tb (ZG A i) k with
          | true => G2 A k q l (Nat.succ i)
          | false => false
    | false => G2 A k q l (Nat.succ i)
def FS (A : List (Nat × Nat)) (E : List Ef) : List (Nat × Nat) -> Bool
  | [] => true
  | (k, q) :: l => match G2 A k q E 0 with
    | true => FS A E l
    | false => false
/-- What does not follow on k does not name its new block. -/
def FT (A : List (Nat × Nat)) (V : VR) (k q : Nat) : List Ef -> Nat -> Bool
  | [], _ => true
  | e :: l, i => match Nat.beq i k with
    | true => FT A V k q l (Nat.succ i)
    | false => match tb (ZG A i) k with
      | true => FT A V k q l (Nat.succ i)
      | false => match e.on q with
        | true => false
        | false => match e.av q with
          | true => match YB V i with
            | some (_, v) => match v.av q with
              | true => FT A V k q l (Nat.succ i)
              | false => false
            | none => false
          | false => false
def UP (A : List (Nat × Nat)) (V : VR) (E : List Ef) (n : Nat) : List Ef -> Nat -> Bool
  | [], _ => true
  | .no :: l, k => UP A V E n l (Nat.succ k)
  | .wr q c :: l, k => match Nat.beq q (Nat.add n k) with
    | true => match G8 q c with
      | true => match FT A V k q E 0 with
        | true => UP A V E n l (Nat.succ k)
        | false => false
      | false => false
    | false => UP A V E n l (Nat.succ k)
theorem G1 {A : List (Nat × Nat)} {k q : Nat} : ∀ {l : List Ef} {s : Nat}, G2 A k q l s = true -> ∀ (i : Nat) (e : Ef), l[i]? = some e -> e.on q = true -> s + i = k \/ tb (ZG A k) (s + i) = true \/ tb (ZG A (s + i)) k = true
  | [], s, _, i, e, h, _ => by simp at h
  | .no :: l, s, hc, i, e, h, ho => by
    cases i with
    | zero => simp at h; subst h; cases ho
    | succ i =>
      have := G1 (l := l) hc i e (by simpa using h) ho
      rwa [show Nat.succ s + i = s + (i + 1) by omega] at this
  | .wr q' c :: l, s, hc, i, e, h, ho => by
    unfold G2 at hc
    have rest : G2 A k q l (Nat.succ s) = true := by
      split at hc
      . split at hc
        . exact hc
        . split at hc
          . exact hc
          . split at hc
            . exact hc
            . cases hc
      . exact hc
    cases i with
    | zero =>
      simp at h
      subst h
      simp only [Ef.on] at ho
      rw [ho] at hc
      simp only at hc
      rw [Nat.add_zero]
      split at hc
      . rename_i hb; exact .inl (Nat.eq_of_beq_eq_true hb)
      . split at hc
        . rename_i hb; exact .inr (.inl hb)
        . split at hc
          . rename_i hb; exact .inr (.inr hb)
          . cases hc
    | succ i =>
      have := G1 (l := l) rest i e (by simpa using h) ho
      rwa [show Nat.succ s + i = s + (i + 1) by omega] at this
theorem G0 {A : List (Nat × Nat)} {E : List Ef} : ∀ {l : List (Nat × Nat)}, FS A E l = true -> ∀ k q, (k, q) ∈ l -> ∀ (i : Nat) (e : Ef), E[i]? = some e -> e.on q = true -> i = k \/ tb (ZG A k) i = true \/ tb (ZG A i) k = true
  | [], _, k, q, h => by cases h
  | (k', q') :: l, hc, k, q, h => by
    unfold FS at hc
    split at hc
    . rename_i h1
      cases h with
      | head => intro i e he ho; have := G1 h1 i e he ho; rwa [Nat.zero_add] at this
      | tail _ h => exact G0 hc k q h
    . cases hc
theorem G3 {A : List (Nat × Nat)} {V : VR} {k q : Nat} : ∀ {l : List Ef} {s : Nat}, FT A V k q l s = true -> ∀ (i : Nat) (e : Ef), l[i]? = some e -> s + i ≠ k -> tb (ZG A (s + i)) k = false -> e.on q = false /\ e.av q = true /\ ∀ d v, YB V (s + i) = some (d, v) -> v.av q = true
  | [], s, _, i, e, h, _, _ => by simp at h
  | e' :: l, s, hc, i, e, h, hne, hb => by
    unfold FT at hc
    have rest : FT A V k q l (Nat.succ s) = true := by
      split at hc
      . exact hc
      . split at hc
        . exact hc
        . split at hc
          . cases hc
          . split at hc
            . split at hc
              . split at hc
                . exact hc
                . cases hc
              . cases hc
            . cases hc
    cases i with
    | zero =>
      simp at h
      subst h
      rw [Nat.add_zero] at hne hb ⊢
      rw [Q3 hne] at hc
      simp only at hc
      rw [hb] at hc
      simp only at hc
      split at hc
      . cases hc
      . rename_i h0
        split at hc
        . rename_i h1
          split at hc
          . rename_i d0 v0 hl
            split at hc
            . rename_i h2
              refine ⟨h0, h1, fun d v hv => ?_⟩
              rw [hl] at hv
              cases hv
              exact h2
            . cases hc
          . cases hc
        . cases hc
    | succ i =>
      have := G3 (l := l) rest i e (by simpa using h) (by omega) (by rw [show Nat.succ s + i = s + (i + 1) by omega]; exact hb)
      rwa [show Nat.succ s + i = s + (i + 1) by omega] at this
theorem U9 {A : List (Nat × Nat)} {V : VR} {E : List Ef} {n : Nat} : ∀ {l : List Ef} {s : Nat}, UP A V E n l s = true -> ∀ (k : Nat) (c : Cl), l[k]? = some (.wr (n + (s + k)) c) -> G8 (n + (s + k)) c = true /\ FT A V (s + k) (n + (s + k)) E 0 = true
  | [], s, _, k, c, h => by simp at h
  | e :: l, s, hc, k, c, h => by
    cases k with
    | zero =>
      simp at h
      subst h
      unfold UP at hc
      have : Nat.beq (n + s) (Nat.add n s) = true := Xj _
      rw [this] at hc
      simp only at hc
      rw [Nat.add_zero]
      split at hc
      . rename_i h1
        split at hc
        . rename_i h2; exact ⟨h1, h2⟩
        . cases hc
      . cases hc
    | succ k =>
      have rest : UP A V E n l (Nat.succ s) = true := by
        cases e with
        | no => exact hc
        | wr q c' =>
          unfold UP at hc
          split at hc
          . split at hc
            . split at hc
              . exact hc
              . cases hc
            . cases hc
          . exact hc
      have := U9 (l := l) rest k c (by rw [show Nat.succ s + k = s + (k + 1) by omega]; simpa using h)
      rwa [show Nat.succ s + k = s + (k + 1) by omega] at this
/-- A new block of a number that nothing names yet. -/
theorem WM.newB {ρ : Qy} {L0 : List Nat} {w0 w w' : World} {m : SM} {d : SD} {n n' q : Nat} {Γ : List Qv} (h : WM ρ L0 w0 m d n' Γ w) (hq : n <= q) (hqn : q < n') (hm : ∀ x ∈ m, G8 q x.2 = true) (hk : Xr m q = none) (hd : Kf n d = true) {c : Cl} (hc : X3 c) (hcw : G8 q c = true) {B : Nat} (hB : w.heap.size <= B) (hb : Below w.heap.size w w') (hbk : X8 w' B (Qg ρ c)) :
    WM (ρ.setb q B) L0 w0 ((q, c) :: m) d n' Γ w' := by
  have hbut : Qy.but q ρ (ρ.setb q B) := fun j hj => ⟨by simp only [Qy.setb]; rw [if_neg hj], rfl⟩
  have hup : Qy.upto n ρ (ρ.setb q B) := fun j hj => hbut j (by omega)
  have hne : ∀ x ∈ m, x.1 ≠ q := fun x hx e => by
    have := X0 (Xn h.nod) (k := x.1) (c := x.2) hx
    rw [e, hk] at this
    cases this
  have h1 := h.below hb
  have hbs := h.bel.size
  have e1 : (m.map fun x => (ρ.setb q B).b x.1) = m.map fun x => ρ.b x.1 := List.map_congr_left fun x hx => ((hbut x.1 (hne x hx)).1).symm
  have hown : Xx (ρ.setb q B) ((q, c) :: m) L0 = B :: Xx ρ m L0 := by
    unfold Xx
    rw [List.map_cons, e1]
    simp [Qy.setb_at]
  refine ⟨fun x hx => ?_, fun x hx => ?_, ?_, fun x hx => ?_, h1.bel, fun x hx => ?_, h.dky, h1.ll, ?_⟩
  . cases hx with
    | head => rw [Qy.setb_at, <- V0 hbut c hcw]; exact ⟨hbk, hc⟩
    | tail _ hx => rw [<- (hbut x.1 (hne x hx)).1, <- V0 hbut x.2 (hm x hx)]; exact h1.mem x hx
  . cases hx with
    | head => exact hqn
    | tail _ hx => exact h.key x hx
  . rw [List.map_cons, List.nodup_cons, e1]
    refine ⟨fun hx => ?_, h.nod⟩
    rw [Qy.setb_at] at hx
    obtain ⟨y, hy, he⟩ := List.mem_map.1 hx
    have := (h.mem y hy).1.lt
    omega
  . cases hx with
    | head => rw [Qy.setb_at]; omega
    | tail _ hx => rw [<- (hbut x.1 (hne x hx)).1]; exact h1.low x hx
  . obtain ⟨g1, g2⟩ := h1.dat x hx
    have hxn := Gg hd x hx
    rw [hown, <- (hup x.1 hxn.1).2, <- Q1 hup x.2 hxn.2]
    refine ⟨?_, g2⟩
    simp only [List.mem_cons, not_or]
    refine ⟨?_, g1⟩
    obtain ⟨_, g3, g4, g5⟩ := h.dat x hx
    have := Zo g3 (by rw [QJ _ g4]; exact g5)
    omega
  . rw [hown]
    refine h.hs.stp (.of_below hb) fun x hx => ?_
    cases hx with
    | head => exact .inr hB
    | tail _ hx => exact .inl hx
theorem JL {q : Nat} {c : Cl} : ∀ {l : List Ef} {k : Nat} {x : Option Cl}, l[k]? = some (.wr q c) -> (∀ (i : Nat) (e : Ef), l[i]? = some e -> k < i -> e.on q = false) -> Zv q l x = some c
  | [], k, x, h, _ => by simp at h
  | e :: l, 0, x, h, ho => by
    simp at h
    subst h
    show Zv q l (if q = q then some c else x) = some c
    rw [if_pos rfl]
    exact Zi fun e he => by
      obtain ⟨i, hi⟩ := List.mem_iff_getElem?.1 he
      exact ho (i + 1) e (by simpa using hi) (by omega)
  | e :: l, k + 1, x, h, ho => by
    have ih := fun x => JL (l := l) (k := k) (x := x) (c := c) (by simpa using h) fun i e hi hk => ho (i + 1) e (by simpa using hi) (by omega)
    cases e with
    | no => exact ih x
    | wr k' c' => exact ih _
end Go.Proofs.YtbiboamaigedjaaDoor
namespace Go.Proofs.YtbiboamaigedjaaDoor
open Go.RowKit
set_option linter.unusedVariables false
set_option linter.constructorNameAsVariable false
set_option linter.unusedSimpArgs false

/-- What has run is closed. -/
def Cl0 (os : List Oper) (L : Nat -> Bool) : Prop := ∀ (k : Nat) (o : Oper), os[k]? = some o -> L k = true -> ∀ q ∈ Qq .any o, L q = true
section
variable {os : List Oper} {A : List (Nat × Nat)} {L : Nat -> Bool}
theorem QdM (hA : ∀ (k : Nat) (o : Oper), os[k]? = some o -> ZG A k = ZJ A (Qq .any o) 0) (hd : ∀ (k : Nat) (o : Oper), os[k]? = some o -> ∀ q ∈ Qq .any o, q < k) : ∀ (k : Nat) (o : Oper), os[k]? = some o -> ∀ i, tb (ZG A k) i = true -> i < k := by
  intro k
  induction k using Nat.strongRecOn with
  | _ k ih =>
    intro o ho i hi
    rw [hA k o ho] at hi
    rcases Kb hi with h | ⟨q, hq, h⟩
    . rw [Dm] at h; cases h
    . have hqk := hd k o ho q hq
      rcases h with h | h
      . omega
      . have hq2 : q < os.length := by have := (List.getElem?_eq_some_iff.1 ho).1; omega
        have := ih q hqk _ (List.getElem?_eq_getElem hq2) i h
        omega
theorem Uz (hA : ∀ (k : Nat) (o : Oper), os[k]? = some o -> ZG A k = ZJ A (Qq .any o) 0) (hd : ∀ (k : Nat) (o : Oper), os[k]? = some o -> ∀ q ∈ Qq .any o, q < k) (hL : Cl0 os L) : ∀ (k : Nat) (o : Oper), os[k]? = some o -> (∀ q ∈ Qq .any o, L q = true) -> ∀ i, tb (ZG A k) i = true -> L i = true := by
  intro k
  induction k using Nat.strongRecOn with
  | _ k ih =>
    intro o ho hdl i hi
    rw [hA k o ho] at hi
    rcases Kb hi with h | ⟨q, hq, h⟩
    . rw [Dm] at h; cases h
    . rcases h with h | h
      . subst h; exact hdl q hq
      . have hqk := hd k o ho q hq
        have hq2 : q < os.length := by have := (List.getElem?_eq_some_iff.1 ho).1; omega
        exact ih q hqk _ (List.getElem?_eq_getElem hq2) (hL q _ (List.getElem?_eq_getElem hq2) (hdl q hq)) i h
end
/-- A drawn region, its call (the operation j, or none) by what it gives. -/
structure Dw (c : Cx) (md : Bool) (os : List Oper) (f : SF) (m : SM) (d : SD) (n : Nat) (Γ : List Qv) (α : Type) (j : Nat) (sv : α -> SV) (fs : α -> List Qv) (pr : α -> Prop) (V : α -> VR) (E : α -> List Ef) (A : List (Nat × Nat)) (cA : List Prop) (cB : α -> List Prop) (fps : List (Nat × Nat)) (pv : List (Nat × SV)) (G : List Qv) (rk : List (Nat × List Nat)) (xk : List Nat) : Prop where
  hb : Kk .any os.toArray = true
  hx : ∀ x, drx (c.T.wo c.P G pv rk xk) md c.N d n j (sv x) f os.toArray os 0 [] m [] = some (V x, E x, A, cA, cB x, fps)
  ho : ∀ x, FS A (E x) fps = true
  hn : ∀ x, UP A (V x) (E x) n (E x) 0 = true
  hi : ∀ x x' i, tb (ZG A i) j = false -> i ≠ j -> YB (V x) i = YB (V x') i /\ (E x)[i]? = (E x')[i]?
  hA : QP cA
  hB : ∀ x, pr x -> QP (cB x)
  wf : ∀ x, (sv x).wf 0 = true
  wff : wfF n f = true
  wfm : Ku n m = true
  wfd : Kf n d = true
  hj : ∀ o, os[j]? = some o -> ∀ x0 fk, YA (V x0) (Qq .any o) f = some fk -> ∀ ρ W L', LL L' W -> Hs Γ L' W -> DR c.P os.toArray o c.N (Qr ρ fk) W fun v W' => ∃ x, v = (sv x).den Qu /\ Hs (fs x) L' W' /\ pr x /\ Below W.heap.size W W'
  hG : ∀ L' W, Hs Γ L' W -> Hs G L' W
section
variable {c : Cx} {md : Bool} {os : List Oper} {f : SF} {m : SM} {d : SD} {n : Nat} {Γ : List Qv} {α : Type} {j : Nat} {sv : α -> SV} {fs : α -> List Qv} {pr : α -> Prop} {V : α -> VR} {E : α -> List Ef} {A : List (Nat × Nat)} {cA : List Prop} {cB : α -> List Prop} {fps : List (Nat × Nat)} {pv : List (Nat × SV)} {G : List Qv} {rk : List (Nat × List Nat)} {xk : List Nat}
/-- What holds, of what has run. -/
def DG (c : Cx) (os : List Oper) (f : SF) (m : SM) (d : SD) (n : Nat) (Γ : List Qv) (j : Nat) (fs : α -> List Qv) (pr : α -> Prop) (V : α -> VR) (E : α -> List Ef) (ρ0 : Qy) (L : Nat -> Bool) (g : Nat -> Value) (W : World) : Prop :=
  ∃ ρ x, Qr ρ f = Qr ρ0 f /\ (∀ i t v, L i = true -> YB (V x) i = some (some t, v) -> g i = v.den ρ) /\ (L j = true -> pr x) /\ Cl0 os L /\ WM ρ c.L0 c.w0 (QK (XT L 0 (E x)) m) d (n + os.length) (Γ ++ bif L j then fs x else []) W
theorem Dw.dep (h : Dw c md os f m d n Γ α j sv fs pr V E A cA cB fps pv G rk xk) : ∀ (k : Nat) (o : Oper), os[k]? = some o -> ∀ q ∈ Qq .any o, q < k := fun k o ho q hq => (Y1 h.hb (i := k) (o := o) (by simpa using ho)).2.1 q hq
theorem Dw.sp (h : Dw c md os f m d n Γ α j sv fs pr V E A cA cB fps pv G rk xk) (x : α) {k : Nat} {o : Oper} (ho : os[k]? = some o) : ∃ fk v e cs fp, True /\ YA (V x) (Qq .any o) f = some fk /\ YB (V x) k = some (o.dst, v) /\ (E x)[k]? = some e /\ drG (c.T.wo c.P G pv rk xk) md os.toArray fk (QK ((E x).take k) m) d n k j (sv x) o = some (v, e, cs, fp) /\ okD c.N o = true /\ ZG A k = ZJ A (Qq .any o) 0 /\ (tb (ZG A k) j = false -> QP cA -> QP cs) /\ (tb (ZG A k) j = true -> QP (cB x) -> QP cs) /\ ∀ q, q ∈ fp -> (k, q) ∈ fps := by
  have := (Qdq (h.hx x) (fun i o ho q hq => by have := h.dep i o ho q hq; omega) k o ho).sp
  simp only [Nat.zero_add] at this
  exact this
theorem Dw.anc (h : Dw c md os f m d n Γ α j sv fs pr V E A cA cB fps pv G rk xk) (x : α) : ∀ (k : Nat) (o : Oper), os[k]? = some o -> ZG A k = ZJ A (Qq .any o) 0 := fun k o ho => by
  obtain ⟨_, _, _, _, _, _, _, _, _, _, _, h7, _⟩ := h.sp x ho
  exact h7
theorem Dw.len (h : Dw c md os f m d n Γ α j sv fs pr V E A cA cB fps pv G rk xk) (x : α) : (E x).length = os.length := (JW (h.hx x)).2
/-- Who else writes what an operation touches has run, or has not, as it is listed. -/
theorem Dw.mem (h : Dw c md os f m d n Γ α j sv fs pr V E A cA cB fps pv G rk xk) (x : α) {L : Nat -> Bool} (hL : Cl0 os L) {k q : Nat} {o : Oper} (ho : os[k]? = some o) (hk : L k = false) (hdl : ∀ q ∈ Qq .any o, L q = true) (hq : (k, q) ∈ fps) : Xr (QK (XT L 0 (E x)) m) q = Xr (QK ((E x).take k) m) q := by
  rw [Xi, Xi]
  have hchk := G0 (h.ho x) k q hq
  have hlt := QdM (h.anc x) h.dep
  have hin := Uz (h.anc x) h.dep hL
  have hel := h.len x
  have hos : ∀ (i : Nat) (e : Ef), (E x)[i]? = some e -> ∃ o', os[i]? = some o' := fun i e he => ⟨_, List.getElem?_eq_getElem (by have := (List.getElem?_eq_some_iff.1 he).1; omega)⟩
  have below : ∀ (i : Nat) (e : Ef), (E x)[i]? = some e -> e.on q = true -> i < k -> L i = true := fun i e he hon hik => by
    obtain ⟨o', ho'⟩ := hos i e he
    rcases hchk i e he hon with h1 | h1 | h1
    . omega
    . exact hin k o ho hdl i h1
    . have := hlt i o' ho' k h1; omega
  have above : ∀ (i : Nat) (e : Ef), (E x)[i]? = some e -> e.on q = true -> ¬ i < k -> L i = false := fun i e he hon hik => by
    obtain ⟨o', ho'⟩ := hos i e he
    rcases hchk i e he hon with h1 | h1 | h1
    . rw [h1]; exact hk
    . have := hlt k o ho i h1; omega
    . cases hLi : L i with
      | false => rfl
      | true =>
        have := hin i o' ho' (hL i o' ho' hLi) k h1
        rw [hk] at this; cases this
  refine Zu (fun i => ?_) fun i e e' h1 h2 hon => ?_
  . rw [Q7, Nat.zero_add, List.getElem?_take]
    cases he : (E x)[i]? with
    | none => split <;> simp
    | some e =>
      by_cases hik : i < k
      . rw [if_pos hik]
        show Ef.on q (match L i with | true => e | false => .no) = Ef.on q e
        cases hon : e.on q with
        | true => rw [below i e he hon hik]; exact hon
        | false => split <;> first | exact hon | rfl
      . rw [if_neg hik]
        show Ef.on q (match L i with | true => e | false => .no) = false
        cases hon : e.on q with
        | true => rw [above i e he hon hik]; rfl
        | false => split <;> first | exact hon | rfl
  . rw [Q7, Nat.zero_add] at h1
    rw [List.getElem?_take] at h2
    split at h2
    . rw [h2] at h1
      simp only [Option.map_some, Option.some.injEq] at h1
      split at h1
      . exact h1.symm
      . subst h1; cases hon
    . cases h2
/-- An operation's effect, where those who write the same come before it or have not run. -/
theorem Dw.put1 (h : Dw c md os f m d n Γ α j sv fs pr V E A cA cB fps pv G rk xk) (x : α) {L : Nat -> Bool} {k q : Nat} {cl : Cl} (hk : L k = false) (he : (E x)[k]? = some (.wr q cl)) (hoff : ∀ (i : Nat) (e : Ef), (E x)[i]? = some e -> e.on q = true -> k < i -> L i = false) (q' : Nat) : Xr (QK (XT (Zg L k true) 0 (E x)) m) q' = if q' = q then some cl else Xr (QK (XT L 0 (E x)) m) q' := by
  rw [Xi, Xi]
  by_cases hq : q' = q
  . subst hq
    rw [if_pos rfl]
    refine JL (k := k) (by rw [Q7, he, Nat.zero_add]; simp [Zg]) fun i e hi hki => ?_
    rw [Q7, Nat.zero_add] at hi
    cases hE : (E x)[i]? with
    | none => rw [hE] at hi; cases hi
    | some e' =>
      rw [hE] at hi
      simp only [Option.map_some, Option.some.injEq] at hi
      subst hi
      cases hon : e'.on q' with
      | false => split <;> first | exact hon | rfl
      | true =>
        have h1 := hoff i e' hE hon hki
        have : Zg L k true i = false := by simp only [Zg]; rw [if_neg (by omega)]; exact h1
        rw [this]; rfl
  . rw [if_neg hq]
    refine Zu (fun i => ?_) fun i e e' h1 h2 hon => ?_
    . rw [Q7, Q7, Nat.zero_add]
      by_cases hik : i = k
      . subst hik
        rw [he, hk]
        simp only [Zg, if_true, Option.map_some, Option.getD_some, Ef.on]
        exact Q3 fun e => hq e.symm
      . simp only [Zg, if_neg hik]
    . rw [Q7, Nat.zero_add] at h1 h2
      by_cases hik : i = k
      . subst hik
        rw [he, hk] at h2
        simp only [Option.map_some, Option.some.injEq] at h2
        rw [he] at h1
        simp only [Zg, if_true, Option.map_some, Option.some.injEq] at h1
        subst h1
        simp only [Ef.on] at hon
        exact absurd (Nat.eq_of_beq_eq_true hon).symm hq
      . simp only [Zg, if_neg hik] at h1
        rw [h1] at h2
        exact Option.some.inj h2
theorem Dw.putN (h : Dw c md os f m d n Γ α j sv fs pr V E A cA cB fps pv G rk xk) (x : α) {L : Nat -> Bool} {k : Nat} (he : (E x)[k]? = some .no) (q' : Nat) : Xr (QK (XT (Zg L k true) 0 (E x)) m) q' = Xr (QK (XT L 0 (E x)) m) q' := by
  rw [Xi, Xi]
  refine Zu (fun i => ?_) fun i e e' h1 h2 hon => ?_
  . rw [Q7, Q7, Nat.zero_add]
    by_cases hik : i = k
    . subst hik
      rw [he]
      cases L i <;> simp [Zg, Ef.on]
    . simp only [Zg, if_neg hik]
  . rw [Q7, Nat.zero_add] at h1 h2
    by_cases hik : i = k
    . subst hik
      rw [he] at h1
      simp only [Option.map_some, Option.some.injEq] at h1
      split at h1 <;> (subst h1; cases hon)
    . simp only [Zg, if_neg hik] at h1
      rw [h1] at h2
      exact Option.some.inj h2
/-- The frame that an operation looks at. -/
theorem Dw.fr (h : Dw c md os f m d n Γ α j sv fs pr V E A cA cB fps pv G rk xk) (x : α) {ρ : Qy} {L : Nat -> Bool} {g : Nat -> Value} (hg : ∀ i t v, L i = true -> YB (V x) i = some (some t, v) -> g i = v.den ρ) : ∀ {l : List Nat} {f1 fk : SF} {a : Act}, (∀ i ∈ l, L i = true /\ i < os.length) -> YA (V x) l f1 = some fk -> Fr c.N a (Qr ρ f1) -> Fr c.N (Q4 os.toArray g l a) (Qr ρ fk)
  | [], f1, fk, a, _, hd, ha => by cases hd; exact ha
  | i :: l, f1, fk, a, hl, hd, ha => by
    obtain ⟨h1, h2⟩ := hl i (.head _)
    have hoi : os[i]? = some os[i] := List.getElem?_eq_getElem h2
    obtain ⟨_, v, _, _, _, _, _, q3, _, _, q6, _⟩ := h.sp x hoi
    have hdst : QL os.toArray i = os[i].dst := by simp [QL, hoi]
    unfold YA at hd
    unfold Q4
    rw [q3] at hd
    rw [hdst]
    unfold okD at q6
    cases ht : os[i].dst with
    | none =>
      rw [ht] at hd q3
      exact h.fr x hg (fun i hi => hl i (.tail _ hi)) hd ha
    | some t =>
      rw [ht] at hd q3 q6
      refine h.fr x hg (fun i hi => hl i (.tail _ hi)) hd ?_
      rw [hg i t v h1 q3]
      exact ha.put (decide_eq_true (QA q6)) _
end
end Go.Proofs.YtbiboamaigedjaaDoor
namespace Go.Proofs.YtbiboamaigedjaaDoor
open Go.RowKit
set_option linter.unusedVariables false
set_option linter.constructorNameAsVariable false
set_option linter.unusedSimpArgs false

mutual
theorem SV.wf_av {n q : Nat} (h : n <= q) : ∀ x : SV, x.wf n = true -> x.av q = true
  | .v x, _ => by simp only [SV.av]
  | .i K n, _ => by simp only [SV.av]
  | .lit _ _, _ => by simp only [SV.av]
  | .c p d, _ => by simp only [SV.av]
  | .l b, _ => by simp only [SV.av]
  | .s x, _ => by simp only [SV.av]
  | .o _ _ _, _ => by simp only [SV.av]
  | .p k o, hw => by have := QA (by simpa only [SV.wf] using hw : Nat.blt k n = true); simp only [SV.av, Q3 (show k ≠ q by omega)]; rfl
  | .x k o s n', hw => by have := QA (by simpa only [SV.wf] using hw : Nat.blt k n = true); simp only [SV.av, Q3 (show k ≠ q by omega)]; rfl
  | .q k o, hw => by have := QA (by simpa only [SV.wf] using hw : Nat.blt k n = true); simp only [SV.av, Q3 (show k ≠ q by omega)]; rfl
  | .y k _ _ _, hw => by have := QA (by simpa only [SV.wf] using hw : Nat.blt k n = true); simp only [SV.av, Q3 (show k ≠ q by omega)]; rfl
  | .z k _ _ _, hw => by have := QA (by simpa only [SV.wf] using hw : Nat.blt k n = true); simp only [SV.av, Q3 (show k ≠ q by omega)]; rfl
  | .r k _ _ _, hw => by have := QA (by simpa only [SV.wf] using hw : Nat.blt k n = true); simp only [SV.av, Q3 (show k ≠ q by omega)]; rfl
  | .t l, hw => by simp only [SV.av]; exact Jj h l (by simpa only [SV.wf] using hw)
  | .g l, hw => by simp only [SV.av]; exact Jj h l (by simpa only [SV.wf] using hw)
  | .f _ l, hw => by simp only [SV.av]; exact Jj h l (by simpa only [SV.wf] using hw)
  | .a _ _ _, _ => by simp only [SV.av]
  | .w p d x, hw => by simp only [SV.av]; exact SV.wf_av h x (by simpa only [SV.wf] using hw)
  | .u, _ => by simp only [SV.av]
theorem Jj {n q : Nat} (h : n <= q) : ∀ l : List SV, ZL n l = true -> G8 q l = true
  | [], _ => by simp only [G8]
  | x :: l, hw => by
    unfold ZL at hw
    split at hw
    . rename_i hx
      unfold G8
      rw [SV.wf_av h x hx]
      exact Jj h l hw
    . cases hw
end
theorem HR {p : Cl -> Prop} {k : Nat} {c : Cl} (hc : p c) : ∀ {m : SM}, (∀ x ∈ m, p x.2) -> ∀ x ∈ YL k c m, p x.2
  | [], _, x, hx => by simp only [YL, List.mem_singleton] at hx; rw [hx]; exact hc
  | (j, y) :: l, h, x, hx => by
    unfold YL at hx
    split at hx
    . cases hx with
      | head => exact hc
      | tail _ hx => exact h x (.tail _ hx)
    . cases hx with
      | head => exact h _ (.head _)
      | tail _ hx => exact HR hc (fun x hx => h x (.tail _ hx)) x hx
theorem Ur {p : Cl -> Prop} : ∀ {l : List Ef} {m : SM}, (∀ x ∈ m, p x.2) -> (∀ k c, Ef.wr k c ∈ l -> p c) -> ∀ x ∈ QK l m, p x.2
  | [], m, h, _, x, hx => h x hx
  | .no :: l, m, h, hl, x, hx => Ur (l := l) h (fun k c hc => hl k c (.tail _ hc)) x hx
  | .wr k c :: l, m, h, hl, x, hx => Ur (l := l) (HR (hl k c (.head _)) h) (fun k c hc => hl k c (.tail _ hc)) x hx
theorem Cl0.up {os : List Oper} {L : Nat -> Bool} (h : Cl0 os L) {k : Nat} {o : Oper} (ho : os[k]? = some o) (hd : ∀ q ∈ Qq .any o, L q = true) : Cl0 os (Zg L k true) := fun k' o' ho' hk' q hq => by
  unfold Zg at hk' ⊢
  split
  . rfl
  . split at hk'
    . rename_i e; subst e; rw [ho] at ho'; cases ho'; exact hd q hq
    . exact h k' o' ho' hk' q hq
theorem YD {α : Type} (f : Nat -> α) (i : Nat) (v : α) : Zg f i v i = v := by simp [Zg]
theorem Xf {α : Type} {f : Nat -> α} {i k : Nat} {v : α} (h : k ≠ i) : Zg f i v k = f k := by simp [Zg, h]
section
variable {c : Cx} {md : Bool} {os : List Oper} {f : SF} {m : SM} {d : SD} {n : Nat} {Γ : List Qv} {α : Type} {j : Nat} {sv : α -> SV} {fs : α -> List Qv} {pr : α -> Prop} {V : α -> VR} {E : α -> List Ef} {A : List (Nat × Nat)} {cA : List Prop} {cB : α -> List Prop} {fps : List (Nat × Nat)} {pv : List (Nat × SV)} {G : List Qv} {rk : List (Nat × List Nat)} {xk : List Nat}
/-- An operation that writes nothing: what holds behind it. -/
theorem Dw.goN (h : Dw c md os f m d n Γ α j sv fs pr V E A cA cB fps pv G rk xk) (km : (m.map Prod.fst).Nodup) {ρ0 ρ : Qy} {x : α} {L : Nat -> Bool} {g : Nat -> Value} {W : World} (h1 : Qr ρ f = Qr ρ0 f) (h2 : ∀ i t v, L i = true -> YB (V x) i = some (some t, v) -> g i = v.den ρ) (h3 : L j = true -> pr x) (h4 : Cl0 os L) (h5 : WM ρ c.L0 c.w0 (QK (XT L 0 (E x)) m) d (n + os.length) (Γ ++ bif L j then fs x else []) W) {k : Nat} {o : Oper} (ho : os[k]? = some o) (hkj : k ≠ j) (hd : ∀ q ∈ Qq .any o, L q = true) {v : SV} (hv : YB (V x) k = some (o.dst, v)) (he : (E x)[k]? = some .no) : DG c os f m d n Γ j fs pr V E ρ0 (Zg L k true) (Zg g k (v.den ρ)) W := by
  refine ⟨ρ, x, h1, fun i t u hi hu => ?_, fun hj => h3 (by rw [<- Xf (v := true) (f := L) (fun e => hkj e.symm)]; exact hj), h4.up ho hd, ?_⟩
  . by_cases e : i = k
    . subst e
      rw [hv] at hu
      simp only [Option.some.injEq, Prod.mk.injEq] at hu
      obtain ⟨_, rfl⟩ := hu
      exact YD _ _ _
    . rw [Xf e]
      rw [Xf e] at hi
      exact h2 i t u hi hu
  . rw [Xf (f := L) (v := true) (fun e => hkj e.symm)]
    exact h5.ext (h.putN x he) (XW km)
/-- Who else writes what this one writes, and is listed behind it, hasn't run. -/
theorem Dw.above (h : Dw c md os f m d n Γ α j sv fs pr V E A cA cB fps pv G rk xk) (x : α) {L : Nat -> Bool} (hL : Cl0 os L) {k q : Nat} {o : Oper} (ho : os[k]? = some o) (hk : L k = false) (hq : (k, q) ∈ fps) : ∀ (i : Nat) (e : Ef), (E x)[i]? = some e -> e.on q = true -> k < i -> L i = false := fun i e he hon hik => by
  have hel := h.len x
  have ho' : os[i]? = some (os[i]'(by have := (List.getElem?_eq_some_iff.1 he).1; omega)) := List.getElem?_eq_getElem _
  rcases G0 (h.ho x) k q hq i e he hon with h1 | h1 | h1
  . omega
  . have := QdM (h.anc x) h.dep k o ho i h1; omega
  . cases hLi : L i with
    | false => rfl
    | true =>
      have := Uz (h.anc x) h.dep hL i _ ho' (hL i _ ho' hLi) k h1
      rw [hk] at this; cases this
/-- A new block's number: who else writes it waits for it. -/
theorem Dw.fresh (h : Dw c md os f m d n Γ α j sv fs pr V E A cA cB fps pv G rk xk) (x : α) {L : Nat -> Bool} (hL : Cl0 os L) {k : Nat} {o : Oper} (ho : os[k]? = some o) (hk : L k = false) {cl : Cl} (hE : (E x)[k]? = some (.wr (n + k) cl)) : ∀ (i : Nat) (e : Ef), (E x)[i]? = some e -> e.on (n + k) = true -> i = k \/ L i = false := fun i e he hon => by
  have hel := h.len x
  have hil : i < os.length := by have := (List.getElem?_eq_some_iff.1 he).1; omega
  have ho' : os[i]? = some os[i] := List.getElem?_eq_getElem hil
  by_cases hik : i = k
  . exact .inl hik
  . refine .inr ?_
    have hc := (U9 (h.hn x) k cl (by rw [Nat.zero_add]; exact hE)).2
    rw [Nat.zero_add] at hc
    have ha := fun hb => G3 hc i e he (by rw [Nat.zero_add]; exact hik) hb
    rw [Nat.zero_add] at ha
    cases hb : tb (ZG A i) k with
    | false => have := (ha hb).1; rw [hon] at this; cases this
    | true =>
      cases hLi : L i with
      | false => rfl
      | true =>
        have := Uz (h.anc x) h.dep hL i _ ho' (hL i _ ho' hLi) k hb
        rw [hk] at this; cases this
/-- What has run does not name a new block of another one. -/
theorem Dw.avo (h : Dw c md os f m d n Γ α j sv fs pr V E A cA cB fps pv G rk xk) (x : α) {L : Nat -> Bool} (hL : Cl0 os L) {k : Nat} {o : Oper} (ho : os[k]? = some o) (hk : L k = false) {cl : Cl} (hE : (E x)[k]? = some (.wr (n + k) cl)) {i : Nat} (hi : L i = true) (hil : i < os.length) : (∀ e, (E x)[i]? = some e -> e.av (n + k) = true) /\ ∀ d v, YB (V x) i = some (d, v) -> v.av (n + k) = true := by
  have hik : i ≠ k := fun e => by rw [e, hk] at hi; cases hi
  have hel := h.len x
  have ho' : os[i]? = some os[i] := List.getElem?_eq_getElem hil
  have he : (E x)[i]? = some ((E x)[i]'(by omega)) := List.getElem?_eq_getElem _
  have hc := (U9 (h.hn x) k cl (by rw [Nat.zero_add]; exact hE)).2
  rw [Nat.zero_add] at hc
  have hb : tb (ZG A i) k = false := by
    cases hb : tb (ZG A i) k with
    | false => rfl
    | true =>
      have := Uz (h.anc x) h.dep hL i _ ho' (hL i _ ho' hi) k hb
      rw [hk] at this; cases this
  have ha := G3 hc i _ he (by rw [Nat.zero_add]; exact hik) (by rw [Nat.zero_add]; exact hb)
  rw [Nat.zero_add] at ha
  exact ⟨fun e hee => by rw [he] at hee; cases hee; exact ha.2.1, ha.2.2⟩
theorem Fk {L : Nat -> Bool} {l : List Ef} {q : Nat} {cl : Cl} (h : Ef.wr q cl ∈ XT L 0 l) : ∃ i : Nat, l[i]? = some (.wr q cl) /\ L i = true := by
  obtain ⟨i, hi⟩ := List.mem_iff_getElem?.1 h
  rw [Q7, Nat.zero_add] at hi
  cases he : l[i]? with
  | none => rw [he] at hi; cases hi
  | some e =>
    rw [he] at hi
    simp only [Option.map_some, Option.some.injEq] at hi
    split at hi
    . rename_i hL; subst hi; exact ⟨i, he, hL⟩
    . cases hi
theorem QbP (ρ : Qy) (n k B : Nat) : (SV.p (Nat.add n k) 0).den (ρ.setb (n + k) B) = .pointer (some ⟨B, 0, none⟩) := by
  have := Qy.setb_at ρ (n + k) B
  simp only [SV.den]
  show Value.pointer (some ⟨(ρ.setb (n + k) B).b (n + k), 0, none⟩) = _
  rw [this]
theorem Qgc (ρ : Qy) (n k B l : Nat) : (SV.y (Nat.add n k) 0 l l).den (ρ.setb (n + k) B) = .slice (some ⟨B, 0, none⟩) l l := by
  have := Qy.setb_at ρ (n + k) B
  simp only [SV.den]
  show Value.slice (some ⟨(ρ.setb (n + k) B).b (n + k), 0, none⟩) l l = _
  rw [this]
/-- A new block. -/
theorem Dw.goB (h : Dw c md os f m d n Γ α j sv fs pr V E A cA cB fps pv G rk xk) (km : (m.map Prod.fst).Nodup) {ρ0 ρ : Qy} {x : α} {L : Nat -> Bool} {g : Nat -> Value} {W W' : World} (h1 : Qr ρ f = Qr ρ0 f) (h2 : ∀ i t v, L i = true -> YB (V x) i = some (some t, v) -> g i = v.den ρ) (h3 : L j = true -> pr x) (h4 : Cl0 os L) (h5 : WM ρ c.L0 c.w0 (QK (XT L 0 (E x)) m) d (n + os.length) (Γ ++ bif L j then fs x else []) W) (h6 : ∀ i, L i = true -> i < os.length) {k : Nat} {o : Oper} (ho : os[k]? = some o) (hk : L k = false) (hkj : k ≠ j) (hd : ∀ q ∈ Qq .any o, L q = true) {cl : Cl} (hok : X3 cl) {v : SV} (hv : YB (V x) k = some (o.dst, v)) (he : (E x)[k]? = some (.wr (n + k) cl)) {u : Value} (hn : u = v.den (ρ.setb (n + k) W.heap.size) /\ X8 W' W.heap.size (Qg ρ cl) /\ Below W.heap.size W W' /\ W.heap.size < W'.heap.size) : DG c os f m d n Γ j fs pr V E ρ0 (Zg L k true) (Zg g k u) W' := by
  obtain ⟨rfl, k1, k2, k3⟩ := hn
  have hkl : k < os.length := (List.getElem?_eq_some_iff.1 ho).1
  have hfresh := h.fresh x h4 ho hk he
  have hav := fun {i : Nat} (hi : L i = true) => h.avo x h4 ho hk he hi (h6 i hi)
  have hcl : G8 (n + k) cl = true := by have := (U9 (h.hn x) k cl (by rw [Nat.zero_add]; exact he)).1; rwa [Nat.zero_add] at this
  have hat : Xr (QK (XT L 0 (E x)) m) (n + k) = none := by
    rw [Xi, Zi fun e hm => ?_]
    . cases hq : Xr m (n + k) with
      | none => rfl
      | some c' => have := (Ji h.wfm _ (XK hq)).1; simp only at this; omega
    . cases e with
      | no => rfl
      | wr q c' =>
        obtain ⟨i, hi, hLi⟩ := Fk hm
        cases hon : (Ef.wr q c').on (n + k) with
        | false => rfl
        | true =>
          rcases hfresh i _ hi hon with e | e
          . rw [e, hk] at hLi; cases hLi
          . rw [e] at hLi; cases hLi
  have hmav : ∀ x' ∈ QK (XT L 0 (E x)) m, G8 (n + k) x'.2 = true := Ur (p := fun c => G8 (n + k) c = true) (fun y hy => Jj (Nat.le_add_right n k) _ (Ji h.wfm y hy).2) fun q c' hm => by
    obtain ⟨i, hi, hLi⟩ := Fk hm
    exact (hav hLi).1 _ hi
  have hW := h5.newB (n := n) (Nat.le_add_right n k) (by omega) hmav hat h.wfd hok hcl (Nat.le_refl _) k2 k1
  have hbut : Qy.but (n + k) ρ (ρ.setb (n + k) W.heap.size) := fun j hj => ⟨by simp only [Qy.setb]; rw [if_neg hj], rfl⟩
  refine ⟨ρ.setb (n + k) W.heap.size, x, ?_, fun i t v hi hl => ?_, fun hj => h3 (by rw [<- Xf (v := true) (f := L) (fun e => hkj e.symm)]; exact hj), h4.up ho hd, ?_⟩
  . rw [<- h1]
    exact (XY (n := n) (fun q hq => hbut q (by omega)) f h.wff).symm
  . by_cases e : i = k
    . subst e
      rw [hv] at hl
      simp only [Option.some.injEq, Prod.mk.injEq] at hl
      obtain ⟨_, rfl⟩ := hl
      rw [YD]
    . rw [Xf e]
      rw [Xf e] at hi
      rw [h2 i t v hi hl]
      exact SV.den_but hbut v ((hav hi).2 _ _ hl)
  . rw [Xf (f := L) (v := true) (fun e => hkj e.symm)]
    refine hW.ext (fun q => ?_) (XW km)
    rw [h.put1 x hk he (fun i e hi hon hki => (hfresh i e hi hon).resolve_left (by omega)) q]
    by_cases hq : q = n + k
    . subst hq; rw [if_pos rfl]; simp only [Xr, Xj]
    . rw [if_neg hq]; simp only [Xr, Q3 fun e => hq e.symm]
/-- A store. -/
theorem Dw.goS (h : Dw c md os f m d n Γ α j sv fs pr V E A cA cB fps pv G rk xk) (km : (m.map Prod.fst).Nodup) {ρ0 ρ : Qy} {x : α} {L : Nat -> Bool} {g : Nat -> Value} {W W' : World} (h1 : Qr ρ f = Qr ρ0 f) (h2 : ∀ i t v, L i = true -> YB (V x) i = some (some t, v) -> g i = v.den ρ) (h3 : L j = true -> pr x) (h4 : Cl0 os L) (h5 : WM ρ c.L0 c.w0 (QK (XT L 0 (E x)) m) d (n + os.length) (Γ ++ bif L j then fs x else []) W) {k q : Nat} {o : Oper} (ho : os[k]? = some o) (hk : L k = false) (hkj : k ≠ j) (hd : ∀ q ∈ Qq .any o, L q = true) {c0 cl : Cl} (hq : (k, q) ∈ fps) (hc0 : Xr (QK (XT L 0 (E x)) m) q = some c0) (hok : X3 cl) {v : SV} (hv : YB (V x) k = some (o.dst, v)) (he : (E x)[k]? = some (.wr q cl)) (hb : X8 W' (ρ.b q) (Qg ρ cl)) (hon : Uc (ρ.b q) W W') (u : Value) (hu : ∀ t, o.dst = some t -> u = v.den ρ) : DG c os f m d n Γ j fs pr V E ρ0 (Zg L k true) (Zg g k u) W' := by
  refine ⟨ρ, x, h1, fun i t v' hi hl => ?_, fun hj => h3 (by rw [<- Xf (v := true) (f := L) (fun e => hkj e.symm)]; exact hj), h4.up ho hd, ?_⟩
  . by_cases e : i = k
    . subst e
      rw [hv] at hl
      simp only [Option.some.injEq, Prod.mk.injEq] at hl
      obtain ⟨hdt, rfl⟩ := hl
      rw [YD]
      exact hu t hdt
    . rw [Xf e]
      rw [Xf e] at hi
      exact h2 i t v' hi hl
  . rw [Xf (f := L) (v := true) (fun e => hkj e.symm)]
    refine (h5.put hc0 hb hok hon).ext (fun q' => ?_) (XW km)
    rw [KG hc0, J7, h.put1 x hk he (h.above x h4 ho hk hq) q']
end
end Go.Proofs.YtbiboamaigedjaaDoor
namespace Go.Proofs.YtbiboamaigedjaaDoor
open Go.RowKit
set_option linter.unusedVariables false
set_option linter.constructorNameAsVariable false
set_option linter.unusedSimpArgs false

section
variable {c : Cx} {md : Bool} {os : List Oper} {f : SF} {m : SM} {d : SD} {n : Nat} {Γ : List Qv} {α : Type} {j : Nat} {sv : α -> SV} {fs : α -> List Qv} {pr : α -> Prop} {V : α -> VR} {E : α -> List Ef} {A : List (Nat × Nat)} {cA : List Prop} {cB : α -> List Prop} {fps : List (Nat × Nat)} {pv : List (Nat × SV)} {G : List Qv} {rk : List (Nat × List Nat)} {xk : List Nat}
theorem Dw.step (h : Dw c md os f m d n Γ α j sv fs pr V E A cA cB fps pv G rk xk) (km : (m.map Prod.fst).Nodup) {ρ0 : Qy} {a : Act} (ha : Fr c.N a (Qr ρ0 f)) {L : Nat -> Bool} {g : Nat -> Value} {W : World} (hG : DG c os f m d n Γ j fs pr V E ρ0 L g W) (h6 : ∀ i, L i = true -> i < os.length) {k : Nat} {o : Oper} (ho : os[k]? = some o) (hk : L k = false) (hd : ∀ q ∈ Qq .any o, L q = true) :
    Qi c.P os.toArray o (Q4 os.toArray g (Qq .any o) a) W fun v W' => DG c os f m d n Γ j fs pr V E ρ0 (Zg L k true) (Zg g k v) W' := by
  obtain ⟨ρ, x, h1, h2, h3, h4, h5⟩ := hG
  obtain ⟨fk, v, e, cs, fp, p1, p2, p3, p4, p5, p6, p7, p8, p9, p10⟩ := h.sp x ho
  have hfr : Fr c.N (Q4 os.toArray g (Qq .any o) a) (Qr ρ fk) := h.fr x h2 (fun i hi => ⟨hd i hi, h6 i (hd i hi)⟩) p2 (by rw [h1]; exact ha)
  have hcs : k ≠ j -> QP cs := fun hkj => by
    cases hb : tb (ZG A k) j with
    | false => exact p8 hb h.hA
    | true => exact p9 hb (h.hB x (h3 (Uz (h.anc x) h.dep h4 k o ho hd j hb)))
  unfold drG at p5
  split at p5
  case h_3 => cases p5
  case h_2 =>
    rename_i hgo
    split at p5
    . cases p5
    . rename_i hkj
      have hkj := Nat.ne_of_beq_eq_false hkj
      simp only [Option.some.injEq, Prod.mk.injEq] at p5
      obtain ⟨rfl, rfl, rfl, rfl⟩ := p5
      have hwo := (ZP (ρ := ρ)).2.1 hgo
      have hgn := h.goN km h1 h2 h3 h4 h5 ho hkj hd p3 p4
      simp only [SV.den] at hgn
      exact Qi.off (Qe hfr hwo) hgn
  rename_i hgo
  have hw : Qj os.toArray o (Qr ρ fk) = some true := (ZP (ρ := ρ)).1 hgo
  unfold drS at p5
  split at p5
  . -- the call
    rename_i hkj
    have hkj := Nat.eq_of_beq_eq_true hkj
    subst hkj
    simp only [Option.some.injEq, Prod.mk.injEq] at p5
    obtain ⟨rfl, rfl, rfl, rfl⟩ := p5
    rw [hk] at h5
    have hdr := h.hj o ho x fk p2 ρ W (Xx ρ (QK (XT L 0 (E x)) m) c.L0) h5.lt h5.hs.pre
    refine (hdr _ hfr).mono fun u W' hu => ?_
    obtain ⟨x', rfl, g1, g2, g3⟩ := hu
    obtain ⟨_, v', e', _, _, _, _, q3, q4, q5, _⟩ := h.sp x' ho
    unfold drG at q5
    split at q5
    case h_3 => cases q5
    case h_2 => rw [Xj] at q5; cases q5
    unfold drS at q5
    rw [Xj] at q5
    simp only [Option.some.injEq, Prod.mk.injEq] at q5
    obtain ⟨rfl, rfl, _⟩ := q5
    have hind : ∀ i, L i = true -> YB (V x) i = YB (V x') i /\ (E x)[i]? = (E x')[i]? := fun i hi => by
      have hik : i ≠ k := fun e => by rw [e, hk] at hi; cases hi
      refine h.hi x x' i ?_ hik
      cases hb : tb (ZG A i) k with
      | false => rfl
      | true =>
        have hil := h6 i hi
        have hoi : os[i]? = some os[i] := List.getElem?_eq_getElem hil
        have := Uz (h.anc x) h.dep h4 i _ hoi (h4 i _ hoi hi) k hb
        rw [hk] at this; cases this
    refine ⟨ρ, x', h1, fun i t u hi hl => ?_, fun _ => g2, h4.up ho hd, ?_⟩
    . by_cases e : i = k
      . subst e
        rw [q3] at hl
        simp only [Option.some.injEq, Prod.mk.injEq] at hl
        obtain ⟨_, rfl⟩ := hl
        rw [YD]
        exact X1 (h.wf x') Qu ρ
      . rw [Xf e]
        rw [Xf e] at hi
        exact h2 i t u hi (by rw [(hind i hi).1]; exact hl)
    . rw [YD]
      have h5' := h5.below g3
      have h7 : WM ρ c.L0 c.w0 (QK (XT L 0 (E x)) m) d (n + os.length) (Γ ++ fs x') W' := ⟨h5'.mem, h5'.key, h5'.nod, h5'.low, h5'.bel, h5'.dat, h5'.dky, h5'.ll, h5'.hs.pre.app g1⟩
      refine h7.ext (fun q => ?_) (XW km)
      rw [h.putN x' q4 q, Xi, Xi]
      refine Zu (fun i => ?_) fun i a b ha' hb' hon => ?_
      . rw [Q7, Q7, Nat.zero_add]
        cases hi : L i with
        | true => rw [(hind i hi).2]
        | false =>
          have l1 := h.len x
          have l2 := h.len x'
          cases e1 : (E x)[i]? with
          | none =>
            cases e2 : (E x')[i]? with
            | none => rfl
            | some y => have := List.getElem?_eq_none_iff.1 e1; have := (List.getElem?_eq_some_iff.1 e2).1; omega
          | some z =>
            cases e2 : (E x')[i]? with
            | none => have := List.getElem?_eq_none_iff.1 e2; have := (List.getElem?_eq_some_iff.1 e1).1; omega
            | some y => rfl
      . rw [Q7, Nat.zero_add] at ha' hb'
        cases hi : L i with
        | true => rw [(hind i hi).2, ha'] at hb'; exact Option.some.inj hb'
        | false =>
          rw [hi] at ha' 
          cases e1 : (E x')[i]? with
          | none => rw [e1] at ha'; cases ha'
          | some y => rw [e1] at ha'; simp only [Option.map_some, Option.some.injEq] at ha'; subst ha'; cases hon
  . rename_i hkj
    have hkj := Nat.ne_of_beq_eq_false hkj
    have hcs := hcs hkj
    split at p5
    . -- a call of a function of values
      rename_i v0 hv0
      split at p5
      . rename_i g xs ts hop
        split at p5
        . rename_i F caps hF
          split at p5
          . rename_i vs hxs
            split at p5
            . -- without a body
              split at p5
              . simp only [Option.some.injEq, Prod.mk.injEq] at p5
                obtain ⟨rfl, rfl, rfl, rfl⟩ := p5
                have hp : PE c.P F vs v0 := hcs.1
                have g1 := Qp (ρ := ρ) hF
                simp only [SV.den, Qt] at g1
                have g2 := Zw (ρ := ρ) hxs
                rw [VZ hp.wa ρ Qu] at g2
                have hdr := K5 (P := c.P) (ops := os.toArray) (o := o) (N := c.N) (xs := xs) (by rw [hop]) g1 g2 (hp.h W) hw
                refine (hdr _ hfr).mono fun u W' hu => ?_
                obtain ⟨rfl, hww⟩ := hu
                subst hww
                rw [X1 hp.wv Qu ρ]
                exact h.goN km h1 h2 h3 h4 h5 ho hkj hd p3 p4
              . cases p5
            . split at p5
              . simp only [Option.some.injEq, Prod.mk.injEq] at p5
                obtain ⟨rfl, rfl, rfl, rfl⟩ := p5
                have hp : PV c.P G F (vs ++ caps) v0 := hcs.1
                obtain ⟨fn, hf, hnn, hbb⟩ := hp.fn
                have g1 := Qp (ρ := ρ) hF
                simp only [SV.den] at g1
                have hcc := hp.at ρ h5.lt (h.hG _ _ h5.hs.pre)
                unfold CX at hcc
                rw [JZ] at hcc
                have hdr := EW (P := c.P) (ops := os.toArray) (o := o) (N := c.N) (xs := xs) (cs := Qt ρ caps) (by rw [hop]) g1 hf hnn hbb (Zw hxs) hcc hw
                refine (hdr _ hfr).mono fun u W' hu => ?_
                obtain ⟨⟨_, rfl, _, _⟩, hbel⟩ := hu
                rw [X1 hp.wv Qu ρ]
                exact h.goN km h1 h2 h3 h4 (h5.below hbel) ho hkj hd p3 p4
              . rename_i q0 l0 hrk
                split at p5
                . rename_i mc hmc
                  simp only [Option.some.injEq, Prod.mk.injEq] at p5
                  obtain ⟨rfl, rfl, rfl, rfl⟩ := p5
                  have hp : PR c.P G F (vs ++ caps) mc v0 := hcs.1
                  obtain ⟨fn, hf, hnn, hbb⟩ := hp.fn
                  have g1 := Qp (ρ := ρ) hF
                  simp only [SV.den] at g1
                  have hmm : ∀ y ∈ mc, X8 W (ρ.b y.1) (Qg ρ y.2) /\ X3 y.2 := fun y hy => by
                    obtain ⟨y1, y2⟩ := U8 hmc y hy
                    have hat : Xr (QK (XT L 0 (E x)) m) y.1 = some y.2 := by rw [h.mem x h4 ho hk hd (p10 _ y1)]; exact y2
                    exact h5.cell hat
                  have hcc := hp.h ρ W ⟨_, h.hG _ _ h5.hs.pre⟩ hmm
                  unfold CX at hcc
                  rw [JZ] at hcc
                  have hdr := EW (P := c.P) (ops := os.toArray) (o := o) (N := c.N) (xs := xs) (cs := Qt ρ caps) (by rw [hop]) g1 hf hnn hbb (Zw hxs) hcc hw
                  refine (hdr _ hfr).mono fun u W' hu => ?_
                  obtain ⟨⟨_, rfl, _, _⟩, hbel⟩ := hu
                  rw [X1 hp.wv Qu ρ]
                  exact h.goN km h1 h2 h3 h4 (h5.below hbel) ho hkj hd p3 p4
                . cases p5
          . cases p5
        . cases p5
      . rename_i t g hop
        simp only [Option.some.injEq, Prod.mk.injEq] at p5
        obtain ⟨rfl, rfl, rfl, rfl⟩ := p5
        have hp : GL c.P G t g v0 := hcs.1
        refine (hp.h W _ h5.lt (h.hG _ _ h5.hs.pre) os.toArray o c.N (Qr ρ fk) hop hw _ hfr).mono fun u W' hu => ?_
        obtain ⟨rfl, hww⟩ := hu
        subst hww
        rw [X1 hp.wv Qu ρ]
        exact h.goN km h1 h2 h3 h4 h5 ho hkj hd p3 p4
      . cases p5
    . split at p5
      . -- a store
        rename_i t px pw hop
        split at p5
        . cases p5
        . rename_i hdst
          split at p5
          . rename_i sx hx
            split at p5
            . rename_i q hq
              split at p5
              . rename_i c0 hc0
                split at p5
                . rename_i pvv hpv
                  split at p5
                  . rename_i c1 cs1 hst
                    simp only [Option.some.injEq, Prod.mk.injEq] at p5
                    obtain ⟨rfl, rfl, rfl, rfl⟩ := p5
                    have hqf := p10 q (.head _)
                    have hat : Xr (QK (XT L 0 (E x)) m) q = some c0 := by rw [h.mem x h4 ho hk hd hqf]; exact hc0
                    obtain ⟨b1, b2⟩ := h5.cell hat
                    obtain ⟨_, s2, s3⟩ := Ky (N := c.N) c.ok hw hq b1 b2 hop (Qp hx) (Qp hpv) hst hcs
                    exact (s3 _ hfr).mono fun u W' hb => h.goS km h1 h2 h3 h4 h5 ho hk hkj hd hqf hat s2 p3 p4 hb.1 hb.2 u (fun t ht => by rw [hdst] at ht; cases ht)
                  . cases p5
                . cases p5
              . cases p5
            . cases p5
          . cases p5
      . -- a box
        rename_i hop
        split at p5
        . rename_i sx hx
          split at p5
          . rename_i c1 cs1 hcv
            simp only [Option.some.injEq, Prod.mk.injEq] at p5
            obtain ⟨rfl, rfl, rfl, rfl⟩ := p5
            obtain ⟨_, s1, s2, s3⟩ := XZ (ρ := ρ) hcv hcs
            exact (Qdn hop (Qp hx) s2 hw _ hfr).mono fun u W' hb => h.goB km h1 h2 h3 h4 h5 h6 ho hk hkj hd s1 p3 p4 ⟨by rw [QbP]; exact hb.1, hb.2⟩
          . cases p5
        . cases p5
      . rename_i t hop
        split at p5
        . rename_i i hi
          split at p5
          . rename_i c1 hz
            simp only [Option.some.injEq, Prod.mk.injEq] at p5
            obtain ⟨rfl, rfl, rfl, rfl⟩ := p5
            obtain ⟨z1, z2, Z, z3, z4⟩ := TT.zero c.ok hi hz
            exact (FL hop z3 (z4 ρ) hw _ hfr).mono fun u W' hb => h.goB km h1 h2 h3 h4 h5 h6 ho hk hkj hd z1 p3 p4 ⟨by rw [QbP]; exact hb.1, hb.2⟩
          . cases p5
        . cases p5
      . -- a slice written out
        rename_i t len ps hop
        split at p5
        . rename_i c1 cs1 hl
          simp only [Option.some.injEq, Prod.mk.injEq] at p5
          obtain ⟨rfl, rfl, rfl, rfl⟩ := p5
          obtain ⟨_, s1, s2⟩ := DQ (N := c.N) (w := W) (ρ := ρ) c.ok hw hop hl hcs
          exact (s2 _ hfr).mono fun u W' hb => h.goB km h1 h2 h3 h4 h5 h6 ho hk hkj hd s1 p3 p4 ⟨by rw [Qgc]; exact hb.1, hb.2⟩
        . cases p5
      . -- a copy
        rename_i px py t t' hop
        split at p5
        . rename_i q c1 z q' cs1 hl
          simp only [Option.some.injEq, Prod.mk.injEq] at p5
          obtain ⟨rfl, rfl, rfl, rfl⟩ := p5
          have hl' : GZ (c.T.wo c.P G pv rk xk) fk (QK (XT L 0 (E x)) m) [] t px py = some (q, c1, z, q', cs1) := by
            rw [E2 (m' := QK ((E x).take k) m) hl fun y hy => h.mem x h4 ho hk hd (p10 y hy)]
            exact hl
          obtain ⟨_, s1, ⟨c0, s2⟩, s3⟩ := Qad (N := c.N) c.ok h5 hw hop hl' hcs
          exact (s3 _ hfr).mono fun u W' hb => h.goS km h1 h2 h3 h4 h5 ho hk hkj hd (p10 q (.head _)) s2 s1 p3 p4 hb.2.1 hb.2.2 u (fun _ _ => by rw [hb.1]; simp only [SV.den])
        . cases p5
      . -- a value
        split at p5
        . rename_i v1 cs1 hval
          simp only [Option.some.injEq, Prod.mk.injEq] at p5
          obtain ⟨rfl, rfl, rfl, rfl⟩ := p5
          have hval' : F8 (c.T.wo c.P G pv rk xk) md fk (QK (XT L 0 (E x)) m) d [] o.op = some (v1, cs1) := by
            rw [F7 (m' := QK ((E x).take k) m) fun q hq => h.mem x h4 ho hk hd (p10 q (Qcu.2 hq))]
            exact hval
          have hdv := Qd0 (N := c.N) c.ok h5 hw hval' hcs
          refine (hdv _ hfr).mono fun u W' hu => ?_
          obtain ⟨rfl, rfl⟩ := hu
          exact h.goN km h1 h2 h3 h4 h5 ho hkj hd p3 p4
        . cases p5
/-- QP have run. -/
def JV (V : VR) (f : SF) : Nat -> Nat -> Option SF
  | _, 0 => some f
  | i, s + 1 => match YB V i with
    | some (some t, v) => JV V ((t, v) :: f) (Nat.succ i) s
    | some (none, _) => JV V f (Nat.succ i) s
    | none => none
theorem GR {V : VR} : ∀ {s i : Nat} {f : SF}, JV V f i s = YA V (List.range' i s) f
  | 0, i, f => rfl
  | s + 1, i, f => by
    rw [List.range'_succ]
    cases hl : YB V i with
    | none => simp only [JV, YA, hl]
    | some y =>
      obtain ⟨t, v⟩ := y
      cases t with
      | none => simp only [JV, YA, hl]; exact GR
      | some t => simp only [JV, YA, hl]; exact GR
theorem Fo : ∀ {l : List Ef} {k : Nat} {L : Nat -> Bool}, (∀ i, i < k + l.length -> L i = true) -> XT L k l = l
  | [], k, L, _ => rfl
  | e :: l, k, L, h => by
    simp only [XT]
    rw [h k (by simp), Fo (l := l) fun i hi => h i (by simp only [List.length_cons]; omega)]
theorem S.drawn {id : Nat} (h : Dw c md os f m d n Γ α j sv fs pr V E A cA cB fps pv G rk xk) [Inhabited α] (hm : c.P.follows .mixedOrders = true) {ks : List It} {f' : α -> SF} {m' : α -> SM} (hf' : ∀ x, JV (V x) f 0 os.length = some (f' x)) (hm' : ∀ x, QK (E x) m = m' x) (hj : Nat.blt j os.length = true \/ ∀ x, pr x /\ fs x = [])
    (k : ∀ x, pr x -> S c ks (f' x) (m' x) d (n + os.length) (Γ ++ fs x)) : S c (.c (.region id os.toArray true) :: ks) f m d n Γ := fun ρ0 a w ha hW => by
  have km := Xn hW.nod
  refine wp_region_any hm ?_
  have hF0 : ∀ j, (Array.replicate os.toArray.size false).getD j false = true -> False := fun j hj => by simp [Array.getD_eq_getD_getElem?, Array.getElem?_replicate] at hj; split at hj <;> simp_all
  have hL0 : (fun j => (Array.replicate os.toArray.size false).getD j false) = fun _ => false := by
    funext j
    cases hj : (Array.replicate os.toArray.size false).getD j false with
    | false => rfl
    | true => exact (hF0 j hj).elim
  have hW1 := hW.below (FZ (Below.refl _ _) 1)
  have hstart : ∀ g, DG c os f m d n Γ j fs pr V E ρ0 (fun _ => false) g w.drew := fun g => by
    refine ⟨ρ0, default, rfl, (fun i t v hi => by cases hi), (fun hi => by cases hi), (fun k o _ hk => by cases hk), ?_⟩
    have hmm : ∀ (l : List Ef) (k : Nat) (m : SM), QK (XT (fun _ => false) k l) m = m := by
      intro l
      induction l with
      | nil => intro k m; rfl
      | cons e l ih => intro k m; exact ih (k + 1) m
    rw [hmm]
    simp only [cond_false, List.append_nil]
    exact ⟨hW1.mem, fun x hx => Nat.lt_of_lt_of_le (hW1.key x hx) (Nat.le_add_right _ _), hW1.nod, hW1.low, hW1.bel, hW1.dat, fun x hx => Nat.lt_of_lt_of_le (hW1.dky x hx) (Nat.le_add_right _ _), hW1.ll, hW1.hs⟩
  refine Ge (md := .any) h.hb a (fun L g W => (∀ i, L i = true -> i < os.length) /\ DG c os f m d n Γ j fs pr V E ρ0 L g W) (fun _ _ _ => True) (fun _ _ _ _ => True) (fun _ _ _ _ _ _ _ _ _ _ => trivial) ?_ ?_ os.toArray.size _ (fun _ => undef) a w.drew (by simp) (by
      have := List.countP_le_length (p := fun b => !b) (l := (Array.replicate os.toArray.size false).toList)
      simpa using this) (fun j hj => (hF0 j hj).elim) (QG.start fun j hj => hF0 j hj) (by rw [hL0]; exact ⟨fun i hi => (by cases hi), hstart _⟩) (fun _ _ => trivial)
  . intro i o hoi L g W hLi hno hdl hG _
    have ho : os[i]? = some o := by simpa using hoi
    refine (h.step km ha hG.2 hG.1 ho hLi hdl).mono fun v W' hv => ⟨trivial, ⟨fun q hq => ?_, hv⟩, trivial⟩
    unfold Zg at hq
    split at hq
    . rename_i e; subst e; exact (List.getElem?_eq_some_iff.1 ho).1
    . exact hG.1 q hq
  . intro L g W hL hG _
    obtain ⟨_, ρ, x, h1, h2, h3, h4, h5⟩ := hG
    have hLt : ∀ i, i < os.length -> L i = true := fun i hi => by rw [hL i]; simpa using hi
    have hel := h.len x
    rw [Fo fun i hi => hLt i (by omega), hm' x] at h5
    have hfr : Fr c.N (Q4 os.toArray g (List.range os.toArray.size) a) (Qr ρ (f' x)) := by
      rw [List.range_eq_range']
      refine h.fr x h2 (l := List.range' 0 os.toArray.size) (fun i hi => ?_) (by rw [<- GR]; simpa using hf' x) (by rw [h1]; exact ha)
      have : i < os.length := by simpa [List.mem_range'] using hi
      exact ⟨hLt i this, this⟩
    cases hLj : L j with
    | true =>
      rw [hLj] at h5
      exact k x (h3 hLj) ρ _ W hfr h5
    | false =>
      rw [hLj] at h5
      rcases hj with hj | hj
      . rw [hLt j (QA hj)] at hLj; cases hLj
      . have := k x (hj x).1
        rw [(hj x).2] at this
        exact this ρ _ W hfr h5
end
end Go.Proofs.YtbiboamaigedjaaDoor
namespace Go.Proofs.YtbiboamaigedjaaDoor
open Go.RowKit
set_option linter.unusedVariables false
set_option linter.constructorNameAsVariable false
set_option linter.unusedSimpArgs false

def UH : List Ef -> SM -> (SM -> Option SM) -> Option SM
  | [], m, K => K m
  | .no :: l, m, K => UH l m K
  | .wr k c :: l, m, K => QbR k c m fun m' => UH l m' K
theorem Z5 : ∀ {l : List Ef} {m : SM} {K : SM -> Option SM}, UH l m K = K (QK l m)
  | [], m, K => rfl
  | .no :: l, m, K => Z5 (l := l)
  | .wr k c :: l, m, K => by
    unfold UH
    rw [Gq]
    exact Z5 (l := l)
section
variable {c : Cx} {os : List Oper} {f : SF} {m : SM} {d : SD} {n : Nat} {Γ : List Qv} {ks : List It} {id : Nat} {A : List (Nat × Nat)} {cA : List Prop} {fps : List (Nat × Nat)}
/-- A drawn region without a call. -/
theorem S.dr0 (md : Bool) {V : VR} {E : List Ef} {cB : List Prop} {f' : SF} {m' : SM} (hx : drx (c.T.wo c.P [] []) md c.N d n os.length .u f os.toArray os 0 [] m [] = some (V, E, A, cA, cB, fps)) (hf' : JV V f 0 os.length = some f') (hm' : UH E m some = some m') (k : S c ks f' m' d (n + os.length) Γ)
    (hc : QP cA /\ QP cB := by repeat' (first | exact True.intro | exact fun h => h | refine And.intro ?_ ?_ | omega | exact rfl | (simp only [Int.reduceToNat, Int.reducePow]; omega) | intro _)) (hm : c.P.follows .mixedOrders = true := by kernel_rfl) (hb : Kk .any os.toArray = true := by kernel_rfl) (ho : FS A E fps = true := by rfl) (hn : UP A V E n E 0 = true := by rfl) (wff : wfF n f = true := by rfl) (wfm : Ku n m = true := by rfl) (wfd : Kf n d = true := by rfl) : S c (.c (.region id os.toArray true) :: ks) f m d n Γ :=
  S.drawn (α := Unit) (j := os.length) (sv := fun _ => .u) (fs := fun _ => []) (pr := fun _ => True) (V := fun _ => V) (E := fun _ => E) (A := A) (cA := cA) (cB := fun _ => cB) (fps := fps) (f' := fun _ => f') (m' := fun _ => m')
    ⟨hb, fun _ => hx, fun _ => ho, fun _ => hn, fun _ _ _ _ _ => ⟨rfl, rfl⟩, hc.1, fun _ _ => hc.2, fun _ => rfl, wff, wfm, wfd, fun o hoj => by simp at hoj, fun _ _ _ => trivial⟩
    hm (fun _ => hf') (fun _ => by rw [Z5] at hm'; exact Option.some.inj hm') (.inr fun _ => ⟨trivial, rfl⟩) fun _ _ => by rw [List.append_nil]; exact k
/-- A drawn region whose calls are of functions of values. -/
theorem S.drp {G : List Qv} (md : Bool) (pv : List (Nat × SV)) {V : VR} {E : List Ef} {cB : List Prop} {f' : SF} {m' : SM} (hx : drx (c.T.wo c.P G pv [] []) md c.N d n os.length .u f os.toArray os 0 [] m [] = some (V, E, A, cA, cB, fps)) (hf' : JV V f 0 os.length = some f') (hm' : UH E m some = some m') (k : S c ks f' m' d (n + os.length) Γ)
    (hc : QP cA /\ QP cB := by repeat' (first | assumption | exact True.intro | exact fun h => h | refine And.intro ?_ ?_ | omega | exact rfl | (simp only [Int.reduceToNat, Int.reducePow]; omega) | intro _)) (hm : c.P.follows .mixedOrders = true := by kernel_rfl) (hb : Kk .any os.toArray = true := by kernel_rfl) (ho : FS A E fps = true := by rfl) (hn : UP A V E n E 0 = true := by rfl) (wff : wfF n f = true := by rfl) (wfm : Ku n m = true := by rfl) (wfd : Kf n d = true := by rfl) (hG : ∀ L' W, Hs Γ L' W -> Hs G L' W := by first | exact fun _ _ h => h | exact fun _ _ h => Hs.pre h) : S c (.c (.region id os.toArray true) :: ks) f m d n Γ :=
  S.drawn (α := Unit) (j := os.length) (sv := fun _ => .u) (fs := fun _ => []) (pr := fun _ => True) (V := fun _ => V) (E := fun _ => E) (A := A) (cA := cA) (cB := fun _ => cB) (fps := fps) (f' := fun _ => f') (m' := fun _ => m')
    ⟨hb, fun _ => hx, fun _ => ho, fun _ => hn, fun _ _ _ _ _ => ⟨rfl, rfl⟩, hc.1, fun _ _ => hc.2, fun _ => rfl, wff, wfm, wfd, fun o hoj => by simp at hoj, hG⟩
    hm (fun _ => hf') (fun _ => by rw [Z5] at hm'; exact Option.some.inj hm') (.inr fun _ => ⟨trivial, rfl⟩) fun _ _ => by rw [List.append_nil]; exact k
/-- The same, where rk says which Xx blocks a call reads. -/
theorem S.drq {G : List Qv} (md : Bool) (pv : List (Nat × SV)) (rk : List (Nat × List Nat)) {V : VR} {E : List Ef} {cB : List Prop} {f' : SF} {m' : SM} (hx : drx (c.T.wo c.P G pv rk []) md c.N d n os.length .u f os.toArray os 0 [] m [] = some (V, E, A, cA, cB, fps)) (hf' : JV V f 0 os.length = some f') (hm' : UH E m some = some m') (k : S c ks f' m' d (n + os.length) Γ)
    (hc : QP cA /\ QP cB := by repeat' (first | assumption | exact True.intro | exact fun h => h | refine And.intro ?_ ?_ | omega | exact rfl | (simp only [Int.reduceToNat, Int.reducePow]; omega) | intro _)) (hm : c.P.follows .mixedOrders = true := by kernel_rfl) (hb : Kk .any os.toArray = true := by kernel_rfl) (ho : FS A E fps = true := by rfl) (hn : UP A V E n E 0 = true := by rfl) (wff : wfF n f = true := by rfl) (wfm : Ku n m = true := by rfl) (wfd : Kf n d = true := by rfl) (hG : ∀ L' W, Hs Γ L' W -> Hs G L' W := by first | exact fun _ _ h => h | exact fun _ _ h => Hs.pre h) : S c (.c (.region id os.toArray true) :: ks) f m d n Γ :=
  S.drawn (α := Unit) (j := os.length) (sv := fun _ => .u) (fs := fun _ => []) (pr := fun _ => True) (V := fun _ => V) (E := fun _ => E) (A := A) (cA := cA) (cB := fun _ => cB) (fps := fps) (f' := fun _ => f') (m' := fun _ => m')
    ⟨hb, fun _ => hx, fun _ => ho, fun _ => hn, fun _ _ _ _ _ => ⟨rfl, rfl⟩, hc.1, fun _ _ => hc.2, fun _ => rfl, wff, wfm, wfd, fun o hoj => by simp at hoj, hG⟩
    hm (fun _ => hf') (fun _ => by rw [Z5] at hm'; exact Option.some.inj hm') (.inr fun _ => ⟨trivial, rfl⟩) fun _ _ => by rw [List.append_nil]; exact k
/-- The same, where xk says which calls are of functions without a body. -/
theorem S.dre {G : List Qv} (md : Bool) (pv : List (Nat × SV)) (rk : List (Nat × List Nat)) (xk : List Nat) {V : VR} {E : List Ef} {cB : List Prop} {f' : SF} {m' : SM} (hx : drx (c.T.wo c.P G pv rk xk) md c.N d n os.length .u f os.toArray os 0 [] m [] = some (V, E, A, cA, cB, fps)) (hf' : JV V f 0 os.length = some f') (hm' : UH E m some = some m') (k : S c ks f' m' d (n + os.length) Γ)
    (hc : QP cA /\ QP cB := by repeat' (first | assumption | exact True.intro | exact fun h => h | refine And.intro ?_ ?_ | omega | exact rfl | (simp only [Int.reduceToNat, Int.reducePow]; omega) | intro _)) (hm : c.P.follows .mixedOrders = true := by kernel_rfl) (hb : Kk .any os.toArray = true := by kernel_rfl) (ho : FS A E fps = true := by rfl) (hn : UP A V E n E 0 = true := by rfl) (wff : wfF n f = true := by rfl) (wfm : Ku n m = true := by rfl) (wfd : Kf n d = true := by rfl) (hG : ∀ L' W, Hs Γ L' W -> Hs G L' W := by first | exact fun _ _ h => h | exact fun _ _ h => Hs.pre h) : S c (.c (.region id os.toArray true) :: ks) f m d n Γ :=
  S.drawn (α := Unit) (j := os.length) (sv := fun _ => .u) (fs := fun _ => []) (pr := fun _ => True) (V := fun _ => V) (E := fun _ => E) (A := A) (cA := cA) (cB := fun _ => cB) (fps := fps) (f' := fun _ => f') (m' := fun _ => m')
    ⟨hb, fun _ => hx, fun _ => ho, fun _ => hn, fun _ _ _ _ _ => ⟨rfl, rfl⟩, hc.1, fun _ _ => hc.2, fun _ => rfl, wff, wfm, wfd, fun o hoj => by simp at hoj, hG⟩
    hm (fun _ => hf') (fun _ => by rw [Z5] at hm'; exact Option.some.inj hm') (.inr fun _ => ⟨trivial, rfl⟩) fun _ _ => by rw [List.append_nil]; exact k
end
mutual
theorem SV.wf_up {n n' : Nat} (h : n <= n') : ∀ x : SV, x.wf n = true -> x.wf n' = true
  | .v x, _ => by simp only [SV.wf]
  | .i K n, _ => by simp only [SV.wf]
  | .lit _ _, _ => by simp only [SV.wf]
  | .c p d, _ => by simp only [SV.wf]
  | .l b, _ => by simp only [SV.wf]
  | .s x, _ => by simp only [SV.wf]
  | .o _ _ _, _ => by simp only [SV.wf]
  | .p k o, hw => by have := QA (by simpa only [SV.wf] using hw : Nat.blt k n = true); simp only [SV.wf]; exact Nat.ble_eq_true_of_le (Nat.le_trans this h)
  | .x k o s z, hw => by have := QA (by simpa only [SV.wf] using hw : Nat.blt k n = true); simp only [SV.wf]; exact Nat.ble_eq_true_of_le (Nat.le_trans this h)
  | .q k o, hw => by have := QA (by simpa only [SV.wf] using hw : Nat.blt k n = true); simp only [SV.wf]; exact Nat.ble_eq_true_of_le (Nat.le_trans this h)
  | .y k _ _ _, hw => by have := QA (by simpa only [SV.wf] using hw : Nat.blt k n = true); simp only [SV.wf]; exact Nat.ble_eq_true_of_le (Nat.le_trans this h)
  | .z k _ _ _, hw => by have := QA (by simpa only [SV.wf] using hw : Nat.blt k n = true); simp only [SV.wf]; exact Nat.ble_eq_true_of_le (Nat.le_trans this h)
  | .r k _ _ _, hw => by have := QA (by simpa only [SV.wf] using hw : Nat.blt k n = true); simp only [SV.wf]; exact Nat.ble_eq_true_of_le (Nat.le_trans this h)
  | .t l, hw => by simp only [SV.wf]; exact Vg h l (by simpa only [SV.wf] using hw)
  | .g l, hw => by simp only [SV.wf]; exact Vg h l (by simpa only [SV.wf] using hw)
  | .f _ l, hw => by simp only [SV.wf]; exact Vg h l (by simpa only [SV.wf] using hw)
  | .a _ _ _, _ => by simp only [SV.wf]
  | .w p d x, hw => by simp only [SV.wf]; exact SV.wf_up h x (by simpa only [SV.wf] using hw)
  | .u, _ => by simp only [SV.wf]
theorem Vg {n n' : Nat} (h : n <= n') : ∀ l : List SV, ZL n l = true -> ZL n' l = true
  | [], _ => by simp only [ZL]
  | x :: l, hw => by
    unfold ZL at hw
    split at hw
    . rename_i hx
      unfold ZL
      rw [SV.wf_up h x hx]
      exact Vg h l hw
    . cases hw
end
section
variable {c : Cx} {os : List Oper} {f : SF} {m : SM} {d : SD} {n : Nat} {Γ : List Qv} {ks : List It} {id : Nat} {A : List (Nat × Nat)} {cA : List Prop} {fps : List (Nat × Nat)}
/-- An element of a slice that is read. -/
theorem WM.data {ρ : Qy} {L0 : List Nat} {w0 w : World} (h : WM ρ L0 w0 m d n Γ w) {B : Nat × Nat} {cs : List SV} (hm : Ku n m = true) (hd : Kf n d = true) (hcs : ZL n cs = true) (hok : X3 cs) (h0 : 0 < X2 cs) (hB : B.1 ∉ Xx ρ m L0) (hr : w.rangeAt B.1 B.2 (Qg ρ cs)) : WM (ρ.setd n B) L0 w0 m ((n, cs) :: d) (n + 1) Γ w := by
  have h1 := h.upto (Qy.setd_upto ρ n B) hm hd
  have hown : Xx (ρ.setd n B) m L0 = Xx ρ m L0 := rfl
  refine ⟨h1.mem, fun x hx => Nat.lt_succ_of_lt (h1.key x hx), h1.nod, h1.low, h1.bel, fun x hx => ?_, fun x hx => ?_, h1.ll, h1.hs⟩
  . cases hx with
    | head =>
      rw [hown]
      simp only [Qy.setd_at]
      rw [<- Q1 (Qy.setd_upto ρ n B) cs hcs]
      exact ⟨hB, hr, hok, h0⟩
    | tail _ hx => exact h1.dat x hx
  . cases hx with
    | head => exact Nat.lt_succ_self _
    | tail _ hx => exact Nat.lt_succ_of_lt (h1.dky x hx)
end
end Go.Proofs.YtbiboamaigedjaaDoor
namespace Go.Proofs.YtbiboamaigedjaaDoor
open Go.RowKit
set_option linter.unusedVariables false
set_option linter.constructorNameAsVariable false
set_option linter.unusedSimpArgs false
section
variable {c : Cx} {ks : List It} {f : SF} {m : SM} {d : SD} {n : Nat} {Γ : List Qv}
/-- A call of a function of values. -/
theorem S.cv {G : List Qv} {F : FuncId} {v : SV} {ops : Array Oper} {o : Oper} {r : List Oper} {t : Nat} {g : Operand} {xs : List Operand} {ts : Array TypeId} {caps vs : List SV}
    (ho : o.op = .call { callee := .value g, args := ⟨xs⟩, argTypes := ts }) (hg : Vt ops o f = some .on) (hF : Z6 f g = some (.f F caps)) (hx : GP f xs = some vs) (hd : o.dst = some t) (hlt : Nat.blt t c.N = true) (h : PV c.P G F (vs ++ caps) v) (k : S c (.o ops r :: ks) ((t, v) :: f) m d n Γ) (hG : ∀ L' W, Hs Γ L' W -> Hs G L' W := by first | exact fun _ _ h => h | exact fun _ _ h => Hs.pre h) : S c (.o ops (o :: r) :: ks) f m d n Γ := by
  obtain ⟨fn, hf, hn, hb⟩ := h.fn
  exact S.call (α := Unit) (sv := fun _ => v) (fs := fun _ => []) (pr := fun _ => True) ho hg hF hx hd hlt hf hn hb (fun ρ w hW => h.at ρ hW.lt (hG _ _ hW.hs)) (fun _ => h.wv) fun _ _ => by rw [List.append_nil]; exact k
/-- A load of a block that stays. -/
theorem S.gl {G : List Qv} {v : SV} {ops : Array Oper} {o : Oper} {r : List Oper} {ty g t : Nat} (ho : o.op = .load ty (.global g)) (hg : Vt ops o f = some .on) (hd : o.dst = some t) (hlt : Nat.blt t c.N = true) (h : GL c.P G ty g v) (k : S c (.o ops r :: ks) ((t, v) :: f) m d n Γ) (hG : ∀ L' W, Hs Γ L' W -> Hs G L' W := by first | exact fun _ _ h => h | exact fun _ _ h => Hs.pre h) : S c (.o ops (o :: r) :: ks) f m d n Γ := fun ρ a w ha hW => by
  have hdr := h.h w _ hW.lt (hG _ _ hW.hs) ops o c.N (Qr ρ f) ho ((ZP (ρ := ρ)).1 hg)
  refine (WL.get hdr hd (decide_eq_true (QA hlt)) (Q := Kn c ks) (rest := r) fun u W hu => ?_) a ha
  obtain ⟨rfl, hww⟩ := hu
  subst hww
  rw [X1 h.wv Qu ρ]
  exact fun a' ha' => k ρ a' W ha' hW
/-- A call of a function without a body, of values. -/
theorem S.ext {F : FuncId} {v : SV} {ops : Array Oper} {o : Oper} {r : List Oper} {t : Nat} {g : Operand} {xs : List Operand} {ts : Array TypeId} {vs : List SV}
    (ho : o.op = .call { callee := .value g, args := ⟨xs⟩, argTypes := ts }) (hg : Vt ops o f = some .on) (hF : Z6 f g = some (.f F [])) (hx : GP f xs = some vs) (hd : o.dst = some t) (hlt : Nat.blt t c.N = true) (hw : ZL 0 vs = true) (h : ∀ w, (callFunc F (Qt Qu vs).toArray).run c.P w = .ok (.value (v.den Qu)) w) (hv : v.wf 0 = true) (k : S c (.o ops r :: ks) ((t, v) :: f) m d n Γ) : S c (.o ops (o :: r) :: ks) f m d n Γ := fun ρ a w ha hW => by
  have hq := (ZP (ρ := ρ)).1 hg
  have h1 := Qp (ρ := ρ) hF
  simp only [SV.den, Qt] at h1
  have h2 := Zw (ρ := ρ) hx
  rw [VZ hw ρ Qu] at h2
  have hdr := K5 (P := c.P) (ops := ops) (o := o) (N := c.N) (xs := xs) (by rw [ho]) h1 h2 (h w) hq
  refine (WL.get hdr hd (decide_eq_true (QA hlt)) (Q := Kn c ks) (rest := r) fun u W hu => ?_) a ha
  obtain ⟨rfl, hww⟩ := hu
  subst hww
  rw [X1 hv Qu ρ]
  exact fun a' ha' => k ρ a' W ha' hW
end
/-- A result that is told by the values alone. -/
theorem S.retv {c : Cx} {ks : List It} {f : SF} {m : SM} {d : SD} {n : Nat} {Γ : List Qv} {rs : List ResultVar} {v x : SV} {L : List Nat} (hR : c.R = fun v W => ∃ _ : Unit, v = x.den Qu /\ Hs [] L W /\ True) (hr : c.fn.results = ⟨rs⟩) (hv : Et c.T f m rs = some [v]) (hw : v.wf 0 = true) (he : v.den Qu = x.den Qu) : S c (.c .ret :: ks) f m d n Γ :=
  S.ret hr hv fun ρ W h => by rw [hR]; exact ⟨(), by rw [<- he]; exact X1 hw ρ Qu, trivial, trivial⟩
theorem WM.g {ρ : Qy} {L0 : List Nat} {w0 w : World} {m : SM} {d : SD} {n : Nat} {Γ : List Qv} (h : WM ρ L0 w0 m d n Γ w) (i : Nat) {B : Nat} {cs : List Value} (hi : Γ[i]? = some (fG B cs) := by rfl) : B ∉ Xx ρ m L0 /\ w.rangeAt B 0 cs := ⟨(h.f i hi).1, (h.f i hi).2.2⟩
/-- A pointer to memory that stays: its cells are known from here on. -/
theorem S.data {c : Cx} {ks : List It} {f : SF} {m : SM} {d : SD} {n : Nat} {Γ : List Qv} (t : Nat) {B o : Nat} (cs : List SV) (hl : lk f t = some (.v (.pointer (some ⟨B, o, none⟩)))) (hB : ∀ ρ w, WM ρ c.L0 c.w0 m d n Γ w -> B ∉ Xx ρ m c.L0 /\ w.rangeAt B o (Qg Qu cs)) (k : S c ks ((t, .q n 0) :: f) m ((n, cs) :: d) (n + 1) Γ)
    (hcs : ZL 0 cs = true := by rfl) (hok : X3 cs := by exact Yp rfl) (h0 : 0 < X2 cs := by exact Nat.lt_of_lt_of_le Nat.zero_lt_one (Nat.le_add_right 1 _)) (wff : wfF n f = true := by rfl) (wfm : Ku n m = true := by rfl) (wfd : Kf n d = true := by rfl) : S c ks f m d n Γ := fun ρ a w ha hW => by
  obtain ⟨g1, g2⟩ := hB ρ w hW
  have e0 : Qg Qu cs = Qg ρ cs := Q1 (fun k hk => absurd hk (Nat.not_lt_zero k)) cs hcs
  rw [e0] at g2
  have hD := hW.data (B := (B, o)) wfm wfd (Vg (Nat.zero_le n) cs hcs) hok h0 g1 g2
  refine k (ρ.setd n (B, o)) a w ?_ hD
  have e1 : Qr (ρ.setd n (B, o)) f = Qr ρ f := (XY (Qy.setd_upto ρ n (B, o)) f wff).symm
  have e2 := XI (ρ := ρ) hl
  simp only [SV.den] at e2
  refine ⟨ha.1, fun t' v hv => ?_⟩
  simp only [Qr, SV.den, Qy.setd_at, Nat.add_zero] at hv
  rw [e1] at hv
  unfold ZN at hv
  cases hk : Nat.beq t t' with
  | false => rw [hk] at hv; exact ha.2 t' v hv
  | true =>
    rw [hk] at hv
    cases hv
    have e := Nat.eq_of_beq_eq_true hk
    subst e
    exact ha.2 t _ e2
/-- The same, told anew: less may be kept, and by equal values. -/
theorem S.same {c : Cx} {ks : List It} {f : SF} {m : SM} {d : SD} {n : Nat} {Γ : List Qv} (n' : Nat) (f' : SF) (m' : SM) (h0 : mF f f') (h1 : mM m m') (k : S c ks f' m' d n' Γ) (hn : n = n' := by rfl) (hk : JM m' = true := by rfl) (hmn : Ku n' m' = true := by rfl) (hdn : Kf n' d = true := by rfl) : S c ks f m d n Γ := fun ρ a w ha hW => k ρ a w (ha.sub (GH h0)) (by subst hn; exact hW.sub h1 hk hmn (fun x hx => hx) hdn hW.hs)
/-- Arguments and results, written otherwise. -/
theorem PV.arg {P : Program} {G : List Qv} {F : FuncId} {args args' : List SV} {v : SV} (h : PV P G F args v) (he : Qt Qu args = Qt Qu args') (wa : ZL 0 args' = true := by rfl) : PV P G F args' v := ⟨h.fn, wa, h.wv, fun w L hL hG => by rw [<- he]; exact h.h w L hL hG⟩
theorem PV.res {P : Program} {G : List Qv} {F : FuncId} {args : List SV} {v v' : SV} (h : PV P G F args v) (he : v.den Qu = v'.den Qu) (wv : v'.wf 0 = true := by rfl) : PV P G F args v' := ⟨h.fn, h.wa, wv, fun w L hL hG => CV.mono (h.h w L hL hG) fun u W _ ⟨x, e, g, p⟩ => ⟨x, e.trans he, g, p⟩⟩
/-- A loop, round by round: at most n more rounds behind the first. -/
theorem S.rounds {c : Cx} {ks : List It} {f : SF} {m : SM} {d : SD} {n : Nat} {Γ : List Qv} {b : Code} (k : Nat) (h : S c (.c b :: .r (Code.rounds c.P b (Kn c ks) k) :: ks) f m d n Γ) : S c (.c (.loop b) :: ks) f m d n Γ := fun ρ a w ha hW => wp_loop_rounds (k + 1) (h ρ a w ha hW)
theorem S.next {c : Cx} {ks : List It} {f : SF} {m : SM} {d : SD} {n : Nat} {Γ : List Qv} {b : Code} {k : Nat} (h : S c (.c b :: .r (Code.rounds c.P b (Kn c ks) k) :: ks) f m d n Γ) : S c (.r (Code.rounds c.P b (Kn c ks) (k + 1)) :: ks) f m d n Γ := fun ρ a w ha hW => h ρ a w ha hW
end Go.Proofs.YtbiboamaigedjaaDoor
namespace Go.Proofs.YtbiboamaigedjaaDoor
open Go.RowKit
set_option linter.unusedVariables false
set_option linter.unusedSimpArgs false
set_option maxRecDepth 8000
set_option maxHeartbeats 2000000

def GO (l : List Int) : List SV := l.map fun n => SV.i .u64 n
def rmL : List Int := [1718705420411056, 234908883556509, 2233514472574048, 2117202627021982, 765476049583133]
def dL : List Int := [929955233495203, 466365720129213, 1662059464998953, 2033849074728123, 1442794654840575]
def V6 : List Int := [1738742601995546, 1146398526822698, 2070867633025821, 562264141797630, 587772402128613, 1801439850948184, 1351079888211148, 450359962737049, 900719925474099, 1801439850948198]
/-- The program's tables. -/
def gT : List Qv := [fG 4 (Qg Qu (GO rmL)), fG 2 (Qg Qu (GO dL)), fG 0 (Qg Qu (GO V6))]
theorem gT0 (L : List Nat) (W : World) (h : Hs gT L W) : 4 ∉ L /\ W.rangeAt 4 0 (Qg Qu (GO rmL)) := ⟨h.1.1, h.1.2.2⟩
theorem gT1 (L : List Nat) (W : World) (h : Hs gT L W) : 2 ∉ L /\ W.rangeAt 2 0 (Qg Qu (GO dL)) := ⟨h.2.1.1, h.2.1.2.2⟩
theorem gT2 (L : List Nat) (W : World) (h : Hs gT L W) : 0 ∉ L /\ W.rangeAt 0 0 (Qg Qu (GO V6)) := ⟨h.2.2.1.1, h.2.2.1.2.2⟩
theorem Zz {x : Int} (h : 0 <= x /\ x < 18446744073709551616) : bits .and .u64 x 2251799813685247 = x % 2251799813685248 := XE x 51 2251799813685247 rfl (by decide) h.1 h.2
theorem Qh8 {x : Int} (h : 0 <= x /\ x < 18446744073709551616) : bits .and .u64 x 4294967295 = x % 4294967296 := XE x 32 4294967295 rfl (by decide) h.1 h.2
def lm (x : List Int) : SV := .g [.i .u64 (Qb x 0), .i .u64 (Qb x 1), .i .u64 (Qb x 2), .i .u64 (Qb x 3), .i .u64 (Qb x 4)]
def wvS (v : Int) : SV := .g [.i .u64 (v / 18446744073709551616), .i .u64 (v % 18446744073709551616)]
theorem Z7 (x : List Int) (hx : Qn x) : PV Tryd.prog gT 93 [lm x] (lm (Qm x)) := by
  refine PV.mk' Tryd.func93 rfl rfl rfl rfl fun w L hL hG => ?_
  have hx : ∀ k, 0 <= Qb x k /\ Qb x k < 18446744073709551616 := hx.at
  have := hx 0; have := hx 1; have := hx 2; have := hx 3; have := hx 4
  refine S.enter Qh [lm x] gT Tryd.func93 rfl rfl rfl (fun _ => rfl) hL hG ?_
  refine S.g false rfl ?_
  refine S.dr0 false rfl rfl rfl ?_
  refine S.go false rfl (by repeat' (first | exact True.intro | exact fun h => h | refine And.intro ?_ ?_ | omega | exact rfl | (simp only [Int.reduceToNat, Int.reducePow, Zz (hx _)]; omega) | intro _)) ?_
  refine S.retv rfl rfl rfl rfl ?_
  simp only [Zz (hx _)]
  rfl
theorem mkN (a : Nat) (ha : a < 18446744073709551616) : bits .and .u64 (a : Int) 4294967295 = ((a % 4294967296 : Nat) : Int) := by rw [Qh8 (by omega)]; omega
theorem dvN (a : Nat) : (a : Int) / 2 ^ Int.toNat 32 = ((a / 4294967296 : Nat) : Int) := by show (a : Int) / 4294967296 = _; omega
theorem mlN (a b : Nat) : (a : Int) * (b : Int) = ((a * b : Nat) : Int) := (Int.natCast_mul a b).symm
theorem adN (a b : Nat) : (a : Int) + (b : Int) = ((a + b : Nat) : Int) := (Int.natCast_add a b).symm
theorem wpN (a : Nat) (ha : a < 18446744073709551616) : IntKind.u64.wrap (a : Int) = (a : Int) := by rw [IntKind.wrap_u64]; omega
theorem wpM (a : Nat) : IntKind.u64.wrap (a : Int) = ((a % 18446744073709551616 : Nat) : Int) := by rw [IntKind.wrap_u64]; omega
theorem U4 (x y : Int) (hx : 0 <= x /\ x < 18446744073709551616) (hy : 0 <= y /\ y < 18446744073709551616) : PV Tryd.prog gT 78 [.i .u64 x, .i .u64 y] (.t [.i .u64 (x * y / 18446744073709551616), .i .u64 (x * y % 18446744073709551616)]) := by
  refine PV.mk' Tryd.func78 rfl rfl rfl rfl fun w L hL hG => ?_
  refine S.enter Qh [.i .u64 x, .i .u64 y] gT Tryd.func78 rfl rfl rfl (fun _ => rfl) hL hG ?_
  refine S.go true rfl (by repeat' (first | exact True.intro | exact fun h => h | refine And.intro ?_ ?_ | omega | exact rfl | (simp only [Int.reduceToNat, Int.reducePow]; omega) | intro _)) ?_
  refine S.ret rfl rfl fun ρ W h => ⟨(), ?_, trivial, trivial⟩
  clear h
  obtain ⟨x, rfl⟩ := Int.eq_ofNat_of_zero_le hx.1
  obtain ⟨y, rfl⟩ := Int.eq_ofNat_of_zero_le hy.1
  have hx : x < 18446744073709551616 := by omega
  have hy : y < 18446744073709551616 := by omega
  simp only [val, SV.den, Qt]
  obtain ⟨bd, bt, bw, hhi⟩ := Lib.mul64_hi x y hx hy
  have ba := Lib.half_mul_le (a := x / 4294967296) (b := y / 4294967296) (by omega) (by omega)
  have bb := Lib.half_mul_le (a := x / 4294967296) (b := y % 4294967296) (by omega) (by omega)
  have bc := Lib.half_mul_le (a := x % 4294967296) (b := y / 4294967296) (by omega) (by omega)
  have ba' : x / 4294967296 * (y / 4294967296) < 18446744073709551616 := by omega
  have bb' : x / 4294967296 * (y % 4294967296) < 18446744073709551616 := by omega
  have bc' : x % 4294967296 * (y / 4294967296) < 18446744073709551616 := by omega
  have bh1 : x / 4294967296 * (y / 4294967296) + (x / 4294967296 * (y % 4294967296) + x % 4294967296 * (y % 4294967296) / 4294967296) / 4294967296 < 18446744073709551616 := by omega
  have bh : x / 4294967296 * (y / 4294967296) + (x / 4294967296 * (y % 4294967296) + x % 4294967296 * (y % 4294967296) / 4294967296) / 4294967296 + ((x / 4294967296 * (y % 4294967296) + x % 4294967296 * (y % 4294967296) / 4294967296) % 4294967296 + x % 4294967296 * (y / 4294967296)) / 4294967296 < 18446744073709551616 := by omega
  simp only [mkN x hx, mkN y hy, dvN, mlN, adN, wpN _ bd, wpN _ bb', wpN _ bt, mkN _ bt, wpN _ bc', wpN _ bw, wpN _ ba', wpN _ bh1, wpN _ bh, wpM (x * y)]
  rw [hhi]
  rfl
theorem Ze (x y c : Int) (hx : 0 <= x) (hy : 0 <= y) (hc0 : 0 <= c) (hc : c <= 1) (w : World) : (callFunc 79 (Qt Qu [.i .u64 x, .i .u64 y, .i .u64 c]).toArray).run Tryd.prog w = .ok (.value ((SV.t [.i .u64 ((x + y + c) % 18446744073709551616), .i .u64 ((x + y + c) / 18446744073709551616)]).den Qu)) w := by
  show (callFunc 79 #[.int .u64 x, .int .u64 y, .int .u64 c]).run Tryd.prog w = _
  rw [run_callFunc_extern Tryd.func79 (by kernel_rfl) (by kernel_rfl) (by kernel_rfl) (e := add64Entry) (by kernel_rfl), run_add64 x y c hx hy hc0 hc]
  rfl
theorem QO (v a b : Int) (hv : 0 <= v) (ha : 0 <= a /\ a < 18446744073709551616) (hb : 0 <= b /\ b < 18446744073709551616) (h : v + a * b < 340282366920938463463374607431768211456) : PV Tryd.prog gT 91 [wvS v, .i .u64 a, .i .u64 b] (wvS (v + a * b)) := by
  refine PV.mk' Tryd.func91 rfl rfl rfl rfl fun w L hL hG => ?_
  have hm : 0 <= a * b := Int.mul_nonneg ha.1 hb.1
  refine S.enter Qh [wvS v, .i .u64 a, .i .u64 b] gT Tryd.func91 rfl rfl rfl (fun _ => rfl) hL hG ?_
  refine S.g false rfl ?_
  refine S.cv rfl rfl rfl rfl rfl rfl (U4 a b ha hb) ?_
  refine S.g false rfl ?_
  refine S.ext rfl rfl rfl rfl rfl rfl rfl (Ze _ _ _ (by omega) (by omega) (by omega) (by omega)) rfl ?_
  refine S.g false rfl ?_
  refine S.ext rfl rfl rfl rfl rfl rfl rfl (Ze _ _ _ (by omega) (by omega) (by omega) (by omega)) rfl ?_
  refine S.g false rfl ?_
  refine S.retv rfl rfl rfl rfl ?_
  show (SV.g [_, _]).den Qu = _
  generalize a * b = m at *
  unfold wvS
  have e1 : (v / 18446744073709551616 + m / 18446744073709551616 + (v % 18446744073709551616 + m % 18446744073709551616 + 0) / 18446744073709551616) % 18446744073709551616 = (v + m) / 18446744073709551616 := by omega
  have e2 : (v % 18446744073709551616 + m % 18446744073709551616 + 0) % 18446744073709551616 = (v + m) % 18446744073709551616 := by omega
  rw [e1, e2]
theorem ZW (v : Int) (hv : 0 <= v /\ v < 41538374868278621028243970633760768) : PV Tryd.prog gT 92 [wvS v] (.i .u64 (v / 2251799813685248)) := by
  refine PV.mk' Tryd.func92 rfl rfl rfl rfl fun w L hL hG => ?_
  refine S.enter Qh [wvS v] gT Tryd.func92 rfl rfl rfl (fun _ => rfl) hL hG ?_
  refine S.go false rfl (by repeat' (first | exact True.intro | exact fun h => h | refine And.intro ?_ ?_ | omega | exact rfl | (simp only [Int.reduceToNat, Int.reducePow]; omega) | intro _)) ?_
  refine S.retv rfl rfl rfl rfl ?_
  have e1 : IntKind.u64.wrap (v / 18446744073709551616 * 2 ^ Int.toNat 13) = v / 18446744073709551616 * 8192 := by
    rw [IntKind.wrap_u64]; simp only [Int.reduceToNat, Int.reducePow]; omega
  have e2 : v % 18446744073709551616 / 2 ^ Int.toNat 51 = v % 18446744073709551616 / 2251799813685248 := rfl
  rw [e1, e2, Yb _ _ 13 (by omega) (by omega) (by omega) (by omega) (by omega) (by omega)]
  simp only [SV.den]
  congr 1
  omega
theorem XF (x y : List Int) (hx : QX x) (hy : QX y) : PV Tryd.prog gT 64 [lm x, lm y] (lm (Qm (QU x y))) := by
  refine PV.mk' Tryd.func64 rfl rfl rfl rfl fun w L hL hG => ?_
  have := hx 0; have := hx 1; have := hx 2; have := hx 3; have := hx 4
  have := hy 0; have := hy 1; have := hy 2; have := hy 3; have := hy 4
  have p : ∀ i j, 0 <= Qb x i * Qb y j /\ Qb x i * Qb y j <= 5070602403274100847696513335296 := Uj hx hy
  have z : ∀ i j, 0 <= Qb x i * 19 * Qb y j /\ Qb x i * 19 * Qb y j <= 19 * 5070602403274100847696513335296 := fun i j => by have := p i j; rw [Int.mul_right_comm]; omega
  refine S.enter Qh [lm x, lm y] gT Tryd.func64 rfl rfl rfl (fun _ => rfl) hL hG ?_
  refine S.g false rfl ?_
  refine S.dr0 false rfl rfl rfl ?_
  refine S.g false rfl ?_
  refine S.dr0 false rfl rfl rfl ?_
  refine S.g false rfl ?_
  have := p 0 0
  have := z 1 4
  have := z 2 3
  have := z 3 2
  have := z 4 1
  refine S.cv rfl rfl rfl rfl rfl rfl (QO 0 _ _ (by omega) (by omega) (by omega) (by omega)) ?_
  refine S.g false rfl ?_
  refine S.cv rfl rfl rfl rfl rfl rfl (QO _ _ _ (by omega) (by omega) (by omega) (by omega)) ?_
  refine S.g false rfl ?_
  refine S.cv rfl rfl rfl rfl rfl rfl (QO _ _ _ (by omega) (by omega) (by omega) (by omega)) ?_
  refine S.g false rfl ?_
  refine S.cv rfl rfl rfl rfl rfl rfl (QO _ _ _ (by omega) (by omega) (by omega) (by omega)) ?_
  refine S.g false rfl ?_
  refine S.cv rfl rfl rfl rfl rfl rfl (QO _ _ _ (by omega) (by omega) (by omega) (by omega)) ?_
  refine S.g false rfl ?_
  have := p 0 1
  have := p 1 0
  have := z 2 4
  have := z 3 3
  have := z 4 2
  refine S.cv rfl rfl rfl rfl rfl rfl (QO 0 _ _ (by omega) (by omega) (by omega) (by omega)) ?_
  refine S.g false rfl ?_
  refine S.cv rfl rfl rfl rfl rfl rfl (QO _ _ _ (by omega) (by omega) (by omega) (by omega)) ?_
  refine S.g false rfl ?_
  refine S.cv rfl rfl rfl rfl rfl rfl (QO _ _ _ (by omega) (by omega) (by omega) (by omega)) ?_
  refine S.g false rfl ?_
  refine S.cv rfl rfl rfl rfl rfl rfl (QO _ _ _ (by omega) (by omega) (by omega) (by omega)) ?_
  refine S.g false rfl ?_
  refine S.cv rfl rfl rfl rfl rfl rfl (QO _ _ _ (by omega) (by omega) (by omega) (by omega)) ?_
  refine S.g false rfl ?_
  have := p 0 2
  have := p 1 1
  have := p 2 0
  have := z 3 4
  have := z 4 3
  refine S.cv rfl rfl rfl rfl rfl rfl (QO 0 _ _ (by omega) (by omega) (by omega) (by omega)) ?_
  refine S.g false rfl ?_
  refine S.cv rfl rfl rfl rfl rfl rfl (QO _ _ _ (by omega) (by omega) (by omega) (by omega)) ?_
  refine S.g false rfl ?_
  refine S.cv rfl rfl rfl rfl rfl rfl (QO _ _ _ (by omega) (by omega) (by omega) (by omega)) ?_
  refine S.g false rfl ?_
  refine S.cv rfl rfl rfl rfl rfl rfl (QO _ _ _ (by omega) (by omega) (by omega) (by omega)) ?_
  refine S.g false rfl ?_
  refine S.cv rfl rfl rfl rfl rfl rfl (QO _ _ _ (by omega) (by omega) (by omega) (by omega)) ?_
  refine S.g false rfl ?_
  have := p 0 3
  have := p 1 2
  have := p 2 1
  have := p 3 0
  have := z 4 4
  refine S.cv rfl rfl rfl rfl rfl rfl (QO 0 _ _ (by omega) (by omega) (by omega) (by omega)) ?_
  refine S.g false rfl ?_
  refine S.cv rfl rfl rfl rfl rfl rfl (QO _ _ _ (by omega) (by omega) (by omega) (by omega)) ?_
  refine S.g false rfl ?_
  refine S.cv rfl rfl rfl rfl rfl rfl (QO _ _ _ (by omega) (by omega) (by omega) (by omega)) ?_
  refine S.g false rfl ?_
  refine S.cv rfl rfl rfl rfl rfl rfl (QO _ _ _ (by omega) (by omega) (by omega) (by omega)) ?_
  refine S.g false rfl ?_
  refine S.cv rfl rfl rfl rfl rfl rfl (QO _ _ _ (by omega) (by omega) (by omega) (by omega)) ?_
  refine S.g false rfl ?_
  have := p 0 4
  have := p 1 3
  have := p 2 2
  have := p 3 1
  have := p 4 0
  refine S.cv rfl rfl rfl rfl rfl rfl (QO 0 _ _ (by omega) (by omega) (by omega) (by omega)) ?_
  refine S.g false rfl ?_
  refine S.cv rfl rfl rfl rfl rfl rfl (QO _ _ _ (by omega) (by omega) (by omega) (by omega)) ?_
  refine S.g false rfl ?_
  refine S.cv rfl rfl rfl rfl rfl rfl (QO _ _ _ (by omega) (by omega) (by omega) (by omega)) ?_
  refine S.g false rfl ?_
  refine S.cv rfl rfl rfl rfl rfl rfl (QO _ _ _ (by omega) (by omega) (by omega) (by omega)) ?_
  refine S.g false rfl ?_
  refine S.cv rfl rfl rfl rfl rfl rfl (QO _ _ _ (by omega) (by omega) (by omega) (by omega)) ?_
  refine S.g false rfl ?_
  have s0 := QT hx hy 0; have s1 := QT hx hy 1; have s2 := QT hx hy 2; have s3 := QT hx hy 3; have s4 := VE hx hy; have s5 := QT hx hy 4
  have hw := Vy hx hy
  have e0 : 0 + Qb x 0 * Qb y 0 + Qb x 1 * 19 * Qb y 4 + Qb x 2 * 19 * Qb y 3 + Qb x 3 * 19 * Qb y 2 + Qb x 4 * 19 * Qb y 1 = QB x y 0 := by simp only [QB, Int.zero_add]
  have e1 : 0 + Qb x 0 * Qb y 1 + Qb x 1 * Qb y 0 + Qb x 2 * 19 * Qb y 4 + Qb x 3 * 19 * Qb y 3 + Qb x 4 * 19 * Qb y 2 = QB x y 1 := by simp only [QB, Int.zero_add]
  have e2 : 0 + Qb x 0 * Qb y 2 + Qb x 1 * Qb y 1 + Qb x 2 * Qb y 0 + Qb x 3 * 19 * Qb y 4 + Qb x 4 * 19 * Qb y 3 = QB x y 2 := by simp only [QB, Int.zero_add]
  have e3 : 0 + Qb x 0 * Qb y 3 + Qb x 1 * Qb y 2 + Qb x 2 * Qb y 1 + Qb x 3 * Qb y 0 + Qb x 4 * 19 * Qb y 4 = QB x y 3 := by simp only [QB, Int.zero_add]
  have e4 : 0 + Qb x 0 * Qb y 4 + Qb x 1 * Qb y 3 + Qb x 2 * Qb y 2 + Qb x 3 * Qb y 1 + Qb x 4 * Qb y 0 = QB x y 4 := by simp only [QB, Int.zero_add]
  rw [e0, e1, e2, e3, e4]
  obtain ⟨Z, hZ, hC⟩ : ∃ Z, Qm (QU x y) = Z /\ PV Tryd.prog gT 93 [lm (QU x y)] (lm Z) := ⟨_, rfl, Z7 _ hw⟩
  rw [hZ]
  clear hZ
  unfold QU at hC
  clear e0 e1 e2 e3 e4 p z hx hy hw
  generalize QB x y 0 = r0 at *
  generalize QB x y 1 = r1 at *
  generalize QB x y 2 = r2 at *
  generalize QB x y 3 = r3 at *
  generalize QB x y 4 = r4 at *
  have c0 := ZW r0 (by omega)
  have c1 := ZW r1 (by omega)
  have c2 := ZW r2 (by omega)
  have c3 := ZW r3 (by omega)
  have c4 := ZW r4 (by omega)
  have k : ∀ r : Int, bits .and .u64 (r % 18446744073709551616) 2251799813685247 = r % 2251799813685248 := fun r => by rw [Zz (by omega)]; omega
  rw [<- k r0, <- k r1, <- k r2, <- k r3, <- k r4] at hC
  have k' : ∀ r : Int, 0 <= bits .and .u64 (r % 18446744073709551616) 2251799813685247 /\ bits .and .u64 (r % 18446744073709551616) 2251799813685247 < 2251799813685248 := fun r => by rw [k]; omega
  have := k' r0; have := k' r1; have := k' r2; have := k' r3; have := k' r4
  refine S.drp false [(4, .i .u64 (r4 / 2251799813685248)), (11, .i .u64 (r0 / 2251799813685248)), (17, .i .u64 (r1 / 2251799813685248)), (23, .i .u64 (r2 / 2251799813685248)), (29, .i .u64 (r3 / 2251799813685248)), (32, lm Z)] rfl rfl rfl ?_ ?_
  . refine S.g false rfl ?_
    exact S.retv rfl rfl rfl rfl rfl
  . repeat' (first | exact True.intro | refine And.intro ?_ ?_ | omega | assumption)
theorem Qck (x y : List Int) (hx : QX x) (hy : QX y) : PV Tryd.prog gT 88 [lm x, lm y] (lm (Qm (KN x y))) := by
  refine PV.mk' Tryd.func88 rfl rfl rfl rfl fun w L hL hG => ?_
  have := hx 0; have := hx 1; have := hx 2; have := hx 3; have := hx 4
  have := hy 0; have := hy 1; have := hy 2; have := hy 3; have := hy 4
  refine S.enter Qh [lm x, lm y] gT Tryd.func88 rfl rfl rfl (fun _ => rfl) hL hG ?_
  refine S.g false rfl ?_
  refine S.rounds 5 ?_
  refine S.g false rfl ?_
  refine S.condT rfl (by decide) ?_
  refine S.g false rfl ?_
  refine S.dr0 false rfl rfl rfl ?_
  refine S.g false rfl ?_
  repeat (refine S.next ?_; refine S.g false rfl ?_; refine S.condT rfl (by decide) ?_; refine S.g false rfl ?_; refine S.dr0 false rfl rfl rfl ?_; refine S.g false rfl ?_)
  refine S.next ?_
  refine S.g false rfl ?_
  refine S.condF rfl (by decide) ?_
  refine S.g false rfl ?_
  refine S.cv rfl rfl rfl rfl rfl rfl (Z7 (KN x y) (UB hx hy)) ?_
  refine S.g false rfl ?_
  exact S.retv rfl rfl rfl rfl rfl
theorem GG (x y : List Int) (hx : QX x) (hy : QX y) : PV Tryd.prog gT 87 [lm x, lm y] (lm (Qm (XU x y))) := by
  refine PV.mk' Tryd.func87 rfl rfl rfl rfl fun w L hL hG => ?_
  have := hx 0; have := hx 1; have := hx 2; have := hx 3; have := hx 4
  have := hy 0; have := hy 1; have := hy 2; have := hy 3; have := hy 4
  refine S.enter Qh [lm x, lm y] gT Tryd.func87 rfl rfl rfl (fun _ => rfl) hL hG ?_
  refine S.g false rfl ?_
  refine S.rounds 4 ?_
  refine S.g false rfl ?_
  refine S.condT rfl (by decide) ?_
  refine S.g false rfl ?_
  refine S.dr0 false rfl rfl rfl ?_
  refine S.g false rfl ?_
  repeat (refine S.next ?_; refine S.g false rfl ?_; refine S.condT rfl (by decide) ?_; refine S.g false rfl ?_; refine S.dr0 false rfl rfl rfl ?_; refine S.g false rfl ?_)
  refine S.next ?_
  refine S.g false rfl ?_
  refine S.condF rfl (by decide) ?_
  refine S.g false rfl ?_
  refine S.cv rfl rfl rfl rfl rfl rfl (Z7 (XU x y) (VN hx hy)) ?_
  refine S.g false rfl ?_
  exact S.retv rfl rfl rfl rfl rfl
theorem UX (n : Int) (hn : 0 <= n /\ n < 4294967296) : PV Tryd.prog gT 63 [.i .u32 n] (lm [n, 0, 0, 0, 0]) := by
  refine PV.mk' Tryd.func63 rfl rfl rfl rfl fun w L hL hG => ?_
  refine S.enter Qh [.i .u32 n] gT Tryd.func63 rfl rfl rfl (fun _ => rfl) hL hG ?_
  refine S.g false rfl ?_
  exact S.retv rfl rfl rfl rfl rfl
theorem Ym (x : List Int) (hx : QX x) : PV Tryd.prog gT 62 [lm x] (lm (Qm (XU [] x))) := by
  refine PV.mk' Tryd.func62 rfl rfl rfl rfl fun w L hL hG => ?_
  refine S.enter Qh [lm x] gT Tryd.func62 rfl rfl rfl (fun _ => rfl) hL hG ?_
  refine S.g false rfl ?_
  refine S.cv rfl rfl rfl rfl rfl rfl (GG [] x (fun k => by simp [Qb]) hx) ?_
  refine S.g false rfl ?_
  exact S.retv rfl rfl rfl rfl rfl
/-- Thirty-two bytes. -/
def Hj (z : List Int) : List SV := [.i .u8 (Qb z 0), .i .u8 (Qb z 1), .i .u8 (Qb z 2), .i .u8 (Qb z 3), .i .u8 (Qb z 4), .i .u8 (Qb z 5), .i .u8 (Qb z 6), .i .u8 (Qb z 7), .i .u8 (Qb z 8), .i .u8 (Qb z 9), .i .u8 (Qb z 10), .i .u8 (Qb z 11), .i .u8 (Qb z 12), .i .u8 (Qb z 13), .i .u8 (Qb z 14), .i .u8 (Qb z 15), .i .u8 (Qb z 16), .i .u8 (Qb z 17), .i .u8 (Qb z 18), .i .u8 (Qb z 19), .i .u8 (Qb z 20), .i .u8 (Qb z 21), .i .u8 (Qb z 22), .i .u8 (Qb z 23), .i .u8 (Qb z 24), .i .u8 (Qb z 25), .i .u8 (Qb z 26), .i .u8 (Qb z 27), .i .u8 (Qb z 28), .i .u8 (Qb z 29), .i .u8 (Qb z 30), .i .u8 (Qb z 31)]
def orW (z : List Int) (j : Nat) : Nat -> Int
  | 0 => 0
  | m + 1 => bits .or .u64 (orW z j m) (IntKind.u64.wrap (Qb z (8 * j + m) * 2 ^ (8 * m)))
theorem Jy {z : List Int} (hz : Qd z) (j : Nat) : ∀ m, m <= 8 -> orW z j m = Qz z j m
  | 0, _ => rfl
  | m + 1, h => by
    have := Jy hz j m (by omega)
    unfold orW Qz
    rw [this]
    exact DJ _ _ m (by omega) (VG z hz j m (by omega)) (hz.at _)
set_option maxHeartbeats 1000000 in
theorem QdY {z : List Int} (hz : Qd z) {B : Nat} {w : World} (hr : w.rangeAt B 0 (Qg Qu (Hj z))) (L : List Nat) : CX Tryd.prog 102 [.pointer (some ⟨B, 0, none⟩), .int .i64 0] w L (fun _ : Unit => .i .u64 (Qz z 0 8)) (fun _ => []) (fun _ => True) := by
  have hb := fun k => hz.at k
  have h : CX Tryd.prog 102 [.pointer (some ⟨B, 0, none⟩), .int .i64 0] w [] (fun _ : Unit => .i .u64 (Qz z 0 8)) (fun _ => []) (fun _ => True) := by
    refine S.enter Qh [.v (.pointer (some ⟨B, 0, none⟩)), .i .i64 0] [fG B (Qg Qu (Hj z))] Tryd.func102 rfl rfl rfl (fun _ => rfl) (LL.nil w) ⟨⟨by simp, Zo hr (Nat.zero_lt_succ _), hr⟩, trivial⟩ ?_
    refine S.data 0 (Hj z) rfl (fun ρ w h => h.g 0) ?_
    refine S.g false rfl ?_
    refine S.rounds 8 ?_
    refine S.g false rfl ?_
    refine S.condT rfl (by decide) ?_
    have := hb 0
    refine S.g false rfl ?_
    refine S.next ?_
    refine S.g false rfl ?_
    refine S.condT rfl (by decide) ?_
    have := hb 1
    refine S.g false rfl ?_
    refine S.next ?_
    refine S.g false rfl ?_
    refine S.condT rfl (by decide) ?_
    have := hb 2
    refine S.g false rfl ?_
    refine S.next ?_
    refine S.g false rfl ?_
    refine S.condT rfl (by decide) ?_
    have := hb 3
    refine S.g false rfl ?_
    refine S.next ?_
    refine S.g false rfl ?_
    refine S.condT rfl (by decide) ?_
    have := hb 4
    refine S.g false rfl ?_
    refine S.next ?_
    refine S.g false rfl ?_
    refine S.condT rfl (by decide) ?_
    have := hb 5
    refine S.g false rfl ?_
    refine S.next ?_
    refine S.g false rfl ?_
    refine S.condT rfl (by decide) ?_
    have := hb 6
    refine S.g false rfl ?_
    refine S.next ?_
    refine S.g false rfl ?_
    refine S.condT rfl (by decide) ?_
    have := hb 7
    refine S.g false rfl ?_
    refine S.next ?_
    refine S.g false rfl ?_
    refine S.condF rfl (by decide) ?_
    refine S.g false rfl ?_
    refine S.retv rfl rfl rfl rfl ?_
    show (SV.i .u64 (orW z 0 8)).den Qu = _
    rw [Jy hz 0 8 (by omega)]
  exact CV.mono h fun v w' _ ⟨x, e, _, p⟩ => ⟨x, e, trivial, p⟩
set_option maxHeartbeats 1000000 in
theorem QdX {z : List Int} (hz : Qd z) {B : Nat} {w : World} (hr : w.rangeAt B 0 (Qg Qu (Hj z))) (L : List Nat) : CX Tryd.prog 102 [.pointer (some ⟨B, 0, none⟩), .int .i64 8] w L (fun _ : Unit => .i .u64 (Qz z 1 8)) (fun _ => []) (fun _ => True) := by
  have hb := fun k => hz.at k
  have h : CX Tryd.prog 102 [.pointer (some ⟨B, 0, none⟩), .int .i64 8] w [] (fun _ : Unit => .i .u64 (Qz z 1 8)) (fun _ => []) (fun _ => True) := by
    refine S.enter Qh [.v (.pointer (some ⟨B, 0, none⟩)), .i .i64 8] [fG B (Qg Qu (Hj z))] Tryd.func102 rfl rfl rfl (fun _ => rfl) (LL.nil w) ⟨⟨by simp, Zo hr (Nat.zero_lt_succ _), hr⟩, trivial⟩ ?_
    refine S.data 0 (Hj z) rfl (fun ρ w h => h.g 0) ?_
    refine S.g false rfl ?_
    refine S.rounds 8 ?_
    refine S.g false rfl ?_
    refine S.condT rfl (by decide) ?_
    have := hb 8
    refine S.g false rfl ?_
    refine S.next ?_
    refine S.g false rfl ?_
    refine S.condT rfl (by decide) ?_
    have := hb 9
    refine S.g false rfl ?_
    refine S.next ?_
    refine S.g false rfl ?_
    refine S.condT rfl (by decide) ?_
    have := hb 10
    refine S.g false rfl ?_
    refine S.next ?_
    refine S.g false rfl ?_
    refine S.condT rfl (by decide) ?_
    have := hb 11
    refine S.g false rfl ?_
    refine S.next ?_
    refine S.g false rfl ?_
    refine S.condT rfl (by decide) ?_
    have := hb 12
    refine S.g false rfl ?_
    refine S.next ?_
    refine S.g false rfl ?_
    refine S.condT rfl (by decide) ?_
    have := hb 13
    refine S.g false rfl ?_
    refine S.next ?_
    refine S.g false rfl ?_
    refine S.condT rfl (by decide) ?_
    have := hb 14
    refine S.g false rfl ?_
    refine S.next ?_
    refine S.g false rfl ?_
    refine S.condT rfl (by decide) ?_
    have := hb 15
    refine S.g false rfl ?_
    refine S.next ?_
    refine S.g false rfl ?_
    refine S.condF rfl (by decide) ?_
    refine S.g false rfl ?_
    refine S.retv rfl rfl rfl rfl ?_
    show (SV.i .u64 (orW z 1 8)).den Qu = _
    rw [Jy hz 1 8 (by omega)]
  exact CV.mono h fun v w' _ ⟨x, e, _, p⟩ => ⟨x, e, trivial, p⟩
set_option maxHeartbeats 1000000 in
theorem QdW {z : List Int} (hz : Qd z) {B : Nat} {w : World} (hr : w.rangeAt B 0 (Qg Qu (Hj z))) (L : List Nat) : CX Tryd.prog 102 [.pointer (some ⟨B, 0, none⟩), .int .i64 16] w L (fun _ : Unit => .i .u64 (Qz z 2 8)) (fun _ => []) (fun _ => True) := by
  have hb := fun k => hz.at k
  have h : CX Tryd.prog 102 [.pointer (some ⟨B, 0, none⟩), .int .i64 16] w [] (fun _ : Unit => .i .u64 (Qz z 2 8)) (fun _ => []) (fun _ => True) := by
    refine S.enter Qh [.v (.pointer (some ⟨B, 0, none⟩)), .i .i64 16] [fG B (Qg Qu (Hj z))] Tryd.func102 rfl rfl rfl (fun _ => rfl) (LL.nil w) ⟨⟨by simp, Zo hr (Nat.zero_lt_succ _), hr⟩, trivial⟩ ?_
    refine S.data 0 (Hj z) rfl (fun ρ w h => h.g 0) ?_
    refine S.g false rfl ?_
    refine S.rounds 8 ?_
    refine S.g false rfl ?_
    refine S.condT rfl (by decide) ?_
    have := hb 16
    refine S.g false rfl ?_
    refine S.next ?_
    refine S.g false rfl ?_
    refine S.condT rfl (by decide) ?_
    have := hb 17
    refine S.g false rfl ?_
    refine S.next ?_
    refine S.g false rfl ?_
    refine S.condT rfl (by decide) ?_
    have := hb 18
    refine S.g false rfl ?_
    refine S.next ?_
    refine S.g false rfl ?_
    refine S.condT rfl (by decide) ?_
    have := hb 19
    refine S.g false rfl ?_
    refine S.next ?_
    refine S.g false rfl ?_
    refine S.condT rfl (by decide) ?_
    have := hb 20
    refine S.g false rfl ?_
    refine S.next ?_
    refine S.g false rfl ?_
    refine S.condT rfl (by decide) ?_
    have := hb 21
    refine S.g false rfl ?_
    refine S.next ?_
    refine S.g false rfl ?_
    refine S.condT rfl (by decide) ?_
    have := hb 22
    refine S.g false rfl ?_
    refine S.next ?_
    refine S.g false rfl ?_
    refine S.condT rfl (by decide) ?_
    have := hb 23
    refine S.g false rfl ?_
    refine S.next ?_
    refine S.g false rfl ?_
    refine S.condF rfl (by decide) ?_
    refine S.g false rfl ?_
    refine S.retv rfl rfl rfl rfl ?_
    show (SV.i .u64 (orW z 2 8)).den Qu = _
    rw [Jy hz 2 8 (by omega)]
  exact CV.mono h fun v w' _ ⟨x, e, _, p⟩ => ⟨x, e, trivial, p⟩
set_option maxHeartbeats 1000000 in
theorem QdV {z : List Int} (hz : Qd z) {B : Nat} {w : World} (hr : w.rangeAt B 0 (Qg Qu (Hj z))) (L : List Nat) : CX Tryd.prog 102 [.pointer (some ⟨B, 0, none⟩), .int .i64 24] w L (fun _ : Unit => .i .u64 (Qz z 3 8)) (fun _ => []) (fun _ => True) := by
  have hb := fun k => hz.at k
  have h : CX Tryd.prog 102 [.pointer (some ⟨B, 0, none⟩), .int .i64 24] w [] (fun _ : Unit => .i .u64 (Qz z 3 8)) (fun _ => []) (fun _ => True) := by
    refine S.enter Qh [.v (.pointer (some ⟨B, 0, none⟩)), .i .i64 24] [fG B (Qg Qu (Hj z))] Tryd.func102 rfl rfl rfl (fun _ => rfl) (LL.nil w) ⟨⟨by simp, Zo hr (Nat.zero_lt_succ _), hr⟩, trivial⟩ ?_
    refine S.data 0 (Hj z) rfl (fun ρ w h => h.g 0) ?_
    refine S.g false rfl ?_
    refine S.rounds 8 ?_
    refine S.g false rfl ?_
    refine S.condT rfl (by decide) ?_
    have := hb 24
    refine S.g false rfl ?_
    refine S.next ?_
    refine S.g false rfl ?_
    refine S.condT rfl (by decide) ?_
    have := hb 25
    refine S.g false rfl ?_
    refine S.next ?_
    refine S.g false rfl ?_
    refine S.condT rfl (by decide) ?_
    have := hb 26
    refine S.g false rfl ?_
    refine S.next ?_
    refine S.g false rfl ?_
    refine S.condT rfl (by decide) ?_
    have := hb 27
    refine S.g false rfl ?_
    refine S.next ?_
    refine S.g false rfl ?_
    refine S.condT rfl (by decide) ?_
    have := hb 28
    refine S.g false rfl ?_
    refine S.next ?_
    refine S.g false rfl ?_
    refine S.condT rfl (by decide) ?_
    have := hb 29
    refine S.g false rfl ?_
    refine S.next ?_
    refine S.g false rfl ?_
    refine S.condT rfl (by decide) ?_
    have := hb 30
    refine S.g false rfl ?_
    refine S.next ?_
    refine S.g false rfl ?_
    refine S.condT rfl (by decide) ?_
    have := hb 31
    refine S.g false rfl ?_
    refine S.next ?_
    refine S.g false rfl ?_
    refine S.condF rfl (by decide) ?_
    refine S.g false rfl ?_
    refine S.retv rfl rfl rfl rfl ?_
    show (SV.i .u64 (orW z 3 8)).den Qu = _
    rw [Jy hz 3 8 (by omega)]
  exact CV.mono h fun v w' _ ⟨x, e, _, p⟩ => ⟨x, e, trivial, p⟩
theorem QgG {z : List Int} (hl : z.length = 32) : z = [Qb z 0, Qb z 1, Qb z 2, Qb z 3, Qb z 4, Qb z 5, Qb z 6, Qb z 7, Qb z 8, Qb z 9, Qb z 10, Qb z 11, Qb z 12, Qb z 13, Qb z 14, Qb z 15, Qb z 16, Qb z 17, Qb z 18, Qb z 19, Qb z 20, Qb z 21, Qb z 22, Qb z 23, Qb z 24, Qb z 25, Qb z 26, Qb z 27, Qb z 28, Qb z 29, Qb z 30, Qb z 31] := by
  refine List.ext_getElem (by simp [hl]) fun i h1 h2 => ?_
  have : i < 32 := by omega
  have e : z[i] = Qb z i := by simp [Qb, h1]
  rw [e]
  clear e h1 hl
  revert h2
  match i, this with
  | 0, _ => intro _; rfl
  | 1, _ => intro _; rfl
  | 2, _ => intro _; rfl
  | 3, _ => intro _; rfl
  | 4, _ => intro _; rfl
  | 5, _ => intro _; rfl
  | 6, _ => intro _; rfl
  | 7, _ => intro _; rfl
  | 8, _ => intro _; rfl
  | 9, _ => intro _; rfl
  | 10, _ => intro _; rfl
  | 11, _ => intro _; rfl
  | 12, _ => intro _; rfl
  | 13, _ => intro _; rfl
  | 14, _ => intro _; rfl
  | 15, _ => intro _; rfl
  | 16, _ => intro _; rfl
  | 17, _ => intro _; rfl
  | 18, _ => intro _; rfl
  | 19, _ => intro _; rfl
  | 20, _ => intro _; rfl
  | 21, _ => intro _; rfl
  | 22, _ => intro _; rfl
  | 23, _ => intro _; rfl
  | 24, _ => intro _; rfl
  | 25, _ => intro _; rfl
  | 26, _ => intro _; rfl
  | 27, _ => intro _; rfl
  | 28, _ => intro _; rfl
  | 29, _ => intro _; rfl
  | 30, _ => intro _; rfl
  | 31, _ => intro _; rfl
  | k + 32, h => exact absurd h (by omega)
theorem Qfr {z : List Int} (hl : z.length = 32) (ρ : Qy) : (SV.g (Hj z)).den ρ = (SV.a .u8 z 32).den ρ := by
  conv => rhs; rw [QgG hl]
  rfl
theorem G7 {ρ : Qy} {L0 : List Nat} {w0 w : World} {m : SM} {d : SD} {n : Nat} {Γ : List Qv} (h : WM ρ L0 w0 m d n Γ w) (k : Nat) {z : List Int} (hk : Xr m k = some (Hj z)) : w.rangeAt (ρ.b k) 0 (Qg Qu (Hj z)) := by
  have := (h.cell hk).1.range
  rwa [Q1 (ρ' := Qu) (fun k hk => absurd hk (Nat.not_lt_zero k)) (Hj z) (n := 0) rfl] at this
set_option maxHeartbeats 1000000 in
theorem QgF {z : List Int} (hz : Qd z) : PV Tryd.prog gT 86 [.g (Hj z)] (lm (Qm (YT z))) := by
  refine PV.mk' Tryd.func86 rfl rfl rfl rfl fun w L hL hG => ?_
  refine S.enter Qh [.g (Hj z)] gT Tryd.func86 rfl rfl rfl (fun _ => rfl) hL hG ?_
  refine S.g false rfl ?_
  refine S.call (α := Unit) (sv := fun _ => .i .u64 (Qz z 0 8)) (fs := fun _ => []) (pr := fun _ => True) rfl rfl rfl rfl rfl rfl Tryd.func102 rfl rfl (fun ρ W h => QdY hz (B := ρ.b 0) (G7 h 0 rfl) _) (fun _ => rfl) fun _ _ => ?_
  refine S.g false rfl ?_
  refine S.call (α := Unit) (sv := fun _ => .i .u64 (Qz z 1 8)) (fs := fun _ => []) (pr := fun _ => True) rfl rfl rfl rfl rfl rfl Tryd.func102 rfl rfl (fun ρ W h => QdX hz (B := ρ.b 0) (G7 h 0 rfl) _) (fun _ => rfl) fun _ _ => ?_
  refine S.g false rfl ?_
  refine S.call (α := Unit) (sv := fun _ => .i .u64 (Qz z 2 8)) (fs := fun _ => []) (pr := fun _ => True) rfl rfl rfl rfl rfl rfl Tryd.func102 rfl rfl (fun ρ W h => QdW hz (B := ρ.b 0) (G7 h 0 rfl) _) (fun _ => rfl) fun _ _ => ?_
  refine S.g false rfl ?_
  refine S.call (α := Unit) (sv := fun _ => .i .u64 (Qz z 3 8)) (fs := fun _ => []) (pr := fun _ => True) rfl rfl rfl rfl rfl rfl Tryd.func102 rfl rfl (fun ρ W h => QdV hz (B := ρ.b 0) (G7 h 0 rfl) _) (fun _ => rfl) fun _ _ => ?_
  have h0 := Q0 z hz 0; have h1 := Q0 z hz 1; have h2 := Q0 z hz 2; have h3 := Q0 z hz 3
  obtain ⟨Z, hZ, hC⟩ : ∃ Z, Qm (YT z) = Z /\ PV Tryd.prog gT 93 [lm (YT z)] (lm Z) := ⟨_, rfl, Z7 _ (UD z hz)⟩
  rw [hZ]
  clear hZ
  unfold YT at hC
  generalize Qz z 0 8 = q0 at *
  generalize Qz z 1 8 = q1 at *
  generalize Qz z 2 8 = q2 at *
  generalize Qz z 3 8 = q3 at *
  have m0 := Zz h0
  have o1 := Vp (q0 / 2251799813685248) q1 13 (by omega) (by simp only [Int.reducePow]; omega) h1.1
  have o2 := Vp (q1 / 274877906944) q2 26 (by omega) (by simp only [Int.reducePow]; omega) h2.1
  have o3 := Vp (q2 / 33554432) q3 39 (by omega) (by simp only [Int.reducePow]; omega) h3.1
  simp only [Int.reducePow] at o1 o2 o3
  have m1 := Zz (x := q0 / 2251799813685248 + q1 * 8192 % 18446744073709551616) (by omega)
  have m2 := Zz (x := q1 / 274877906944 + q2 * 67108864 % 18446744073709551616) (by omega)
  have m3 := Zz (x := q2 / 33554432 + q3 * 549755813888 % 18446744073709551616) (by omega)
  rw [show (q0 / 2251799813685248 + q1 * 8192 % 18446744073709551616) % 2251799813685248 = (q0 / 2251799813685248 + q1 * 8192) % 2251799813685248 by omega] at m1
  rw [show (q1 / 274877906944 + q2 * 67108864 % 18446744073709551616) % 2251799813685248 = (q1 / 274877906944 + q2 * 67108864) % 2251799813685248 by omega] at m2
  rw [show (q2 / 33554432 + q3 * 549755813888 % 18446744073709551616) % 2251799813685248 = (q2 / 33554432 + q3 * 549755813888) % 2251799813685248 by omega] at m3
  rw [<- o1] at m1
  rw [<- o2] at m2
  rw [<- o3] at m3
  rw [<- m0, <- m1, <- m2, <- m3] at hC
  clear o1 o2 o3 m0 m1 m2 m3
  refine S.g false rfl ?_
  refine S.cv rfl rfl rfl rfl rfl rfl hC ?_ (fun _ _ h => (Hs.pre (Hs.pre (Hs.pre (Hs.pre h)))))
  refine S.g false rfl ?_
  exact S.retv rfl rfl rfl rfl rfl
theorem QcV {z : List Int} (hz : Qd z) (hl : z.length = 32) : PV Tryd.prog gT 86 [.a .u8 z 32] (lm (Qm (YT z))) := (QgF hz).arg (by simp only [Qt, Qfr hl])
theorem Qiu (cs : List Int) (hc : QX cs) : bits .or .u64 (bits .and .u64 (yS cs 0) 2251799813685247) (IntKind.u64.wrap (bits .and .u64 (yS cs 1) 2251799813685247 * 2 ^ Int.toNat 51)) = Qb (Kg cs) 0 := by
  have y0 := Xk hc 0; have y1 := Xk hc 1
  rw [Zz (by omega), Zz (by omega)]
  exact Vp (dS cs 0) (dS cs 1) 51 (by omega) (Xo cs 0) (Xo cs 1).1
theorem Qit (cs : List Int) (hc : QX cs) : bits .or .u64 (bits .and .u64 (yS cs 1) 2251799813685247 / 2 ^ Int.toNat 13) (IntKind.u64.wrap (bits .and .u64 (yS cs 2) 2251799813685247 * 2 ^ Int.toNat 38)) = Qb (Kg cs) 1 := by
  have y0 := Xk hc 1; have y1 := Xk hc 2
  rw [Zz (by omega), Zz (by omega)]
  exact Vp (dS cs 1 / 8192) (dS cs 2) 38 (by omega) (by have := Xo cs 1; simp only [Int.reducePow]; omega) (Xo cs 2).1
theorem Qis (cs : List Int) (hc : QX cs) : bits .or .u64 (bits .and .u64 (yS cs 2) 2251799813685247 / 2 ^ Int.toNat 26) (IntKind.u64.wrap (bits .and .u64 (yS cs 3) 2251799813685247 * 2 ^ Int.toNat 25)) = Qb (Kg cs) 2 := by
  have y0 := Xk hc 2; have y1 := Xk hc 3
  rw [Zz (by omega), Zz (by omega)]
  exact Vp (dS cs 2 / 67108864) (dS cs 3) 25 (by omega) (by have := Xo cs 2; simp only [Int.reducePow]; omega) (Xo cs 3).1
theorem Qir (cs : List Int) (hc : QX cs) : bits .or .u64 (bits .and .u64 (yS cs 3) 2251799813685247 / 2 ^ Int.toNat 39) (IntKind.u64.wrap (bits .and .u64 (yS cs 4) 2251799813685247 * 2 ^ Int.toNat 12)) = Qb (Kg cs) 3 := by
  have y0 := Xk hc 3; have y1 := Xk hc 4
  rw [Zz (by omega), Zz (by omega)]
  exact Vp (dS cs 3 / 549755813888) (dS cs 4) 12 (by omega) (by have := Xo cs 3; simp only [Int.reducePow]; omega) (Xo cs 4).1
theorem Qd3 (v : Int) : IntKind.u8.wrap v = v % 256 := by simp [IntKind.wrap, IntKind.bits, IntKind.signed]
/-- The first k bytes are written. -/
def bw (zs : List Int) : Nat -> List Int
  | 0 => List.replicate 32 0
  | k + 1 => (bw zs k).set k (IntKind.u8.wrap (Qb zs (k / 8) / 2 ^ (8 * (k % 8))))
theorem Uw (zs : List Int) : ∀ k, (bw zs k).length = 32
  | 0 => by simp [bw]
  | k + 1 => by simp [bw, Uw zs k]
theorem QfW (zs : List Int) : ∀ k i, i < k -> k <= 32 -> (bw zs k)[i]? = some (Jk zs i)
  | 0, i, h, _ => by omega
  | k + 1, i, h, h2 => by
    unfold bw
    by_cases e : k = i
    . subst e
      rw [List.getElem?_set_self (by rw [Uw]; omega), Qd3]
      rfl
    . rw [List.getElem?_set_ne e]
      exact QfW zs k i (by omega) (by omega)
theorem Qh2 (zs : List Int) : bw zs 32 = Zx zs 32 := by
  refine List.ext_getElem? fun i => ?_
  by_cases h : i < 32
  . rw [QfW zs 32 i h (Nat.le_refl _)]; simp [Zx, h]
  . rw [List.getElem?_eq_none (by rw [Uw]; omega), List.getElem?_eq_none (by simp [Zx]; omega)]
theorem QiI (zs : List Int) (k : Nat) : (bw zs k).set k (IntKind.u8.wrap (Qb zs (k / 8) / 2 ^ (8 * (k % 8)))) = bw zs (k + 1) := rfl
theorem QiJ (zs : List Int) : List.replicate 32 0 = bw zs 0 := rfl
theorem Qc8 {K : IntKind} {X Y : List Int} {n : Nat} (h : X = Y) : (SV.a K X n).eqv (SV.a K Y n) := by subst h; rfl
attribute [local irreducible] bw
set_option maxHeartbeats 2000000 in
theorem Qfj (x : List Int) (hx : Qn x) : PV Tryd.prog gT 70 [lm x] (.a .u8 (Zx (Kg (Qm x)) 32) 32) := by
  refine PV.mk' Tryd.func70 rfl rfl rfl rfl fun w L hL hG => ?_
  refine S.enter Qh [lm x] gT Tryd.func70 rfl rfl rfl (fun _ => rfl) hL hG ?_
  refine S.g false rfl ?_
  refine S.cv rfl rfl rfl rfl rfl rfl (Z7 _ hx) ?_
  have hc := (XD x hx).small
  generalize Qm x = cs at hc ⊢
  have c0 := hc 0; have c1 := hc 1; have c2 := hc 2; have c3 := hc 3; have c4 := hc 4
  refine S.g false rfl ?_
  refine S.rounds 4 ?_
  refine S.g false rfl ?_
  refine S.condT rfl (by decide) ?_
  refine S.g false rfl ?_
  repeat (refine S.next ?_; refine S.g false rfl ?_; refine S.condT rfl (by decide) ?_; refine S.g false rfl ?_)
  refine S.next ?_
  refine S.g false rfl ?_
  refine S.condF rfl (by decide) ?_
  refine S.g false rfl ?_
  have y0 := Xk hc 0; have y1 := Xk hc 1; have y2 := Xk hc 2; have y3 := Xk hc 3; have y4 := Xk hc 4
  refine S.same 2 [(1, .p 0 0), (2, .p 1 0), (32, .i .i64 0)] [(0, [.i .u64 (yS cs 0), .i .u64 (Qb cs 1), .i .u64 (Qb cs 2), .i .u64 (Qb cs 3), .i .u64 (Qb cs 4)]), (1, [.a .u8 (List.replicate 32 0) 32])] ⟨rfl, rfl, ⟨rfl, rfl⟩, trivial⟩ ?_ ?_
  . repeat' (first | exact True.intro | refine And.intro ?_ ?_ | exact rfl)
  refine S.rounds 4 ?_
  refine S.g false rfl ?_
  refine S.condT rfl (by decide) ?_
  refine S.g false rfl ?_
  refine S.dr0 false rfl rfl rfl ?_
  refine S.g false rfl ?_
  repeat (refine S.next ?_; refine S.g false rfl ?_; refine S.condT rfl (by decide) ?_; refine S.g false rfl ?_; refine S.dr0 false rfl rfl rfl ?_; refine S.g false rfl ?_)
  refine S.next ?_
  refine S.g false rfl ?_
  refine S.condF rfl (by decide) ?_
  refine S.g false rfl ?_
  have e0 := Qiu cs hc; have e1 := Qit cs hc; have e2 := Qis cs hc; have e3 := Qir cs hc
  refine S.same 48 [(2, .p 1 0), (6, .p 46 0), (7, .p 47 0), (83, .i .i64 0)] [(1, [.a .u8 (List.replicate 32 0) 32]), (46, [.i .u64 (Qb (Kg cs) 0), .i .u64 (Qb (Kg cs) 1), .i .u64 (Qb (Kg cs) 2), .i .u64 (Qb (Kg cs) 3)]), (47, [.a .u8 (bw (Kg cs) 0) 32])] ⟨rfl, rfl, rfl, ⟨rfl, rfl⟩, trivial⟩ ?_ ?_
  . repeat' (first | exact True.intro | refine And.intro ?_ ?_ | exact e0 | exact e1 | exact e2 | exact e3 | exact Qc8 (QiJ _) | exact Uw _ _ | exact rfl)
  refine S.rounds 32 ?_
  refine S.go true rfl (by repeat' (first | exact True.intro | refine And.intro ?_ ?_ | decide | exact rfl)) ?_
  refine S.condT rfl (by decide) ?_
  refine S.go true rfl (by repeat' (first | exact True.intro | refine And.intro ?_ ?_ | decide | exact rfl)) ?_
  refine S.next ?_
  refine S.same 48 [(2, .p 1 0), (6, .p 46 0), (7, .p 47 0), (83, .i .i64 1)] [(1, [.a .u8 (List.replicate 32 0) 32]), (46, [.i .u64 (Qb (Kg cs) 0), .i .u64 (Qb (Kg cs) 1), .i .u64 (Qb (Kg cs) 2), .i .u64 (Qb (Kg cs) 3)]), (47, [.a .u8 (bw (Kg cs) 1) 32])] ⟨rfl, rfl, rfl, ⟨rfl, by decide⟩, trivial⟩ (by repeat' (first | exact True.intro | refine And.intro ?_ ?_ | exact Qc8 (QiI (Kg cs) 0) | exact rfl | exact Uw _ _)) ?_
  refine S.go true rfl (by repeat' (first | exact True.intro | refine And.intro ?_ ?_ | decide | exact rfl)) ?_
  refine S.condT rfl (by decide) ?_
  refine S.go true rfl (by repeat' (first | exact True.intro | refine And.intro ?_ ?_ | decide | exact rfl)) ?_
  refine S.next ?_
  refine S.same 48 [(2, .p 1 0), (6, .p 46 0), (7, .p 47 0), (83, .i .i64 2)] [(1, [.a .u8 (List.replicate 32 0) 32]), (46, [.i .u64 (Qb (Kg cs) 0), .i .u64 (Qb (Kg cs) 1), .i .u64 (Qb (Kg cs) 2), .i .u64 (Qb (Kg cs) 3)]), (47, [.a .u8 (bw (Kg cs) 2) 32])] ⟨rfl, rfl, rfl, ⟨rfl, by decide⟩, trivial⟩ (by repeat' (first | exact True.intro | refine And.intro ?_ ?_ | exact Qc8 (QiI (Kg cs) 1) | exact rfl | exact Uw _ _)) ?_
  refine S.go true rfl (by repeat' (first | exact True.intro | refine And.intro ?_ ?_ | decide | exact rfl)) ?_
  refine S.condT rfl (by decide) ?_
  refine S.go true rfl (by repeat' (first | exact True.intro | refine And.intro ?_ ?_ | decide | exact rfl)) ?_
  refine S.next ?_
  refine S.same 48 [(2, .p 1 0), (6, .p 46 0), (7, .p 47 0), (83, .i .i64 3)] [(1, [.a .u8 (List.replicate 32 0) 32]), (46, [.i .u64 (Qb (Kg cs) 0), .i .u64 (Qb (Kg cs) 1), .i .u64 (Qb (Kg cs) 2), .i .u64 (Qb (Kg cs) 3)]), (47, [.a .u8 (bw (Kg cs) 3) 32])] ⟨rfl, rfl, rfl, ⟨rfl, by decide⟩, trivial⟩ (by repeat' (first | exact True.intro | refine And.intro ?_ ?_ | exact Qc8 (QiI (Kg cs) 2) | exact rfl | exact Uw _ _)) ?_
  refine S.go true rfl (by repeat' (first | exact True.intro | refine And.intro ?_ ?_ | decide | exact rfl)) ?_
  refine S.condT rfl (by decide) ?_
  refine S.go true rfl (by repeat' (first | exact True.intro | refine And.intro ?_ ?_ | decide | exact rfl)) ?_
  refine S.next ?_
  refine S.same 48 [(2, .p 1 0), (6, .p 46 0), (7, .p 47 0), (83, .i .i64 4)] [(1, [.a .u8 (List.replicate 32 0) 32]), (46, [.i .u64 (Qb (Kg cs) 0), .i .u64 (Qb (Kg cs) 1), .i .u64 (Qb (Kg cs) 2), .i .u64 (Qb (Kg cs) 3)]), (47, [.a .u8 (bw (Kg cs) 4) 32])] ⟨rfl, rfl, rfl, ⟨rfl, by decide⟩, trivial⟩ (by repeat' (first | exact True.intro | refine And.intro ?_ ?_ | exact Qc8 (QiI (Kg cs) 3) | exact rfl | exact Uw _ _)) ?_
  refine S.go true rfl (by repeat' (first | exact True.intro | refine And.intro ?_ ?_ | decide | exact rfl)) ?_
  refine S.condT rfl (by decide) ?_
  refine S.go true rfl (by repeat' (first | exact True.intro | refine And.intro ?_ ?_ | decide | exact rfl)) ?_
  refine S.next ?_
  refine S.same 48 [(2, .p 1 0), (6, .p 46 0), (7, .p 47 0), (83, .i .i64 5)] [(1, [.a .u8 (List.replicate 32 0) 32]), (46, [.i .u64 (Qb (Kg cs) 0), .i .u64 (Qb (Kg cs) 1), .i .u64 (Qb (Kg cs) 2), .i .u64 (Qb (Kg cs) 3)]), (47, [.a .u8 (bw (Kg cs) 5) 32])] ⟨rfl, rfl, rfl, ⟨rfl, by decide⟩, trivial⟩ (by repeat' (first | exact True.intro | refine And.intro ?_ ?_ | exact Qc8 (QiI (Kg cs) 4) | exact rfl | exact Uw _ _)) ?_
  refine S.go true rfl (by repeat' (first | exact True.intro | refine And.intro ?_ ?_ | decide | exact rfl)) ?_
  refine S.condT rfl (by decide) ?_
  refine S.go true rfl (by repeat' (first | exact True.intro | refine And.intro ?_ ?_ | decide | exact rfl)) ?_
  refine S.next ?_
  refine S.same 48 [(2, .p 1 0), (6, .p 46 0), (7, .p 47 0), (83, .i .i64 6)] [(1, [.a .u8 (List.replicate 32 0) 32]), (46, [.i .u64 (Qb (Kg cs) 0), .i .u64 (Qb (Kg cs) 1), .i .u64 (Qb (Kg cs) 2), .i .u64 (Qb (Kg cs) 3)]), (47, [.a .u8 (bw (Kg cs) 6) 32])] ⟨rfl, rfl, rfl, ⟨rfl, by decide⟩, trivial⟩ (by repeat' (first | exact True.intro | refine And.intro ?_ ?_ | exact Qc8 (QiI (Kg cs) 5) | exact rfl | exact Uw _ _)) ?_
  refine S.go true rfl (by repeat' (first | exact True.intro | refine And.intro ?_ ?_ | decide | exact rfl)) ?_
  refine S.condT rfl (by decide) ?_
  refine S.go true rfl (by repeat' (first | exact True.intro | refine And.intro ?_ ?_ | decide | exact rfl)) ?_
  refine S.next ?_
  refine S.same 48 [(2, .p 1 0), (6, .p 46 0), (7, .p 47 0), (83, .i .i64 7)] [(1, [.a .u8 (List.replicate 32 0) 32]), (46, [.i .u64 (Qb (Kg cs) 0), .i .u64 (Qb (Kg cs) 1), .i .u64 (Qb (Kg cs) 2), .i .u64 (Qb (Kg cs) 3)]), (47, [.a .u8 (bw (Kg cs) 7) 32])] ⟨rfl, rfl, rfl, ⟨rfl, by decide⟩, trivial⟩ (by repeat' (first | exact True.intro | refine And.intro ?_ ?_ | exact Qc8 (QiI (Kg cs) 6) | exact rfl | exact Uw _ _)) ?_
  refine S.go true rfl (by repeat' (first | exact True.intro | refine And.intro ?_ ?_ | decide | exact rfl)) ?_
  refine S.condT rfl (by decide) ?_
  refine S.go true rfl (by repeat' (first | exact True.intro | refine And.intro ?_ ?_ | decide | exact rfl)) ?_
  refine S.next ?_
  refine S.same 48 [(2, .p 1 0), (6, .p 46 0), (7, .p 47 0), (83, .i .i64 8)] [(1, [.a .u8 (List.replicate 32 0) 32]), (46, [.i .u64 (Qb (Kg cs) 0), .i .u64 (Qb (Kg cs) 1), .i .u64 (Qb (Kg cs) 2), .i .u64 (Qb (Kg cs) 3)]), (47, [.a .u8 (bw (Kg cs) 8) 32])] ⟨rfl, rfl, rfl, ⟨rfl, by decide⟩, trivial⟩ (by repeat' (first | exact True.intro | refine And.intro ?_ ?_ | exact Qc8 (QiI (Kg cs) 7) | exact rfl | exact Uw _ _)) ?_
  refine S.go true rfl (by repeat' (first | exact True.intro | refine And.intro ?_ ?_ | decide | exact rfl)) ?_
  refine S.condT rfl (by decide) ?_
  refine S.go true rfl (by repeat' (first | exact True.intro | refine And.intro ?_ ?_ | decide | exact rfl)) ?_
  refine S.next ?_
  refine S.same 48 [(2, .p 1 0), (6, .p 46 0), (7, .p 47 0), (83, .i .i64 9)] [(1, [.a .u8 (List.replicate 32 0) 32]), (46, [.i .u64 (Qb (Kg cs) 0), .i .u64 (Qb (Kg cs) 1), .i .u64 (Qb (Kg cs) 2), .i .u64 (Qb (Kg cs) 3)]), (47, [.a .u8 (bw (Kg cs) 9) 32])] ⟨rfl, rfl, rfl, ⟨rfl, by decide⟩, trivial⟩ (by repeat' (first | exact True.intro | refine And.intro ?_ ?_ | exact Qc8 (QiI (Kg cs) 8) | exact rfl | exact Uw _ _)) ?_
  refine S.go true rfl (by repeat' (first | exact True.intro | refine And.intro ?_ ?_ | decide | exact rfl)) ?_
  refine S.condT rfl (by decide) ?_
  refine S.go true rfl (by repeat' (first | exact True.intro | refine And.intro ?_ ?_ | decide | exact rfl)) ?_
  refine S.next ?_
  refine S.same 48 [(2, .p 1 0), (6, .p 46 0), (7, .p 47 0), (83, .i .i64 10)] [(1, [.a .u8 (List.replicate 32 0) 32]), (46, [.i .u64 (Qb (Kg cs) 0), .i .u64 (Qb (Kg cs) 1), .i .u64 (Qb (Kg cs) 2), .i .u64 (Qb (Kg cs) 3)]), (47, [.a .u8 (bw (Kg cs) 10) 32])] ⟨rfl, rfl, rfl, ⟨rfl, by decide⟩, trivial⟩ (by repeat' (first | exact True.intro | refine And.intro ?_ ?_ | exact Qc8 (QiI (Kg cs) 9) | exact rfl | exact Uw _ _)) ?_
  refine S.go true rfl (by repeat' (first | exact True.intro | refine And.intro ?_ ?_ | decide | exact rfl)) ?_
  refine S.condT rfl (by decide) ?_
  refine S.go true rfl (by repeat' (first | exact True.intro | refine And.intro ?_ ?_ | decide | exact rfl)) ?_
  refine S.next ?_
  refine S.same 48 [(2, .p 1 0), (6, .p 46 0), (7, .p 47 0), (83, .i .i64 11)] [(1, [.a .u8 (List.replicate 32 0) 32]), (46, [.i .u64 (Qb (Kg cs) 0), .i .u64 (Qb (Kg cs) 1), .i .u64 (Qb (Kg cs) 2), .i .u64 (Qb (Kg cs) 3)]), (47, [.a .u8 (bw (Kg cs) 11) 32])] ⟨rfl, rfl, rfl, ⟨rfl, by decide⟩, trivial⟩ (by repeat' (first | exact True.intro | refine And.intro ?_ ?_ | exact Qc8 (QiI (Kg cs) 10) | exact rfl | exact Uw _ _)) ?_
  refine S.go true rfl (by repeat' (first | exact True.intro | refine And.intro ?_ ?_ | decide | exact rfl)) ?_
  refine S.condT rfl (by decide) ?_
  refine S.go true rfl (by repeat' (first | exact True.intro | refine And.intro ?_ ?_ | decide | exact rfl)) ?_
  refine S.next ?_
  refine S.same 48 [(2, .p 1 0), (6, .p 46 0), (7, .p 47 0), (83, .i .i64 12)] [(1, [.a .u8 (List.replicate 32 0) 32]), (46, [.i .u64 (Qb (Kg cs) 0), .i .u64 (Qb (Kg cs) 1), .i .u64 (Qb (Kg cs) 2), .i .u64 (Qb (Kg cs) 3)]), (47, [.a .u8 (bw (Kg cs) 12) 32])] ⟨rfl, rfl, rfl, ⟨rfl, by decide⟩, trivial⟩ (by repeat' (first | exact True.intro | refine And.intro ?_ ?_ | exact Qc8 (QiI (Kg cs) 11) | exact rfl | exact Uw _ _)) ?_
  refine S.go true rfl (by repeat' (first | exact True.intro | refine And.intro ?_ ?_ | decide | exact rfl)) ?_
  refine S.condT rfl (by decide) ?_
  refine S.go true rfl (by repeat' (first | exact True.intro | refine And.intro ?_ ?_ | decide | exact rfl)) ?_
  refine S.next ?_
  refine S.same 48 [(2, .p 1 0), (6, .p 46 0), (7, .p 47 0), (83, .i .i64 13)] [(1, [.a .u8 (List.replicate 32 0) 32]), (46, [.i .u64 (Qb (Kg cs) 0), .i .u64 (Qb (Kg cs) 1), .i .u64 (Qb (Kg cs) 2), .i .u64 (Qb (Kg cs) 3)]), (47, [.a .u8 (bw (Kg cs) 13) 32])] ⟨rfl, rfl, rfl, ⟨rfl, by decide⟩, trivial⟩ (by repeat' (first | exact True.intro | refine And.intro ?_ ?_ | exact Qc8 (QiI (Kg cs) 12) | exact rfl | exact Uw _ _)) ?_
  refine S.go true rfl (by repeat' (first | exact True.intro | refine And.intro ?_ ?_ | decide | exact rfl)) ?_
  refine S.condT rfl (by decide) ?_
  refine S.go true rfl (by repeat' (first | exact True.intro | refine And.intro ?_ ?_ | decide | exact rfl)) ?_
  refine S.next ?_
  refine S.same 48 [(2, .p 1 0), (6, .p 46 0), (7, .p 47 0), (83, .i .i64 14)] [(1, [.a .u8 (List.replicate 32 0) 32]), (46, [.i .u64 (Qb (Kg cs) 0), .i .u64 (Qb (Kg cs) 1), .i .u64 (Qb (Kg cs) 2), .i .u64 (Qb (Kg cs) 3)]), (47, [.a .u8 (bw (Kg cs) 14) 32])] ⟨rfl, rfl, rfl, ⟨rfl, by decide⟩, trivial⟩ (by repeat' (first | exact True.intro | refine And.intro ?_ ?_ | exact Qc8 (QiI (Kg cs) 13) | exact rfl | exact Uw _ _)) ?_
  refine S.go true rfl (by repeat' (first | exact True.intro | refine And.intro ?_ ?_ | decide | exact rfl)) ?_
  refine S.condT rfl (by decide) ?_
  refine S.go true rfl (by repeat' (first | exact True.intro | refine And.intro ?_ ?_ | decide | exact rfl)) ?_
  refine S.next ?_
  refine S.same 48 [(2, .p 1 0), (6, .p 46 0), (7, .p 47 0), (83, .i .i64 15)] [(1, [.a .u8 (List.replicate 32 0) 32]), (46, [.i .u64 (Qb (Kg cs) 0), .i .u64 (Qb (Kg cs) 1), .i .u64 (Qb (Kg cs) 2), .i .u64 (Qb (Kg cs) 3)]), (47, [.a .u8 (bw (Kg cs) 15) 32])] ⟨rfl, rfl, rfl, ⟨rfl, by decide⟩, trivial⟩ (by repeat' (first | exact True.intro | refine And.intro ?_ ?_ | exact Qc8 (QiI (Kg cs) 14) | exact rfl | exact Uw _ _)) ?_
  refine S.go true rfl (by repeat' (first | exact True.intro | refine And.intro ?_ ?_ | decide | exact rfl)) ?_
  refine S.condT rfl (by decide) ?_
  refine S.go true rfl (by repeat' (first | exact True.intro | refine And.intro ?_ ?_ | decide | exact rfl)) ?_
  refine S.next ?_
  refine S.same 48 [(2, .p 1 0), (6, .p 46 0), (7, .p 47 0), (83, .i .i64 16)] [(1, [.a .u8 (List.replicate 32 0) 32]), (46, [.i .u64 (Qb (Kg cs) 0), .i .u64 (Qb (Kg cs) 1), .i .u64 (Qb (Kg cs) 2), .i .u64 (Qb (Kg cs) 3)]), (47, [.a .u8 (bw (Kg cs) 16) 32])] ⟨rfl, rfl, rfl, ⟨rfl, by decide⟩, trivial⟩ (by repeat' (first | exact True.intro | refine And.intro ?_ ?_ | exact Qc8 (QiI (Kg cs) 15) | exact rfl | exact Uw _ _)) ?_
  refine S.go true rfl (by repeat' (first | exact True.intro | refine And.intro ?_ ?_ | decide | exact rfl)) ?_
  refine S.condT rfl (by decide) ?_
  refine S.go true rfl (by repeat' (first | exact True.intro | refine And.intro ?_ ?_ | decide | exact rfl)) ?_
  refine S.next ?_
  refine S.same 48 [(2, .p 1 0), (6, .p 46 0), (7, .p 47 0), (83, .i .i64 17)] [(1, [.a .u8 (List.replicate 32 0) 32]), (46, [.i .u64 (Qb (Kg cs) 0), .i .u64 (Qb (Kg cs) 1), .i .u64 (Qb (Kg cs) 2), .i .u64 (Qb (Kg cs) 3)]), (47, [.a .u8 (bw (Kg cs) 17) 32])] ⟨rfl, rfl, rfl, ⟨rfl, by decide⟩, trivial⟩ (by repeat' (first | exact True.intro | refine And.intro ?_ ?_ | exact Qc8 (QiI (Kg cs) 16) | exact rfl | exact Uw _ _)) ?_
  refine S.go true rfl (by repeat' (first | exact True.intro | refine And.intro ?_ ?_ | decide | exact rfl)) ?_
  refine S.condT rfl (by decide) ?_
  refine S.go true rfl (by repeat' (first | exact True.intro | refine And.intro ?_ ?_ | decide | exact rfl)) ?_
  refine S.next ?_
  refine S.same 48 [(2, .p 1 0), (6, .p 46 0), (7, .p 47 0), (83, .i .i64 18)] [(1, [.a .u8 (List.replicate 32 0) 32]), (46, [.i .u64 (Qb (Kg cs) 0), .i .u64 (Qb (Kg cs) 1), .i .u64 (Qb (Kg cs) 2), .i .u64 (Qb (Kg cs) 3)]), (47, [.a .u8 (bw (Kg cs) 18) 32])] ⟨rfl, rfl, rfl, ⟨rfl, by decide⟩, trivial⟩ (by repeat' (first | exact True.intro | refine And.intro ?_ ?_ | exact Qc8 (QiI (Kg cs) 17) | exact rfl | exact Uw _ _)) ?_
  refine S.go true rfl (by repeat' (first | exact True.intro | refine And.intro ?_ ?_ | decide | exact rfl)) ?_
  refine S.condT rfl (by decide) ?_
  refine S.go true rfl (by repeat' (first | exact True.intro | refine And.intro ?_ ?_ | decide | exact rfl)) ?_
  refine S.next ?_
  refine S.same 48 [(2, .p 1 0), (6, .p 46 0), (7, .p 47 0), (83, .i .i64 19)] [(1, [.a .u8 (List.replicate 32 0) 32]), (46, [.i .u64 (Qb (Kg cs) 0), .i .u64 (Qb (Kg cs) 1), .i .u64 (Qb (Kg cs) 2), .i .u64 (Qb (Kg cs) 3)]), (47, [.a .u8 (bw (Kg cs) 19) 32])] ⟨rfl, rfl, rfl, ⟨rfl, by decide⟩, trivial⟩ (by repeat' (first | exact True.intro | refine And.intro ?_ ?_ | exact Qc8 (QiI (Kg cs) 18) | exact rfl | exact Uw _ _)) ?_
  refine S.go true rfl (by repeat' (first | exact True.intro | refine And.intro ?_ ?_ | decide | exact rfl)) ?_
  refine S.condT rfl (by decide) ?_
  refine S.go true rfl (by repeat' (first | exact True.intro | refine And.intro ?_ ?_ | decide | exact rfl)) ?_
  refine S.next ?_
  refine S.same 48 [(2, .p 1 0), (6, .p 46 0), (7, .p 47 0), (83, .i .i64 20)] [(1, [.a .u8 (List.replicate 32 0) 32]), (46, [.i .u64 (Qb (Kg cs) 0), .i .u64 (Qb (Kg cs) 1), .i .u64 (Qb (Kg cs) 2), .i .u64 (Qb (Kg cs) 3)]), (47, [.a .u8 (bw (Kg cs) 20) 32])] ⟨rfl, rfl, rfl, ⟨rfl, by decide⟩, trivial⟩ (by repeat' (first | exact True.intro | refine And.intro ?_ ?_ | exact Qc8 (QiI (Kg cs) 19) | exact rfl | exact Uw _ _)) ?_
  refine S.go true rfl (by repeat' (first | exact True.intro | refine And.intro ?_ ?_ | decide | exact rfl)) ?_
  refine S.condT rfl (by decide) ?_
  refine S.go true rfl (by repeat' (first | exact True.intro | refine And.intro ?_ ?_ | decide | exact rfl)) ?_
  refine S.next ?_
  refine S.same 48 [(2, .p 1 0), (6, .p 46 0), (7, .p 47 0), (83, .i .i64 21)] [(1, [.a .u8 (List.replicate 32 0) 32]), (46, [.i .u64 (Qb (Kg cs) 0), .i .u64 (Qb (Kg cs) 1), .i .u64 (Qb (Kg cs) 2), .i .u64 (Qb (Kg cs) 3)]), (47, [.a .u8 (bw (Kg cs) 21) 32])] ⟨rfl, rfl, rfl, ⟨rfl, by decide⟩, trivial⟩ (by repeat' (first | exact True.intro | refine And.intro ?_ ?_ | exact Qc8 (QiI (Kg cs) 20) | exact rfl | exact Uw _ _)) ?_
  refine S.go true rfl (by repeat' (first | exact True.intro | refine And.intro ?_ ?_ | decide | exact rfl)) ?_
  refine S.condT rfl (by decide) ?_
  refine S.go true rfl (by repeat' (first | exact True.intro | refine And.intro ?_ ?_ | decide | exact rfl)) ?_
  refine S.next ?_
  refine S.same 48 [(2, .p 1 0), (6, .p 46 0), (7, .p 47 0), (83, .i .i64 22)] [(1, [.a .u8 (List.replicate 32 0) 32]), (46, [.i .u64 (Qb (Kg cs) 0), .i .u64 (Qb (Kg cs) 1), .i .u64 (Qb (Kg cs) 2), .i .u64 (Qb (Kg cs) 3)]), (47, [.a .u8 (bw (Kg cs) 22) 32])] ⟨rfl, rfl, rfl, ⟨rfl, by decide⟩, trivial⟩ (by repeat' (first | exact True.intro | refine And.intro ?_ ?_ | exact Qc8 (QiI (Kg cs) 21) | exact rfl | exact Uw _ _)) ?_
  refine S.go true rfl (by repeat' (first | exact True.intro | refine And.intro ?_ ?_ | decide | exact rfl)) ?_
  refine S.condT rfl (by decide) ?_
  refine S.go true rfl (by repeat' (first | exact True.intro | refine And.intro ?_ ?_ | decide | exact rfl)) ?_
  refine S.next ?_
  refine S.same 48 [(2, .p 1 0), (6, .p 46 0), (7, .p 47 0), (83, .i .i64 23)] [(1, [.a .u8 (List.replicate 32 0) 32]), (46, [.i .u64 (Qb (Kg cs) 0), .i .u64 (Qb (Kg cs) 1), .i .u64 (Qb (Kg cs) 2), .i .u64 (Qb (Kg cs) 3)]), (47, [.a .u8 (bw (Kg cs) 23) 32])] ⟨rfl, rfl, rfl, ⟨rfl, by decide⟩, trivial⟩ (by repeat' (first | exact True.intro | refine And.intro ?_ ?_ | exact Qc8 (QiI (Kg cs) 22) | exact rfl | exact Uw _ _)) ?_
  refine S.go true rfl (by repeat' (first | exact True.intro | refine And.intro ?_ ?_ | decide | exact rfl)) ?_
  refine S.condT rfl (by decide) ?_
  refine S.go true rfl (by repeat' (first | exact True.intro | refine And.intro ?_ ?_ | decide | exact rfl)) ?_
  refine S.next ?_
  refine S.same 48 [(2, .p 1 0), (6, .p 46 0), (7, .p 47 0), (83, .i .i64 24)] [(1, [.a .u8 (List.replicate 32 0) 32]), (46, [.i .u64 (Qb (Kg cs) 0), .i .u64 (Qb (Kg cs) 1), .i .u64 (Qb (Kg cs) 2), .i .u64 (Qb (Kg cs) 3)]), (47, [.a .u8 (bw (Kg cs) 24) 32])] ⟨rfl, rfl, rfl, ⟨rfl, by decide⟩, trivial⟩ (by repeat' (first | exact True.intro | refine And.intro ?_ ?_ | exact Qc8 (QiI (Kg cs) 23) | exact rfl | exact Uw _ _)) ?_
  refine S.go true rfl (by repeat' (first | exact True.intro | refine And.intro ?_ ?_ | decide | exact rfl)) ?_
  refine S.condT rfl (by decide) ?_
  refine S.go true rfl (by repeat' (first | exact True.intro | refine And.intro ?_ ?_ | decide | exact rfl)) ?_
  refine S.next ?_
  refine S.same 48 [(2, .p 1 0), (6, .p 46 0), (7, .p 47 0), (83, .i .i64 25)] [(1, [.a .u8 (List.replicate 32 0) 32]), (46, [.i .u64 (Qb (Kg cs) 0), .i .u64 (Qb (Kg cs) 1), .i .u64 (Qb (Kg cs) 2), .i .u64 (Qb (Kg cs) 3)]), (47, [.a .u8 (bw (Kg cs) 25) 32])] ⟨rfl, rfl, rfl, ⟨rfl, by decide⟩, trivial⟩ (by repeat' (first | exact True.intro | refine And.intro ?_ ?_ | exact Qc8 (QiI (Kg cs) 24) | exact rfl | exact Uw _ _)) ?_
  refine S.go true rfl (by repeat' (first | exact True.intro | refine And.intro ?_ ?_ | decide | exact rfl)) ?_
  refine S.condT rfl (by decide) ?_
  refine S.go true rfl (by repeat' (first | exact True.intro | refine And.intro ?_ ?_ | decide | exact rfl)) ?_
  refine S.next ?_
  refine S.same 48 [(2, .p 1 0), (6, .p 46 0), (7, .p 47 0), (83, .i .i64 26)] [(1, [.a .u8 (List.replicate 32 0) 32]), (46, [.i .u64 (Qb (Kg cs) 0), .i .u64 (Qb (Kg cs) 1), .i .u64 (Qb (Kg cs) 2), .i .u64 (Qb (Kg cs) 3)]), (47, [.a .u8 (bw (Kg cs) 26) 32])] ⟨rfl, rfl, rfl, ⟨rfl, by decide⟩, trivial⟩ (by repeat' (first | exact True.intro | refine And.intro ?_ ?_ | exact Qc8 (QiI (Kg cs) 25) | exact rfl | exact Uw _ _)) ?_
  refine S.go true rfl (by repeat' (first | exact True.intro | refine And.intro ?_ ?_ | decide | exact rfl)) ?_
  refine S.condT rfl (by decide) ?_
  refine S.go true rfl (by repeat' (first | exact True.intro | refine And.intro ?_ ?_ | decide | exact rfl)) ?_
  refine S.next ?_
  refine S.same 48 [(2, .p 1 0), (6, .p 46 0), (7, .p 47 0), (83, .i .i64 27)] [(1, [.a .u8 (List.replicate 32 0) 32]), (46, [.i .u64 (Qb (Kg cs) 0), .i .u64 (Qb (Kg cs) 1), .i .u64 (Qb (Kg cs) 2), .i .u64 (Qb (Kg cs) 3)]), (47, [.a .u8 (bw (Kg cs) 27) 32])] ⟨rfl, rfl, rfl, ⟨rfl, by decide⟩, trivial⟩ (by repeat' (first | exact True.intro | refine And.intro ?_ ?_ | exact Qc8 (QiI (Kg cs) 26) | exact rfl | exact Uw _ _)) ?_
  refine S.go true rfl (by repeat' (first | exact True.intro | refine And.intro ?_ ?_ | decide | exact rfl)) ?_
  refine S.condT rfl (by decide) ?_
  refine S.go true rfl (by repeat' (first | exact True.intro | refine And.intro ?_ ?_ | decide | exact rfl)) ?_
  refine S.next ?_
  refine S.same 48 [(2, .p 1 0), (6, .p 46 0), (7, .p 47 0), (83, .i .i64 28)] [(1, [.a .u8 (List.replicate 32 0) 32]), (46, [.i .u64 (Qb (Kg cs) 0), .i .u64 (Qb (Kg cs) 1), .i .u64 (Qb (Kg cs) 2), .i .u64 (Qb (Kg cs) 3)]), (47, [.a .u8 (bw (Kg cs) 28) 32])] ⟨rfl, rfl, rfl, ⟨rfl, by decide⟩, trivial⟩ (by repeat' (first | exact True.intro | refine And.intro ?_ ?_ | exact Qc8 (QiI (Kg cs) 27) | exact rfl | exact Uw _ _)) ?_
  refine S.go true rfl (by repeat' (first | exact True.intro | refine And.intro ?_ ?_ | decide | exact rfl)) ?_
  refine S.condT rfl (by decide) ?_
  refine S.go true rfl (by repeat' (first | exact True.intro | refine And.intro ?_ ?_ | decide | exact rfl)) ?_
  refine S.next ?_
  refine S.same 48 [(2, .p 1 0), (6, .p 46 0), (7, .p 47 0), (83, .i .i64 29)] [(1, [.a .u8 (List.replicate 32 0) 32]), (46, [.i .u64 (Qb (Kg cs) 0), .i .u64 (Qb (Kg cs) 1), .i .u64 (Qb (Kg cs) 2), .i .u64 (Qb (Kg cs) 3)]), (47, [.a .u8 (bw (Kg cs) 29) 32])] ⟨rfl, rfl, rfl, ⟨rfl, by decide⟩, trivial⟩ (by repeat' (first | exact True.intro | refine And.intro ?_ ?_ | exact Qc8 (QiI (Kg cs) 28) | exact rfl | exact Uw _ _)) ?_
  refine S.go true rfl (by repeat' (first | exact True.intro | refine And.intro ?_ ?_ | decide | exact rfl)) ?_
  refine S.condT rfl (by decide) ?_
  refine S.go true rfl (by repeat' (first | exact True.intro | refine And.intro ?_ ?_ | decide | exact rfl)) ?_
  refine S.next ?_
  refine S.same 48 [(2, .p 1 0), (6, .p 46 0), (7, .p 47 0), (83, .i .i64 30)] [(1, [.a .u8 (List.replicate 32 0) 32]), (46, [.i .u64 (Qb (Kg cs) 0), .i .u64 (Qb (Kg cs) 1), .i .u64 (Qb (Kg cs) 2), .i .u64 (Qb (Kg cs) 3)]), (47, [.a .u8 (bw (Kg cs) 30) 32])] ⟨rfl, rfl, rfl, ⟨rfl, by decide⟩, trivial⟩ (by repeat' (first | exact True.intro | refine And.intro ?_ ?_ | exact Qc8 (QiI (Kg cs) 29) | exact rfl | exact Uw _ _)) ?_
  refine S.go true rfl (by repeat' (first | exact True.intro | refine And.intro ?_ ?_ | decide | exact rfl)) ?_
  refine S.condT rfl (by decide) ?_
  refine S.go true rfl (by repeat' (first | exact True.intro | refine And.intro ?_ ?_ | decide | exact rfl)) ?_
  refine S.next ?_
  refine S.same 48 [(2, .p 1 0), (6, .p 46 0), (7, .p 47 0), (83, .i .i64 31)] [(1, [.a .u8 (List.replicate 32 0) 32]), (46, [.i .u64 (Qb (Kg cs) 0), .i .u64 (Qb (Kg cs) 1), .i .u64 (Qb (Kg cs) 2), .i .u64 (Qb (Kg cs) 3)]), (47, [.a .u8 (bw (Kg cs) 31) 32])] ⟨rfl, rfl, rfl, ⟨rfl, by decide⟩, trivial⟩ (by repeat' (first | exact True.intro | refine And.intro ?_ ?_ | exact Qc8 (QiI (Kg cs) 30) | exact rfl | exact Uw _ _)) ?_
  refine S.go true rfl (by repeat' (first | exact True.intro | refine And.intro ?_ ?_ | decide | exact rfl)) ?_
  refine S.condT rfl (by decide) ?_
  refine S.go true rfl (by repeat' (first | exact True.intro | refine And.intro ?_ ?_ | decide | exact rfl)) ?_
  refine S.next ?_
  refine S.same 48 [(2, .p 1 0), (6, .p 46 0), (7, .p 47 0), (83, .i .i64 32)] [(1, [.a .u8 (List.replicate 32 0) 32]), (46, [.i .u64 (Qb (Kg cs) 0), .i .u64 (Qb (Kg cs) 1), .i .u64 (Qb (Kg cs) 2), .i .u64 (Qb (Kg cs) 3)]), (47, [.a .u8 (bw (Kg cs) 32) 32])] ⟨rfl, rfl, rfl, ⟨rfl, by decide⟩, trivial⟩ (by repeat' (first | exact True.intro | refine And.intro ?_ ?_ | exact Qc8 (QiI (Kg cs) 31) | exact rfl | exact Uw _ _)) ?_
  refine S.go true rfl (by repeat' (first | exact True.intro | refine And.intro ?_ ?_ | decide | exact rfl)) ?_
  refine S.condF rfl (by decide) ?_
  refine S.go true rfl (by repeat' (first | exact True.intro | refine And.intro ?_ ?_ | exact Uw _ _ | exact rfl)) ?_
  refine S.retv rfl rfl rfl rfl ?_
  rw [<- Qh2]
  rfl
theorem V4 {x : List Int} {u : Int} (hx : QH x u) : PV Tryd.prog gT 70 [lm x] (.a .u8 (QE u) 32) := by
  have h := Qfj x hx.words
  have hc := XD x hx.words
  have e : Zx (Kg (Qm x)) 32 = QE u := by
    rw [QdZ hc.small, hc.val, hx.val]
    rfl
  rwa [e] at h
theorem El {x y : List Int} {u v : Int} (hx : QH x u) (hy : QH y v) : PV Tryd.prog gT 90 [lm x, lm y] (.c (u = v) inferInstance) := by
  refine PV.mk' Tryd.func90 rfl rfl rfl rfl fun w L hL hG => ?_
  have h1 := V4 hx
  have h2 := V4 hy
  refine S.enter Qh [lm x, lm y] gT Tryd.func90 rfl rfl rfl (fun _ => rfl) hL hG ?_
  refine S.g false rfl ?_
  refine S.drp false [(1, .a .u8 (QE u) 32), (3, .a .u8 (QE v) 32)] rfl rfl rfl ?_ ?_
  . refine S.g false rfl ?_
    refine S.retv rfl rfl rfl rfl ?_
    simp only [SV.den]
    rw [Qa0 (D1 hx) (D1 hy)]
  . repeat' (first | exact True.intro | refine And.intro ?_ ?_ | assumption | exact Qw _)
theorem QcB {x : List Int} {u : Int} (hx : QH x u) : PV Tryd.prog gT 71 [lm x] (.c (u % 2 = 1) inferInstance) := by
  refine PV.mk' Tryd.func71 rfl rfl rfl rfl fun w L hL hG => ?_
  refine S.enter Qh [lm x] gT Tryd.func71 rfl rfl rfl (fun _ => rfl) hL hG ?_
  refine S.g false rfl ?_
  refine S.cv rfl rfl rfl rfl rfl rfl (V4 hx) ?_
  refine S.go false rfl (by repeat' (first | exact True.intro | refine And.intro ?_ ?_ | exact Qw _ | decide)) ?_
  refine S.retv rfl rfl rfl rfl ?_
  have e : Qb (QE u) 0 = u % 256 := by rw [Ua u 0 (by omega)]; simp
  have e2 : (QE u).getD (Int.toNat 0) 0 = u % 256 := by rw [<- e]; rfl
  simp only [SV.den]
  rw [e2, Vh (by omega)]
  congr 1
  exact decide_eq_decide.2 (by omega)
def lmC (x : List Int) : List SV := [.i .u64 (Qb x 0), .i .u64 (Qb x 1), .i .u64 (Qb x 2), .i .u64 (Qb x 3), .i .u64 (Qb x 4)]
def lm0 : List SV := [.i .u64 0, .i .u64 0, .i .u64 0, .i .u64 0, .i .u64 0]
theorem QdC {nb : List Int} (hn : Qd nb) {k : Nat} (hk : k < 256) : bits .and .u8 (nb.getD (Int.toNat ((255 - (k : Int)) / 8)) 0 / 2 ^ Int.toNat ((255 - (k : Int)) % 8)) 1 = Uy nb (255 - k) := by
  have e1 : Int.toNat ((255 - (k : Int)) / 8) = (255 - k) / 8 := by omega
  have e2 : Int.toNat ((255 - (k : Int)) % 8) = (255 - k) % 8 := by omega
  rw [e1, e2]
  have e3 : nb.getD ((255 - k) / 8) 0 = Qb nb ((255 - k) / 8) := by simp [Qb]
  rw [e3, Vh (Vv (hn.at _) _)]
  rfl
set_option maxHeartbeats 1000000 in
theorem DA {x nb : List Int} {u : Int} (hx : QH x u) (hn : Qd nb) (hl : nb.length = 32) : PV Tryd.prog gT 97 [lm x, .a .u8 nb 32] (lm (Zd x nb 256)) := by
  refine PV.mk' Tryd.func97 rfl rfl rfl rfl fun w L hL hG => ?_
  have hp := Jv x nb u hx hn
  refine S.enter Qh [lm x, .a .u8 nb 32] gT Tryd.func97 rfl rfl rfl (fun _ => rfl) hL hG ?_
  refine S.go false rfl (by repeat' (first | exact True.intro | refine And.intro ?_ ?_ | assumption | omega | exact rfl)) ?_
  refine S.cv rfl rfl rfl rfl rfl rfl (UX 1 (by omega)) ?_
  refine S.g false rfl ?_
  refine S.loop [2, 3, 4, 5] (fun k : Nat => [(9, .i .i64 (k : Int))]) (fun k => [(0, lmC x), (1, [.a .u8 nb 32]), (2, lm0), (3, lmC (Zd x nb k))]) (fun _ => []) (fun k => k <= 256) (fun k => 256 - k) 0 rfl (fun _ => rfl) (fun _ => rfl) rfl ⟨⟨rfl, rfl⟩, trivial⟩ (by repeat' (first | exact True.intro | refine And.intro ?_ ?_ | assumption | exact rfl)) (fun _ _ _ => trivial) (by omega) fun J k hk again => ?_
  have hk' : k <= 256 := hk
  refine S.g false rfl ?_
  refine S.cond rfl (fun c => ?_) (fun c => ?_)
  . have c' : k < 256 := by omega
    have hr := hp k hk'
    refine S.g false rfl ?_
    refine S.cv rfl rfl rfl rfl rfl rfl (XF (Zd x nb k) (Zd x nb k) hr.small hr.small) ?_
    refine S.go false rfl (by repeat' (first | exact True.intro | refine And.intro ?_ ?_ | assumption | omega | (show _ < (32 : Int); omega) | exact rfl)) ?_
    refine S.cond rfl (fun b => ?_) (fun b => ?_)
    . have b' : Uy nb (255 - k) = 1 := by rw [<- QdC hn c']; exact b
      have e : Zd x nb (k + 1) = Qm (QU (Qm (QU (Zd x nb k) (Zd x nb k))) x) := by rw [Zd, if_pos b']
      refine S.g false rfl ?_
      refine S.cv rfl rfl rfl rfl rfl rfl (XF (Qm (QU (Zd x nb k) (Zd x nb k))) x (QZ hr hr).small hx.small) ?_
      refine S.g false rfl ?_
      refine S.again (again (k + 1) (show k + 1 <= 256 by omega) (show 256 - (k + 1) < 256 - k by omega)) ⟨⟨rfl, by omega⟩, rfl, rfl, rfl, rfl, trivial⟩ ?_ rfl rfl (fun x hx => hx) rfl (fun ρ W h => h.hs)
      repeat' (first | exact True.intro | refine And.intro ?_ ?_ | assumption | (rw [e]; done) | exact rfl)
    . have b' : ¬ Uy nb (255 - k) = 1 := by rw [<- QdC hn c']; exact b
      have e : Zd x nb (k + 1) = Qm (QU (Zd x nb k) (Zd x nb k)) := by rw [Zd, if_neg b']
      refine S.g false rfl ?_
      refine S.again (again (k + 1) (show k + 1 <= 256 by omega) (show 256 - (k + 1) < 256 - k by omega)) ⟨⟨rfl, by omega⟩, rfl, rfl, rfl, rfl, trivial⟩ ?_ rfl rfl (fun x hx => hx) rfl (fun ρ W h => h.hs)
      repeat' (first | exact True.intro | refine And.intro ?_ ?_ | assumption | (rw [e]; done) | exact rfl)
  . obtain rfl : k = 256 := by omega
    refine S.g false rfl ?_
    exact S.retv rfl rfl rfl rfl rfl
def fill (k : Nat) : List Int := List.replicate k 255 ++ List.replicate (32 - k) 0
theorem QgS : ∀ k, k < 32 -> (fill k).set k 255 = fill (k + 1) := by decide +kernel
theorem FC {k : Nat} (h : k <= 32) : (fill k).length = 32 := by simp [fill]; omega
theorem QfK (lo hi : Int) : PV Tryd.prog gT 98 [.i .u8 lo, .i .u8 hi] (.a .u8 (ZM lo hi) 32) := by
  refine PV.mk' Tryd.func98 rfl rfl rfl rfl fun w L hL hG => ?_
  refine S.enter Qh [.i .u8 lo, .i .u8 hi] gT Tryd.func98 rfl rfl rfl (fun _ => rfl) hL hG ?_
  refine S.g false rfl ?_
  refine S.loop [0, 1, 4, 5] (fun k : Nat => [(7, .i .i64 (k : Int))]) (fun k => [(0, [.a .u8 (List.replicate 32 0) 32]), (1, [.a .u8 (fill k) 32])]) (fun _ => []) (fun k => k <= 32) (fun k => 32 - k) 0 rfl (fun _ => rfl) (fun _ => rfl) rfl ⟨⟨rfl, rfl⟩, trivial⟩ (by repeat' (first | exact True.intro | refine And.intro ?_ ?_ | assumption | exact rfl)) (fun _ _ _ => trivial) (by omega) fun J k hk again => ?_
  have hk' : k <= 32 := hk
  refine S.g false rfl ?_
  refine S.cond rfl (fun c => ?_) (fun c => ?_)
  . have c' : k < 32 := by omega
    refine S.go false rfl (by repeat' (first | exact True.intro | exact FC hk' | refine And.intro ?_ ?_ | omega | (show _ < (32 : Int); omega) | exact rfl)) ?_
    refine S.again (again (k + 1) (show k + 1 <= 32 by omega) (show 32 - (k + 1) < 32 - k by omega)) ⟨⟨rfl, by omega⟩, ⟨rfl, rfl⟩, ⟨rfl, rfl⟩, rfl, rfl, trivial⟩ ?_ rfl rfl (fun x hx => hx) rfl (fun ρ W h => h.hs)
    repeat' (first | exact True.intro | refine And.intro ?_ ?_ | assumption | exact Qc8 (QgS k c') | exact FC (show k + 1 <= 32 by omega) | exact rfl)
  . obtain rfl : k = 32 := by omega
    refine S.g false rfl ?_
    exact S.retv rfl rfl rfl rfl rfl
/-- An inverse. -/
def Fy (u : Int) : Int := u ^ (Qk (ZM 235 127) 32).toNat % pV
theorem KY {x : List Int} {u : Int} (hx : QH x u) : ∃ z, QH z (Fy u) /\ PV Tryd.prog gT 69 [lm x] (lm z) := by
  refine ⟨Zd x (ZM 235 127) 256, KL hx HX, ?_⟩
  have h1 := QfK 235 127
  have h2 := DA hx HX rfl
  generalize Zd x (ZM 235 127) 256 = z at *
  refine PV.mk' Tryd.func69 rfl rfl rfl rfl fun w L hL hG => ?_
  refine S.enter Qh [lm x] gT Tryd.func69 rfl rfl rfl (fun _ => rfl) hL hG ?_
  refine S.g false rfl ?_
  refine S.drp false [(1, .a .u8 (ZM 235 127) 32), (2, lm z)] rfl rfl rfl ?_ ?_
  . refine S.g false rfl ?_
    exact S.retv rfl rfl rfl rfl rfl
  . repeat' (first | exact True.intro | refine And.intro ?_ ?_ | assumption)
end Go.Proofs.YtbiboamaigedjaaDoor
namespace Go.Proofs.YtbiboamaigedjaaDoor
open Go.RowKit
set_option linter.unusedVariables false
set_option linter.constructorNameAsVariable false
set_option linter.unusedSimpArgs false
section
variable {c : Cx} {ks ks' : List It} {f f' : SF} {m m' : SM} {d : SD} {n n' : Nat} {Γ : List Qv} {cs : List Prop}
/-- So many steps. -/
theorem S.gn (k : Nat) (md : Bool) (h : run c.T md c.N d k ks f m n [] = (ks', f', m', n', cs)) (kk : S c ks' f' m' d n' Γ) (hc : QP cs := by repeat' (first | exact True.intro | exact fun h => h | refine And.intro ?_ ?_ | omega | exact rfl | (simp only [Int.reduceToNat, Int.reducePow]; omega) | intro _)) : S c ks f m d n Γ := XP h hc kk
theorem Qid {N : Nat} {a : Act} {ρ : Qy} {t : Nat} {v v' : SV} (ha : Fr N a (Qr ρ f)) (hl : lk f t = some v) (he : v.den ρ = v'.den ρ) : Fr N a (Qr ρ ((t, v') :: f)) := by
  refine ⟨ha.1, fun t' u hu => ?_⟩
  unfold Qr ZN at hu
  cases hk : Nat.beq t t' with
  | false => rw [hk] at hu; exact ha.2 t' u hu
  | true =>
    rw [hk] at hu
    cases hu
    have e := Nat.eq_of_beq_eq_true hk
    subst e
    rw [ha.2 t _ (XI hl), he]
theorem S.rd (t : Nat) {v : SV} (v' : SV) (hl : lk f t = some v) (he : ∀ ρ, v.den ρ = v'.den ρ) (k : S c ks ((t, v') :: f) m d n Γ) : S c ks f m d n Γ := fun ρ a w ha hW => k ρ a w (Qid ha hl (he ρ)) hW
theorem QaN {ρ : Qy} {L0 : List Nat} {w0 w : World} (h : WM ρ L0 w0 m d n Γ w) {k : Nat} {c0 c' : Cl} (hk : Xr m k = some c0) (he : Qg ρ c0 = Qg ρ c') (hok : X3 c') : WM ρ L0 w0 (Vn k c' m) d n Γ w := by
  have hkm := XK hk
  have hown : Xx ρ (Vn k c' m) L0 = Xx ρ m L0 := by unfold Xx; rw [Gx]
  refine ⟨fun x hx => ?_, fun x hx => ?_, by rw [Gx]; exact h.nod, fun x hx => ?_, h.bel, fun x hx => by rw [hown]; exact h.dat x hx, h.dky, h.ll, by rw [hown]; exact h.hs⟩
  . rcases Zq (Xn h.nod) hx with ⟨e1, e2⟩ | ⟨h1, h2⟩
    . rw [e1, e2, <- he]; exact ⟨(h.mem _ hkm).1, hok⟩
    . exact h.mem x h1
  . rcases Zq (Xn h.nod) hx with ⟨e1, e2⟩ | ⟨h1, h2⟩
    . rw [e1]; exact h.key _ hkm
    . exact h.key x h1
  . rcases Zq (Xn h.nod) hx with ⟨e1, e2⟩ | ⟨h1, h2⟩
    . rw [e1]; exact h.low _ hkm
    . exact h.low x h1
/-- A block's cells, told anew. -/
theorem S.recell (k : Nat) {c0 : Cl} (c' : Cl) (hk : Xr m k = some c0) (he : ∀ ρ, Qg ρ c0 = Qg ρ c') (hok : X3 c') (hm : Vn k c' m = m') (kk : S c ks f m' d n Γ) : S c ks f m d n Γ := fun ρ a w ha hW => kk ρ a w ha (by rw [<- hm]; exact QaN hW hk (he ρ) hok)
theorem Dj {n : Nat} : ∀ {l l' : List SV}, ZL n l = true -> ZL n l' = true -> ZL n (l ++ l') = true
  | [], l', _, h => h
  | x :: l, l', h, h' => by
    unfold ZL at h
    split at h
    . rename_i hx
      show ZL n (x :: (l ++ l')) = true
      unfold ZL
      rw [hx]
      exact Dj h h'
    . cases h
theorem Di {n : Nat} {l : List SV} (h : ZL n l = true) : ∀ k : Nat, ZL n (List.replicate k l).flatten = true
  | 0 => rfl
  | k + 1 => Dj h (Di h k)
/-- A new slice, of so many elements of nothing. -/
theorem S.make {ops : Array Oper} {o : Oper} {r : List Oper} {t s bytes : Nat} {ty : Nat} {x y : Operand} {K : IntKind} {z : Int} {i j : TI} {zl : List SV} (k : Nat) (ho : o.op = .makeSlice ty x y) (hd : o.dst = some t) (hx : unN (Z6 f x) = some (.i K z)) (hy : unN (Z6 f y) = some (.i K z)) (ht : apB c.P ty s bytes = true) (hi : c.T.get ty = some i) (hy2 : Nat.beq i.y 2 = true) (hj : c.T.get i.e = some j) (hz : j.z = some zl) (hk : z = (k : Int)) (hs : 0 < s) (hb : bytes * k <= 140737488355328)
    (kk : S c (.o ops r :: ks) ((t, .y n 0 k k) :: f) ((n, (List.replicate k zl).flatten) :: m) d (n + 1) Γ) (hf : wfF n f = true := by rfl) (hm : Ku n m = true := by rfl) (hdd : Kf n d = true := by rfl) (hg : Vt ops o f = some .on := by rfl) (hlt : Nat.blt t c.N = true := by rfl) (hml : k <= maxLen := by (unfold maxLen; omega)) : S c (.o ops (o :: r) :: ks) f m d n Γ := fun ρ a w ha hW => by
  subst hk
  have hx' := Jm (ρ := ρ) hx
  have hy' := Jm (ρ := ρ) hy
  simp only [SV.den] at hx' hy'
  have hwt := (ZP (ρ := ρ)).1 hg
  obtain ⟨z1, z2, Z, z3, z4⟩ := TT.zero c.ok hj hz
  obtain ⟨ti, hti, hsz⟩ := YR (TT.size c.ok hj)
  rw [hti] at z3
  simp only [Option.bind_some] at z3
  have hu := TT.slc c.ok hi hy2
  refine (WL.get (Qdi (r := Qg ρ zl) ho ht (fun e he => by
    rw [hu] at he
    cases he
    rw [hti]
    simp only [Option.bind_some, z3, Option.map_some, z4 ρ]) hx' hy' (by omega) hs (by omega) (by omega) hwt) hd (decide_eq_true (QA hlt)) (Q := Kn c ks) (rest := r) fun u W hu => ?_) a ha
  obtain ⟨rfl, _, hB, h2, h3⟩ := hu
  rw [Int.toNat_natCast] at hB ⊢
  have hW' := hW.new hm hdd (GA z1 k) (Vg (Nat.zero_le n) _ (Di z2 k)) (B := w.heap.size) (Nat.le_refl _) h2 (by rw [J0]; exact hB)
  intro a' ha'
  refine kk _ a' W ?_ hW'
  have e : Qr (ρ.setb n w.heap.size) f = Qr ρ f := (XY (Qy.setb_upto _ _ _) f hf).symm
  show Fr c.N a' ((t, (SV.y n 0 k k).den (ρ.setb n w.heap.size)) :: Qr (ρ.setb n w.heap.size) f)
  rw [e]
  simp only [SV.den, Qy.setb_at]
  exact ha'
/-- A call of a function of values and of what Xx blocks hold. -/
theorem S.cr {G : List Qv} {F : FuncId} {v : SV} {ops : Array Oper} {o : Oper} {r : List Oper} {t : Nat} {g : Operand} {xs : List Operand} {ts : Array TypeId} {caps vs : List SV} {mc : SM} (rk : List Nat)
    (ho : o.op = .call { callee := .value g, args := ⟨xs⟩, argTypes := ts }) (hg : Vt ops o f = some .on) (hF : Z6 f g = some (.f F caps)) (hx : GP f xs = some vs) (hd : o.dst = some t) (hlt : Nat.blt t c.N = true) (hm : Qdx m rk = some mc) (h : PR c.P G F (vs ++ caps) mc v) (k : S c (.o ops r :: ks) ((t, v) :: f) m d n Γ) (hG : ∀ L' W, Hs Γ L' W -> Hs G L' W := by first | exact fun _ _ h => h | exact fun _ _ h => Hs.pre h) : S c (.o ops (o :: r) :: ks) f m d n Γ := by
  obtain ⟨fn, hf, hn, hb⟩ := h.fn
  exact S.call (α := Unit) (sv := fun _ => v) (fs := fun _ => []) (pr := fun _ => True) ho hg hF hx hd hlt hf hn hb (fun ρ w hW => CX.any (h.h ρ w ⟨_, hG _ _ hW.hs⟩ fun x hx => hW.cell (U8 hm x hx).2)) (fun _ => h.wv) fun _ _ => by rw [List.append_nil]; exact k
end
/-- A slice that is read: its cells are known from here on. -/
theorem S.slc {c : Cx} {ks : List It} {f : SF} {m : SM} {d : SD} {n : Nat} {Γ : List Qv} (t : Nat) {a0 : Option Addr} {q cap s : Nat} {rs : List (List Value)} (cs : List SV) (hl : lk f t = some (.o a0 q cap)) (hB : ∀ ρ w, WM ρ c.L0 c.w0 m d n Γ w -> Hb s (Xx ρ m c.L0) w (.slice a0 q cap) rs) (hcr : rs.flatten = Qg Qu cs) (h0 : 0 < X2 cs) (k : S c ks ((t, .z n 0 q cap) :: f) m ((n, cs) :: d) (n + 1) Γ)
    (hok : X3 cs := by exact Yp rfl) (hcs : ZL 0 cs = true := by rfl) (wff : wfF n f = true := by rfl) (wfm : Ku n m = true := by rfl) (wfd : Kf n d = true := by rfl) : S c ks f m d n Γ := fun ρ a w ha hW => by
  obtain ⟨g0, g1, a1, cap1, g2, g3, g4, g5, g6⟩ := hB ρ w hW
  simp only [Value.slice.injEq] at g2
  obtain ⟨rfl, rfl, rfl⟩ := g2
  have hne : rs ≠ [] := fun e => by
    subst e
    have := congrArg List.length hcr
    rw [QJ Qu hok] at this
    simp at this
    omega
  obtain ⟨X, o, rfl, gX, gr⟩ := g6 hne
  rw [hcr] at gr
  have e0 : Qg Qu cs = Qg ρ cs := Q1 (fun k hk => absurd hk (Nat.not_lt_zero k)) cs hcs
  rw [e0] at gr
  have hD := hW.data (B := (X, o)) wfm wfd (Vg (Nat.zero_le n) cs hcs) hok h0 gX gr
  refine k (ρ.setd n (X, o)) a w ?_ hD
  have e1 : Qr (ρ.setd n (X, o)) f = Qr ρ f := (XY (Qy.setd_upto ρ n (X, o)) f wff).symm
  have e2 := XI (ρ := ρ) hl
  simp only [SV.den] at e2
  refine ⟨ha.1, fun t' v hv => ?_⟩
  simp only [Qr, SV.den, Qy.setd_at, Nat.add_zero] at hv
  rw [e1] at hv
  unfold ZN at hv
  cases hk : Nat.beq t t' with
  | false => rw [hk] at hv; exact ha.2 t' v hv
  | true =>
    rw [hk] at hv
    cases hv
    have e := Nat.eq_of_beq_eq_true hk
    subst e
    exact ha.2 t _ e2
/-- Several results that are told by the values alone. -/
theorem S.rett {c : Cx} {ks : List It} {f : SF} {m : SM} {d : SD} {n : Nat} {Γ : List Qv} {rs : List ResultVar} {a b : SV} {vs ws : List SV} {L : List Nat} (hR : c.R = fun v W => ∃ _ : Unit, v = (SV.t ws).den Qu /\ Hs [] L W /\ True) (hr : c.fn.results = ⟨rs⟩) (hv : Et c.T f m rs = some (a :: b :: vs)) (hw : ZL 0 (a :: b :: vs) = true) (he : Qt Qu (a :: b :: vs) = Qt Qu ws) : S c (.c .ret :: ks) f m d n Γ :=
  S.ret hr hv fun ρ W h => by
    rw [hR]
    refine ⟨(), ?_, trivial, trivial⟩
    show Value.tuple (Qt ρ (a :: b :: vs)).toArray = _
    rw [VZ hw ρ Qu, he]
    simp only [SV.den]
theorem Hs.none {Γ : List Qv} {L : List Nat} {w : World} (h : Hs Γ L w) : Hs Γ [] w := h.stp (Stp.refl _ _) fun _ hx => by cases hx
theorem LL.none (w : World) : LL [] w := fun _ hx => by cases hx
theorem PR.mk' {P : Program} {G : List Qv} {F : FuncId} {args : List SV} {mc : SM} {v : SV} {fn : Func} (hf : P.funcs[F]? = some fn) (hn : (fn.name == "runtime.NumGoroutine") = false) (hb : fn.body.isNone = false) (wv : v.wf 0 = true) (h : ∀ ρ w, Hs G [] w -> (∀ x ∈ mc, X8 w (ρ.b x.1) (Qg ρ x.2) /\ X3 x.2) -> CX P F (Qt ρ args) w [] (fun _ : Unit => v) (fun _ => []) (fun _ => True)) : PR P G F args mc v := ⟨⟨fn, hf, hn, hb⟩, wv, fun ρ w ⟨_, hG⟩ hm => h ρ w hG.none hm⟩
/-- A block as a slice of rows. -/
theorem X8.rows {w : World} {B s : Nat} {rows : List (List Value)} (h : X8 w B rows.flatten) (h0 : 0 < s) (hr : ∀ r ∈ rows, r.length = s) (hm : rows.length <= maxLen) : Hb s [] w (.slice (some ⟨B, 0, none⟩) rows.length rows.length) rows := by
  have := RwB.part (L := []) (lo := 0) (n := rows.length) (c := rows.length) (o1 := 0) ⟨h0, hr, hm, h⟩ (by simp) (by simp) (Nat.le_refl _) (by omega)
  simpa using this
end Go.Proofs.YtbiboamaigedjaaDoor
namespace Go.Proofs.YtbiboamaigedjaaDoor
open Go.RowKit
set_option linter.unusedVariables false
set_option linter.unusedSimpArgs false
set_option maxRecDepth 8000
set_option maxHeartbeats 2000000

theorem Qx (l : List Int) (k : Nat) : l.getD k 0 = Qb l k := by simp [Qb]
theorem Xb {f g : Nat -> Int} {n i : Nat} {v : Int} (hi : i < n) (h1 : ∀ j, j < n -> j ≠ i -> g j = f j) (h2 : g i = v) : ((List.range n).map f).set i v = (List.range n).map g := by
  refine List.ext_getElem (by simp) fun j q1 q2 => ?_
  simp only [List.length_map, List.length_range] at q2
  rw [List.getElem_set]
  split
  . rename_i e; subst e; simp [h2]
  . rename_i e; simp [h1 j (by simpa using q2) (fun e' => e e'.symm)]
/-- The words of which k bytes have been read. -/
def Hh (za : List Int) (n k : Nat) : List Int := (List.range n).map fun j => Qz za j (min 8 (k - 8 * j))
theorem Xz (za : List Int) (n k : Nat) : (Hh za n k).length = n := by simp [Hh]
theorem JJ (za : List Int) (n : Nat) : Hh za n 0 = List.replicate n 0 := by
  unfold Hh
  refine List.ext_getElem (by simp) fun j q1 q2 => ?_
  simp [Qz]
theorem GM (za : List Int) (n : Nat) : Hh za n (8 * n) = ZO za n := by
  unfold Hh ZO
  refine List.map_congr_left fun j hj => ?_
  rw [List.mem_range] at hj
  rw [Nat.min_eq_left (by omega)]
theorem JK {za : List Int} (hb : Qd za) {n k : Nat} (hk : k < 8 * n) : (Hh za n k).set (Int.toNat ((k : Int) / 8)) (bits .or .u64 ((Hh za n k).getD (Int.toNat ((k : Int) / 8)) 0) (IntKind.u64.wrap (za.getD (Int.toNat (k : Int)) 0 * 2 ^ Int.toNat (8 * ((k : Int) % 8))))) = Hh za n (k + 1) := by
  have e1 : Int.toNat ((k : Int) / 8) = k / 8 := by omega
  have e2 : Int.toNat (8 * ((k : Int) % 8)) = 8 * (k % 8) := by omega
  rw [e1, e2, Int.toNat_natCast, Qx, Qx]
  have hlt : k / 8 < n := by omega
  have e3 : Qb (Hh za n k) (k / 8) = Qz za (k / 8) (k % 8) := by
    unfold Hh Qb
    rw [List.getElem?_map, List.getElem?_range hlt]
    simp only [Option.map_some, Option.getD_some]
    rw [show min 8 (k - 8 * (k / 8)) = k % 8 by omega]
  rw [e3, DJ _ _ _ (by omega) (VG za hb _ _ (by omega)) (hb.at k)]
  unfold Hh
  refine Xb hlt (fun j hj hne => ?_) ?_
  . congr 1; omega
  . rw [show min 8 (k + 1 - 8 * (k / 8)) = k % 8 + 1 by omega, Qz, show 8 * (k / 8) + k % 8 = k by omega]
theorem Jr {za : List Int} (hb : Qd za) (k : Nat) : 0 <= za.getD k 0 /\ za.getD k 0 < 18446744073709551616 := by
  have := hb.at k
  rw [Qx]; omega
theorem DH : PV Tryd.prog gT 30 [] (.a .u64 Z0 4) := by
  have h : PV Tryd.prog gT 30 [] (.g [.i .u64 6346243789798364141, .i .u64 1503914060200516822, .i .u64 0, .i .u64 1152921504606846976]) := by
    refine PV.mk' Tryd.func30 rfl rfl rfl rfl fun w L hL hG => ?_
    refine S.enter Qh [] gT Tryd.func30 rfl rfl rfl (fun _ => rfl) hL hG ?_
    refine S.g false rfl ?_
    exact S.retv rfl rfl rfl rfl rfl
  exact h.res rfl rfl
set_option maxHeartbeats 1000000 in
theorem GI {za : List Int} (hb : Qd za) (hl : za.length = 32) : PV Tryd.prog gT 28 [.a .u8 za 32] (.a .u64 (Qc 4 (Qk za 32)) 4) := by
  rw [<- GJ za hb 4, <- GM za 4]
  refine PV.mk' Tryd.func28 rfl rfl rfl rfl fun w L hL hG => ?_
  refine S.enter Qh [.a .u8 za 32] gT Tryd.func28 rfl rfl rfl (fun _ => rfl) hL hG ?_
  refine S.go false rfl (by repeat' (first | exact True.intro | refine And.intro ?_ ?_ | assumption | omega | (dsimp only; omega) | (simp only [Nat.add_eq, Nat.mul_eq, Nat.sub_eq, SV.wd]; omega) | exact rfl)) ?_
  refine S.recell 2 [.a .u64 (Hh za 4 0) 4] rfl (fun ρ => by rw [JJ]; rfl) ⟨Xz za 4 0, trivial⟩ rfl ?_
  refine S.loop [2, 3, 6] (fun k : Nat => [(7, .i .i64 (k : Int))]) (fun k => [(1, [.i .u64 0, .i .u64 0, .i .u64 0, .i .u64 0]), (2, [.a .u64 (Hh za 4 k) 4])]) (fun _ => []) (fun k => k <= 32) (fun k => 32 - k) 0 rfl (fun _ => rfl) (fun _ => rfl) rfl ⟨⟨rfl, rfl⟩, trivial⟩ (by repeat' (first | exact True.intro | refine And.intro ?_ ?_ | exact Xz za 4 0 | exact rfl)) (fun _ _ _ => trivial) (by omega) fun J k hk again => ?_
  have hk' : k <= 32 := hk
  have hlen := Xz za 4 k
  have hlen' := Xz za 4 (k + 1)
  refine S.g false rfl ?_
  refine S.cond rfl (fun c => ?_) (fun c => ?_)
  . have c' : k < 32 := by omega
    have hr := Jr hb (Int.toNat (k : Int))
    refine S.go false rfl (by repeat' (first | exact True.intro | refine And.intro ?_ ?_ | assumption | omega | (dsimp only; omega) | (simp only [Nat.add_eq, Nat.mul_eq, Nat.sub_eq, SV.wd]; omega) | exact rfl)) ?_
    refine S.dr0 false rfl rfl rfl ?_ (by repeat' (first | exact True.intro | refine And.intro ?_ ?_ | assumption | omega | (dsimp only; omega) | (simp only [Nat.add_eq, Nat.mul_eq, Nat.sub_eq, SV.wd]; omega) | exact rfl))
    refine S.g false rfl ?_
    refine S.again (again (k + 1) (show k + 1 <= 32 by omega) (show 32 - (k + 1) < 32 - k by omega)) ⟨⟨rfl, by omega⟩, rfl, rfl, rfl, trivial⟩ ?_ rfl rfl (fun x hx => hx) rfl (fun ρ W h => h.hs)
    repeat' (first | exact True.intro | refine And.intro ?_ ?_ | exact congrArg (fun z => SV.a .u64 z 4) (JK hb (n := 4) (by omega)) | assumption | exact rfl)
  . obtain rfl : k = 32 := by omega
    refine S.go false rfl (by repeat' (first | exact True.intro | refine And.intro ?_ ?_ | assumption | omega | (dsimp only; omega) | (simp only [Nat.add_eq, Nat.mul_eq, Nat.sub_eq, SV.wd]; omega) | exact rfl)) ?_
    exact S.retv rfl rfl rfl rfl rfl
/-- Qd of words, as far as they have been told. -/
def btW (zs : List Int) (k : Nat) : List Int := (List.range 32).map fun i => if i < k then Jk zs i else 0
theorem ZH (zs : List Int) (k : Nat) : (btW zs k).length = 32 := by simp [btW]
theorem FU (zs : List Int) : btW zs 0 = List.replicate 32 0 := by
  unfold btW
  refine List.ext_getElem (by simp) fun j q1 q2 => ?_
  simp only [List.getElem_map, List.getElem_range, Nat.not_lt_zero, if_false, List.getElem_replicate]
theorem Qag (zs : List Int) : btW zs 32 = Zx zs 32 := by
  unfold btW Zx
  refine List.map_congr_left fun j hj => ?_
  rw [List.mem_range] at hj
  rw [if_pos hj]
theorem FV {zs : List Int} {k : Nat} (hk : k < 32) : (btW zs k).set (Int.toNat (k : Int)) (IntKind.u8.wrap (zs.getD (Int.toNat ((k : Int) / 8)) 0 / 2 ^ Int.toNat (8 * ((k : Int) % 8)))) = btW zs (k + 1) := by
  have e1 : Int.toNat ((k : Int) / 8) = k / 8 := by omega
  have e2 : Int.toNat (8 * ((k : Int) % 8)) = 8 * (k % 8) := by omega
  rw [e1, e2, Int.toNat_natCast, Qx]
  refine Xb hk (fun j hj hne => ?_) ?_
  . by_cases h : j < k
    . rw [if_pos (by omega), if_pos h]
    . rw [if_neg (by omega), if_neg h]
  . rw [if_pos (by omega)]
    unfold Jk
    rw [IntKind.wrap_u8']
set_option maxHeartbeats 1000000 in
theorem Qae (v : Int) : PV Tryd.prog gT 41 [.a .u64 (Qc 4 v) 4] (.a .u8 (QE v) 32) := by
  have hv : QE v = btW (Qc 4 v) 32 := (Qag _).symm
  rw [hv]
  have hnl := Qa 4 v
  generalize Qc 4 v = zs at *
  refine PV.mk' Tryd.func41 rfl rfl rfl rfl fun w L hL hG => ?_
  refine S.enter Qh [.a .u64 zs 4] gT Tryd.func41 rfl rfl rfl (fun _ => rfl) hL hG ?_
  refine S.go false rfl (by repeat' (first | exact True.intro | refine And.intro ?_ ?_ | assumption | omega | (dsimp only; omega) | (simp only [Nat.add_eq, Nat.mul_eq, Nat.sub_eq, SV.wd]; omega) | exact rfl)) ?_
  refine S.recell 2 [.a .u8 (btW zs 0) 32] rfl (fun ρ => by rw [FU]) ⟨ZH zs 0, trivial⟩ rfl ?_
  refine S.loop [1, 2, 3] (fun k : Nat => [(5, .i .i64 (k : Int))]) (fun k => [(0, [.a .u64 zs 4]), (1, [.a .u8 (List.replicate 32 0) 32]), (2, [.a .u8 (btW zs k) 32])]) (fun _ => []) (fun k => k <= 32) (fun k => 32 - k) 0 rfl (fun _ => rfl) (fun _ => rfl) rfl ⟨⟨rfl, rfl⟩, trivial⟩ (by repeat' (first | exact True.intro | refine And.intro ?_ ?_ | exact ZH zs 0 | assumption | exact rfl)) (fun _ _ _ => trivial) (by omega) fun J k hk again => ?_
  have hk' : k <= 32 := hk
  have hlen := ZH zs k
  have hlen' := ZH zs (k + 1)
  refine S.g false rfl ?_
  refine S.cond rfl (fun c => ?_) (fun c => ?_)
  . have c' : k < 32 := by omega
    refine S.gn 18 false rfl ?_ (by repeat' (first | exact True.intro | refine And.intro ?_ ?_ | assumption | omega | (dsimp only; omega) | (simp only [Nat.add_eq, Nat.mul_eq, Nat.sub_eq, SV.wd]; omega) | exact rfl))
    refine S.gn 1 true rfl ?_ (by repeat' (first | exact True.intro | refine And.intro ?_ ?_ | assumption | omega | (dsimp only; omega) | (simp only [Nat.add_eq, Nat.mul_eq, Nat.sub_eq, SV.wd]; omega) | exact rfl))
    refine S.g false rfl ?_
    refine S.again (again (k + 1) (show k + 1 <= 32 by omega) (show 32 - (k + 1) < 32 - k by omega)) ⟨⟨rfl, by omega⟩, rfl, rfl, rfl, trivial⟩ ?_ rfl rfl (fun x hx => hx) rfl (fun ρ W h => h.hs)
    repeat' (first | exact True.intro | refine And.intro ?_ ?_ | exact congrArg (fun z => SV.a .u8 z 32) (FV c') | assumption | exact rfl)
  . obtain rfl : k = 32 := by omega
    refine S.go false rfl (by repeat' (first | exact True.intro | refine And.intro ?_ ?_ | assumption | omega | (dsimp only; omega) | (simp only [Nat.add_eq, Nat.mul_eq, Nat.sub_eq, SV.wd]; omega) | exact rfl)) ?_
    exact S.retv rfl rfl rfl rfl rfl
theorem Do (x y b : Int) (hx : 0 <= x) (hy : 0 <= y) (hy1 : y < 18446744073709551616) (hb0 : 0 <= b) (hb : b <= 1) : PE Tryd.prog 60 [.i .u64 x, .i .u64 y, .i .u64 b] (.t [.i .u64 ((x - y - b) % 18446744073709551616), .i .u64 (bor x y b)]) := ⟨rfl, rfl, fun w => by
  show (callFunc 60 #[.int .u64 x, .int .u64 y, .int .u64 b]).run Tryd.prog w = _
  obtain ⟨x, rfl⟩ := Int.eq_ofNat_of_zero_le hx
  obtain ⟨y, rfl⟩ := Int.eq_ofNat_of_zero_le hy
  obtain ⟨b, rfl⟩ := Int.eq_ofNat_of_zero_le hb0
  have e1 : (((x + 18446744073709551616 - y - b) % 18446744073709551616 : Nat) : Int) = ((x : Int) - y - b) % 18446744073709551616 := by omega
  have e2 : ((if x < y + b then 1 else 0 : Nat) : Int) = bor x y b := by unfold bor; split <;> split <;> omega
  rw [<- e1, <- e2, run_callFunc_extern Tryd.func60 (by kernel_rfl) (by kernel_rfl) (by kernel_rfl) (e := sub64Entry) (by kernel_rfl), run_sub64 x y b (by omega)]
  rfl⟩
/-- A difference, as far as it has been reckoned. -/
def sbW (xs ys : List Int) (k : Nat) : List Int := (List.range 4).map fun j => if j < k then Ec xs ys j else 0
theorem ZE (xs ys : List Int) (k : Nat) : (sbW xs ys k).length = 4 := by simp [sbW]
theorem Ds (xs ys : List Int) : sbW xs ys 4 = Zm xs ys 4 := by
  unfold sbW Zm
  refine List.map_congr_left fun j hj => ?_
  rw [List.mem_range] at hj
  rw [if_pos hj]
theorem HI {xs ys : List Int} {k : Nat} (hk : k < 4) : (sbW xs ys k).set (Int.toNat (k : Int)) ((xs.getD (Int.toNat (k : Int)) 0 - ys.getD (Int.toNat (k : Int)) 0 - Vw xs ys k) % 18446744073709551616) = sbW xs ys (k + 1) := by
  rw [Int.toNat_natCast, Qx, Qx]
  refine Xb hk (fun j hj hne => ?_) ?_
  . by_cases h : j < k
    . rw [if_pos (by omega), if_pos h]
    . rw [if_neg (by omega), if_neg h]
  . rw [if_pos (by omega)]
    rfl
set_option maxHeartbeats 1000000 in
theorem QcW {xs ys : List Int} (hx : Qn xs) (hy : Qn ys) (hl : xs.length = 4) (hm : ys.length = 4) : PV Tryd.prog gT 29 [.a .u64 xs 4, .a .u64 ys 4] (.t [.a .u64 (Zm xs ys 4) 4, .i .u64 (Vw xs ys 4)]) := by
  rw [<- Ds]
  refine PV.mk' Tryd.func29 rfl rfl rfl rfl fun w L hL hG => ?_
  refine S.enter Qh [.a .u64 xs 4, .a .u64 ys 4] gT Tryd.func29 rfl rfl rfl (fun _ => rfl) hL hG ?_
  refine S.go false rfl (by repeat' (first | exact True.intro | refine And.intro ?_ ?_ | assumption | omega | (dsimp only; omega) | (simp only [Nat.add_eq, Nat.mul_eq, Nat.sub_eq, SV.wd]; omega) | exact rfl)) ?_
  refine S.recell 3 [.a .u64 (sbW xs ys 0) 4] rfl (fun ρ => rfl) ⟨ZE xs ys 0, trivial⟩ rfl ?_
  refine S.loop [2, 3, 4, 6] (fun k : Nat => [(7, .i .u64 (Vw xs ys k)), (9, .i .i64 (k : Int))]) (fun k => [(0, [.a .u64 xs 4]), (1, [.a .u64 ys 4]), (2, [.i .u64 0, .i .u64 0, .i .u64 0, .i .u64 0]), (3, [.a .u64 (sbW xs ys k) 4])]) (fun _ => []) (fun k => k <= 4) (fun k => 4 - k) 0 rfl (fun _ => rfl) (fun _ => rfl) rfl ⟨⟨rfl, rfl⟩, ⟨rfl, rfl⟩, trivial⟩ (by repeat' (first | exact True.intro | refine And.intro ?_ ?_ | exact ZE xs ys 0 | assumption | exact rfl)) (fun _ _ _ => trivial) (by omega) fun J k hk again => ?_
  have hk' : k <= 4 := hk
  have hlen := ZE xs ys k
  have hlen' := ZE xs ys (k + 1)
  refine S.g false rfl ?_
  refine S.cond rfl (fun c => ?_) (fun c => ?_)
  . have c' : k < 4 := by omega
    have hb := Jb xs ys k
    have h1 := hx.at k
    have h2 := hy.at k
    have e1 : xs.getD (Int.toNat (k : Int)) 0 = Qb xs k := by rw [Int.toNat_natCast, Qx]
    have e2 : ys.getD (Int.toNat (k : Int)) 0 = Qb ys k := by rw [Int.toNat_natCast, Qx]
    have hE := Do (xs.getD (Int.toNat (k : Int)) 0) (ys.getD (Int.toNat (k : Int)) 0) (Vw xs ys k) (by omega) (by omega) (by omega) hb.1 hb.2
    refine S.g false rfl ?_
    refine S.dre (G := gT) false [(8, .t [.i .u64 ((xs.getD (Int.toNat (k : Int)) 0 - ys.getD (Int.toNat (k : Int)) 0 - Vw xs ys k) % 18446744073709551616), .i .u64 (bor (xs.getD (Int.toNat (k : Int)) 0) (ys.getD (Int.toNat (k : Int)) 0) (Vw xs ys k))])] [] [8] rfl rfl rfl ?_ (by repeat' (first | exact True.intro | refine And.intro ?_ ?_ | assumption | omega | (dsimp only; omega) | (simp only [Nat.add_eq, Nat.mul_eq, Nat.sub_eq, SV.wd]; omega) | exact rfl))
    refine S.g false rfl ?_
    refine S.again (again (k + 1) (show k + 1 <= 4 by omega) (show 4 - (k + 1) < 4 - k by omega)) ⟨⟨rfl, by rw [e1, e2]; rfl⟩, ⟨rfl, by omega⟩, rfl, rfl, rfl, rfl, trivial⟩ ?_ rfl rfl (fun x hx => hx) rfl (fun ρ W h => h.hs)
    repeat' (first | exact True.intro | refine And.intro ?_ ?_ | exact congrArg (fun z => SV.a .u64 z 4) (HI c') | assumption | exact rfl)
  . obtain rfl : k = 4 := by omega
    refine S.go false rfl (by repeat' (first | exact True.intro | refine And.intro ?_ ?_ | assumption | omega | (dsimp only; omega) | (simp only [Nat.add_eq, Nat.mul_eq, Nat.sub_eq, SV.wd]; omega) | exact rfl)) ?_
    exact S.rett rfl rfl rfl rfl rfl
theorem QhY {xs : List Int} (hx : Qn xs) (hl : xs.length = 4) : PV Tryd.prog gT 73 [.a .u64 xs 4] (.a .u64 (J1 xs) 4) := by
  have h1 := DH
  have h2 := QcW hx XR hl rfl
  have hb := Ja xs Z0 hx XR 4
  have hsl : (Zm xs Z0 4).length = 4 := by simp [Zm]
  have hc : J1 xs = if Vw xs Z0 4 = 1 then xs else Zm xs Z0 4 := by
    unfold J1
    rw [hb]
    split <;> simp
  rw [hc]
  generalize Vw xs Z0 4 = b at *
  generalize Zm xs Z0 4 = ds at *
  clear hb hc
  refine PV.mk' Tryd.func73 rfl rfl rfl rfl fun w L hL hG => ?_
  refine S.enter Qh [.a .u64 xs 4] gT Tryd.func73 rfl rfl rfl (fun _ => rfl) hL hG ?_
  refine S.go false rfl (by repeat' (first | exact True.intro | refine And.intro ?_ ?_ | assumption | omega | (dsimp only; omega) | (simp only [Nat.add_eq, Nat.mul_eq, Nat.sub_eq, SV.wd]; omega) | exact rfl)) ?_
  refine S.drp false [(1, .a .u64 Z0 4), (2, .t [.a .u64 ds 4, .i .u64 b])] rfl rfl rfl ?_ (by repeat' (first | exact True.intro | refine And.intro ?_ ?_ | assumption | omega | (dsimp only; omega) | (simp only [Nat.add_eq, Nat.mul_eq, Nat.sub_eq, SV.wd]; omega) | exact rfl))
  refine S.g false rfl ?_
  refine S.cond rfl (fun c => ?_) (fun c => ?_)
  . rw [if_pos c]
    refine S.go false rfl (by repeat' (first | exact True.intro | refine And.intro ?_ ?_ | assumption | omega | (dsimp only; omega) | (simp only [Nat.add_eq, Nat.mul_eq, Nat.sub_eq, SV.wd]; omega) | exact rfl)) ?_
    exact S.retv rfl rfl rfl rfl rfl
  . rw [if_neg c]
    refine S.go false rfl (by repeat' (first | exact True.intro | refine And.intro ?_ ?_ | assumption | omega | (dsimp only; omega) | (simp only [Nat.add_eq, Nat.mul_eq, Nat.sub_eq, SV.wd]; omega) | exact rfl)) ?_
    exact S.retv rfl rfl rfl rfl rfl
theorem Qbg {xs : List Int} (hx : Qn xs) (hl : xs.length = 4) {b : Int} (hb : 0 <= b /\ b <= 1) : PV Tryd.prog gT 72 [.a .u64 xs 4, .i .u64 b] (.a .u64 (UO xs b) 4) := by
  have x0 := hx.at 0; have x1 := hx.at 1; have x2 := hx.at 2; have x3 := hx.at 3
  have e0 := GY (Qb xs 0) b hb
  have e1 := GY (Qb xs 1) (Qb xs 0 / 9223372036854775808) (by omega)
  have e2 := GY (Qb xs 2) (Qb xs 1 / 9223372036854775808) (by omega)
  have e3 := GY (Qb xs 3) (Qb xs 2 / 9223372036854775808) (by omega)
  have h : PV Tryd.prog gT 72 [.a .u64 xs 4, .i .u64 b] (.g [.i .u64 (bits .or .u64 (IntKind.u64.wrap (xs.getD 0 0 * 2 ^ Int.toNat 1)) b), .i .u64 (bits .or .u64 (IntKind.u64.wrap (xs.getD 1 0 * 2 ^ Int.toNat 1)) (xs.getD 0 0 / 2 ^ Int.toNat 63)), .i .u64 (bits .or .u64 (IntKind.u64.wrap (xs.getD 2 0 * 2 ^ Int.toNat 1)) (xs.getD 1 0 / 2 ^ Int.toNat 63)), .i .u64 (bits .or .u64 (IntKind.u64.wrap (xs.getD 3 0 * 2 ^ Int.toNat 1)) (xs.getD 2 0 / 2 ^ Int.toNat 63))]) := by
    refine PV.mk' Tryd.func72 rfl rfl rfl rfl fun w L hL hG => ?_
    refine S.enter Qh [.a .u64 xs 4, .i .u64 b] gT Tryd.func72 rfl rfl rfl (fun _ => rfl) hL hG ?_
    refine S.go false rfl (by repeat' (first | exact True.intro | refine And.intro ?_ ?_ | assumption | omega | (dsimp only; omega) | (simp only [Nat.add_eq, Nat.mul_eq, Nat.sub_eq, SV.wd]; omega) | exact rfl)) ?_
    exact S.retv rfl rfl rfl rfl rfl
  refine h.res ?_ rfl
  simp only [Qx, show Int.toNat 1 = 1 from rfl, show Int.toNat 63 = 63 from rfl, Int.reducePow]
  rw [e0, e1, e2, e3]
  rfl
def HN (xs : List Int) (k : Nat) : List Int := Qc 4 (Qf xs 8 / 2 ^ (512 - k) % QD)
theorem UY (xs : List Int) (k : Nat) : (HN xs k).length = 4 := Qa _ _
theorem Y0 (xs : List Int) (k : Nat) : Qn (HN xs k) := Qo _ _
theorem Qes (xs : List Int) (k : Nat) : Qf (HN xs k) 4 = Qf xs 8 / 2 ^ (512 - k) % QD := by
  have h : 0 <= Qf xs 8 / 2 ^ (512 - k) % QD /\ Qf xs 8 / 2 ^ (512 - k) % QD < 2 ^ 256 := by unfold QD; omega
  exact QC h.1 h.2
theorem Qb3 {xs : List Int} (hx : Qn xs) : HN xs 0 = [0, 0, 0, 0] := by
  have h8 := Xl xs hx 8
  unfold HN
  rw [Nat.sub_zero, Int.ediv_eq_zero_of_lt h8.1 h8.2]
  decide +kernel
theorem Qb4 {xs : List Int} (hx : Qn xs) {k : Nat} (hk : k < 512) : J1 (UO (HN xs k) (J6 xs (511 - k))) = HN xs (k + 1) := by
  have hb := J5 xs (511 - k)
  have hd := Vu (HN xs k) (Y0 xs k) _ hb
  exact Y2 (EZ hd) (FO rfl) (Qb2 xs hx (HN xs k) (Y0 xs k) 8 k (by omega) (Qes xs k))
theorem QiM {xs : List Int} (hx : Qn xs) {k : Nat} (hk : k < 512) : bits .and .u64 (xs.getD (Int.toNat ((511 - (k : Int)) / 64)) 0 / 2 ^ Int.toNat ((511 - (k : Int)) % 64)) 1 = J6 xs (511 - k) := by
  have e1 : Int.toNat ((511 - (k : Int)) / 64) = (511 - k) / 64 := by omega
  have e2 : Int.toNat ((511 - (k : Int)) % 64) = (511 - k) % 64 := by omega
  rw [e1, e2, Qx]
  have hx64 := hx.at ((511 - k) / 64)
  have h0 : 0 <= Qb xs ((511 - k) / 64) / 2 ^ ((511 - k) % 64) := Int.ediv_nonneg hx64.1 (Int.le_of_lt (QI _))
  have h1 : Qb xs ((511 - k) / 64) / 2 ^ ((511 - k) % 64) <= Qb xs ((511 - k) / 64) := Int.ediv_le_self _ hx64.1
  exact XE _ 1 1 rfl (by omega) h0 (by omega)
set_option maxHeartbeats 1000000 in
theorem KF {xs : List Int} (hx : Qn xs) (hl : xs.length = 8) : PV Tryd.prog gT 40 [.a .u64 xs 8] (.a .u64 (Qc 4 (Qf xs 8 % QD)) 4) := by
  have e : Qc 4 (Qf xs 8 % QD) = HN xs 512 := by unfold HN; simp
  rw [e]
  refine PV.mk' Tryd.func40 rfl rfl rfl rfl fun w L hL hG => ?_
  refine S.enter Qh [.a .u64 xs 8] gT Tryd.func40 rfl rfl rfl (fun _ => rfl) hL hG ?_
  refine S.go false rfl (by repeat' (first | exact True.intro | refine And.intro ?_ ?_ | assumption | omega | (dsimp only; omega) | (simp only [Nat.add_eq, Nat.mul_eq, Nat.sub_eq, SV.wd]; omega) | exact rfl)) ?_
  refine S.recell 2 [.a .u64 (HN xs 0) 4] rfl (fun ρ => by rw [Qb3 hx]; rfl) ⟨UY xs 0, trivial⟩ rfl ?_
  refine S.loop [1, 2, 3] (fun k : Nat => [(6, .i .i64 (k : Int))]) (fun k => [(0, [.a .u64 xs 8]), (1, [.i .u64 0, .i .u64 0, .i .u64 0, .i .u64 0]), (2, [.a .u64 (HN xs k) 4])]) (fun _ => []) (fun k => k <= 512) (fun k => 512 - k) 0 rfl (fun _ => rfl) (fun _ => rfl) rfl ⟨⟨rfl, rfl⟩, trivial⟩ (by repeat' (first | exact True.intro | refine And.intro ?_ ?_ | exact UY xs 0 | assumption | exact rfl)) (fun _ _ _ => trivial) (by omega) fun J k hk again => ?_
  have hk' : k <= 512 := hk
  have hlen := UY xs k
  have hlen' := UY xs (k + 1)
  refine S.g false rfl ?_
  refine S.cond rfl (fun c => ?_) (fun c => ?_)
  . have c' : k < 512 := by omega
    have hb := J5 xs (511 - k)
    have hbe := QiM hx c'
    have h1 := (Qbg (Y0 xs k) hlen hb)
    have h2 := QhY (Vu (HN xs k) (Y0 xs k) _ hb) rfl
    rw [Qb4 hx c'] at h2
    rw [<- hbe] at h1
    have hdl : (UO (HN xs k) (J6 xs (511 - k))).length = 4 := rfl
    rw [hbe] at h1
    generalize UO (HN xs k) (J6 xs (511 - k)) = ds at *
    rw [<- hbe] at h1
    refine S.g false rfl ?_
    refine S.drp false [(9, .a .u64 ds 4), (10, .a .u64 (HN xs (k + 1)) 4)] rfl rfl rfl ?_ (by repeat' (first | exact True.intro | refine And.intro ?_ ?_ | assumption | omega | (dsimp only; omega) | (simp only [Nat.add_eq, Nat.mul_eq, Nat.sub_eq, SV.wd]; omega) | exact rfl))
    refine S.g false rfl ?_
    refine S.again (again (k + 1) (show k + 1 <= 512 by omega) (show 512 - (k + 1) < 512 - k by omega)) ⟨⟨rfl, by omega⟩, rfl, rfl, rfl, trivial⟩ ?_ rfl rfl (fun x hx => hx) rfl (fun ρ W h => h.hs)
    repeat' (first | exact True.intro | refine And.intro ?_ ?_ | assumption | exact rfl)
  . obtain rfl : k = 512 := by omega
    refine S.go false rfl (by repeat' (first | exact True.intro | refine And.intro ?_ ?_ | assumption | omega | (dsimp only; omega) | (simp only [Nat.add_eq, Nat.mul_eq, Nat.sub_eq, SV.wd]; omega) | exact rfl)) ?_
    exact S.retv rfl rfl rfl rfl rfl
structure TSt where
  k : Nat
  p : List Int
structure TIn where
  j : Nat
  p : List Int
  c : Int
/-- One product among words, and what is carried. -/
theorem QhJ {x y p c : Int} (hx : 0 <= x /\ x < 18446744073709551616) (hy : 0 <= y /\ y < 18446744073709551616) (hp : 0 <= p /\ p < 18446744073709551616) (hc : 0 <= c /\ c < 18446744073709551616) :
    (0 <= x * y / 18446744073709551616 /\ x * y / 18446744073709551616 < 18446744073709551616) /\ (0 <= x * y % 18446744073709551616 /\ x * y % 18446744073709551616 < 18446744073709551616) /\ (0 <= x * y / 18446744073709551616 + (x * y % 18446744073709551616 + p + 0) / 18446744073709551616 /\ x * y / 18446744073709551616 + (x * y % 18446744073709551616 + p + 0) / 18446744073709551616 < 18446744073709551616) /\ (0 <= x * y / 18446744073709551616 + (x * y % 18446744073709551616 + p + 0) / 18446744073709551616 + ((x * y % 18446744073709551616 + p + 0) % 18446744073709551616 + c + 0) / 18446744073709551616 /\ x * y / 18446744073709551616 + (x * y % 18446744073709551616 + p + 0) / 18446744073709551616 + ((x * y % 18446744073709551616 + p + 0) % 18446744073709551616 + c + 0) / 18446744073709551616 < 18446744073709551616) /\ ((x * y % 18446744073709551616 + p + 0) % 18446744073709551616 + c + 0) % 18446744073709551616 + (x * y / 18446744073709551616 + (x * y % 18446744073709551616 + p + 0) / 18446744073709551616 + ((x * y % 18446744073709551616 + p + 0) % 18446744073709551616 + c + 0) / 18446744073709551616) * 18446744073709551616 = x * y + p + c := by
  have hm := KT (p := p) (c := c) hx hy
  generalize x * y = m at *
  omega
set_option maxHeartbeats 4000000 in
theorem Qd5 {xs ys cs : List Int} (hx : Qn xs) (hy : Qn ys) (hc : Qn cs) (hxl : xs.length = 4) (hyl : ys.length = 4) (hcl : cs.length = 4) : PV Tryd.prog gT 50 [.a .u64 xs 4, .a .u64 ys 4, .a .u64 cs 4] (.a .u64 (Qc 8 (Qf cs 4 + Qf xs 4 * Qf ys 4)) 8) := by
  refine PV.mk' Tryd.func50 rfl rfl rfl rfl fun w L hL hG => ?_
  refine S.enter Qh [.a .u64 xs 4, .a .u64 ys 4, .a .u64 cs 4] gT Tryd.func50 rfl rfl rfl (fun _ => rfl) hL hG ?_
  refine S.go false rfl (by repeat' (first | exact True.intro | refine And.intro ?_ ?_ | assumption | omega | (dsimp only; omega) | (simp only [Nat.add_eq, Nat.mul_eq, Nat.sub_eq, SV.wd]; omega) | exact rfl)) ?_
  refine S.recell 4 [.a .u64 (List.replicate 8 0) 8] rfl (fun ρ => rfl) ⟨rfl, trivial⟩ rfl ?_
  refine S.dr0 false rfl rfl rfl ?_ (by repeat' (first | exact True.intro | refine And.intro ?_ ?_ | exact rfl | decide))
  have hpl : (cs ++ [0, 0, 0, 0]).length = 8 := by simp [hcl]
  refine S.recell 4 [.a .u64 (cs ++ [0, 0, 0, 0]) 8] rfl (fun ρ => congrArg (fun z => Qg ρ [SV.a .u64 z 8]) (by
    show (List.take 0 _ ++ (List.take (Nat.min 4 8) (List.drop 0 cs) ++ List.drop (Nat.add 0 (Nat.min 4 8)) (List.replicate 8 (0 : Int)))) = _
    rw [List.drop_zero, List.take_zero, show Nat.min 4 8 = 4 from rfl, List.take_of_length_le (by omega)]
    rfl)) ⟨hpl, trivial⟩ rfl ?_
  refine S.g false rfl ?_
  refine S.loop [3, 4, 5, 6, 7] (fun s : TSt => [(18, .i .i64 (s.k : Int))]) (fun s => [(0, [.a .u64 xs 4]), (1, [.a .u64 ys 4]), (2, [.a .u64 cs 4]), (3, [.i .u64 0, .i .u64 0, .i .u64 0, .i .u64 0, .i .u64 0, .i .u64 0, .i .u64 0, .i .u64 0]), (4, [.a .u64 s.p 8])]) (fun _ => []) (fun s => s.k <= 4 /\ Qn s.p /\ s.p.length = 8 /\ Qf s.p 8 = Qf cs 4 + Qf xs s.k * Qf ys 4) (fun s => 4 - s.k) ⟨0, cs ++ [0, 0, 0, 0]⟩ rfl (fun _ => rfl) (fun _ => rfl) rfl ⟨⟨rfl, rfl⟩, trivial⟩ (by repeat' (first | exact True.intro | refine And.intro ?_ ?_ | assumption | exact rfl)) (fun _ _ _ => trivial) ⟨by show (0 : Nat) <= 4; omega, QaS hc, hpl, by rw [QbA cs hcl]; simp [Qf]⟩ fun J s hs again => ?_
  obtain ⟨k, ps⟩ := s
  obtain ⟨hk, hpw, hpl2, hpv⟩ := hs
  simp only at hk hpw hpl2 hpv
  dsimp only
  refine S.g false rfl ?_
  refine S.cond rfl (fun c => ?_) (fun c => ?_)
  . have ck : k < 4 := by omega
    refine S.g false rfl ?_
    refine S.loop [3, 4, 5, 6, 7, 8, 18] (fun s : TIn => [(9, .i .u64 s.c), (21, .i .i64 (s.j : Int))]) (fun s => [(0, [.a .u64 xs 4]), (1, [.a .u64 ys 4]), (2, [.a .u64 cs 4]), (3, [.i .u64 0, .i .u64 0, .i .u64 0, .i .u64 0, .i .u64 0, .i .u64 0, .i .u64 0, .i .u64 0]), (4, [.a .u64 s.p 8])]) (fun _ => []) (fun s => s.j <= 4 /\ Qn s.p /\ s.p.length = 8 /\ (0 <= s.c /\ s.c < 18446744073709551616) /\ Qf s.p 8 + s.c * 2 ^ (64 * (k + s.j)) = (Qf cs 4 + Qf xs k * Qf ys 4) + Qb xs k * Qf ys s.j * 2 ^ (64 * k)) (fun s => 4 - s.j) ⟨0, ps, 0⟩ rfl (fun _ => rfl) (fun _ => rfl) rfl ⟨⟨rfl, rfl⟩, ⟨rfl, rfl⟩, trivial⟩ (by repeat' (first | exact True.intro | refine And.intro ?_ ?_ | assumption | exact rfl)) (fun _ _ _ => trivial) ⟨by show (0 : Nat) <= 4; omega, hpw, hpl2, ⟨by show (0 : Int) <= 0; omega, by show (0 : Int) < 18446744073709551616; omega⟩, by rw [hpv]; simp [Qf]⟩ fun J2 s2 hs2 again2 => ?_
    obtain ⟨j, qs, e⟩ := s2
    obtain ⟨hj, hqw, hql, he, hqv⟩ := hs2
    simp only at hj hqw hql he hqv
    dsimp only
    refine S.g false rfl ?_
    refine S.cond rfl (fun c2 => ?_) (fun c2 => ?_)
    . have cj : j < 4 := by omega
      have e1 : xs.getD (Int.toNat (k : Int)) 0 = Qb xs k := by rw [Int.toNat_natCast, Qx]
      have e2 : ys.getD (Int.toNat (j : Int)) 0 = Qb ys j := by rw [Int.toNat_natCast, Qx]
      have e4 : Int.toNat ((k : Int) + (j : Int)) = k + j := by omega
      have e3 : qs.getD (Int.toNat ((k : Int) + (j : Int))) 0 = Qb qs (k + j) := by rw [e4, Qx]
      have hxk : 0 <= xs.getD (Int.toNat (k : Int)) 0 /\ xs.getD (Int.toNat (k : Int)) 0 < 18446744073709551616 := by rw [e1]; exact hx.at k
      have hyj : 0 <= ys.getD (Int.toNat (j : Int)) 0 /\ ys.getD (Int.toNat (j : Int)) 0 < 18446744073709551616 := by rw [e2]; exact hy.at j
      have hqj : 0 <= qs.getD (Int.toNat ((k : Int) + (j : Int))) 0 /\ qs.getD (Int.toNat ((k : Int) + (j : Int))) 0 < 18446744073709551616 := by rw [e3]; exact hqw.at (k + j)
      obtain ⟨m1, m2, m3, m4, m5⟩ := QhJ hxk hyj hqj he
      have hM := U4 _ _ hxk hyj
      have hstep := HK qs xs ys k j _ e _ _ hql ck cj hqv (by rw [<- e1, <- e2, <- e3]; exact m5)
      generalize xs.getD (Int.toNat (k : Int)) 0 * ys.getD (Int.toNat (j : Int)) 0 / 18446744073709551616 = mh at *
      generalize xs.getD (Int.toNat (k : Int)) 0 * ys.getD (Int.toNat (j : Int)) 0 % 18446744073709551616 = ml at *
      refine S.g false rfl ?_
      refine S.drp (G := gT) false [(6, .t [.i .u64 mh, .i .u64 ml])] rfl rfl rfl ?_ (by repeat' (first | exact True.intro | refine And.intro ?_ ?_ | assumption | omega | (dsimp only; omega) | (simp only [Nat.add_eq, Nat.mul_eq, Nat.sub_eq, SV.wd]; omega) | exact rfl))
      refine S.g false rfl ?_
      refine S.ext rfl rfl rfl rfl rfl rfl rfl (Ze _ _ _ (by omega) hqj.1 (by omega) (by omega)) rfl ?_
      generalize qs.getD (Int.toNat ((k : Int) + (j : Int))) 0 = q at *
      generalize hl1 : (ml + q + 0) % 18446744073709551616 = l1 at *
      generalize ho1 : (ml + q + 0) / 18446744073709551616 = o1 at *
      refine S.go false rfl (by repeat' (first | exact True.intro | refine And.intro ?_ ?_ | assumption | omega | (dsimp only; omega) | (simp only [Nat.add_eq, Nat.mul_eq, Nat.sub_eq, SV.wd]; omega) | exact rfl)) ?_
      refine S.ext rfl rfl rfl rfl rfl rfl rfl (Ze _ _ _ (by omega) he.1 (by omega) (by omega)) rfl ?_
      have hl2 : 0 <= (l1 + e + 0) % 18446744073709551616 /\ (l1 + e + 0) % 18446744073709551616 < 18446744073709551616 := by omega
      generalize hl2e : (l1 + e + 0) % 18446744073709551616 = l2 at *
      generalize ho2 : (l1 + e + 0) / 18446744073709551616 = o2 at *
      refine S.go false rfl (by repeat' (first | exact True.intro | refine And.intro ?_ ?_ | omega | (dsimp only; omega) | (simp only [Nat.add_eq, Nat.mul_eq, Nat.sub_eq, SV.wd]; omega) | exact rfl)) ?_
      have hsl : (qs.set (Int.toNat ((k : Int) + (j : Int))) l2).length = 8 := by rw [List.length_set]; exact hql
      refine S.again (again2 ⟨j + 1, qs.set (k + j) l2, mh + o1 + o2⟩ ⟨by show j + 1 <= 4; omega, hqw.set _ hl2, by simp [hql], m4, hstep⟩ (show 4 - (j + 1) < 4 - j by omega)) ⟨⟨rfl, rfl⟩, ⟨rfl, by simp only; omega⟩, rfl, rfl, rfl, rfl, rfl, ⟨rfl, rfl⟩, ⟨rfl, rfl⟩, trivial⟩ ?_ rfl rfl (fun x hx => hx) rfl (fun ρ W h => h.hs)
      repeat' (first | exact True.intro | refine And.intro ?_ ?_ | assumption | exact congrArg (fun z => SV.a .u64 (qs.set z l2) 8) e4 | (show (qs.set (k + j) l2).length = 8; simp only [List.length_set]; exact hql) | exact rfl)
    . obtain rfl : j = 4 := by omega
      refine S.g false rfl ?_
      refine S.loop [3, 4, 5, 6, 7, 18] (fun s : TIn => [(9, .i .u64 s.c), (14, .i .i64 (s.j : Int))]) (fun s => [(0, [.a .u64 xs 4]), (1, [.a .u64 ys 4]), (2, [.a .u64 cs 4]), (3, [.i .u64 0, .i .u64 0, .i .u64 0, .i .u64 0, .i .u64 0, .i .u64 0, .i .u64 0, .i .u64 0]), (4, [.a .u64 s.p 8])]) (fun _ => []) (fun s => s.j <= 8 /\ k + 4 <= s.j /\ Qn s.p /\ s.p.length = 8 /\ (0 <= s.c /\ s.c < 18446744073709551616) /\ Qf s.p 8 + s.c * 2 ^ (64 * s.j) = (Qf cs 4 + Qf xs k * Qf ys 4) + Qb xs k * Qf ys 4 * 2 ^ (64 * k)) (fun s => 8 - s.j) ⟨k + 4, qs, e⟩ rfl (fun _ => rfl) (fun _ => rfl) rfl ⟨⟨rfl, rfl⟩, ⟨rfl, by simp only; omega⟩, trivial⟩ (by repeat' (first | exact True.intro | refine And.intro ?_ ?_ | assumption | exact rfl)) (fun _ _ _ => trivial) ⟨by show k + 4 <= 8; omega, by show k + 4 <= k + 4; omega, hqw, hql, he, hqv⟩ fun J3 s3 hs3 again3 => ?_
      obtain ⟨t, us, g⟩ := s3
      obtain ⟨ht, ht4, huw, hul, hg, huv⟩ := hs3
      simp only at ht ht4 huw hul hg huv
      dsimp only
      refine S.g false rfl ?_
      refine S.cond rfl (fun c3 => ?_) (fun c3 => ?_)
      . have c3' : t < 8 := by omega
        have e5 : us.getD (Int.toNat (t : Int)) 0 = Qb us t := by rw [Int.toNat_natCast, Qx]
        have hut : 0 <= us.getD (Int.toNat (t : Int)) 0 /\ us.getD (Int.toNat (t : Int)) 0 < 18446744073709551616 := by rw [e5]; exact huw.at t
        have hst := Kx us t _ g ((us.getD (Int.toNat (t : Int)) 0 + g + 0) % 18446744073709551616) ((us.getD (Int.toNat (t : Int)) 0 + g + 0) / 18446744073709551616) hul c3' huv (by rw [<- e5]; omega)
        refine S.go false rfl (by repeat' (first | exact True.intro | refine And.intro ?_ ?_ | assumption | omega | (dsimp only; omega) | (simp only [Nat.add_eq, Nat.mul_eq, Nat.sub_eq, SV.wd]; omega) | exact rfl)) ?_
        refine S.ext rfl rfl rfl rfl rfl rfl rfl (Ze _ _ _ hut.1 hg.1 (by omega) (by omega)) rfl ?_
        generalize us.getD (Int.toNat (t : Int)) 0 = u at *
        have hl2 : 0 <= (u + g + 0) % 18446744073709551616 /\ (u + g + 0) % 18446744073709551616 < 18446744073709551616 := by omega
        have hc2 : 0 <= (u + g + 0) / 18446744073709551616 /\ (u + g + 0) / 18446744073709551616 < 18446744073709551616 := by omega
        generalize (u + g + 0) % 18446744073709551616 = l2 at *
        generalize (u + g + 0) / 18446744073709551616 = o2 at *
        refine S.go false rfl (by repeat' (first | exact True.intro | refine And.intro ?_ ?_ | omega | (dsimp only; omega) | (simp only [Nat.add_eq, Nat.mul_eq, Nat.sub_eq, SV.wd]; omega) | exact rfl)) ?_
        refine S.again (again3 ⟨t + 1, us.set t l2, o2⟩ ⟨by show t + 1 <= 8; omega, by show k + 4 <= t + 1; omega, huw.set _ hl2, by simp [hul], hc2, hst⟩ (show 8 - (t + 1) < 8 - t by omega)) ⟨⟨rfl, rfl⟩, ⟨rfl, by simp only; omega⟩, rfl, rfl, rfl, rfl, rfl, ⟨rfl, rfl⟩, trivial⟩ ?_ rfl rfl (fun x hx => hx) rfl (fun ρ W h => h.hs)
        repeat' (first | exact True.intro | refine And.intro ?_ ?_ | assumption | exact congrArg (fun z => SV.a .u64 (us.set z l2) 8) (Int.toNat_natCast t) | (show (us.set t l2).length = 8; simp only [List.length_set]; exact hul) | exact rfl)
      . obtain rfl : t = 8 := by omega
        have hend := Qem us xs ys cs hx hy hc huw k ck g hg.1 huv
        refine S.g false rfl ?_
        refine S.again (again ⟨k + 1, us⟩ ⟨by show k + 1 <= 4; omega, huw, hul, hend⟩ (show 4 - (k + 1) < 4 - k by omega)) ⟨⟨rfl, by simp only; omega⟩, rfl, rfl, rfl, rfl, rfl, trivial⟩ ?_ rfl rfl (fun x hx => hx) rfl (fun ρ W h => h.hs)
        repeat' (first | exact True.intro | refine And.intro ?_ ?_ | assumption | exact rfl)
  . obtain rfl : k = 4 := by omega
    refine S.go false rfl (by repeat' (first | exact True.intro | refine And.intro ?_ ?_ | assumption | omega | (dsimp only; omega) | (simp only [Nat.add_eq, Nat.mul_eq, Nat.sub_eq, SV.wd]; omega) | exact rfl)) ?_
    have hp8 := VW ps hpw 8 hpl2
    rw [hpv] at hp8
    rw [<- hp8]
    exact S.retv rfl rfl rfl rfl rfl
theorem Qeo {za : List Int} (hb : Qd za) (hl : za.length = 32) : PV Tryd.prog gT 14 [.a .u8 za 32] (.c (Qk za 32 < QD) inferInstance) := by
  have hv := Xw za hb
  have h1 := GI hb hl
  have h2 := DH
  have h3 := QcW (Qo 4 (Qk za 32)) XR (Qa _ _) rfl
  have hb := Ja (Qc 4 (Qk za 32)) Z0 (Qo _ _) XR 4
  rw [QC hv.1 hv.2, Kv] at hb
  have hnl := Qa 4 (Qk za 32)
  have hsl : (Zm (Qc 4 (Qk za 32)) Z0 4).length = 4 := by simp [Zm]
  have key : ∀ b : Int, (b = if Qk za 32 < QD then 1 else 0) -> ((SV.c (b = 1) inferInstance).den Qu = (SV.c (Qk za 32 < QD) inferInstance).den Qu) := fun b hb => by
    simp only [SV.den]
    rw [hb]
    split <;> simp_all
  have hk := key _ hb
  clear hb key
  generalize Vw (Qc 4 (Qk za 32)) Z0 4 = b at *
  generalize Zm (Qc 4 (Qk za 32)) Z0 4 = ds at *
  generalize Qc 4 (Qk za 32) = ns at *
  refine PV.res (v := .c (b = 1) inferInstance) (PV.mk' Tryd.func14 rfl rfl rfl rfl fun w L hL hG => ?_) hk rfl
  refine S.enter Qh [.a .u8 za 32] gT Tryd.func14 rfl rfl rfl (fun _ => rfl) hL hG ?_
  refine S.go false rfl (by repeat' (first | exact True.intro | refine And.intro ?_ ?_ | assumption | omega | (dsimp only; omega) | (simp only [Nat.add_eq, Nat.mul_eq, Nat.sub_eq, SV.wd]; omega) | exact rfl)) ?_
  refine S.cv rfl rfl rfl rfl rfl rfl h1 ?_
  refine S.g false rfl ?_
  refine S.cv rfl rfl rfl rfl rfl rfl h2 ?_
  refine S.g false rfl ?_
  refine S.cv rfl rfl rfl rfl rfl rfl h3 ?_
  refine S.go false rfl (by repeat' (first | exact True.intro | refine And.intro ?_ ?_ | assumption | omega | (dsimp only; omega) | (simp only [Nat.add_eq, Nat.mul_eq, Nat.sub_eq, SV.wd]; omega) | exact rfl)) ?_
  exact S.retv rfl rfl rfl rfl rfl
set_option maxHeartbeats 1000000 in
theorem HM {za : List Int} (hb : Qd za) (hl : za.length = 64) : PV Tryd.prog gT 20 [.a .u8 za 64] (.a .u8 (QE (Qk za 64 % QD)) 32) := by
  have h64 := Qd1 za hb
  have h1 := KF (Qo 8 (Qk za 64)) (Qa _ _)
  have e64 : (2 : Int) ^ (64 * 8) = 2 ^ 256 * 2 ^ 256 := by rw [<- Int.pow_add]
  have h642 : Qk za 64 < 2 ^ (64 * 8) := by rw [e64]; exact h64.2
  rw [Ug 8 _ h64.1, Int.emod_eq_of_lt h64.1 h642] at h1
  rw [<- GJ za hb 8, <- GM za 8] at h1
  have h2 := Qae (Qk za 64 % QD)
  have hbl := Qw (Qk za 64 % QD)
  have hnl := Qa 4 (Qk za 64 % QD)
  generalize Qc 4 (Qk za 64 % QD) = ns at *
  generalize QE (Qk za 64 % QD) = bs at *
  refine PV.mk' Tryd.func20 rfl rfl rfl rfl fun w L hL hG => ?_
  refine S.enter Qh [.a .u8 za 64] gT Tryd.func20 rfl rfl rfl (fun _ => rfl) hL hG ?_
  refine S.go false rfl (by repeat' (first | exact True.intro | refine And.intro ?_ ?_ | assumption | omega | (dsimp only; omega) | (simp only [Nat.add_eq, Nat.mul_eq, Nat.sub_eq, SV.wd]; omega) | exact rfl)) ?_
  refine S.recell 2 [.a .u64 (Hh za 8 0) 8] rfl (fun ρ => by rw [JJ]; rfl) ⟨Xz za 8 0, trivial⟩ rfl ?_
  refine S.loop [2, 3, 6] (fun k : Nat => [(7, .i .i64 (k : Int))]) (fun k => [(1, [.a .u8 (List.replicate 32 0) 32]), (2, [.a .u64 (Hh za 8 k) 8])]) (fun _ => []) (fun k => k <= 64) (fun k => 64 - k) 0 rfl (fun _ => rfl) (fun _ => rfl) rfl ⟨⟨rfl, rfl⟩, trivial⟩ (by repeat' (first | exact True.intro | refine And.intro ?_ ?_ | exact Xz za 8 0 | exact rfl)) (fun _ _ _ => trivial) (by omega) fun J k hk again => ?_
  have hk' : k <= 64 := hk
  have hlen := Xz za 8 k
  have hlen' := Xz za 8 (k + 1)
  refine S.g false rfl ?_
  refine S.cond rfl (fun c => ?_) (fun c => ?_)
  . have c' : k < 64 := by omega
    have hr := Jr hb (Int.toNat (k : Int))
    refine S.go false rfl (by repeat' (first | exact True.intro | refine And.intro ?_ ?_ | assumption | omega | (dsimp only; omega) | (simp only [Nat.add_eq, Nat.mul_eq, Nat.sub_eq, SV.wd]; omega) | exact rfl)) ?_
    refine S.dr0 false rfl rfl rfl ?_ (by repeat' (first | exact True.intro | refine And.intro ?_ ?_ | assumption | omega | (dsimp only; omega) | (simp only [Nat.add_eq, Nat.mul_eq, Nat.sub_eq, SV.wd]; omega) | exact rfl))
    refine S.g false rfl ?_
    refine S.again (again (k + 1) (show k + 1 <= 64 by omega) (show 64 - (k + 1) < 64 - k by omega)) ⟨⟨rfl, by omega⟩, rfl, rfl, rfl, trivial⟩ ?_ rfl rfl (fun x hx => hx) rfl (fun ρ W h => h.hs)
    repeat' (first | exact True.intro | refine And.intro ?_ ?_ | exact congrArg (fun z => SV.a .u64 z 8) (JK hb (n := 8) (by omega)) | assumption | exact rfl)
  . obtain rfl : k = 64 := by omega
    refine S.go false rfl (by repeat' (first | exact True.intro | refine And.intro ?_ ?_ | assumption | omega | (dsimp only; omega) | (simp only [Nat.add_eq, Nat.mul_eq, Nat.sub_eq, SV.wd]; omega) | exact rfl)) ?_
    refine S.cv rfl rfl rfl rfl rfl rfl h1 ?_
    refine S.g false rfl ?_
    refine S.cv rfl rfl rfl rfl rfl rfl h2 ?_
    refine S.go false rfl (by repeat' (first | exact True.intro | refine And.intro ?_ ?_ | assumption | omega | (dsimp only; omega) | (simp only [Nat.add_eq, Nat.mul_eq, Nat.sub_eq, SV.wd]; omega) | exact rfl)) ?_
    exact S.retv rfl rfl rfl rfl rfl
theorem QcN {xb yb cb : List Int} (hx : Qd xb) (hy : Qd yb) (hc : Qd cb) (hxl : xb.length = 32) (hyl : yb.length = 32) (hcl : cb.length = 32) : PV Tryd.prog gT 22 [.a .u8 xb 32, .a .u8 yb 32, .a .u8 cb 32] (.a .u8 (QE ((Qk cb 32 + Qk xb 32 * Qk yb 32) % QD)) 32) := by
  have vx := Xw xb hx; have vy := Xw yb hy; have vc := Xw cb hc
  have h1 := GI hx hxl
  have h2 := GI hy hyl
  have h3 := GI hc hcl
  have h4 := Qd5 (Qo 4 (Qk xb 32)) (Qo 4 (Qk yb 32)) (Qo 4 (Qk cb 32)) (Qa _ _) (Qa _ _) (Qa _ _)
  have h5 := KF (Qo 8 (Qf (Qc 4 (Qk cb 32)) 4 + Qf (Qc 4 (Qk xb 32)) 4 * Qf (Qc 4 (Qk yb 32)) 4)) (Qa _ _)
  rw [QC vx.1 vx.2, QC vy.1 vy.2, QC vc.1 vc.2] at h4 h5
  have hb : Qk cb 32 + Qk xb 32 * Qk yb 32 < 2 ^ (64 * 8) := by
    have hm : Qk xb 32 * Qk yb 32 <= (2 ^ 256 - 1) * (2 ^ 256 - 1) := Int.mul_le_mul (by omega) (by omega) vy.1 (by decide +kernel)
    have e : (2 : Int) ^ (64 * 8) = 2 ^ 256 * 2 ^ 256 := by rw [<- Int.pow_add]
    rw [e]
    have := vc.2
    generalize Qk xb 32 * Qk yb 32 = m at *
    omega
  have h0 : 0 <= Qk cb 32 + Qk xb 32 * Qk yb 32 := by have := Int.mul_nonneg vx.1 vy.1; omega
  rw [Ug 8 _ h0, Int.emod_eq_of_lt h0 hb] at h5
  have h6 := Qae ((Qk cb 32 + Qk xb 32 * Qk yb 32) % QD)
  have hbl := Qw ((Qk cb 32 + Qk xb 32 * Qk yb 32) % QD)
  generalize QE ((Qk cb 32 + Qk xb 32 * Qk yb 32) % QD) = o at *
  generalize Qc 4 ((Qk cb 32 + Qk xb 32 * Qk yb 32) % QD) = p4 at *
  generalize Qc 8 (Qk cb 32 + Qk xb 32 * Qk yb 32) = p8 at *
  generalize Qc 4 (Qk cb 32) = nc at *
  generalize Qc 4 (Qk xb 32) = nx at *
  generalize Qc 4 (Qk yb 32) = ny at *
  refine PV.mk' Tryd.func22 rfl rfl rfl rfl fun w L hL hG => ?_
  refine S.enter Qh [.a .u8 xb 32, .a .u8 yb 32, .a .u8 cb 32] gT Tryd.func22 rfl rfl rfl (fun _ => rfl) hL hG ?_
  refine S.go false rfl (by repeat' (first | exact True.intro | refine And.intro ?_ ?_ | assumption | omega | (dsimp only; omega) | (simp only [Nat.add_eq, Nat.mul_eq, Nat.sub_eq, SV.wd]; omega) | exact rfl)) ?_
  refine S.drp false [(1, .a .u64 nx 4), (3, .a .u64 ny 4), (5, .a .u64 nc 4), (6, .a .u64 p8 8), (7, .a .u64 p4 4), (8, .a .u8 o 32)] rfl rfl rfl ?_ (by repeat' (first | exact True.intro | refine And.intro ?_ ?_ | assumption | omega | (dsimp only; omega) | (simp only [Nat.add_eq, Nat.mul_eq, Nat.sub_eq, SV.wd]; omega) | exact rfl))
  refine S.g false rfl ?_
  exact S.retv rfl rfl rfl rfl rfl
/-- Clamped bytes. -/
def E4 (za : List Int) : List Int := (za.set 0 (bits .and .u8 (za.getD 0 0) 248)).set 31 (bits .or .u8 (bits .and .u8 ((za.set 0 (bits .and .u8 (za.getD 0 0) 248)).getD 31 0) 127) 64)
theorem FR {za : List Int} (hl : za.length = 32) : (E4 za).length = 32 := by simp [E4, hl]
theorem QfF (op : BinOp) (a b : Int) : 0 <= bits op .u8 a b /\ bits op .u8 a b <= 255 := by
  have h := bits_within op .u8 a b
  have h1 : IntKind.min .u8 = 0 := by decide
  have h2 : IntKind.max .u8 = 255 := by decide
  rw [h1, h2] at h
  exact h
theorem E3 {za : List Int} (hb : Qd za) : Qd (E4 za) := by
  intro x hx
  unfold E4 at hx
  rcases List.mem_or_eq_of_mem_set hx with h | h
  . rcases List.mem_or_eq_of_mem_set h with h | h
    . exact hb x h
    . rw [h]; exact QfF _ _ _
  . rw [h]; exact QfF _ _ _
theorem Qfi {za : List Int} (hl : za.length = 32) : PV Tryd.prog gT 37 [.a .u8 za 32] (.a .u8 (E4 za) 32) := by
  have hcl := FR hl
  refine PV.mk' Tryd.func37 rfl rfl rfl rfl fun w L hL hG => ?_
  refine S.enter Qh [.a .u8 za 32] gT Tryd.func37 rfl rfl rfl (fun _ => rfl) hL hG ?_
  refine S.go false rfl (by repeat' (first | exact True.intro | refine And.intro ?_ ?_ | exact hl | exact hcl | exact rfl)) ?_
  exact S.retv rfl rfl rfl rfl rfl
theorem Qe1 : GL Tryd.prog gT 65 4 (lm Dv) := GL.of Qh (GO rmL) gT0 rfl (Yp rfl) rfl (Nat.lt_of_lt_of_le Nat.zero_lt_one (Nat.le_add_right 1 _)) rfl
def evL (z : List Int) (c : Int) : List Int := if c % 2 = 1 then Qm (XU [] z) else z
def r0L (x : List Int) : List Int := Zd x (ZM 254 15) 256
def r1L (x : List Int) : List Int := Qm (QU (r0L x) Dv)
def rtL (x : List Int) (u : Int) : List Int := if Hg u then evL (r0L x) (Zh u) else if HG u then evL (r1L x) (Yh u) else [0, 0, 0, 0, 0]
theorem D5 {z : List Int} {c : Int} (h : QH z c) : QH (evL z c) (X7 c) := by
  unfold evL X7
  split
  . have := Z3 ZS h
    exact this
  . exact h
theorem Ev {x : List Int} {u : Int} (hx : QH x u) : QH (r0L x) (Zh u) := KL hx KM
theorem Qb9 {x : List Int} {u : Int} (hx : QH x u) : QH (r1L x) (Yh u) := QZ (Ev hx) KD
theorem Qeg {x : List Int} {u : Int} (hx : QH x u) : QH (rtL x u) (rV u) := by
  unfold rtL rV
  split
  . exact D5 (Ev hx)
  . split
    . exact D5 (Qb9 hx)
    . exact ZS
theorem QbB (ρ : Qy) (x : List Int) (b : Bool) {y : List Int} {b' : Bool} (hx : x = y) (hb : b = b') : val ρ [lm x, .l b] = (SV.t [lm y, .l b']).den Qu := by
  subst hx; subst hb
  simp only [val, SV.den, Qt]
  rfl
set_option maxHeartbeats 1000000 in
theorem Qgf {x : List Int} {u : Int} (hx : QH x u) : PV Tryd.prog gT 89 [lm x] (.t [lm (rtL x u), .l (okV u)]) := by
  have h1 := QfK 254 15
  have h2 := DA hx KM rfl
  have hr := Ev hx
  have ht := Qb9 hx
  have t0 := XF _ _ hr.small hr.small
  have s0 := El (QZ hr hr) hx
  have t1 := XF _ _ hr.small KD.small
  have t2 := XF _ _ ht.small ht.small
  have s1 := El (QZ ht ht) hx
  have o0 := QcB hr
  have o1 := QcB ht
  have n0 := Ym _ hr.small
  have n1 := Ym _ ht.small
  have e0 : rtL x u = if Hg u then evL (r0L x) (Zh u) else if HG u then evL (r1L x) (Yh u) else [0, 0, 0, 0, 0] := rfl
  have e1 : okV u = (Hg u || HG u) := rfl
  have q0 : Hg u = decide (Zh u * Zh u % pV = u) := rfl
  have q1 : HG u = decide (Yh u * Yh u % pV = u) := rfl
  change PV _ _ _ _ (lm (r0L x)) at h2
  change PV _ _ _ _ (lm (r1L x)) at t1
  generalize r0L x = z0 at *
  generalize r1L x = z1 at *
  generalize Qm (QU z0 z0) = y0 at *
  generalize Qm (QU z1 z1) = y1 at *
  refine PV.mk' Tryd.func89 rfl rfl rfl rfl fun w L hL hG => ?_
  refine S.enter Qh [lm x] gT Tryd.func89 rfl rfl rfl (fun _ => rfl) hL hG ?_
  refine S.g false rfl ?_
  refine S.drp false [(1, .a .u8 (ZM 254 15) 32), (2, lm z0)] rfl rfl rfl ?_ (by repeat' (first | exact True.intro | refine And.intro ?_ ?_ | assumption))
  refine S.g false rfl ?_
  refine S.drp false [(2, lm y0), (4, .c (Zh u * Zh u % pV = u) inferInstance)] rfl rfl rfl ?_ (by repeat' (first | exact True.intro | refine And.intro ?_ ?_ | assumption))
  refine S.g false rfl ?_
  refine S.cond rfl (fun b => ?_) (fun b => ?_)
  . have b0 : Hg u = false := by rw [q0]; exact decide_eq_false b
    refine S.g false rfl ?_
    refine S.gl rfl rfl rfl rfl Qe1 ?_
    refine S.g false rfl ?_
    refine S.cv rfl rfl rfl rfl rfl rfl t1 ?_
    refine S.g false rfl ?_
    refine S.drp false [(2, lm y1), (4, .c (Yh u * Yh u % pV = u) inferInstance)] rfl rfl rfl ?_ (by repeat' (first | exact True.intro | refine And.intro ?_ ?_ | assumption))
    refine S.g false rfl ?_
    refine S.cond rfl (fun b2 => ?_) (fun b2 => ?_)
    . have b1 : HG u = false := by rw [q1]; exact decide_eq_false b2
      refine S.g false rfl ?_
      exact S.ret rfl rfl fun ρ W h => ⟨(), QbB ρ [0, 0, 0, 0, 0] false (by rw [e0, b0, b1]; rfl) (by rw [e1, b0, b1]; rfl), trivial, trivial⟩
    . have b1 : HG u = true := by rw [q1]; exact decide_eq_true (Decidable.not_not.1 b2)
      refine S.g false rfl ?_
      refine S.cv rfl rfl rfl rfl rfl rfl o1 ?_
      refine S.g false rfl ?_
      refine S.cond rfl (fun b3 => ?_) (fun b3 => ?_)
      . refine S.g false rfl ?_
        refine S.cv rfl rfl rfl rfl rfl rfl n1 ?_
        refine S.g false rfl ?_
        exact S.ret rfl rfl fun ρ W h => ⟨(), QbB ρ (Qm (XU [] z1)) true (by rw [e0, b0, b1]; simp [evL, b3]) (by rw [e1, b0, b1]; rfl), trivial, trivial⟩
      . refine S.g false rfl ?_
        exact S.ret rfl rfl fun ρ W h => ⟨(), QbB ρ z1 true (by rw [e0, b0, b1]; simp [evL, b3]) (by rw [e1, b0, b1]; rfl), trivial, trivial⟩
  . have b0 : Hg u = true := by rw [q0]; exact decide_eq_true (Decidable.not_not.1 b)
    have b4 : Zh u * Zh u % pV = u := Decidable.not_not.1 b
    refine S.g false rfl ?_
    refine S.drp false [(2, lm y0), (4, .c (Zh u * Zh u % pV = u) inferInstance)] rfl rfl rfl ?_ (by repeat' (first | exact True.intro | refine And.intro ?_ ?_ | assumption))
    refine S.g false rfl ?_
    refine S.condF rfl (fun h => h b4) ?_
    refine S.g false rfl ?_
    refine S.cv rfl rfl rfl rfl rfl rfl o0 ?_
    refine S.g false rfl ?_
    refine S.cond rfl (fun b3 => ?_) (fun b3 => ?_)
    . refine S.g false rfl ?_
      refine S.cv rfl rfl rfl rfl rfl rfl n0 ?_
      refine S.g false rfl ?_
      exact S.ret rfl rfl fun ρ W h => ⟨(), QbB ρ (Qm (XU [] z0)) true (by rw [e0, b0]; simp [evL, b3]) (by rw [e1, b0]; rfl), trivial, trivial⟩
    . refine S.g false rfl ?_
      exact S.ret rfl rfl fun ρ W h => ⟨(), QbB ρ z0 true (by rw [e0, b0]; simp [evL, b3]) (by rw [e1, b0]; rfl), trivial, trivial⟩
theorem Qb1 {z : List Int} (hz : Qd z) (hl : z.length = 32) : PV Tryd.prog gT 101 [.a .u8 z 32] (.a .u8 (QE (Qk z 32 % pV)) 32) := by
  have h1 := QcV hz hl
  have h2 := V4 (KW z hz)
  refine PV.mk' Tryd.func101 rfl rfl rfl rfl fun w L hL hG => ?_
  refine S.enter Qh [.a .u8 z 32] gT Tryd.func101 rfl rfl rfl (fun _ => rfl) hL hG ?_
  refine S.go false rfl (by repeat' (first | exact True.intro | refine And.intro ?_ ?_ | assumption | exact rfl)) ?_
  refine S.cv rfl rfl rfl rfl rfl rfl h1 ?_
  refine S.g false rfl ?_
  refine S.cv rfl rfl rfl rfl rfl rfl h2 ?_
  refine S.go false rfl (by repeat' (first | exact True.intro | refine And.intro ?_ ?_ | exact Qw _ | exact rfl)) ?_
  exact S.retv rfl rfl rfl rfl rfl
theorem Qen {z : List Int} (hz : Qd z) (hl : z.length = 32) : PV Tryd.prog gT 85 [.a .u8 z 32] (.c (Qk z 32 < pV) inferInstance) := by
  have h1 := Qb1 hz hl
  refine PV.mk' Tryd.func85 rfl rfl rfl rfl fun w L hL hG => ?_
  refine S.enter Qh [.a .u8 z 32] gT Tryd.func85 rfl rfl rfl (fun _ => rfl) hL hG ?_
  refine S.go false rfl (by repeat' (first | exact True.intro | refine And.intro ?_ ?_ | assumption | exact rfl)) ?_
  refine S.drp false [(1, .a .u8 (QE (Qk z 32 % pV)) 32)] rfl rfl rfl ?_ (by repeat' (first | exact True.intro | refine And.intro ?_ ?_ | assumption | exact Qw _))
  refine S.g false rfl ?_
  refine S.retv rfl rfl rfl rfl ?_
  simp only [SV.den]
  rw [Gu hz hl]
/-- A point in the plane, one in space. -/
def pl (x y : List Int) : SV := .g [.i .u64 (Qb x 0), .i .u64 (Qb x 1), .i .u64 (Qb x 2), .i .u64 (Qb x 3), .i .u64 (Qb x 4), .i .u64 (Qb y 0), .i .u64 (Qb y 1), .i .u64 (Qb y 2), .i .u64 (Qb y 3), .i .u64 (Qb y 4)]
def sp (x y z t : List Int) : SV := .g [.i .u64 (Qb x 0), .i .u64 (Qb x 1), .i .u64 (Qb x 2), .i .u64 (Qb x 3), .i .u64 (Qb x 4), .i .u64 (Qb y 0), .i .u64 (Qb y 1), .i .u64 (Qb y 2), .i .u64 (Qb y 3), .i .u64 (Qb y 4), .i .u64 (Qb z 0), .i .u64 (Qb z 1), .i .u64 (Qb z 2), .i .u64 (Qb z 3), .i .u64 (Qb z 4), .i .u64 (Qb t 0), .i .u64 (Qb t 1), .i .u64 (Qb t 2), .i .u64 (Qb t 3), .i .u64 (Qb t 4)]
theorem Ew {x y : List Int} {u v : Int} (hx : QH x u) (hy : QH y v) : ∃ z, QH z ((v + u) % pV) /\ PV Tryd.prog gT 94 [pl x y] (lm z) := by
  have h := Qck _ _ hy.small hx.small
  refine ⟨_, HY hy hx, PV.mk' Tryd.func94 rfl rfl rfl rfl fun w L hL hG => ?_⟩
  refine S.enter Qh [pl x y] gT Tryd.func94 rfl rfl rfl (fun _ => rfl) hL hG ?_
  refine S.g false rfl ?_
  refine S.cv rfl rfl rfl rfl rfl rfl h ?_
  refine S.g false rfl ?_
  exact S.retv rfl rfl rfl rfl rfl
theorem DC {x y : List Int} {u v : Int} (hx : QH x u) (hy : QH y v) : ∃ z, QH z ((v - u) % pV) /\ PV Tryd.prog gT 96 [pl x y] (lm z) := by
  have h := GG _ _ hy.small hx.small
  refine ⟨_, Z3 hy hx, PV.mk' Tryd.func96 rfl rfl rfl rfl fun w L hL hG => ?_⟩
  refine S.enter Qh [pl x y] gT Tryd.func96 rfl rfl rfl (fun _ => rfl) hL hG ?_
  refine S.g false rfl ?_
  refine S.cv rfl rfl rfl rfl rfl rfl h ?_
  refine S.g false rfl ?_
  exact S.retv rfl rfl rfl rfl rfl
theorem QhR : GL Tryd.prog gT 65 2 (lm dL) := GL.of Qh (GO dL) gT1 rfl (Yp rfl) rfl (Nat.lt_of_lt_of_le Nat.zero_lt_one (Nat.le_add_right 1 _)) rfl
def dV : Int := X5 dL % pV
theorem Qdt : QH dL dV := ⟨rfl, XO (by omega) (by omega) (by omega) (by omega) (by omega), rfl⟩
theorem Qcj {x y : List Int} {u : Int} (hx : QH x u) : ∃ z, QH z ((0 - u) % pV) /\ PV Tryd.prog gT 33 [pl x y] (pl z y) := by
  have h := Ym x hx.small
  have hf := Z3 ZS hx
  change QH (Qm (XU [] x)) ((0 - u) % pV) at hf
  generalize Qm (XU [] x) = z at *
  refine ⟨z, hf, PV.mk' Tryd.func33 rfl rfl rfl rfl fun w L hL hG => ?_⟩
  refine S.enter Qh [pl x y] gT Tryd.func33 rfl rfl rfl (fun _ => rfl) hL hG ?_
  refine S.g false rfl ?_
  refine S.drp false [(2, lm z)] rfl rfl rfl ?_ (by repeat' (first | exact True.intro | refine And.intro ?_ ?_ | assumption))
  refine S.g false rfl ?_
  exact S.retv rfl rfl rfl rfl rfl
theorem Qb7 {x y : List Int} {u v : Int} (hx : QH x u) (hy : QH y v) : ∃ t, QH t (u * v % pV) /\ PV Tryd.prog gT 34 [pl x y] (sp x y [1, 0, 0, 0, 0] t) := by
  have h := XF x y hx.small hy.small
  have hf := QZ hx hy
  have h1 := UX 1 (by omega)
  generalize Qm (QU x y) = t at *
  refine ⟨t, hf, PV.mk' Tryd.func34 rfl rfl rfl rfl fun w L hL hG => ?_⟩
  refine S.enter Qh [pl x y] gT Tryd.func34 rfl rfl rfl (fun _ => rfl) hL hG ?_
  refine S.g false rfl ?_
  refine S.drp false [(1, lm [1, 0, 0, 0, 0]), (6, lm t)] rfl rfl rfl ?_ (by repeat' (first | exact True.intro | refine And.intro ?_ ?_ | assumption))
  refine S.g false rfl ?_
  exact S.retv rfl rfl rfl rfl rfl
theorem K6 {e f g h : List Int} {a b c d : Int} (he : QH e a) (hf : QH f b) (hg : QH g c) (hh : QH h d) : ∃ x y z t, QH x (a * b % pV) /\ QH y (c * d % pV) /\ QH z (b * c % pV) /\ QH t (a * d % pV) /\ PV Tryd.prog gT 95 [lm e, lm f, lm g, lm h] (sp x y z t) := by
  have t1 := XF e f he.small hf.small
  have t2 := XF g h hg.small hh.small
  have t3 := XF f g hf.small hg.small
  have t4 := XF e h he.small hh.small
  have f1 := QZ he hf
  have f2 := QZ hg hh
  have f3 := QZ hf hg
  have f4 := QZ he hh
  generalize Qm (QU e f) = x at *
  generalize Qm (QU g h) = y at *
  generalize Qm (QU f g) = z at *
  generalize Qm (QU e h) = t at *
  refine ⟨x, y, z, t, f1, f2, f3, f4, PV.mk' Tryd.func95 rfl rfl rfl rfl fun w L hL hG => ?_⟩
  refine S.enter Qh [lm e, lm f, lm g, lm h] gT Tryd.func95 rfl rfl rfl (fun _ => rfl) hL hG ?_
  refine S.g false rfl ?_
  refine S.drp false [(2, lm x), (5, lm y), (9, lm z), (12, lm t)] rfl rfl rfl ?_ (by repeat' (first | exact True.intro | refine And.intro ?_ ?_ | assumption))
  refine S.g false rfl ?_
  exact S.retv rfl rfl rfl rfl rfl
theorem Yi {x y : List Int} {u v : Int} (hx : QH x u) (hy : QH y v) : ∃ z, QH z ((u + v) % pV) /\ PV Tryd.prog gT 88 [lm x, lm y] (lm z) := ⟨_, HY hx hy, Qck _ _ hx.small hy.small⟩
theorem Zp {x y : List Int} {u v : Int} (hx : QH x u) (hy : QH y v) : ∃ z, QH z ((u - v) % pV) /\ PV Tryd.prog gT 87 [lm x, lm y] (lm z) := ⟨_, Z3 hx hy, GG _ _ hx.small hy.small⟩
theorem Q2 {x y : List Int} {u v : Int} (hx : QH x u) (hy : QH y v) : ∃ z, QH z (u * v % pV) /\ PV Tryd.prog gT 64 [lm x, lm y] (lm z) := ⟨_, QZ hx hy, XF _ _ hx.small hy.small⟩
theorem Qf3 {x1 y1 z1 t1 x2 y2 z2 t2 : List Int} {a1 b1 c1 d1 a2 b2 c2 d2 : Int} (hx1 : QH x1 a1) (hy1 : QH y1 b1) (hz1 : QH z1 c1) (ht1 : QH t1 d1) (hx2 : QH x2 a2) (hy2 : QH y2 b2) (hz2 : QH z2 c2) (ht2 : QH t2 d2) :
    ∃ A B C F : Int, A = (b1 - a1) % pV * ((b2 - a2) % pV) % pV /\ B = (b1 + a1) % pV * ((b2 + a2) % pV) % pV /\ C = (d1 * d2 % pV * dV % pV + d1 * d2 % pV * dV % pV) % pV /\ F = (c1 * c2 % pV + c1 * c2 % pV) % pV /\
    ∃ x y z t, QH x ((B - A) % pV * ((F - C) % pV) % pV) /\ QH y ((F + C) % pV * ((B + A) % pV) % pV) /\ QH z ((F - C) % pV * ((F + C) % pV) % pV) /\ QH t ((B - A) % pV * ((B + A) % pV) % pV) /\ PV Tryd.prog gT 68 [sp x1 y1 z1 t1, sp x2 y2 z2 t2] (sp x y z t) := by
  obtain ⟨p1, f1, q1⟩ := DC hx1 hy1
  obtain ⟨p2, f2, q2⟩ := DC hx2 hy2
  obtain ⟨a, fa, qa⟩ := Q2 f1 f2
  obtain ⟨p3, f3, q3⟩ := Ew hx1 hy1
  obtain ⟨p4, f4, q4⟩ := Ew hx2 hy2
  obtain ⟨b, fb, qb⟩ := Q2 f3 f4
  obtain ⟨p5, f5, q5⟩ := Q2 ht1 ht2
  obtain ⟨p6, f6, q6⟩ := Q2 f5 Qdt
  obtain ⟨c, fc, qc⟩ := Yi f6 f6
  obtain ⟨p7, f7, q7⟩ := Q2 hz1 hz2
  obtain ⟨f, ff, qf⟩ := Yi f7 f7
  obtain ⟨e, fe, qe⟩ := Zp fb fa
  obtain ⟨g, fg, qg⟩ := Zp ff fc
  obtain ⟨h, fh, qh⟩ := Yi ff fc
  obtain ⟨i, fi, qi⟩ := Yi fb fa
  obtain ⟨x, y, z, t, k1, k2, k3, k4, k5⟩ := K6 fe fg fh fi
  refine ⟨_, _, _, _, rfl, rfl, rfl, rfl, x, y, z, t, k1, k2, k3, k4, PV.mk' Tryd.func68 rfl rfl rfl rfl fun w L hL hG => ?_⟩
  clear f1 f2 fa f3 f4 fb f5 f6 fc f7 ff fe fg fh fi k1 k2 k3 k4 hx1 hy1 hz1 ht1 hx2 hy2 hz2 ht2
  have gd := QhR
  refine S.enter Qh [sp x1 y1 z1 t1, sp x2 y2 z2 t2] gT Tryd.func68 rfl rfl rfl (fun _ => rfl) hL hG ?_
  refine S.g false rfl ?_
  refine S.drp false [(2, lm p1), (5, lm p2), (6, lm a)] rfl rfl rfl ?_ (by repeat' (first | exact True.intro | refine And.intro ?_ ?_ | assumption))
  refine S.g false rfl ?_
  refine S.drp false [(2, lm p3), (5, lm p4), (6, lm b)] rfl rfl rfl ?_ (by repeat' (first | exact True.intro | refine And.intro ?_ ?_ | assumption))
  refine S.g false rfl ?_
  refine S.drp false [(4, lm p5), (5, lm dL), (6, lm p6)] rfl rfl rfl ?_ (by repeat' (first | exact True.intro | refine And.intro ?_ ?_ | assumption))
  refine S.g false rfl ?_
  refine S.cv rfl rfl rfl rfl rfl rfl qc ?_
  refine S.g false rfl ?_
  refine S.cv rfl rfl rfl rfl rfl rfl q7 ?_
  refine S.g false rfl ?_
  refine S.cv rfl rfl rfl rfl rfl rfl qf ?_
  refine S.g false rfl ?_
  refine S.drp false [(2, lm e), (5, lm g), (8, lm h), (11, lm i), (12, sp x y z t)] rfl rfl rfl ?_ (by repeat' (first | exact True.intro | refine And.intro ?_ ?_ | assumption))
  refine S.g false rfl ?_
  exact S.retv rfl rfl rfl rfl rfl
theorem Qgj {x : List Int} {u : Int} (hx : QH x u) : ∃ z, QH z ((0 - u) % pV) /\ PV Tryd.prog gT 62 [lm x] (lm z) := by
  have hf := Z3 ZS hx
  change QH (Qm (XU [] x)) ((0 - u) % pV) at hf
  exact ⟨_, hf, Ym _ hx.small⟩
theorem Qbf {x1 y1 z1 t1 : List Int} {a1 b1 c1 d1 : Int} (hx1 : QH x1 a1) (hy1 : QH y1 b1) (hz1 : QH z1 c1) (ht1 : QH t1 d1) :
    ∃ A B C E G H : Int, A = a1 * a1 % pV /\ B = b1 * b1 % pV /\ C = (c1 * c1 % pV + c1 * c1 % pV) % pV /\ E = (((b1 + a1) % pV * ((b1 + a1) % pV) % pV - A) % pV - B) % pV /\ G = (B - A) % pV /\ H = (0 - (A + B) % pV) % pV /\
    ∃ x y z t, QH x (E * ((G - C) % pV) % pV) /\ QH y (G * H % pV) /\ QH z ((G - C) % pV * G % pV) /\ QH t (E * H % pV) /\ PV Tryd.prog gT 67 [sp x1 y1 z1 t1] (sp x y z t) := by
  obtain ⟨a, fa, qa⟩ := Q2 hx1 hx1
  obtain ⟨b, fb, qb⟩ := Q2 hy1 hy1
  obtain ⟨c0, f0, q0⟩ := Q2 hz1 hz1
  obtain ⟨c, fc, qc⟩ := Yi f0 f0
  obtain ⟨s, fs, qs⟩ := Ew hx1 hy1
  obtain ⟨s2, f2, q2⟩ := Q2 fs fs
  obtain ⟨s3, f3, q3⟩ := Zp f2 fa
  obtain ⟨e, fe, qe⟩ := Zp f3 fb
  obtain ⟨g, fg, qg⟩ := Zp fb fa
  obtain ⟨k, fk, qk⟩ := Zp fg fc
  obtain ⟨h0, fh0, qh0⟩ := Yi fa fb
  obtain ⟨h, fh, qh⟩ := Qgj fh0
  obtain ⟨x, y, z, t, k1, k2, k3, k4, k5⟩ := K6 fe fk fg fh
  refine ⟨_, _, _, _, _, _, rfl, rfl, rfl, rfl, rfl, rfl, x, y, z, t, k1, k2, k3, k4, PV.mk' Tryd.func67 rfl rfl rfl rfl fun w L hL hG => ?_⟩
  clear fa fb f0 fc fs f2 f3 fe fg fk fh0 fh k1 k2 k3 k4 hx1 hy1 hz1 ht1
  refine S.enter Qh [sp x1 y1 z1 t1] gT Tryd.func67 rfl rfl rfl (fun _ => rfl) hL hG ?_
  refine S.g false rfl ?_
  refine S.drp false [(6, lm a), (13, lm b), (18, lm c0)] rfl rfl rfl ?_ (by repeat' (first | exact True.intro | refine And.intro ?_ ?_ | assumption))
  refine S.g false rfl ?_
  refine S.cv rfl rfl rfl rfl rfl rfl qc ?_
  refine S.g false rfl ?_
  refine S.cv rfl rfl rfl rfl rfl rfl qs ?_
  refine S.g false rfl ?_
  refine S.drp false [(2, lm s2), (4, lm s3), (6, lm e)] rfl rfl rfl ?_ (by repeat' (first | exact True.intro | refine And.intro ?_ ?_ | assumption))
  refine S.g false rfl ?_
  refine S.cv rfl rfl rfl rfl rfl rfl qg ?_
  refine S.g false rfl ?_
  refine S.drp false [(3, lm k), (7, lm h0), (8, lm h), (9, sp x y z t)] rfl rfl rfl ?_ (by repeat' (first | exact True.intro | refine And.intro ?_ ?_ | assumption))
  refine S.g false rfl ?_
  exact S.retv rfl rfl rfl rfl rfl
theorem QgP {x1 y1 z1 t1 : List Int} {a1 b1 c1 : Int} (hx1 : QH x1 a1) (hy1 : QH y1 b1) (hz1 : QH z1 c1) : ∃ x y, QH x (a1 * Fy c1 % pV) /\ QH y (b1 * Fy c1 % pV) /\ PV Tryd.prog gT 38 [sp x1 y1 z1 t1] (pl x y) := by
  obtain ⟨i, fi, qi⟩ := KY hz1
  obtain ⟨x, fx, qx⟩ := Q2 hx1 fi
  obtain ⟨y, fy, qy⟩ := Q2 hy1 fi
  refine ⟨x, y, fx, fy, PV.mk' Tryd.func38 rfl rfl rfl rfl fun w L hL hG => ?_⟩
  clear fi fx fy hx1 hy1 hz1
  refine S.enter Qh [sp x1 y1 z1 t1] gT Tryd.func38 rfl rfl rfl (fun _ => rfl) hL hG ?_
  refine S.g false rfl ?_
  refine S.cv rfl rfl rfl rfl rfl rfl qi ?_
  refine S.g false rfl ?_
  refine S.drp false [(4, lm x), (9, lm y)] rfl rfl rfl ?_ (by repeat' (first | exact True.intro | refine And.intro ?_ ?_ | assumption))
  refine S.g false rfl ?_
  exact S.retv rfl rfl rfl rfl rfl
/-- A point's bytes: y, and whether x is odd. -/
def FH (u v : Int) : List Int := if u % 2 = 1 then (QE v).set 31 (bits .or .u8 ((QE v).getD 31 0) 128) else QE v
theorem Qda {u v : Int} (h : u % 2 = 1) : (QE v).set 31 (bits .or .u8 ((QE v).getD 31 0) 128) = FH u v := by unfold FH; rw [if_pos h]
theorem Qbd {u v : Int} (h : ¬ u % 2 = 1) : QE v = FH u v := by unfold FH; rw [if_neg h]
theorem Qcn {x y : List Int} {u v : Int} (hx : QH x u) (hy : QH y v) : PV Tryd.prog gT 39 [pl x y] (.a .u8 (FH u v) 32) := by
  have h1 := V4 hy
  have h2 := QcB hx
  have e1 := @Qda u v
  have e2 := @Qbd u v
  have hl : (QE v).length = 32 := Qw v
  generalize FH u v = E at *
  generalize QE v = Z at *
  clear hx hy
  refine PV.mk' Tryd.func39 rfl rfl rfl rfl fun w L hL hG => ?_
  refine S.enter Qh [pl x y] gT Tryd.func39 rfl rfl rfl (fun _ => rfl) hL hG ?_
  refine S.g false rfl ?_
  refine S.cv rfl rfl rfl rfl rfl rfl h1 ?_
  refine S.go false rfl (by repeat' (first | exact True.intro | refine And.intro ?_ ?_ | assumption | exact rfl)) ?_
  refine S.cv rfl rfl rfl rfl rfl rfl h2 ?_
  refine S.g false rfl ?_
  refine S.cond rfl (fun c => ?_) (fun c => ?_)
  . rw [<- e1 c]
    have hl' : (Z.set 31 (bits .or .u8 (Z.getD 31 0) 128)).length = 32 := by rw [List.length_set]; exact hl
    refine S.go false rfl (by repeat' (first | exact True.intro | refine And.intro ?_ ?_ | exact hl | exact hl' | exact rfl)) ?_
    exact S.retv rfl rfl rfl rfl rfl
  . rw [<- e2 c]
    refine S.go false rfl (by repeat' (first | exact True.intro | refine And.intro ?_ ?_ | exact hl | exact rfl)) ?_
    exact S.retv rfl rfl rfl rfl rfl
end Go.Proofs.YtbiboamaigedjaaDoor
namespace Go.Proofs.YtbiboamaigedjaaDoor
set_option linter.unusedVariables false
set_option maxRecDepth 100000

instance instPN : NeZero pN := ⟨by decide +kernel⟩
/-- Numbers modulo p. -/
abbrev FF := Fin pN
theorem FF.dvd {a : FF} (h : pN ∣ a.val) : a = 0 := by
  have hl := a.isLt
  have h0 : a.val = 0 := Nat.eq_zero_of_dvd_of_lt h hl
  exact Fin.ext h0
theorem Km {a b : FF} (h : a*b = 0) : a = 0 \/ b = 0 := by
  have hv : (a*b).val = 0 := by rw [h]; rfl
  rw [Fin.val_mul] at hv
  rcases YP.euclid (Nat.dvd_of_mod_eq_zero hv) with d | d
  . exact .inl (FF.dvd d)
  . exact .inr (FF.dvd d)
/-- An inverse, by Fermat. -/
def Xq (a : FF) : FF := ⟨a.val ^ (pN - 2) % pN, Nat.mod_lt _ (by decide +kernel)⟩
theorem Zt {a : FF} (h : a ≠ 0) : a*Xq a = 1 := by
  have hn : ¬ pN ∣ a.val := fun d => h (FF.dvd d)
  have hf := YP.fermat hn
  apply Fin.ext
  rw [Fin.val_mul]
  show a.val * (a.val ^ (pN - 2) % pN) % pN = 1
  rw [Nat.mul_mod, Nat.mod_mod, <- Nat.mul_mod, Nat.mul_comm, <- Nat.pow_succ, show (pN - 2).succ = pN - 1 by decide +kernel, hf]
  decide +kernel
def dF : FF := 37095705934669439343138083508754565189542113879843219016388785533085940283555
def eF : FF := 29203323570479832313932222820853031755424015489030106335172286495629888845891
def iF : FF := 19681161376707505956807079304988542015446066515923890162744021073123829784752
theorem Yz : dF*eF = 1 := by decide +kernel
theorem Qdu : dF.val ^ ((pN - 1) / 2) % pN = pN - 1 := by
  have h := Gy pN dF.val 256 ((pN - 1) / 2) (by decide +kernel)
  rw [<- h]
  decide +kernel
theorem QfU (s : FF) : s*s ≠ dF := by
  intro h
  have hs : s ≠ 0 := by rintro rfl; exact absurd h (by decide +kernel)
  have hn : ¬ pN ∣ s.val := fun d => hs (FF.dvd d)
  have hf := YP.fermat hn
  have he := Qdu
  rw [<- h, Fin.val_mul, <- Nat.pow_mod, Nat.mul_pow, <- Nat.pow_add, show (pN - 1) / 2 + (pN - 1) / 2 = pN - 1 by decide +kernel, hf] at he
  exact absurd he (by decide +kernel)
def On (d x y : FF) : Prop := y*y - x*x = 1 + d*(x*x)*(y*y)
theorem Yj {d e x y : FF} (hde : d*e = 1) (h : On d x y) : x*x*(y*y) = e*(y*y - x*x - 1) := by unfold On at h; grobner
theorem Qcw {d e x1 y1 x2 y2 : FF} (hde : d*e = 1) (h1 : x1*x1*(y1*y1) = e*(y1*y1 - x1*x1 - 1)) (h2 : x2*x2*(y2*y2) = e*(y2*y2 - x2*x2 - 1)) (t m n : FF) (ht : t = d*x1*x2*y1*y2) (hm : m = x1*y2+x2*y1) (hn : n = y1*y2+x1*x2) :
   (n*(1+t))*(n*(1+t)) - (m*(1-t))*(m*(1-t)) = ((1+t)*(1-t))*((1+t)*(1-t)) + d*(m*n)*(m*n) := by
  subst ht hm hn; grobner
theorem Qgs {d m n t a b : FF} (hk : (n*(1+t))*(n*(1+t)) - (m*(1-t))*(m*(1-t)) = ((1+t)*(1-t))*((1+t)*(1-t)) + d*(m*n)*(m*n)) (ha : a*(1+t) = 1) (hb : b*(1-t) = 1) : On d (m*a) (n*b) := by
  unfold On
  have e1 : n*b*(n*b) = (n*(1+t))*(n*(1+t)) * (a*b*(a*b)) := by grobner
  have e2 : m*a*(m*a) = (m*(1-t))*(m*(1-t)) * (a*b*(a*b)) := by grobner
  have e3 : ((1+t)*(1-t))*((1+t)*(1-t)) * (a*b*(a*b)) = 1 := by grobner
  grobner
theorem QhN {d e x1 y1 x2 y2 i ε : FF} (hde : d*e=1) (h1 : x1*x1*(y1*y1) = e*(y1*y1 - x1*x1 - 1)) (h2 : x2*x2*(y2*y2) = e*(y2*y2 - x2*x2 - 1)) (hi : i*i = -1) (he : ε*ε = 1) (ht : d*x1*x2*y1*y2 = ε) :
  (i*x1 + ε*y1)*(i*x1 + ε*y1) = d*(x1*y1*(i*x2 + y2))*(x1*y1*(i*x2+y2)) := by
  grobner
theorem Qc2 : iF*iF = -1 := by decide +kernel
theorem E7 {a b c : FF} (ha : a ≠ 0) (h : a*b = a*c) : b = c := by
  rcases Km (a := a) (b := b - c) (by grobner) with h | h
  . exact absurd h ha
  . grobner
theorem FQ {x1 y1 x2 y2 ε : FF} (h1 : On dF x1 y1) (h2 : On dF x2 y2) (he : ε*ε = 1) : dF*x1*x2*y1*y2 ≠ ε := by
  intro ht
  have k1 := Yj Yz h1
  have k2 := Yj Yz h2
  have hne : ε ≠ 0 := by rintro rfl; exact absurd he (by decide +kernel)
  have hx1 : x1 ≠ 0 := by rintro rfl; exact hne (by grobner)
  have hy1 : y1 ≠ 0 := by rintro rfl; exact hne (by grobner)
  have hx2 : x2 ≠ 0 := by rintro rfl; exact hne (by grobner)
  have hy2 : y2 ≠ 0 := by rintro rfl; exact hne (by grobner)
  have step : ∀ η : FF, η*η = 1 -> ∀ v, (iF*x1 + η*y1)*(iF*x1 + η*y1) = dF*(x1*y1*v)*(x1*y1*v) -> v = 0 := by
    intro η hη v hv
    refine Classical.byContradiction fun hv0 => ?_
    have hz : x1*y1*v ≠ 0 := fun e => by
      rcases Km e with e | e
      . rcases Km e with e | e
        . exact hx1 e
        . exact hy1 e
      . exact hv0 e
    have hi := Zt hz
    refine QfU ((iF*x1 + η*y1)*Xq (x1*y1*v)) ?_
    generalize x1*y1*v = z at *
    generalize iF*x1 + η*y1 = u at *
    generalize Xq z = f at *
    have e1 : u*f*(u*f) = u*u*(f*f) := by grobner
    have e2 : dF*z*z*(f*f) = dF*(z*f)*(z*f) := by grobner
    rw [e1, hv, e2, hi]
    grobner
  have a1 := step ε he (iF*x2+y2) (QhN Yz k1 k2 Qc2 he ht)
  have a2 := step (-ε) (by grobner) (iF*x2-y2) (by have := QhN (ε := -ε) (y2 := -y2) (x2 := x2) (y1 := y1) (x1 := x1) Yz k1 (by grobner) Qc2 (by grobner) (by grobner); grobner)
  have h2 : (2 : FF)*y2 = 0 := by grobner
  rcases Km h2 with h | h
  . exact absurd h (by decide +kernel)
  . exact hy2 h
theorem Kr {x1 y1 x2 y2 : FF} (h1 : On dF x1 y1) (h2 : On dF x2 y2) : 1 + dF*x1*x2*y1*y2 ≠ 0 := fun h => FQ (ε := -1) h1 h2 (by decide +kernel) (by grobner)
theorem Kp {x1 y1 x2 y2 : FF} (h1 : On dF x1 y1) (h2 : On dF x2 y2) : 1 - dF*x1*x2*y1*y2 ≠ 0 := fun h => FQ (ε := 1) h1 h2 (by decide +kernel) (by grobner)
structure Pt where
  x : FF
  y : FF
  on : On dF x y
theorem Pt.ext {P Q : Pt} (hx : P.x = Q.x) (hy : P.y = Q.y) : P = Q := by cases P; cases Q; simp_all
theorem QeW {a : FF} (h : a ≠ 0) : Xq a * a = 1 := by have := Zt h; grobner
def Ql (P Q : Pt) : Pt where
  x := (P.x*Q.y + Q.x*P.y)*Xq (1 + dF*P.x*Q.x*P.y*Q.y)
  y := (P.y*Q.y + P.x*Q.x)*Xq (1 - dF*P.x*Q.x*P.y*Q.y)
  on := Qgs (Qcw Yz (Yj Yz P.on) (Yj Yz Q.on) _ _ _ rfl rfl rfl) (QeW (Kr P.on Q.on)) (QeW (Kp P.on Q.on))
def QS : Pt := ⟨0, 1, by unfold On; decide +kernel⟩
def X6 (P : Pt) : Pt := ⟨-P.x, P.y, by have := P.on; unfold On at *; grobner⟩
theorem ZZ (P Q : Pt) : Ql P Q = Ql Q P := by
  apply Pt.ext
  . show (P.x*Q.y + Q.x*P.y)*Xq (1 + dF*P.x*Q.x*P.y*Q.y) = (Q.x*P.y + P.x*Q.y)*Xq (1 + dF*Q.x*P.x*Q.y*P.y)
    have e : dF*P.x*Q.x*P.y*Q.y = dF*Q.x*P.x*Q.y*P.y := by grobner
    rw [e]; grobner
  . show (P.y*Q.y + P.x*Q.x)*Xq (1 - dF*P.x*Q.x*P.y*Q.y) = (Q.y*P.y + Q.x*P.x)*Xq (1 - dF*Q.x*P.x*Q.y*P.y)
    have e : dF*P.x*Q.x*P.y*Q.y = dF*Q.x*P.x*Q.y*P.y := by grobner
    rw [e]; grobner
/-- What a sum is, by products. -/
theorem YN (P Q : Pt) : (Ql P Q).x * (1 + dF*P.x*Q.x*P.y*Q.y) = P.x*Q.y + Q.x*P.y := by
  have h := QeW (Kr P.on Q.on)
  show (P.x*Q.y + Q.x*P.y)*Xq (1 + dF*P.x*Q.x*P.y*Q.y) * (1 + dF*P.x*Q.x*P.y*Q.y) = _
  generalize Xq (1 + dF*P.x*Q.x*P.y*Q.y) = v at *
  generalize (1 + dF*P.x*Q.x*P.y*Q.y) = u at *
  grobner
theorem YM (P Q : Pt) : (Ql P Q).y * (1 - dF*P.x*Q.x*P.y*Q.y) = P.y*Q.y + P.x*Q.x := by
  have h := QeW (Kp P.on Q.on)
  show (P.y*Q.y + P.x*Q.x)*Xq (1 - dF*P.x*Q.x*P.y*Q.y) * (1 - dF*P.x*Q.x*P.y*Q.y) = _
  generalize Xq (1 - dF*P.x*Q.x*P.y*Q.y) = v at *
  generalize (1 - dF*P.x*Q.x*P.y*Q.y) = u at *
  grobner
/-- A sum is told by what it makes with its divisors. -/
theorem DD {P Q R : Pt} (hx : R.x * (1 + dF*P.x*Q.x*P.y*Q.y) = P.x*Q.y + Q.x*P.y) (hy : R.y * (1 - dF*P.x*Q.x*P.y*Q.y) = P.y*Q.y + P.x*Q.x) : Ql P Q = R := by
  have h1 := YN P Q
  have h2 := YM P Q
  apply Pt.ext
  . exact E7 (Kr P.on Q.on) (by rw [<- hx] at h1; generalize 1 + dF*P.x*Q.x*P.y*Q.y = u at *; grobner)
  . exact E7 (Kp P.on Q.on) (by rw [<- hy] at h2; generalize 1 - dF*P.x*Q.x*P.y*Q.y = u at *; grobner)
theorem Xm (P : Pt) : Ql P QS = P := DD (by simp only [QS]; grobner) (by simp only [QS]; grobner)
theorem HZ (P : Pt) : Ql P (X6 P) = QS := by
  have := P.on
  refine DD ?_ ?_ <;> simp only [QS, X6] <;> unfold On at this <;> grobner
theorem Qft {d e x1 y1 x2 y2 x3 y3 : FF} (h0 : d * e = 1) (h1 : x1*x1*(y1*y1) = e*(y1*y1 - x1*x1 - 1)) (h2 : x2*x2*(y2*y2) = e*(y2*y2 - x2*x2 - 1)) (h3 : x3*x3*(y3*y3) = e*(y3*y3 - x3*x3 - 1))
  (m n m' n' t s : FF) (hm : m = x1*y2+x2*y1) (hn : n = y1*y2+x1*x2) (ht : t = d*x1*x2*y1*y2) (hm' : m' = x2*y3+x3*y2) (hn' : n' = y2*y3+x2*x3) (hs : s = d*x2*x3*y2*y3) :
  (m*(1-t)*y3 + n*(1+t)*x3) * ((1+s)*(1-s) + d*m'*n'*x1*y1) = (m'*(1-s)*y1 + n'*(1+s)*x1) * ((1+t)*(1-t) + d*m*n*x3*y3) := by
  subst hm hn ht hm' hn' hs
  grobner
theorem Qfs {d e x1 y1 x2 y2 x3 y3 : FF} (h0 : d * e = 1) (h1 : x1*x1*(y1*y1) = e*(y1*y1 - x1*x1 - 1)) (h2 : x2*x2*(y2*y2) = e*(y2*y2 - x2*x2 - 1)) (h3 : x3*x3*(y3*y3) = e*(y3*y3 - x3*x3 - 1))
  (m n m' n' t s : FF) (hm : m = x1*y2+x2*y1) (hn : n = y1*y2+x1*x2) (ht : t = d*x1*x2*y1*y2) (hm' : m' = x2*y3+x3*y2) (hn' : n' = y2*y3+x2*x3) (hs : s = d*x2*x3*y2*y3) :
  (n*(1+t)*y3 + m*(1-t)*x3) * ((1+s)*(1-s) - d*m'*n'*x1*y1) = (n'*(1+s)*y1 + m'*(1-s)*x1) * ((1+t)*(1-t) - d*m*n*x3*y3) := by
  subst hm hn ht hm' hn' hs
  grobner
theorem Qh6 {s u A B x y r1 r2 : FF} (h : s*u = x*r2 + r1*y) : s*(A*B*u) = x*A*B*r2 + y*B*A*r1 := by
  have e : s*(A*B*u) = s*u*(A*B) := by grobner
  rw [e, h]; grobner
theorem Qh5 {s u C D x y p1 p2 : FF} (h : s*u = p1*y + x*p2) : s*(C*D*u) = x*C*D*p2 + y*D*C*p1 := by
  have e : s*(C*D*u) = s*u*(C*D) := by grobner
  rw [e, h]; grobner
theorem Qh4 {s u A B x y r1 r2 : FF} (h : s*u = y*r2 + x*r1) : s*(A*B*u) = y*B*A*r2 + x*A*B*r1 := by
  have e : s*(A*B*u) = s*u*(A*B) := by grobner
  rw [e, h]; grobner
theorem Qh7 {s u C D x y p1 p2 : FF} (h : s*u = p2*y + p1*x) : s*(C*D*u) = y*D*C*p2 + x*C*D*p1 := by
  have e : s*(C*D*u) = s*u*(C*D) := by grobner
  rw [e, h]; grobner
theorem QV (P Q R : Pt) : Ql (Ql P Q) R = Ql P (Ql Q R) := by
  have k1 := Yj Yz P.on
  have k2 := Yj Yz Q.on
  have k3 := Yj Yz R.on
  have ax := Qft Yz k1 k2 k3 _ _ _ _ _ _ rfl rfl rfl rfl rfl rfl
  have ay := Qfs Yz k1 k2 k3 _ _ _ _ _ _ rfl rfl rfl rfl rfl rfl
  have p1 := YN P Q
  have p2 := YM P Q
  have p3 := YN Q R
  have p4 := YM Q R
  have a1 := Kr P.on Q.on
  have a2 := Kp P.on Q.on
  have a3 := Kr Q.on R.on
  have a4 := Kp Q.on R.on
  have s1 := YN (Ql P Q) R
  have s2 := YM (Ql P Q) R
  have s3 := YN P (Ql Q R)
  have s4 := YM P (Ql Q R)
  have b1 := Kr (Ql P Q).on R.on
  have b2 := Kp (Ql P Q).on R.on
  have b3 := Kr P.on (Ql Q R).on
  have b4 := Kp P.on (Ql Q R).on
  have nz : ∀ {a b : FF}, a ≠ 0 -> b ≠ 0 -> a * b ≠ 0 := fun ha hb h => (Km h).elim ha hb
  clear k1 k2 k3
  apply Pt.ext
  . generalize (Ql (Ql P Q) R).x = sx at *
    generalize (Ql P (Ql Q R)).x = tx at *
    generalize (Ql P Q).x = x12 at *
    generalize (Ql P Q).y = y12 at *
    generalize (Ql Q R).x = x23 at *
    generalize (Ql Q R).y = y23 at *
    clear s2 s4 ay b2 b4
    have h1 := nz (nz a1 a2) b1
    have h2 := nz (nz a3 a4) b3
    refine E7 (nz h1 h2) ?_
    generalize hA : 1 + dF*P.x*Q.x*P.y*Q.y = A at *
    generalize hB : 1 - dF*P.x*Q.x*P.y*Q.y = B at *
    generalize hC : 1 + dF*Q.x*R.x*Q.y*R.y = C at *
    generalize hD : 1 - dF*Q.x*R.x*Q.y*R.y = D at *
    have e1 : A*B*(1 + dF*x12*R.x*y12*R.y) = A*B + dF*(P.x*Q.y+Q.x*P.y)*(P.y*Q.y+P.x*Q.x)*R.x*R.y := by rw [<- p1, <- p2]; clear ax; grobner
    have e2 : C*D*(1 + dF*P.x*x23*P.y*y23) = C*D + dF*(Q.x*R.y+R.x*Q.y)*(Q.y*R.y+Q.x*R.x)*P.x*P.y := by rw [<- p3, <- p4]; clear ax; grobner
    have e3 : sx*(A*B*(1 + dF*x12*R.x*y12*R.y)) = (P.x*Q.y+Q.x*P.y)*B*R.y + (P.y*Q.y+P.x*Q.x)*A*R.x := by
      rw [<- p1, <- p2]
      exact Qh6 s1
    have e4 : tx*(C*D*(1 + dF*P.x*x23*P.y*y23)) = (Q.x*R.y+R.x*Q.y)*D*P.y + (Q.y*R.y+Q.x*R.x)*C*P.x := by
      rw [<- p3, <- p4]
      exact Qh5 s3
    rw [<- e3, <- e4, <- e1, <- e2] at ax
    generalize A*B*(1 + dF*x12*R.x*y12*R.y) = U at *
    generalize C*D*(1 + dF*P.x*x23*P.y*y23) = V at *
    clear e1 e2 e3 e4 s1 s3 p1 p2 p3 p4 hA hB hC hD
    grobner
  . generalize (Ql (Ql P Q) R).y = sx at *
    generalize (Ql P (Ql Q R)).y = tx at *
    generalize (Ql P Q).x = x12 at *
    generalize (Ql P Q).y = y12 at *
    generalize (Ql Q R).x = x23 at *
    generalize (Ql Q R).y = y23 at *
    clear s1 s3 ax b1 b3
    have h1 := nz (nz a1 a2) b2
    have h2 := nz (nz a3 a4) b4
    refine E7 (nz h1 h2) ?_
    generalize hA : 1 + dF*P.x*Q.x*P.y*Q.y = A at *
    generalize hB : 1 - dF*P.x*Q.x*P.y*Q.y = B at *
    generalize hC : 1 + dF*Q.x*R.x*Q.y*R.y = C at *
    generalize hD : 1 - dF*Q.x*R.x*Q.y*R.y = D at *
    have e1 : A*B*(1 - dF*x12*R.x*y12*R.y) = A*B - dF*(P.x*Q.y+Q.x*P.y)*(P.y*Q.y+P.x*Q.x)*R.x*R.y := by rw [<- p1, <- p2]; clear ay; grobner
    have e2 : C*D*(1 - dF*P.x*x23*P.y*y23) = C*D - dF*(Q.x*R.y+R.x*Q.y)*(Q.y*R.y+Q.x*R.x)*P.x*P.y := by rw [<- p3, <- p4]; clear ay; grobner
    have e3 : sx*(A*B*(1 - dF*x12*R.x*y12*R.y)) = (P.y*Q.y+P.x*Q.x)*A*R.y + (P.x*Q.y+Q.x*P.y)*B*R.x := by
      rw [<- p1, <- p2]
      exact Qh4 s2
    have e4 : tx*(C*D*(1 - dF*P.x*x23*P.y*y23)) = (Q.y*R.y+Q.x*R.x)*C*P.y + (Q.x*R.y+R.x*Q.y)*D*P.x := by
      rw [<- p3, <- p4]
      exact Qh7 s4
    rw [<- e3, <- e4, <- e1, <- e2] at ay
    generalize A*B*(1 - dF*x12*R.x*y12*R.y) = U at *
    generalize C*D*(1 - dF*P.x*x23*P.y*y23) = V at *
    clear e1 e2 e3 e4 s2 s4 p1 p2 p3 p4 hA hB hC hD
    grobner
theorem Zf (P : Pt) : Ql QS P = P := by rw [ZZ, Xm]
theorem VL (P : Pt) : Ql (X6 P) P = QS := by rw [ZZ, HZ]
theorem H3 {P Q R : Pt} (h : Ql P R = Ql Q R) : P = Q := by
  have h2 : Ql (Ql P R) (X6 R) = Ql (Ql Q R) (X6 R) := by rw [h]
  rwa [QV, QV, HZ, Xm, Xm] at h2
theorem QaR (P Q : Pt) : X6 (Ql P Q) = Ql (X6 P) (X6 Q) := by
  refine H3 (R := Ql P Q) ?_
  rw [VL, ZZ P Q, QV, <- QV (X6 Q), VL, Zf, VL]
theorem QaQ : X6 QS = QS := Pt.ext (by show -(0 : FF) = 0; decide +kernel) rfl
/-- So many times a point. -/
def Qs : Nat -> Pt -> Pt
  | 0, _ => QS
  | k + 1, P => Ql (Qs k P) P
theorem QbM (P : Pt) : Qs 1 P = P := Zf P
theorem Xt (a : Nat) (P : Pt) : ∀ b, Qs (a + b) P = Ql (Qs a P) (Qs b P)
  | 0 => (Xm _).symm
  | b + 1 => by
    show Ql (Qs (a + b) P) P = Ql (Qs a P) (Ql (Qs b P) P)
    rw [Xt a P b, QV]
theorem ZV (a : Nat) (P : Pt) : ∀ b, Qs (b * a) P = Qs b (Qs a P)
  | 0 => by rw [Nat.zero_mul]; rfl
  | b + 1 => by
    rw [Nat.succ_mul, Xt, ZV a P b]; rfl
theorem HH (P : Pt) : ∀ k, Qs k (X6 P) = X6 (Qs k P)
  | 0 => QaQ.symm
  | k + 1 => by
    show Ql (Qs k (X6 P)) (X6 P) = X6 (Ql (Qs k P) P)
    rw [HH P k, QaR]
theorem YZ : ∀ k, Qs k QS = QS
  | 0 => rfl
  | k + 1 => by
    show Ql (Qs k QS) QS = QS
    rw [YZ k, Xm]
end Go.Proofs.YtbiboamaigedjaaDoor
namespace Go.Proofs.YtbiboamaigedjaaDoor
open Go.RowKit
set_option linter.unusedVariables false
set_option linter.unusedSimpArgs false
set_option maxRecDepth 8000
set_option maxHeartbeats 2000000

theorem val_mul (a b : FF) : ((a * b).val : Int) = (a.val : Int) * (b.val : Int) % pV := by
  rw [Fin.val_mul, Int.natCast_emod, Int.natCast_mul, Zr]
theorem val_add (a b : FF) : ((a + b).val : Int) = ((a.val : Int) + (b.val : Int)) % pV := by
  rw [Fin.val_add, Int.natCast_emod, Int.natCast_add, Zr]
theorem ZC (a b : FF) : ((a - b).val : Int) = ((a.val : Int) - (b.val : Int)) % pV := by
  have hb := b.isLt
  rw [Fin.sub_def, Zr]
  show (((pN - b.val + a.val) % pN : Nat) : Int) = _
  rw [Int.natCast_emod, Int.natCast_add, Int.natCast_sub (by omega)]
  rw [show ((pN : Int) - (b.val : Int) + (a.val : Int)) = (a.val : Int) - (b.val : Int) + (pN : Int) by omega, Int.add_emod_right]
theorem US (a : FF) : ((-a).val : Int) = (0 - (a.val : Int)) % pV := by
  have h : -a = 0 - a := by grobner
  rw [h, ZC]; rfl
theorem QbE : (2 : FF) ≠ 0 := by decide +kernel
theorem nz2 {a b : FF} (ha : a ≠ 0) (hb : b ≠ 0) : a * b ≠ 0 := fun h => (Km h).elim ha hb
theorem Qhq {x1 y1 x2 y2 d Z1 Z2 x3 : FF} (h : x3 * (1 + d*x1*x2*y1*y2) = x1*y2 + x2*y1) :
    ((y1*Z1 + x1*Z1) * (y2*Z2 + x2*Z2) - (y1*Z1 - x1*Z1) * (y2*Z2 - x2*Z2)) = x3 * ((Z1*Z2 + Z1*Z2) + (x1*y1*Z1 * (x2*y2*Z2) * d + x1*y1*Z1 * (x2*y2*Z2) * d)) := by
  have e : x3 * ((Z1*Z2 + Z1*Z2) + (x1*y1*Z1 * (x2*y2*Z2) * d + x1*y1*Z1 * (x2*y2*Z2) * d)) = (x3 * (1 + d*x1*x2*y1*y2)) * (2 * Z1 * Z2) := by grobner
  rw [e, h]; grobner
theorem Qhp {x1 y1 x2 y2 d Z1 Z2 y3 : FF} (h : y3 * (1 - d*x1*x2*y1*y2) = y1*y2 + x1*x2) :
    ((y1*Z1 + x1*Z1) * (y2*Z2 + x2*Z2) + (y1*Z1 - x1*Z1) * (y2*Z2 - x2*Z2)) = y3 * ((Z1*Z2 + Z1*Z2) - (x1*y1*Z1 * (x2*y2*Z2) * d + x1*y1*Z1 * (x2*y2*Z2) * d)) := by
  have e : y3 * ((Z1*Z2 + Z1*Z2) - (x1*y1*Z1 * (x2*y2*Z2) * d + x1*y1*Z1 * (x2*y2*Z2) * d)) = (y3 * (1 - d*x1*x2*y1*y2)) * (2 * Z1 * Z2) := by grobner
  rw [e, h]; grobner
theorem Qhr {x1 y1 x2 y2 Z1 Z2 : FF} (h1 : Z1 ≠ 0) (h2 : Z2 ≠ 0) (h : 1 + dF*x1*x2*y1*y2 ≠ 0) : (Z1*Z2 + Z1*Z2) + (x1*y1*Z1 * (x2*y2*Z2) * dF + x1*y1*Z1 * (x2*y2*Z2) * dF) ≠ 0 := by
  have e : (Z1*Z2 + Z1*Z2) + (x1*y1*Z1 * (x2*y2*Z2) * dF + x1*y1*Z1 * (x2*y2*Z2) * dF) = 2 * Z1 * Z2 * (1 + dF*x1*x2*y1*y2) := by grobner
  rw [e]; exact nz2 (nz2 (nz2 QbE h1) h2) h
theorem Qhs {x1 y1 x2 y2 Z1 Z2 : FF} (h1 : Z1 ≠ 0) (h2 : Z2 ≠ 0) (h : 1 - dF*x1*x2*y1*y2 ≠ 0) : (Z1*Z2 + Z1*Z2) - (x1*y1*Z1 * (x2*y2*Z2) * dF + x1*y1*Z1 * (x2*y2*Z2) * dF) ≠ 0 := by
  have e : (Z1*Z2 + Z1*Z2) - (x1*y1*Z1 * (x2*y2*Z2) * dF + x1*y1*Z1 * (x2*y2*Z2) * dF) = 2 * Z1 * Z2 * (1 - dF*x1*x2*y1*y2) := by grobner
  rw [e]; exact nz2 (nz2 (nz2 QbE h1) h2) h
theorem Qha {P : Pt} : P.y*P.y - P.x*P.x = 1 + dF*P.x*P.x*P.y*P.y := by have h := P.on; unfold On at h; rw [h]; grobner
def c5 (x : List Int) : List Int := [Qb x 0, Qb x 1, Qb x 2, Qb x 3, Qb x 4]
/-- A point in space, its numbers as one. -/
def fp (l : List Int) : SV := .g [.a .u64 l 20]
def l20 (x y z t : List Int) : List Int := c5 x ++ (c5 y ++ (c5 z ++ c5 t))
theorem DT (x y z t : List Int) : (l20 x y z t).length = 20 := rfl
theorem Kz (ρ : Qy) (x y z t : List Int) : (sp x y z t).den ρ = (fp (l20 x y z t)).den ρ := by
  simp only [sp, fp, l20, c5, SV.den, Qg, SV.cs, List.cons_append, List.nil_append, List.map_cons, List.map_nil]
/-- These are a point's numbers, times some divisor. -/
def XL (l : List Int) (P : Pt) : Prop := ∃ x y z t : List Int, ∃ Z : FF, l = l20 x y z t /\ Z ≠ 0 /\ QH x ((P.x * Z : FF).val : Int) /\ QH y ((P.y * Z : FF).val : Int) /\ QH z (Z.val : Int) /\ QH t ((P.x * P.y * Z : FF).val : Int)
theorem XL.len {l : List Int} {P : Pt} (h : XL l P) : l.length = 20 := by obtain ⟨x, y, z, t, Z, rfl, _⟩ := h; exact DT x y z t
theorem Qds : dV = (dF.val : Int) := by decide +kernel
theorem Qbu {l m : List Int} {P Q : Pt} (hp : XL l P) (hq : XL m Q) : ∃ r, XL r (Ql P Q) /\ PV Tryd.prog gT 68 [fp l, fp m] (fp r) := by
  obtain ⟨x1, y1, z1, t1, Z1, rfl, hz1, p1, p2, p3, p4⟩ := hp
  obtain ⟨x2, y2, z2, t2, Z2, rfl, hz2, q1, q2, q3, q4⟩ := hq
  obtain ⟨A, B, C, F, hA, hB, hC, hF, x, y, z, t, k1, k2, k3, k4, k5⟩ := Qf3 p1 p2 p3 p4 q1 q2 q3 q4
  rw [Qds] at hC
  simp only [<- val_mul, <- val_add, <- ZC] at hA hB hC hF
  subst hA hB hC hF
  simp only [<- val_mul, <- val_add, <- ZC] at k1 k2 k3 k4
  have hx := Qhq (Z1 := Z1) (Z2 := Z2) (YN P Q)
  have hy := Qhp (Z1 := Z1) (Z2 := Z2) (YM P Q)
  have hg := Qhr hz1 hz2 (Kr P.on Q.on)
  have hf := Qhs hz1 hz2 (Kp P.on Q.on)
  rw [hx] at k1 k4
  rw [hy] at k2 k4
  generalize (Z1*Z2 + Z1*Z2) + (P.x*P.y*Z1 * (Q.x*Q.y*Z2) * dF + P.x*P.y*Z1 * (Q.x*Q.y*Z2) * dF) = g at *
  generalize (Z1*Z2 + Z1*Z2) - (P.x*P.y*Z1 * (Q.x*Q.y*Z2) * dF + P.x*P.y*Z1 * (Q.x*Q.y*Z2) * dF) = f at *
  refine ⟨l20 x y z t, ⟨x, y, z, t, f * g, rfl, nz2 hf hg, ?_, ?_, k3, ?_⟩, ?_⟩
  . have e : (Ql P Q).x * (f * g) = (Ql P Q).x * g * f := by grobner
    rw [e]; exact k1
  . have e : (Ql P Q).y * (f * g) = g * ((Ql P Q).y * f) := by grobner
    rw [e]; exact k2
  . have e : (Ql P Q).x * (Ql P Q).y * (f * g) = (Ql P Q).x * g * ((Ql P Q).y * f) := by grobner
    rw [e]; exact k4
  . exact (k5.arg (by simp only [Qt, Kz]) rfl).res (Kz _ _ _ _ _) rfl
theorem Y6 {l : List Int} {P : Pt} (hp : XL l P) : ∃ r, XL r (Ql P P) /\ PV Tryd.prog gT 67 [fp l] (fp r) := by
  obtain ⟨x1, y1, z1, t1, Z, rfl, h1, p1, p2, p3, p4⟩ := hp
  obtain ⟨A, B, C, E, G, H, hA, hB, hC, hE, hG, hH, x, y, z, t, k1, k2, k3, k4, k5⟩ := Qbf p1 p2 p3 p4
  simp only [<- val_mul, <- val_add, <- ZC] at hA hB hC
  subst hA hB hC
  simp only [<- val_mul, <- val_add, <- ZC, <- US] at hE hG hH
  subst hE hG hH
  simp only [<- val_mul, <- val_add, <- ZC] at k1 k2 k3 k4
  have hx := YN P P
  have hy := YM P P
  have hg := Kr P.on P.on
  have hf := Kp P.on P.on
  have ho := Qha (P := P)
  have eg : (P.y*Z)*(P.y*Z) - (P.x*Z)*(P.x*Z) = Z*Z*(1 + dF*P.x*P.x*P.y*P.y) := by rw [<- ho]; grobner
  have ef : Z*Z*(1 + dF*P.x*P.x*P.y*P.y) - (Z*Z + Z*Z) = -(Z*Z*(1 - dF*P.x*P.x*P.y*P.y)) := by grobner
  have es : (P.y*Z + P.x*Z)*(P.y*Z + P.x*Z) - (P.x*Z)*(P.x*Z) - (P.y*Z)*(P.y*Z) = Z*Z*(P.x*P.y + P.x*P.y) := by grobner
  have eh : -((P.x*Z)*(P.x*Z) + (P.y*Z)*(P.y*Z)) = -(Z*Z*(P.y*P.y + P.x*P.x)) := by grobner
  rw [eg, ef] at k3
  rw [es, eg, ef, <- hx] at k1
  rw [eg, eh, <- hy] at k2
  rw [es, eh, <- hx, <- hy] at k4
  generalize 1 + dF*P.x*P.x*P.y*P.y = g at *
  generalize 1 - dF*P.x*P.x*P.y*P.y = f at *
  have hz2 := nz2 h1 h1
  refine ⟨l20 x y z t, ⟨x, y, z, t, -(Z*Z*f) * (Z*Z*g), rfl, ?_, ?_, ?_, k3, ?_⟩, (k5.arg (by simp only [Qt, Kz]) rfl).res (Kz _ _ _ _ _) rfl⟩
  . intro h0
    have h00 : (Z*Z*f)*(Z*Z*g) = 0 := by clear hx hy eg ef es eh ho; grobner
    exact nz2 (nz2 hz2 hf) (nz2 hz2 hg) h00
  . have e : (Ql P P).x * (-(Z*Z*f) * (Z*Z*g)) = Z*Z*((Ql P P).x*g) * -(Z*Z*f) := by clear hx hy eg ef es eh ho; grobner
    rw [e]; exact k1
  . have e : (Ql P P).y * (-(Z*Z*f) * (Z*Z*g)) = Z*Z*g * -(Z*Z*((Ql P P).y*f)) := by clear hx hy eg ef es eh ho; grobner
    rw [e]; exact k2
  . have e : (Ql P P).x * (Ql P P).y * (-(Z*Z*f) * (Z*Z*g)) = Z*Z*((Ql P P).x*g) * -(Z*Z*((Ql P P).y*f)) := by clear hx hy eg ef es eh ho; grobner
    rw [e]; exact k4
/-- A point in space as it is raised. -/
def QdO (l : List Int) (P : Pt) : Prop := XL l P /\ ∃ x y z t, l = l20 x y z t /\ QH x (P.x.val : Int) /\ QH y (P.y.val : Int)
theorem YK {x y : List Int} {P : Pt} (hx : QH x (P.x.val : Int)) (hy : QH y (P.y.val : Int)) : ∃ r, QdO r P /\ PV Tryd.prog gT 34 [pl x y] (fp r) := by
  obtain ⟨t, ht, h⟩ := Qb7 hx hy
  rw [<- val_mul] at ht
  refine ⟨l20 x y [1, 0, 0, 0, 0] t, ⟨⟨x, y, _, t, 1, rfl, by decide +kernel, ?_, ?_, VI, ?_⟩, x, y, _, t, rfl, hx, hy⟩, h.res (Kz _ _ _ _ _) rfl⟩
  . have e : P.x * 1 = P.x := by grobner
    rw [e]; exact hx
  . have e : P.y * 1 = P.y := by grobner
    rw [e]; exact hy
  . have e : P.x * P.y * 1 = P.x * P.y := by grobner
    rw [e]; exact ht
theorem JS (a : FF) : Fy (a.val : Int) = ((Xq a).val : Int) := by
  show (a.val : Int) ^ (Qk (ZM 235 127) 32).toNat % pV = ((a.val ^ (pN - 2) % pN : Nat) : Int)
  rw [DX, Int.natCast_emod, Int.natCast_pow, Zr]
theorem EP {l : List Int} {P : Pt} (hp : XL l P) : ∃ x y, QH x (P.x.val : Int) /\ QH y (P.y.val : Int) /\ PV Tryd.prog gT 38 [fp l] (pl x y) := by
  obtain ⟨x1, y1, z1, t1, Z, rfl, h1, p1, p2, p3, p4⟩ := hp
  obtain ⟨x, y, k1, k2, k3⟩ := QgP (t1 := t1) p1 p2 p3
  rw [JS, <- val_mul] at k1 k2
  have hi := Zt h1
  have e1 : P.x * Z * Xq Z = P.x := by generalize Xq Z = f at *; grobner
  have e2 : P.y * Z * Xq Z = P.y := by generalize Xq Z = f at *; grobner
  rw [e1] at k1
  rw [e2] at k2
  exact ⟨x, y, k1, k2, k3.arg (by simp only [Qt, Kz]) rfl⟩
theorem Un : ∃ r, XL r QS /\ PV Tryd.prog gT 66 [] (fp r) := by
  obtain ⟨r, hr, h⟩ := YK (P := QS) (x := [0, 0, 0, 0, 0]) (y := [1, 0, 0, 0, 0]) ZS VI
  have hr := hr.1
  refine ⟨r, hr, PV.mk' Tryd.func66 rfl rfl rfl rfl fun w L hL hG => ?_⟩
  refine S.enter Qh [] gT Tryd.func66 rfl rfl rfl (fun _ => rfl) hL hG ?_
  refine S.g false rfl ?_
  refine S.cv rfl rfl rfl rfl rfl rfl (UX 1 (by omega)) ?_
  refine S.g false rfl ?_
  refine S.cv rfl rfl rfl rfl rfl rfl h ?_
  refine S.go false rfl (by repeat' (first | exact True.intro | refine And.intro ?_ ?_ | exact hr.len | exact rfl)) ?_
  exact S.retv rfl rfl rfl rfl rfl
theorem Qdy {α : Type} {Q : Nat -> α -> Prop} {S : Nat -> α -> α -> Prop} (x0 : α) (h0 : Q 0 x0) (h : ∀ m x, Q m x -> ∃ y, Q (m + 1) y /\ S m x y) : ∃ f : Nat -> α, f 0 = x0 /\ ∀ m, Q m (f m) /\ S m (f m) (f (m + 1)) := by
  let g : (m : Nat) -> { x : α // Q m x } := fun m => Nat.rec ⟨x0, h0⟩ (fun k p => ⟨Classical.choose (h k p.1 p.2), (Classical.choose_spec (h k p.1 p.2)).1⟩) m
  refine ⟨fun m => (g m).1, rfl, fun m => ⟨(g m).2, ?_⟩⟩
  exact (Classical.choose_spec (h m (g m).1 (g m).2)).2
/-- Twenty numbers of a table. -/
def VA (T : List Int) (k : Nat) : List Int := (T.drop (k * 20)).take 20
def VD (T r : List Int) (k : Nat) : List Int := T.take (k * 20) ++ (r ++ T.drop (k * 20 + 20))
theorem QaO {T r : List Int} {k : Nat} (hT : T.length = 320) (hr : r.length = 20) (hk : k < 16) : (VD T r k).length = 320 := by
  unfold VD; rw [List.length_append, List.length_append, List.length_take, List.length_drop]; omega
theorem Er {T r : List Int} {k : Nat} (hT : T.length = 320) (hr : r.length = 20) (hk : k < 16) : VA (VD T r k) k = r := by
  unfold VA VD
  have hl : (T.take (k * 20)).length = k * 20 := by rw [List.length_take]; omega
  have e := List.drop_length_add_append (l₁ := T.take (k * 20)) (l₂ := r ++ T.drop (k * 20 + 20)) (i := 0)
  rw [hl, Nat.add_zero, List.drop_zero] at e
  rw [e, List.take_append_of_le_length (by omega), List.take_of_length_le (by omega)]
theorem QaM {T r : List Int} {k j : Nat} (hT : T.length = 320) (hk : k < 16) (hj : j < k) : VA (VD T r k) j = VA T j := by
  unfold VA VD
  have hl : (T.take (k * 20)).length = k * 20 := by rw [List.length_take]; omega
  rw [List.drop_append_of_le_length (by omega), List.take_append_of_le_length (by rw [List.length_drop]; omega), List.drop_take, List.take_take, Nat.min_eq_left (by omega)]
/-- A point 0 to k times. -/
def Qbm (T : List Int) (k : Nat) (P : Pt) : Prop := T.length = 320 /\ ∀ j, j <= k -> XL (VA T j) (Qs j P)
def Qib (l : List Int) (k : Nat) (x y : List Int) : Prop := k < 15 -> ∃ r, r.length = 20 /\ PV Tryd.prog gT 68 [fp (VA x k), fp l] (fp r) /\ y = VD x r (k + 1)
theorem EH {l : List Int} {P : Pt} (hp : XL l P) (t0 : List Int) (h0 : Qbm t0 0 P) : ∃ f : Nat -> List Int, f 0 = t0 /\ ∀ k, (k <= 15 -> Qbm (f k) k P) /\ Qib l k (f k) (f (k + 1)) := by
  refine Qdy (Q := fun k x => k <= 15 -> Qbm x k P) t0 (fun _ => h0) (fun k x hx => ?_)
  by_cases hk : k < 15
  . have hq := hx (by omega)
    obtain ⟨r, hr, cr⟩ := Qbu (hq.2 k (Nat.le_refl _)) hp
    refine ⟨VD x r (k + 1), fun _ => ⟨QaO hq.1 hr.len (by omega), fun j hj => ?_⟩, fun _ => ⟨r, hr.len, cr, rfl⟩⟩
    by_cases hjk : j = k + 1
    . subst hjk; rw [Er hq.1 hr.len (by omega)]; exact hr
    . rw [QaM hq.1 (by omega) (by omega)]; exact hq.2 j (by omega)
  . exact ⟨x, fun h => absurd h (by omega), fun h => absurd h hk⟩
theorem Qh9 {K : IntKind} {l l' : List Int} {n : Nat} (h : l = l') : (SV.a K l n).eqv (SV.a K l' n) := by subst h; exact rfl
set_option maxHeartbeats 1000000 in
theorem YS {l : List Int} {P : Pt} (hp : XL l P) : ∃ T, Qbm T 15 P /\ PV Tryd.prog gT 65 [fp l] (.a .u64 T 320) := by
  obtain ⟨n0, hn, hn0⟩ := Un
  have ht0 : Qbm (n0 ++ List.replicate 300 0) 0 P := ⟨by rw [List.length_append, hn.len]; rfl, fun j hj => by
    obtain rfl : j = 0 := by omega
    show XL (((n0 ++ List.replicate 300 0).drop (0 * 20)).take 20) QS
    rw [Nat.zero_mul, List.drop_zero, List.take_append_of_le_length (by rw [hn.len]; omega), List.take_of_length_le (by rw [hn.len]; omega)]
    exact hn⟩
  obtain ⟨F, hF0, hF⟩ := EH hp _ ht0
  refine ⟨F 15, (hF 15).1 (Nat.le_refl _), PV.mk' Tryd.func65 rfl rfl rfl rfl fun w L hL hG => ?_⟩
  have hlen : ∀ k, k <= 15 -> (F k).length = 320 := fun k hk => ((hF k).1 hk).1
  have hll := hp.len
  have hnl := hn.len
  refine S.enter Qh [fp l] gT Tryd.func65 rfl rfl rfl (fun _ => rfl) hL hG ?_
  refine S.go false rfl (by repeat' (first | exact True.intro | refine And.intro ?_ ?_ | exact hll | exact rfl)) ?_
  refine S.cv rfl rfl rfl rfl rfl rfl hn0 ?_
  refine S.go false rfl (by repeat' (first | exact True.intro | refine And.intro ?_ ?_ | exact hnl | exact rfl)) ?_
  refine S.recell 2 [.a .u64 (F 0) 320] rfl (fun ρ => ?_) ⟨hlen 0 (by omega), trivial⟩ rfl ?_
  . rw [hF0]; simp only [Qg, SV.cs, List.append_nil, List.map_append]; first | done | rfl
  refine S.loop [1, 2, 3] (fun k : Nat => [(7, .i .i64 (k : Int))]) (fun k => [(0, [.a .u64 l 20]), (1, [.a .u64 (List.replicate 320 0) 320]), (2, [.a .u64 (F k) 320])]) (fun _ => []) (fun k => k <= 15) (fun k => 15 - k) 0 rfl (fun _ => rfl) (fun _ => rfl) rfl ⟨⟨rfl, rfl⟩, trivial⟩ (by repeat' (first | exact True.intro | refine And.intro ?_ ?_ | exact hll | exact hlen 0 (by omega) | exact rfl)) (fun _ _ _ => trivial) (by omega) fun J k hk again => ?_
  have hk' : k <= 15 := hk
  have hFk := hlen k hk'
  refine S.g false rfl ?_
  refine S.cond rfl (fun c => ?_) (fun c => ?_)
  . have c' : k < 15 := by omega
    obtain ⟨r, hrl, hw, hy⟩ := (hF k).2 c'
    have hw' := hw.arg (args' := [.g [.a .u64 (((F k).drop (Nat.add 0 (Nat.mul (Int.toNat (k : Int)) 20))).take 20) 20], fp l]) (congrArg (fun z => Qt Qu [SV.g [.a .u64 z 20], fp l]) (by unfold VA; congr 2; simp)) rfl
    refine S.g false rfl ?_
    refine S.drp false [(6, fp r)] rfl rfl rfl ?_ (by repeat' (first | exact True.intro | refine And.intro ?_ ?_ | omega | (dsimp only; omega) | exact hrl | exact hw' | exact rfl))
    refine S.g false rfl ?_
    refine S.again (again (k + 1) (show k + 1 <= 15 by omega) (show 15 - (k + 1) < 15 - k by omega)) ⟨⟨rfl, by omega⟩, rfl, rfl, rfl, trivial⟩ ?_ rfl rfl (fun x hx => hx) rfl (fun ρ W h => h.hs)
    repeat' (first | exact True.intro | refine And.intro ?_ ?_ | exact hll | exact hlen (k + 1) (by omega) | exact Qh9 (by rw [hy]; unfold VD; simp only [show Int.toNat ((k : Int) + 1) = k + 1 by omega, Nat.add_eq, Nat.mul_eq, Nat.zero_add]) | exact rfl)
  . obtain rfl : k = 15 := by omega
    refine S.g false rfl ?_
    exact S.retv rfl rfl rfl rfl rfl
def kB (kb : List Int) : Nat := (Qk kb 32).toNat
theorem QfP {kb : List Int} (h : Qd kb) : kB kb < 2 ^ 256 := by
  have := Xw kb h
  unfold kB
  omega
theorem Qai {kb : List Int} (h : Qd kb) (j : Nat) (hj : j < 256) : Uy kb j = ((kB kb / 2 ^ j % 2 : Nat) : Int) := by
  have h0 := (Xw kb h).1
  rw [FX kb h 32 j (by omega)]
  unfold kB
  rw [Int.natCast_emod, Int.natCast_ediv, Int.natCast_pow, Int.toNat_of_nonneg h0]
  rfl
/-- A sum of so many points. -/
def Zl : Nat -> (Nat -> Pt) -> Pt
  | 0, _ => QS
  | n + 1, F => Ql (Zl n F) (F n)
theorem KO (a b c d : Pt) : Ql (Ql a b) (Ql c d) = Ql (Ql a c) (Ql b d) := by
  rw [QV, <- QV b, ZZ b c, QV c, <- QV a]
theorem Hy (F G : Nat -> Pt) : ∀ n, Zl n (fun j => Ql (F j) (G j)) = Ql (Zl n F) (Zl n G)
  | 0 => (Xm QS).symm
  | n + 1 => by
    show Ql (Zl n (fun j => Ql (F j) (G j))) (Ql (F n) (G n)) = Ql (Ql (Zl n F) (F n)) (Ql (Zl n G) (G n))
    rw [Hy F G n, KO]
theorem Vi {F G : Nat -> Pt} : ∀ n, (∀ j, j < n -> F j = G j) -> Zl n F = Zl n G
  | 0, _ => rfl
  | n + 1, h => by
    show Ql (Zl n F) (F n) = Ql (Zl n G) (G n)
    rw [Vi n (fun j hj => h j (by omega)), h n (by omega)]
theorem QiG (A : Pt) : Ql (Ql (Ql (Ql A A) (Ql A A)) (Ql (Ql A A) (Ql A A))) (Ql (Ql (Ql A A) (Ql A A)) (Ql (Ql A A) (Ql A A))) = Qs 16 A := by
  have h2 : Ql A A = Qs 2 A := by rw [show (2 : Nat) = 1 + 1 from rfl, Xt, QbM]
  have h4 : Ql (Qs 2 A) (Qs 2 A) = Qs 4 A := (Xt 2 A 2).symm
  have h8 : Ql (Qs 4 A) (Qs 4 A) = Qs 8 A := (Xt 4 A 4).symm
  have h16 : Ql (Qs 8 A) (Qs 8 A) = Qs 16 A := (Xt 8 A 8).symm
  rw [h2, h4, h8, h16]
theorem KB (A B : Pt) : ∀ k, Qs k (Ql A B) = Ql (Qs k A) (Qs k B)
  | 0 => (Xm QS).symm
  | k + 1 => by
    show Ql (Qs k (Ql A B)) (Ql A B) = Ql (Ql (Qs k A) A) (Ql (Qs k B) B)
    rw [KB A B k, KO]
theorem KA (k : Nat) (F : Nat -> Pt) : ∀ n, Qs k (Zl n F) = Zl n (fun j => Qs k (F j))
  | 0 => YZ k
  | n + 1 => by
    show Qs k (Ql (Zl n F) (F n)) = Ql (Zl n fun j => Qs k (F j)) (Qs k (F n))
    rw [KB, KA k F n]
/-- Four bits of a number, the at-th from below. -/
def nib (kb : List Int) (at_ : Nat) : Int := Qb kb (at_ / 2) / 2 ^ (4 * (at_ % 2)) % 16
theorem Qgw (kb : List Int) (at_ : Nat) : 0 <= nib kb at_ /\ nib kb at_ < 16 := by unfold nib; omega
theorem Qgx {kb : List Int} (h : Qd kb) (t : Nat) (ht : t < 64) : nib kb t = ((kB kb / 16 ^ t % 16 : Nat) : Int) := by
  have e16 : (16 : Nat) ^ t = 2 ^ (4 * t) := by rw [show (16 : Nat) = 2 ^ 4 from rfl, <- Nat.pow_mul]
  rw [e16]
  have hb := fun i (hi : i < 4) => Qai h (4 * t + i) (by omega)
  have hd : ∀ i, i < 4 -> Uy kb (4 * t + i) = Qb kb (t / 2) / 2 ^ (4 * (t % 2)) / 2 ^ i % 2 := by
    intro i hi
    unfold Uy
    rw [show (4 * t + i) / 8 = t / 2 by omega, show (4 * t + i) % 8 = 4 * (t % 2) + i by omega, Int.pow_add, Int.ediv_ediv_of_nonneg (Int.le_of_lt (QI _))]
  have hk : ∀ i, kB kb / 2 ^ (4 * t + i) = kB kb / 2 ^ (4 * t) / 2 ^ i := fun i => by rw [Nat.pow_add, Nat.div_div_eq_div_mul]
  have h0 := hb 0 (by omega); have h1 := hb 1 (by omega); have h2 := hb 2 (by omega); have h3 := hb 3 (by omega)
  rw [hd 0 (by omega), hk] at h0
  rw [hd 1 (by omega), hk] at h1
  rw [hd 2 (by omega), hk] at h2
  rw [hd 3 (by omega), hk] at h3
  unfold nib
  have hx := h.at (t / 2)
  have hn : 0 <= Qb kb (t / 2) / 2 ^ (4 * (t % 2)) := Int.ediv_nonneg hx.1 (Int.le_of_lt (QI _))
  generalize Qb kb (t / 2) / 2 ^ (4 * (t % 2)) = y at *
  generalize kB kb / 2 ^ (4 * t) = X at *
  simp only [Int.reducePow, Nat.reducePow] at *
  omega
theorem QbN {K t : Nat} (P : Pt) : Ql (Qs 16 (Qs (K / 16 ^ (t + 1)) P)) (Qs (K / 16 ^ t % 16) P) = Qs (K / 16 ^ t) P := by
  rw [<- ZV, <- Xt]
  congr 1
  rw [Nat.pow_succ, <- Nat.div_div_eq_div_mul]
  omega
theorem QaC {x : Int} (h : 0 <= x /\ x <= 255) : bits BinOp.and IntKind.u8 x 15 = x % 16 := Y9 (p := fun y => bits BinOp.and IntKind.u8 y 15 = y % 16) (by decide +kernel) h
/-- Four bits, as the program takes them. -/
def Yk (kb : List Int) (k : Nat) : Int := bits .and .u8 (kb.getD (Int.toNat ((63 - (k : Int)) / 2)) 0 / 2 ^ Int.toNat (4 * ((63 - (k : Int)) % 2))) 15
theorem QeJ {kb : List Int} (h : Qd kb) {k : Nat} (hk : k < 64) : Yk kb k = nib kb (63 - k) := by
  unfold Yk nib
  have e1 : Int.toNat ((63 - (k : Int)) / 2) = (63 - k) / 2 := by omega
  have e2 : Int.toNat (4 * ((63 - (k : Int)) % 2)) = 4 * ((63 - k) % 2) := by omega
  rw [e1, e2]
  have e3 : kb.getD ((63 - k) / 2) 0 = Qb kb ((63 - k) / 2) := by simp [Qb]
  rw [e3, QaC]
  exact Vv (h.at _) _
/-- One turn: four times twice as much, then each point's table. -/
def Qia (n : Nat) (kb T : Nat -> List Int) (i : Nat) (x y : List Int) : Prop := i < 64 -> ∃ d a : Nat -> List Int, d 0 = x /\ a 0 = d 4 /\ y = a n /\ (∀ c, c <= 4 -> (d c).length = 20) /\ (∀ j, j <= n -> (a j).length = 20) /\
  (∀ c, c < 4 -> PV Tryd.prog gT 67 [fp (d c)] (fp (d (c + 1)))) /\
  (∀ j, j < n -> (0 <= Yk (kb j) i /\ Yk (kb j) i < 16) /\ PV Tryd.prog gT 68 [fp (a j), .g [.a .u64 (((T j).drop (Nat.add 0 (Nat.mul (Int.toNat (Yk (kb j) i)) 20))).take 20) 20]] (fp (a (j + 1))))
set_option maxHeartbeats 1000000 in
theorem JE {n : Nat} {kb T : Nat -> List Int} {P : Nat -> Pt} (ht : ∀ j, j < n -> Qbm (T j) 15 (P j)) (hb : ∀ j, j < n -> Qd (kb j)) (x0 : List Int) (h0 : XL x0 QS) :
    ∃ f : Nat -> List Int, f 0 = x0 /\ ∀ i, (i <= 64 -> XL (f i) (Zl n fun j => Qs (kB (kb j) / 16 ^ (64 - i)) (P j))) /\ Qia n kb T i (f i) (f (i + 1)) := by
  refine Qdy (Q := fun i x => i <= 64 -> XL x (Zl n fun j => Qs (kB (kb j) / 16 ^ (64 - i)) (P j))) x0 (fun _ => ?_) (fun i x hx => ?_)
  . have e : (Zl n fun j => Qs (kB (kb j) / 16 ^ (64 - 0)) (P j)) = QS := by
      rw [Vi (G := fun _ => QS) n (fun j hj => by
        rw [Nat.div_eq_of_lt (by have := QfP (hb j hj); rw [show (16 : Nat) ^ (64 - 0) = 2 ^ 256 by decide]; exact this)]; rfl)]
      clear h0 ht hb
      induction n with
      | zero => rfl
      | succ n ih => show Ql (Zl n fun _ => QS) QS = QS; rw [ih, Xm]
    rw [e]; exact h0
  . by_cases hi : i < 64
    . have hq := hx (by omega)
      obtain ⟨d1, r1, c1⟩ := Y6 hq
      obtain ⟨d2, r2, c2⟩ := Y6 r1
      obtain ⟨d3, r3, c3⟩ := Y6 r2
      obtain ⟨d4, r4, c4⟩ := Y6 r3
      rw [QiG] at r4
      have hin := Qdy (Q := fun j a => j <= n -> XL a (Ql (Qs 16 (Zl n fun j => Qs (kB (kb j) / 16 ^ (64 - i)) (P j))) (Zl j fun j => Qs (kB (kb j) / 16 ^ (63 - i) % 16) (P j))))
        (S := fun j a b => j < n -> (0 <= Yk (kb j) i /\ Yk (kb j) i < 16) /\ PV Tryd.prog gT 68 [fp a, .g [.a .u64 (((T j).drop (Nat.add 0 (Nat.mul (Int.toNat (Yk (kb j) i)) 20))).take 20) 20]] (fp b))
        d4 (fun _ => by show XL d4 (Ql _ QS); rw [Xm]; exact r4) (fun j a ha => by
          by_cases hj : j < n
          . have hv := Qgx (hb j hj) (63 - i) (by omega)
            have hlt := Qgw (kb j) (63 - i)
            rw [<- QeJ (hb j hj) hi] at hv hlt
            have hr := (ht j hj).2 (Yk (kb j) i).toNat (by omega)
            have ev : (Yk (kb j) i).toNat = kB (kb j) / 16 ^ (63 - i) % 16 := by rw [hv]; exact Int.toNat_natCast _
            obtain ⟨b, rb, cb⟩ := Qbu (ha (by omega)) hr
            rw [ev, QV] at rb
            exact ⟨b, fun _ => rb, fun _ => ⟨hlt, cb.arg (congrArg (fun z => Qt Qu [fp a, SV.g [.a .u64 z 20]]) (by unfold VA; simp)) rfl⟩⟩
          . exact ⟨a, fun h => absurd h (by omega), fun h => absurd h hj⟩)
      obtain ⟨a, ha0, ha⟩ := hin
      have hfin := (ha n).1 (Nat.le_refl _)
      rw [KA, <- Hy] at hfin
      refine ⟨a n, fun _ => ?_, fun _ => ⟨fun c => match c with | 0 => x | 1 => d1 | 2 => d2 | 3 => d3 | _ => d4, a, rfl, ha0, rfl, ?_, fun j hj => ((ha j).1 hj).len, ?_, fun j hj => (ha j).2 hj⟩⟩
      . rw [Vi (G := fun j => Qs (kB (kb j) / 16 ^ (63 - i)) (P j)) n (fun j hj => by
          have h := QbN (K := kB (kb j)) (t := 63 - i) (P j)
          rw [show 63 - i + 1 = 64 - i by omega] at h
          exact h)] at hfin
        rw [show 64 - (i + 1) = 63 - i by omega]
        exact hfin
      . intro c hc
        match c, hc with
        | 0, _ => exact hq.len
        | 1, _ => exact r1.len
        | 2, _ => exact r2.len
        | 3, _ => exact r3.len
        | 4, _ => exact r4.len
        | c + 5, h => omega
      . intro c hc
        match c, hc with
        | 0, _ => exact c1
        | 1, _ => exact c2
        | 2, _ => exact c3
        | 3, _ => exact c4
        | c + 4, h => omega
    . exact ⟨x, fun h => absurd h (by omega), fun h => absurd h hi⟩
end Go.Proofs.YtbiboamaigedjaaDoor
