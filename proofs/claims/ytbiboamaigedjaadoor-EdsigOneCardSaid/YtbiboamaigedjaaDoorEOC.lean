/- The machine of symbols: the rule of drawn regions, step by step. No program stands here. The machine of symbols: the rule of drawn regions. No program -/
import Derived.Laws.Externs
import Derived.LoopN
import Derived.Lib.Mul64
import Derived.Shelf.Spec.BitsCarry
import Derived.Test.YtbiboamaigedjaaDoorEOB
namespace Go.Proofs.YtbiboamaigedjaaDoor
open Go.RowKit
set_option linter.unusedVariables false
set_option linter.constructorNameAsVariable false
set_option linter.unusedSimpArgs false

mutual
theorem SV.wf_av {n q : Nat} (h : n <= q) : ∀ x : SV, x.wf n = true -> x.av q = true
  | .v x, _ => by simp only [SV.av]
  | .i K n, _ => by simp only [SV.av]
  | .lit _ _, _ => by simp only [SV.av]
  | .c p d, _ => by simp only [SV.av]
  | .l b, _ => by simp only [SV.av]
  | .s x, _ => by simp only [SV.av]
  | .o _ _ _, _ => by simp only [SV.av]
  | .p k o, hw => by have := Qw (by simpa only [SV.wf] using hw : Nat.blt k n = true); simp only [SV.av, QZ (show k ≠ q by omega)]; rfl
  | .x k o s n', hw => by have := Qw (by simpa only [SV.wf] using hw : Nat.blt k n = true); simp only [SV.av, QZ (show k ≠ q by omega)]; rfl
  | .q k o, hw => by have := Qw (by simpa only [SV.wf] using hw : Nat.blt k n = true); simp only [SV.av, QZ (show k ≠ q by omega)]; rfl
  | .y k _ _ _, hw => by have := Qw (by simpa only [SV.wf] using hw : Nat.blt k n = true); simp only [SV.av, QZ (show k ≠ q by omega)]; rfl
  | .z k _ _ _, hw => by have := Qw (by simpa only [SV.wf] using hw : Nat.blt k n = true); simp only [SV.av, QZ (show k ≠ q by omega)]; rfl
  | .r k _ _ _, hw => by have := Qw (by simpa only [SV.wf] using hw : Nat.blt k n = true); simp only [SV.av, QZ (show k ≠ q by omega)]; rfl
  | .t l, hw => by simp only [SV.av]; exact UY h l (by simpa only [SV.wf] using hw)
  | .g l, hw => by simp only [SV.av]; exact UY h l (by simpa only [SV.wf] using hw)
  | .f _ l, hw => by simp only [SV.av]; exact UY h l (by simpa only [SV.wf] using hw)
  | .a _ _ _, _ => by simp only [SV.av]
  | .w p d x, hw => by simp only [SV.av]; exact SV.wf_av h x (by simpa only [SV.wf] using hw)
  | .u, _ => by simp only [SV.av]
theorem UY {n q : Nat} (h : n <= q) : ∀ l : List SV, Zt n l = true -> GC q l = true
  | [], _ => by simp only [GC]
  | x :: l, hw => by
    unfold Zt at hw
    split at hw
    . rename_i hx
      unfold GC
      rw [SV.wf_av h x hx]
      exact UY h l hw
    . cases hw
end
theorem G8 {p : Cl -> Prop} {k : Nat} {c : Cl} (hc : p c) : ∀ {m : SM}, (∀ x ∈ m, p x.2) -> ∀ x ∈ Yv k c m, p x.2
  | [], _, x, hx => by simp only [Yv, List.mem_singleton] at hx; rw [hx]; exact hc
  | (j, y) :: l, h, x, hx => by
    unfold Yv at hx
    split at hx
    . cases hx with
      | head => exact hc
      | tail _ hx => exact h x (.tail _ hx)
    . cases hx with
      | head => exact h _ (.head _)
      | tail _ hx => exact G8 hc (fun x hx => h x (.tail _ hx)) x hx
theorem Ub {p : Cl -> Prop} : ∀ {l : List Ef} {m : SM}, (∀ x ∈ m, p x.2) -> (∀ k c, Ef.wr k c ∈ l -> p c) -> ∀ x ∈ QE l m, p x.2
  | [], m, h, _, x, hx => h x hx
  | .no :: l, m, h, hl, x, hx => Ub (l := l) h (fun k c hc => hl k c (.tail _ hc)) x hx
  | .wr k c :: l, m, h, hl, x, hx => Ub (l := l) (G8 (hl k c (.head _)) h) (fun k c hc => hl k c (.tail _ hc)) x hx
theorem Cl0.up {os : List Oper} {L : Nat -> Bool} (h : Cl0 os L) {k : Nat} {o : Oper} (ho : os[k]? = some o) (hd : ∀ q ∈ Ql .any o, L q = true) : Cl0 os (X6 L k true) := fun k' o' ho' hk' q hq => by
  unfold X6 at hk' ⊢
  split
  . rfl
  . split at hk'
    . rename_i e; subst e; rw [ho] at ho'; cases ho'; exact hd q hq
    . exact h k' o' ho' hk' q hq
theorem Yk {α : Type} (f : Nat -> α) (i : Nat) (v : α) : X6 f i v i = v := by simp [X6]
theorem Xb {α : Type} {f : Nat -> α} {i k : Nat} {v : α} (h : k ≠ i) : X6 f i v k = f k := by simp [X6, h]
section
variable {c : Cx} {md : Bool} {os : List Oper} {f : SF} {m : SM} {d : SD} {n : Nat} {Γ : List Qq} {α : Type} {j : Nat} {sv : α -> SV} {fs : α -> List Qq} {pr : α -> Prop} {V : α -> VR} {E : α -> List Ef} {A : List (Nat × Nat)} {cA : List Prop} {cB : α -> List Prop} {fps : List (Nat × Nat)} {pv : List (Nat × SV)} {G : List Qq} {rk : List (Nat × List Nat)} {xk : List Nat}
/-- An operation that writes nothing: what holds behind it. -/
theorem Dw.goN (h : Dw c md os f m d n Γ α j sv fs pr V E A cA cB fps pv G rk xk) (km : (m.map Prod.fst).Nodup) {ρ0 ρ : Qs} {x : α} {L : Nat -> Bool} {g : Nat -> Value} {W : World} (h1 : Qo ρ f = Qo ρ0 f) (h2 : ∀ i t v, L i = true -> Yi (V x) i = some (some t, v) -> g i = v.den ρ) (h3 : L j = true -> pr x) (h4 : Cl0 os L) (h5 : WM ρ c.L0 c.w0 (QE (XM L 0 (E x)) m) d (n + os.length) (Γ ++ bif L j then fs x else []) W) {k : Nat} {o : Oper} (ho : os[k]? = some o) (hkj : k ≠ j) (hd : ∀ q ∈ Ql .any o, L q = true) {v : SV} (hv : Yi (V x) k = some (o.dst, v)) (he : (E x)[k]? = some .no) : DG c os f m d n Γ j fs pr V E ρ0 (X6 L k true) (X6 g k (v.den ρ)) W := by
  refine ⟨ρ, x, h1, fun i t u hi hu => ?_, fun hj => h3 (by rw [<- Xb (v := true) (f := L) (fun e => hkj e.symm)]; exact hj), h4.up ho hd, ?_⟩
  . by_cases e : i = k
    . subst e
      rw [hv] at hu
      simp only [Option.some.injEq, Prod.mk.injEq] at hu
      obtain ⟨_, rfl⟩ := hu
      exact Yk _ _ _
    . rw [Xb e]
      rw [Xb e] at hi
      exact h2 i t u hi hu
  . rw [Xb (f := L) (v := true) (fun e => hkj e.symm)]
    exact h5.ext (h.putN x he) (XP km)
/-- Who else writes what this one writes, and is listed behind it, hasn't run. -/
theorem Dw.above (h : Dw c md os f m d n Γ α j sv fs pr V E A cA cB fps pv G rk xk) (x : α) {L : Nat -> Bool} (hL : Cl0 os L) {k q : Nat} {o : Oper} (ho : os[k]? = some o) (hk : L k = false) (hq : (k, q) ∈ fps) : ∀ (i : Nat) (e : Ef), (E x)[i]? = some e -> e.on q = true -> k < i -> L i = false := fun i e he hon hik => by
  have hel := h.len x
  have ho' : os[i]? = some (os[i]'(by have := (List.getElem?_eq_some_iff.1 he).1; omega)) := List.getElem?_eq_getElem _
  rcases Gs (h.ho x) k q hq i e he hon with h1 | h1 | h1
  . omega
  . have := QcI (h.anc x) h.dep k o ho i h1; omega
  . cases hLi : L i with
    | false => rfl
    | true =>
      have := Uj (h.anc x) h.dep hL i _ ho' (hL i _ ho' hLi) k h1
      rw [hk] at this; cases this
/-- A new block's number: who else writes it waits for it. -/
theorem Dw.fresh (h : Dw c md os f m d n Γ α j sv fs pr V E A cA cB fps pv G rk xk) (x : α) {L : Nat -> Bool} (hL : Cl0 os L) {k : Nat} {o : Oper} (ho : os[k]? = some o) (hk : L k = false) {cl : Cl} (hE : (E x)[k]? = some (.wr (n + k) cl)) : ∀ (i : Nat) (e : Ef), (E x)[i]? = some e -> e.on (n + k) = true -> i = k \/ L i = false := fun i e he hon => by
  have hel := h.len x
  have hil : i < os.length := by have := (List.getElem?_eq_some_iff.1 he).1; omega
  have ho' : os[i]? = some os[i] := List.getElem?_eq_getElem hil
  by_cases hik : i = k
  . exact .inl hik
  . refine .inr ?_
    have hc := (UP (h.hn x) k cl (by rw [Nat.zero_add]; exact hE)).2
    rw [Nat.zero_add] at hc
    have ha := fun hb => Gv hc i e he (by rw [Nat.zero_add]; exact hik) hb
    rw [Nat.zero_add] at ha
    cases hb : tb (Zo A i) k with
    | false => have := (ha hb).1; rw [hon] at this; cases this
    | true =>
      cases hLi : L i with
      | false => rfl
      | true =>
        have := Uj (h.anc x) h.dep hL i _ ho' (hL i _ ho' hLi) k hb
        rw [hk] at this; cases this
/-- What has run does not name a new block of another one. -/
theorem Dw.avo (h : Dw c md os f m d n Γ α j sv fs pr V E A cA cB fps pv G rk xk) (x : α) {L : Nat -> Bool} (hL : Cl0 os L) {k : Nat} {o : Oper} (ho : os[k]? = some o) (hk : L k = false) {cl : Cl} (hE : (E x)[k]? = some (.wr (n + k) cl)) {i : Nat} (hi : L i = true) (hil : i < os.length) : (∀ e, (E x)[i]? = some e -> e.av (n + k) = true) /\ ∀ d v, Yi (V x) i = some (d, v) -> v.av (n + k) = true := by
  have hik : i ≠ k := fun e => by rw [e, hk] at hi; cases hi
  have hel := h.len x
  have ho' : os[i]? = some os[i] := List.getElem?_eq_getElem hil
  have he : (E x)[i]? = some ((E x)[i]'(by omega)) := List.getElem?_eq_getElem _
  have hc := (UP (h.hn x) k cl (by rw [Nat.zero_add]; exact hE)).2
  rw [Nat.zero_add] at hc
  have hb : tb (Zo A i) k = false := by
    cases hb : tb (Zo A i) k with
    | false => rfl
    | true =>
      have := Uj (h.anc x) h.dep hL i _ ho' (hL i _ ho' hi) k hb
      rw [hk] at this; cases this
  have ha := Gv hc i _ he (by rw [Nat.zero_add]; exact hik) (by rw [Nat.zero_add]; exact hb)
  rw [Nat.zero_add] at ha
  exact ⟨fun e hee => by rw [he] at hee; cases hee; exact ha.2.1, ha.2.2⟩
theorem Ho {L : Nat -> Bool} {l : List Ef} {q : Nat} {cl : Cl} (h : Ef.wr q cl ∈ XM L 0 l) : ∃ i : Nat, l[i]? = some (.wr q cl) /\ L i = true := by
  obtain ⟨i, hi⟩ := List.mem_iff_getElem?.1 h
  rw [Q4, Nat.zero_add] at hi
  cases he : l[i]? with
  | none => rw [he] at hi; cases hi
  | some e =>
    rw [he] at hi
    simp only [Option.map_some, Option.some.injEq] at hi
    split at hi
    . rename_i hL; subst hi; exact ⟨i, he, hL⟩
    . cases hi
theorem QaN (ρ : Qs) (n k B : Nat) : (SV.p (Nat.add n k) 0).den (ρ.setb (n + k) B) = .pointer (some ⟨B, 0, none⟩) := by
  have := Qs.setb_at ρ (n + k) B
  simp only [SV.den]
  show Value.pointer (some ⟨(ρ.setb (n + k) B).b (n + k), 0, none⟩) = _
  rw [this]
theorem QeH (ρ : Qs) (n k B l : Nat) : (SV.y (Nat.add n k) 0 l l).den (ρ.setb (n + k) B) = .slice (some ⟨B, 0, none⟩) l l := by
  have := Qs.setb_at ρ (n + k) B
  simp only [SV.den]
  show Value.slice (some ⟨(ρ.setb (n + k) B).b (n + k), 0, none⟩) l l = _
  rw [this]
/-- A new block. -/
theorem Dw.goB (h : Dw c md os f m d n Γ α j sv fs pr V E A cA cB fps pv G rk xk) (km : (m.map Prod.fst).Nodup) {ρ0 ρ : Qs} {x : α} {L : Nat -> Bool} {g : Nat -> Value} {W W' : World} (h1 : Qo ρ f = Qo ρ0 f) (h2 : ∀ i t v, L i = true -> Yi (V x) i = some (some t, v) -> g i = v.den ρ) (h3 : L j = true -> pr x) (h4 : Cl0 os L) (h5 : WM ρ c.L0 c.w0 (QE (XM L 0 (E x)) m) d (n + os.length) (Γ ++ bif L j then fs x else []) W) (h6 : ∀ i, L i = true -> i < os.length) {k : Nat} {o : Oper} (ho : os[k]? = some o) (hk : L k = false) (hkj : k ≠ j) (hd : ∀ q ∈ Ql .any o, L q = true) {cl : Cl} (hok : XW cl) {v : SV} (hv : Yi (V x) k = some (o.dst, v)) (he : (E x)[k]? = some (.wr (n + k) cl)) {u : Value} (hn : u = v.den (ρ.setb (n + k) W.heap.size) /\ XZ W' W.heap.size (Qd ρ cl) /\ Below W.heap.size W W' /\ W.heap.size < W'.heap.size) : DG c os f m d n Γ j fs pr V E ρ0 (X6 L k true) (X6 g k u) W' := by
  obtain ⟨rfl, k1, k2, k3⟩ := hn
  have hkl : k < os.length := (List.getElem?_eq_some_iff.1 ho).1
  have hfresh := h.fresh x h4 ho hk he
  have hav := fun {i : Nat} (hi : L i = true) => h.avo x h4 ho hk he hi (h6 i hi)
  have hcl : GC (n + k) cl = true := by have := (UP (h.hn x) k cl (by rw [Nat.zero_add]; exact he)).1; rwa [Nat.zero_add] at this
  have hat : Xm (QE (XM L 0 (E x)) m) (n + k) = none := by
    rw [Xe, X7 fun e hm => ?_]
    . cases hq : Xm m (n + k) with
      | none => rfl
      | some c' => have := (UX h.wfm _ (XE hq)).1; simp only at this; omega
    . cases e with
      | no => rfl
      | wr q c' =>
        obtain ⟨i, hi, hLi⟩ := Ho hm
        cases hon : (Ef.wr q c').on (n + k) with
        | false => rfl
        | true =>
          rcases hfresh i _ hi hon with e | e
          . rw [e, hk] at hLi; cases hLi
          . rw [e] at hLi; cases hLi
  have hmav : ∀ x' ∈ QE (XM L 0 (E x)) m, GC (n + k) x'.2 = true := Ub (p := fun c => GC (n + k) c = true) (fun y hy => UY (Nat.le_add_right n k) _ (UX h.wfm y hy).2) fun q c' hm => by
    obtain ⟨i, hi, hLi⟩ := Ho hm
    exact (hav hLi).1 _ hi
  have hW := h5.newB (n := n) (Nat.le_add_right n k) (by omega) hmav hat h.wfd hok hcl (Nat.le_refl _) k2 k1
  have hbut : Qs.but (n + k) ρ (ρ.setb (n + k) W.heap.size) := fun j hj => ⟨by simp only [Qs.setb]; rw [if_neg hj], rfl⟩
  refine ⟨ρ.setb (n + k) W.heap.size, x, ?_, fun i t v hi hl => ?_, fun hj => h3 (by rw [<- Xb (v := true) (f := L) (fun e => hkj e.symm)]; exact hj), h4.up ho hd, ?_⟩
  . rw [<- h1]
    exact (XQ (n := n) (fun q hq => hbut q (by omega)) f h.wff).symm
  . by_cases e : i = k
    . subst e
      rw [hv] at hl
      simp only [Option.some.injEq, Prod.mk.injEq] at hl
      obtain ⟨_, rfl⟩ := hl
      rw [Yk]
    . rw [Xb e]
      rw [Xb e] at hi
      rw [h2 i t v hi hl]
      exact SV.den_but hbut v ((hav hi).2 _ _ hl)
  . rw [Xb (f := L) (v := true) (fun e => hkj e.symm)]
    refine hW.ext (fun q => ?_) (XP km)
    rw [h.put1 x hk he (fun i e hi hon hki => (hfresh i e hi hon).resolve_left (by omega)) q]
    by_cases hq : q = n + k
    . subst hq; rw [if_pos rfl]; simp only [Xm, Xf]
    . rw [if_neg hq]; simp only [Xm, QZ fun e => hq e.symm]
/-- A store. -/
theorem Dw.goS (h : Dw c md os f m d n Γ α j sv fs pr V E A cA cB fps pv G rk xk) (km : (m.map Prod.fst).Nodup) {ρ0 ρ : Qs} {x : α} {L : Nat -> Bool} {g : Nat -> Value} {W W' : World} (h1 : Qo ρ f = Qo ρ0 f) (h2 : ∀ i t v, L i = true -> Yi (V x) i = some (some t, v) -> g i = v.den ρ) (h3 : L j = true -> pr x) (h4 : Cl0 os L) (h5 : WM ρ c.L0 c.w0 (QE (XM L 0 (E x)) m) d (n + os.length) (Γ ++ bif L j then fs x else []) W) {k q : Nat} {o : Oper} (ho : os[k]? = some o) (hk : L k = false) (hkj : k ≠ j) (hd : ∀ q ∈ Ql .any o, L q = true) {c0 cl : Cl} (hq : (k, q) ∈ fps) (hc0 : Xm (QE (XM L 0 (E x)) m) q = some c0) (hok : XW cl) {v : SV} (hv : Yi (V x) k = some (o.dst, v)) (he : (E x)[k]? = some (.wr q cl)) (hb : XZ W' (ρ.b q) (Qd ρ cl)) (hon : VW (ρ.b q) W W') (u : Value) (hu : ∀ t, o.dst = some t -> u = v.den ρ) : DG c os f m d n Γ j fs pr V E ρ0 (X6 L k true) (X6 g k u) W' := by
  refine ⟨ρ, x, h1, fun i t v' hi hl => ?_, fun hj => h3 (by rw [<- Xb (v := true) (f := L) (fun e => hkj e.symm)]; exact hj), h4.up ho hd, ?_⟩
  . by_cases e : i = k
    . subst e
      rw [hv] at hl
      simp only [Option.some.injEq, Prod.mk.injEq] at hl
      obtain ⟨hdt, rfl⟩ := hl
      rw [Yk]
      exact hu t hdt
    . rw [Xb e]
      rw [Xb e] at hi
      exact h2 i t v' hi hl
  . rw [Xb (f := L) (v := true) (fun e => hkj e.symm)]
    refine (h5.put hc0 hb hok hon).ext (fun q' => ?_) (XP km)
    rw [J9 hc0, JG, h.put1 x hk he (h.above x h4 ho hk hq) q']
end
end Go.Proofs.YtbiboamaigedjaaDoor
namespace Go.Proofs.YtbiboamaigedjaaDoor
open Go.RowKit
set_option linter.unusedVariables false
set_option linter.constructorNameAsVariable false
set_option linter.unusedSimpArgs false

section
variable {c : Cx} {md : Bool} {os : List Oper} {f : SF} {m : SM} {d : SD} {n : Nat} {Γ : List Qq} {α : Type} {j : Nat} {sv : α -> SV} {fs : α -> List Qq} {pr : α -> Prop} {V : α -> VR} {E : α -> List Ef} {A : List (Nat × Nat)} {cA : List Prop} {cB : α -> List Prop} {fps : List (Nat × Nat)} {pv : List (Nat × SV)} {G : List Qq} {rk : List (Nat × List Nat)} {xk : List Nat}
theorem Dw.step (h : Dw c md os f m d n Γ α j sv fs pr V E A cA cB fps pv G rk xk) (km : (m.map Prod.fst).Nodup) {ρ0 : Qs} {a : Act} (ha : Fr c.N a (Qo ρ0 f)) {L : Nat -> Bool} {g : Nat -> Value} {W : World} (hG : DG c os f m d n Γ j fs pr V E ρ0 L g W) (h6 : ∀ i, L i = true -> i < os.length) {k : Nat} {o : Oper} (ho : os[k]? = some o) (hk : L k = false) (hd : ∀ q ∈ Ql .any o, L q = true) :
    Qe c.P os.toArray o (Q1 os.toArray g (Ql .any o) a) W fun v W' => DG c os f m d n Γ j fs pr V E ρ0 (X6 L k true) (X6 g k v) W' := by
  obtain ⟨ρ, x, h1, h2, h3, h4, h5⟩ := hG
  obtain ⟨fk, v, e, cs, fp, p1, p2, p3, p4, p5, p6, p7, p8, p9, p10⟩ := h.sp x ho
  have hfr : Fr c.N (Q1 os.toArray g (Ql .any o) a) (Qo ρ fk) := h.fr x h2 (fun i hi => ⟨hd i hi, h6 i (hd i hi)⟩) p2 (by rw [h1]; exact ha)
  have hcs : k ≠ j -> QK cs := fun hkj => by
    cases hb : tb (Zo A k) j with
    | false => exact p8 hb h.hA
    | true => exact p9 hb (h.hB x (h3 (Uj (h.anc x) h.dep h4 k o ho hd j hb)))
  unfold drG at p5
  split at p5
  case h_3 => cases p5
  case h_2 =>
    rename_i hgo
    split at p5
    . cases p5
    . rename_i hkj
      have hkj := Nat.ne_of_beq_eq_false hkj
      simp only [Option.some.injEq, Prod.mk.injEq] at p5
      obtain ⟨rfl, rfl, rfl, rfl⟩ := p5
      have hwo := (Zy (ρ := ρ)).2.1 hgo
      have hgn := h.goN km h1 h2 h3 h4 h5 ho hkj hd p3 p4
      simp only [SV.den] at hgn
      exact Qe.off (Qc hfr hwo) hgn
  rename_i hgo
  have hw : Qg os.toArray o (Qo ρ fk) = some true := (Zy (ρ := ρ)).1 hgo
  unfold drS at p5
  split at p5
  . -- the call
    rename_i hkj
    have hkj := Nat.eq_of_beq_eq_true hkj
    subst hkj
    simp only [Option.some.injEq, Prod.mk.injEq] at p5
    obtain ⟨rfl, rfl, rfl, rfl⟩ := p5
    rw [hk] at h5
    have hdr := h.hj o ho x fk p2 ρ W (Xq ρ (QE (XM L 0 (E x)) m) c.L0) h5.lt h5.hs.pre
    refine (hdr _ hfr).mono fun u W' hu => ?_
    obtain ⟨x', rfl, g1, g2, g3⟩ := hu
    obtain ⟨_, v', e', _, _, _, _, q3, q4, q5, _⟩ := h.sp x' ho
    unfold drG at q5
    split at q5
    case h_3 => cases q5
    case h_2 => rw [Xf] at q5; cases q5
    unfold drS at q5
    rw [Xf] at q5
    simp only [Option.some.injEq, Prod.mk.injEq] at q5
    obtain ⟨rfl, rfl, _⟩ := q5
    have hind : ∀ i, L i = true -> Yi (V x) i = Yi (V x') i /\ (E x)[i]? = (E x')[i]? := fun i hi => by
      have hik : i ≠ k := fun e => by rw [e, hk] at hi; cases hi
      refine h.hi x x' i ?_ hik
      cases hb : tb (Zo A i) k with
      | false => rfl
      | true =>
        have hil := h6 i hi
        have hoi : os[i]? = some os[i] := List.getElem?_eq_getElem hil
        have := Uj (h.anc x) h.dep h4 i _ hoi (h4 i _ hoi hi) k hb
        rw [hk] at this; cases this
    refine ⟨ρ, x', h1, fun i t u hi hl => ?_, fun _ => g2, h4.up ho hd, ?_⟩
    . by_cases e : i = k
      . subst e
        rw [q3] at hl
        simp only [Option.some.injEq, Prod.mk.injEq] at hl
        obtain ⟨_, rfl⟩ := hl
        rw [Yk]
        exact XT (h.wf x') Qt ρ
      . rw [Xb e]
        rw [Xb e] at hi
        exact h2 i t u hi (by rw [(hind i hi).1]; exact hl)
    . rw [Yk]
      have h5' := h5.below g3
      have h7 : WM ρ c.L0 c.w0 (QE (XM L 0 (E x)) m) d (n + os.length) (Γ ++ fs x') W' := ⟨h5'.mem, h5'.key, h5'.nod, h5'.low, h5'.bel, h5'.dat, h5'.dky, h5'.ll, h5'.hs.pre.app g1⟩
      refine h7.ext (fun q => ?_) (XP km)
      rw [h.putN x' q4 q, Xe, Xe]
      refine Zg (fun i => ?_) fun i a b ha' hb' hon => ?_
      . rw [Q4, Q4, Nat.zero_add]
        cases hi : L i with
        | true => rw [(hind i hi).2]
        | false =>
          have l1 := h.len x
          have l2 := h.len x'
          cases e1 : (E x)[i]? with
          | none =>
            cases e2 : (E x')[i]? with
            | none => rfl
            | some y => have := List.getElem?_eq_none_iff.1 e1; have := (List.getElem?_eq_some_iff.1 e2).1; omega
          | some z =>
            cases e2 : (E x')[i]? with
            | none => have := List.getElem?_eq_none_iff.1 e2; have := (List.getElem?_eq_some_iff.1 e1).1; omega
            | some y => rfl
      . rw [Q4, Nat.zero_add] at ha' hb'
        cases hi : L i with
        | true => rw [(hind i hi).2, ha'] at hb'; exact Option.some.inj hb'
        | false =>
          rw [hi] at ha' 
          cases e1 : (E x')[i]? with
          | none => rw [e1] at ha'; cases ha'
          | some y => rw [e1] at ha'; simp only [Option.map_some, Option.some.injEq] at ha'; subst ha'; cases hon
  . rename_i hkj
    have hkj := Nat.ne_of_beq_eq_false hkj
    have hcs := hcs hkj
    split at p5
    . -- a call of a function of values
      rename_i v0 hv0
      split at p5
      . rename_i g xs ts hop
        split at p5
        . rename_i F caps hF
          split at p5
          . rename_i vs hxs
            split at p5
            . -- without a body
              split at p5
              . simp only [Option.some.injEq, Prod.mk.injEq] at p5
                obtain ⟨rfl, rfl, rfl, rfl⟩ := p5
                have hp : PE c.P F vs v0 := hcs.1
                have g1 := Qk (ρ := ρ) hF
                simp only [SV.den, Qr] at g1
                have g2 := Zi (ρ := ρ) hxs
                rw [VH hp.wa ρ Qt] at g2
                have hdr := Ku (P := c.P) (ops := os.toArray) (o := o) (N := c.N) (xs := xs) (by rw [hop]) g1 g2 (hp.h W) hw
                refine (hdr _ hfr).mono fun u W' hu => ?_
                obtain ⟨rfl, hww⟩ := hu
                subst hww
                rw [XT hp.wv Qt ρ]
                exact h.goN km h1 h2 h3 h4 h5 ho hkj hd p3 p4
              . cases p5
            . split at p5
              . simp only [Option.some.injEq, Prod.mk.injEq] at p5
                obtain ⟨rfl, rfl, rfl, rfl⟩ := p5
                have hp : PV c.P G F (vs ++ caps) v0 := hcs.1
                obtain ⟨fn, hf, hnn, hbb⟩ := hp.fn
                have g1 := Qk (ρ := ρ) hF
                simp only [SV.den] at g1
                have hcc := hp.at ρ h5.lt (h.hG _ _ h5.hs.pre)
                unfold CX at hcc
                rw [Jz] at hcc
                have hdr := F9 (P := c.P) (ops := os.toArray) (o := o) (N := c.N) (xs := xs) (cs := Qr ρ caps) (by rw [hop]) g1 hf hnn hbb (Zi hxs) hcc hw
                refine (hdr _ hfr).mono fun u W' hu => ?_
                obtain ⟨⟨_, rfl, _, _⟩, hbel⟩ := hu
                rw [XT hp.wv Qt ρ]
                exact h.goN km h1 h2 h3 h4 (h5.below hbel) ho hkj hd p3 p4
              . rename_i q0 l0 hrk
                split at p5
                . rename_i mc hmc
                  simp only [Option.some.injEq, Prod.mk.injEq] at p5
                  obtain ⟨rfl, rfl, rfl, rfl⟩ := p5
                  have hp : PR c.P G F (vs ++ caps) mc v0 := hcs.1
                  obtain ⟨fn, hf, hnn, hbb⟩ := hp.fn
                  have g1 := Qk (ρ := ρ) hF
                  simp only [SV.den] at g1
                  have hmm : ∀ y ∈ mc, XZ W (ρ.b y.1) (Qd ρ y.2) /\ XW y.2 := fun y hy => by
                    obtain ⟨y1, y2⟩ := UO hmc y hy
                    have hat : Xm (QE (XM L 0 (E x)) m) y.1 = some y.2 := by rw [h.mem x h4 ho hk hd (p10 _ y1)]; exact y2
                    exact h5.cell hat
                  have hcc := hp.h ρ W ⟨_, h.hG _ _ h5.hs.pre⟩ hmm
                  unfold CX at hcc
                  rw [Jz] at hcc
                  have hdr := F9 (P := c.P) (ops := os.toArray) (o := o) (N := c.N) (xs := xs) (cs := Qr ρ caps) (by rw [hop]) g1 hf hnn hbb (Zi hxs) hcc hw
                  refine (hdr _ hfr).mono fun u W' hu => ?_
                  obtain ⟨⟨_, rfl, _, _⟩, hbel⟩ := hu
                  rw [XT hp.wv Qt ρ]
                  exact h.goN km h1 h2 h3 h4 (h5.below hbel) ho hkj hd p3 p4
                . cases p5
          . cases p5
        . cases p5
      . rename_i t g hop
        simp only [Option.some.injEq, Prod.mk.injEq] at p5
        obtain ⟨rfl, rfl, rfl, rfl⟩ := p5
        have hp : GL c.P G t g v0 := hcs.1
        refine (hp.h W _ h5.lt (h.hG _ _ h5.hs.pre) os.toArray o c.N (Qo ρ fk) hop hw _ hfr).mono fun u W' hu => ?_
        obtain ⟨rfl, hww⟩ := hu
        subst hww
        rw [XT hp.wv Qt ρ]
        exact h.goN km h1 h2 h3 h4 h5 ho hkj hd p3 p4
      . cases p5
    . split at p5
      . -- a store
        rename_i t px pw hop
        split at p5
        . cases p5
        . rename_i hdst
          split at p5
          . rename_i sx hx
            split at p5
            . rename_i q hq
              split at p5
              . rename_i c0 hc0
                split at p5
                . rename_i pvv hpv
                  split at p5
                  . rename_i c1 cs1 hst
                    simp only [Option.some.injEq, Prod.mk.injEq] at p5
                    obtain ⟨rfl, rfl, rfl, rfl⟩ := p5
                    have hqf := p10 q (.head _)
                    have hat : Xm (QE (XM L 0 (E x)) m) q = some c0 := by rw [h.mem x h4 ho hk hd hqf]; exact hc0
                    obtain ⟨b1, b2⟩ := h5.cell hat
                    obtain ⟨_, s2, s3⟩ := JZ (N := c.N) c.ok hw hq b1 b2 hop (Qk hx) (Qk hpv) hst hcs
                    exact (s3 _ hfr).mono fun u W' hb => h.goS km h1 h2 h3 h4 h5 ho hk hkj hd hqf hat s2 p3 p4 hb.1 hb.2 u (fun t ht => by rw [hdst] at ht; cases ht)
                  . cases p5
                . cases p5
              . cases p5
            . cases p5
          . cases p5
      . -- a box
        rename_i hop
        split at p5
        . rename_i sx hx
          split at p5
          . rename_i c1 cs1 hcv
            simp only [Option.some.injEq, Prod.mk.injEq] at p5
            obtain ⟨rfl, rfl, rfl, rfl⟩ := p5
            obtain ⟨_, s1, s2, s3⟩ := XR (ρ := ρ) hcv hcs
            exact (Qcg hop (Qk hx) s2 hw _ hfr).mono fun u W' hb => h.goB km h1 h2 h3 h4 h5 h6 ho hk hkj hd s1 p3 p4 ⟨by rw [QaN]; exact hb.1, hb.2⟩
          . cases p5
        . cases p5
      . rename_i t hop
        split at p5
        . rename_i i hi
          split at p5
          . rename_i c1 hz
            simp only [Option.some.injEq, Prod.mk.injEq] at p5
            obtain ⟨rfl, rfl, rfl, rfl⟩ := p5
            obtain ⟨z1, z2, Z, z3, z4⟩ := TT.zero c.ok hi hz
            exact (HO hop z3 (z4 ρ) hw _ hfr).mono fun u W' hb => h.goB km h1 h2 h3 h4 h5 h6 ho hk hkj hd z1 p3 p4 ⟨by rw [QaN]; exact hb.1, hb.2⟩
          . cases p5
        . cases p5
      . -- a slice written out
        rename_i t len ps hop
        split at p5
        . rename_i c1 cs1 hl
          simp only [Option.some.injEq, Prod.mk.injEq] at p5
          obtain ⟨rfl, rfl, rfl, rfl⟩ := p5
          obtain ⟨_, s1, s2⟩ := EW (N := c.N) (w := W) (ρ := ρ) c.ok hw hop hl hcs
          exact (s2 _ hfr).mono fun u W' hb => h.goB km h1 h2 h3 h4 h5 h6 ho hk hkj hd s1 p3 p4 ⟨by rw [QeH]; exact hb.1, hb.2⟩
        . cases p5
      . -- a copy
        rename_i px py t t' hop
        split at p5
        . rename_i q c1 z q' cs1 hl
          simp only [Option.some.injEq, Prod.mk.injEq] at p5
          obtain ⟨rfl, rfl, rfl, rfl⟩ := p5
          have hl' : Gr (c.T.wo c.P G pv rk xk) fk (QE (XM L 0 (E x)) m) [] t px py = some (q, c1, z, q', cs1) := by
            rw [Eb (m' := QE ((E x).take k) m) hl fun y hy => h.mem x h4 ho hk hd (p10 y hy)]
            exact hl
          obtain ⟨_, s1, ⟨c0, s2⟩, s3⟩ := Dg (N := c.N) c.ok h5 hw hop hl' hcs
          exact (s3 _ hfr).mono fun u W' hb => h.goS km h1 h2 h3 h4 h5 ho hk hkj hd (p10 q (.head _)) s2 s1 p3 p4 hb.2.1 hb.2.2 u (fun _ _ => by rw [hb.1]; simp only [SV.den])
        . cases p5
      . -- a value
        split at p5
        . rename_i v1 cs1 hval
          simp only [Option.some.injEq, Prod.mk.injEq] at p5
          obtain ⟨rfl, rfl, rfl, rfl⟩ := p5
          have hval' : Fs (c.T.wo c.P G pv rk xk) md fk (QE (XM L 0 (E x)) m) d [] o.op = some (v1, cs1) := by
            rw [Fq (m' := QE ((E x).take k) m) fun q hq => h.mem x h4 ho hk hd (p10 q (Qbw.2 hq))]
            exact hval
          have hdv := QcW (N := c.N) c.ok h5 hw hval' hcs
          refine (hdv _ hfr).mono fun u W' hu => ?_
          obtain ⟨rfl, rfl⟩ := hu
          exact h.goN km h1 h2 h3 h4 h5 ho hkj hd p3 p4
        . cases p5
/-- QK have run. -/
def Ju (V : VR) (f : SF) : Nat -> Nat -> Option SF
  | _, 0 => some f
  | i, s + 1 => match Yi V i with
    | some (some t, v) => Ju V ((t, v) :: f) (Nat.succ i) s
    | some (none, _) => Ju V f (Nat.succ i) s
    | none => none
theorem Gh {V : VR} : ∀ {s i : Nat} {f : SF}, Ju V f i s = Yh V (List.range' i s) f
  | 0, i, f => rfl
  | s + 1, i, f => by
    rw [List.range'_succ]
    cases hl : Yi V i with
    | none => simp only [Ju, Yh, hl]
    | some y =>
      obtain ⟨t, v⟩ := y
      cases t with
      | none => simp only [Ju, Yh, hl]; exact Gh
      | some t => simp only [Ju, Yh, hl]; exact Gh
theorem Hp : ∀ {l : List Ef} {k : Nat} {L : Nat -> Bool}, (∀ i, i < k + l.length -> L i = true) -> XM L k l = l
  | [], k, L, _ => rfl
  | e :: l, k, L, h => by
    simp only [XM]
    rw [h k (by simp), Hp (l := l) fun i hi => h i (by simp only [List.length_cons]; omega)]
theorem S.drawn {id : Nat} (h : Dw c md os f m d n Γ α j sv fs pr V E A cA cB fps pv G rk xk) [Inhabited α] (hm : c.P.follows .mixedOrders = true) {ks : List It} {f' : α -> SF} {m' : α -> SM} (hf' : ∀ x, Ju (V x) f 0 os.length = some (f' x)) (hm' : ∀ x, QE (E x) m = m' x) (hj : Nat.blt j os.length = true \/ ∀ x, pr x /\ fs x = [])
    (k : ∀ x, pr x -> S c ks (f' x) (m' x) d (n + os.length) (Γ ++ fs x)) : S c (.c (.region id os.toArray true) :: ks) f m d n Γ := fun ρ0 a w ha hW => by
  have km := Xi hW.nod
  refine wp_region_any hm ?_
  have hF0 : ∀ j, (Array.replicate os.toArray.size false).getD j false = true -> False := fun j hj => by simp [Array.getD_eq_getD_getElem?, Array.getElem?_replicate] at hj; split at hj <;> simp_all
  have hL0 : (fun j => (Array.replicate os.toArray.size false).getD j false) = fun _ => false := by
    funext j
    cases hj : (Array.replicate os.toArray.size false).getD j false with
    | false => rfl
    | true => exact (hF0 j hj).elim
  have hW1 := hW.below (Fb (Below.refl _ _) 1)
  have hstart : ∀ g, DG c os f m d n Γ j fs pr V E ρ0 (fun _ => false) g w.drew := fun g => by
    refine ⟨ρ0, default, rfl, (fun i t v hi => by cases hi), (fun hi => by cases hi), (fun k o _ hk => by cases hk), ?_⟩
    have hmm : ∀ (l : List Ef) (k : Nat) (m : SM), QE (XM (fun _ => false) k l) m = m := by
      intro l
      induction l with
      | nil => intro k m; rfl
      | cons e l ih => intro k m; exact ih (k + 1) m
    rw [hmm]
    simp only [cond_false, List.append_nil]
    exact ⟨hW1.mem, fun x hx => Nat.lt_of_lt_of_le (hW1.key x hx) (Nat.le_add_right _ _), hW1.nod, hW1.low, hW1.bel, hW1.dat, fun x hx => Nat.lt_of_lt_of_le (hW1.dky x hx) (Nat.le_add_right _ _), hW1.ll, hW1.hs⟩
  refine KB (md := .any) h.hb a (fun L g W => (∀ i, L i = true -> i < os.length) /\ DG c os f m d n Γ j fs pr V E ρ0 L g W) (fun _ _ _ => True) (fun _ _ _ _ => True) (fun _ _ _ _ _ _ _ _ _ _ => trivial) ?_ ?_ os.toArray.size _ (fun _ => undef) a w.drew (by simp) (by
      have := List.countP_le_length (p := fun b => !b) (l := (Array.replicate os.toArray.size false).toList)
      simpa using this) (fun j hj => (hF0 j hj).elim) (Qz.start fun j hj => hF0 j hj) (by rw [hL0]; exact ⟨fun i hi => (by cases hi), hstart _⟩) (fun _ _ => trivial)
  . intro i o hoi L g W hLi hno hdl hG _
    have ho : os[i]? = some o := by simpa using hoi
    refine (h.step km ha hG.2 hG.1 ho hLi hdl).mono fun v W' hv => ⟨trivial, ⟨fun q hq => ?_, hv⟩, trivial⟩
    unfold X6 at hq
    split at hq
    . rename_i e; subst e; exact (List.getElem?_eq_some_iff.1 ho).1
    . exact hG.1 q hq
  . intro L g W hL hG _
    obtain ⟨_, ρ, x, h1, h2, h3, h4, h5⟩ := hG
    have hLt : ∀ i, i < os.length -> L i = true := fun i hi => by rw [hL i]; simpa using hi
    have hel := h.len x
    rw [Hp fun i hi => hLt i (by omega), hm' x] at h5
    have hfr : Fr c.N (Q1 os.toArray g (List.range os.toArray.size) a) (Qo ρ (f' x)) := by
      rw [List.range_eq_range']
      refine h.fr x h2 (l := List.range' 0 os.toArray.size) (fun i hi => ?_) (by rw [<- Gh]; simpa using hf' x) (by rw [h1]; exact ha)
      have : i < os.length := by simpa [List.mem_range'] using hi
      exact ⟨hLt i this, this⟩
    cases hLj : L j with
    | true =>
      rw [hLj] at h5
      exact k x (h3 hLj) ρ _ W hfr h5
    | false =>
      rw [hLj] at h5
      rcases hj with hj | hj
      . rw [hLt j (Qw hj)] at hLj; cases hLj
      . have := k x (hj x).1
        rw [(hj x).2] at this
        exact this ρ _ W hfr h5
end
end Go.Proofs.YtbiboamaigedjaaDoor
namespace Go.Proofs.YtbiboamaigedjaaDoor
open Go.RowKit
set_option linter.unusedVariables false
set_option linter.constructorNameAsVariable false
set_option linter.unusedSimpArgs false

def Ur : List Ef -> SM -> (SM -> Option SM) -> Option SM
  | [], m, K => K m
  | .no :: l, m, K => Ur l m K
  | .wr k c :: l, m, K => QaP k c m fun m' => Ur l m' K
theorem ZJ : ∀ {l : List Ef} {m : SM} {K : SM -> Option SM}, Ur l m K = K (QE l m)
  | [], m, K => rfl
  | .no :: l, m, K => ZJ (l := l)
  | .wr k c :: l, m, K => by
    unfold Ur
    rw [KP]
    exact ZJ (l := l)
section
variable {c : Cx} {os : List Oper} {f : SF} {m : SM} {d : SD} {n : Nat} {Γ : List Qq} {ks : List It} {id : Nat} {A : List (Nat × Nat)} {cA : List Prop} {fps : List (Nat × Nat)}
/-- A drawn region without a call. -/
theorem S.dr0 (md : Bool) {V : VR} {E : List Ef} {cB : List Prop} {f' : SF} {m' : SM} (hx : drx (c.T.wo c.P [] []) md c.N d n os.length .u f os.toArray os 0 [] m [] = some (V, E, A, cA, cB, fps)) (hf' : Ju V f 0 os.length = some f') (hm' : Ur E m some = some m') (k : S c ks f' m' d (n + os.length) Γ)
    (hc : QK cA /\ QK cB := by repeat' (first | exact True.intro | exact fun h => h | refine And.intro ?_ ?_ | omega | exact rfl | (simp only [Int.reduceToNat, Int.reducePow]; omega) | intro _)) (hm : c.P.follows .mixedOrders = true := by kernel_rfl) (hb : JQ .any os.toArray = true := by kernel_rfl) (ho : HY A E fps = true := by rfl) (hn : Uy A V E n E 0 = true := by rfl) (wff : Dy n f = true := by rfl) (wfm : JW n m = true := by rfl) (wfd : JM n d = true := by rfl) : S c (.c (.region id os.toArray true) :: ks) f m d n Γ :=
  S.drawn (α := Unit) (j := os.length) (sv := fun _ => .u) (fs := fun _ => []) (pr := fun _ => True) (V := fun _ => V) (E := fun _ => E) (A := A) (cA := cA) (cB := fun _ => cB) (fps := fps) (f' := fun _ => f') (m' := fun _ => m')
    ⟨hb, fun _ => hx, fun _ => ho, fun _ => hn, fun _ _ _ _ _ => ⟨rfl, rfl⟩, hc.1, fun _ _ => hc.2, fun _ => rfl, wff, wfm, wfd, fun o hoj => by simp at hoj, fun _ _ _ => trivial⟩
    hm (fun _ => hf') (fun _ => by rw [ZJ] at hm'; exact Option.some.inj hm') (.inr fun _ => ⟨trivial, rfl⟩) fun _ _ => by rw [List.append_nil]; exact k
/-- A drawn region whose calls are of functions of values. -/
theorem S.drp {G : List Qq} (md : Bool) (pv : List (Nat × SV)) {V : VR} {E : List Ef} {cB : List Prop} {f' : SF} {m' : SM} (hx : drx (c.T.wo c.P G pv [] []) md c.N d n os.length .u f os.toArray os 0 [] m [] = some (V, E, A, cA, cB, fps)) (hf' : Ju V f 0 os.length = some f') (hm' : Ur E m some = some m') (k : S c ks f' m' d (n + os.length) Γ)
    (hc : QK cA /\ QK cB := by repeat' (first | assumption | exact True.intro | exact fun h => h | refine And.intro ?_ ?_ | omega | exact rfl | (simp only [Int.reduceToNat, Int.reducePow]; omega) | intro _)) (hm : c.P.follows .mixedOrders = true := by kernel_rfl) (hb : JQ .any os.toArray = true := by kernel_rfl) (ho : HY A E fps = true := by rfl) (hn : Uy A V E n E 0 = true := by rfl) (wff : Dy n f = true := by rfl) (wfm : JW n m = true := by rfl) (wfd : JM n d = true := by rfl) (hG : ∀ L' W, Hs Γ L' W -> Hs G L' W := by first | exact fun _ _ h => h | exact fun _ _ h => Hs.pre h) : S c (.c (.region id os.toArray true) :: ks) f m d n Γ :=
  S.drawn (α := Unit) (j := os.length) (sv := fun _ => .u) (fs := fun _ => []) (pr := fun _ => True) (V := fun _ => V) (E := fun _ => E) (A := A) (cA := cA) (cB := fun _ => cB) (fps := fps) (f' := fun _ => f') (m' := fun _ => m')
    ⟨hb, fun _ => hx, fun _ => ho, fun _ => hn, fun _ _ _ _ _ => ⟨rfl, rfl⟩, hc.1, fun _ _ => hc.2, fun _ => rfl, wff, wfm, wfd, fun o hoj => by simp at hoj, hG⟩
    hm (fun _ => hf') (fun _ => by rw [ZJ] at hm'; exact Option.some.inj hm') (.inr fun _ => ⟨trivial, rfl⟩) fun _ _ => by rw [List.append_nil]; exact k
/-- The same, where rk says which Xq blocks a call reads. -/
theorem S.drq {G : List Qq} (md : Bool) (pv : List (Nat × SV)) (rk : List (Nat × List Nat)) {V : VR} {E : List Ef} {cB : List Prop} {f' : SF} {m' : SM} (hx : drx (c.T.wo c.P G pv rk []) md c.N d n os.length .u f os.toArray os 0 [] m [] = some (V, E, A, cA, cB, fps)) (hf' : Ju V f 0 os.length = some f') (hm' : Ur E m some = some m') (k : S c ks f' m' d (n + os.length) Γ)
    (hc : QK cA /\ QK cB := by repeat' (first | assumption | exact True.intro | exact fun h => h | refine And.intro ?_ ?_ | omega | exact rfl | (simp only [Int.reduceToNat, Int.reducePow]; omega) | intro _)) (hm : c.P.follows .mixedOrders = true := by kernel_rfl) (hb : JQ .any os.toArray = true := by kernel_rfl) (ho : HY A E fps = true := by rfl) (hn : Uy A V E n E 0 = true := by rfl) (wff : Dy n f = true := by rfl) (wfm : JW n m = true := by rfl) (wfd : JM n d = true := by rfl) (hG : ∀ L' W, Hs Γ L' W -> Hs G L' W := by first | exact fun _ _ h => h | exact fun _ _ h => Hs.pre h) : S c (.c (.region id os.toArray true) :: ks) f m d n Γ :=
  S.drawn (α := Unit) (j := os.length) (sv := fun _ => .u) (fs := fun _ => []) (pr := fun _ => True) (V := fun _ => V) (E := fun _ => E) (A := A) (cA := cA) (cB := fun _ => cB) (fps := fps) (f' := fun _ => f') (m' := fun _ => m')
    ⟨hb, fun _ => hx, fun _ => ho, fun _ => hn, fun _ _ _ _ _ => ⟨rfl, rfl⟩, hc.1, fun _ _ => hc.2, fun _ => rfl, wff, wfm, wfd, fun o hoj => by simp at hoj, hG⟩
    hm (fun _ => hf') (fun _ => by rw [ZJ] at hm'; exact Option.some.inj hm') (.inr fun _ => ⟨trivial, rfl⟩) fun _ _ => by rw [List.append_nil]; exact k
/-- The same, where xk says which calls are of functions without a body. -/
theorem S.dre {G : List Qq} (md : Bool) (pv : List (Nat × SV)) (rk : List (Nat × List Nat)) (xk : List Nat) {V : VR} {E : List Ef} {cB : List Prop} {f' : SF} {m' : SM} (hx : drx (c.T.wo c.P G pv rk xk) md c.N d n os.length .u f os.toArray os 0 [] m [] = some (V, E, A, cA, cB, fps)) (hf' : Ju V f 0 os.length = some f') (hm' : Ur E m some = some m') (k : S c ks f' m' d (n + os.length) Γ)
    (hc : QK cA /\ QK cB := by repeat' (first | assumption | exact True.intro | exact fun h => h | refine And.intro ?_ ?_ | omega | exact rfl | (simp only [Int.reduceToNat, Int.reducePow]; omega) | intro _)) (hm : c.P.follows .mixedOrders = true := by kernel_rfl) (hb : JQ .any os.toArray = true := by kernel_rfl) (ho : HY A E fps = true := by rfl) (hn : Uy A V E n E 0 = true := by rfl) (wff : Dy n f = true := by rfl) (wfm : JW n m = true := by rfl) (wfd : JM n d = true := by rfl) (hG : ∀ L' W, Hs Γ L' W -> Hs G L' W := by first | exact fun _ _ h => h | exact fun _ _ h => Hs.pre h) : S c (.c (.region id os.toArray true) :: ks) f m d n Γ :=
  S.drawn (α := Unit) (j := os.length) (sv := fun _ => .u) (fs := fun _ => []) (pr := fun _ => True) (V := fun _ => V) (E := fun _ => E) (A := A) (cA := cA) (cB := fun _ => cB) (fps := fps) (f' := fun _ => f') (m' := fun _ => m')
    ⟨hb, fun _ => hx, fun _ => ho, fun _ => hn, fun _ _ _ _ _ => ⟨rfl, rfl⟩, hc.1, fun _ _ => hc.2, fun _ => rfl, wff, wfm, wfd, fun o hoj => by simp at hoj, hG⟩
    hm (fun _ => hf') (fun _ => by rw [ZJ] at hm'; exact Option.some.inj hm') (.inr fun _ => ⟨trivial, rfl⟩) fun _ _ => by rw [List.append_nil]; exact k
end
mutual
theorem SV.wf_up {n n' : Nat} (h : n <= n') : ∀ x : SV, x.wf n = true -> x.wf n' = true
  | .v x, _ => by simp only [SV.wf]
  | .i K n, _ => by simp only [SV.wf]
  | .lit _ _, _ => by simp only [SV.wf]
  | .c p d, _ => by simp only [SV.wf]
  | .l b, _ => by simp only [SV.wf]
  | .s x, _ => by simp only [SV.wf]
  | .o _ _ _, _ => by simp only [SV.wf]
  | .p k o, hw => by have := Qw (by simpa only [SV.wf] using hw : Nat.blt k n = true); simp only [SV.wf]; exact Nat.ble_eq_true_of_le (Nat.le_trans this h)
  | .x k o s z, hw => by have := Qw (by simpa only [SV.wf] using hw : Nat.blt k n = true); simp only [SV.wf]; exact Nat.ble_eq_true_of_le (Nat.le_trans this h)
  | .q k o, hw => by have := Qw (by simpa only [SV.wf] using hw : Nat.blt k n = true); simp only [SV.wf]; exact Nat.ble_eq_true_of_le (Nat.le_trans this h)
  | .y k _ _ _, hw => by have := Qw (by simpa only [SV.wf] using hw : Nat.blt k n = true); simp only [SV.wf]; exact Nat.ble_eq_true_of_le (Nat.le_trans this h)
  | .z k _ _ _, hw => by have := Qw (by simpa only [SV.wf] using hw : Nat.blt k n = true); simp only [SV.wf]; exact Nat.ble_eq_true_of_le (Nat.le_trans this h)
  | .r k _ _ _, hw => by have := Qw (by simpa only [SV.wf] using hw : Nat.blt k n = true); simp only [SV.wf]; exact Nat.ble_eq_true_of_le (Nat.le_trans this h)
  | .t l, hw => by simp only [SV.wf]; exact Y5 h l (by simpa only [SV.wf] using hw)
  | .g l, hw => by simp only [SV.wf]; exact Y5 h l (by simpa only [SV.wf] using hw)
  | .f _ l, hw => by simp only [SV.wf]; exact Y5 h l (by simpa only [SV.wf] using hw)
  | .a _ _ _, _ => by simp only [SV.wf]
  | .w p d x, hw => by simp only [SV.wf]; exact SV.wf_up h x (by simpa only [SV.wf] using hw)
  | .u, _ => by simp only [SV.wf]
theorem Y5 {n n' : Nat} (h : n <= n') : ∀ l : List SV, Zt n l = true -> Zt n' l = true
  | [], _ => by simp only [Zt]
  | x :: l, hw => by
    unfold Zt at hw
    split at hw
    . rename_i hx
      unfold Zt
      rw [SV.wf_up h x hx]
      exact Y5 h l hw
    . cases hw
end
section
variable {c : Cx} {os : List Oper} {f : SF} {m : SM} {d : SD} {n : Nat} {Γ : List Qq} {ks : List It} {id : Nat} {A : List (Nat × Nat)} {cA : List Prop} {fps : List (Nat × Nat)}
/-- An element of a slice that is read. -/
theorem WM.data {ρ : Qs} {L0 : List Nat} {w0 w : World} (h : WM ρ L0 w0 m d n Γ w) {B : Nat × Nat} {cs : List SV} (hm : JW n m = true) (hd : JM n d = true) (hcs : Zt n cs = true) (hok : XW cs) (h0 : 0 < XU cs) (hB : B.1 ∉ Xq ρ m L0) (hr : w.rangeAt B.1 B.2 (Qd ρ cs)) : WM (ρ.setd n B) L0 w0 m ((n, cs) :: d) (n + 1) Γ w := by
  have h1 := h.upto (Qs.setd_upto ρ n B) hm hd
  have hown : Xq (ρ.setd n B) m L0 = Xq ρ m L0 := rfl
  refine ⟨h1.mem, fun x hx => Nat.lt_succ_of_lt (h1.key x hx), h1.nod, h1.low, h1.bel, fun x hx => ?_, fun x hx => ?_, h1.ll, h1.hs⟩
  . cases hx with
    | head =>
      rw [hown]
      simp only [Qs.setd_at]
      rw [<- QW (Qs.setd_upto ρ n B) cs hcs]
      exact ⟨hB, hr, hok, h0⟩
    | tail _ hx => exact h1.dat x hx
  . cases hx with
    | head => exact Nat.lt_succ_self _
    | tail _ hx => exact Nat.lt_succ_of_lt (h1.dky x hx)
end
end Go.Proofs.YtbiboamaigedjaaDoor
namespace Go.Proofs.YtbiboamaigedjaaDoor
open Go.RowKit
set_option linter.unusedVariables false
set_option linter.constructorNameAsVariable false
set_option linter.unusedSimpArgs false
section
variable {c : Cx} {ks : List It} {f : SF} {m : SM} {d : SD} {n : Nat} {Γ : List Qq}
/-- A call of a function of values. -/
theorem S.cv {G : List Qq} {F : FuncId} {v : SV} {ops : Array Oper} {o : Oper} {r : List Oper} {t : Nat} {g : Operand} {xs : List Operand} {ts : Array TypeId} {caps vs : List SV}
    (ho : o.op = .call { callee := .value g, args := ⟨xs⟩, argTypes := ts }) (hg : Vk ops o f = some .on) (hF : ZL f g = some (.f F caps)) (hx : Ge f xs = some vs) (hd : o.dst = some t) (hlt : Nat.blt t c.N = true) (h : PV c.P G F (vs ++ caps) v) (k : S c (.o ops r :: ks) ((t, v) :: f) m d n Γ) (hG : ∀ L' W, Hs Γ L' W -> Hs G L' W := by first | exact fun _ _ h => h | exact fun _ _ h => Hs.pre h) : S c (.o ops (o :: r) :: ks) f m d n Γ := by
  obtain ⟨fn, hf, hn, hb⟩ := h.fn
  exact S.call (α := Unit) (sv := fun _ => v) (fs := fun _ => []) (pr := fun _ => True) ho hg hF hx hd hlt hf hn hb (fun ρ w hW => h.at ρ hW.lt (hG _ _ hW.hs)) (fun _ => h.wv) fun _ _ => by rw [List.append_nil]; exact k
/-- A load of a block that stays. -/
theorem S.gl {G : List Qq} {v : SV} {ops : Array Oper} {o : Oper} {r : List Oper} {ty g t : Nat} (ho : o.op = .load ty (.global g)) (hg : Vk ops o f = some .on) (hd : o.dst = some t) (hlt : Nat.blt t c.N = true) (h : GL c.P G ty g v) (k : S c (.o ops r :: ks) ((t, v) :: f) m d n Γ) (hG : ∀ L' W, Hs Γ L' W -> Hs G L' W := by first | exact fun _ _ h => h | exact fun _ _ h => Hs.pre h) : S c (.o ops (o :: r) :: ks) f m d n Γ := fun ρ a w ha hW => by
  have hdr := h.h w _ hW.lt (hG _ _ hW.hs) ops o c.N (Qo ρ f) ho ((Zy (ρ := ρ)).1 hg)
  refine (WL.get hdr hd (decide_eq_true (Qw hlt)) (Q := Kn c ks) (rest := r) fun u W hu => ?_) a ha
  obtain ⟨rfl, hww⟩ := hu
  subst hww
  rw [XT h.wv Qt ρ]
  exact fun a' ha' => k ρ a' W ha' hW
/-- A call of a function without a body, of values. -/
theorem S.ext {F : FuncId} {v : SV} {ops : Array Oper} {o : Oper} {r : List Oper} {t : Nat} {g : Operand} {xs : List Operand} {ts : Array TypeId} {vs : List SV}
    (ho : o.op = .call { callee := .value g, args := ⟨xs⟩, argTypes := ts }) (hg : Vk ops o f = some .on) (hF : ZL f g = some (.f F [])) (hx : Ge f xs = some vs) (hd : o.dst = some t) (hlt : Nat.blt t c.N = true) (hw : Zt 0 vs = true) (h : ∀ w, (callFunc F (Qr Qt vs).toArray).run c.P w = .ok (.value (v.den Qt)) w) (hv : v.wf 0 = true) (k : S c (.o ops r :: ks) ((t, v) :: f) m d n Γ) : S c (.o ops (o :: r) :: ks) f m d n Γ := fun ρ a w ha hW => by
  have hq := (Zy (ρ := ρ)).1 hg
  have h1 := Qk (ρ := ρ) hF
  simp only [SV.den, Qr] at h1
  have h2 := Zi (ρ := ρ) hx
  rw [VH hw ρ Qt] at h2
  have hdr := Ku (P := c.P) (ops := ops) (o := o) (N := c.N) (xs := xs) (by rw [ho]) h1 h2 (h w) hq
  refine (WL.get hdr hd (decide_eq_true (Qw hlt)) (Q := Kn c ks) (rest := r) fun u W hu => ?_) a ha
  obtain ⟨rfl, hww⟩ := hu
  subst hww
  rw [XT hv Qt ρ]
  exact fun a' ha' => k ρ a' W ha' hW
end
/-- A result that is told by the values alone. -/
theorem S.retv {c : Cx} {ks : List It} {f : SF} {m : SM} {d : SD} {n : Nat} {Γ : List Qq} {rs : List ResultVar} {v x : SV} {L : List Nat} (hR : c.R = fun v W => ∃ _ : Unit, v = x.den Qt /\ Hs [] L W /\ True) (hr : c.fn.results = ⟨rs⟩) (hv : FJ c.T f m rs = some [v]) (hw : v.wf 0 = true) (he : v.den Qt = x.den Qt) : S c (.c .ret :: ks) f m d n Γ :=
  S.ret hr hv fun ρ W h => by rw [hR]; exact ⟨(), by rw [<- he]; exact XT hw ρ Qt, trivial, trivial⟩
theorem WM.g {ρ : Qs} {L0 : List Nat} {w0 w : World} {m : SM} {d : SD} {n : Nat} {Γ : List Qq} (h : WM ρ L0 w0 m d n Γ w) (i : Nat) {B : Nat} {cs : List Value} (hi : Γ[i]? = some (fG B cs) := by rfl) : B ∉ Xq ρ m L0 /\ w.rangeAt B 0 cs := ⟨(h.f i hi).1, (h.f i hi).2.2⟩
/-- A pointer to memory that stays: its cells are known from here on. -/
theorem S.data {c : Cx} {ks : List It} {f : SF} {m : SM} {d : SD} {n : Nat} {Γ : List Qq} (t : Nat) {B o : Nat} (cs : List SV) (hl : lk f t = some (.v (.pointer (some ⟨B, o, none⟩)))) (hB : ∀ ρ w, WM ρ c.L0 c.w0 m d n Γ w -> B ∉ Xq ρ m c.L0 /\ w.rangeAt B o (Qd Qt cs)) (k : S c ks ((t, .q n 0) :: f) m ((n, cs) :: d) (n + 1) Γ)
    (hcs : Zt 0 cs = true := by rfl) (hok : XW cs := by exact Z5 rfl) (h0 : 0 < XU cs := by exact Nat.lt_of_lt_of_le Nat.zero_lt_one (Nat.le_add_right 1 _)) (wff : Dy n f = true := by rfl) (wfm : JW n m = true := by rfl) (wfd : JM n d = true := by rfl) : S c ks f m d n Γ := fun ρ a w ha hW => by
  obtain ⟨g1, g2⟩ := hB ρ w hW
  have e0 : Qd Qt cs = Qd ρ cs := QW (fun k hk => absurd hk (Nat.not_lt_zero k)) cs hcs
  rw [e0] at g2
  have hD := hW.data (B := (B, o)) wfm wfd (Y5 (Nat.zero_le n) cs hcs) hok h0 g1 g2
  refine k (ρ.setd n (B, o)) a w ?_ hD
  have e1 : Qo (ρ.setd n (B, o)) f = Qo ρ f := (XQ (Qs.setd_upto ρ n (B, o)) f wff).symm
  have e2 := XD (ρ := ρ) hl
  simp only [SV.den] at e2
  refine ⟨ha.1, fun t' v hv => ?_⟩
  simp only [Qo, SV.den, Qs.setd_at, Nat.add_zero] at hv
  rw [e1] at hv
  unfold Zw at hv
  cases hk : Nat.beq t t' with
  | false => rw [hk] at hv; exact ha.2 t' v hv
  | true =>
    rw [hk] at hv
    cases hv
    have e := Nat.eq_of_beq_eq_true hk
    subst e
    exact ha.2 t _ e2
/-- The same, told anew: less may be kept, and by equal values. -/
theorem S.same {c : Cx} {ks : List It} {f : SF} {m : SM} {d : SD} {n : Nat} {Γ : List Qq} (n' : Nat) (f' : SF) (m' : SM) (h0 : mF f f') (h1 : mM m m') (k : S c ks f' m' d n' Γ) (hn : n = n' := by rfl) (hk : Jm m' = true := by rfl) (hmn : JW n' m' = true := by rfl) (hdn : JM n' d = true := by rfl) : S c ks f m d n Γ := fun ρ a w ha hW => k ρ a w (ha.sub (K7 h0)) (by subst hn; exact hW.sub h1 hk hmn (fun x hx => hx) hdn hW.hs)
/-- Arguments and results, written otherwise. -/
theorem PV.arg {P : Program} {G : List Qq} {F : FuncId} {args args' : List SV} {v : SV} (h : PV P G F args v) (he : Qr Qt args = Qr Qt args') (wa : Zt 0 args' = true := by rfl) : PV P G F args' v := ⟨h.fn, wa, h.wv, fun w L hL hG => by rw [<- he]; exact h.h w L hL hG⟩
theorem PV.res {P : Program} {G : List Qq} {F : FuncId} {args : List SV} {v v' : SV} (h : PV P G F args v) (he : v.den Qt = v'.den Qt) (wv : v'.wf 0 = true := by rfl) : PV P G F args v' := ⟨h.fn, h.wa, wv, fun w L hL hG => CV.mono (h.h w L hL hG) fun u W _ ⟨x, e, g, p⟩ => ⟨x, e.trans he, g, p⟩⟩
/-- A loop, round by round: at most n more rounds behind the first. -/
theorem S.rounds {c : Cx} {ks : List It} {f : SF} {m : SM} {d : SD} {n : Nat} {Γ : List Qq} {b : Code} (k : Nat) (h : S c (.c b :: .r (Code.rounds c.P b (Kn c ks) k) :: ks) f m d n Γ) : S c (.c (.loop b) :: ks) f m d n Γ := fun ρ a w ha hW => wp_loop_rounds (k + 1) (h ρ a w ha hW)
theorem S.next {c : Cx} {ks : List It} {f : SF} {m : SM} {d : SD} {n : Nat} {Γ : List Qq} {b : Code} {k : Nat} (h : S c (.c b :: .r (Code.rounds c.P b (Kn c ks) k) :: ks) f m d n Γ) : S c (.r (Code.rounds c.P b (Kn c ks) (k + 1)) :: ks) f m d n Γ := fun ρ a w ha hW => h ρ a w ha hW
end Go.Proofs.YtbiboamaigedjaaDoor
namespace Go.Proofs.YtbiboamaigedjaaDoor
open Go.RowKit
set_option linter.unusedVariables false
set_option linter.unusedSimpArgs false
set_option maxRecDepth 8000
set_option maxHeartbeats 2000000

def Gb (l : List Int) : List SV := l.map fun n => SV.i .u64 n
def rmL : List Int := [1718705420411056, 234908883556509, 2233514472574048, 2117202627021982, 765476049583133]
def dL : List Int := [929955233495203, 466365720129213, 1662059464998953, 2033849074728123, 1442794654840575]
def VO : List Int := [1738742601995546, 1146398526822698, 2070867633025821, 562264141797630, 587772402128613, 1801439850948184, 1351079888211148, 450359962737049, 900719925474099, 1801439850948198]
/-- The program's tables. -/
def gT : List Qq := [fG 4 (Qd Qt (Gb rmL)), fG 2 (Qd Qt (Gb dL)), fG 0 (Qd Qt (Gb VO))]
theorem gT0 (L : List Nat) (W : World) (h : Hs gT L W) : 4 ∉ L /\ W.rangeAt 4 0 (Qd Qt (Gb rmL)) := ⟨h.1.1, h.1.2.2⟩
theorem gT1 (L : List Nat) (W : World) (h : Hs gT L W) : 2 ∉ L /\ W.rangeAt 2 0 (Qd Qt (Gb dL)) := ⟨h.2.1.1, h.2.1.2.2⟩
theorem gT2 (L : List Nat) (W : World) (h : Hs gT L W) : 0 ∉ L /\ W.rangeAt 0 0 (Qd Qt (Gb VO)) := ⟨h.2.2.1.1, h.2.2.1.2.2⟩
theorem Zl {x : Int} (h : 0 <= x /\ x < 18446744073709551616) : bits .and .u64 x 2251799813685247 = x % 2251799813685248 := ZR x 51 2251799813685247 rfl (by decide) h.1 h.2
theorem Qgt {x : Int} (h : 0 <= x /\ x < 18446744073709551616) : bits .and .u64 x 4294967295 = x % 4294967296 := ZR x 32 4294967295 rfl (by decide) h.1 h.2
def lm (x : List Int) : SV := .g [.i .u64 (Qa x 0), .i .u64 (Qa x 1), .i .u64 (Qa x 2), .i .u64 (Qa x 3), .i .u64 (Qa x 4)]
def wvS (v : Int) : SV := .g [.i .u64 (v / 18446744073709551616), .i .u64 (v % 18446744073709551616)]
theorem ZM (x : List Int) (hx : Qp x) : PV Tryd.prog gT 93 [lm x] (lm (Qi x)) := by
  refine PV.mk' Tryd.func93 rfl rfl rfl rfl fun w L hL hG => ?_
  have hx : ∀ k, 0 <= Qa x k /\ Qa x k < 18446744073709551616 := hx.at
  have := hx 0; have := hx 1; have := hx 2; have := hx 3; have := hx 4
  refine S.enter Qm [lm x] gT Tryd.func93 rfl rfl rfl (fun _ => rfl) hL hG ?_
  refine S.g false rfl ?_
  refine S.dr0 false rfl rfl rfl ?_
  refine S.go false rfl (by repeat' (first | exact True.intro | exact fun h => h | refine And.intro ?_ ?_ | omega | exact rfl | (simp only [Int.reduceToNat, Int.reducePow, Zl (hx _)]; omega) | intro _)) ?_
  refine S.retv rfl rfl rfl rfl ?_
  simp only [Zl (hx _)]
  rfl
theorem mkN (a : Nat) (ha : a < 18446744073709551616) : bits .and .u64 (a : Int) 4294967295 = ((a % 4294967296 : Nat) : Int) := by rw [Qgt (by omega)]; omega
theorem dvN (a : Nat) : (a : Int) / 2 ^ Int.toNat 32 = ((a / 4294967296 : Nat) : Int) := by show (a : Int) / 4294967296 = _; omega
theorem mlN (a b : Nat) : (a : Int) * (b : Int) = ((a * b : Nat) : Int) := (Int.natCast_mul a b).symm
theorem adN (a b : Nat) : (a : Int) + (b : Int) = ((a + b : Nat) : Int) := (Int.natCast_add a b).symm
theorem wpN (a : Nat) (ha : a < 18446744073709551616) : IntKind.u64.wrap (a : Int) = (a : Int) := by rw [IntKind.wrap_u64]; omega
theorem wpM (a : Nat) : IntKind.u64.wrap (a : Int) = ((a % 18446744073709551616 : Nat) : Int) := by rw [IntKind.wrap_u64]; omega
theorem ES (x y : Int) (hx : 0 <= x /\ x < 18446744073709551616) (hy : 0 <= y /\ y < 18446744073709551616) : PV Tryd.prog gT 78 [.i .u64 x, .i .u64 y] (.t [.i .u64 (x * y / 18446744073709551616), .i .u64 (x * y % 18446744073709551616)]) := by
  refine PV.mk' Tryd.func78 rfl rfl rfl rfl fun w L hL hG => ?_
  refine S.enter Qm [.i .u64 x, .i .u64 y] gT Tryd.func78 rfl rfl rfl (fun _ => rfl) hL hG ?_
  refine S.go true rfl (by repeat' (first | exact True.intro | exact fun h => h | refine And.intro ?_ ?_ | omega | exact rfl | (simp only [Int.reduceToNat, Int.reducePow]; omega) | intro _)) ?_
  refine S.ret rfl rfl fun ρ W h => ⟨(), ?_, trivial, trivial⟩
  clear h
  obtain ⟨x, rfl⟩ := Int.eq_ofNat_of_zero_le hx.1
  obtain ⟨y, rfl⟩ := Int.eq_ofNat_of_zero_le hy.1
  have hx : x < 18446744073709551616 := by omega
  have hy : y < 18446744073709551616 := by omega
  simp only [val, SV.den, Qr]
  obtain ⟨bd, bt, bw, hhi⟩ := Lib.mul64_hi x y hx hy
  have ba := Lib.half_mul_le (a := x / 4294967296) (b := y / 4294967296) (by omega) (by omega)
  have bb := Lib.half_mul_le (a := x / 4294967296) (b := y % 4294967296) (by omega) (by omega)
  have bc := Lib.half_mul_le (a := x % 4294967296) (b := y / 4294967296) (by omega) (by omega)
  have ba' : x / 4294967296 * (y / 4294967296) < 18446744073709551616 := by omega
  have bb' : x / 4294967296 * (y % 4294967296) < 18446744073709551616 := by omega
  have bc' : x % 4294967296 * (y / 4294967296) < 18446744073709551616 := by omega
  have bh1 : x / 4294967296 * (y / 4294967296) + (x / 4294967296 * (y % 4294967296) + x % 4294967296 * (y % 4294967296) / 4294967296) / 4294967296 < 18446744073709551616 := by omega
  have bh : x / 4294967296 * (y / 4294967296) + (x / 4294967296 * (y % 4294967296) + x % 4294967296 * (y % 4294967296) / 4294967296) / 4294967296 + ((x / 4294967296 * (y % 4294967296) + x % 4294967296 * (y % 4294967296) / 4294967296) % 4294967296 + x % 4294967296 * (y / 4294967296)) / 4294967296 < 18446744073709551616 := by omega
  simp only [mkN x hx, mkN y hy, dvN, mlN, adN, wpN _ bd, wpN _ bb', wpN _ bt, mkN _ bt, wpN _ bc', wpN _ bw, wpN _ ba', wpN _ bh1, wpN _ bh, wpM (x * y)]
  rw [hhi]
  rfl
theorem VV (x y c : Int) (hx : 0 <= x) (hy : 0 <= y) (hc0 : 0 <= c) (hc : c <= 1) (w : World) : (callFunc 79 (Qr Qt [.i .u64 x, .i .u64 y, .i .u64 c]).toArray).run Tryd.prog w = .ok (.value ((SV.t [.i .u64 ((x + y + c) % 18446744073709551616), .i .u64 ((x + y + c) / 18446744073709551616)]).den Qt)) w := by
  show (callFunc 79 #[.int .u64 x, .int .u64 y, .int .u64 c]).run Tryd.prog w = _
  rw [run_callFunc_extern Tryd.func79 (by kernel_rfl) (by kernel_rfl) (by kernel_rfl) (e := add64Entry) (by kernel_rfl), run_add64 x y c hx hy hc0 hc]
  rfl
theorem QJ (v a b : Int) (hv : 0 <= v) (ha : 0 <= a /\ a < 18446744073709551616) (hb : 0 <= b /\ b < 18446744073709551616) (h : v + a * b < 340282366920938463463374607431768211456) : PV Tryd.prog gT 91 [wvS v, .i .u64 a, .i .u64 b] (wvS (v + a * b)) := by
  refine PV.mk' Tryd.func91 rfl rfl rfl rfl fun w L hL hG => ?_
  have hm : 0 <= a * b := Int.mul_nonneg ha.1 hb.1
  refine S.enter Qm [wvS v, .i .u64 a, .i .u64 b] gT Tryd.func91 rfl rfl rfl (fun _ => rfl) hL hG ?_
  refine S.g false rfl ?_
  refine S.cv rfl rfl rfl rfl rfl rfl (ES a b ha hb) ?_
  refine S.g false rfl ?_
  refine S.ext rfl rfl rfl rfl rfl rfl rfl (VV _ _ _ (by omega) (by omega) (by omega) (by omega)) rfl ?_
  refine S.g false rfl ?_
  refine S.ext rfl rfl rfl rfl rfl rfl rfl (VV _ _ _ (by omega) (by omega) (by omega) (by omega)) rfl ?_
  refine S.g false rfl ?_
  refine S.retv rfl rfl rfl rfl ?_
  show (SV.g [_, _]).den Qt = _
  generalize a * b = m at *
  unfold wvS
  have e1 : (v / 18446744073709551616 + m / 18446744073709551616 + (v % 18446744073709551616 + m % 18446744073709551616 + 0) / 18446744073709551616) % 18446744073709551616 = (v + m) / 18446744073709551616 := by omega
  have e2 : (v % 18446744073709551616 + m % 18446744073709551616 + 0) % 18446744073709551616 = (v + m) % 18446744073709551616 := by omega
  rw [e1, e2]
theorem ZE (v : Int) (hv : 0 <= v /\ v < 41538374868278621028243970633760768) : PV Tryd.prog gT 92 [wvS v] (.i .u64 (v / 2251799813685248)) := by
  refine PV.mk' Tryd.func92 rfl rfl rfl rfl fun w L hL hG => ?_
  refine S.enter Qm [wvS v] gT Tryd.func92 rfl rfl rfl (fun _ => rfl) hL hG ?_
  refine S.go false rfl (by repeat' (first | exact True.intro | exact fun h => h | refine And.intro ?_ ?_ | omega | exact rfl | (simp only [Int.reduceToNat, Int.reducePow]; omega) | intro _)) ?_
  refine S.retv rfl rfl rfl rfl ?_
  have e1 : IntKind.u64.wrap (v / 18446744073709551616 * 2 ^ Int.toNat 13) = v / 18446744073709551616 * 8192 := by
    rw [IntKind.wrap_u64]; simp only [Int.reduceToNat, Int.reducePow]; omega
  have e2 : v % 18446744073709551616 / 2 ^ Int.toNat 51 = v % 18446744073709551616 / 2251799813685248 := rfl
  rw [e1, e2, ZQ _ _ 13 (by omega) (by omega) (by omega) (by omega) (by omega) (by omega)]
  simp only [SV.den]
  congr 1
  omega
theorem XA (x y : List Int) (hx : QS x) (hy : QS y) : PV Tryd.prog gT 64 [lm x, lm y] (lm (Qi (QO x y))) := by
  refine PV.mk' Tryd.func64 rfl rfl rfl rfl fun w L hL hG => ?_
  have := hx 0; have := hx 1; have := hx 2; have := hx 3; have := hx 4
  have := hy 0; have := hy 1; have := hy 2; have := hy 3; have := hy 4
  have p : ∀ i j, 0 <= Qa x i * Qa y j /\ Qa x i * Qa y j <= 5070602403274100847696513335296 := V4 hx hy
  have z : ∀ i j, 0 <= Qa x i * 19 * Qa y j /\ Qa x i * 19 * Qa y j <= 19 * 5070602403274100847696513335296 := fun i j => by have := p i j; rw [Int.mul_right_comm]; omega
  refine S.enter Qm [lm x, lm y] gT Tryd.func64 rfl rfl rfl (fun _ => rfl) hL hG ?_
  refine S.g false rfl ?_
  refine S.dr0 false rfl rfl rfl ?_
  refine S.g false rfl ?_
  refine S.dr0 false rfl rfl rfl ?_
  refine S.g false rfl ?_
  have := p 0 0
  have := z 1 4
  have := z 2 3
  have := z 3 2
  have := z 4 1
  refine S.cv rfl rfl rfl rfl rfl rfl (QJ 0 _ _ (by omega) (by omega) (by omega) (by omega)) ?_
  refine S.g false rfl ?_
  refine S.cv rfl rfl rfl rfl rfl rfl (QJ _ _ _ (by omega) (by omega) (by omega) (by omega)) ?_
  refine S.g false rfl ?_
  refine S.cv rfl rfl rfl rfl rfl rfl (QJ _ _ _ (by omega) (by omega) (by omega) (by omega)) ?_
  refine S.g false rfl ?_
  refine S.cv rfl rfl rfl rfl rfl rfl (QJ _ _ _ (by omega) (by omega) (by omega) (by omega)) ?_
  refine S.g false rfl ?_
  refine S.cv rfl rfl rfl rfl rfl rfl (QJ _ _ _ (by omega) (by omega) (by omega) (by omega)) ?_
  refine S.g false rfl ?_
  have := p 0 1
  have := p 1 0
  have := z 2 4
  have := z 3 3
  have := z 4 2
  refine S.cv rfl rfl rfl rfl rfl rfl (QJ 0 _ _ (by omega) (by omega) (by omega) (by omega)) ?_
  refine S.g false rfl ?_
  refine S.cv rfl rfl rfl rfl rfl rfl (QJ _ _ _ (by omega) (by omega) (by omega) (by omega)) ?_
  refine S.g false rfl ?_
  refine S.cv rfl rfl rfl rfl rfl rfl (QJ _ _ _ (by omega) (by omega) (by omega) (by omega)) ?_
  refine S.g false rfl ?_
  refine S.cv rfl rfl rfl rfl rfl rfl (QJ _ _ _ (by omega) (by omega) (by omega) (by omega)) ?_
  refine S.g false rfl ?_
  refine S.cv rfl rfl rfl rfl rfl rfl (QJ _ _ _ (by omega) (by omega) (by omega) (by omega)) ?_
  refine S.g false rfl ?_
  have := p 0 2
  have := p 1 1
  have := p 2 0
  have := z 3 4
  have := z 4 3
  refine S.cv rfl rfl rfl rfl rfl rfl (QJ 0 _ _ (by omega) (by omega) (by omega) (by omega)) ?_
  refine S.g false rfl ?_
  refine S.cv rfl rfl rfl rfl rfl rfl (QJ _ _ _ (by omega) (by omega) (by omega) (by omega)) ?_
  refine S.g false rfl ?_
  refine S.cv rfl rfl rfl rfl rfl rfl (QJ _ _ _ (by omega) (by omega) (by omega) (by omega)) ?_
  refine S.g false rfl ?_
  refine S.cv rfl rfl rfl rfl rfl rfl (QJ _ _ _ (by omega) (by omega) (by omega) (by omega)) ?_
  refine S.g false rfl ?_
  refine S.cv rfl rfl rfl rfl rfl rfl (QJ _ _ _ (by omega) (by omega) (by omega) (by omega)) ?_
  refine S.g false rfl ?_
  have := p 0 3
  have := p 1 2
  have := p 2 1
  have := p 3 0
  have := z 4 4
  refine S.cv rfl rfl rfl rfl rfl rfl (QJ 0 _ _ (by omega) (by omega) (by omega) (by omega)) ?_
  refine S.g false rfl ?_
  refine S.cv rfl rfl rfl rfl rfl rfl (QJ _ _ _ (by omega) (by omega) (by omega) (by omega)) ?_
  refine S.g false rfl ?_
  refine S.cv rfl rfl rfl rfl rfl rfl (QJ _ _ _ (by omega) (by omega) (by omega) (by omega)) ?_
  refine S.g false rfl ?_
  refine S.cv rfl rfl rfl rfl rfl rfl (QJ _ _ _ (by omega) (by omega) (by omega) (by omega)) ?_
  refine S.g false rfl ?_
  refine S.cv rfl rfl rfl rfl rfl rfl (QJ _ _ _ (by omega) (by omega) (by omega) (by omega)) ?_
  refine S.g false rfl ?_
  have := p 0 4
  have := p 1 3
  have := p 2 2
  have := p 3 1
  have := p 4 0
  refine S.cv rfl rfl rfl rfl rfl rfl (QJ 0 _ _ (by omega) (by omega) (by omega) (by omega)) ?_
  refine S.g false rfl ?_
  refine S.cv rfl rfl rfl rfl rfl rfl (QJ _ _ _ (by omega) (by omega) (by omega) (by omega)) ?_
  refine S.g false rfl ?_
  refine S.cv rfl rfl rfl rfl rfl rfl (QJ _ _ _ (by omega) (by omega) (by omega) (by omega)) ?_
  refine S.g false rfl ?_
  refine S.cv rfl rfl rfl rfl rfl rfl (QJ _ _ _ (by omega) (by omega) (by omega) (by omega)) ?_
  refine S.g false rfl ?_
  refine S.cv rfl rfl rfl rfl rfl rfl (QJ _ _ _ (by omega) (by omega) (by omega) (by omega)) ?_
  refine S.g false rfl ?_
  have s0 := QN hx hy 0; have s1 := QN hx hy 1; have s2 := QN hx hy 2; have s3 := QN hx hy 3; have s4 := Vt hx hy; have s5 := QN hx hy 4
  have hw := Vn hx hy
  have e0 : 0 + Qa x 0 * Qa y 0 + Qa x 1 * 19 * Qa y 4 + Qa x 2 * 19 * Qa y 3 + Qa x 3 * 19 * Qa y 2 + Qa x 4 * 19 * Qa y 1 = Qx x y 0 := by simp only [Qx, Int.zero_add]
  have e1 : 0 + Qa x 0 * Qa y 1 + Qa x 1 * Qa y 0 + Qa x 2 * 19 * Qa y 4 + Qa x 3 * 19 * Qa y 3 + Qa x 4 * 19 * Qa y 2 = Qx x y 1 := by simp only [Qx, Int.zero_add]
  have e2 : 0 + Qa x 0 * Qa y 2 + Qa x 1 * Qa y 1 + Qa x 2 * Qa y 0 + Qa x 3 * 19 * Qa y 4 + Qa x 4 * 19 * Qa y 3 = Qx x y 2 := by simp only [Qx, Int.zero_add]
  have e3 : 0 + Qa x 0 * Qa y 3 + Qa x 1 * Qa y 2 + Qa x 2 * Qa y 1 + Qa x 3 * Qa y 0 + Qa x 4 * 19 * Qa y 4 = Qx x y 3 := by simp only [Qx, Int.zero_add]
  have e4 : 0 + Qa x 0 * Qa y 4 + Qa x 1 * Qa y 3 + Qa x 2 * Qa y 2 + Qa x 3 * Qa y 1 + Qa x 4 * Qa y 0 = Qx x y 4 := by simp only [Qx, Int.zero_add]
  rw [e0, e1, e2, e3, e4]
  obtain ⟨Z, hZ, hC⟩ : ∃ Z, Qi (QO x y) = Z /\ PV Tryd.prog gT 93 [lm (QO x y)] (lm Z) := ⟨_, rfl, ZM _ hw⟩
  rw [hZ]
  clear hZ
  unfold QO at hC
  clear e0 e1 e2 e3 e4 p z hx hy hw
  generalize Qx x y 0 = r0 at *
  generalize Qx x y 1 = r1 at *
  generalize Qx x y 2 = r2 at *
  generalize Qx x y 3 = r3 at *
  generalize Qx x y 4 = r4 at *
  have c0 := ZE r0 (by omega)
  have c1 := ZE r1 (by omega)
  have c2 := ZE r2 (by omega)
  have c3 := ZE r3 (by omega)
  have c4 := ZE r4 (by omega)
  have k : ∀ r : Int, bits .and .u64 (r % 18446744073709551616) 2251799813685247 = r % 2251799813685248 := fun r => by rw [Zl (by omega)]; omega
  rw [<- k r0, <- k r1, <- k r2, <- k r3, <- k r4] at hC
  have k' : ∀ r : Int, 0 <= bits .and .u64 (r % 18446744073709551616) 2251799813685247 /\ bits .and .u64 (r % 18446744073709551616) 2251799813685247 < 2251799813685248 := fun r => by rw [k]; omega
  have := k' r0; have := k' r1; have := k' r2; have := k' r3; have := k' r4
  refine S.drp false [(4, .i .u64 (r4 / 2251799813685248)), (11, .i .u64 (r0 / 2251799813685248)), (17, .i .u64 (r1 / 2251799813685248)), (23, .i .u64 (r2 / 2251799813685248)), (29, .i .u64 (r3 / 2251799813685248)), (32, lm Z)] rfl rfl rfl ?_ ?_
  . refine S.g false rfl ?_
    exact S.retv rfl rfl rfl rfl rfl
  . repeat' (first | exact True.intro | refine And.intro ?_ ?_ | omega | assumption)
theorem Qbn (x y : List Int) (hx : QS x) (hy : QS y) : PV Tryd.prog gT 88 [lm x, lm y] (lm (Qi (Kd x y))) := by
  refine PV.mk' Tryd.func88 rfl rfl rfl rfl fun w L hL hG => ?_
  have := hx 0; have := hx 1; have := hx 2; have := hx 3; have := hx 4
  have := hy 0; have := hy 1; have := hy 2; have := hy 3; have := hy 4
  refine S.enter Qm [lm x, lm y] gT Tryd.func88 rfl rfl rfl (fun _ => rfl) hL hG ?_
  refine S.g false rfl ?_
  refine S.rounds 5 ?_
  refine S.g false rfl ?_
  refine S.condT rfl (by decide) ?_
  refine S.g false rfl ?_
  refine S.dr0 false rfl rfl rfl ?_
  refine S.g false rfl ?_
  repeat (refine S.next ?_; refine S.g false rfl ?_; refine S.condT rfl (by decide) ?_; refine S.g false rfl ?_; refine S.dr0 false rfl rfl rfl ?_; refine S.g false rfl ?_)
  refine S.next ?_
  refine S.g false rfl ?_
  refine S.condF rfl (by decide) ?_
  refine S.g false rfl ?_
  refine S.cv rfl rfl rfl rfl rfl rfl (ZM (Kd x y) (Ul hx hy)) ?_
  refine S.g false rfl ?_
  exact S.retv rfl rfl rfl rfl rfl
theorem K6 (x y : List Int) (hx : QS x) (hy : QS y) : PV Tryd.prog gT 87 [lm x, lm y] (lm (Qi (XN x y))) := by
  refine PV.mk' Tryd.func87 rfl rfl rfl rfl fun w L hL hG => ?_
  have := hx 0; have := hx 1; have := hx 2; have := hx 3; have := hx 4
  have := hy 0; have := hy 1; have := hy 2; have := hy 3; have := hy 4
  refine S.enter Qm [lm x, lm y] gT Tryd.func87 rfl rfl rfl (fun _ => rfl) hL hG ?_
  refine S.g false rfl ?_
  refine S.rounds 4 ?_
  refine S.g false rfl ?_
  refine S.condT rfl (by decide) ?_
  refine S.g false rfl ?_
  refine S.dr0 false rfl rfl rfl ?_
  refine S.g false rfl ?_
  repeat (refine S.next ?_; refine S.g false rfl ?_; refine S.condT rfl (by decide) ?_; refine S.g false rfl ?_; refine S.dr0 false rfl rfl rfl ?_; refine S.g false rfl ?_)
  refine S.next ?_
  refine S.g false rfl ?_
  refine S.condF rfl (by decide) ?_
  refine S.g false rfl ?_
  refine S.cv rfl rfl rfl rfl rfl rfl (ZM (XN x y) (VB hx hy)) ?_
  refine S.g false rfl ?_
  exact S.retv rfl rfl rfl rfl rfl
theorem UG (n : Int) (hn : 0 <= n /\ n < 4294967296) : PV Tryd.prog gT 63 [.i .u32 n] (lm [n, 0, 0, 0, 0]) := by
  refine PV.mk' Tryd.func63 rfl rfl rfl rfl fun w L hL hG => ?_
  refine S.enter Qm [.i .u32 n] gT Tryd.func63 rfl rfl rfl (fun _ => rfl) hL hG ?_
  refine S.g false rfl ?_
  exact S.retv rfl rfl rfl rfl rfl
theorem Z4 (x : List Int) (hx : QS x) : PV Tryd.prog gT 62 [lm x] (lm (Qi (XN [] x))) := by
  refine PV.mk' Tryd.func62 rfl rfl rfl rfl fun w L hL hG => ?_
  refine S.enter Qm [lm x] gT Tryd.func62 rfl rfl rfl (fun _ => rfl) hL hG ?_
  refine S.g false rfl ?_
  refine S.cv rfl rfl rfl rfl rfl rfl (K6 [] x (fun k => by simp [Qa]) hx) ?_
  refine S.g false rfl ?_
  exact S.retv rfl rfl rfl rfl rfl
/-- Thirty-two bytes. -/
def GJ (z : List Int) : List SV := [.i .u8 (Qa z 0), .i .u8 (Qa z 1), .i .u8 (Qa z 2), .i .u8 (Qa z 3), .i .u8 (Qa z 4), .i .u8 (Qa z 5), .i .u8 (Qa z 6), .i .u8 (Qa z 7), .i .u8 (Qa z 8), .i .u8 (Qa z 9), .i .u8 (Qa z 10), .i .u8 (Qa z 11), .i .u8 (Qa z 12), .i .u8 (Qa z 13), .i .u8 (Qa z 14), .i .u8 (Qa z 15), .i .u8 (Qa z 16), .i .u8 (Qa z 17), .i .u8 (Qa z 18), .i .u8 (Qa z 19), .i .u8 (Qa z 20), .i .u8 (Qa z 21), .i .u8 (Qa z 22), .i .u8 (Qa z 23), .i .u8 (Qa z 24), .i .u8 (Qa z 25), .i .u8 (Qa z 26), .i .u8 (Qa z 27), .i .u8 (Qa z 28), .i .u8 (Qa z 29), .i .u8 (Qa z 30), .i .u8 (Qa z 31)]
def orW (z : List Int) (j : Nat) : Nat -> Int
  | 0 => 0
  | m + 1 => bits .or .u64 (orW z j m) (IntKind.u64.wrap (Qa z (8 * j + m) * 2 ^ (8 * m)))
theorem Jb {z : List Int} (hz : Qb z) (j : Nat) : ∀ m, m <= 8 -> orW z j m = Qv z j m
  | 0, _ => rfl
  | m + 1, h => by
    have := Jb hz j m (by omega)
    unfold orW Qv
    rw [this]
    exact EL _ _ m (by omega) (Vv z hz j m (by omega)) (hz.at _)
set_option maxHeartbeats 1000000 in
theorem QcU {z : List Int} (hz : Qb z) {B : Nat} {w : World} (hr : w.rangeAt B 0 (Qd Qt (GJ z))) (L : List Nat) : CX Tryd.prog 102 [.pointer (some ⟨B, 0, none⟩), .int .i64 0] w L (fun _ : Unit => .i .u64 (Qv z 0 8)) (fun _ => []) (fun _ => True) := by
  have hb := fun k => hz.at k
  have h : CX Tryd.prog 102 [.pointer (some ⟨B, 0, none⟩), .int .i64 0] w [] (fun _ : Unit => .i .u64 (Qv z 0 8)) (fun _ => []) (fun _ => True) := by
    refine S.enter Qm [.v (.pointer (some ⟨B, 0, none⟩)), .i .i64 0] [fG B (Qd Qt (GJ z))] Tryd.func102 rfl rfl rfl (fun _ => rfl) (LL.nil w) ⟨⟨by simp, Zc hr (Nat.zero_lt_succ _), hr⟩, trivial⟩ ?_
    refine S.data 0 (GJ z) rfl (fun ρ w h => h.g 0) ?_
    refine S.g false rfl ?_
    refine S.rounds 8 ?_
    refine S.g false rfl ?_
    refine S.condT rfl (by decide) ?_
    have := hb 0
    refine S.g false rfl ?_
    refine S.next ?_
    refine S.g false rfl ?_
    refine S.condT rfl (by decide) ?_
    have := hb 1
    refine S.g false rfl ?_
    refine S.next ?_
    refine S.g false rfl ?_
    refine S.condT rfl (by decide) ?_
    have := hb 2
    refine S.g false rfl ?_
    refine S.next ?_
    refine S.g false rfl ?_
    refine S.condT rfl (by decide) ?_
    have := hb 3
    refine S.g false rfl ?_
    refine S.next ?_
    refine S.g false rfl ?_
    refine S.condT rfl (by decide) ?_
    have := hb 4
    refine S.g false rfl ?_
    refine S.next ?_
    refine S.g false rfl ?_
    refine S.condT rfl (by decide) ?_
    have := hb 5
    refine S.g false rfl ?_
    refine S.next ?_
    refine S.g false rfl ?_
    refine S.condT rfl (by decide) ?_
    have := hb 6
    refine S.g false rfl ?_
    refine S.next ?_
    refine S.g false rfl ?_
    refine S.condT rfl (by decide) ?_
    have := hb 7
    refine S.g false rfl ?_
    refine S.next ?_
    refine S.g false rfl ?_
    refine S.condF rfl (by decide) ?_
    refine S.g false rfl ?_
    refine S.retv rfl rfl rfl rfl ?_
    show (SV.i .u64 (orW z 0 8)).den Qt = _
    rw [Jb hz 0 8 (by omega)]
  exact CV.mono h fun v w' _ ⟨x, e, _, p⟩ => ⟨x, e, trivial, p⟩
set_option maxHeartbeats 1000000 in
theorem QcT {z : List Int} (hz : Qb z) {B : Nat} {w : World} (hr : w.rangeAt B 0 (Qd Qt (GJ z))) (L : List Nat) : CX Tryd.prog 102 [.pointer (some ⟨B, 0, none⟩), .int .i64 8] w L (fun _ : Unit => .i .u64 (Qv z 1 8)) (fun _ => []) (fun _ => True) := by
  have hb := fun k => hz.at k
  have h : CX Tryd.prog 102 [.pointer (some ⟨B, 0, none⟩), .int .i64 8] w [] (fun _ : Unit => .i .u64 (Qv z 1 8)) (fun _ => []) (fun _ => True) := by
    refine S.enter Qm [.v (.pointer (some ⟨B, 0, none⟩)), .i .i64 8] [fG B (Qd Qt (GJ z))] Tryd.func102 rfl rfl rfl (fun _ => rfl) (LL.nil w) ⟨⟨by simp, Zc hr (Nat.zero_lt_succ _), hr⟩, trivial⟩ ?_
    refine S.data 0 (GJ z) rfl (fun ρ w h => h.g 0) ?_
    refine S.g false rfl ?_
    refine S.rounds 8 ?_
    refine S.g false rfl ?_
    refine S.condT rfl (by decide) ?_
    have := hb 8
    refine S.g false rfl ?_
    refine S.next ?_
    refine S.g false rfl ?_
    refine S.condT rfl (by decide) ?_
    have := hb 9
    refine S.g false rfl ?_
    refine S.next ?_
    refine S.g false rfl ?_
    refine S.condT rfl (by decide) ?_
    have := hb 10
    refine S.g false rfl ?_
    refine S.next ?_
    refine S.g false rfl ?_
    refine S.condT rfl (by decide) ?_
    have := hb 11
    refine S.g false rfl ?_
    refine S.next ?_
    refine S.g false rfl ?_
    refine S.condT rfl (by decide) ?_
    have := hb 12
    refine S.g false rfl ?_
    refine S.next ?_
    refine S.g false rfl ?_
    refine S.condT rfl (by decide) ?_
    have := hb 13
    refine S.g false rfl ?_
    refine S.next ?_
    refine S.g false rfl ?_
    refine S.condT rfl (by decide) ?_
    have := hb 14
    refine S.g false rfl ?_
    refine S.next ?_
    refine S.g false rfl ?_
    refine S.condT rfl (by decide) ?_
    have := hb 15
    refine S.g false rfl ?_
    refine S.next ?_
    refine S.g false rfl ?_
    refine S.condF rfl (by decide) ?_
    refine S.g false rfl ?_
    refine S.retv rfl rfl rfl rfl ?_
    show (SV.i .u64 (orW z 1 8)).den Qt = _
    rw [Jb hz 1 8 (by omega)]
  exact CV.mono h fun v w' _ ⟨x, e, _, p⟩ => ⟨x, e, trivial, p⟩
set_option maxHeartbeats 1000000 in
theorem QcS {z : List Int} (hz : Qb z) {B : Nat} {w : World} (hr : w.rangeAt B 0 (Qd Qt (GJ z))) (L : List Nat) : CX Tryd.prog 102 [.pointer (some ⟨B, 0, none⟩), .int .i64 16] w L (fun _ : Unit => .i .u64 (Qv z 2 8)) (fun _ => []) (fun _ => True) := by
  have hb := fun k => hz.at k
  have h : CX Tryd.prog 102 [.pointer (some ⟨B, 0, none⟩), .int .i64 16] w [] (fun _ : Unit => .i .u64 (Qv z 2 8)) (fun _ => []) (fun _ => True) := by
    refine S.enter Qm [.v (.pointer (some ⟨B, 0, none⟩)), .i .i64 16] [fG B (Qd Qt (GJ z))] Tryd.func102 rfl rfl rfl (fun _ => rfl) (LL.nil w) ⟨⟨by simp, Zc hr (Nat.zero_lt_succ _), hr⟩, trivial⟩ ?_
    refine S.data 0 (GJ z) rfl (fun ρ w h => h.g 0) ?_
    refine S.g false rfl ?_
    refine S.rounds 8 ?_
    refine S.g false rfl ?_
    refine S.condT rfl (by decide) ?_
    have := hb 16
    refine S.g false rfl ?_
    refine S.next ?_
    refine S.g false rfl ?_
    refine S.condT rfl (by decide) ?_
    have := hb 17
    refine S.g false rfl ?_
    refine S.next ?_
    refine S.g false rfl ?_
    refine S.condT rfl (by decide) ?_
    have := hb 18
    refine S.g false rfl ?_
    refine S.next ?_
    refine S.g false rfl ?_
    refine S.condT rfl (by decide) ?_
    have := hb 19
    refine S.g false rfl ?_
    refine S.next ?_
    refine S.g false rfl ?_
    refine S.condT rfl (by decide) ?_
    have := hb 20
    refine S.g false rfl ?_
    refine S.next ?_
    refine S.g false rfl ?_
    refine S.condT rfl (by decide) ?_
    have := hb 21
    refine S.g false rfl ?_
    refine S.next ?_
    refine S.g false rfl ?_
    refine S.condT rfl (by decide) ?_
    have := hb 22
    refine S.g false rfl ?_
    refine S.next ?_
    refine S.g false rfl ?_
    refine S.condT rfl (by decide) ?_
    have := hb 23
    refine S.g false rfl ?_
    refine S.next ?_
    refine S.g false rfl ?_
    refine S.condF rfl (by decide) ?_
    refine S.g false rfl ?_
    refine S.retv rfl rfl rfl rfl ?_
    show (SV.i .u64 (orW z 2 8)).den Qt = _
    rw [Jb hz 2 8 (by omega)]
  exact CV.mono h fun v w' _ ⟨x, e, _, p⟩ => ⟨x, e, trivial, p⟩
set_option maxHeartbeats 1000000 in
theorem QcR {z : List Int} (hz : Qb z) {B : Nat} {w : World} (hr : w.rangeAt B 0 (Qd Qt (GJ z))) (L : List Nat) : CX Tryd.prog 102 [.pointer (some ⟨B, 0, none⟩), .int .i64 24] w L (fun _ : Unit => .i .u64 (Qv z 3 8)) (fun _ => []) (fun _ => True) := by
  have hb := fun k => hz.at k
  have h : CX Tryd.prog 102 [.pointer (some ⟨B, 0, none⟩), .int .i64 24] w [] (fun _ : Unit => .i .u64 (Qv z 3 8)) (fun _ => []) (fun _ => True) := by
    refine S.enter Qm [.v (.pointer (some ⟨B, 0, none⟩)), .i .i64 24] [fG B (Qd Qt (GJ z))] Tryd.func102 rfl rfl rfl (fun _ => rfl) (LL.nil w) ⟨⟨by simp, Zc hr (Nat.zero_lt_succ _), hr⟩, trivial⟩ ?_
    refine S.data 0 (GJ z) rfl (fun ρ w h => h.g 0) ?_
    refine S.g false rfl ?_
    refine S.rounds 8 ?_
    refine S.g false rfl ?_
    refine S.condT rfl (by decide) ?_
    have := hb 24
    refine S.g false rfl ?_
    refine S.next ?_
    refine S.g false rfl ?_
    refine S.condT rfl (by decide) ?_
    have := hb 25
    refine S.g false rfl ?_
    refine S.next ?_
    refine S.g false rfl ?_
    refine S.condT rfl (by decide) ?_
    have := hb 26
    refine S.g false rfl ?_
    refine S.next ?_
    refine S.g false rfl ?_
    refine S.condT rfl (by decide) ?_
    have := hb 27
    refine S.g false rfl ?_
    refine S.next ?_
    refine S.g false rfl ?_
    refine S.condT rfl (by decide) ?_
    have := hb 28
    refine S.g false rfl ?_
    refine S.next ?_
    refine S.g false rfl ?_
    refine S.condT rfl (by decide) ?_
    have := hb 29
    refine S.g false rfl ?_
    refine S.next ?_
    refine S.g false rfl ?_
    refine S.condT rfl (by decide) ?_
    have := hb 30
    refine S.g false rfl ?_
    refine S.next ?_
    refine S.g false rfl ?_
    refine S.condT rfl (by decide) ?_
    have := hb 31
    refine S.g false rfl ?_
    refine S.next ?_
    refine S.g false rfl ?_
    refine S.condF rfl (by decide) ?_
    refine S.g false rfl ?_
    refine S.retv rfl rfl rfl rfl ?_
    show (SV.i .u64 (orW z 3 8)).den Qt = _
    rw [Jb hz 3 8 (by omega)]
  exact CV.mono h fun v w' _ ⟨x, e, _, p⟩ => ⟨x, e, trivial, p⟩
theorem Qe9 {z : List Int} (hl : z.length = 32) : z = [Qa z 0, Qa z 1, Qa z 2, Qa z 3, Qa z 4, Qa z 5, Qa z 6, Qa z 7, Qa z 8, Qa z 9, Qa z 10, Qa z 11, Qa z 12, Qa z 13, Qa z 14, Qa z 15, Qa z 16, Qa z 17, Qa z 18, Qa z 19, Qa z 20, Qa z 21, Qa z 22, Qa z 23, Qa z 24, Qa z 25, Qa z 26, Qa z 27, Qa z 28, Qa z 29, Qa z 30, Qa z 31] := by
  refine List.ext_getElem (by simp [hl]) fun i h1 h2 => ?_
  have : i < 32 := by omega
  have e : z[i] = Qa z i := by simp [Qa, h1]
  rw [e]
  clear e h1 hl
  revert h2
  match i, this with
  | 0, _ => intro _; rfl
  | 1, _ => intro _; rfl
  | 2, _ => intro _; rfl
  | 3, _ => intro _; rfl
  | 4, _ => intro _; rfl
  | 5, _ => intro _; rfl
  | 6, _ => intro _; rfl
  | 7, _ => intro _; rfl
  | 8, _ => intro _; rfl
  | 9, _ => intro _; rfl
  | 10, _ => intro _; rfl
  | 11, _ => intro _; rfl
  | 12, _ => intro _; rfl
  | 13, _ => intro _; rfl
  | 14, _ => intro _; rfl
  | 15, _ => intro _; rfl
  | 16, _ => intro _; rfl
  | 17, _ => intro _; rfl
  | 18, _ => intro _; rfl
  | 19, _ => intro _; rfl
  | 20, _ => intro _; rfl
  | 21, _ => intro _; rfl
  | 22, _ => intro _; rfl
  | 23, _ => intro _; rfl
  | 24, _ => intro _; rfl
  | 25, _ => intro _; rfl
  | 26, _ => intro _; rfl
  | 27, _ => intro _; rfl
  | 28, _ => intro _; rfl
  | 29, _ => intro _; rfl
  | 30, _ => intro _; rfl
  | 31, _ => intro _; rfl
  | k + 32, h => exact absurd h (by omega)
theorem Qd7 {z : List Int} (hl : z.length = 32) (ρ : Qs) : (SV.g (GJ z)).den ρ = (SV.a .u8 z 32).den ρ := by
  conv => rhs; rw [Qe9 hl]
  rfl
theorem GB {ρ : Qs} {L0 : List Nat} {w0 w : World} {m : SM} {d : SD} {n : Nat} {Γ : List Qq} (h : WM ρ L0 w0 m d n Γ w) (k : Nat) {z : List Int} (hk : Xm m k = some (GJ z)) : w.rangeAt (ρ.b k) 0 (Qd Qt (GJ z)) := by
  have := (h.cell hk).1.range
  rwa [QW (ρ' := Qt) (fun k hk => absurd hk (Nat.not_lt_zero k)) (GJ z) (n := 0) rfl] at this
set_option maxHeartbeats 1000000 in
theorem Qe8 {z : List Int} (hz : Qb z) : PV Tryd.prog gT 86 [.g (GJ z)] (lm (Qi (YG z))) := by
  refine PV.mk' Tryd.func86 rfl rfl rfl rfl fun w L hL hG => ?_
  refine S.enter Qm [.g (GJ z)] gT Tryd.func86 rfl rfl rfl (fun _ => rfl) hL hG ?_
  refine S.g false rfl ?_
  refine S.call (α := Unit) (sv := fun _ => .i .u64 (Qv z 0 8)) (fs := fun _ => []) (pr := fun _ => True) rfl rfl rfl rfl rfl rfl Tryd.func102 rfl rfl (fun ρ W h => QcU hz (B := ρ.b 0) (GB h 0 rfl) _) (fun _ => rfl) fun _ _ => ?_
  refine S.g false rfl ?_
  refine S.call (α := Unit) (sv := fun _ => .i .u64 (Qv z 1 8)) (fs := fun _ => []) (pr := fun _ => True) rfl rfl rfl rfl rfl rfl Tryd.func102 rfl rfl (fun ρ W h => QcT hz (B := ρ.b 0) (GB h 0 rfl) _) (fun _ => rfl) fun _ _ => ?_
  refine S.g false rfl ?_
  refine S.call (α := Unit) (sv := fun _ => .i .u64 (Qv z 2 8)) (fs := fun _ => []) (pr := fun _ => True) rfl rfl rfl rfl rfl rfl Tryd.func102 rfl rfl (fun ρ W h => QcS hz (B := ρ.b 0) (GB h 0 rfl) _) (fun _ => rfl) fun _ _ => ?_
  refine S.g false rfl ?_
  refine S.call (α := Unit) (sv := fun _ => .i .u64 (Qv z 3 8)) (fs := fun _ => []) (pr := fun _ => True) rfl rfl rfl rfl rfl rfl Tryd.func102 rfl rfl (fun ρ W h => QcR hz (B := ρ.b 0) (GB h 0 rfl) _) (fun _ => rfl) fun _ _ => ?_
  have h0 := QV z hz 0; have h1 := QV z hz 1; have h2 := QV z hz 2; have h3 := QV z hz 3
  obtain ⟨Z, hZ, hC⟩ : ∃ Z, Qi (YG z) = Z /\ PV Tryd.prog gT 93 [lm (YG z)] (lm Z) := ⟨_, rfl, ZM _ (Un z hz)⟩
  rw [hZ]
  clear hZ
  unfold YG at hC
  generalize Qv z 0 8 = q0 at *
  generalize Qv z 1 8 = q1 at *
  generalize Qv z 2 8 = q2 at *
  generalize Qv z 3 8 = q3 at *
  have m0 := Zl h0
  have o1 := Ve (q0 / 2251799813685248) q1 13 (by omega) (by simp only [Int.reducePow]; omega) h1.1
  have o2 := Ve (q1 / 274877906944) q2 26 (by omega) (by simp only [Int.reducePow]; omega) h2.1
  have o3 := Ve (q2 / 33554432) q3 39 (by omega) (by simp only [Int.reducePow]; omega) h3.1
  simp only [Int.reducePow] at o1 o2 o3
  have m1 := Zl (x := q0 / 2251799813685248 + q1 * 8192 % 18446744073709551616) (by omega)
  have m2 := Zl (x := q1 / 274877906944 + q2 * 67108864 % 18446744073709551616) (by omega)
  have m3 := Zl (x := q2 / 33554432 + q3 * 549755813888 % 18446744073709551616) (by omega)
  rw [show (q0 / 2251799813685248 + q1 * 8192 % 18446744073709551616) % 2251799813685248 = (q0 / 2251799813685248 + q1 * 8192) % 2251799813685248 by omega] at m1
  rw [show (q1 / 274877906944 + q2 * 67108864 % 18446744073709551616) % 2251799813685248 = (q1 / 274877906944 + q2 * 67108864) % 2251799813685248 by omega] at m2
  rw [show (q2 / 33554432 + q3 * 549755813888 % 18446744073709551616) % 2251799813685248 = (q2 / 33554432 + q3 * 549755813888) % 2251799813685248 by omega] at m3
  rw [<- o1] at m1
  rw [<- o2] at m2
  rw [<- o3] at m3
  rw [<- m0, <- m1, <- m2, <- m3] at hC
  clear o1 o2 o3 m0 m1 m2 m3
  refine S.g false rfl ?_
  refine S.cv rfl rfl rfl rfl rfl rfl hC ?_ (fun _ _ h => (Hs.pre (Hs.pre (Hs.pre (Hs.pre h)))))
  refine S.g false rfl ?_
  exact S.retv rfl rfl rfl rfl rfl
theorem QbR {z : List Int} (hz : Qb z) (hl : z.length = 32) : PV Tryd.prog gT 86 [.a .u8 z 32] (lm (Qi (YG z))) := (Qe8 hz).arg (by simp only [Qr, Qd7 hl])
theorem QgM (cs : List Int) (hc : QS cs) : bits .or .u64 (bits .and .u64 (yS cs 0) 2251799813685247) (IntKind.u64.wrap (bits .and .u64 (yS cs 1) 2251799813685247 * 2 ^ Int.toNat 51)) = Qa (JN cs) 0 := by
  have y0 := Xg hc 0; have y1 := Xg hc 1
  rw [Zl (by omega), Zl (by omega)]
  exact Ve (dS cs 0) (dS cs 1) 51 (by omega) (Xk cs 0) (Xk cs 1).1
theorem QgL (cs : List Int) (hc : QS cs) : bits .or .u64 (bits .and .u64 (yS cs 1) 2251799813685247 / 2 ^ Int.toNat 13) (IntKind.u64.wrap (bits .and .u64 (yS cs 2) 2251799813685247 * 2 ^ Int.toNat 38)) = Qa (JN cs) 1 := by
  have y0 := Xg hc 1; have y1 := Xg hc 2
  rw [Zl (by omega), Zl (by omega)]
  exact Ve (dS cs 1 / 8192) (dS cs 2) 38 (by omega) (by have := Xk cs 1; simp only [Int.reducePow]; omega) (Xk cs 2).1
theorem QgK (cs : List Int) (hc : QS cs) : bits .or .u64 (bits .and .u64 (yS cs 2) 2251799813685247 / 2 ^ Int.toNat 26) (IntKind.u64.wrap (bits .and .u64 (yS cs 3) 2251799813685247 * 2 ^ Int.toNat 25)) = Qa (JN cs) 2 := by
  have y0 := Xg hc 2; have y1 := Xg hc 3
  rw [Zl (by omega), Zl (by omega)]
  exact Ve (dS cs 2 / 67108864) (dS cs 3) 25 (by omega) (by have := Xk cs 2; simp only [Int.reducePow]; omega) (Xk cs 3).1
theorem QgJ (cs : List Int) (hc : QS cs) : bits .or .u64 (bits .and .u64 (yS cs 3) 2251799813685247 / 2 ^ Int.toNat 39) (IntKind.u64.wrap (bits .and .u64 (yS cs 4) 2251799813685247 * 2 ^ Int.toNat 12)) = Qa (JN cs) 3 := by
  have y0 := Xg hc 3; have y1 := Xg hc 4
  rw [Zl (by omega), Zl (by omega)]
  exact Ve (dS cs 3 / 549755813888) (dS cs 4) 12 (by omega) (by have := Xk cs 3; simp only [Int.reducePow]; omega) (Xk cs 4).1
theorem QcZ (v : Int) : IntKind.u8.wrap v = v % 256 := by simp [IntKind.wrap, IntKind.bits, IntKind.signed]
/-- The first k bytes are written. -/
def bw (zs : List Int) : Nat -> List Int
  | 0 => List.replicate 32 0
  | k + 1 => (bw zs k).set k (IntKind.u8.wrap (Qa zs (k / 8) / 2 ^ (8 * (k % 8))))
theorem Ug (zs : List Int) : ∀ k, (bw zs k).length = 32
  | 0 => by simp [bw]
  | k + 1 => by simp [bw, Ug zs k]
theorem Qew (zs : List Int) : ∀ k i, i < k -> k <= 32 -> (bw zs k)[i]? = some (UZ zs i)
  | 0, i, h, _ => by omega
  | k + 1, i, h, h2 => by
    unfold bw
    by_cases e : k = i
    . subst e
      rw [List.getElem?_set_self (by rw [Ug]; omega), QcZ]
      rfl
    . rw [List.getElem?_set_ne e]
      exact Qew zs k i (by omega) (by omega)
theorem Qgm (zs : List Int) : bw zs 32 = Zj zs 32 := by
  refine List.ext_getElem? fun i => ?_
  by_cases h : i < 32
  . rw [Qew zs 32 i h (Nat.le_refl _)]; simp [Zj, h]
  . rw [List.getElem?_eq_none (by rw [Ug]; omega), List.getElem?_eq_none (by simp [Zj]; omega)]
theorem QgY (zs : List Int) (k : Nat) : (bw zs k).set k (IntKind.u8.wrap (Qa zs (k / 8) / 2 ^ (8 * (k % 8)))) = bw zs (k + 1) := rfl
theorem QgZ (zs : List Int) : List.replicate 32 0 = bw zs 0 := rfl
theorem Qb1 {K : IntKind} {X Y : List Int} {n : Nat} (h : X = Y) : (SV.a K X n).eqv (SV.a K Y n) := by subst h; rfl
attribute [local irreducible] bw
set_option maxHeartbeats 2000000 in
theorem QdY (x : List Int) (hx : Qp x) : PV Tryd.prog gT 70 [lm x] (.a .u8 (Zj (JN (Qi x)) 32) 32) := by
  refine PV.mk' Tryd.func70 rfl rfl rfl rfl fun w L hL hG => ?_
  refine S.enter Qm [lm x] gT Tryd.func70 rfl rfl rfl (fun _ => rfl) hL hG ?_
  refine S.g false rfl ?_
  refine S.cv rfl rfl rfl rfl rfl rfl (ZM _ hx) ?_
  have hc := (Xy x hx).small
  generalize Qi x = cs at hc ⊢
  have c0 := hc 0; have c1 := hc 1; have c2 := hc 2; have c3 := hc 3; have c4 := hc 4
  refine S.g false rfl ?_
  refine S.rounds 4 ?_
  refine S.g false rfl ?_
  refine S.condT rfl (by decide) ?_
  refine S.g false rfl ?_
  repeat (refine S.next ?_; refine S.g false rfl ?_; refine S.condT rfl (by decide) ?_; refine S.g false rfl ?_)
  refine S.next ?_
  refine S.g false rfl ?_
  refine S.condF rfl (by decide) ?_
  refine S.g false rfl ?_
  have y0 := Xg hc 0; have y1 := Xg hc 1; have y2 := Xg hc 2; have y3 := Xg hc 3; have y4 := Xg hc 4
  refine S.same 2 [(1, .p 0 0), (2, .p 1 0), (32, .i .i64 0)] [(0, [.i .u64 (yS cs 0), .i .u64 (Qa cs 1), .i .u64 (Qa cs 2), .i .u64 (Qa cs 3), .i .u64 (Qa cs 4)]), (1, [.a .u8 (List.replicate 32 0) 32])] ⟨rfl, rfl, ⟨rfl, rfl⟩, trivial⟩ ?_ ?_
  . repeat' (first | exact True.intro | refine And.intro ?_ ?_ | exact rfl)
  refine S.rounds 4 ?_
  refine S.g false rfl ?_
  refine S.condT rfl (by decide) ?_
  refine S.g false rfl ?_
  refine S.dr0 false rfl rfl rfl ?_
  refine S.g false rfl ?_
  repeat (refine S.next ?_; refine S.g false rfl ?_; refine S.condT rfl (by decide) ?_; refine S.g false rfl ?_; refine S.dr0 false rfl rfl rfl ?_; refine S.g false rfl ?_)
  refine S.next ?_
  refine S.g false rfl ?_
  refine S.condF rfl (by decide) ?_
  refine S.g false rfl ?_
  have e0 := QgM cs hc; have e1 := QgL cs hc; have e2 := QgK cs hc; have e3 := QgJ cs hc
  refine S.same 48 [(2, .p 1 0), (6, .p 46 0), (7, .p 47 0), (83, .i .i64 0)] [(1, [.a .u8 (List.replicate 32 0) 32]), (46, [.i .u64 (Qa (JN cs) 0), .i .u64 (Qa (JN cs) 1), .i .u64 (Qa (JN cs) 2), .i .u64 (Qa (JN cs) 3)]), (47, [.a .u8 (bw (JN cs) 0) 32])] ⟨rfl, rfl, rfl, ⟨rfl, rfl⟩, trivial⟩ ?_ ?_
  . repeat' (first | exact True.intro | refine And.intro ?_ ?_ | exact e0 | exact e1 | exact e2 | exact e3 | exact Qb1 (QgZ _) | exact Ug _ _ | exact rfl)
  refine S.rounds 32 ?_
  refine S.go true rfl (by repeat' (first | exact True.intro | refine And.intro ?_ ?_ | decide | exact rfl)) ?_
  refine S.condT rfl (by decide) ?_
  refine S.go true rfl (by repeat' (first | exact True.intro | refine And.intro ?_ ?_ | decide | exact rfl)) ?_
  refine S.next ?_
  refine S.same 48 [(2, .p 1 0), (6, .p 46 0), (7, .p 47 0), (83, .i .i64 1)] [(1, [.a .u8 (List.replicate 32 0) 32]), (46, [.i .u64 (Qa (JN cs) 0), .i .u64 (Qa (JN cs) 1), .i .u64 (Qa (JN cs) 2), .i .u64 (Qa (JN cs) 3)]), (47, [.a .u8 (bw (JN cs) 1) 32])] ⟨rfl, rfl, rfl, ⟨rfl, by decide⟩, trivial⟩ (by repeat' (first | exact True.intro | refine And.intro ?_ ?_ | exact Qb1 (QgY (JN cs) 0) | exact rfl | exact Ug _ _)) ?_
  refine S.go true rfl (by repeat' (first | exact True.intro | refine And.intro ?_ ?_ | decide | exact rfl)) ?_
  refine S.condT rfl (by decide) ?_
  refine S.go true rfl (by repeat' (first | exact True.intro | refine And.intro ?_ ?_ | decide | exact rfl)) ?_
  refine S.next ?_
  refine S.same 48 [(2, .p 1 0), (6, .p 46 0), (7, .p 47 0), (83, .i .i64 2)] [(1, [.a .u8 (List.replicate 32 0) 32]), (46, [.i .u64 (Qa (JN cs) 0), .i .u64 (Qa (JN cs) 1), .i .u64 (Qa (JN cs) 2), .i .u64 (Qa (JN cs) 3)]), (47, [.a .u8 (bw (JN cs) 2) 32])] ⟨rfl, rfl, rfl, ⟨rfl, by decide⟩, trivial⟩ (by repeat' (first | exact True.intro | refine And.intro ?_ ?_ | exact Qb1 (QgY (JN cs) 1) | exact rfl | exact Ug _ _)) ?_
  refine S.go true rfl (by repeat' (first | exact True.intro | refine And.intro ?_ ?_ | decide | exact rfl)) ?_
  refine S.condT rfl (by decide) ?_
  refine S.go true rfl (by repeat' (first | exact True.intro | refine And.intro ?_ ?_ | decide | exact rfl)) ?_
  refine S.next ?_
  refine S.same 48 [(2, .p 1 0), (6, .p 46 0), (7, .p 47 0), (83, .i .i64 3)] [(1, [.a .u8 (List.replicate 32 0) 32]), (46, [.i .u64 (Qa (JN cs) 0), .i .u64 (Qa (JN cs) 1), .i .u64 (Qa (JN cs) 2), .i .u64 (Qa (JN cs) 3)]), (47, [.a .u8 (bw (JN cs) 3) 32])] ⟨rfl, rfl, rfl, ⟨rfl, by decide⟩, trivial⟩ (by repeat' (first | exact True.intro | refine And.intro ?_ ?_ | exact Qb1 (QgY (JN cs) 2) | exact rfl | exact Ug _ _)) ?_
  refine S.go true rfl (by repeat' (first | exact True.intro | refine And.intro ?_ ?_ | decide | exact rfl)) ?_
  refine S.condT rfl (by decide) ?_
  refine S.go true rfl (by repeat' (first | exact True.intro | refine And.intro ?_ ?_ | decide | exact rfl)) ?_
  refine S.next ?_
  refine S.same 48 [(2, .p 1 0), (6, .p 46 0), (7, .p 47 0), (83, .i .i64 4)] [(1, [.a .u8 (List.replicate 32 0) 32]), (46, [.i .u64 (Qa (JN cs) 0), .i .u64 (Qa (JN cs) 1), .i .u64 (Qa (JN cs) 2), .i .u64 (Qa (JN cs) 3)]), (47, [.a .u8 (bw (JN cs) 4) 32])] ⟨rfl, rfl, rfl, ⟨rfl, by decide⟩, trivial⟩ (by repeat' (first | exact True.intro | refine And.intro ?_ ?_ | exact Qb1 (QgY (JN cs) 3) | exact rfl | exact Ug _ _)) ?_
  refine S.go true rfl (by repeat' (first | exact True.intro | refine And.intro ?_ ?_ | decide | exact rfl)) ?_
  refine S.condT rfl (by decide) ?_
  refine S.go true rfl (by repeat' (first | exact True.intro | refine And.intro ?_ ?_ | decide | exact rfl)) ?_
  refine S.next ?_
  refine S.same 48 [(2, .p 1 0), (6, .p 46 0), (7, .p 47 0), (83, .i .i64 5)] [(1, [.a .u8 (List.replicate 32 0) 32]), (46, [.i .u64 (Qa (JN cs) 0), .i .u64 (Qa (JN cs) 1), .i .u64 (Qa (JN cs) 2), .i .u64 (Qa (JN cs) 3)]), (47, [.a .u8 (bw (JN cs) 5) 32])] ⟨rfl, rfl, rfl, ⟨rfl, by decide⟩, trivial⟩ (by repeat' (first | exact True.intro | refine And.intro ?_ ?_ | exact Qb1 (QgY (JN cs) 4) | exact rfl | exact Ug _ _)) ?_
  refine S.go true rfl (by repeat' (first | exact True.intro | refine And.intro ?_ ?_ | decide | exact rfl)) ?_
  refine S.condT rfl (by decide) ?_
  refine S.go true rfl (by repeat' (first | exact True.intro | refine And.intro ?_ ?_ | decide | exact rfl)) ?_
  refine S.next ?_
  refine S.same 48 [(2, .p 1 0), (6, .p 46 0), (7, .p 47 0), (83, .i .i64 6)] [(1, [.a .u8 (List.replicate 32 0) 32]), (46, [.i .u64 (Qa (JN cs) 0), .i .u64 (Qa (JN cs) 1), .i .u64 (Qa (JN cs) 2), .i .u64 (Qa (JN cs) 3)]), (47, [.a .u8 (bw (JN cs) 6) 32])] ⟨rfl, rfl, rfl, ⟨rfl, by decide⟩, trivial⟩ (by repeat' (first | exact True.intro | refine And.intro ?_ ?_ | exact Qb1 (QgY (JN cs) 5) | exact rfl | exact Ug _ _)) ?_
  refine S.go true rfl (by repeat' (first | exact True.intro | refine And.intro ?_ ?_ | decide | exact rfl)) ?_
  refine S.condT rfl (by decide) ?_
  refine S.go true rfl (by repeat' (first | exact True.intro | refine And.intro ?_ ?_ | decide | exact rfl)) ?_
  refine S.next ?_
  refine S.same 48 [(2, .p 1 0), (6, .p 46 0), (7, .p 47 0), (83, .i .i64 7)] [(1, [.a .u8 (List.replicate 32 0) 32]), (46, [.i .u64 (Qa (JN cs) 0), .i .u64 (Qa (JN cs) 1), .i .u64 (Qa (JN cs) 2), .i .u64 (Qa (JN cs) 3)]), (47, [.a .u8 (bw (JN cs) 7) 32])] ⟨rfl, rfl, rfl, ⟨rfl, by decide⟩, trivial⟩ (by repeat' (first | exact True.intro | refine And.intro ?_ ?_ | exact Qb1 (QgY (JN cs) 6) | exact rfl | exact Ug _ _)) ?_
  refine S.go true rfl (by repeat' (first | exact True.intro | refine And.intro ?_ ?_ | decide | exact rfl)) ?_
  refine S.condT rfl (by decide) ?_
  refine S.go true rfl (by repeat' (first | exact True.intro | refine And.intro ?_ ?_ | decide | exact rfl)) ?_
  refine S.next ?_
  refine S.same 48 [(2, .p 1 0), (6, .p 46 0), (7, .p 47 0), (83, .i .i64 8)] [(1, [.a .u8 (List.replicate 32 0) 32]), (46, [.i .u64 (Qa (JN cs) 0), .i .u64 (Qa (JN cs) 1), .i .u64 (Qa (JN cs) 2), .i .u64 (Qa (JN cs) 3)]), (47, [.a .u8 (bw (JN cs) 8) 32])] ⟨rfl, rfl, rfl, ⟨rfl, by decide⟩, trivial⟩ (by repeat' (first | exact True.intro | refine And.intro ?_ ?_ | exact Qb1 (QgY (JN cs) 7) | exact rfl | exact Ug _ _)) ?_
  refine S.go true rfl (by repeat' (first | exact True.intro | refine And.intro ?_ ?_ | decide | exact rfl)) ?_
  refine S.condT rfl (by decide) ?_
  refine S.go true rfl (by repeat' (first | exact True.intro | refine And.intro ?_ ?_ | decide | exact rfl)) ?_
  refine S.next ?_
  refine S.same 48 [(2, .p 1 0), (6, .p 46 0), (7, .p 47 0), (83, .i .i64 9)] [(1, [.a .u8 (List.replicate 32 0) 32]), (46, [.i .u64 (Qa (JN cs) 0), .i .u64 (Qa (JN cs) 1), .i .u64 (Qa (JN cs) 2), .i .u64 (Qa (JN cs) 3)]), (47, [.a .u8 (bw (JN cs) 9) 32])] ⟨rfl, rfl, rfl, ⟨rfl, by decide⟩, trivial⟩ (by repeat' (first | exact True.intro | refine And.intro ?_ ?_ | exact Qb1 (QgY (JN cs) 8) | exact rfl | exact Ug _ _)) ?_
  refine S.go true rfl (by repeat' (first | exact True.intro | refine And.intro ?_ ?_ | decide | exact rfl)) ?_
  refine S.condT rfl (by decide) ?_
  refine S.go true rfl (by repeat' (first | exact True.intro | refine And.intro ?_ ?_ | decide | exact rfl)) ?_
  refine S.next ?_
  refine S.same 48 [(2, .p 1 0), (6, .p 46 0), (7, .p 47 0), (83, .i .i64 10)] [(1, [.a .u8 (List.replicate 32 0) 32]), (46, [.i .u64 (Qa (JN cs) 0), .i .u64 (Qa (JN cs) 1), .i .u64 (Qa (JN cs) 2), .i .u64 (Qa (JN cs) 3)]), (47, [.a .u8 (bw (JN cs) 10) 32])] ⟨rfl, rfl, rfl, ⟨rfl, by decide⟩, trivial⟩ (by repeat' (first | exact True.intro | refine And.intro ?_ ?_ | exact Qb1 (QgY (JN cs) 9) | exact rfl | exact Ug _ _)) ?_
  refine S.go true rfl (by repeat' (first | exact True.intro | refine And.intro ?_ ?_ | decide | exact rfl)) ?_
  refine S.condT rfl (by decide) ?_
  refine S.go true rfl (by repeat' (first | exact True.intro | refine And.intro ?_ ?_ | decide | exact rfl)) ?_
  refine S.next ?_
  refine S.same 48 [(2, .p 1 0), (6, .p 46 0), (7, .p 47 0), (83, .i .i64 11)] [(1, [.a .u8 (List.replicate 32 0) 32]), (46, [.i .u64 (Qa (JN cs) 0), .i .u64 (Qa (JN cs) 1), .i .u64 (Qa (JN cs) 2), .i .u64 (Qa (JN cs) 3)]), (47, [.a .u8 (bw (JN cs) 11) 32])] ⟨rfl, rfl, rfl, ⟨rfl, by decide⟩, trivial⟩ (by repeat' (first | exact True.intro | refine And.intro ?_ ?_ | exact Qb1 (QgY (JN cs) 10) | exact rfl | exact Ug _ _)) ?_
  refine S.go true rfl (by repeat' (first | exact True.intro | refine And.intro ?_ ?_ | decide | exact rfl)) ?_
  refine S.condT rfl (by decide) ?_
  refine S.go true rfl (by repeat' (first | exact True.intro | refine And.intro ?_ ?_ | decide | exact rfl)) ?_
  refine S.next ?_
  refine S.same 48 [(2, .p 1 0), (6, .p 46 0), (7, .p 47 0), (83, .i .i64 12)] [(1, [.a .u8 (List.replicate 32 0) 32]), (46, [.i .u64 (Qa (JN cs) 0), .i .u64 (Qa (JN cs) 1), .i .u64 (Qa (JN cs) 2), .i .u64 (Qa (JN cs) 3)]), (47, [.a .u8 (bw (JN cs) 12) 32])] ⟨rfl, rfl, rfl, ⟨rfl, by decide⟩, trivial⟩ (by repeat' (first | exact True.intro | refine And.intro ?_ ?_ | exact Qb1 (QgY (JN cs) 11) | exact rfl | exact Ug _ _)) ?_
  refine S.go true rfl (by repeat' (first | exact True.intro | refine And.intro ?_ ?_ | decide | exact rfl)) ?_
  refine S.condT rfl (by decide) ?_
  refine S.go true rfl (by repeat' (first | exact True.intro | refine And.intro ?_ ?_ | decide | exact rfl)) ?_
  refine S.next ?_
  refine S.same 48 [(2, .p 1 0), (6, .p 46 0), (7, .p 47 0), (83, .i .i64 13)] [(1, [.a .u8 (List.replicate 32 0) 32]), (46, [.i .u64 (Qa (JN cs) 0), .i .u64 (Qa (JN cs) 1), .i .u64 (Qa (JN cs) 2), .i .u64 (Qa (JN cs) 3)]), (47, [.a .u8 (bw (JN cs) 13) 32])] ⟨rfl, rfl, rfl, ⟨rfl, by decide⟩, trivial⟩ (by repeat' (first | exact True.intro | refine And.intro ?_ ?_ | exact Qb1 (QgY (JN cs) 12) | exact rfl | exact Ug _ _)) ?_
  refine S.go true rfl (by repeat' (first | exact True.intro | refine And.intro ?_ ?_ | decide | exact rfl)) ?_
  refine S.condT rfl (by decide) ?_
  refine S.go true rfl (by repeat' (first | exact True.intro | refine And.intro ?_ ?_ | decide | exact rfl)) ?_
  refine S.next ?_
  refine S.same 48 [(2, .p 1 0), (6, .p 46 0), (7, .p 47 0), (83, .i .i64 14)] [(1, [.a .u8 (List.replicate 32 0) 32]), (46, [.i .u64 (Qa (JN cs) 0), .i .u64 (Qa (JN cs) 1), .i .u64 (Qa (JN cs) 2), .i .u64 (Qa (JN cs) 3)]), (47, [.a .u8 (bw (JN cs) 14) 32])] ⟨rfl, rfl, rfl, ⟨rfl, by decide⟩, trivial⟩ (by repeat' (first | exact True.intro | refine And.intro ?_ ?_ | exact Qb1 (QgY (JN cs) 13) | exact rfl | exact Ug _ _)) ?_
  refine S.go true rfl (by repeat' (first | exact True.intro | refine And.intro ?_ ?_ | decide | exact rfl)) ?_
  refine S.condT rfl (by decide) ?_
  refine S.go true rfl (by repeat' (first | exact True.intro | refine And.intro ?_ ?_ | decide | exact rfl)) ?_
  refine S.next ?_
  refine S.same 48 [(2, .p 1 0), (6, .p 46 0), (7, .p 47 0), (83, .i .i64 15)] [(1, [.a .u8 (List.replicate 32 0) 32]), (46, [.i .u64 (Qa (JN cs) 0), .i .u64 (Qa (JN cs) 1), .i .u64 (Qa (JN cs) 2), .i .u64 (Qa (JN cs) 3)]), (47, [.a .u8 (bw (JN cs) 15) 32])] ⟨rfl, rfl, rfl, ⟨rfl, by decide⟩, trivial⟩ (by repeat' (first | exact True.intro | refine And.intro ?_ ?_ | exact Qb1 (QgY (JN cs) 14) | exact rfl | exact Ug _ _)) ?_
  refine S.go true rfl (by repeat' (first | exact True.intro | refine And.intro ?_ ?_ | decide | exact rfl)) ?_
  refine S.condT rfl (by decide) ?_
  refine S.go true rfl (by repeat' (first | exact True.intro | refine And.intro ?_ ?_ | decide | exact rfl)) ?_
  refine S.next ?_
  refine S.same 48 [(2, .p 1 0), (6, .p 46 0), (7, .p 47 0), (83, .i .i64 16)] [(1, [.a .u8 (List.replicate 32 0) 32]), (46, [.i .u64 (Qa (JN cs) 0), .i .u64 (Qa (JN cs) 1), .i .u64 (Qa (JN cs) 2), .i .u64 (Qa (JN cs) 3)]), (47, [.a .u8 (bw (JN cs) 16) 32])] ⟨rfl, rfl, rfl, ⟨rfl, by decide⟩, trivial⟩ (by repeat' (first | exact True.intro | refine And.intro ?_ ?_ | exact Qb1 (QgY (JN cs) 15) | exact rfl | exact Ug _ _)) ?_
  refine S.go true rfl (by repeat' (first | exact True.intro | refine And.intro ?_ ?_ | decide | exact rfl)) ?_
  refine S.condT rfl (by decide) ?_
  refine S.go true rfl (by repeat' (first | exact True.intro | refine And.intro ?_ ?_ | decide | exact rfl)) ?_
  refine S.next ?_
  refine S.same 48 [(2, .p 1 0), (6, .p 46 0), (7, .p 47 0), (83, .i .i64 17)] [(1, [.a .u8 (List.replicate 32 0) 32]), (46, [.i .u64 (Qa (JN cs) 0), .i .u64 (Qa (JN cs) 1), .i .u64 (Qa (JN cs) 2), .i .u64 (Qa (JN cs) 3)]), (47, [.a .u8 (bw (JN cs) 17) 32])] ⟨rfl, rfl, rfl, ⟨rfl, by decide⟩, trivial⟩ (by repeat' (first | exact True.intro | refine And.intro ?_ ?_ | exact Qb1 (QgY (JN cs) 16) | exact rfl | exact Ug _ _)) ?_
  refine S.go true rfl (by repeat' (first | exact True.intro | refine And.intro ?_ ?_ | decide | exact rfl)) ?_
  refine S.condT rfl (by decide) ?_
  refine S.go true rfl (by repeat' (first | exact True.intro | refine And.intro ?_ ?_ | decide | exact rfl)) ?_
  refine S.next ?_
  refine S.same 48 [(2, .p 1 0), (6, .p 46 0), (7, .p 47 0), (83, .i .i64 18)] [(1, [.a .u8 (List.replicate 32 0) 32]), (46, [.i .u64 (Qa (JN cs) 0), .i .u64 (Qa (JN cs) 1), .i .u64 (Qa (JN cs) 2), .i .u64 (Qa (JN cs) 3)]), (47, [.a .u8 (bw (JN cs) 18) 32])] ⟨rfl, rfl, rfl, ⟨rfl, by decide⟩, trivial⟩ (by repeat' (first | exact True.intro | refine And.intro ?_ ?_ | exact Qb1 (QgY (JN cs) 17) | exact rfl | exact Ug _ _)) ?_
  refine S.go true rfl (by repeat' (first | exact True.intro | refine And.intro ?_ ?_ | decide | exact rfl)) ?_
  refine S.condT rfl (by decide) ?_
  refine S.go true rfl (by repeat' (first | exact True.intro | refine And.intro ?_ ?_ | decide | exact rfl)) ?_
  refine S.next ?_
  refine S.same 48 [(2, .p 1 0), (6, .p 46 0), (7, .p 47 0), (83, .i .i64 19)] [(1, [.a .u8 (List.replicate 32 0) 32]), (46, [.i .u64 (Qa (JN cs) 0), .i .u64 (Qa (JN cs) 1), .i .u64 (Qa (JN cs) 2), .i .u64 (Qa (JN cs) 3)]), (47, [.a .u8 (bw (JN cs) 19) 32])] ⟨rfl, rfl, rfl, ⟨rfl, by decide⟩, trivial⟩ (by repeat' (first | exact True.intro | refine And.intro ?_ ?_ | exact Qb1 (QgY (JN cs) 18) | exact rfl | exact Ug _ _)) ?_
  refine S.go true rfl (by repeat' (first | exact True.intro | refine And.intro ?_ ?_ | decide | exact rfl)) ?_
  refine S.condT rfl (by decide) ?_
  refine S.go true rfl (by repeat' (first | exact True.intro | refine And.intro ?_ ?_ | decide | exact rfl)) ?_
  refine S.next ?_
  refine S.same 48 [(2, .p 1 0), (6, .p 46 0), (7, .p 47 0), (83, .i .i64 20)] [(1, [.a .u8 (List.replicate 32 0) 32]), (46, [.i .u64 (Qa (JN cs) 0), .i .u64 (Qa (JN cs) 1), .i .u64 (Qa (JN cs) 2), .i .u64 (Qa (JN cs) 3)]), (47, [.a .u8 (bw (JN cs) 20) 32])] ⟨rfl, rfl, rfl, ⟨rfl, by decide⟩, trivial⟩ (by repeat' (first | exact True.intro | refine And.intro ?_ ?_ | exact Qb1 (QgY (JN cs) 19) | exact rfl | exact Ug _ _)) ?_
  refine S.go true rfl (by repeat' (first | exact True.intro | refine And.intro ?_ ?_ | decide | exact rfl)) ?_
  refine S.condT rfl (by decide) ?_
  refine S.go true rfl (by repeat' (first | exact True.intro | refine And.intro ?_ ?_ | decide | exact rfl)) ?_
  refine S.next ?_
  refine S.same 48 [(2, .p 1 0), (6, .p 46 0), (7, .p 47 0), (83, .i .i64 21)] [(1, [.a .u8 (List.replicate 32 0) 32]), (46, [.i .u64 (Qa (JN cs) 0), .i .u64 (Qa (JN cs) 1), .i .u64 (Qa (JN cs) 2), .i .u64 (Qa (JN cs) 3)]), (47, [.a .u8 (bw (JN cs) 21) 32])] ⟨rfl, rfl, rfl, ⟨rfl, by decide⟩, trivial⟩ (by repeat' (first | exact True.intro | refine And.intro ?_ ?_ | exact Qb1 (QgY (JN cs) 20) | exact rfl | exact Ug _ _)) ?_
  refine S.go true rfl (by repeat' (first | exact True.intro | refine And.intro ?_ ?_ | decide | exact rfl)) ?_
  refine S.condT rfl (by decide) ?_
  refine S.go true rfl (by repeat' (first | exact True.intro | refine And.intro ?_ ?_ | decide | exact rfl)) ?_
  refine S.next ?_
  refine S.same 48 [(2, .p 1 0), (6, .p 46 0), (7, .p 47 0), (83, .i .i64 22)] [(1, [.a .u8 (List.replicate 32 0) 32]), (46, [.i .u64 (Qa (JN cs) 0), .i .u64 (Qa (JN cs) 1), .i .u64 (Qa (JN cs) 2), .i .u64 (Qa (JN cs) 3)]), (47, [.a .u8 (bw (JN cs) 22) 32])] ⟨rfl, rfl, rfl, ⟨rfl, by decide⟩, trivial⟩ (by repeat' (first | exact True.intro | refine And.intro ?_ ?_ | exact Qb1 (QgY (JN cs) 21) | exact rfl | exact Ug _ _)) ?_
  refine S.go true rfl (by repeat' (first | exact True.intro | refine And.intro ?_ ?_ | decide | exact rfl)) ?_
  refine S.condT rfl (by decide) ?_
  refine S.go true rfl (by repeat' (first | exact True.intro | refine And.intro ?_ ?_ | decide | exact rfl)) ?_
  refine S.next ?_
  refine S.same 48 [(2, .p 1 0), (6, .p 46 0), (7, .p 47 0), (83, .i .i64 23)] [(1, [.a .u8 (List.replicate 32 0) 32]), (46, [.i .u64 (Qa (JN cs) 0), .i .u64 (Qa (JN cs) 1), .i .u64 (Qa (JN cs) 2), .i .u64 (Qa (JN cs) 3)]), (47, [.a .u8 (bw (JN cs) 23) 32])] ⟨rfl, rfl, rfl, ⟨rfl, by decide⟩, trivial⟩ (by repeat' (first | exact True.intro | refine And.intro ?_ ?_ | exact Qb1 (QgY (JN cs) 22) | exact rfl | exact Ug _ _)) ?_
  refine S.go true rfl (by repeat' (first | exact True.intro | refine And.intro ?_ ?_ | decide | exact rfl)) ?_
  refine S.condT rfl (by decide) ?_
  refine S.go true rfl (by repeat' (first | exact True.intro | refine And.intro ?_ ?_ | decide | exact rfl)) ?_
  refine S.next ?_
  refine S.same 48 [(2, .p 1 0), (6, .p 46 0), (7, .p 47 0), (83, .i .i64 24)] [(1, [.a .u8 (List.replicate 32 0) 32]), (46, [.i .u64 (Qa (JN cs) 0), .i .u64 (Qa (JN cs) 1), .i .u64 (Qa (JN cs) 2), .i .u64 (Qa (JN cs) 3)]), (47, [.a .u8 (bw (JN cs) 24) 32])] ⟨rfl, rfl, rfl, ⟨rfl, by decide⟩, trivial⟩ (by repeat' (first | exact True.intro | refine And.intro ?_ ?_ | exact Qb1 (QgY (JN cs) 23) | exact rfl | exact Ug _ _)) ?_
  refine S.go true rfl (by repeat' (first | exact True.intro | refine And.intro ?_ ?_ | decide | exact rfl)) ?_
  refine S.condT rfl (by decide) ?_
  refine S.go true rfl (by repeat' (first | exact True.intro | refine And.intro ?_ ?_ | decide | exact rfl)) ?_
  refine S.next ?_
  refine S.same 48 [(2, .p 1 0), (6, .p 46 0), (7, .p 47 0), (83, .i .i64 25)] [(1, [.a .u8 (List.replicate 32 0) 32]), (46, [.i .u64 (Qa (JN cs) 0), .i .u64 (Qa (JN cs) 1), .i .u64 (Qa (JN cs) 2), .i .u64 (Qa (JN cs) 3)]), (47, [.a .u8 (bw (JN cs) 25) 32])] ⟨rfl, rfl, rfl, ⟨rfl, by decide⟩, trivial⟩ (by repeat' (first | exact True.intro | refine And.intro ?_ ?_ | exact Qb1 (QgY (JN cs) 24) | exact rfl | exact Ug _ _)) ?_
  refine S.go true rfl (by repeat' (first | exact True.intro | refine And.intro ?_ ?_ | decide | exact rfl)) ?_
  refine S.condT rfl (by decide) ?_
  refine S.go true rfl (by repeat' (first | exact True.intro | refine And.intro ?_ ?_ | decide | exact rfl)) ?_
  refine S.next ?_
  refine S.same 48 [(2, .p 1 0), (6, .p 46 0), (7, .p 47 0), (83, .i .i64 26)] [(1, [.a .u8 (List.replicate 32 0) 32]), (46, [.i .u64 (Qa (JN cs) 0), .i .u64 (Qa (JN cs) 1), .i .u64 (Qa (JN cs) 2), .i .u64 (Qa (JN cs) 3)]), (47, [.a .u8 (bw (JN cs) 26) 32])] ⟨rfl, rfl, rfl, ⟨rfl, by decide⟩, trivial⟩ (by repeat' (first | exact True.intro | refine And.intro ?_ ?_ | exact Qb1 (QgY (JN cs) 25) | exact rfl | exact Ug _ _)) ?_
  refine S.go true rfl (by repeat' (first | exact True.intro | refine And.intro ?_ ?_ | decide | exact rfl)) ?_
  refine S.condT rfl (by decide) ?_
  refine S.go true rfl (by repeat' (first | exact True.intro | refine And.intro ?_ ?_ | decide | exact rfl)) ?_
  refine S.next ?_
  refine S.same 48 [(2, .p 1 0), (6, .p 46 0), (7, .p 47 0), (83, .i .i64 27)] [(1, [.a .u8 (List.replicate 32 0) 32]), (46, [.i .u64 (Qa (JN cs) 0), .i .u64 (Qa (JN cs) 1), .i .u64 (Qa (JN cs) 2), .i .u64 (Qa (JN cs) 3)]), (47, [.a .u8 (bw (JN cs) 27) 32])] ⟨rfl, rfl, rfl, ⟨rfl, by decide⟩, trivial⟩ (by repeat' (first | exact True.intro | refine And.intro ?_ ?_ | exact Qb1 (QgY (JN cs) 26) | exact rfl | exact Ug _ _)) ?_
  refine S.go true rfl (by repeat' (first | exact True.intro | refine And.intro ?_ ?_ | decide | exact rfl)) ?_
  refine S.condT rfl (by decide) ?_
  refine S.go true rfl (by repeat' (first | exact True.intro | refine And.intro ?_ ?_ | decide | exact rfl)) ?_
  refine S.next ?_
  refine S.same 48 [(2, .p 1 0), (6, .p 46 0), (7, .p 47 0), (83, .i .i64 28)] [(1, [.a .u8 (List.replicate 32 0) 32]), (46, [.i .u64 (Qa (JN cs) 0), .i .u64 (Qa (JN cs) 1), .i .u64 (Qa (JN cs) 2), .i .u64 (Qa (JN cs) 3)]), (47, [.a .u8 (bw (JN cs) 28) 32])] ⟨rfl, rfl, rfl, ⟨rfl, by decide⟩, trivial⟩ (by repeat' (first | exact True.intro | refine And.intro ?_ ?_ | exact Qb1 (QgY (JN cs) 27) | exact rfl | exact Ug _ _)) ?_
  refine S.go true rfl (by repeat' (first | exact True.intro | refine And.intro ?_ ?_ | decide | exact rfl)) ?_
  refine S.condT rfl (by decide) ?_
  refine S.go true rfl (by repeat' (first | exact True.intro | refine And.intro ?_ ?_ | decide | exact rfl)) ?_
  refine S.next ?_
  refine S.same 48 [(2, .p 1 0), (6, .p 46 0), (7, .p 47 0), (83, .i .i64 29)] [(1, [.a .u8 (List.replicate 32 0) 32]), (46, [.i .u64 (Qa (JN cs) 0), .i .u64 (Qa (JN cs) 1), .i .u64 (Qa (JN cs) 2), .i .u64 (Qa (JN cs) 3)]), (47, [.a .u8 (bw (JN cs) 29) 32])] ⟨rfl, rfl, rfl, ⟨rfl, by decide⟩, trivial⟩ (by repeat' (first | exact True.intro | refine And.intro ?_ ?_ | exact Qb1 (QgY (JN cs) 28) | exact rfl | exact Ug _ _)) ?_
  refine S.go true rfl (by repeat' (first | exact True.intro | refine And.intro ?_ ?_ | decide | exact rfl)) ?_
  refine S.condT rfl (by decide) ?_
  refine S.go true rfl (by repeat' (first | exact True.intro | refine And.intro ?_ ?_ | decide | exact rfl)) ?_
  refine S.next ?_
  refine S.same 48 [(2, .p 1 0), (6, .p 46 0), (7, .p 47 0), (83, .i .i64 30)] [(1, [.a .u8 (List.replicate 32 0) 32]), (46, [.i .u64 (Qa (JN cs) 0), .i .u64 (Qa (JN cs) 1), .i .u64 (Qa (JN cs) 2), .i .u64 (Qa (JN cs) 3)]), (47, [.a .u8 (bw (JN cs) 30) 32])] ⟨rfl, rfl, rfl, ⟨rfl, by decide⟩, trivial⟩ (by repeat' (first | exact True.intro | refine And.intro ?_ ?_ | exact Qb1 (QgY (JN cs) 29) | exact rfl | exact Ug _ _)) ?_
  refine S.go true rfl (by repeat' (first | exact True.intro | refine And.intro ?_ ?_ | decide | exact rfl)) ?_
  refine S.condT rfl (by decide) ?_
  refine S.go true rfl (by repeat' (first | exact True.intro | refine And.intro ?_ ?_ | decide | exact rfl)) ?_
  refine S.next ?_
  refine S.same 48 [(2, .p 1 0), (6, .p 46 0), (7, .p 47 0), (83, .i .i64 31)] [(1, [.a .u8 (List.replicate 32 0) 32]), (46, [.i .u64 (Qa (JN cs) 0), .i .u64 (Qa (JN cs) 1), .i .u64 (Qa (JN cs) 2), .i .u64 (Qa (JN cs) 3)]), (47, [.a .u8 (bw (JN cs) 31) 32])] ⟨rfl, rfl, rfl, ⟨rfl, by decide⟩, trivial⟩ (by repeat' (first | exact True.intro | refine And.intro ?_ ?_ | exact Qb1 (QgY (JN cs) 30) | exact rfl | exact Ug _ _)) ?_
  refine S.go true rfl (by repeat' (first | exact True.intro | refine And.intro ?_ ?_ | decide | exact rfl)) ?_
  refine S.condT rfl (by decide) ?_
  refine S.go true rfl (by repeat' (first | exact True.intro | refine And.intro ?_ ?_ | decide | exact rfl)) ?_
  refine S.next ?_
  refine S.same 48 [(2, .p 1 0), (6, .p 46 0), (7, .p 47 0), (83, .i .i64 32)] [(1, [.a .u8 (List.replicate 32 0) 32]), (46, [.i .u64 (Qa (JN cs) 0), .i .u64 (Qa (JN cs) 1), .i .u64 (Qa (JN cs) 2), .i .u64 (Qa (JN cs) 3)]), (47, [.a .u8 (bw (JN cs) 32) 32])] ⟨rfl, rfl, rfl, ⟨rfl, by decide⟩, trivial⟩ (by repeat' (first | exact True.intro | refine And.intro ?_ ?_ | exact Qb1 (QgY (JN cs) 31) | exact rfl | exact Ug _ _)) ?_
  refine S.go true rfl (by repeat' (first | exact True.intro | refine And.intro ?_ ?_ | decide | exact rfl)) ?_
  refine S.condF rfl (by decide) ?_
  refine S.go true rfl (by repeat' (first | exact True.intro | refine And.intro ?_ ?_ | exact Ug _ _ | exact rfl)) ?_
  refine S.retv rfl rfl rfl rfl ?_
  rw [<- Qgm]
  rfl
theorem VM {x : List Int} {u : Int} (hx : QA x u) : PV Tryd.prog gT 70 [lm x] (.a .u8 (QD u) 32) := by
  have h := QdY x hx.words
  have hc := Xy x hx.words
  have e : Zj (JN (Qi x)) 32 = QD u := by
    rw [QcV hc.small, hc.val, hx.val]
    rfl
  rwa [e] at h
theorem FD {x y : List Int} {u v : Int} (hx : QA x u) (hy : QA y v) : PV Tryd.prog gT 90 [lm x, lm y] (.c (u = v) inferInstance) := by
  refine PV.mk' Tryd.func90 rfl rfl rfl rfl fun w L hL hG => ?_
  have h1 := VM hx
  have h2 := VM hy
  refine S.enter Qm [lm x, lm y] gT Tryd.func90 rfl rfl rfl (fun _ => rfl) hL hG ?_
  refine S.g false rfl ?_
  refine S.drp false [(1, .a .u8 (QD u) 32), (3, .a .u8 (QD v) 32)] rfl rfl rfl ?_ ?_
  . refine S.g false rfl ?_
    refine S.retv rfl rfl rfl rfl ?_
    simp only [SV.den]
    rw [D3 (E5 hx) (E5 hy)]
  . repeat' (first | exact True.intro | refine And.intro ?_ ?_ | assumption | exact Qu _)
theorem QbA {x : List Int} {u : Int} (hx : QA x u) : PV Tryd.prog gT 71 [lm x] (.c (u % 2 = 1) inferInstance) := by
  refine PV.mk' Tryd.func71 rfl rfl rfl rfl fun w L hL hG => ?_
  refine S.enter Qm [lm x] gT Tryd.func71 rfl rfl rfl (fun _ => rfl) hL hG ?_
  refine S.g false rfl ?_
  refine S.cv rfl rfl rfl rfl rfl rfl (VM hx) ?_
  refine S.go false rfl (by repeat' (first | exact True.intro | refine And.intro ?_ ?_ | exact Qu _ | decide)) ?_
  refine S.retv rfl rfl rfl rfl ?_
  have e : Qa (QD u) 0 = u % 256 := by rw [VT u 0 (by omega)]; simp
  have e2 : (QD u).getD (Int.toNat 0) 0 = u % 256 := by rw [<- e]; rfl
  simp only [SV.den]
  rw [e2, U2 (by omega)]
  congr 1
  exact decide_eq_decide.2 (by omega)
def lmC (x : List Int) : List SV := [.i .u64 (Qa x 0), .i .u64 (Qa x 1), .i .u64 (Qa x 2), .i .u64 (Qa x 3), .i .u64 (Qa x 4)]
def lm0 : List SV := [.i .u64 0, .i .u64 0, .i .u64 0, .i .u64 0, .i .u64 0]
theorem Qcx {nb : List Int} (hn : Qb nb) {k : Nat} (hk : k < 256) : bits .and .u8 (nb.getD (Int.toNat ((255 - (k : Int)) / 8)) 0 / 2 ^ Int.toNat ((255 - (k : Int)) % 8)) 1 = Ui nb (255 - k) := by
  have e1 : Int.toNat ((255 - (k : Int)) / 8) = (255 - k) / 8 := by omega
  have e2 : Int.toNat ((255 - (k : Int)) % 8) = (255 - k) % 8 := by omega
  rw [e1, e2]
  have e3 : nb.getD ((255 - k) / 8) 0 = Qa nb ((255 - k) / 8) := by simp [Qa]
  rw [e3, U2 (JD (hn.at _) _)]
  rfl
set_option maxHeartbeats 1000000 in
theorem EF {x nb : List Int} {u : Int} (hx : QA x u) (hn : Qb nb) (hl : nb.length = 32) : PV Tryd.prog gT 97 [lm x, .a .u8 nb 32] (lm (X4 x nb 256)) := by
  refine PV.mk' Tryd.func97 rfl rfl rfl rfl fun w L hL hG => ?_
  have hp := U8 x nb u hx hn
  refine S.enter Qm [lm x, .a .u8 nb 32] gT Tryd.func97 rfl rfl rfl (fun _ => rfl) hL hG ?_
  refine S.go false rfl (by repeat' (first | exact True.intro | refine And.intro ?_ ?_ | assumption | omega | exact rfl)) ?_
  refine S.cv rfl rfl rfl rfl rfl rfl (UG 1 (by omega)) ?_
  refine S.g false rfl ?_
  refine S.loop [2, 3, 4, 5] (fun k : Nat => [(9, .i .i64 (k : Int))]) (fun k => [(0, lmC x), (1, [.a .u8 nb 32]), (2, lm0), (3, lmC (X4 x nb k))]) (fun _ => []) (fun k => k <= 256) (fun k => 256 - k) 0 rfl (fun _ => rfl) (fun _ => rfl) rfl ⟨⟨rfl, rfl⟩, trivial⟩ (by repeat' (first | exact True.intro | refine And.intro ?_ ?_ | assumption | exact rfl)) (fun _ _ _ => trivial) (by omega) fun J k hk again => ?_
  have hk' : k <= 256 := hk
  refine S.g false rfl ?_
  refine S.cond rfl (fun c => ?_) (fun c => ?_)
  . have c' : k < 256 := by omega
    have hr := hp k hk'
    refine S.g false rfl ?_
    refine S.cv rfl rfl rfl rfl rfl rfl (XA (X4 x nb k) (X4 x nb k) hr.small hr.small) ?_
    refine S.go false rfl (by repeat' (first | exact True.intro | refine And.intro ?_ ?_ | assumption | omega | (show _ < (32 : Int); omega) | exact rfl)) ?_
    refine S.cond rfl (fun b => ?_) (fun b => ?_)
    . have b' : Ui nb (255 - k) = 1 := by rw [<- Qcx hn c']; exact b
      have e : X4 x nb (k + 1) = Qi (QO (Qi (QO (X4 x nb k) (X4 x nb k))) x) := by rw [X4, if_pos b']
      refine S.g false rfl ?_
      refine S.cv rfl rfl rfl rfl rfl rfl (XA (Qi (QO (X4 x nb k) (X4 x nb k))) x (QU hr hr).small hx.small) ?_
      refine S.g false rfl ?_
      refine S.again (again (k + 1) (show k + 1 <= 256 by omega) (show 256 - (k + 1) < 256 - k by omega)) ⟨⟨rfl, by omega⟩, rfl, rfl, rfl, rfl, trivial⟩ ?_ rfl rfl (fun x hx => hx) rfl (fun ρ W h => h.hs)
      repeat' (first | exact True.intro | refine And.intro ?_ ?_ | assumption | (rw [e]; done) | exact rfl)
    . have b' : ¬ Ui nb (255 - k) = 1 := by rw [<- Qcx hn c']; exact b
      have e : X4 x nb (k + 1) = Qi (QO (X4 x nb k) (X4 x nb k)) := by rw [X4, if_neg b']
      refine S.g false rfl ?_
      refine S.again (again (k + 1) (show k + 1 <= 256 by omega) (show 256 - (k + 1) < 256 - k by omega)) ⟨⟨rfl, by omega⟩, rfl, rfl, rfl, rfl, trivial⟩ ?_ rfl rfl (fun x hx => hx) rfl (fun ρ W h => h.hs)
      repeat' (first | exact True.intro | refine And.intro ?_ ?_ | assumption | (rw [e]; done) | exact rfl)
  . obtain rfl : k = 256 := by omega
    refine S.g false rfl ?_
    exact S.retv rfl rfl rfl rfl rfl
def fill (k : Nat) : List Int := List.replicate k 255 ++ List.replicate (32 - k) 0
theorem Qfg : ∀ k, k < 32 -> (fill k).set k 255 = fill (k + 1) := by decide +kernel
theorem HH {k : Nat} (h : k <= 32) : (fill k).length = 32 := by simp [fill]; omega
theorem Qep (lo hi : Int) : PV Tryd.prog gT 98 [.i .u8 lo, .i .u8 hi] (.a .u8 (Vc lo hi) 32) := by
  refine PV.mk' Tryd.func98 rfl rfl rfl rfl fun w L hL hG => ?_
  refine S.enter Qm [.i .u8 lo, .i .u8 hi] gT Tryd.func98 rfl rfl rfl (fun _ => rfl) hL hG ?_
  refine S.g false rfl ?_
  refine S.loop [0, 1, 4, 5] (fun k : Nat => [(7, .i .i64 (k : Int))]) (fun k => [(0, [.a .u8 (List.replicate 32 0) 32]), (1, [.a .u8 (fill k) 32])]) (fun _ => []) (fun k => k <= 32) (fun k => 32 - k) 0 rfl (fun _ => rfl) (fun _ => rfl) rfl ⟨⟨rfl, rfl⟩, trivial⟩ (by repeat' (first | exact True.intro | refine And.intro ?_ ?_ | assumption | exact rfl)) (fun _ _ _ => trivial) (by omega) fun J k hk again => ?_
  have hk' : k <= 32 := hk
  refine S.g false rfl ?_
  refine S.cond rfl (fun c => ?_) (fun c => ?_)
  . have c' : k < 32 := by omega
    refine S.go false rfl (by repeat' (first | exact True.intro | exact HH hk' | refine And.intro ?_ ?_ | omega | (show _ < (32 : Int); omega) | exact rfl)) ?_
    refine S.again (again (k + 1) (show k + 1 <= 32 by omega) (show 32 - (k + 1) < 32 - k by omega)) ⟨⟨rfl, by omega⟩, ⟨rfl, rfl⟩, ⟨rfl, rfl⟩, rfl, rfl, trivial⟩ ?_ rfl rfl (fun x hx => hx) rfl (fun ρ W h => h.hs)
    repeat' (first | exact True.intro | refine And.intro ?_ ?_ | assumption | exact Qb1 (Qfg k c') | exact HH (show k + 1 <= 32 by omega) | exact rfl)
  . obtain rfl : k = 32 := by omega
    refine S.g false rfl ?_
    exact S.retv rfl rfl rfl rfl rfl
/-- An inverse. -/
def QdD (u : Int) : Int := u ^ (Qh (Vc 235 127) 32).toNat % pV
theorem Kp {x : List Int} {u : Int} (hx : QA x u) : ∃ z, QA z (QdD u) /\ PV Tryd.prog gT 69 [lm x] (lm z) := by
  refine ⟨X4 x (Vc 235 127) 256, Kb hx Hc, ?_⟩
  have h1 := Qep 235 127
  have h2 := EF hx Hc rfl
  generalize X4 x (Vc 235 127) 256 = z at *
  refine PV.mk' Tryd.func69 rfl rfl rfl rfl fun w L hL hG => ?_
  refine S.enter Qm [lm x] gT Tryd.func69 rfl rfl rfl (fun _ => rfl) hL hG ?_
  refine S.g false rfl ?_
  refine S.drp false [(1, .a .u8 (Vc 235 127) 32), (2, lm z)] rfl rfl rfl ?_ ?_
  . refine S.g false rfl ?_
    exact S.retv rfl rfl rfl rfl rfl
  . repeat' (first | exact True.intro | refine And.intro ?_ ?_ | assumption)
end Go.Proofs.YtbiboamaigedjaaDoor
namespace Go.Proofs.YtbiboamaigedjaaDoor
open Go.RowKit
set_option linter.unusedVariables false
set_option linter.constructorNameAsVariable false
set_option linter.unusedSimpArgs false
section
variable {c : Cx} {ks ks' : List It} {f f' : SF} {m m' : SM} {d : SD} {n n' : Nat} {Γ : List Qq} {cs : List Prop}
/-- So many steps. -/
theorem S.gn (k : Nat) (md : Bool) (h : run c.T md c.N d k ks f m n [] = (ks', f', m', n', cs)) (kk : S c ks' f' m' d n' Γ) (hc : QK cs := by repeat' (first | exact True.intro | exact fun h => h | refine And.intro ?_ ?_ | omega | exact rfl | (simp only [Int.reduceToNat, Int.reducePow]; omega) | intro _)) : S c ks f m d n Γ := XJ h hc kk
theorem Qgx {N : Nat} {a : Act} {ρ : Qs} {t : Nat} {v v' : SV} (ha : Fr N a (Qo ρ f)) (hl : lk f t = some v) (he : v.den ρ = v'.den ρ) : Fr N a (Qo ρ ((t, v') :: f)) := by
  refine ⟨ha.1, fun t' u hu => ?_⟩
  unfold Qo Zw at hu
  cases hk : Nat.beq t t' with
  | false => rw [hk] at hu; exact ha.2 t' u hu
  | true =>
    rw [hk] at hu
    cases hu
    have e := Nat.eq_of_beq_eq_true hk
    subst e
    rw [ha.2 t _ (XD hl), he]
theorem S.rd (t : Nat) {v : SV} (v' : SV) (hl : lk f t = some v) (he : ∀ ρ, v.den ρ = v'.den ρ) (k : S c ks ((t, v') :: f) m d n Γ) : S c ks f m d n Γ := fun ρ a w ha hW => k ρ a w (Qgx ha hl (he ρ)) hW
theorem DP {ρ : Qs} {L0 : List Nat} {w0 w : World} (h : WM ρ L0 w0 m d n Γ w) {k : Nat} {c0 c' : Cl} (hk : Xm m k = some c0) (he : Qd ρ c0 = Qd ρ c') (hok : XW c') : WM ρ L0 w0 (Vb k c' m) d n Γ w := by
  have hkm := XE hk
  have hown : Xq ρ (Vb k c' m) L0 = Xq ρ m L0 := by unfold Xq; rw [KV]
  refine ⟨fun x hx => ?_, fun x hx => ?_, by rw [KV]; exact h.nod, fun x hx => ?_, h.bel, fun x hx => by rw [hown]; exact h.dat x hx, h.dky, h.ll, by rw [hown]; exact h.hs⟩
  . rcases Ze (Xi h.nod) hx with ⟨e1, e2⟩ | ⟨h1, h2⟩
    . rw [e1, e2, <- he]; exact ⟨(h.mem _ hkm).1, hok⟩
    . exact h.mem x h1
  . rcases Ze (Xi h.nod) hx with ⟨e1, e2⟩ | ⟨h1, h2⟩
    . rw [e1]; exact h.key _ hkm
    . exact h.key x h1
  . rcases Ze (Xi h.nod) hx with ⟨e1, e2⟩ | ⟨h1, h2⟩
    . rw [e1]; exact h.low _ hkm
    . exact h.low x h1
/-- A block's cells, told anew. -/
theorem S.recell (k : Nat) {c0 : Cl} (c' : Cl) (hk : Xm m k = some c0) (he : ∀ ρ, Qd ρ c0 = Qd ρ c') (hok : XW c') (hm : Vb k c' m = m') (kk : S c ks f m' d n Γ) : S c ks f m d n Γ := fun ρ a w ha hW => kk ρ a w ha (by rw [<- hm]; exact DP hW hk (he ρ) hok)
theorem Er {n : Nat} : ∀ {l l' : List SV}, Zt n l = true -> Zt n l' = true -> Zt n (l ++ l') = true
  | [], l', _, h => h
  | x :: l, l', h, h' => by
    unfold Zt at h
    split at h
    . rename_i hx
      show Zt n (x :: (l ++ l')) = true
      unfold Zt
      rw [hx]
      exact Er h h'
    . cases h
theorem Ep {n : Nat} {l : List SV} (h : Zt n l = true) : ∀ k : Nat, Zt n (List.replicate k l).flatten = true
  | 0 => rfl
  | k + 1 => Er h (Ep h k)
/-- A new slice, of so many elements of nothing. -/
theorem S.make {ops : Array Oper} {o : Oper} {r : List Oper} {t s bytes : Nat} {ty : Nat} {x y : Operand} {K : IntKind} {z : Int} {i j : TI} {zl : List SV} (k : Nat) (ho : o.op = .makeSlice ty x y) (hd : o.dst = some t) (hx : unN (ZL f x) = some (.i K z)) (hy : unN (ZL f y) = some (.i K z)) (ht : apB c.P ty s bytes = true) (hi : c.T.get ty = some i) (hy2 : Nat.beq i.y 2 = true) (hj : c.T.get i.e = some j) (hz : j.z = some zl) (hk : z = (k : Int)) (hs : 0 < s) (hb : bytes * k <= 140737488355328)
    (kk : S c (.o ops r :: ks) ((t, .y n 0 k k) :: f) ((n, (List.replicate k zl).flatten) :: m) d (n + 1) Γ) (hf : Dy n f = true := by rfl) (hm : JW n m = true := by rfl) (hdd : JM n d = true := by rfl) (hg : Vk ops o f = some .on := by rfl) (hlt : Nat.blt t c.N = true := by rfl) (hml : k <= maxLen := by (unfold maxLen; omega)) : S c (.o ops (o :: r) :: ks) f m d n Γ := fun ρ a w ha hW => by
  subst hk
  have hx' := U0 (ρ := ρ) hx
  have hy' := U0 (ρ := ρ) hy
  simp only [SV.den] at hx' hy'
  have hwt := (Zy (ρ := ρ)).1 hg
  obtain ⟨z1, z2, Z, z3, z4⟩ := TT.zero c.ok hj hz
  obtain ⟨ti, hti, hsz⟩ := YC (TT.size c.ok hj)
  rw [hti] at z3
  simp only [Option.bind_some] at z3
  have hu := TT.slc c.ok hi hy2
  refine (WL.get (Qcb (r := Qd ρ zl) ho ht (fun e he => by
    rw [hu] at he
    cases he
    rw [hti]
    simp only [Option.bind_some, z3, Option.map_some, z4 ρ]) hx' hy' (by omega) hs (by omega) (by omega) hwt) hd (decide_eq_true (Qw hlt)) (Q := Kn c ks) (rest := r) fun u W hu => ?_) a ha
  obtain ⟨rfl, _, hB, h2, h3⟩ := hu
  rw [Int.toNat_natCast] at hB ⊢
  have hW' := hW.new hm hdd (KX z1 k) (Y5 (Nat.zero_le n) _ (Ep z2 k)) (B := w.heap.size) (Nat.le_refl _) h2 (by rw [JA]; exact hB)
  intro a' ha'
  refine kk _ a' W ?_ hW'
  have e : Qo (ρ.setb n w.heap.size) f = Qo ρ f := (XQ (Qs.setb_upto _ _ _) f hf).symm
  show Fr c.N a' ((t, (SV.y n 0 k k).den (ρ.setb n w.heap.size)) :: Qo (ρ.setb n w.heap.size) f)
  rw [e]
  simp only [SV.den, Qs.setb_at]
  exact ha'
/-- A call of a function of values and of what Xq blocks hold. -/
theorem S.cr {G : List Qq} {F : FuncId} {v : SV} {ops : Array Oper} {o : Oper} {r : List Oper} {t : Nat} {g : Operand} {xs : List Operand} {ts : Array TypeId} {caps vs : List SV} {mc : SM} (rk : List Nat)
    (ho : o.op = .call { callee := .value g, args := ⟨xs⟩, argTypes := ts }) (hg : Vk ops o f = some .on) (hF : ZL f g = some (.f F caps)) (hx : Ge f xs = some vs) (hd : o.dst = some t) (hlt : Nat.blt t c.N = true) (hm : Qcq m rk = some mc) (h : PR c.P G F (vs ++ caps) mc v) (k : S c (.o ops r :: ks) ((t, v) :: f) m d n Γ) (hG : ∀ L' W, Hs Γ L' W -> Hs G L' W := by first | exact fun _ _ h => h | exact fun _ _ h => Hs.pre h) : S c (.o ops (o :: r) :: ks) f m d n Γ := by
  obtain ⟨fn, hf, hn, hb⟩ := h.fn
  exact S.call (α := Unit) (sv := fun _ => v) (fs := fun _ => []) (pr := fun _ => True) ho hg hF hx hd hlt hf hn hb (fun ρ w hW => CX.any (h.h ρ w ⟨_, hG _ _ hW.hs⟩ fun x hx => hW.cell (UO hm x hx).2)) (fun _ => h.wv) fun _ _ => by rw [List.append_nil]; exact k
end
/-- A slice that is read: its cells are known from here on. -/
theorem S.slc {c : Cx} {ks : List It} {f : SF} {m : SM} {d : SD} {n : Nat} {Γ : List Qq} (t : Nat) {a0 : Option Addr} {q cap s : Nat} {rs : List (List Value)} (cs : List SV) (hl : lk f t = some (.o a0 q cap)) (hB : ∀ ρ w, WM ρ c.L0 c.w0 m d n Γ w -> GF s (Xq ρ m c.L0) w (.slice a0 q cap) rs) (hcr : rs.flatten = Qd Qt cs) (h0 : 0 < XU cs) (k : S c ks ((t, .z n 0 q cap) :: f) m ((n, cs) :: d) (n + 1) Γ)
    (hok : XW cs := by exact Z5 rfl) (hcs : Zt 0 cs = true := by rfl) (wff : Dy n f = true := by rfl) (wfm : JW n m = true := by rfl) (wfd : JM n d = true := by rfl) : S c ks f m d n Γ := fun ρ a w ha hW => by
  obtain ⟨g0, g1, a1, cap1, g2, g3, g4, g5, g6⟩ := hB ρ w hW
  simp only [Value.slice.injEq] at g2
  obtain ⟨rfl, rfl, rfl⟩ := g2
  have hne : rs ≠ [] := fun e => by
    subst e
    have := congrArg List.length hcr
    rw [QC Qt hok] at this
    simp at this
    omega
  obtain ⟨X, o, rfl, gX, gr⟩ := g6 hne
  rw [hcr] at gr
  have e0 : Qd Qt cs = Qd ρ cs := QW (fun k hk => absurd hk (Nat.not_lt_zero k)) cs hcs
  rw [e0] at gr
  have hD := hW.data (B := (X, o)) wfm wfd (Y5 (Nat.zero_le n) cs hcs) hok h0 gX gr
  refine k (ρ.setd n (X, o)) a w ?_ hD
  have e1 : Qo (ρ.setd n (X, o)) f = Qo ρ f := (XQ (Qs.setd_upto ρ n (X, o)) f wff).symm
  have e2 := XD (ρ := ρ) hl
  simp only [SV.den] at e2
  refine ⟨ha.1, fun t' v hv => ?_⟩
  simp only [Qo, SV.den, Qs.setd_at, Nat.add_zero] at hv
  rw [e1] at hv
  unfold Zw at hv
  cases hk : Nat.beq t t' with
  | false => rw [hk] at hv; exact ha.2 t' v hv
  | true =>
    rw [hk] at hv
    cases hv
    have e := Nat.eq_of_beq_eq_true hk
    subst e
    exact ha.2 t _ e2
/-- Several results that are told by the values alone. -/
theorem S.rett {c : Cx} {ks : List It} {f : SF} {m : SM} {d : SD} {n : Nat} {Γ : List Qq} {rs : List ResultVar} {a b : SV} {vs ws : List SV} {L : List Nat} (hR : c.R = fun v W => ∃ _ : Unit, v = (SV.t ws).den Qt /\ Hs [] L W /\ True) (hr : c.fn.results = ⟨rs⟩) (hv : FJ c.T f m rs = some (a :: b :: vs)) (hw : Zt 0 (a :: b :: vs) = true) (he : Qr Qt (a :: b :: vs) = Qr Qt ws) : S c (.c .ret :: ks) f m d n Γ :=
  S.ret hr hv fun ρ W h => by
    rw [hR]
    refine ⟨(), ?_, trivial, trivial⟩
    show Value.tuple (Qr ρ (a :: b :: vs)).toArray = _
    rw [VH hw ρ Qt, he]
    simp only [SV.den]
theorem Hs.none {Γ : List Qq} {L : List Nat} {w : World} (h : Hs Γ L w) : Hs Γ [] w := h.stp (Dr.refl _ _) fun _ hx => by cases hx
theorem LL.none (w : World) : LL [] w := fun _ hx => by cases hx
theorem PR.mk' {P : Program} {G : List Qq} {F : FuncId} {args : List SV} {mc : SM} {v : SV} {fn : Func} (hf : P.funcs[F]? = some fn) (hn : (fn.name == "runtime.NumGoroutine") = false) (hb : fn.body.isNone = false) (wv : v.wf 0 = true) (h : ∀ ρ w, Hs G [] w -> (∀ x ∈ mc, XZ w (ρ.b x.1) (Qd ρ x.2) /\ XW x.2) -> CX P F (Qr ρ args) w [] (fun _ : Unit => v) (fun _ => []) (fun _ => True)) : PR P G F args mc v := ⟨⟨fn, hf, hn, hb⟩, wv, fun ρ w ⟨_, hG⟩ hm => h ρ w hG.none hm⟩
/-- A block as a slice of rows. -/
theorem XZ.rows {w : World} {B s : Nat} {rows : List (List Value)} (h : XZ w B rows.flatten) (h0 : 0 < s) (hr : ∀ r ∈ rows, r.length = s) (hm : rows.length <= maxLen) : GF s [] w (.slice (some ⟨B, 0, none⟩) rows.length rows.length) rows := by
  have := RwB.part (L := []) (lo := 0) (n := rows.length) (c := rows.length) (o1 := 0) ⟨h0, hr, hm, h⟩ (by simp) (by simp) (Nat.le_refl _) (by omega)
  simpa using this
end Go.Proofs.YtbiboamaigedjaaDoor
namespace Go.Proofs.YtbiboamaigedjaaDoor
open Go.RowKit
set_option linter.unusedVariables false
set_option linter.unusedSimpArgs false
set_option maxRecDepth 8000
set_option maxHeartbeats 2000000

theorem QY (l : List Int) (k : Nat) : l.getD k 0 = Qa l k := by simp [Qa]
theorem Zv {f g : Nat -> Int} {n i : Nat} {v : Int} (hi : i < n) (h1 : ∀ j, j < n -> j ≠ i -> g j = f j) (h2 : g i = v) : ((List.range n).map f).set i v = (List.range n).map g := by
  refine List.ext_getElem (by simp) fun j q1 q2 => ?_
  simp only [List.length_map, List.length_range] at q2
  rw [List.getElem_set]
  split
  . rename_i e; subst e; simp [h2]
  . rename_i e; simp [h1 j (by simpa using q2) (fun e' => e e'.symm)]
/-- The words of which k bytes have been read. -/
def Fj (za : List Int) (n k : Nat) : List Int := (List.range n).map fun j => Qv za j (min 8 (k - 8 * j))
theorem Zp (za : List Int) (n k : Nat) : (Fj za n k).length = n := by simp [Fj]
theorem Hx (za : List Int) (n : Nat) : Fj za n 0 = List.replicate n 0 := by
  unfold Fj
  refine List.ext_getElem (by simp) fun j q1 q2 => ?_
  simp [Qv]
theorem EX (za : List Int) (n : Nat) : Fj za n (8 * n) = Zx za n := by
  unfold Fj Zx
  refine List.map_congr_left fun j hj => ?_
  rw [List.mem_range] at hj
  rw [Nat.min_eq_left (by omega)]
theorem Hy {za : List Int} (hb : Qb za) {n k : Nat} (hk : k < 8 * n) : (Fj za n k).set (Int.toNat ((k : Int) / 8)) (bits .or .u64 ((Fj za n k).getD (Int.toNat ((k : Int) / 8)) 0) (IntKind.u64.wrap (za.getD (Int.toNat (k : Int)) 0 * 2 ^ Int.toNat (8 * ((k : Int) % 8))))) = Fj za n (k + 1) := by
  have e1 : Int.toNat ((k : Int) / 8) = k / 8 := by omega
  have e2 : Int.toNat (8 * ((k : Int) % 8)) = 8 * (k % 8) := by omega
  rw [e1, e2, Int.toNat_natCast, QY, QY]
  have hlt : k / 8 < n := by omega
  have e3 : Qa (Fj za n k) (k / 8) = Qv za (k / 8) (k % 8) := by
    unfold Fj Qa
    rw [List.getElem?_map, List.getElem?_range hlt]
    simp only [Option.map_some, Option.getD_some]
    rw [show min 8 (k - 8 * (k / 8)) = k % 8 by omega]
  rw [e3, EL _ _ _ (by omega) (Vv za hb _ _ (by omega)) (hb.at k)]
  unfold Fj
  refine Zv hlt (fun j hj hne => ?_) ?_
  . congr 1; omega
  . rw [show min 8 (k + 1 - 8 * (k / 8)) = k % 8 + 1 by omega, Qv, show 8 * (k / 8) + k % 8 = k by omega]
theorem G3 {za : List Int} (hb : Qb za) (k : Nat) : 0 <= za.getD k 0 /\ za.getD k 0 < 18446744073709551616 := by
  have := hb.at k
  rw [QY]; omega
theorem EK : PV Tryd.prog gT 30 [] (.a .u64 ZG 4) := by
  have h : PV Tryd.prog gT 30 [] (.g [.i .u64 6346243789798364141, .i .u64 1503914060200516822, .i .u64 0, .i .u64 1152921504606846976]) := by
    refine PV.mk' Tryd.func30 rfl rfl rfl rfl fun w L hL hG => ?_
    refine S.enter Qm [] gT Tryd.func30 rfl rfl rfl (fun _ => rfl) hL hG ?_
    refine S.g false rfl ?_
    exact S.retv rfl rfl rfl rfl rfl
  exact h.res rfl rfl
set_option maxHeartbeats 1000000 in
theorem K8 {za : List Int} (hb : Qb za) (hl : za.length = 32) : PV Tryd.prog gT 28 [.a .u8 za 32] (.a .u64 (Q9 4 (Qh za 32)) 4) := by
  rw [<- EU za hb 4, <- EX za 4]
  refine PV.mk' Tryd.func28 rfl rfl rfl rfl fun w L hL hG => ?_
  refine S.enter Qm [.a .u8 za 32] gT Tryd.func28 rfl rfl rfl (fun _ => rfl) hL hG ?_
  refine S.go false rfl (by repeat' (first | exact True.intro | refine And.intro ?_ ?_ | assumption | omega | (dsimp only; omega) | (simp only [Nat.add_eq, Nat.mul_eq, Nat.sub_eq, SV.wd]; omega) | exact rfl)) ?_
  refine S.recell 2 [.a .u64 (Fj za 4 0) 4] rfl (fun ρ => by rw [Hx]; rfl) ⟨Zp za 4 0, trivial⟩ rfl ?_
  refine S.loop [2, 3, 6] (fun k : Nat => [(7, .i .i64 (k : Int))]) (fun k => [(1, [.i .u64 0, .i .u64 0, .i .u64 0, .i .u64 0]), (2, [.a .u64 (Fj za 4 k) 4])]) (fun _ => []) (fun k => k <= 32) (fun k => 32 - k) 0 rfl (fun _ => rfl) (fun _ => rfl) rfl ⟨⟨rfl, rfl⟩, trivial⟩ (by repeat' (first | exact True.intro | refine And.intro ?_ ?_ | exact Zp za 4 0 | exact rfl)) (fun _ _ _ => trivial) (by omega) fun J k hk again => ?_
  have hk' : k <= 32 := hk
  have hlen := Zp za 4 k
  have hlen' := Zp za 4 (k + 1)
  refine S.g false rfl ?_
  refine S.cond rfl (fun c => ?_) (fun c => ?_)
  . have c' : k < 32 := by omega
    have hr := G3 hb (Int.toNat (k : Int))
    refine S.go false rfl (by repeat' (first | exact True.intro | refine And.intro ?_ ?_ | assumption | omega | (dsimp only; omega) | (simp only [Nat.add_eq, Nat.mul_eq, Nat.sub_eq, SV.wd]; omega) | exact rfl)) ?_
    refine S.dr0 false rfl rfl rfl ?_ (by repeat' (first | exact True.intro | refine And.intro ?_ ?_ | assumption | omega | (dsimp only; omega) | (simp only [Nat.add_eq, Nat.mul_eq, Nat.sub_eq, SV.wd]; omega) | exact rfl))
    refine S.g false rfl ?_
    refine S.again (again (k + 1) (show k + 1 <= 32 by omega) (show 32 - (k + 1) < 32 - k by omega)) ⟨⟨rfl, by omega⟩, rfl, rfl, rfl, trivial⟩ ?_ rfl rfl (fun x hx => hx) rfl (fun ρ W h => h.hs)
    repeat' (first | exact True.intro | refine And.intro ?_ ?_ | exact congrArg (fun z => SV.a .u64 z 4) (Hy hb (n := 4) (by omega)) | assumption | exact rfl)
  . obtain rfl : k = 32 := by omega
    refine S.go false rfl (by repeat' (first | exact True.intro | refine And.intro ?_ ?_ | assumption | omega | (dsimp only; omega) | (simp only [Nat.add_eq, Nat.mul_eq, Nat.sub_eq, SV.wd]; omega) | exact rfl)) ?_
    exact S.retv rfl rfl rfl rfl rfl
/-- Qb of words, as far as they have been told. -/
def btW (zs : List Int) (k : Nat) : List Int := (List.range 32).map fun i => if i < k then UZ zs i else 0
theorem UQ (zs : List Int) (k : Nat) : (btW zs k).length = 32 := by simp [btW]
theorem Qcu (zs : List Int) : btW zs 0 = List.replicate 32 0 := by
  unfold btW
  refine List.ext_getElem (by simp) fun j q1 q2 => ?_
  simp only [List.getElem_map, List.getElem_range, Nat.not_lt_zero, if_false, List.getElem_replicate]
theorem Qd1 (zs : List Int) : btW zs 32 = Zj zs 32 := by
  unfold btW Zj
  refine List.map_congr_left fun j hj => ?_
  rw [List.mem_range] at hj
  rw [if_pos hj]
theorem Qcv {zs : List Int} {k : Nat} (hk : k < 32) : (btW zs k).set (Int.toNat (k : Int)) (IntKind.u8.wrap (zs.getD (Int.toNat ((k : Int) / 8)) 0 / 2 ^ Int.toNat (8 * ((k : Int) % 8)))) = btW zs (k + 1) := by
  have e1 : Int.toNat ((k : Int) / 8) = k / 8 := by omega
  have e2 : Int.toNat (8 * ((k : Int) % 8)) = 8 * (k % 8) := by omega
  rw [e1, e2, Int.toNat_natCast, QY]
  refine Zv hk (fun j hj hne => ?_) ?_
  . by_cases h : j < k
    . rw [if_pos (by omega), if_pos h]
    . rw [if_neg (by omega), if_neg h]
  . rw [if_pos (by omega)]
    unfold UZ
    rw [IntKind.wrap_u8']
set_option maxHeartbeats 1000000 in
theorem Dh (v : Int) : PV Tryd.prog gT 41 [.a .u64 (Q9 4 v) 4] (.a .u8 (QD v) 32) := by
  have hv : QD v = btW (Q9 4 v) 32 := (Qd1 _).symm
  rw [hv]
  have hnl := QH 4 v
  generalize Q9 4 v = zs at *
  refine PV.mk' Tryd.func41 rfl rfl rfl rfl fun w L hL hG => ?_
  refine S.enter Qm [.a .u64 zs 4] gT Tryd.func41 rfl rfl rfl (fun _ => rfl) hL hG ?_
  refine S.go false rfl (by repeat' (first | exact True.intro | refine And.intro ?_ ?_ | assumption | omega | (dsimp only; omega) | (simp only [Nat.add_eq, Nat.mul_eq, Nat.sub_eq, SV.wd]; omega) | exact rfl)) ?_
  refine S.recell 2 [.a .u8 (btW zs 0) 32] rfl (fun ρ => by rw [Qcu]) ⟨UQ zs 0, trivial⟩ rfl ?_
  refine S.loop [1, 2, 3] (fun k : Nat => [(5, .i .i64 (k : Int))]) (fun k => [(0, [.a .u64 zs 4]), (1, [.a .u8 (List.replicate 32 0) 32]), (2, [.a .u8 (btW zs k) 32])]) (fun _ => []) (fun k => k <= 32) (fun k => 32 - k) 0 rfl (fun _ => rfl) (fun _ => rfl) rfl ⟨⟨rfl, rfl⟩, trivial⟩ (by repeat' (first | exact True.intro | refine And.intro ?_ ?_ | exact UQ zs 0 | assumption | exact rfl)) (fun _ _ _ => trivial) (by omega) fun J k hk again => ?_
  have hk' : k <= 32 := hk
  have hlen := UQ zs k
  have hlen' := UQ zs (k + 1)
  refine S.g false rfl ?_
  refine S.cond rfl (fun c => ?_) (fun c => ?_)
  . have c' : k < 32 := by omega
    refine S.gn 18 false rfl ?_ (by repeat' (first | exact True.intro | refine And.intro ?_ ?_ | assumption | omega | (dsimp only; omega) | (simp only [Nat.add_eq, Nat.mul_eq, Nat.sub_eq, SV.wd]; omega) | exact rfl))
    refine S.gn 1 true rfl ?_ (by repeat' (first | exact True.intro | refine And.intro ?_ ?_ | assumption | omega | (dsimp only; omega) | (simp only [Nat.add_eq, Nat.mul_eq, Nat.sub_eq, SV.wd]; omega) | exact rfl))
    refine S.g false rfl ?_
    refine S.again (again (k + 1) (show k + 1 <= 32 by omega) (show 32 - (k + 1) < 32 - k by omega)) ⟨⟨rfl, by omega⟩, rfl, rfl, rfl, trivial⟩ ?_ rfl rfl (fun x hx => hx) rfl (fun ρ W h => h.hs)
    repeat' (first | exact True.intro | refine And.intro ?_ ?_ | exact congrArg (fun z => SV.a .u8 z 32) (Qcv c') | assumption | exact rfl)
  . obtain rfl : k = 32 := by omega
    refine S.go false rfl (by repeat' (first | exact True.intro | refine And.intro ?_ ?_ | assumption | omega | (dsimp only; omega) | (simp only [Nat.add_eq, Nat.mul_eq, Nat.sub_eq, SV.wd]; omega) | exact rfl)) ?_
    exact S.retv rfl rfl rfl rfl rfl
theorem Qc2 (x y b : Int) (hx : 0 <= x) (hy : 0 <= y) (hy1 : y < 18446744073709551616) (hb0 : 0 <= b) (hb : b <= 1) : PE Tryd.prog 60 [.i .u64 x, .i .u64 y, .i .u64 b] (.t [.i .u64 ((x - y - b) % 18446744073709551616), .i .u64 (bor x y b)]) := ⟨rfl, rfl, fun w => by
  show (callFunc 60 #[.int .u64 x, .int .u64 y, .int .u64 b]).run Tryd.prog w = _
  obtain ⟨x, rfl⟩ := Int.eq_ofNat_of_zero_le hx
  obtain ⟨y, rfl⟩ := Int.eq_ofNat_of_zero_le hy
  obtain ⟨b, rfl⟩ := Int.eq_ofNat_of_zero_le hb0
  have e1 : (((x + 18446744073709551616 - y - b) % 18446744073709551616 : Nat) : Int) = ((x : Int) - y - b) % 18446744073709551616 := by omega
  have e2 : ((if x < y + b then 1 else 0 : Nat) : Int) = bor x y b := by unfold bor; split <;> split <;> omega
  rw [<- e1, <- e2, run_callFunc_extern Tryd.func60 (by kernel_rfl) (by kernel_rfl) (by kernel_rfl) (e := sub64Entry) (by kernel_rfl), run_sub64 x y b (by omega)]
  rfl⟩
/-- A difference, as far as it has been reckoned. -/
def sbW (xs ys : List Int) (k : Nat) : List Int := (List.range 4).map fun j => if j < k then Fu xs ys j else 0
theorem UH (xs ys : List Int) (k : Nat) : (sbW xs ys k).length = 4 := by simp [sbW]
theorem Qda (xs ys : List Int) : sbW xs ys 4 = ZD xs ys 4 := by
  unfold sbW ZD
  refine List.map_congr_left fun j hj => ?_
  rw [List.mem_range] at hj
  rw [if_pos hj]
theorem QaQ {xs ys : List Int} {k : Nat} (hk : k < 4) : (sbW xs ys k).set (Int.toNat (k : Int)) ((xs.getD (Int.toNat (k : Int)) 0 - ys.getD (Int.toNat (k : Int)) 0 - UR xs ys k) % 18446744073709551616) = sbW xs ys (k + 1) := by
  rw [Int.toNat_natCast, QY, QY]
  refine Zv hk (fun j hj hne => ?_) ?_
  . by_cases h : j < k
    . rw [if_pos (by omega), if_pos h]
    . rw [if_neg (by omega), if_neg h]
  . rw [if_pos (by omega)]
    rfl
set_option maxHeartbeats 1000000 in
theorem QbS {xs ys : List Int} (hx : Qp xs) (hy : Qp ys) (hl : xs.length = 4) (hm : ys.length = 4) : PV Tryd.prog gT 29 [.a .u64 xs 4, .a .u64 ys 4] (.t [.a .u64 (ZD xs ys 4) 4, .i .u64 (UR xs ys 4)]) := by
  rw [<- Qda]
  refine PV.mk' Tryd.func29 rfl rfl rfl rfl fun w L hL hG => ?_
  refine S.enter Qm [.a .u64 xs 4, .a .u64 ys 4] gT Tryd.func29 rfl rfl rfl (fun _ => rfl) hL hG ?_
  refine S.go false rfl (by repeat' (first | exact True.intro | refine And.intro ?_ ?_ | assumption | omega | (dsimp only; omega) | (simp only [Nat.add_eq, Nat.mul_eq, Nat.sub_eq, SV.wd]; omega) | exact rfl)) ?_
  refine S.recell 3 [.a .u64 (sbW xs ys 0) 4] rfl (fun ρ => rfl) ⟨UH xs ys 0, trivial⟩ rfl ?_
  refine S.loop [2, 3, 4, 6] (fun k : Nat => [(7, .i .u64 (UR xs ys k)), (9, .i .i64 (k : Int))]) (fun k => [(0, [.a .u64 xs 4]), (1, [.a .u64 ys 4]), (2, [.i .u64 0, .i .u64 0, .i .u64 0, .i .u64 0]), (3, [.a .u64 (sbW xs ys k) 4])]) (fun _ => []) (fun k => k <= 4) (fun k => 4 - k) 0 rfl (fun _ => rfl) (fun _ => rfl) rfl ⟨⟨rfl, rfl⟩, ⟨rfl, rfl⟩, trivial⟩ (by repeat' (first | exact True.intro | refine And.intro ?_ ?_ | exact UH xs ys 0 | assumption | exact rfl)) (fun _ _ _ => trivial) (by omega) fun J k hk again => ?_
  have hk' : k <= 4 := hk
  have hlen := UH xs ys k
  have hlen' := UH xs ys (k + 1)
  refine S.g false rfl ?_
  refine S.cond rfl (fun c => ?_) (fun c => ?_)
  . have c' : k < 4 := by omega
    have hb := Gz xs ys k
    have h1 := hx.at k
    have h2 := hy.at k
    have e1 : xs.getD (Int.toNat (k : Int)) 0 = Qa xs k := by rw [Int.toNat_natCast, QY]
    have e2 : ys.getD (Int.toNat (k : Int)) 0 = Qa ys k := by rw [Int.toNat_natCast, QY]
    have hE := Qc2 (xs.getD (Int.toNat (k : Int)) 0) (ys.getD (Int.toNat (k : Int)) 0) (UR xs ys k) (by omega) (by omega) (by omega) hb.1 hb.2
    refine S.g false rfl ?_
    refine S.dre (G := gT) false [(8, .t [.i .u64 ((xs.getD (Int.toNat (k : Int)) 0 - ys.getD (Int.toNat (k : Int)) 0 - UR xs ys k) % 18446744073709551616), .i .u64 (bor (xs.getD (Int.toNat (k : Int)) 0) (ys.getD (Int.toNat (k : Int)) 0) (UR xs ys k))])] [] [8] rfl rfl rfl ?_ (by repeat' (first | exact True.intro | refine And.intro ?_ ?_ | assumption | omega | (dsimp only; omega) | (simp only [Nat.add_eq, Nat.mul_eq, Nat.sub_eq, SV.wd]; omega) | exact rfl))
    refine S.g false rfl ?_
    refine S.again (again (k + 1) (show k + 1 <= 4 by omega) (show 4 - (k + 1) < 4 - k by omega)) ⟨⟨rfl, by rw [e1, e2]; rfl⟩, ⟨rfl, by omega⟩, rfl, rfl, rfl, rfl, trivial⟩ ?_ rfl rfl (fun x hx => hx) rfl (fun ρ W h => h.hs)
    repeat' (first | exact True.intro | refine And.intro ?_ ?_ | exact congrArg (fun z => SV.a .u64 z 4) (QaQ c') | assumption | exact rfl)
  . obtain rfl : k = 4 := by omega
    refine S.go false rfl (by repeat' (first | exact True.intro | refine And.intro ?_ ?_ | assumption | omega | (dsimp only; omega) | (simp only [Nat.add_eq, Nat.mul_eq, Nat.sub_eq, SV.wd]; omega) | exact rfl)) ?_
    exact S.rett rfl rfl rfl rfl rfl
theorem Qgi {xs : List Int} (hx : Qp xs) (hl : xs.length = 4) : PV Tryd.prog gT 73 [.a .u64 xs 4] (.a .u64 (JB xs) 4) := by
  have h1 := EK
  have h2 := QbS hx XL hl rfl
  have hb := Gy xs ZG hx XL 4
  have hsl : (ZD xs ZG 4).length = 4 := by simp [ZD]
  have hc : JB xs = if UR xs ZG 4 = 1 then xs else ZD xs ZG 4 := by
    unfold JB
    rw [hb]
    split <;> simp
  rw [hc]
  generalize UR xs ZG 4 = b at *
  generalize ZD xs ZG 4 = ds at *
  clear hb hc
  refine PV.mk' Tryd.func73 rfl rfl rfl rfl fun w L hL hG => ?_
  refine S.enter Qm [.a .u64 xs 4] gT Tryd.func73 rfl rfl rfl (fun _ => rfl) hL hG ?_
  refine S.go false rfl (by repeat' (first | exact True.intro | refine And.intro ?_ ?_ | assumption | omega | (dsimp only; omega) | (simp only [Nat.add_eq, Nat.mul_eq, Nat.sub_eq, SV.wd]; omega) | exact rfl)) ?_
  refine S.drp false [(1, .a .u64 ZG 4), (2, .t [.a .u64 ds 4, .i .u64 b])] rfl rfl rfl ?_ (by repeat' (first | exact True.intro | refine And.intro ?_ ?_ | assumption | omega | (dsimp only; omega) | (simp only [Nat.add_eq, Nat.mul_eq, Nat.sub_eq, SV.wd]; omega) | exact rfl))
  refine S.g false rfl ?_
  refine S.cond rfl (fun c => ?_) (fun c => ?_)
  . rw [if_pos c]
    refine S.go false rfl (by repeat' (first | exact True.intro | refine And.intro ?_ ?_ | assumption | omega | (dsimp only; omega) | (simp only [Nat.add_eq, Nat.mul_eq, Nat.sub_eq, SV.wd]; omega) | exact rfl)) ?_
    exact S.retv rfl rfl rfl rfl rfl
  . rw [if_neg c]
    refine S.go false rfl (by repeat' (first | exact True.intro | refine And.intro ?_ ?_ | assumption | omega | (dsimp only; omega) | (simp only [Nat.add_eq, Nat.mul_eq, Nat.sub_eq, SV.wd]; omega) | exact rfl)) ?_
    exact S.retv rfl rfl rfl rfl rfl
theorem Qai {xs : List Int} (hx : Qp xs) (hl : xs.length = 4) {b : Int} (hb : 0 <= b /\ b <= 1) : PV Tryd.prog gT 72 [.a .u64 xs 4, .i .u64 b] (.a .u64 (Ux xs b) 4) := by
  have x0 := hx.at 0; have x1 := hx.at 1; have x2 := hx.at 2; have x3 := hx.at 3
  have e0 := Gq (Qa xs 0) b hb
  have e1 := Gq (Qa xs 1) (Qa xs 0 / 9223372036854775808) (by omega)
  have e2 := Gq (Qa xs 2) (Qa xs 1 / 9223372036854775808) (by omega)
  have e3 := Gq (Qa xs 3) (Qa xs 2 / 9223372036854775808) (by omega)
  have h : PV Tryd.prog gT 72 [.a .u64 xs 4, .i .u64 b] (.g [.i .u64 (bits .or .u64 (IntKind.u64.wrap (xs.getD 0 0 * 2 ^ Int.toNat 1)) b), .i .u64 (bits .or .u64 (IntKind.u64.wrap (xs.getD 1 0 * 2 ^ Int.toNat 1)) (xs.getD 0 0 / 2 ^ Int.toNat 63)), .i .u64 (bits .or .u64 (IntKind.u64.wrap (xs.getD 2 0 * 2 ^ Int.toNat 1)) (xs.getD 1 0 / 2 ^ Int.toNat 63)), .i .u64 (bits .or .u64 (IntKind.u64.wrap (xs.getD 3 0 * 2 ^ Int.toNat 1)) (xs.getD 2 0 / 2 ^ Int.toNat 63))]) := by
    refine PV.mk' Tryd.func72 rfl rfl rfl rfl fun w L hL hG => ?_
    refine S.enter Qm [.a .u64 xs 4, .i .u64 b] gT Tryd.func72 rfl rfl rfl (fun _ => rfl) hL hG ?_
    refine S.go false rfl (by repeat' (first | exact True.intro | refine And.intro ?_ ?_ | assumption | omega | (dsimp only; omega) | (simp only [Nat.add_eq, Nat.mul_eq, Nat.sub_eq, SV.wd]; omega) | exact rfl)) ?_
    exact S.retv rfl rfl rfl rfl rfl
  refine h.res ?_ rfl
  simp only [QY, show Int.toNat 1 = 1 from rfl, show Int.toNat 63 = 63 from rfl, Int.reducePow]
  rw [e0, e1, e2, e3]
  rfl
def G5 (xs : List Int) (k : Nat) : List Int := Q9 4 (Qj xs 8 / 2 ^ (512 - k) % Q0)
theorem UI (xs : List Int) (k : Nat) : (G5 xs k).length = 4 := QH _ _
theorem YP (xs : List Int) (k : Nat) : Qp (G5 xs k) := Xd _ _
theorem Qdj (xs : List Int) (k : Nat) : Qj (G5 xs k) 4 = Qj xs 8 / 2 ^ (512 - k) % Q0 := by
  have h : 0 <= Qj xs 8 / 2 ^ (512 - k) % Q0 /\ Qj xs 8 / 2 ^ (512 - k) % Q0 < 2 ^ 256 := by unfold Q0; omega
  exact YD h.1 h.2
theorem Qa4 {xs : List Int} (hx : Qp xs) : G5 xs 0 = [0, 0, 0, 0] := by
  have h8 := X3 xs hx 8
  unfold G5
  rw [Nat.sub_zero, Int.ediv_eq_zero_of_lt h8.1 h8.2]
  decide +kernel
theorem Qa5 {xs : List Int} (hx : Qp xs) {k : Nat} (hk : k < 512) : JB (Ux (G5 xs k) (JF xs (511 - k))) = G5 xs (k + 1) := by
  have hb := JE xs (511 - k)
  have hd := Vl (G5 xs k) (YP xs k) _ hb
  exact EO (Ea hd) (HU rfl) (Qa3 xs hx (G5 xs k) (YP xs k) 8 k (by omega) (Qdj xs k))
theorem Qg0 {xs : List Int} (hx : Qp xs) {k : Nat} (hk : k < 512) : bits .and .u64 (xs.getD (Int.toNat ((511 - (k : Int)) / 64)) 0 / 2 ^ Int.toNat ((511 - (k : Int)) % 64)) 1 = JF xs (511 - k) := by
  have e1 : Int.toNat ((511 - (k : Int)) / 64) = (511 - k) / 64 := by omega
  have e2 : Int.toNat ((511 - (k : Int)) % 64) = (511 - k) % 64 := by omega
  rw [e1, e2, QY]
  have hx64 := hx.at ((511 - k) / 64)
  have h0 : 0 <= Qa xs ((511 - k) / 64) / 2 ^ ((511 - k) % 64) := Int.ediv_nonneg hx64.1 (Int.le_of_lt (QP _))
  have h1 : Qa xs ((511 - k) / 64) / 2 ^ ((511 - k) % 64) <= Qa xs ((511 - k) / 64) := Int.ediv_le_self _ hx64.1
  exact ZR _ 1 1 rfl (by omega) h0 (by omega)
set_option maxHeartbeats 1000000 in
theorem J8 {xs : List Int} (hx : Qp xs) (hl : xs.length = 8) : PV Tryd.prog gT 40 [.a .u64 xs 8] (.a .u64 (Q9 4 (Qj xs 8 % Q0)) 4) := by
  have e : Q9 4 (Qj xs 8 % Q0) = G5 xs 512 := by unfold G5; simp
  rw [e]
  refine PV.mk' Tryd.func40 rfl rfl rfl rfl fun w L hL hG => ?_
  refine S.enter Qm [.a .u64 xs 8] gT Tryd.func40 rfl rfl rfl (fun _ => rfl) hL hG ?_
  refine S.go false rfl (by repeat' (first | exact True.intro | refine And.intro ?_ ?_ | assumption | omega | (dsimp only; omega) | (simp only [Nat.add_eq, Nat.mul_eq, Nat.sub_eq, SV.wd]; omega) | exact rfl)) ?_
  refine S.recell 2 [.a .u64 (G5 xs 0) 4] rfl (fun ρ => by rw [Qa4 hx]; rfl) ⟨UI xs 0, trivial⟩ rfl ?_
  refine S.loop [1, 2, 3] (fun k : Nat => [(6, .i .i64 (k : Int))]) (fun k => [(0, [.a .u64 xs 8]), (1, [.i .u64 0, .i .u64 0, .i .u64 0, .i .u64 0]), (2, [.a .u64 (G5 xs k) 4])]) (fun _ => []) (fun k => k <= 512) (fun k => 512 - k) 0 rfl (fun _ => rfl) (fun _ => rfl) rfl ⟨⟨rfl, rfl⟩, trivial⟩ (by repeat' (first | exact True.intro | refine And.intro ?_ ?_ | exact UI xs 0 | assumption | exact rfl)) (fun _ _ _ => trivial) (by omega) fun J k hk again => ?_
  have hk' : k <= 512 := hk
  have hlen := UI xs k
  have hlen' := UI xs (k + 1)
  refine S.g false rfl ?_
  refine S.cond rfl (fun c => ?_) (fun c => ?_)
  . have c' : k < 512 := by omega
    have hb := JE xs (511 - k)
    have hbe := Qg0 hx c'
    have h1 := (Qai (YP xs k) hlen hb)
    have h2 := Qgi (Vl (G5 xs k) (YP xs k) _ hb) rfl
    rw [Qa5 hx c'] at h2
    rw [<- hbe] at h1
    have hdl : (Ux (G5 xs k) (JF xs (511 - k))).length = 4 := rfl
    rw [hbe] at h1
    generalize Ux (G5 xs k) (JF xs (511 - k)) = ds at *
    rw [<- hbe] at h1
    refine S.g false rfl ?_
    refine S.drp false [(9, .a .u64 ds 4), (10, .a .u64 (G5 xs (k + 1)) 4)] rfl rfl rfl ?_ (by repeat' (first | exact True.intro | refine And.intro ?_ ?_ | assumption | omega | (dsimp only; omega) | (simp only [Nat.add_eq, Nat.mul_eq, Nat.sub_eq, SV.wd]; omega) | exact rfl))
    refine S.g false rfl ?_
    refine S.again (again (k + 1) (show k + 1 <= 512 by omega) (show 512 - (k + 1) < 512 - k by omega)) ⟨⟨rfl, by omega⟩, rfl, rfl, rfl, trivial⟩ ?_ rfl rfl (fun x hx => hx) rfl (fun ρ W h => h.hs)
    repeat' (first | exact True.intro | refine And.intro ?_ ?_ | assumption | exact rfl)
  . obtain rfl : k = 512 := by omega
    refine S.go false rfl (by repeat' (first | exact True.intro | refine And.intro ?_ ?_ | assumption | omega | (dsimp only; omega) | (simp only [Nat.add_eq, Nat.mul_eq, Nat.sub_eq, SV.wd]; omega) | exact rfl)) ?_
    exact S.retv rfl rfl rfl rfl rfl
structure TSt where
  k : Nat
  p : List Int
structure TIn where
  j : Nat
  p : List Int
  c : Int
/-- One product among words, and what is carried. -/
theorem Qf6 {x y p c : Int} (hx : 0 <= x /\ x < 18446744073709551616) (hy : 0 <= y /\ y < 18446744073709551616) (hp : 0 <= p /\ p < 18446744073709551616) (hc : 0 <= c /\ c < 18446744073709551616) :
    (0 <= x * y / 18446744073709551616 /\ x * y / 18446744073709551616 < 18446744073709551616) /\ (0 <= x * y % 18446744073709551616 /\ x * y % 18446744073709551616 < 18446744073709551616) /\ (0 <= x * y / 18446744073709551616 + (x * y % 18446744073709551616 + p + 0) / 18446744073709551616 /\ x * y / 18446744073709551616 + (x * y % 18446744073709551616 + p + 0) / 18446744073709551616 < 18446744073709551616) /\ (0 <= x * y / 18446744073709551616 + (x * y % 18446744073709551616 + p + 0) / 18446744073709551616 + ((x * y % 18446744073709551616 + p + 0) % 18446744073709551616 + c + 0) / 18446744073709551616 /\ x * y / 18446744073709551616 + (x * y % 18446744073709551616 + p + 0) / 18446744073709551616 + ((x * y % 18446744073709551616 + p + 0) % 18446744073709551616 + c + 0) / 18446744073709551616 < 18446744073709551616) /\ ((x * y % 18446744073709551616 + p + 0) % 18446744073709551616 + c + 0) % 18446744073709551616 + (x * y / 18446744073709551616 + (x * y % 18446744073709551616 + p + 0) / 18446744073709551616 + ((x * y % 18446744073709551616 + p + 0) % 18446744073709551616 + c + 0) / 18446744073709551616) * 18446744073709551616 = x * y + p + c := by
  have hm := D6 (p := p) (c := c) hx hy
  generalize x * y = m at *
  omega
set_option maxHeartbeats 4000000 in
theorem Qc0 {xs ys cs : List Int} (hx : Qp xs) (hy : Qp ys) (hc : Qp cs) (hxl : xs.length = 4) (hyl : ys.length = 4) (hcl : cs.length = 4) : PV Tryd.prog gT 50 [.a .u64 xs 4, .a .u64 ys 4, .a .u64 cs 4] (.a .u64 (Q9 8 (Qj cs 4 + Qj xs 4 * Qj ys 4)) 8) := by
  refine PV.mk' Tryd.func50 rfl rfl rfl rfl fun w L hL hG => ?_
  refine S.enter Qm [.a .u64 xs 4, .a .u64 ys 4, .a .u64 cs 4] gT Tryd.func50 rfl rfl rfl (fun _ => rfl) hL hG ?_
  refine S.go false rfl (by repeat' (first | exact True.intro | refine And.intro ?_ ?_ | assumption | omega | (dsimp only; omega) | (simp only [Nat.add_eq, Nat.mul_eq, Nat.sub_eq, SV.wd]; omega) | exact rfl)) ?_
  refine S.recell 4 [.a .u64 (List.replicate 8 0) 8] rfl (fun ρ => rfl) ⟨rfl, trivial⟩ rfl ?_
  refine S.dr0 false rfl rfl rfl ?_ (by repeat' (first | exact True.intro | refine And.intro ?_ ?_ | exact rfl | decide))
  have hpl : (cs ++ [0, 0, 0, 0]).length = 8 := by simp [hcl]
  refine S.recell 4 [.a .u64 (cs ++ [0, 0, 0, 0]) 8] rfl (fun ρ => congrArg (fun z => Qd ρ [SV.a .u64 z 8]) (by
    show (List.take 0 _ ++ (List.take (Nat.min 4 8) (List.drop 0 cs) ++ List.drop (Nat.add 0 (Nat.min 4 8)) (List.replicate 8 (0 : Int)))) = _
    rw [List.drop_zero, List.take_zero, show Nat.min 4 8 = 4 from rfl, List.take_of_length_le (by omega)]
    rfl)) ⟨hpl, trivial⟩ rfl ?_
  refine S.g false rfl ?_
  refine S.loop [3, 4, 5, 6, 7] (fun s : TSt => [(18, .i .i64 (s.k : Int))]) (fun s => [(0, [.a .u64 xs 4]), (1, [.a .u64 ys 4]), (2, [.a .u64 cs 4]), (3, [.i .u64 0, .i .u64 0, .i .u64 0, .i .u64 0, .i .u64 0, .i .u64 0, .i .u64 0, .i .u64 0]), (4, [.a .u64 s.p 8])]) (fun _ => []) (fun s => s.k <= 4 /\ Qp s.p /\ s.p.length = 8 /\ Qj s.p 8 = Qj cs 4 + Qj xs s.k * Qj ys 4) (fun s => 4 - s.k) ⟨0, cs ++ [0, 0, 0, 0]⟩ rfl (fun _ => rfl) (fun _ => rfl) rfl ⟨⟨rfl, rfl⟩, trivial⟩ (by repeat' (first | exact True.intro | refine And.intro ?_ ?_ | assumption | exact rfl)) (fun _ _ _ => trivial) ⟨by show (0 : Nat) <= 4; omega, DX hc, hpl, by rw [Qay cs hcl]; simp [Qj]⟩ fun J s hs again => ?_
  obtain ⟨k, ps⟩ := s
  obtain ⟨hk, hpw, hpl2, hpv⟩ := hs
  simp only at hk hpw hpl2 hpv
  dsimp only
  refine S.g false rfl ?_
  refine S.cond rfl (fun c => ?_) (fun c => ?_)
  . have ck : k < 4 := by omega
    refine S.g false rfl ?_
    refine S.loop [3, 4, 5, 6, 7, 8, 18] (fun s : TIn => [(9, .i .u64 s.c), (21, .i .i64 (s.j : Int))]) (fun s => [(0, [.a .u64 xs 4]), (1, [.a .u64 ys 4]), (2, [.a .u64 cs 4]), (3, [.i .u64 0, .i .u64 0, .i .u64 0, .i .u64 0, .i .u64 0, .i .u64 0, .i .u64 0, .i .u64 0]), (4, [.a .u64 s.p 8])]) (fun _ => []) (fun s => s.j <= 4 /\ Qp s.p /\ s.p.length = 8 /\ (0 <= s.c /\ s.c < 18446744073709551616) /\ Qj s.p 8 + s.c * 2 ^ (64 * (k + s.j)) = (Qj cs 4 + Qj xs k * Qj ys 4) + Qa xs k * Qj ys s.j * 2 ^ (64 * k)) (fun s => 4 - s.j) ⟨0, ps, 0⟩ rfl (fun _ => rfl) (fun _ => rfl) rfl ⟨⟨rfl, rfl⟩, ⟨rfl, rfl⟩, trivial⟩ (by repeat' (first | exact True.intro | refine And.intro ?_ ?_ | assumption | exact rfl)) (fun _ _ _ => trivial) ⟨by show (0 : Nat) <= 4; omega, hpw, hpl2, ⟨by show (0 : Int) <= 0; omega, by show (0 : Int) < 18446744073709551616; omega⟩, by rw [hpv]; simp [Qj]⟩ fun J2 s2 hs2 again2 => ?_
    obtain ⟨j, qs, e⟩ := s2
    obtain ⟨hj, hqw, hql, he, hqv⟩ := hs2
    simp only at hj hqw hql he hqv
    dsimp only
    refine S.g false rfl ?_
    refine S.cond rfl (fun c2 => ?_) (fun c2 => ?_)
    . have cj : j < 4 := by omega
      have e1 : xs.getD (Int.toNat (k : Int)) 0 = Qa xs k := by rw [Int.toNat_natCast, QY]
      have e2 : ys.getD (Int.toNat (j : Int)) 0 = Qa ys j := by rw [Int.toNat_natCast, QY]
      have e4 : Int.toNat ((k : Int) + (j : Int)) = k + j := by omega
      have e3 : qs.getD (Int.toNat ((k : Int) + (j : Int))) 0 = Qa qs (k + j) := by rw [e4, QY]
      have hxk : 0 <= xs.getD (Int.toNat (k : Int)) 0 /\ xs.getD (Int.toNat (k : Int)) 0 < 18446744073709551616 := by rw [e1]; exact hx.at k
      have hyj : 0 <= ys.getD (Int.toNat (j : Int)) 0 /\ ys.getD (Int.toNat (j : Int)) 0 < 18446744073709551616 := by rw [e2]; exact hy.at j
      have hqj : 0 <= qs.getD (Int.toNat ((k : Int) + (j : Int))) 0 /\ qs.getD (Int.toNat ((k : Int) + (j : Int))) 0 < 18446744073709551616 := by rw [e3]; exact hqw.at (k + j)
      obtain ⟨m1, m2, m3, m4, m5⟩ := Qf6 hxk hyj hqj he
      have hM := ES _ _ hxk hyj
      have hstep := Qa1 qs xs ys k j _ e _ _ hql ck cj hqv (by rw [<- e1, <- e2, <- e3]; exact m5)
      generalize xs.getD (Int.toNat (k : Int)) 0 * ys.getD (Int.toNat (j : Int)) 0 / 18446744073709551616 = mh at *
      generalize xs.getD (Int.toNat (k : Int)) 0 * ys.getD (Int.toNat (j : Int)) 0 % 18446744073709551616 = ml at *
      refine S.g false rfl ?_
      refine S.drp (G := gT) false [(6, .t [.i .u64 mh, .i .u64 ml])] rfl rfl rfl ?_ (by repeat' (first | exact True.intro | refine And.intro ?_ ?_ | assumption | omega | (dsimp only; omega) | (simp only [Nat.add_eq, Nat.mul_eq, Nat.sub_eq, SV.wd]; omega) | exact rfl))
      refine S.g false rfl ?_
      refine S.ext rfl rfl rfl rfl rfl rfl rfl (VV _ _ _ (by omega) hqj.1 (by omega) (by omega)) rfl ?_
      generalize qs.getD (Int.toNat ((k : Int) + (j : Int))) 0 = q at *
      generalize hl1 : (ml + q + 0) % 18446744073709551616 = l1 at *
      generalize ho1 : (ml + q + 0) / 18446744073709551616 = o1 at *
      refine S.go false rfl (by repeat' (first | exact True.intro | refine And.intro ?_ ?_ | assumption | omega | (dsimp only; omega) | (simp only [Nat.add_eq, Nat.mul_eq, Nat.sub_eq, SV.wd]; omega) | exact rfl)) ?_
      refine S.ext rfl rfl rfl rfl rfl rfl rfl (VV _ _ _ (by omega) he.1 (by omega) (by omega)) rfl ?_
      have hl2 : 0 <= (l1 + e + 0) % 18446744073709551616 /\ (l1 + e + 0) % 18446744073709551616 < 18446744073709551616 := by omega
      generalize hl2e : (l1 + e + 0) % 18446744073709551616 = l2 at *
      generalize ho2 : (l1 + e + 0) / 18446744073709551616 = o2 at *
      refine S.go false rfl (by repeat' (first | exact True.intro | refine And.intro ?_ ?_ | omega | (dsimp only; omega) | (simp only [Nat.add_eq, Nat.mul_eq, Nat.sub_eq, SV.wd]; omega) | exact rfl)) ?_
      have hsl : (qs.set (Int.toNat ((k : Int) + (j : Int))) l2).length = 8 := by rw [List.length_set]; exact hql
      refine S.again (again2 ⟨j + 1, qs.set (k + j) l2, mh + o1 + o2⟩ ⟨by show j + 1 <= 4; omega, hqw.set _ hl2, by simp [hql], m4, hstep⟩ (show 4 - (j + 1) < 4 - j by omega)) ⟨⟨rfl, rfl⟩, ⟨rfl, by simp only; omega⟩, rfl, rfl, rfl, rfl, rfl, ⟨rfl, rfl⟩, ⟨rfl, rfl⟩, trivial⟩ ?_ rfl rfl (fun x hx => hx) rfl (fun ρ W h => h.hs)
      repeat' (first | exact True.intro | refine And.intro ?_ ?_ | assumption | exact congrArg (fun z => SV.a .u64 (qs.set z l2) 8) e4 | (show (qs.set (k + j) l2).length = 8; simp only [List.length_set]; exact hql) | exact rfl)
    . obtain rfl : j = 4 := by omega
      refine S.g false rfl ?_
      refine S.loop [3, 4, 5, 6, 7, 18] (fun s : TIn => [(9, .i .u64 s.c), (14, .i .i64 (s.j : Int))]) (fun s => [(0, [.a .u64 xs 4]), (1, [.a .u64 ys 4]), (2, [.a .u64 cs 4]), (3, [.i .u64 0, .i .u64 0, .i .u64 0, .i .u64 0, .i .u64 0, .i .u64 0, .i .u64 0, .i .u64 0]), (4, [.a .u64 s.p 8])]) (fun _ => []) (fun s => s.j <= 8 /\ k + 4 <= s.j /\ Qp s.p /\ s.p.length = 8 /\ (0 <= s.c /\ s.c < 18446744073709551616) /\ Qj s.p 8 + s.c * 2 ^ (64 * s.j) = (Qj cs 4 + Qj xs k * Qj ys 4) + Qa xs k * Qj ys 4 * 2 ^ (64 * k)) (fun s => 8 - s.j) ⟨k + 4, qs, e⟩ rfl (fun _ => rfl) (fun _ => rfl) rfl ⟨⟨rfl, rfl⟩, ⟨rfl, by simp only; omega⟩, trivial⟩ (by repeat' (first | exact True.intro | refine And.intro ?_ ?_ | assumption | exact rfl)) (fun _ _ _ => trivial) ⟨by show k + 4 <= 8; omega, by show k + 4 <= k + 4; omega, hqw, hql, he, hqv⟩ fun J3 s3 hs3 again3 => ?_
      obtain ⟨t, us, g⟩ := s3
      obtain ⟨ht, ht4, huw, hul, hg, huv⟩ := hs3
      simp only at ht ht4 huw hul hg huv
      dsimp only
      refine S.g false rfl ?_
      refine S.cond rfl (fun c3 => ?_) (fun c3 => ?_)
      . have c3' : t < 8 := by omega
        have e5 : us.getD (Int.toNat (t : Int)) 0 = Qa us t := by rw [Int.toNat_natCast, QY]
        have hut : 0 <= us.getD (Int.toNat (t : Int)) 0 /\ us.getD (Int.toNat (t : Int)) 0 < 18446744073709551616 := by rw [e5]; exact huw.at t
        have hst := DH us t _ g ((us.getD (Int.toNat (t : Int)) 0 + g + 0) % 18446744073709551616) ((us.getD (Int.toNat (t : Int)) 0 + g + 0) / 18446744073709551616) hul c3' huv (by rw [<- e5]; omega)
        refine S.go false rfl (by repeat' (first | exact True.intro | refine And.intro ?_ ?_ | assumption | omega | (dsimp only; omega) | (simp only [Nat.add_eq, Nat.mul_eq, Nat.sub_eq, SV.wd]; omega) | exact rfl)) ?_
        refine S.ext rfl rfl rfl rfl rfl rfl rfl (VV _ _ _ hut.1 hg.1 (by omega) (by omega)) rfl ?_
        generalize us.getD (Int.toNat (t : Int)) 0 = u at *
        have hl2 : 0 <= (u + g + 0) % 18446744073709551616 /\ (u + g + 0) % 18446744073709551616 < 18446744073709551616 := by omega
        have hc2 : 0 <= (u + g + 0) / 18446744073709551616 /\ (u + g + 0) / 18446744073709551616 < 18446744073709551616 := by omega
        generalize (u + g + 0) % 18446744073709551616 = l2 at *
        generalize (u + g + 0) / 18446744073709551616 = o2 at *
        refine S.go false rfl (by repeat' (first | exact True.intro | refine And.intro ?_ ?_ | omega | (dsimp only; omega) | (simp only [Nat.add_eq, Nat.mul_eq, Nat.sub_eq, SV.wd]; omega) | exact rfl)) ?_
        refine S.again (again3 ⟨t + 1, us.set t l2, o2⟩ ⟨by show t + 1 <= 8; omega, by show k + 4 <= t + 1; omega, huw.set _ hl2, by simp [hul], hc2, hst⟩ (show 8 - (t + 1) < 8 - t by omega)) ⟨⟨rfl, rfl⟩, ⟨rfl, by simp only; omega⟩, rfl, rfl, rfl, rfl, rfl, ⟨rfl, rfl⟩, trivial⟩ ?_ rfl rfl (fun x hx => hx) rfl (fun ρ W h => h.hs)
        repeat' (first | exact True.intro | refine And.intro ?_ ?_ | assumption | exact congrArg (fun z => SV.a .u64 (us.set z l2) 8) (Int.toNat_natCast t) | (show (us.set t l2).length = 8; simp only [List.length_set]; exact hul) | exact rfl)
      . obtain rfl : t = 8 := by omega
        have hend := Qde us xs ys cs hx hy hc huw k ck g hg.1 huv
        refine S.g false rfl ?_
        refine S.again (again ⟨k + 1, us⟩ ⟨by show k + 1 <= 4; omega, huw, hul, hend⟩ (show 4 - (k + 1) < 4 - k by omega)) ⟨⟨rfl, by simp only; omega⟩, rfl, rfl, rfl, rfl, rfl, trivial⟩ ?_ rfl rfl (fun x hx => hx) rfl (fun ρ W h => h.hs)
        repeat' (first | exact True.intro | refine And.intro ?_ ?_ | assumption | exact rfl)
  . obtain rfl : k = 4 := by omega
    refine S.go false rfl (by repeat' (first | exact True.intro | refine And.intro ?_ ?_ | assumption | omega | (dsimp only; omega) | (simp only [Nat.add_eq, Nat.mul_eq, Nat.sub_eq, SV.wd]; omega) | exact rfl)) ?_
    have hp8 := Gf ps hpw 8 hpl2
    rw [hpv] at hp8
    rw [<- hp8]
    exact S.retv rfl rfl rfl rfl rfl
theorem Qdg {za : List Int} (hb : Qb za) (hl : za.length = 32) : PV Tryd.prog gT 14 [.a .u8 za 32] (.c (Qh za 32 < Q0) inferInstance) := by
  have hv := XV za hb
  have h1 := K8 hb hl
  have h2 := EK
  have h3 := QbS (Xd 4 (Qh za 32)) XL (QH _ _) rfl
  have hb := Gy (Q9 4 (Qh za 32)) ZG (Xd _ _) XL 4
  rw [YD hv.1 hv.2, JX] at hb
  have hnl := QH 4 (Qh za 32)
  have hsl : (ZD (Q9 4 (Qh za 32)) ZG 4).length = 4 := by simp [ZD]
  have key : ∀ b : Int, (b = if Qh za 32 < Q0 then 1 else 0) -> ((SV.c (b = 1) inferInstance).den Qt = (SV.c (Qh za 32 < Q0) inferInstance).den Qt) := fun b hb => by
    simp only [SV.den]
    rw [hb]
    split <;> simp_all
  have hk := key _ hb
  clear hb key
  generalize UR (Q9 4 (Qh za 32)) ZG 4 = b at *
  generalize ZD (Q9 4 (Qh za 32)) ZG 4 = ds at *
  generalize Q9 4 (Qh za 32) = ns at *
  refine PV.res (v := .c (b = 1) inferInstance) (PV.mk' Tryd.func14 rfl rfl rfl rfl fun w L hL hG => ?_) hk rfl
  refine S.enter Qm [.a .u8 za 32] gT Tryd.func14 rfl rfl rfl (fun _ => rfl) hL hG ?_
  refine S.go false rfl (by repeat' (first | exact True.intro | refine And.intro ?_ ?_ | assumption | omega | (dsimp only; omega) | (simp only [Nat.add_eq, Nat.mul_eq, Nat.sub_eq, SV.wd]; omega) | exact rfl)) ?_
  refine S.cv rfl rfl rfl rfl rfl rfl h1 ?_
  refine S.g false rfl ?_
  refine S.cv rfl rfl rfl rfl rfl rfl h2 ?_
  refine S.g false rfl ?_
  refine S.cv rfl rfl rfl rfl rfl rfl h3 ?_
  refine S.go false rfl (by repeat' (first | exact True.intro | refine And.intro ?_ ?_ | assumption | omega | (dsimp only; omega) | (simp only [Nat.add_eq, Nat.mul_eq, Nat.sub_eq, SV.wd]; omega) | exact rfl)) ?_
  exact S.retv rfl rfl rfl rfl rfl
set_option maxHeartbeats 1000000 in
theorem G4 {za : List Int} (hb : Qb za) (hl : za.length = 64) : PV Tryd.prog gT 20 [.a .u8 za 64] (.a .u8 (QD (Qh za 64 % Q0)) 32) := by
  have h64 := QcX za hb
  have h1 := J8 (Xd 8 (Qh za 64)) (QH _ _)
  have e64 : (2 : Int) ^ (64 * 8) = 2 ^ 256 * 2 ^ 256 := by rw [<- Int.pow_add]
  have h642 : Qh za 64 < 2 ^ (64 * 8) := by rw [e64]; exact h64.2
  rw [V1 8 _ h64.1, Int.emod_eq_of_lt h64.1 h642] at h1
  rw [<- EU za hb 8, <- EX za 8] at h1
  have h2 := Dh (Qh za 64 % Q0)
  have hbl := Qu (Qh za 64 % Q0)
  have hnl := QH 4 (Qh za 64 % Q0)
  generalize Q9 4 (Qh za 64 % Q0) = ns at *
  generalize QD (Qh za 64 % Q0) = bs at *
  refine PV.mk' Tryd.func20 rfl rfl rfl rfl fun w L hL hG => ?_
  refine S.enter Qm [.a .u8 za 64] gT Tryd.func20 rfl rfl rfl (fun _ => rfl) hL hG ?_
  refine S.go false rfl (by repeat' (first | exact True.intro | refine And.intro ?_ ?_ | assumption | omega | (dsimp only; omega) | (simp only [Nat.add_eq, Nat.mul_eq, Nat.sub_eq, SV.wd]; omega) | exact rfl)) ?_
  refine S.recell 2 [.a .u64 (Fj za 8 0) 8] rfl (fun ρ => by rw [Hx]; rfl) ⟨Zp za 8 0, trivial⟩ rfl ?_
  refine S.loop [2, 3, 6] (fun k : Nat => [(7, .i .i64 (k : Int))]) (fun k => [(1, [.a .u8 (List.replicate 32 0) 32]), (2, [.a .u64 (Fj za 8 k) 8])]) (fun _ => []) (fun k => k <= 64) (fun k => 64 - k) 0 rfl (fun _ => rfl) (fun _ => rfl) rfl ⟨⟨rfl, rfl⟩, trivial⟩ (by repeat' (first | exact True.intro | refine And.intro ?_ ?_ | exact Zp za 8 0 | exact rfl)) (fun _ _ _ => trivial) (by omega) fun J k hk again => ?_
  have hk' : k <= 64 := hk
  have hlen := Zp za 8 k
  have hlen' := Zp za 8 (k + 1)
  refine S.g false rfl ?_
  refine S.cond rfl (fun c => ?_) (fun c => ?_)
  . have c' : k < 64 := by omega
    have hr := G3 hb (Int.toNat (k : Int))
    refine S.go false rfl (by repeat' (first | exact True.intro | refine And.intro ?_ ?_ | assumption | omega | (dsimp only; omega) | (simp only [Nat.add_eq, Nat.mul_eq, Nat.sub_eq, SV.wd]; omega) | exact rfl)) ?_
    refine S.dr0 false rfl rfl rfl ?_ (by repeat' (first | exact True.intro | refine And.intro ?_ ?_ | assumption | omega | (dsimp only; omega) | (simp only [Nat.add_eq, Nat.mul_eq, Nat.sub_eq, SV.wd]; omega) | exact rfl))
    refine S.g false rfl ?_
    refine S.again (again (k + 1) (show k + 1 <= 64 by omega) (show 64 - (k + 1) < 64 - k by omega)) ⟨⟨rfl, by omega⟩, rfl, rfl, rfl, trivial⟩ ?_ rfl rfl (fun x hx => hx) rfl (fun ρ W h => h.hs)
    repeat' (first | exact True.intro | refine And.intro ?_ ?_ | exact congrArg (fun z => SV.a .u64 z 8) (Hy hb (n := 8) (by omega)) | assumption | exact rfl)
  . obtain rfl : k = 64 := by omega
    refine S.go false rfl (by repeat' (first | exact True.intro | refine And.intro ?_ ?_ | assumption | omega | (dsimp only; omega) | (simp only [Nat.add_eq, Nat.mul_eq, Nat.sub_eq, SV.wd]; omega) | exact rfl)) ?_
    refine S.cv rfl rfl rfl rfl rfl rfl h1 ?_
    refine S.g false rfl ?_
    refine S.cv rfl rfl rfl rfl rfl rfl h2 ?_
    refine S.go false rfl (by repeat' (first | exact True.intro | refine And.intro ?_ ?_ | assumption | omega | (dsimp only; omega) | (simp only [Nat.add_eq, Nat.mul_eq, Nat.sub_eq, SV.wd]; omega) | exact rfl)) ?_
    exact S.retv rfl rfl rfl rfl rfl
theorem QbK {xb yb cb : List Int} (hx : Qb xb) (hy : Qb yb) (hc : Qb cb) (hxl : xb.length = 32) (hyl : yb.length = 32) (hcl : cb.length = 32) : PV Tryd.prog gT 22 [.a .u8 xb 32, .a .u8 yb 32, .a .u8 cb 32] (.a .u8 (QD ((Qh cb 32 + Qh xb 32 * Qh yb 32) % Q0)) 32) := by
  have vx := XV xb hx; have vy := XV yb hy; have vc := XV cb hc
  have h1 := K8 hx hxl
  have h2 := K8 hy hyl
  have h3 := K8 hc hcl
  have h4 := Qc0 (Xd 4 (Qh xb 32)) (Xd 4 (Qh yb 32)) (Xd 4 (Qh cb 32)) (QH _ _) (QH _ _) (QH _ _)
  have h5 := J8 (Xd 8 (Qj (Q9 4 (Qh cb 32)) 4 + Qj (Q9 4 (Qh xb 32)) 4 * Qj (Q9 4 (Qh yb 32)) 4)) (QH _ _)
  rw [YD vx.1 vx.2, YD vy.1 vy.2, YD vc.1 vc.2] at h4 h5
  have hb : Qh cb 32 + Qh xb 32 * Qh yb 32 < 2 ^ (64 * 8) := by
    have hm : Qh xb 32 * Qh yb 32 <= (2 ^ 256 - 1) * (2 ^ 256 - 1) := Int.mul_le_mul (by omega) (by omega) vy.1 (by decide +kernel)
    have e : (2 : Int) ^ (64 * 8) = 2 ^ 256 * 2 ^ 256 := by rw [<- Int.pow_add]
    rw [e]
    have := vc.2
    generalize Qh xb 32 * Qh yb 32 = m at *
    omega
  have h0 : 0 <= Qh cb 32 + Qh xb 32 * Qh yb 32 := by have := Int.mul_nonneg vx.1 vy.1; omega
  rw [V1 8 _ h0, Int.emod_eq_of_lt h0 hb] at h5
  have h6 := Dh ((Qh cb 32 + Qh xb 32 * Qh yb 32) % Q0)
  have hbl := Qu ((Qh cb 32 + Qh xb 32 * Qh yb 32) % Q0)
  generalize QD ((Qh cb 32 + Qh xb 32 * Qh yb 32) % Q0) = o at *
  generalize Q9 4 ((Qh cb 32 + Qh xb 32 * Qh yb 32) % Q0) = p4 at *
  generalize Q9 8 (Qh cb 32 + Qh xb 32 * Qh yb 32) = p8 at *
  generalize Q9 4 (Qh cb 32) = nc at *
  generalize Q9 4 (Qh xb 32) = nx at *
  generalize Q9 4 (Qh yb 32) = ny at *
  refine PV.mk' Tryd.func22 rfl rfl rfl rfl fun w L hL hG => ?_
  refine S.enter Qm [.a .u8 xb 32, .a .u8 yb 32, .a .u8 cb 32] gT Tryd.func22 rfl rfl rfl (fun _ => rfl) hL hG ?_
  refine S.go false rfl (by repeat' (first | exact True.intro | refine And.intro ?_ ?_ | assumption | omega | (dsimp only; omega) | (simp only [Nat.add_eq, Nat.mul_eq, Nat.sub_eq, SV.wd]; omega) | exact rfl)) ?_
  refine S.drp false [(1, .a .u64 nx 4), (3, .a .u64 ny 4), (5, .a .u64 nc 4), (6, .a .u64 p8 8), (7, .a .u64 p4 4), (8, .a .u8 o 32)] rfl rfl rfl ?_ (by repeat' (first | exact True.intro | refine And.intro ?_ ?_ | assumption | omega | (dsimp only; omega) | (simp only [Nat.add_eq, Nat.mul_eq, Nat.sub_eq, SV.wd]; omega) | exact rfl))
  refine S.g false rfl ?_
  exact S.retv rfl rfl rfl rfl rfl
/-- Clamped bytes. -/
def Ed (za : List Int) : List Int := (za.set 0 (bits .and .u8 (za.getD 0 0) 248)).set 31 (bits .or .u8 (bits .and .u8 ((za.set 0 (bits .and .u8 (za.getD 0 0) 248)).getD 31 0) 127) 64)
theorem HX {za : List Int} (hl : za.length = 32) : (Ed za).length = 32 := by simp [Ed, hl]
theorem Qej (op : BinOp) (a b : Int) : 0 <= bits op .u8 a b /\ bits op .u8 a b <= 255 := by
  have h := bits_within op .u8 a b
  have h1 : IntKind.min .u8 = 0 := by decide
  have h2 : IntKind.max .u8 = 255 := by decide
  rw [h1, h2] at h
  exact h
theorem Ec {za : List Int} (hb : Qb za) : Qb (Ed za) := by
  intro x hx
  unfold Ed at hx
  rcases List.mem_or_eq_of_mem_set hx with h | h
  . rcases List.mem_or_eq_of_mem_set h with h | h
    . exact hb x h
    . rw [h]; exact Qej _ _ _
  . rw [h]; exact Qej _ _ _
theorem QdX {za : List Int} (hl : za.length = 32) : PV Tryd.prog gT 37 [.a .u8 za 32] (.a .u8 (Ed za) 32) := by
  have hcl := HX hl
  refine PV.mk' Tryd.func37 rfl rfl rfl rfl fun w L hL hG => ?_
  refine S.enter Qm [.a .u8 za 32] gT Tryd.func37 rfl rfl rfl (fun _ => rfl) hL hG ?_
  refine S.go false rfl (by repeat' (first | exact True.intro | refine And.intro ?_ ?_ | exact hl | exact hcl | exact rfl)) ?_
  exact S.retv rfl rfl rfl rfl rfl
theorem QdI : GL Tryd.prog gT 65 4 (lm EB) := GL.of Qm (Gb rmL) gT0 rfl (Z5 rfl) rfl (Nat.lt_of_lt_of_le Nat.zero_lt_one (Nat.le_add_right 1 _)) rfl
def evL (z : List Int) (c : Int) : List Int := if c % 2 = 1 then Qi (XN [] z) else z
def r0L (x : List Int) : List Int := X4 x (Vc 254 15) 256
def r1L (x : List Int) : List Int := Qi (QO (r0L x) EB)
def rtL (x : List Int) (u : Int) : List Int := if DM u then evL (r0L x) (U5 u) else if sq1 u then evL (r1L x) (G2 u) else [0, 0, 0, 0, 0]
theorem E9 {z : List Int} {c : Int} (h : QA z c) : QA (evL z c) (ZK c) := by
  unfold evL ZK
  split
  . have := ZI ZB h
    exact this
  . exact h
theorem FM {x : List Int} {u : Int} (hx : QA x u) : QA (r0L x) (U5 u) := Kb hx Kc
theorem Qa9 {x : List Int} {u : Int} (hx : QA x u) : QA (r1L x) (G2 u) := QU (FM hx) J6
theorem Qdd {x : List Int} {u : Int} (hx : QA x u) : QA (rtL x u) (rV u) := by
  unfold rtL rV
  split
  . exact E9 (FM hx)
  . split
    . exact E9 (Qa9 hx)
    . exact ZB
theorem Qaz (ρ : Qs) (x : List Int) (b : Bool) {y : List Int} {b' : Bool} (hx : x = y) (hb : b = b') : val ρ [lm x, .l b] = (SV.t [lm y, .l b']).den Qt := by
  subst hx; subst hb
  simp only [val, SV.den, Qr]
  rfl
set_option maxHeartbeats 1000000 in
theorem QeJ {x : List Int} {u : Int} (hx : QA x u) : PV Tryd.prog gT 89 [lm x] (.t [lm (rtL x u), .l (okV u)]) := by
  have h1 := Qep 254 15
  have h2 := EF hx Kc rfl
  have hr := FM hx
  have ht := Qa9 hx
  have t0 := XA _ _ hr.small hr.small
  have s0 := FD (QU hr hr) hx
  have t1 := XA _ _ hr.small J6.small
  have t2 := XA _ _ ht.small ht.small
  have s1 := FD (QU ht ht) hx
  have o0 := QbA hr
  have o1 := QbA ht
  have n0 := Z4 _ hr.small
  have n1 := Z4 _ ht.small
  have e0 : rtL x u = if DM u then evL (r0L x) (U5 u) else if sq1 u then evL (r1L x) (G2 u) else [0, 0, 0, 0, 0] := rfl
  have e1 : okV u = (DM u || sq1 u) := rfl
  have q0 : DM u = decide (U5 u * U5 u % pV = u) := rfl
  have q1 : sq1 u = decide (G2 u * G2 u % pV = u) := rfl
  change PV _ _ _ _ (lm (r0L x)) at h2
  change PV _ _ _ _ (lm (r1L x)) at t1
  generalize r0L x = z0 at *
  generalize r1L x = z1 at *
  generalize Qi (QO z0 z0) = y0 at *
  generalize Qi (QO z1 z1) = y1 at *
  refine PV.mk' Tryd.func89 rfl rfl rfl rfl fun w L hL hG => ?_
  refine S.enter Qm [lm x] gT Tryd.func89 rfl rfl rfl (fun _ => rfl) hL hG ?_
  refine S.g false rfl ?_
  refine S.drp false [(1, .a .u8 (Vc 254 15) 32), (2, lm z0)] rfl rfl rfl ?_ (by repeat' (first | exact True.intro | refine And.intro ?_ ?_ | assumption))
  refine S.g false rfl ?_
  refine S.drp false [(2, lm y0), (4, .c (U5 u * U5 u % pV = u) inferInstance)] rfl rfl rfl ?_ (by repeat' (first | exact True.intro | refine And.intro ?_ ?_ | assumption))
  refine S.g false rfl ?_
  refine S.cond rfl (fun b => ?_) (fun b => ?_)
  . have b0 : DM u = false := by rw [q0]; exact decide_eq_false b
    refine S.g false rfl ?_
    refine S.gl rfl rfl rfl rfl QdI ?_
    refine S.g false rfl ?_
    refine S.cv rfl rfl rfl rfl rfl rfl t1 ?_
    refine S.g false rfl ?_
    refine S.drp false [(2, lm y1), (4, .c (G2 u * G2 u % pV = u) inferInstance)] rfl rfl rfl ?_ (by repeat' (first | exact True.intro | refine And.intro ?_ ?_ | assumption))
    refine S.g false rfl ?_
    refine S.cond rfl (fun b2 => ?_) (fun b2 => ?_)
    . have b1 : sq1 u = false := by rw [q1]; exact decide_eq_false b2
      refine S.g false rfl ?_
      exact S.ret rfl rfl fun ρ W h => ⟨(), Qaz ρ [0, 0, 0, 0, 0] false (by rw [e0, b0, b1]; rfl) (by rw [e1, b0, b1]; rfl), trivial, trivial⟩
    . have b1 : sq1 u = true := by rw [q1]; exact decide_eq_true (Decidable.not_not.1 b2)
      refine S.g false rfl ?_
      refine S.cv rfl rfl rfl rfl rfl rfl o1 ?_
      refine S.g false rfl ?_
      refine S.cond rfl (fun b3 => ?_) (fun b3 => ?_)
      . refine S.g false rfl ?_
        refine S.cv rfl rfl rfl rfl rfl rfl n1 ?_
        refine S.g false rfl ?_
        exact S.ret rfl rfl fun ρ W h => ⟨(), Qaz ρ (Qi (XN [] z1)) true (by rw [e0, b0, b1]; simp [evL, b3]) (by rw [e1, b0, b1]; rfl), trivial, trivial⟩
      . refine S.g false rfl ?_
        exact S.ret rfl rfl fun ρ W h => ⟨(), Qaz ρ z1 true (by rw [e0, b0, b1]; simp [evL, b3]) (by rw [e1, b0, b1]; rfl), trivial, trivial⟩
  . have b0 : DM u = true := by rw [q0]; exact decide_eq_true (Decidable.not_not.1 b)
    have b4 : U5 u * U5 u % pV = u := Decidable.not_not.1 b
    refine S.g false rfl ?_
    refine S.drp false [(2, lm y0), (4, .c (U5 u * U5 u % pV = u) inferInstance)] rfl rfl rfl ?_ (by repeat' (first | exact True.intro | refine And.intro ?_ ?_ | assumption))
    refine S.g false rfl ?_
    refine S.condF rfl (fun h => h b4) ?_
    refine S.g false rfl ?_
    refine S.cv rfl rfl rfl rfl rfl rfl o0 ?_
    refine S.g false rfl ?_
    refine S.cond rfl (fun b3 => ?_) (fun b3 => ?_)
    . refine S.g false rfl ?_
      refine S.cv rfl rfl rfl rfl rfl rfl n0 ?_
      refine S.g false rfl ?_
      exact S.ret rfl rfl fun ρ W h => ⟨(), Qaz ρ (Qi (XN [] z0)) true (by rw [e0, b0]; simp [evL, b3]) (by rw [e1, b0]; rfl), trivial, trivial⟩
    . refine S.g false rfl ?_
      exact S.ret rfl rfl fun ρ W h => ⟨(), Qaz ρ z0 true (by rw [e0, b0]; simp [evL, b3]) (by rw [e1, b0]; rfl), trivial, trivial⟩
theorem Qa2 {z : List Int} (hz : Qb z) (hl : z.length = 32) : PV Tryd.prog gT 101 [.a .u8 z 32] (.a .u8 (QD (Qh z 32 % pV)) 32) := by
  have h1 := QbR hz hl
  have h2 := VM (Km z hz)
  refine PV.mk' Tryd.func101 rfl rfl rfl rfl fun w L hL hG => ?_
  refine S.enter Qm [.a .u8 z 32] gT Tryd.func101 rfl rfl rfl (fun _ => rfl) hL hG ?_
  refine S.go false rfl (by repeat' (first | exact True.intro | refine And.intro ?_ ?_ | assumption | exact rfl)) ?_
  refine S.cv rfl rfl rfl rfl rfl rfl h1 ?_
  refine S.g false rfl ?_
  refine S.cv rfl rfl rfl rfl rfl rfl h2 ?_
  refine S.go false rfl (by repeat' (first | exact True.intro | refine And.intro ?_ ?_ | exact Qu _ | exact rfl)) ?_
  exact S.retv rfl rfl rfl rfl rfl
theorem Qdf {z : List Int} (hz : Qb z) (hl : z.length = 32) : PV Tryd.prog gT 85 [.a .u8 z 32] (.c (Qh z 32 < pV) inferInstance) := by
  have h1 := Qa2 hz hl
  refine PV.mk' Tryd.func85 rfl rfl rfl rfl fun w L hL hG => ?_
  refine S.enter Qm [.a .u8 z 32] gT Tryd.func85 rfl rfl rfl (fun _ => rfl) hL hG ?_
  refine S.go false rfl (by repeat' (first | exact True.intro | refine And.intro ?_ ?_ | assumption | exact rfl)) ?_
  refine S.drp false [(1, .a .u8 (QD (Qh z 32 % pV)) 32)] rfl rfl rfl ?_ (by repeat' (first | exact True.intro | refine And.intro ?_ ?_ | assumption | exact Qu _))
  refine S.g false rfl ?_
  refine S.retv rfl rfl rfl rfl ?_
  simp only [SV.den]
  rw [KT hz hl]
/-- A point in the plane, one in space. -/
def pl (x y : List Int) : SV := .g [.i .u64 (Qa x 0), .i .u64 (Qa x 1), .i .u64 (Qa x 2), .i .u64 (Qa x 3), .i .u64 (Qa x 4), .i .u64 (Qa y 0), .i .u64 (Qa y 1), .i .u64 (Qa y 2), .i .u64 (Qa y 3), .i .u64 (Qa y 4)]
def sp (x y z t : List Int) : SV := .g [.i .u64 (Qa x 0), .i .u64 (Qa x 1), .i .u64 (Qa x 2), .i .u64 (Qa x 3), .i .u64 (Qa x 4), .i .u64 (Qa y 0), .i .u64 (Qa y 1), .i .u64 (Qa y 2), .i .u64 (Qa y 3), .i .u64 (Qa y 4), .i .u64 (Qa z 0), .i .u64 (Qa z 1), .i .u64 (Qa z 2), .i .u64 (Qa z 3), .i .u64 (Qa z 4), .i .u64 (Qa t 0), .i .u64 (Qa t 1), .i .u64 (Qa t 2), .i .u64 (Qa t 3), .i .u64 (Qa t 4)]
theorem FN {x y : List Int} {u v : Int} (hx : QA x u) (hy : QA y v) : ∃ z, QA z ((v + u) % pV) /\ PV Tryd.prog gT 94 [pl x y] (lm z) := by
  have h := Qbn _ _ hy.small hx.small
  refine ⟨_, He hy hx, PV.mk' Tryd.func94 rfl rfl rfl rfl fun w L hL hG => ?_⟩
  refine S.enter Qm [pl x y] gT Tryd.func94 rfl rfl rfl (fun _ => rfl) hL hG ?_
  refine S.g false rfl ?_
  refine S.cv rfl rfl rfl rfl rfl rfl h ?_
  refine S.g false rfl ?_
  exact S.retv rfl rfl rfl rfl rfl
theorem EG {x y : List Int} {u v : Int} (hx : QA x u) (hy : QA y v) : ∃ z, QA z ((v - u) % pV) /\ PV Tryd.prog gT 96 [pl x y] (lm z) := by
  have h := K6 _ _ hy.small hx.small
  refine ⟨_, ZI hy hx, PV.mk' Tryd.func96 rfl rfl rfl rfl fun w L hL hG => ?_⟩
  refine S.enter Qm [pl x y] gT Tryd.func96 rfl rfl rfl (fun _ => rfl) hL hG ?_
  refine S.g false rfl ?_
  refine S.cv rfl rfl rfl rfl rfl rfl h ?_
  refine S.g false rfl ?_
  exact S.retv rfl rfl rfl rfl rfl
theorem Qgd : GL Tryd.prog gT 65 2 (lm dL) := GL.of Qm (Gb dL) gT1 rfl (Z5 rfl) rfl (Nat.lt_of_lt_of_le Nat.zero_lt_one (Nat.le_add_right 1 _)) rfl
def dV : Int := XY dL % pV
theorem Qcm : QA dL dV := ⟨rfl, XI (by omega) (by omega) (by omega) (by omega) (by omega), rfl⟩
theorem Qbm {x y : List Int} {u : Int} (hx : QA x u) : ∃ z, QA z ((0 - u) % pV) /\ PV Tryd.prog gT 33 [pl x y] (pl z y) := by
  have h := Z4 x hx.small
  have hf := ZI ZB hx
  change QA (Qi (XN [] x)) ((0 - u) % pV) at hf
  generalize Qi (XN [] x) = z at *
  refine ⟨z, hf, PV.mk' Tryd.func33 rfl rfl rfl rfl fun w L hL hG => ?_⟩
  refine S.enter Qm [pl x y] gT Tryd.func33 rfl rfl rfl (fun _ => rfl) hL hG ?_
  refine S.g false rfl ?_
  refine S.drp false [(2, lm z)] rfl rfl rfl ?_ (by repeat' (first | exact True.intro | refine And.intro ?_ ?_ | assumption))
  refine S.g false rfl ?_
  exact S.retv rfl rfl rfl rfl rfl
theorem Qa7 {x y : List Int} {u v : Int} (hx : QA x u) (hy : QA y v) : ∃ t, QA t (u * v % pV) /\ PV Tryd.prog gT 34 [pl x y] (sp x y [1, 0, 0, 0, 0] t) := by
  have h := XA x y hx.small hy.small
  have hf := QU hx hy
  have h1 := UG 1 (by omega)
  generalize Qi (QO x y) = t at *
  refine ⟨t, hf, PV.mk' Tryd.func34 rfl rfl rfl rfl fun w L hL hG => ?_⟩
  refine S.enter Qm [pl x y] gT Tryd.func34 rfl rfl rfl (fun _ => rfl) hL hG ?_
  refine S.g false rfl ?_
  refine S.drp false [(1, lm [1, 0, 0, 0, 0]), (6, lm t)] rfl rfl rfl ?_ (by repeat' (first | exact True.intro | refine And.intro ?_ ?_ | assumption))
  refine S.g false rfl ?_
  exact S.retv rfl rfl rfl rfl rfl
theorem Kv {e f g h : List Int} {a b c d : Int} (he : QA e a) (hf : QA f b) (hg : QA g c) (hh : QA h d) : ∃ x y z t, QA x (a * b % pV) /\ QA y (c * d % pV) /\ QA z (b * c % pV) /\ QA t (a * d % pV) /\ PV Tryd.prog gT 95 [lm e, lm f, lm g, lm h] (sp x y z t) := by
  have t1 := XA e f he.small hf.small
  have t2 := XA g h hg.small hh.small
  have t3 := XA f g hf.small hg.small
  have t4 := XA e h he.small hh.small
  have f1 := QU he hf
  have f2 := QU hg hh
  have f3 := QU hf hg
  have f4 := QU he hh
  generalize Qi (QO e f) = x at *
  generalize Qi (QO g h) = y at *
  generalize Qi (QO f g) = z at *
  generalize Qi (QO e h) = t at *
  refine ⟨x, y, z, t, f1, f2, f3, f4, PV.mk' Tryd.func95 rfl rfl rfl rfl fun w L hL hG => ?_⟩
  refine S.enter Qm [lm e, lm f, lm g, lm h] gT Tryd.func95 rfl rfl rfl (fun _ => rfl) hL hG ?_
  refine S.g false rfl ?_
  refine S.drp false [(2, lm x), (5, lm y), (9, lm z), (12, lm t)] rfl rfl rfl ?_ (by repeat' (first | exact True.intro | refine And.intro ?_ ?_ | assumption))
  refine S.g false rfl ?_
  exact S.retv rfl rfl rfl rfl rfl
theorem ZX {x y : List Int} {u v : Int} (hx : QA x u) (hy : QA y v) : ∃ z, QA z ((u + v) % pV) /\ PV Tryd.prog gT 88 [lm x, lm y] (lm z) := ⟨_, He hx hy, Qbn _ _ hx.small hy.small⟩
theorem Zd {x y : List Int} {u v : Int} (hx : QA x u) (hy : QA y v) : ∃ z, QA z ((u - v) % pV) /\ PV Tryd.prog gT 87 [lm x, lm y] (lm z) := ⟨_, ZI hx hy, K6 _ _ hx.small hy.small⟩
theorem QX {x y : List Int} {u v : Int} (hx : QA x u) (hy : QA y v) : ∃ z, QA z (u * v % pV) /\ PV Tryd.prog gT 64 [lm x, lm y] (lm z) := ⟨_, QU hx hy, XA _ _ hx.small hy.small⟩
theorem Qez {x1 y1 z1 t1 x2 y2 z2 t2 : List Int} {a1 b1 c1 d1 a2 b2 c2 d2 : Int} (hx1 : QA x1 a1) (hy1 : QA y1 b1) (hz1 : QA z1 c1) (ht1 : QA t1 d1) (hx2 : QA x2 a2) (hy2 : QA y2 b2) (hz2 : QA z2 c2) (ht2 : QA t2 d2) :
    ∃ A B C F : Int, A = (b1 - a1) % pV * ((b2 - a2) % pV) % pV /\ B = (b1 + a1) % pV * ((b2 + a2) % pV) % pV /\ C = (d1 * d2 % pV * dV % pV + d1 * d2 % pV * dV % pV) % pV /\ F = (c1 * c2 % pV + c1 * c2 % pV) % pV /\
    ∃ x y z t, QA x ((B - A) % pV * ((F - C) % pV) % pV) /\ QA y ((F + C) % pV * ((B + A) % pV) % pV) /\ QA z ((F - C) % pV * ((F + C) % pV) % pV) /\ QA t ((B - A) % pV * ((B + A) % pV) % pV) /\ PV Tryd.prog gT 68 [sp x1 y1 z1 t1, sp x2 y2 z2 t2] (sp x y z t) := by
  obtain ⟨p1, f1, q1⟩ := EG hx1 hy1
  obtain ⟨p2, f2, q2⟩ := EG hx2 hy2
  obtain ⟨a, fa, qa⟩ := QX f1 f2
  obtain ⟨p3, f3, q3⟩ := FN hx1 hy1
  obtain ⟨p4, f4, q4⟩ := FN hx2 hy2
  obtain ⟨b, fb, qb⟩ := QX f3 f4
  obtain ⟨p5, f5, q5⟩ := QX ht1 ht2
  obtain ⟨p6, f6, q6⟩ := QX f5 Qcm
  obtain ⟨c, fc, qc⟩ := ZX f6 f6
  obtain ⟨p7, f7, q7⟩ := QX hz1 hz2
  obtain ⟨f, ff, qf⟩ := ZX f7 f7
  obtain ⟨e, fe, qe⟩ := Zd fb fa
  obtain ⟨g, fg, qg⟩ := Zd ff fc
  obtain ⟨h, fh, qh⟩ := ZX ff fc
  obtain ⟨i, fi, qi⟩ := ZX fb fa
  obtain ⟨x, y, z, t, k1, k2, k3, k4, k5⟩ := Kv fe fg fh fi
  refine ⟨_, _, _, _, rfl, rfl, rfl, rfl, x, y, z, t, k1, k2, k3, k4, PV.mk' Tryd.func68 rfl rfl rfl rfl fun w L hL hG => ?_⟩
  clear f1 f2 fa f3 f4 fb f5 f6 fc f7 ff fe fg fh fi k1 k2 k3 k4 hx1 hy1 hz1 ht1 hx2 hy2 hz2 ht2
  have gd := Qgd
  refine S.enter Qm [sp x1 y1 z1 t1, sp x2 y2 z2 t2] gT Tryd.func68 rfl rfl rfl (fun _ => rfl) hL hG ?_
  refine S.g false rfl ?_
  refine S.drp false [(2, lm p1), (5, lm p2), (6, lm a)] rfl rfl rfl ?_ (by repeat' (first | exact True.intro | refine And.intro ?_ ?_ | assumption))
  refine S.g false rfl ?_
  refine S.drp false [(2, lm p3), (5, lm p4), (6, lm b)] rfl rfl rfl ?_ (by repeat' (first | exact True.intro | refine And.intro ?_ ?_ | assumption))
  refine S.g false rfl ?_
  refine S.drp false [(4, lm p5), (5, lm dL), (6, lm p6)] rfl rfl rfl ?_ (by repeat' (first | exact True.intro | refine And.intro ?_ ?_ | assumption))
  refine S.g false rfl ?_
  refine S.cv rfl rfl rfl rfl rfl rfl qc ?_
  refine S.g false rfl ?_
  refine S.cv rfl rfl rfl rfl rfl rfl q7 ?_
  refine S.g false rfl ?_
  refine S.cv rfl rfl rfl rfl rfl rfl qf ?_
  refine S.g false rfl ?_
  refine S.drp false [(2, lm e), (5, lm g), (8, lm h), (11, lm i), (12, sp x y z t)] rfl rfl rfl ?_ (by repeat' (first | exact True.intro | refine And.intro ?_ ?_ | assumption))
  refine S.g false rfl ?_
  exact S.retv rfl rfl rfl rfl rfl
theorem QeM {x : List Int} {u : Int} (hx : QA x u) : ∃ z, QA z ((0 - u) % pV) /\ PV Tryd.prog gT 62 [lm x] (lm z) := by
  have hf := ZI ZB hx
  change QA (Qi (XN [] x)) ((0 - u) % pV) at hf
  exact ⟨_, hf, Z4 _ hx.small⟩
theorem Qah {x1 y1 z1 t1 : List Int} {a1 b1 c1 d1 : Int} (hx1 : QA x1 a1) (hy1 : QA y1 b1) (hz1 : QA z1 c1) (ht1 : QA t1 d1) :
    ∃ A B C E G H : Int, A = a1 * a1 % pV /\ B = b1 * b1 % pV /\ C = (c1 * c1 % pV + c1 * c1 % pV) % pV /\ E = (((b1 + a1) % pV * ((b1 + a1) % pV) % pV - A) % pV - B) % pV /\ G = (B - A) % pV /\ H = (0 - (A + B) % pV) % pV /\
    ∃ x y z t, QA x (E * ((G - C) % pV) % pV) /\ QA y (G * H % pV) /\ QA z ((G - C) % pV * G % pV) /\ QA t (E * H % pV) /\ PV Tryd.prog gT 67 [sp x1 y1 z1 t1] (sp x y z t) := by
  obtain ⟨a, fa, qa⟩ := QX hx1 hx1
  obtain ⟨b, fb, qb⟩ := QX hy1 hy1
  obtain ⟨c0, f0, q0⟩ := QX hz1 hz1
  obtain ⟨c, fc, qc⟩ := ZX f0 f0
  obtain ⟨s, fs, qs⟩ := FN hx1 hy1
  obtain ⟨s2, f2, q2⟩ := QX fs fs
  obtain ⟨s3, f3, q3⟩ := Zd f2 fa
  obtain ⟨e, fe, qe⟩ := Zd f3 fb
  obtain ⟨g, fg, qg⟩ := Zd fb fa
  obtain ⟨k, fk, qk⟩ := Zd fg fc
  obtain ⟨h0, fh0, qh0⟩ := ZX fa fb
  obtain ⟨h, fh, qh⟩ := QeM fh0
  obtain ⟨x, y, z, t, k1, k2, k3, k4, k5⟩ := Kv fe fk fg fh
  refine ⟨_, _, _, _, _, _, rfl, rfl, rfl, rfl, rfl, rfl, x, y, z, t, k1, k2, k3, k4, PV.mk' Tryd.func67 rfl rfl rfl rfl fun w L hL hG => ?_⟩
  clear fa fb f0 fc fs f2 f3 fe fg fk fh0 fh k1 k2 k3 k4 hx1 hy1 hz1 ht1
  refine S.enter Qm [sp x1 y1 z1 t1] gT Tryd.func67 rfl rfl rfl (fun _ => rfl) hL hG ?_
  refine S.g false rfl ?_
  refine S.drp false [(6, lm a), (13, lm b), (18, lm c0)] rfl rfl rfl ?_ (by repeat' (first | exact True.intro | refine And.intro ?_ ?_ | assumption))
  refine S.g false rfl ?_
  refine S.cv rfl rfl rfl rfl rfl rfl qc ?_
  refine S.g false rfl ?_
  refine S.cv rfl rfl rfl rfl rfl rfl qs ?_
  refine S.g false rfl ?_
  refine S.drp false [(2, lm s2), (4, lm s3), (6, lm e)] rfl rfl rfl ?_ (by repeat' (first | exact True.intro | refine And.intro ?_ ?_ | assumption))
  refine S.g false rfl ?_
  refine S.cv rfl rfl rfl rfl rfl rfl qg ?_
  refine S.g false rfl ?_
  refine S.drp false [(3, lm k), (7, lm h0), (8, lm h), (9, sp x y z t)] rfl rfl rfl ?_ (by repeat' (first | exact True.intro | refine And.intro ?_ ?_ | assumption))
  refine S.g false rfl ?_
  exact S.retv rfl rfl rfl rfl rfl
theorem Qfd {x1 y1 z1 t1 : List Int} {a1 b1 c1 : Int} (hx1 : QA x1 a1) (hy1 : QA y1 b1) (hz1 : QA z1 c1) : ∃ x y, QA x (a1 * QdD c1 % pV) /\ QA y (b1 * QdD c1 % pV) /\ PV Tryd.prog gT 38 [sp x1 y1 z1 t1] (pl x y) := by
  obtain ⟨i, fi, qi⟩ := Kp hz1
  obtain ⟨x, fx, qx⟩ := QX hx1 fi
  obtain ⟨y, fy, qy⟩ := QX hy1 fi
  refine ⟨x, y, fx, fy, PV.mk' Tryd.func38 rfl rfl rfl rfl fun w L hL hG => ?_⟩
  clear fi fx fy hx1 hy1 hz1
  refine S.enter Qm [sp x1 y1 z1 t1] gT Tryd.func38 rfl rfl rfl (fun _ => rfl) hL hG ?_
  refine S.g false rfl ?_
  refine S.cv rfl rfl rfl rfl rfl rfl qi ?_
  refine S.g false rfl ?_
  refine S.drp false [(4, lm x), (9, lm y)] rfl rfl rfl ?_ (by repeat' (first | exact True.intro | refine And.intro ?_ ?_ | assumption))
  refine S.g false rfl ?_
  exact S.retv rfl rfl rfl rfl rfl
/-- A point's bytes: y, and whether x is odd. -/
def HK (u v : Int) : List Int := if u % 2 = 1 then (QD v).set 31 (bits .or .u8 ((QD v).getD 31 0) 128) else QD v
theorem Qb2 {u v : Int} (h : u % 2 = 1) : (QD v).set 31 (bits .or .u8 ((QD v).getD 31 0) 128) = HK u v := by unfold HK; rw [if_pos h]
theorem Qaf {u v : Int} (h : ¬ u % 2 = 1) : QD v = HK u v := by unfold HK; rw [if_neg h]
theorem Qbq {x y : List Int} {u v : Int} (hx : QA x u) (hy : QA y v) : PV Tryd.prog gT 39 [pl x y] (.a .u8 (HK u v) 32) := by
  have h1 := VM hy
  have h2 := QbA hx
  have e1 := @Qb2 u v
  have e2 := @Qaf u v
  have hl : (QD v).length = 32 := Qu v
  generalize HK u v = E at *
  generalize QD v = Z at *
  clear hx hy
  refine PV.mk' Tryd.func39 rfl rfl rfl rfl fun w L hL hG => ?_
  refine S.enter Qm [pl x y] gT Tryd.func39 rfl rfl rfl (fun _ => rfl) hL hG ?_
  refine S.g false rfl ?_
  refine S.cv rfl rfl rfl rfl rfl rfl h1 ?_
  refine S.go false rfl (by repeat' (first | exact True.intro | refine And.intro ?_ ?_ | assumption | exact rfl)) ?_
  refine S.cv rfl rfl rfl rfl rfl rfl h2 ?_
  refine S.g false rfl ?_
  refine S.cond rfl (fun c => ?_) (fun c => ?_)
  . rw [<- e1 c]
    have hl' : (Z.set 31 (bits .or .u8 (Z.getD 31 0) 128)).length = 32 := by rw [List.length_set]; exact hl
    refine S.go false rfl (by repeat' (first | exact True.intro | refine And.intro ?_ ?_ | exact hl | exact hl' | exact rfl)) ?_
    exact S.retv rfl rfl rfl rfl rfl
  . rw [<- e2 c]
    refine S.go false rfl (by repeat' (first | exact True.intro | refine And.intro ?_ ?_ | exact hl | exact rfl)) ?_
    exact S.retv rfl rfl rfl rfl rfl
end Go.Proofs.YtbiboamaigedjaaDoor
namespace Go.Proofs.YtbiboamaigedjaaDoor
set_option linter.unusedVariables false
set_option maxRecDepth 100000

instance instPN : NeZero pN := ⟨by decide +kernel⟩
/-- Numbers modulo p. -/
abbrev FF := Fin pN
theorem FF.dvd {a : FF} (h : pN ∣ a.val) : a = 0 := by
  have hl := a.isLt
  have h0 : a.val = 0 := Nat.eq_zero_of_dvd_of_lt h hl
  exact Fin.ext h0
theorem JS {a b : FF} (h : a*b = 0) : a = 0 \/ b = 0 := by
  have hv : (a*b).val = 0 := by rw [h]; rfl
  rw [Fin.val_mul] at hv
  rcases YA.euclid (Nat.dvd_of_mod_eq_zero hv) with d | d
  . exact .inl (FF.dvd d)
  . exact .inr (FF.dvd d)
/-- An inverse, by Fermat. -/
def X5 (a : FF) : FF := ⟨a.val ^ (pN - 2) % pN, Nat.mod_lt _ (by decide +kernel)⟩
theorem ZH {a : FF} (h : a ≠ 0) : a*X5 a = 1 := by
  have hn : ¬ pN ∣ a.val := fun d => h (FF.dvd d)
  have hf := YA.fermat hn
  apply Fin.ext
  rw [Fin.val_mul]
  show a.val * (a.val ^ (pN - 2) % pN) % pN = 1
  rw [Nat.mul_mod, Nat.mod_mod, <- Nat.mul_mod, Nat.mul_comm, <- Nat.pow_succ, show (pN - 2).succ = pN - 1 by decide +kernel, hf]
  decide +kernel
def dF : FF := 37095705934669439343138083508754565189542113879843219016388785533085940283555
def eF : FF := 29203323570479832313932222820853031755424015489030106335172286495629888845891
def iF : FF := 19681161376707505956807079304988542015446066515923890162744021073123829784752
theorem Yg : dF*eF = 1 := by decide +kernel
theorem Qcn : dF.val ^ ((pN - 1) / 2) % pN = pN - 1 := by
  have h := FP pN dF.val 256 ((pN - 1) / 2) (by decide +kernel)
  rw [<- h]
  decide +kernel
theorem Qev (s : FF) : s*s ≠ dF := by
  intro h
  have hs : s ≠ 0 := by rintro rfl; exact absurd h (by decide +kernel)
  have hn : ¬ pN ∣ s.val := fun d => hs (FF.dvd d)
  have hf := YA.fermat hn
  have he := Qcn
  rw [<- h, Fin.val_mul, <- Nat.pow_mod, Nat.mul_pow, <- Nat.pow_add, show (pN - 1) / 2 + (pN - 1) / 2 = pN - 1 by decide +kernel, hf] at he
  exact absurd he (by decide +kernel)
def On (d x y : FF) : Prop := y*y - x*x = 1 + d*(x*x)*(y*y)
theorem ZZ {d e x y : FF} (hde : d*e = 1) (h : On d x y) : x*x*(y*y) = e*(y*y - x*x - 1) := by unfold On at h; grobner
theorem Qbx {d e x1 y1 x2 y2 : FF} (hde : d*e = 1) (h1 : x1*x1*(y1*y1) = e*(y1*y1 - x1*x1 - 1)) (h2 : x2*x2*(y2*y2) = e*(y2*y2 - x2*x2 - 1)) (t m n : FF) (ht : t = d*x1*x2*y1*y2) (hm : m = x1*y2+x2*y1) (hn : n = y1*y2+x1*x2) :
   (n*(1+t))*(n*(1+t)) - (m*(1-t))*(m*(1-t)) = ((1+t)*(1-t))*((1+t)*(1-t)) + d*(m*n)*(m*n) := by
  subst ht hm hn; grobner
theorem QeW {d m n t a b : FF} (hk : (n*(1+t))*(n*(1+t)) - (m*(1-t))*(m*(1-t)) = ((1+t)*(1-t))*((1+t)*(1-t)) + d*(m*n)*(m*n)) (ha : a*(1+t) = 1) (hb : b*(1-t) = 1) : On d (m*a) (n*b) := by
  unfold On
  have e1 : n*b*(n*b) = (n*(1+t))*(n*(1+t)) * (a*b*(a*b)) := by grobner
  have e2 : m*a*(m*a) = (m*(1-t))*(m*(1-t)) * (a*b*(a*b)) := by grobner
  have e3 : ((1+t)*(1-t))*((1+t)*(1-t)) * (a*b*(a*b)) = 1 := by grobner
  grobner
theorem Qf8 {d e x1 y1 x2 y2 i ε : FF} (hde : d*e=1) (h1 : x1*x1*(y1*y1) = e*(y1*y1 - x1*x1 - 1)) (h2 : x2*x2*(y2*y2) = e*(y2*y2 - x2*x2 - 1)) (hi : i*i = -1) (he : ε*ε = 1) (ht : d*x1*x2*y1*y2 = ε) :
  (i*x1 + ε*y1)*(i*x1 + ε*y1) = d*(x1*y1*(i*x2 + y2))*(x1*y1*(i*x2+y2)) := by
  grobner
theorem QbX : iF*iF = -1 := by decide +kernel
theorem Eg {a b c : FF} (ha : a ≠ 0) (h : a*b = a*c) : b = c := by
  rcases JS (a := a) (b := b - c) (by grobner) with h | h
  . exact absurd h ha
  . grobner
theorem HW {x1 y1 x2 y2 ε : FF} (h1 : On dF x1 y1) (h2 : On dF x2 y2) (he : ε*ε = 1) : dF*x1*x2*y1*y2 ≠ ε := by
  intro ht
  have k1 := ZZ Yg h1
  have k2 := ZZ Yg h2
  have hne : ε ≠ 0 := by rintro rfl; exact absurd he (by decide +kernel)
  have hx1 : x1 ≠ 0 := by rintro rfl; exact hne (by grobner)
  have hy1 : y1 ≠ 0 := by rintro rfl; exact hne (by grobner)
  have hx2 : x2 ≠ 0 := by rintro rfl; exact hne (by grobner)
  have hy2 : y2 ≠ 0 := by rintro rfl; exact hne (by grobner)
  have step : ∀ η : FF, η*η = 1 -> ∀ v, (iF*x1 + η*y1)*(iF*x1 + η*y1) = dF*(x1*y1*v)*(x1*y1*v) -> v = 0 := by
    intro η hη v hv
    refine Classical.byContradiction fun hv0 => ?_
    have hz : x1*y1*v ≠ 0 := fun e => by
      rcases JS e with e | e
      . rcases JS e with e | e
        . exact hx1 e
        . exact hy1 e
      . exact hv0 e
    have hi := ZH hz
    refine Qev ((iF*x1 + η*y1)*X5 (x1*y1*v)) ?_
    generalize x1*y1*v = z at *
    generalize iF*x1 + η*y1 = u at *
    generalize X5 z = f at *
    have e1 : u*f*(u*f) = u*u*(f*f) := by grobner
    have e2 : dF*z*z*(f*f) = dF*(z*f)*(z*f) := by grobner
    rw [e1, hv, e2, hi]
    grobner
  have a1 := step ε he (iF*x2+y2) (Qf8 Yg k1 k2 QbX he ht)
  have a2 := step (-ε) (by grobner) (iF*x2-y2) (by have := Qf8 (ε := -ε) (y2 := -y2) (x2 := x2) (y1 := y1) (x1 := x1) Yg k1 (by grobner) QbX (by grobner) (by grobner); grobner)
  have h2 : (2 : FF)*y2 = 0 := by grobner
  rcases JS h2 with h | h
  . exact absurd h (by decide +kernel)
  . exact hy2 h
theorem JU {x1 y1 x2 y2 : FF} (h1 : On dF x1 y1) (h2 : On dF x2 y2) : 1 + dF*x1*x2*y1*y2 ≠ 0 := fun h => HW (ε := -1) h1 h2 (by decide +kernel) (by grobner)
theorem JT {x1 y1 x2 y2 : FF} (h1 : On dF x1 y1) (h2 : On dF x2 y2) : 1 - dF*x1*x2*y1*y2 ≠ 0 := fun h => HW (ε := 1) h1 h2 (by decide +kernel) (by grobner)
structure Pt where
  x : FF
  y : FF
  on : On dF x y
theorem Pt.ext {P Q : Pt} (hx : P.x = Q.x) (hy : P.y = Q.y) : P = Q := by cases P; cases Q; simp_all
theorem QdF {a : FF} (h : a ≠ 0) : X5 a * a = 1 := by have := ZH h; grobner
def Qf (P Q : Pt) : Pt where
  x := (P.x*Q.y + Q.x*P.y)*X5 (1 + dF*P.x*Q.x*P.y*Q.y)
  y := (P.y*Q.y + P.x*Q.x)*X5 (1 - dF*P.x*Q.x*P.y*Q.y)
  on := QeW (Qbx Yg (ZZ Yg P.on) (ZZ Yg Q.on) _ _ _ rfl rfl rfl) (QdF (JU P.on Q.on)) (QdF (JT P.on Q.on))
def Qy : Pt := ⟨0, 1, by unfold On; decide +kernel⟩
def XK (P : Pt) : Pt := ⟨-P.x, P.y, by have := P.on; unfold On at *; grobner⟩
theorem Xw (P Q : Pt) : Qf P Q = Qf Q P := by
  apply Pt.ext
  . show (P.x*Q.y + Q.x*P.y)*X5 (1 + dF*P.x*Q.x*P.y*Q.y) = (Q.x*P.y + P.x*Q.y)*X5 (1 + dF*Q.x*P.x*Q.y*P.y)
    have e : dF*P.x*Q.x*P.y*Q.y = dF*Q.x*P.x*Q.y*P.y := by grobner
    rw [e]; grobner
  . show (P.y*Q.y + P.x*Q.x)*X5 (1 - dF*P.x*Q.x*P.y*Q.y) = (Q.y*P.y + Q.x*P.x)*X5 (1 - dF*Q.x*P.x*Q.y*P.y)
    have e : dF*P.x*Q.x*P.y*Q.y = dF*Q.x*P.x*Q.y*P.y := by grobner
    rw [e]; grobner
/-- What a sum is, by products. -/
theorem Yx (P Q : Pt) : (Qf P Q).x * (1 + dF*P.x*Q.x*P.y*Q.y) = P.x*Q.y + Q.x*P.y := by
  have h := QdF (JU P.on Q.on)
  show (P.x*Q.y + Q.x*P.y)*X5 (1 + dF*P.x*Q.x*P.y*Q.y) * (1 + dF*P.x*Q.x*P.y*Q.y) = _
  generalize X5 (1 + dF*P.x*Q.x*P.y*Q.y) = v at *
  generalize (1 + dF*P.x*Q.x*P.y*Q.y) = u at *
  grobner
theorem Yw (P Q : Pt) : (Qf P Q).y * (1 - dF*P.x*Q.x*P.y*Q.y) = P.y*Q.y + P.x*Q.x := by
  have h := QdF (JT P.on Q.on)
  show (P.y*Q.y + P.x*Q.x)*X5 (1 - dF*P.x*Q.x*P.y*Q.y) * (1 - dF*P.x*Q.x*P.y*Q.y) = _
  generalize X5 (1 - dF*P.x*Q.x*P.y*Q.y) = v at *
  generalize (1 - dF*P.x*Q.x*P.y*Q.y) = u at *
  grobner
/-- A sum is told by what it makes with its divisors. -/
theorem EH {P Q R : Pt} (hx : R.x * (1 + dF*P.x*Q.x*P.y*Q.y) = P.x*Q.y + Q.x*P.y) (hy : R.y * (1 - dF*P.x*Q.x*P.y*Q.y) = P.y*Q.y + P.x*Q.x) : Qf P Q = R := by
  have h1 := Yx P Q
  have h2 := Yw P Q
  apply Pt.ext
  . exact Eg (JU P.on Q.on) (by rw [<- hx] at h1; generalize 1 + dF*P.x*Q.x*P.y*Q.y = u at *; grobner)
  . exact Eg (JT P.on Q.on) (by rw [<- hy] at h2; generalize 1 - dF*P.x*Q.x*P.y*Q.y = u at *; grobner)
theorem Xh (P : Pt) : Qf P Qy = P := EH (by simp only [Qy]; grobner) (by simp only [Qy]; grobner)
theorem Hf (P : Pt) : Qf P (XK P) = Qy := by
  have := P.on
  refine EH ?_ ?_ <;> simp only [Qy, XK] <;> unfold On at this <;> grobner
theorem Qd9 {d e x1 y1 x2 y2 x3 y3 : FF} (h0 : d * e = 1) (h1 : x1*x1*(y1*y1) = e*(y1*y1 - x1*x1 - 1)) (h2 : x2*x2*(y2*y2) = e*(y2*y2 - x2*x2 - 1)) (h3 : x3*x3*(y3*y3) = e*(y3*y3 - x3*x3 - 1))
  (m n m' n' t s : FF) (hm : m = x1*y2+x2*y1) (hn : n = y1*y2+x1*x2) (ht : t = d*x1*x2*y1*y2) (hm' : m' = x2*y3+x3*y2) (hn' : n' = y2*y3+x2*x3) (hs : s = d*x2*x3*y2*y3) :
  (m*(1-t)*y3 + n*(1+t)*x3) * ((1+s)*(1-s) + d*m'*n'*x1*y1) = (m'*(1-s)*y1 + n'*(1+s)*x1) * ((1+t)*(1-t) + d*m*n*x3*y3) := by
  subst hm hn ht hm' hn' hs
  grobner
theorem Qd8 {d e x1 y1 x2 y2 x3 y3 : FF} (h0 : d * e = 1) (h1 : x1*x1*(y1*y1) = e*(y1*y1 - x1*x1 - 1)) (h2 : x2*x2*(y2*y2) = e*(y2*y2 - x2*x2 - 1)) (h3 : x3*x3*(y3*y3) = e*(y3*y3 - x3*x3 - 1))
  (m n m' n' t s : FF) (hm : m = x1*y2+x2*y1) (hn : n = y1*y2+x1*x2) (ht : t = d*x1*x2*y1*y2) (hm' : m' = x2*y3+x3*y2) (hn' : n' = y2*y3+x2*x3) (hs : s = d*x2*x3*y2*y3) :
  (n*(1+t)*y3 + m*(1-t)*x3) * ((1+s)*(1-s) - d*m'*n'*x1*y1) = (n'*(1+s)*y1 + m'*(1-s)*x1) * ((1+t)*(1-t) - d*m*n*x3*y3) := by
  subst hm hn ht hm' hn' hs
  grobner
theorem Qgr {s u A B x y r1 r2 : FF} (h : s*u = x*r2 + r1*y) : s*(A*B*u) = x*A*B*r2 + y*B*A*r1 := by
  have e : s*(A*B*u) = s*u*(A*B) := by grobner
  rw [e, h]; grobner
theorem Qgq {s u C D x y p1 p2 : FF} (h : s*u = p1*y + x*p2) : s*(C*D*u) = x*C*D*p2 + y*D*C*p1 := by
  have e : s*(C*D*u) = s*u*(C*D) := by grobner
  rw [e, h]; grobner
theorem Qgp {s u A B x y r1 r2 : FF} (h : s*u = y*r2 + x*r1) : s*(A*B*u) = y*B*A*r2 + x*A*B*r1 := by
  have e : s*(A*B*u) = s*u*(A*B) := by grobner
  rw [e, h]; grobner
theorem Qgs {s u C D x y p1 p2 : FF} (h : s*u = p2*y + p1*x) : s*(C*D*u) = y*D*C*p2 + x*C*D*p1 := by
  have e : s*(C*D*u) = s*u*(C*D) := by grobner
  rw [e, h]; grobner
theorem QQ (P Q R : Pt) : Qf (Qf P Q) R = Qf P (Qf Q R) := by
  have k1 := ZZ Yg P.on
  have k2 := ZZ Yg Q.on
  have k3 := ZZ Yg R.on
  have ax := Qd9 Yg k1 k2 k3 _ _ _ _ _ _ rfl rfl rfl rfl rfl rfl
  have ay := Qd8 Yg k1 k2 k3 _ _ _ _ _ _ rfl rfl rfl rfl rfl rfl
  have p1 := Yx P Q
  have p2 := Yw P Q
  have p3 := Yx Q R
  have p4 := Yw Q R
  have a1 := JU P.on Q.on
  have a2 := JT P.on Q.on
  have a3 := JU Q.on R.on
  have a4 := JT Q.on R.on
  have s1 := Yx (Qf P Q) R
  have s2 := Yw (Qf P Q) R
  have s3 := Yx P (Qf Q R)
  have s4 := Yw P (Qf Q R)
  have b1 := JU (Qf P Q).on R.on
  have b2 := JT (Qf P Q).on R.on
  have b3 := JU P.on (Qf Q R).on
  have b4 := JT P.on (Qf Q R).on
  have nz : ∀ {a b : FF}, a ≠ 0 -> b ≠ 0 -> a * b ≠ 0 := fun ha hb h => (JS h).elim ha hb
  clear k1 k2 k3
  apply Pt.ext
  . generalize (Qf (Qf P Q) R).x = sx at *
    generalize (Qf P (Qf Q R)).x = tx at *
    generalize (Qf P Q).x = x12 at *
    generalize (Qf P Q).y = y12 at *
    generalize (Qf Q R).x = x23 at *
    generalize (Qf Q R).y = y23 at *
    clear s2 s4 ay b2 b4
    have h1 := nz (nz a1 a2) b1
    have h2 := nz (nz a3 a4) b3
    refine Eg (nz h1 h2) ?_
    generalize hA : 1 + dF*P.x*Q.x*P.y*Q.y = A at *
    generalize hB : 1 - dF*P.x*Q.x*P.y*Q.y = B at *
    generalize hC : 1 + dF*Q.x*R.x*Q.y*R.y = C at *
    generalize hD : 1 - dF*Q.x*R.x*Q.y*R.y = D at *
    have e1 : A*B*(1 + dF*x12*R.x*y12*R.y) = A*B + dF*(P.x*Q.y+Q.x*P.y)*(P.y*Q.y+P.x*Q.x)*R.x*R.y := by rw [<- p1, <- p2]; clear ax; grobner
    have e2 : C*D*(1 + dF*P.x*x23*P.y*y23) = C*D + dF*(Q.x*R.y+R.x*Q.y)*(Q.y*R.y+Q.x*R.x)*P.x*P.y := by rw [<- p3, <- p4]; clear ax; grobner
    have e3 : sx*(A*B*(1 + dF*x12*R.x*y12*R.y)) = (P.x*Q.y+Q.x*P.y)*B*R.y + (P.y*Q.y+P.x*Q.x)*A*R.x := by
      rw [<- p1, <- p2]
      exact Qgr s1
    have e4 : tx*(C*D*(1 + dF*P.x*x23*P.y*y23)) = (Q.x*R.y+R.x*Q.y)*D*P.y + (Q.y*R.y+Q.x*R.x)*C*P.x := by
      rw [<- p3, <- p4]
      exact Qgq s3
    rw [<- e3, <- e4, <- e1, <- e2] at ax
    generalize A*B*(1 + dF*x12*R.x*y12*R.y) = U at *
    generalize C*D*(1 + dF*P.x*x23*P.y*y23) = V at *
    clear e1 e2 e3 e4 s1 s3 p1 p2 p3 p4 hA hB hC hD
    grobner
  . generalize (Qf (Qf P Q) R).y = sx at *
    generalize (Qf P (Qf Q R)).y = tx at *
    generalize (Qf P Q).x = x12 at *
    generalize (Qf P Q).y = y12 at *
    generalize (Qf Q R).x = x23 at *
    generalize (Qf Q R).y = y23 at *
    clear s1 s3 ax b1 b3
    have h1 := nz (nz a1 a2) b2
    have h2 := nz (nz a3 a4) b4
    refine Eg (nz h1 h2) ?_
    generalize hA : 1 + dF*P.x*Q.x*P.y*Q.y = A at *
    generalize hB : 1 - dF*P.x*Q.x*P.y*Q.y = B at *
    generalize hC : 1 + dF*Q.x*R.x*Q.y*R.y = C at *
    generalize hD : 1 - dF*Q.x*R.x*Q.y*R.y = D at *
    have e1 : A*B*(1 - dF*x12*R.x*y12*R.y) = A*B - dF*(P.x*Q.y+Q.x*P.y)*(P.y*Q.y+P.x*Q.x)*R.x*R.y := by rw [<- p1, <- p2]; clear ay; grobner
    have e2 : C*D*(1 - dF*P.x*x23*P.y*y23) = C*D - dF*(Q.x*R.y+R.x*Q.y)*(Q.y*R.y+Q.x*R.x)*P.x*P.y := by rw [<- p3, <- p4]; clear ay; grobner
    have e3 : sx*(A*B*(1 - dF*x12*R.x*y12*R.y)) = (P.y*Q.y+P.x*Q.x)*A*R.y + (P.x*Q.y+Q.x*P.y)*B*R.x := by
      rw [<- p1, <- p2]
      exact Qgp s2
    have e4 : tx*(C*D*(1 - dF*P.x*x23*P.y*y23)) = (Q.y*R.y+Q.x*R.x)*C*P.y + (Q.x*R.y+R.x*Q.y)*D*P.x := by
      rw [<- p3, <- p4]
      exact Qgs s4
    rw [<- e3, <- e4, <- e1, <- e2] at ay
    generalize A*B*(1 - dF*x12*R.x*y12*R.y) = U at *
    generalize C*D*(1 - dF*P.x*x23*P.y*y23) = V at *
    clear e1 e2 e3 e4 s2 s4 p1 p2 p3 p4 hA hB hC hD
    grobner
theorem Xu (P : Pt) : Qf Qy P = P := by rw [Xw, Xh]
theorem VA (P : Pt) : Qf (XK P) P = Qy := by rw [Xw, Hf]
theorem Yy {P Q R : Pt} (h : Qf P R = Qf Q R) : P = Q := by
  have h2 : Qf (Qf P R) (XK R) = Qf (Qf Q R) (XK R) := by rw [h]
  rwa [QQ, QQ, Hf, Xh, Xh] at h2
theorem DW (P Q : Pt) : XK (Qf P Q) = Qf (XK P) (XK Q) := by
  refine Yy (R := Qf P Q) ?_
  rw [VA, Xw P Q, QQ, <- QQ (XK Q), VA, Xu, VA]
theorem DU : XK Qy = Qy := Pt.ext (by show -(0 : FF) = 0; decide +kernel) rfl
/-- So many times a point. -/
def Qn : Nat -> Pt -> Pt
  | 0, _ => Qy
  | k + 1, P => Qf (Qn k P) P
theorem G0 (P : Pt) : Qn 1 P = P := Xu P
theorem Q6 (a : Nat) (P : Pt) : ∀ b, Qn (a + b) P = Qf (Qn a P) (Qn b P)
  | 0 => (Xh _).symm
  | b + 1 => by
    show Qf (Qn (a + b) P) P = Qf (Qn a P) (Qf (Qn b P) P)
    rw [Q6 a P b, QQ]
theorem Yo (a : Nat) (P : Pt) : ∀ b, Qn (b * a) P = Qn b (Qn a P)
  | 0 => by rw [Nat.zero_mul]; rfl
  | b + 1 => by
    rw [Nat.succ_mul, Q6, Yo a P b]; rfl
theorem G1 (P : Pt) : ∀ k, Qn k (XK P) = XK (Qn k P)
  | 0 => DU.symm
  | k + 1 => by
    show Qf (Qn k (XK P)) (XK P) = XK (Qf (Qn k P) P)
    rw [G1 P k, DW]
theorem YO : ∀ k, Qn k Qy = Qy
  | 0 => rfl
  | k + 1 => by
    show Qf (Qn k Qy) Qy = Qy
    rw [YO k, Xh]
end Go.Proofs.YtbiboamaigedjaaDoor
namespace Go.Proofs.YtbiboamaigedjaaDoor
open Go.RowKit
set_option linter.unusedVariables false
set_option linter.unusedSimpArgs false
set_option maxRecDepth 8000
set_option maxHeartbeats 2000000

theorem val_mul (a b : FF) : ((a * b).val : Int) = (a.val : Int) * (b.val : Int) % pV := by
  rw [Fin.val_mul, Int.natCast_emod, Int.natCast_mul, Zu]
theorem val_add (a b : FF) : ((a + b).val : Int) = ((a.val : Int) + (b.val : Int)) % pV := by
  rw [Fin.val_add, Int.natCast_emod, Int.natCast_add, Zu]
theorem ZP (a b : FF) : ((a - b).val : Int) = ((a.val : Int) - (b.val : Int)) % pV := by
  have hb := b.isLt
  rw [Fin.sub_def, Zu]
  show (((pN - b.val + a.val) % pN : Nat) : Int) = _
  rw [Int.natCast_emod, Int.natCast_add, Int.natCast_sub (by omega)]
  rw [show ((pN : Int) - (b.val : Int) + (a.val : Int)) = (a.val : Int) - (b.val : Int) + (pN : Int) by omega, Int.add_emod_right]
theorem UB (a : FF) : ((-a).val : Int) = (0 - (a.val : Int)) % pV := by
  have h : -a = 0 - a := by grobner
  rw [h, ZP]; rfl
theorem QaC : (2 : FF) ≠ 0 := by decide +kernel
theorem nz2 {a b : FF} (ha : a ≠ 0) (hb : b ≠ 0) : a * b ≠ 0 := fun h => (JS h).elim ha hb
theorem QfN {x1 y1 x2 y2 d Z1 Z2 x3 : FF} (h : x3 * (1 + d*x1*x2*y1*y2) = x1*y2 + x2*y1) :
    ((y1*Z1 + x1*Z1) * (y2*Z2 + x2*Z2) - (y1*Z1 - x1*Z1) * (y2*Z2 - x2*Z2)) = x3 * ((Z1*Z2 + Z1*Z2) + (x1*y1*Z1 * (x2*y2*Z2) * d + x1*y1*Z1 * (x2*y2*Z2) * d)) := by
  have e : x3 * ((Z1*Z2 + Z1*Z2) + (x1*y1*Z1 * (x2*y2*Z2) * d + x1*y1*Z1 * (x2*y2*Z2) * d)) = (x3 * (1 + d*x1*x2*y1*y2)) * (2 * Z1 * Z2) := by grobner
  rw [e, h]; grobner
theorem QfM {x1 y1 x2 y2 d Z1 Z2 y3 : FF} (h : y3 * (1 - d*x1*x2*y1*y2) = y1*y2 + x1*x2) :
    ((y1*Z1 + x1*Z1) * (y2*Z2 + x2*Z2) + (y1*Z1 - x1*Z1) * (y2*Z2 - x2*Z2)) = y3 * ((Z1*Z2 + Z1*Z2) - (x1*y1*Z1 * (x2*y2*Z2) * d + x1*y1*Z1 * (x2*y2*Z2) * d)) := by
  have e : y3 * ((Z1*Z2 + Z1*Z2) - (x1*y1*Z1 * (x2*y2*Z2) * d + x1*y1*Z1 * (x2*y2*Z2) * d)) = (y3 * (1 - d*x1*x2*y1*y2)) * (2 * Z1 * Z2) := by grobner
  rw [e, h]; grobner
theorem QfO {x1 y1 x2 y2 Z1 Z2 : FF} (h1 : Z1 ≠ 0) (h2 : Z2 ≠ 0) (h : 1 + dF*x1*x2*y1*y2 ≠ 0) : (Z1*Z2 + Z1*Z2) + (x1*y1*Z1 * (x2*y2*Z2) * dF + x1*y1*Z1 * (x2*y2*Z2) * dF) ≠ 0 := by
  have e : (Z1*Z2 + Z1*Z2) + (x1*y1*Z1 * (x2*y2*Z2) * dF + x1*y1*Z1 * (x2*y2*Z2) * dF) = 2 * Z1 * Z2 * (1 + dF*x1*x2*y1*y2) := by grobner
  rw [e]; exact nz2 (nz2 (nz2 QaC h1) h2) h
theorem QfP {x1 y1 x2 y2 Z1 Z2 : FF} (h1 : Z1 ≠ 0) (h2 : Z2 ≠ 0) (h : 1 - dF*x1*x2*y1*y2 ≠ 0) : (Z1*Z2 + Z1*Z2) - (x1*y1*Z1 * (x2*y2*Z2) * dF + x1*y1*Z1 * (x2*y2*Z2) * dF) ≠ 0 := by
  have e : (Z1*Z2 + Z1*Z2) - (x1*y1*Z1 * (x2*y2*Z2) * dF + x1*y1*Z1 * (x2*y2*Z2) * dF) = 2 * Z1 * Z2 * (1 - dF*x1*x2*y1*y2) := by grobner
  rw [e]; exact nz2 (nz2 (nz2 QaC h1) h2) h
theorem Qfy {P : Pt} : P.y*P.y - P.x*P.x = 1 + dF*P.x*P.x*P.y*P.y := by have h := P.on; unfold On at h; rw [h]; grobner
def c5 (x : List Int) : List Int := [Qa x 0, Qa x 1, Qa x 2, Qa x 3, Qa x 4]
/-- A point in space, its numbers as one. -/
def fp (l : List Int) : SV := .g [.a .u64 l 20]
def l20 (x y z t : List Int) : List Int := c5 x ++ (c5 y ++ (c5 z ++ c5 t))
theorem EY (x y z t : List Int) : (l20 x y z t).length = 20 := rfl
theorem J0 (ρ : Qs) (x y z t : List Int) : (sp x y z t).den ρ = (fp (l20 x y z t)).den ρ := by
  simp only [sp, fp, l20, c5, SV.den, Qd, SV.cs, List.cons_append, List.nil_append, List.map_cons, List.map_nil]
/-- These are a point's numbers, times some divisor. -/
def XF (l : List Int) (P : Pt) : Prop := ∃ x y z t : List Int, ∃ Z : FF, l = l20 x y z t /\ Z ≠ 0 /\ QA x ((P.x * Z : FF).val : Int) /\ QA y ((P.y * Z : FF).val : Int) /\ QA z (Z.val : Int) /\ QA t ((P.x * P.y * Z : FF).val : Int)
theorem XF.len {l : List Int} {P : Pt} (h : XF l P) : l.length = 20 := by obtain ⟨x, y, z, t, Z, rfl, _⟩ := h; exact EY x y z t
theorem Qcl : dV = (dF.val : Int) := by decide +kernel
theorem Qat {l m : List Int} {P Q : Pt} (hp : XF l P) (hq : XF m Q) : ∃ r, XF r (Qf P Q) /\ PV Tryd.prog gT 68 [fp l, fp m] (fp r) := by
  obtain ⟨x1, y1, z1, t1, Z1, rfl, hz1, p1, p2, p3, p4⟩ := hp
  obtain ⟨x2, y2, z2, t2, Z2, rfl, hz2, q1, q2, q3, q4⟩ := hq
  obtain ⟨A, B, C, F, hA, hB, hC, hF, x, y, z, t, k1, k2, k3, k4, k5⟩ := Qez p1 p2 p3 p4 q1 q2 q3 q4
  rw [Qcl] at hC
  simp only [<- val_mul, <- val_add, <- ZP] at hA hB hC hF
  subst hA hB hC hF
  simp only [<- val_mul, <- val_add, <- ZP] at k1 k2 k3 k4
  have hx := QfN (Z1 := Z1) (Z2 := Z2) (Yx P Q)
  have hy := QfM (Z1 := Z1) (Z2 := Z2) (Yw P Q)
  have hg := QfO hz1 hz2 (JU P.on Q.on)
  have hf := QfP hz1 hz2 (JT P.on Q.on)
  rw [hx] at k1 k4
  rw [hy] at k2 k4
  generalize (Z1*Z2 + Z1*Z2) + (P.x*P.y*Z1 * (Q.x*Q.y*Z2) * dF + P.x*P.y*Z1 * (Q.x*Q.y*Z2) * dF) = g at *
  generalize (Z1*Z2 + Z1*Z2) - (P.x*P.y*Z1 * (Q.x*Q.y*Z2) * dF + P.x*P.y*Z1 * (Q.x*Q.y*Z2) * dF) = f at *
  refine ⟨l20 x y z t, ⟨x, y, z, t, f * g, rfl, nz2 hf hg, ?_, ?_, k3, ?_⟩, ?_⟩
  . have e : (Qf P Q).x * (f * g) = (Qf P Q).x * g * f := by grobner
    rw [e]; exact k1
  . have e : (Qf P Q).y * (f * g) = g * ((Qf P Q).y * f) := by grobner
    rw [e]; exact k2
  . have e : (Qf P Q).x * (Qf P Q).y * (f * g) = (Qf P Q).x * g * ((Qf P Q).y * f) := by grobner
    rw [e]; exact k4
  . exact (k5.arg (by simp only [Qr, J0]) rfl).res (J0 _ _ _ _ _) rfl
theorem YY {l : List Int} {P : Pt} (hp : XF l P) : ∃ r, XF r (Qf P P) /\ PV Tryd.prog gT 67 [fp l] (fp r) := by
  obtain ⟨x1, y1, z1, t1, Z, rfl, h1, p1, p2, p3, p4⟩ := hp
  obtain ⟨A, B, C, E, G, H, hA, hB, hC, hE, hG, hH, x, y, z, t, k1, k2, k3, k4, k5⟩ := Qah p1 p2 p3 p4
  simp only [<- val_mul, <- val_add, <- ZP] at hA hB hC
  subst hA hB hC
  simp only [<- val_mul, <- val_add, <- ZP, <- UB] at hE hG hH
  subst hE hG hH
  simp only [<- val_mul, <- val_add, <- ZP] at k1 k2 k3 k4
  have hx := Yx P P
  have hy := Yw P P
  have hg := JU P.on P.on
  have hf := JT P.on P.on
  have ho := Qfy (P := P)
  have eg : (P.y*Z)*(P.y*Z) - (P.x*Z)*(P.x*Z) = Z*Z*(1 + dF*P.x*P.x*P.y*P.y) := by rw [<- ho]; grobner
  have ef : Z*Z*(1 + dF*P.x*P.x*P.y*P.y) - (Z*Z + Z*Z) = -(Z*Z*(1 - dF*P.x*P.x*P.y*P.y)) := by grobner
  have es : (P.y*Z + P.x*Z)*(P.y*Z + P.x*Z) - (P.x*Z)*(P.x*Z) - (P.y*Z)*(P.y*Z) = Z*Z*(P.x*P.y + P.x*P.y) := by grobner
  have eh : -((P.x*Z)*(P.x*Z) + (P.y*Z)*(P.y*Z)) = -(Z*Z*(P.y*P.y + P.x*P.x)) := by grobner
  rw [eg, ef] at k3
  rw [es, eg, ef, <- hx] at k1
  rw [eg, eh, <- hy] at k2
  rw [es, eh, <- hx, <- hy] at k4
  generalize 1 + dF*P.x*P.x*P.y*P.y = g at *
  generalize 1 - dF*P.x*P.x*P.y*P.y = f at *
  have hz2 := nz2 h1 h1
  refine ⟨l20 x y z t, ⟨x, y, z, t, -(Z*Z*f) * (Z*Z*g), rfl, ?_, ?_, ?_, k3, ?_⟩, (k5.arg (by simp only [Qr, J0]) rfl).res (J0 _ _ _ _ _) rfl⟩
  . intro h0
    have h00 : (Z*Z*f)*(Z*Z*g) = 0 := by clear hx hy eg ef es eh ho; grobner
    exact nz2 (nz2 hz2 hf) (nz2 hz2 hg) h00
  . have e : (Qf P P).x * (-(Z*Z*f) * (Z*Z*g)) = Z*Z*((Qf P P).x*g) * -(Z*Z*f) := by clear hx hy eg ef es eh ho; grobner
    rw [e]; exact k1
  . have e : (Qf P P).y * (-(Z*Z*f) * (Z*Z*g)) = Z*Z*g * -(Z*Z*((Qf P P).y*f)) := by clear hx hy eg ef es eh ho; grobner
    rw [e]; exact k2
  . have e : (Qf P P).x * (Qf P P).y * (-(Z*Z*f) * (Z*Z*g)) = Z*Z*((Qf P P).x*g) * -(Z*Z*((Qf P P).y*f)) := by clear hx hy eg ef es eh ho; grobner
    rw [e]; exact k4
/-- A point in space as it is raised. -/
def QcJ (l : List Int) (P : Pt) : Prop := XF l P /\ ∃ x y z t, l = l20 x y z t /\ QA x (P.x.val : Int) /\ QA y (P.y.val : Int)
theorem Yu {x y : List Int} {P : Pt} (hx : QA x (P.x.val : Int)) (hy : QA y (P.y.val : Int)) : ∃ r, QcJ r P /\ PV Tryd.prog gT 34 [pl x y] (fp r) := by
  obtain ⟨t, ht, h⟩ := Qa7 hx hy
  rw [<- val_mul] at ht
  refine ⟨l20 x y [1, 0, 0, 0, 0] t, ⟨⟨x, y, _, t, 1, rfl, by decide +kernel, ?_, ?_, Vx, ?_⟩, x, y, _, t, rfl, hx, hy⟩, h.res (J0 _ _ _ _ _) rfl⟩
  . have e : P.x * 1 = P.x := by grobner
    rw [e]; exact hx
  . have e : P.y * 1 = P.y := by grobner
    rw [e]; exact hy
  . have e : P.x * P.y * 1 = P.x * P.y := by grobner
    rw [e]; exact ht
theorem HG (a : FF) : QdD (a.val : Int) = ((X5 a).val : Int) := by
  show (a.val : Int) ^ (Qh (Vc 235 127) 32).toNat % pV = ((a.val ^ (pN - 2) % pN : Nat) : Int)
  rw [QdE, Int.natCast_emod, Int.natCast_pow, Zu]
theorem F1 {l : List Int} {P : Pt} (hp : XF l P) : ∃ x y, QA x (P.x.val : Int) /\ QA y (P.y.val : Int) /\ PV Tryd.prog gT 38 [fp l] (pl x y) := by
  obtain ⟨x1, y1, z1, t1, Z, rfl, h1, p1, p2, p3, p4⟩ := hp
  obtain ⟨x, y, k1, k2, k3⟩ := Qfd (t1 := t1) p1 p2 p3
  rw [HG, <- val_mul] at k1 k2
  have hi := ZH h1
  have e1 : P.x * Z * X5 Z = P.x := by generalize X5 Z = f at *; grobner
  have e2 : P.y * Z * X5 Z = P.y := by generalize X5 Z = f at *; grobner
  rw [e1] at k1
  rw [e2] at k2
  exact ⟨x, y, k1, k2, k3.arg (by simp only [Qr, J0]) rfl⟩
theorem V7 : ∃ r, XF r Qy /\ PV Tryd.prog gT 66 [] (fp r) := by
  obtain ⟨r, hr, h⟩ := Yu (P := Qy) (x := [0, 0, 0, 0, 0]) (y := [1, 0, 0, 0, 0]) ZB Vx
  have hr := hr.1
  refine ⟨r, hr, PV.mk' Tryd.func66 rfl rfl rfl rfl fun w L hL hG => ?_⟩
  refine S.enter Qm [] gT Tryd.func66 rfl rfl rfl (fun _ => rfl) hL hG ?_
  refine S.g false rfl ?_
  refine S.cv rfl rfl rfl rfl rfl rfl (UG 1 (by omega)) ?_
  refine S.g false rfl ?_
  refine S.cv rfl rfl rfl rfl rfl rfl h ?_
  refine S.go false rfl (by repeat' (first | exact True.intro | refine And.intro ?_ ?_ | exact hr.len | exact rfl)) ?_
  exact S.retv rfl rfl rfl rfl rfl
theorem Qcr {α : Type} {Q : Nat -> α -> Prop} {S : Nat -> α -> α -> Prop} (x0 : α) (h0 : Q 0 x0) (h : ∀ m x, Q m x -> ∃ y, Q (m + 1) y /\ S m x y) : ∃ f : Nat -> α, f 0 = x0 /\ ∀ m, Q m (f m) /\ S m (f m) (f (m + 1)) := by
  let g : (m : Nat) -> { x : α // Q m x } := fun m => Nat.rec ⟨x0, h0⟩ (fun k p => ⟨Classical.choose (h k p.1 p.2), (Classical.choose_spec (h k p.1 p.2)).1⟩) m
  refine ⟨fun m => (g m).1, rfl, fun m => ⟨(g m).2, ?_⟩⟩
  exact (Classical.choose_spec (h m (g m).1 (g m).2)).2
/-- Twenty numbers of a table. -/
def Vp (T : List Int) (k : Nat) : List Int := (T.drop (k * 20)).take 20
def Vs (T r : List Int) (k : Nat) : List Int := T.take (k * 20) ++ (r ++ T.drop (k * 20 + 20))
theorem DQ {T r : List Int} {k : Nat} (hT : T.length = 320) (hr : r.length = 20) (hk : k < 16) : (Vs T r k).length = 320 := by
  unfold Vs; rw [List.length_append, List.length_append, List.length_take, List.length_drop]; omega
theorem FH {T r : List Int} {k : Nat} (hT : T.length = 320) (hr : r.length = 20) (hk : k < 16) : Vp (Vs T r k) k = r := by
  unfold Vp Vs
  have hl : (T.take (k * 20)).length = k * 20 := by rw [List.length_take]; omega
  have e := List.drop_length_add_append (l₁ := T.take (k * 20)) (l₂ := r ++ T.drop (k * 20 + 20)) (i := 0)
  rw [hl, Nat.add_zero, List.drop_zero] at e
  rw [e, List.take_append_of_le_length (by omega), List.take_of_length_le (by omega)]
theorem DO {T r : List Int} {k j : Nat} (hT : T.length = 320) (hk : k < 16) (hj : j < k) : Vp (Vs T r k) j = Vp T j := by
  unfold Vp Vs
  have hl : (T.take (k * 20)).length = k * 20 := by rw [List.length_take]; omega
  rw [List.drop_append_of_le_length (by omega), List.take_append_of_le_length (by rw [List.length_drop]; omega), List.drop_take, List.take_take, Nat.min_eq_left (by omega)]
/-- A point 0 to k times. -/
def Qan (T : List Int) (k : Nat) (P : Pt) : Prop := T.length = 320 /\ ∀ j, j <= k -> XF (Vp T j) (Qn j P)
def Qgw (l : List Int) (k : Nat) (x y : List Int) : Prop := k < 15 -> ∃ r, r.length = 20 /\ PV Tryd.prog gT 68 [fp (Vp x k), fp l] (fp r) /\ y = Vs x r (k + 1)
theorem FX {l : List Int} {P : Pt} (hp : XF l P) (t0 : List Int) (h0 : Qan t0 0 P) : ∃ f : Nat -> List Int, f 0 = t0 /\ ∀ k, (k <= 15 -> Qan (f k) k P) /\ Qgw l k (f k) (f (k + 1)) := by
  refine Qcr (Q := fun k x => k <= 15 -> Qan x k P) t0 (fun _ => h0) (fun k x hx => ?_)
  by_cases hk : k < 15
  . have hq := hx (by omega)
    obtain ⟨r, hr, cr⟩ := Qat (hq.2 k (Nat.le_refl _)) hp
    refine ⟨Vs x r (k + 1), fun _ => ⟨DQ hq.1 hr.len (by omega), fun j hj => ?_⟩, fun _ => ⟨r, hr.len, cr, rfl⟩⟩
    by_cases hjk : j = k + 1
    . subst hjk; rw [FH hq.1 hr.len (by omega)]; exact hr
    . rw [DO hq.1 (by omega) (by omega)]; exact hq.2 j (by omega)
  . exact ⟨x, fun h => absurd h (by omega), fun h => absurd h hk⟩
theorem Qgu {K : IntKind} {l l' : List Int} {n : Nat} (h : l = l') : (SV.a K l n).eqv (SV.a K l' n) := by subst h; exact rfl
set_option maxHeartbeats 1000000 in
theorem YE {l : List Int} {P : Pt} (hp : XF l P) : ∃ T, Qan T 15 P /\ PV Tryd.prog gT 65 [fp l] (.a .u64 T 320) := by
  obtain ⟨n0, hn, hn0⟩ := V7
  have ht0 : Qan (n0 ++ List.replicate 300 0) 0 P := ⟨by rw [List.length_append, hn.len]; rfl, fun j hj => by
    obtain rfl : j = 0 := by omega
    show XF (((n0 ++ List.replicate 300 0).drop (0 * 20)).take 20) Qy
    rw [Nat.zero_mul, List.drop_zero, List.take_append_of_le_length (by rw [hn.len]; omega), List.take_of_length_le (by rw [hn.len]; omega)]
    exact hn⟩
  obtain ⟨F, hF0, hF⟩ := FX hp _ ht0
  refine ⟨F 15, (hF 15).1 (Nat.le_refl _), PV.mk' Tryd.func65 rfl rfl rfl rfl fun w L hL hG => ?_⟩
  have hlen : ∀ k, k <= 15 -> (F k).length = 320 := fun k hk => ((hF k).1 hk).1
  have hll := hp.len
  have hnl := hn.len
  refine S.enter Qm [fp l] gT Tryd.func65 rfl rfl rfl (fun _ => rfl) hL hG ?_
  refine S.go false rfl (by repeat' (first | exact True.intro | refine And.intro ?_ ?_ | exact hll | exact rfl)) ?_
  refine S.cv rfl rfl rfl rfl rfl rfl hn0 ?_
  refine S.go false rfl (by repeat' (first | exact True.intro | refine And.intro ?_ ?_ | exact hnl | exact rfl)) ?_
  refine S.recell 2 [.a .u64 (F 0) 320] rfl (fun ρ => ?_) ⟨hlen 0 (by omega), trivial⟩ rfl ?_
  . rw [hF0]; simp only [Qd, SV.cs, List.append_nil, List.map_append]; first | done | rfl
  refine S.loop [1, 2, 3] (fun k : Nat => [(7, .i .i64 (k : Int))]) (fun k => [(0, [.a .u64 l 20]), (1, [.a .u64 (List.replicate 320 0) 320]), (2, [.a .u64 (F k) 320])]) (fun _ => []) (fun k => k <= 15) (fun k => 15 - k) 0 rfl (fun _ => rfl) (fun _ => rfl) rfl ⟨⟨rfl, rfl⟩, trivial⟩ (by repeat' (first | exact True.intro | refine And.intro ?_ ?_ | exact hll | exact hlen 0 (by omega) | exact rfl)) (fun _ _ _ => trivial) (by omega) fun J k hk again => ?_
  have hk' : k <= 15 := hk
  have hFk := hlen k hk'
  refine S.g false rfl ?_
  refine S.cond rfl (fun c => ?_) (fun c => ?_)
  . have c' : k < 15 := by omega
    obtain ⟨r, hrl, hw, hy⟩ := (hF k).2 c'
    have hw' := hw.arg (args' := [.g [.a .u64 (((F k).drop (Nat.add 0 (Nat.mul (Int.toNat (k : Int)) 20))).take 20) 20], fp l]) (congrArg (fun z => Qr Qt [SV.g [.a .u64 z 20], fp l]) (by unfold Vp; congr 2; simp)) rfl
    refine S.g false rfl ?_
    refine S.drp false [(6, fp r)] rfl rfl rfl ?_ (by repeat' (first | exact True.intro | refine And.intro ?_ ?_ | omega | (dsimp only; omega) | exact hrl | exact hw' | exact rfl))
    refine S.g false rfl ?_
    refine S.again (again (k + 1) (show k + 1 <= 15 by omega) (show 15 - (k + 1) < 15 - k by omega)) ⟨⟨rfl, by omega⟩, rfl, rfl, rfl, trivial⟩ ?_ rfl rfl (fun x hx => hx) rfl (fun ρ W h => h.hs)
    repeat' (first | exact True.intro | refine And.intro ?_ ?_ | exact hll | exact hlen (k + 1) (by omega) | exact Qgu (by rw [hy]; unfold Vs; simp only [show Int.toNat ((k : Int) + 1) = k + 1 by omega, Nat.add_eq, Nat.mul_eq, Nat.zero_add]) | exact rfl)
  . obtain rfl : k = 15 := by omega
    refine S.g false rfl ?_
    exact S.retv rfl rfl rfl rfl rfl
def kB (kb : List Int) : Nat := (Qh kb 32).toNat
theorem Qgb {kb : List Int} (h : Qb kb) : kB kb < 2 ^ 256 := by
  have := XV kb h
  unfold kB
  omega
theorem Qd3 {kb : List Int} (h : Qb kb) (j : Nat) (hj : j < 256) : Ui kb j = ((kB kb / 2 ^ j % 2 : Nat) : Int) := by
  have h0 := (XV kb h).1
  rw [H3 kb h 32 j (by omega)]
  unfold kB
  rw [Int.natCast_emod, Int.natCast_ediv, Int.natCast_pow, Int.toNat_of_nonneg h0]
  rfl
/-- A sum of so many points. -/
def Za : Nat -> (Nat -> Pt) -> Pt
  | 0, _ => Qy
  | n + 1, F => Qf (Za n F) (F n)
theorem Ke (a b c d : Pt) : Qf (Qf a b) (Qf c d) = Qf (Qf a c) (Qf b d) := by
  rw [QQ, <- QQ b, Xw b c, QQ c, <- QQ a]
theorem GW (F G : Nat -> Pt) : ∀ n, Za n (fun j => Qf (F j) (G j)) = Qf (Za n F) (Za n G)
  | 0 => (Xh Qy).symm
  | n + 1 => by
    show Qf (Za n (fun j => Qf (F j) (G j))) (Qf (F n) (G n)) = Qf (Qf (Za n F) (F n)) (Qf (Za n G) (G n))
    rw [GW F G n, Ke]
theorem Y6 {F G : Nat -> Pt} : ∀ n, (∀ j, j < n -> F j = G j) -> Za n F = Za n G
  | 0, _ => rfl
  | n + 1, h => by
    show Qf (Za n F) (F n) = Qf (Za n G) (G n)
    rw [Y6 n (fun j hj => h j (by omega)), h n (by omega)]
theorem QgW (A : Pt) : Qf (Qf (Qf (Qf A A) (Qf A A)) (Qf (Qf A A) (Qf A A))) (Qf (Qf (Qf A A) (Qf A A)) (Qf (Qf A A) (Qf A A))) = Qn 16 A := by
  have h2 : Qf A A = Qn 2 A := by rw [show (2 : Nat) = 1 + 1 from rfl, Q6, G0]
  have h4 : Qf (Qn 2 A) (Qn 2 A) = Qn 4 A := (Q6 2 A 2).symm
  have h8 : Qf (Qn 4 A) (Qn 4 A) = Qn 8 A := (Q6 4 A 4).symm
  have h16 : Qf (Qn 8 A) (Qn 8 A) = Qn 16 A := (Q6 8 A 8).symm
  rw [h2, h4, h8, h16]
theorem J4 (A B : Pt) : ∀ k, Qn k (Qf A B) = Qf (Qn k A) (Qn k B)
  | 0 => (Xh Qy).symm
  | k + 1 => by
    show Qf (Qn k (Qf A B)) (Qf A B) = Qf (Qf (Qn k A) A) (Qf (Qn k B) B)
    rw [J4 A B k, Ke]
theorem J1 (k : Nat) (F : Nat -> Pt) : ∀ n, Qn k (Za n F) = Za n (fun j => Qn k (F j))
  | 0 => YO k
  | n + 1 => by
    show Qn k (Qf (Za n F) (F n)) = Qf (Za n fun j => Qn k (F j)) (Qn k (F n))
    rw [J4, J1 k F n]
/-- Four bits of a number, the at-th from below. -/
def nib (kb : List Int) (at_ : Nat) : Int := Qa kb (at_ / 2) / 2 ^ (4 * (at_ % 2)) % 16
theorem Qe1 (kb : List Int) (at_ : Nat) : 0 <= nib kb at_ /\ nib kb at_ < 16 := by unfold nib; omega
theorem Qe2 {kb : List Int} (h : Qb kb) (t : Nat) (ht : t < 64) : nib kb t = ((kB kb / 16 ^ t % 16 : Nat) : Int) := by
  have e16 : (16 : Nat) ^ t = 2 ^ (4 * t) := by rw [show (16 : Nat) = 2 ^ 4 from rfl, <- Nat.pow_mul]
  rw [e16]
  have hb := fun i (hi : i < 4) => Qd3 h (4 * t + i) (by omega)
  have hd : ∀ i, i < 4 -> Ui kb (4 * t + i) = Qa kb (t / 2) / 2 ^ (4 * (t % 2)) / 2 ^ i % 2 := by
    intro i hi
    unfold Ui
    rw [show (4 * t + i) / 8 = t / 2 by omega, show (4 * t + i) % 8 = 4 * (t % 2) + i by omega, Int.pow_add, Int.ediv_ediv_of_nonneg (Int.le_of_lt (QP _))]
  have hk : ∀ i, kB kb / 2 ^ (4 * t + i) = kB kb / 2 ^ (4 * t) / 2 ^ i := fun i => by rw [Nat.pow_add, Nat.div_div_eq_div_mul]
  have h0 := hb 0 (by omega); have h1 := hb 1 (by omega); have h2 := hb 2 (by omega); have h3 := hb 3 (by omega)
  rw [hd 0 (by omega), hk] at h0
  rw [hd 1 (by omega), hk] at h1
  rw [hd 2 (by omega), hk] at h2
  rw [hd 3 (by omega), hk] at h3
  unfold nib
  have hx := h.at (t / 2)
  have hn : 0 <= Qa kb (t / 2) / 2 ^ (4 * (t % 2)) := Int.ediv_nonneg hx.1 (Int.le_of_lt (QP _))
  generalize Qa kb (t / 2) / 2 ^ (4 * (t % 2)) = y at *
  generalize kB kb / 2 ^ (4 * t) = X at *
  simp only [Int.reducePow, Nat.reducePow] at *
  omega
theorem QaH {K t : Nat} (P : Pt) : Qf (Qn 16 (Qn (K / 16 ^ (t + 1)) P)) (Qn (K / 16 ^ t % 16) P) = Qn (K / 16 ^ t) P := by
  rw [<- Yo, <- Q6]
  congr 1
  rw [Nat.pow_succ, <- Nat.div_div_eq_div_mul]
  omega
theorem DC {x : Int} (h : 0 <= x /\ x <= 255) : bits BinOp.and IntKind.u8 x 15 = x % 16 := Y1 (p := fun y => bits BinOp.and IntKind.u8 y 15 = y % 16) (by decide +kernel) h
/-- Four bits, as the program takes them. -/
def Z3 (kb : List Int) (k : Nat) : Int := bits .and .u8 (kb.getD (Int.toNat ((63 - (k : Int)) / 2)) 0 / 2 ^ Int.toNat (4 * ((63 - (k : Int)) % 2))) 15
theorem Qdw {kb : List Int} (h : Qb kb) {k : Nat} (hk : k < 64) : Z3 kb k = nib kb (63 - k) := by
  unfold Z3 nib
  have e1 : Int.toNat ((63 - (k : Int)) / 2) = (63 - k) / 2 := by omega
  have e2 : Int.toNat (4 * ((63 - (k : Int)) % 2)) = 4 * ((63 - k) % 2) := by omega
  rw [e1, e2]
  have e3 : kb.getD ((63 - k) / 2) 0 = Qa kb ((63 - k) / 2) := by simp [Qa]
  rw [e3, DC]
  exact JD (h.at _) _
/-- One turn: four times twice as much, then each point's table. -/
def Qgv (n : Nat) (kb T : Nat -> List Int) (i : Nat) (x y : List Int) : Prop := i < 64 -> ∃ d a : Nat -> List Int, d 0 = x /\ a 0 = d 4 /\ y = a n /\ (∀ c, c <= 4 -> (d c).length = 20) /\ (∀ j, j <= n -> (a j).length = 20) /\
  (∀ c, c < 4 -> PV Tryd.prog gT 67 [fp (d c)] (fp (d (c + 1)))) /\
  (∀ j, j < n -> (0 <= Z3 (kb j) i /\ Z3 (kb j) i < 16) /\ PV Tryd.prog gT 68 [fp (a j), .g [.a .u64 (((T j).drop (Nat.add 0 (Nat.mul (Int.toNat (Z3 (kb j) i)) 20))).take 20) 20]] (fp (a (j + 1))))
set_option maxHeartbeats 1000000 in
theorem Jh {n : Nat} {kb T : Nat -> List Int} {P : Nat -> Pt} (ht : ∀ j, j < n -> Qan (T j) 15 (P j)) (hb : ∀ j, j < n -> Qb (kb j)) (x0 : List Int) (h0 : XF x0 Qy) :
    ∃ f : Nat -> List Int, f 0 = x0 /\ ∀ i, (i <= 64 -> XF (f i) (Za n fun j => Qn (kB (kb j) / 16 ^ (64 - i)) (P j))) /\ Qgv n kb T i (f i) (f (i + 1)) := by
  refine Qcr (Q := fun i x => i <= 64 -> XF x (Za n fun j => Qn (kB (kb j) / 16 ^ (64 - i)) (P j))) x0 (fun _ => ?_) (fun i x hx => ?_)
  . have e : (Za n fun j => Qn (kB (kb j) / 16 ^ (64 - 0)) (P j)) = Qy := by
      rw [Y6 (G := fun _ => Qy) n (fun j hj => by
        rw [Nat.div_eq_of_lt (by have := Qgb (hb j hj); rw [show (16 : Nat) ^ (64 - 0) = 2 ^ 256 by decide]; exact this)]; rfl)]
      clear h0 ht hb
      induction n with
      | zero => rfl
      | succ n ih => show Qf (Za n fun _ => Qy) Qy = Qy; rw [ih, Xh]
    rw [e]; exact h0
  . by_cases hi : i < 64
    . have hq := hx (by omega)
      obtain ⟨d1, r1, c1⟩ := YY hq
      obtain ⟨d2, r2, c2⟩ := YY r1
      obtain ⟨d3, r3, c3⟩ := YY r2
      obtain ⟨d4, r4, c4⟩ := YY r3
      rw [QgW] at r4
      have hin := Qcr (Q := fun j a => j <= n -> XF a (Qf (Qn 16 (Za n fun j => Qn (kB (kb j) / 16 ^ (64 - i)) (P j))) (Za j fun j => Qn (kB (kb j) / 16 ^ (63 - i) % 16) (P j))))
        (S := fun j a b => j < n -> (0 <= Z3 (kb j) i /\ Z3 (kb j) i < 16) /\ PV Tryd.prog gT 68 [fp a, .g [.a .u64 (((T j).drop (Nat.add 0 (Nat.mul (Int.toNat (Z3 (kb j) i)) 20))).take 20) 20]] (fp b))
        d4 (fun _ => by show XF d4 (Qf _ Qy); rw [Xh]; exact r4) (fun j a ha => by
          by_cases hj : j < n
          . have hv := Qe2 (hb j hj) (63 - i) (by omega)
            have hlt := Qe1 (kb j) (63 - i)
            rw [<- Qdw (hb j hj) hi] at hv hlt
            have hr := (ht j hj).2 (Z3 (kb j) i).toNat (by omega)
            have ev : (Z3 (kb j) i).toNat = kB (kb j) / 16 ^ (63 - i) % 16 := by rw [hv]; exact Int.toNat_natCast _
            obtain ⟨b, rb, cb⟩ := Qat (ha (by omega)) hr
            rw [ev, QQ] at rb
            exact ⟨b, fun _ => rb, fun _ => ⟨hlt, cb.arg (congrArg (fun z => Qr Qt [fp a, SV.g [.a .u64 z 20]]) (by unfold Vp; simp)) rfl⟩⟩
          . exact ⟨a, fun h => absurd h (by omega), fun h => absurd h hj⟩)
      obtain ⟨a, ha0, ha⟩ := hin
      have hfin := (ha n).1 (Nat.le_refl _)
      rw [J1, <- GW] at hfin
      refine ⟨a n, fun _ => ?_, fun _ => ⟨fun c => match c with | 0 => x | 1 => d1 | 2 => d2 | 3 => d3 | _ => d4, a, rfl, ha0, rfl, ?_, fun j hj => ((ha j).1 hj).len, ?_, fun j hj => (ha j).2 hj⟩⟩
      . rw [Y6 (G := fun j => Qn (kB (kb j) / 16 ^ (63 - i)) (P j)) n (fun j hj => by
          have h := QaH (K := kB (kb j)) (t := 63 - i) (P j)
          rw [show 63 - i + 1 = 64 - i by omega] at h
          exact h)] at hfin
        rw [show 64 - (i + 1) = 63 - i by omega]
        exact hfin
      . intro c hc
        match c, hc with
        | 0, _ => exact hq.len
        | 1, _ => exact r1.len
        | 2, _ => exact r2.len
        | 3, _ => exact r3.len
        | 4, _ => exact r4.len
        | c + 5, h => omega
      . intro c hc
        match c, hc with
        | 0, _ => exact c1
        | 1, _ => exact c2
        | 2, _ => exact c3
        | 3, _ => exact c4
        | c + 4, h => omega
    . exact ⟨x, fun h => absurd h (by omega), fun h => absurd h hi⟩
abbrev gTn : Nat := gT.length
set_option maxHeartbeats 4000000 in
theorem QdA {k0 l0 : List Int} {P0 : Pt} (hk0 : Qb k0) (hkl0 : k0.length = 32) (hp0 : XF l0 P0) : ∃ r, XF r (Qn (kB k0) P0) /\ ∀ q1 q2, PR Tryd.prog gT 36 [.y q1 0 1 1, .y q2 0 1 1] [(q1, [.a .u8 k0 32]), (q2, [.a .u64 l0 20])] (fp r) := by
  obtain ⟨T0, ht0, hm0⟩ := YE hp0
  obtain ⟨n0, hn, hn0⟩ := V7
  obtain ⟨F, hF0, hF⟩ := Jh (n := 1) (kb := (fun _ : Nat => k0)) (T := (fun _ : Nat => T0)) (P := (fun _ : Nat => P0)) (fun j hj => by
    match j, hj with
    | 0, _ => exact ht0
    | j + 1, h => omega) (fun j hj => by
    match j, hj with
    | 0, _ => exact hk0
    | j + 1, h => omega) n0 hn
  have hlen : ∀ k, k <= 64 -> (F k).length = 20 := fun k hk => ((hF k).1 hk).len
  have hfin := (hF 64).1 (Nat.le_refl _)
  simp only [Za, Nat.sub_self, Nat.pow_zero, Nat.div_one, Xu] at hfin
  refine ⟨F 64, hfin, fun q1 q2 => PR.mk' Tryd.func36 rfl rfl rfl fun ρ w hG hm => ?_⟩
  obtain ⟨b1, -⟩ := hm _ (.head _)
  obtain ⟨b2, -⟩ := hm _ (.tail _ (.head _))
  have r1 := XZ.rows (s := 32) (rows := [k0.map (Value.int .u8)]) (by simpa [Qd, SV.cs] using b1) (by omega) (by simp [hkl0]) (by simp [maxLen])
  have r2 := XZ.rows (s := 20) (rows := [l0.map (Value.int .u64)]) (by simpa [Qd, SV.cs] using b2) (by omega) (by simp [hp0.len]) (by simp [maxLen])
  have hll0 := hp0.len
  have htl0 := ht0.1
  have hnl := hn.len
  refine S.enter Qm [.o (some ⟨ρ.b q1, 0, none⟩) 1 1, .o (some ⟨ρ.b q2, 0, none⟩) 1 1] (gT ++ [fR 32 (.slice (some ⟨ρ.b q1, 0, none⟩) 1 1) [k0.map (Value.int .u8)], fR 20 (.slice (some ⟨ρ.b q2, 0, none⟩) 1 1) [l0.map (Value.int .u64)]]) Tryd.func36 rfl rfl rfl (fun _ => by simp only [Qr, SV.den]) (LL.none w) (hG.app ⟨r1, r2, trivial⟩) ?_
  refine S.slc 0 [.a .u8 k0 32] rfl (fun ρ w h => h.f gTn rfl) (by simp [Qd, SV.cs]) (by simp [XU, SV.wd]) ?_ ⟨hkl0, trivial⟩
  refine S.slc 1 [.a .u64 l0 20] rfl (fun ρ w h => h.f (gTn + 1) rfl) (by simp [Qd, SV.cs]) (by simp [XU, SV.wd]) ?_ ⟨hll0, trivial⟩
  refine S.g false rfl ?_
  refine S.make 1 rfl rfl rfl rfl (s := 320) (bytes := 2560) (by kernel_rfl) rfl rfl rfl rfl rfl (by omega) (by omega) ?_
  refine S.g false rfl ?_
  refine S.rd 17 (.lit .i64 0) rfl (fun _ => rfl) ?_
  refine S.rounds 1 ?_
  refine S.g false rfl ?_
  refine S.condT rfl (by omega) ?_
  refine S.go false rfl (by repeat' (first | exact True.intro | refine And.intro ?_ ?_ | assumption | omega | (dsimp only; omega) | (simp only [Nat.add_eq, Nat.mul_eq, Nat.sub_eq, SV.wd]; omega) | exact rfl)) ?_
  refine S.cv rfl rfl rfl rfl rfl rfl hm0 ?_
  refine S.go false rfl (by repeat' (first | exact True.intro | refine And.intro ?_ ?_ | assumption | omega | (dsimp only; omega) | (simp only [Nat.add_eq, Nat.mul_eq, Nat.sub_eq, SV.wd]; omega) | exact rfl)) ?_
  refine S.rd 17 (.lit .i64 1) rfl (fun _ => rfl) ?_
  refine S.next ?_
  refine S.g false rfl ?_
  refine S.condF rfl (by omega) ?_
  refine S.g false rfl ?_
  refine S.cv rfl rfl rfl rfl rfl rfl hn0 ?_
  refine S.go false rfl (by repeat' (first | exact True.intro | refine And.intro ?_ ?_ | assumption | omega | (dsimp only; omega) | (simp only [Nat.add_eq, Nat.mul_eq, Nat.sub_eq, SV.wd]; omega) | exact rfl)) ?_
  refine S.loop [0, 4, 5, 8] (fun k : Nat => [(29, .i .i64 (k : Int))]) (fun k => [(2, [.i .u64 0, .i .u64 0, .i .u64 0, .i .u64 0, .i .u64 0, .i .u64 0, .i .u64 0, .i .u64 0, .i .u64 0, .i .u64 0, .i .u64 0, .i .u64 0, .i .u64 0, .i .u64 0, .i .u64 0, .i .u64 0, .i .u64 0, .i .u64 0, .i .u64 0, .i .u64 0]), (3, [.a .u64 T0 320]), (5, [.a .u64 (F k) 20])]) (fun _ => []) (fun k => k <= 64) (fun k => 64 - k) 0 rfl (fun _ => rfl) (fun _ => rfl) rfl ⟨⟨rfl, rfl⟩, trivial⟩ (by rw [hF0]; repeat' (first | exact True.intro | refine And.intro ?_ ?_ | assumption | exact rfl)) (fun _ _ _ => trivial) (by omega) fun J k hk again => ?_
  have hk' : k <= 64 := hk
  have hFk := hlen k hk'
  refine S.g false rfl ?_
  refine S.cond rfl (fun c => ?_) (fun c => ?_)
  . have c' : k < 64 := by omega
    obtain ⟨d, a, hd0, ha0, hy, hdl, hal, hdd, haa⟩ := (hF k).2 c'
    have d0 := hdd 0 (by omega)
    have dl1 := hdl 1 (by omega)
    have d1 := hdd 1 (by omega)
    have dl2 := hdl 2 (by omega)
    have d2 := hdd 2 (by omega)
    have dl3 := hdl 3 (by omega)
    have d3 := hdd 3 (by omega)
    have dl4 := hdl 4 (by omega)
    obtain ⟨ni0, aa0⟩ := haa 0 (by omega)
    have al1 := hal 1 (by omega)
    have nj0 : 0 <= Z3 k0 k /\ Z3 k0 k < 16 := ni0
    unfold Z3 at nj0
    rw [hd0] at d0
    rw [ha0] at aa0
    refine S.g false rfl ?_
    refine S.rounds 4 ?_
    refine S.g false rfl ?_
    refine S.condT rfl (by omega) ?_
    refine S.g false rfl ?_
    refine S.cv rfl rfl rfl rfl rfl rfl d0 ?_
    refine S.go false rfl (by repeat' (first | exact True.intro | refine And.intro ?_ ?_ | assumption | omega | (dsimp only; omega) | (simp only [Nat.add_eq, Nat.mul_eq, Nat.sub_eq, SV.wd]; omega) | exact rfl)) ?_
    refine S.next ?_
    refine S.g false rfl ?_
    refine S.condT rfl (by omega) ?_
    refine S.g false rfl ?_
    refine S.cv rfl rfl rfl rfl rfl rfl d1 ?_
    refine S.go false rfl (by repeat' (first | exact True.intro | refine And.intro ?_ ?_ | assumption | omega | (dsimp only; omega) | (simp only [Nat.add_eq, Nat.mul_eq, Nat.sub_eq, SV.wd]; omega) | exact rfl)) ?_
    refine S.next ?_
    refine S.g false rfl ?_
    refine S.condT rfl (by omega) ?_
    refine S.g false rfl ?_
    refine S.cv rfl rfl rfl rfl rfl rfl d2 ?_
    refine S.go false rfl (by repeat' (first | exact True.intro | refine And.intro ?_ ?_ | assumption | omega | (dsimp only; omega) | (simp only [Nat.add_eq, Nat.mul_eq, Nat.sub_eq, SV.wd]; omega) | exact rfl)) ?_
    refine S.next ?_
    refine S.g false rfl ?_
    refine S.condT rfl (by omega) ?_
    refine S.g false rfl ?_
    refine S.cv rfl rfl rfl rfl rfl rfl d3 ?_
    refine S.go false rfl (by repeat' (first | exact True.intro | refine And.intro ?_ ?_ | assumption | omega | (dsimp only; omega) | (simp only [Nat.add_eq, Nat.mul_eq, Nat.sub_eq, SV.wd]; omega) | exact rfl)) ?_
    refine S.next ?_
    refine S.g false rfl ?_
    refine S.condF rfl (by omega) ?_
    refine S.g false rfl ?_
    refine S.rd 41 (.lit .i64 0) rfl (fun _ => rfl) ?_
    refine S.rounds 1 ?_
    refine S.g false rfl ?_
    refine S.condT rfl (by omega) ?_
    refine S.g false rfl ?_
    refine S.drp false [(18, fp (a 1))] rfl rfl rfl ?_ (by repeat' (first | exact True.intro | refine And.intro ?_ ?_ | assumption | omega | (dsimp only; omega) | (simp only [Nat.add_eq, Nat.mul_eq, Nat.sub_eq, SV.wd]; omega) | exact rfl))
    refine S.g false rfl ?_
    refine S.rd 41 (.lit .i64 1) rfl (fun _ => rfl) ?_
    refine S.next ?_
    refine S.g false rfl ?_
    refine S.condF rfl (by omega) ?_
    refine S.g false rfl ?_
    refine S.again (again (k + 1) (show k + 1 <= 64 by omega) (show 64 - (k + 1) < 64 - k by omega)) ⟨⟨rfl, by omega⟩, rfl, rfl, ⟨rfl, rfl, rfl, rfl⟩, rfl, trivial⟩ ?_ rfl rfl (fun x hx => hx) rfl (fun ρ W h => h.hs)
    rw [hy]
    repeat' (first | exact True.intro | refine And.intro ?_ ?_ | assumption | exact rfl)
  . obtain rfl : k = 64 := by omega
    refine S.go false rfl (by repeat' (first | exact True.intro | refine And.intro ?_ ?_ | assumption | omega | (dsimp only; omega) | (simp only [Nat.add_eq, Nat.mul_eq, Nat.sub_eq, SV.wd]; omega) | exact rfl)) ?_
    exact S.retv rfl rfl rfl rfl rfl
set_option maxHeartbeats 4000000 in
theorem Qdz {k0 k1 l0 l1 : List Int} {P0 P1 : Pt} (hk0 : Qb k0) (hkl0 : k0.length = 32) (hp0 : XF l0 P0) (hk1 : Qb k1) (hkl1 : k1.length = 32) (hp1 : XF l1 P1) : ∃ r, XF r (Qf (Qn (kB k0) P0) (Qn (kB k1) P1)) /\ ∀ q1 q2, PR Tryd.prog gT 36 [.y q1 0 2 2, .y q2 0 2 2] [(q1, [.a .u8 k0 32, .a .u8 k1 32]), (q2, [.a .u64 l0 20, .a .u64 l1 20])] (fp r) := by
  obtain ⟨T0, ht0, hm0⟩ := YE hp0
  obtain ⟨T1, ht1, hm1⟩ := YE hp1
  obtain ⟨n0, hn, hn0⟩ := V7
  obtain ⟨F, hF0, hF⟩ := Jh (n := 2) (kb := (fun j : Nat => match j with | 0 => k0 | _ => k1)) (T := (fun j : Nat => match j with | 0 => T0 | _ => T1)) (P := (fun j : Nat => match j with | 0 => P0 | _ => P1)) (fun j hj => by
    match j, hj with
    | 0, _ => exact ht0
    | 1, _ => exact ht1
    | j + 2, h => omega) (fun j hj => by
    match j, hj with
    | 0, _ => exact hk0
    | 1, _ => exact hk1
    | j + 2, h => omega) n0 hn
  have hlen : ∀ k, k <= 64 -> (F k).length = 20 := fun k hk => ((hF k).1 hk).len
  have hfin := (hF 64).1 (Nat.le_refl _)
  simp only [Za, Nat.sub_self, Nat.pow_zero, Nat.div_one, Xu] at hfin
  refine ⟨F 64, hfin, fun q1 q2 => PR.mk' Tryd.func36 rfl rfl rfl fun ρ w hG hm => ?_⟩
  obtain ⟨b1, -⟩ := hm _ (.head _)
  obtain ⟨b2, -⟩ := hm _ (.tail _ (.head _))
  have r1 := XZ.rows (s := 32) (rows := [k0.map (Value.int .u8), k1.map (Value.int .u8)]) (by simpa [Qd, SV.cs] using b1) (by omega) (by simp [hkl0, hkl1]) (by simp [maxLen])
  have r2 := XZ.rows (s := 20) (rows := [l0.map (Value.int .u64), l1.map (Value.int .u64)]) (by simpa [Qd, SV.cs] using b2) (by omega) (by simp [hp0.len, hp1.len]) (by simp [maxLen])
  have hll0 := hp0.len
  have htl0 := ht0.1
  have hll1 := hp1.len
  have htl1 := ht1.1
  have hnl := hn.len
  refine S.enter Qm [.o (some ⟨ρ.b q1, 0, none⟩) 2 2, .o (some ⟨ρ.b q2, 0, none⟩) 2 2] (gT ++ [fR 32 (.slice (some ⟨ρ.b q1, 0, none⟩) 2 2) [k0.map (Value.int .u8), k1.map (Value.int .u8)], fR 20 (.slice (some ⟨ρ.b q2, 0, none⟩) 2 2) [l0.map (Value.int .u64), l1.map (Value.int .u64)]]) Tryd.func36 rfl rfl rfl (fun _ => by simp only [Qr, SV.den]) (LL.none w) (hG.app ⟨r1, r2, trivial⟩) ?_
  refine S.slc 0 [.a .u8 k0 32, .a .u8 k1 32] rfl (fun ρ w h => h.f gTn rfl) (by simp [Qd, SV.cs]) (by simp [XU, SV.wd]) ?_ ⟨hkl0, hkl1, trivial⟩
  refine S.slc 1 [.a .u64 l0 20, .a .u64 l1 20] rfl (fun ρ w h => h.f (gTn + 1) rfl) (by simp [Qd, SV.cs]) (by simp [XU, SV.wd]) ?_ ⟨hll0, hll1, trivial⟩
  refine S.g false rfl ?_
  refine S.make 2 rfl rfl rfl rfl (s := 320) (bytes := 2560) (by kernel_rfl) rfl rfl rfl rfl rfl (by omega) (by omega) ?_
  refine S.g false rfl ?_
  refine S.rd 17 (.lit .i64 0) rfl (fun _ => rfl) ?_
  refine S.rounds 2 ?_
  refine S.g false rfl ?_
  refine S.condT rfl (by omega) ?_
  refine S.go false rfl (by repeat' (first | exact True.intro | refine And.intro ?_ ?_ | assumption | omega | (dsimp only; omega) | (simp only [Nat.add_eq, Nat.mul_eq, Nat.sub_eq, SV.wd]; omega) | exact rfl)) ?_
  refine S.cv rfl rfl rfl rfl rfl rfl hm0 ?_
  refine S.go false rfl (by repeat' (first | exact True.intro | refine And.intro ?_ ?_ | assumption | omega | (dsimp only; omega) | (simp only [Nat.add_eq, Nat.mul_eq, Nat.sub_eq, SV.wd]; omega) | exact rfl)) ?_
  refine S.rd 17 (.lit .i64 1) rfl (fun _ => rfl) ?_
  refine S.next ?_
  refine S.g false rfl ?_
  refine S.condT rfl (by omega) ?_
  refine S.go false rfl (by repeat' (first | exact True.intro | refine And.intro ?_ ?_ | assumption | omega | (dsimp only; omega) | (simp only [Nat.add_eq, Nat.mul_eq, Nat.sub_eq, SV.wd]; omega) | exact rfl)) ?_
  refine S.cv rfl rfl rfl rfl rfl rfl hm1 ?_
  refine S.go false rfl (by repeat' (first | exact True.intro | refine And.intro ?_ ?_ | assumption | omega | (dsimp only; omega) | (simp only [Nat.add_eq, Nat.mul_eq, Nat.sub_eq, SV.wd]; omega) | exact rfl)) ?_
  refine S.rd 17 (.lit .i64 2) rfl (fun _ => rfl) ?_
  refine S.next ?_
  refine S.g false rfl ?_
  refine S.condF rfl (by omega) ?_
  refine S.g false rfl ?_
  refine S.cv rfl rfl rfl rfl rfl rfl hn0 ?_
  refine S.go false rfl (by repeat' (first | exact True.intro | refine And.intro ?_ ?_ | assumption | omega | (dsimp only; omega) | (simp only [Nat.add_eq, Nat.mul_eq, Nat.sub_eq, SV.wd]; omega) | exact rfl)) ?_
  refine S.loop [0, 4, 5, 8] (fun k : Nat => [(29, .i .i64 (k : Int))]) (fun k => [(2, [.i .u64 0, .i .u64 0, .i .u64 0, .i .u64 0, .i .u64 0, .i .u64 0, .i .u64 0, .i .u64 0, .i .u64 0, .i .u64 0, .i .u64 0, .i .u64 0, .i .u64 0, .i .u64 0, .i .u64 0, .i .u64 0, .i .u64 0, .i .u64 0, .i .u64 0, .i .u64 0]), (3, [.a .u64 T0 320, .a .u64 T1 320]), (6, [.a .u64 (F k) 20])]) (fun _ => []) (fun k => k <= 64) (fun k => 64 - k) 0 rfl (fun _ => rfl) (fun _ => rfl) rfl ⟨⟨rfl, rfl⟩, trivial⟩ (by rw [hF0]; repeat' (first | exact True.intro | refine And.intro ?_ ?_ | assumption | exact rfl)) (fun _ _ _ => trivial) (by omega) fun J k hk again => ?_
  have hk' : k <= 64 := hk
  have hFk := hlen k hk'
  refine S.g false rfl ?_
  refine S.cond rfl (fun c => ?_) (fun c => ?_)
  . have c' : k < 64 := by omega
    obtain ⟨d, a, hd0, ha0, hy, hdl, hal, hdd, haa⟩ := (hF k).2 c'
    have d0 := hdd 0 (by omega)
    have dl1 := hdl 1 (by omega)
    have d1 := hdd 1 (by omega)
    have dl2 := hdl 2 (by omega)
    have d2 := hdd 2 (by omega)
    have dl3 := hdl 3 (by omega)
    have d3 := hdd 3 (by omega)
    have dl4 := hdl 4 (by omega)
    obtain ⟨ni0, aa0⟩ := haa 0 (by omega)
    have al1 := hal 1 (by omega)
    have nj0 : 0 <= Z3 k0 k /\ Z3 k0 k < 16 := ni0
    unfold Z3 at nj0
    obtain ⟨ni1, aa1⟩ := haa 1 (by omega)
    have al2 := hal 2 (by omega)
    have nj1 : 0 <= Z3 k1 k /\ Z3 k1 k < 16 := ni1
    unfold Z3 at nj1
    rw [hd0] at d0
    rw [ha0] at aa0
    refine S.g false rfl ?_
    refine S.rounds 4 ?_
    refine S.g false rfl ?_
    refine S.condT rfl (by omega) ?_
    refine S.g false rfl ?_
    refine S.cv rfl rfl rfl rfl rfl rfl d0 ?_
    refine S.go false rfl (by repeat' (first | exact True.intro | refine And.intro ?_ ?_ | assumption | omega | (dsimp only; omega) | (simp only [Nat.add_eq, Nat.mul_eq, Nat.sub_eq, SV.wd]; omega) | exact rfl)) ?_
    refine S.next ?_
    refine S.g false rfl ?_
    refine S.condT rfl (by omega) ?_
    refine S.g false rfl ?_
    refine S.cv rfl rfl rfl rfl rfl rfl d1 ?_
    refine S.go false rfl (by repeat' (first | exact True.intro | refine And.intro ?_ ?_ | assumption | omega | (dsimp only; omega) | (simp only [Nat.add_eq, Nat.mul_eq, Nat.sub_eq, SV.wd]; omega) | exact rfl)) ?_
    refine S.next ?_
    refine S.g false rfl ?_
    refine S.condT rfl (by omega) ?_
    refine S.g false rfl ?_
    refine S.cv rfl rfl rfl rfl rfl rfl d2 ?_
    refine S.go false rfl (by repeat' (first | exact True.intro | refine And.intro ?_ ?_ | assumption | omega | (dsimp only; omega) | (simp only [Nat.add_eq, Nat.mul_eq, Nat.sub_eq, SV.wd]; omega) | exact rfl)) ?_
    refine S.next ?_
    refine S.g false rfl ?_
    refine S.condT rfl (by omega) ?_
    refine S.g false rfl ?_
    refine S.cv rfl rfl rfl rfl rfl rfl d3 ?_
    refine S.go false rfl (by repeat' (first | exact True.intro | refine And.intro ?_ ?_ | assumption | omega | (dsimp only; omega) | (simp only [Nat.add_eq, Nat.mul_eq, Nat.sub_eq, SV.wd]; omega) | exact rfl)) ?_
    refine S.next ?_
    refine S.g false rfl ?_
    refine S.condF rfl (by omega) ?_
    refine S.g false rfl ?_
    refine S.rd 41 (.lit .i64 0) rfl (fun _ => rfl) ?_
    refine S.rounds 2 ?_
    refine S.g false rfl ?_
    refine S.condT rfl (by omega) ?_
    refine S.g false rfl ?_
    refine S.drp false [(18, fp (a 1))] rfl rfl rfl ?_ (by repeat' (first | exact True.intro | refine And.intro ?_ ?_ | assumption | omega | (dsimp only; omega) | (simp only [Nat.add_eq, Nat.mul_eq, Nat.sub_eq, SV.wd]; omega) | exact rfl))
    refine S.g false rfl ?_
    refine S.rd 41 (.lit .i64 1) rfl (fun _ => rfl) ?_
    refine S.next ?_
    refine S.g false rfl ?_
    refine S.condT rfl (by omega) ?_
    refine S.g false rfl ?_
    refine S.drp false [(18, fp (a 2))] rfl rfl rfl ?_ (by repeat' (first | exact True.intro | refine And.intro ?_ ?_ | assumption | omega | (dsimp only; omega) | (simp only [Nat.add_eq, Nat.mul_eq, Nat.sub_eq, SV.wd]; omega) | exact rfl))
    refine S.g false rfl ?_
    refine S.rd 41 (.lit .i64 2) rfl (fun _ => rfl) ?_
    refine S.next ?_
    refine S.g false rfl ?_
    refine S.condF rfl (by omega) ?_
    refine S.g false rfl ?_
    refine S.again (again (k + 1) (show k + 1 <= 64 by omega) (show 64 - (k + 1) < 64 - k by omega)) ⟨⟨rfl, by omega⟩, rfl, rfl, ⟨rfl, rfl, rfl, rfl⟩, rfl, trivial⟩ ?_ rfl rfl (fun x hx => hx) rfl (fun ρ W h => h.hs)
    rw [hy]
    repeat' (first | exact True.intro | refine And.intro ?_ ?_ | assumption | exact rfl)
  . obtain rfl : k = 64 := by omega
    refine S.go false rfl (by repeat' (first | exact True.intro | refine And.intro ?_ ?_ | assumption | omega | (dsimp only; omega) | (simp only [Nat.add_eq, Nat.mul_eq, Nat.sub_eq, SV.wd]; omega) | exact rfl)) ?_
    exact S.retv rfl rfl rfl rfl rfl
theorem QeC (v : Int) : (v % pV).toNat < pN := by
  have h := ZY v
  have e := Zu
  omega
def ofI (v : Int) : FF := ⟨(v % pV).toNat, QeC v⟩
theorem KY (v : Int) : ((ofI v).val : Int) = v % pV := by
  have h := ZY v
  show (((v % pV).toNat : Nat) : Int) = v % pV
  omega
theorem E4 {a b : FF} (h : (a.val : Int) = (b.val : Int)) : a = b := Fin.ext (by omega)
/-- The square of x, by y. -/
def uF (y : FF) : FF := (y*y - 1) * X5 (y*y*dF + 1)
def rF (u : FF) : FF := ofI (rV (u.val : Int))
def okF (u : FF) : Bool := okV (u.val : Int)
theorem FL (u : FF) : ((rF u).val : Int) = rV (u.val : Int) := by
  have h := QfX (u.val : Int)
  rw [rF, KY, Int.emod_eq_of_lt h.1 h.2]
theorem Qa8 {u : FF} (h : okF u = true) : rF u * rF u = u := by
  refine E4 ?_
  rw [val_mul, FL]
  exact QfW h
theorem Qeu (y : FF) : y*y*dF + 1 ≠ 0 := by
  intro h
  by_cases hy : y = 0
  . subst hy
    exact absurd h (by decide +kernel)
  . have hi := ZH hy
    refine Qev (iF * X5 y) ?_
    generalize X5 y = f at *
    have hq := QbX
    grobner
theorem QeV {x y : FF} (hx : x*x = uF y) : On dF x y := by
  have hi := ZH (Qeu y)
  unfold uF at hx
  unfold On
  generalize X5 (y*y*dF + 1) = f at *
  grobner
/-- What 32 bytes say: y, whether x is odd, and x's even value. -/
def YF (b : List Int) : List Int := b.set 31 (Qa b 31 % 128)
def yI (b : List Int) : Int := Qh (YF b) 32
def yF (b : List Int) : FF := ofI (yI b)
def odB (b : List Int) : Bool := decide (128 <= Qa b 31)
def Fh (b : List Int) : FF := rF (uF (yF b))
structure Ye (b : List Int) : Prop where
  low : yI b < pV
  ok : okF (uF (yF b)) = true
  one : ¬ (odB b = true /\ Fh b = 0)
def xF (b : List Int) : FF := if odB b then -Fh b else Fh b
theorem QfL {b : List Int} (h : Ye b) : On dF (xF b) (yF b) := by
  refine QeV ?_
  have hs : Fh b * Fh b = uF (yF b) := Qa8 h.ok
  unfold xF
  cases odB b
  . exact hs
  . rw [<- hs]
    show -Fh b * -Fh b = _
    grobner
def Fi (b : List Int) (h : Ye b) : Pt := ⟨xF b, yF b, QfL h⟩
theorem QbN {b : List Int} (h : b.length = 32) : (YF b).length = 32 := by simp [YF, h]
theorem Vi {b : List Int} (h : Qb b) : Qb (YF b) := by
  intro x hx
  rcases List.mem_or_eq_of_mem_set hx with h1 | h1
  . exact h x h1
  . have := h.at 31
    omega
theorem QcG {x : Int} (hx : 0 <= x /\ x <= 255) (h : 128 <= x) : bits BinOp.and IntKind.u8 x 128 = 128 := by
  have := Y1 (p := fun x => 128 <= x -> bits BinOp.and IntKind.u8 x 128 = 128) (by decide +kernel) hx
  exact this h
theorem QcH {x : Int} (hx : 0 <= x /\ x <= 255) (h : ¬ 128 <= x) : bits BinOp.and IntKind.u8 x 128 = 0 := by
  have := Y1 (p := fun x => ¬ 128 <= x -> bits BinOp.and IntKind.u8 x 128 = 0) (by decide +kernel) hx
  exact this h
theorem Qeb {x : Int} (hx : 0 <= x /\ x <= 255) : bits BinOp.and IntKind.u8 x 127 = x % 128 := Y1 (p := fun x => bits BinOp.and IntKind.u8 x 127 = x % 128) (by decide +kernel) hx
theorem QfK {b : List Int} (hb : Qb b) : QA (Qi (YG (YF b))) ((yF b).val : Int) := by rw [yF, KY]; exact Km _ (Vi hb)
def z20 : List Int := List.replicate 20 0
theorem Qc8 {b : List Int} (hb : Qb b) : b.set 31 (bits .and .u8 (b.getD 31 0) 127) = YF b := by
  have e : b.getD 31 0 = Qa b 31 := by simp [Qa]
  rw [e, Qeb (hb.at 31)]
  rfl
theorem Qeq {b : List Int} (hb : Qb b) (h : 128 <= Qa b 31) : ¬ bits .and .u8 (b.getD 31 0) 128 = 0 := by
  have e : b.getD 31 0 = Qa b 31 := by simp [Qa]
  rw [e, QcG (hb.at 31) h]
  omega
theorem Qer {b : List Int} (hb : Qb b) (h : ¬ 128 <= Qa b 31) : bits .and .u8 (b.getD 31 0) 128 = 0 := by
  have e : b.getD 31 0 = Qa b 31 := by simp [Qa]
  rw [e]
  exact QcH (hb.at 31) h
set_option maxHeartbeats 2000000 in
theorem QbQ {b : List Int} (hb : Qb b) (hl : b.length = 32) : (∀ h : Ye b, ∃ r, QcJ r (Fi b h) /\ PV Tryd.prog gT 61 [.a .u8 b 32] (.t [fp r, .l true])) /\ (¬ Ye b -> PV Tryd.prog gT 61 [.a .u8 b 32] (.t [fp z20, .l false])) := by
  have hlb := QbN hl
  have k1 := QfK hb
  have H0 := Qdf (Vi hb) hlb
  have H1 := QbR (Vi hb) hlb
  generalize hk1 : Qi (YG (YF b)) = y1 at *
  obtain ⟨s, k2, H2⟩ := QX k1 k1
  rw [<- val_mul] at k2
  obtain ⟨x4, k4, H4⟩ := Zd k2 Vx
  obtain ⟨x5, k5, H5⟩ := QX k2 Qcm
  rw [Qcl, <- val_mul] at k5
  obtain ⟨x6, k6, H6⟩ := ZX k5 Vx
  have one_v : (1 : Int) = ((1 : FF).val : Int) := by decide +kernel
  rw [one_v, <- ZP] at k4
  rw [one_v, <- val_add] at k6
  obtain ⟨x7, k7, H7⟩ := Kp k6
  rw [HG] at k7
  obtain ⟨x8, k8, H8⟩ := QX k4 k7
  rw [<- val_mul] at k8
  change QA x8 ((uF (yF b)).val : Int) at k8
  have H9 := QeJ k8
  have k9 := Qdd k8
  rw [<- FL] at k9
  change QA _ ((Fh b).val : Int) at k9
  change PV _ _ _ _ (.t [_, .l (okF (uF (yF b)))]) at H9
  have H10 := FD k9 ZB
  obtain ⟨nx, kn, H11⟩ := Qbm (y := y1) k9
  rw [<- UB] at kn
  have hz0 : (((Fh b).val : Int) = 0) ↔ Fh b = 0 := ⟨fun h => E4 (by rw [h]; decide +kernel), fun h => by rw [h]; decide +kernel⟩
  generalize rtL x8 ((uF (yF b)).val : Int) = rx at *
  have gd := Qgd
  have h1 := UG 1 (by omega)
  have hsl := Qc8 hb
  have hxt : 128 <= Qa b 31 -> xF b = -Fh b := fun ho => by unfold xF odB; rw [decide_eq_true ho]; rfl
  have hxf : ¬ 128 <= Qa b 31 -> xF b = Fh b := fun ho => by unfold xF odB; rw [decide_eq_false ho]; rfl
  have yes : Ye b -> ∀ h : Ye b, ∃ r, QcJ r (Fi b h) /\ PV Tryd.prog gT 61 [.a .u8 b 32] (.t [fp r, .l true]) := fun _ h => by
    have hok := h.ok
    have hlow : Qh (YF b) 32 < pV := h.low
    rw [hok] at H9
    by_cases ho : 128 <= Qa b 31
    . rw [<- hxt ho] at kn
      have hnz : ¬ (((Fh b).val : Int) = 0) := fun e => h.one ⟨decide_eq_true ho, hz0.1 e⟩
      obtain ⟨r, hr, H12⟩ := Yu (P := Fi b h) kn k1
      have hrl := hr.1.len
      refine ⟨r, hr, PV.mk' Tryd.func61 rfl rfl rfl rfl fun w L hL hG => ?_⟩
      clear k1 k2 k4 k5 k6 k7 k8 k9 kn hr
      refine S.enter Qm [.a .u8 b 32] gT Tryd.func61 rfl rfl rfl (fun _ => rfl) hL hG ?_
      refine S.go false rfl (by repeat' (first | exact True.intro | refine And.intro ?_ ?_ | assumption | omega | (dsimp only; omega) | exact rfl)) ?_
      refine S.rd 4 (.l true) rfl (fun _ => by simp only [SV.den]; rw [decide_eq_true (Qeq hb ho)]) ?_
      refine S.recell 0 [.a .u8 (YF b) 32] rfl (fun ρ => congrArg (fun z => Qd ρ [SV.a .u8 z 32]) hsl) ⟨hlb, trivial⟩ rfl ?_
      refine S.rd 19 (.a .u8 (YF b) 32) rfl (fun ρ => congrArg (fun z => (SV.a .u8 z 32).den ρ) hsl) ?_
      refine S.cv rfl rfl rfl rfl rfl rfl H0 ?_
      refine S.g false rfl ?_
      refine S.condF rfl (fun h => h hlow) ?_
      refine S.g false rfl ?_
      refine S.cv rfl rfl rfl rfl rfl rfl H1 ?_
      refine S.g false rfl ?_
      refine S.cv rfl rfl rfl rfl rfl rfl H2 ?_
      refine S.g false rfl ?_
      refine S.cv rfl rfl rfl rfl rfl rfl h1 ?_
      refine S.g false rfl ?_
      refine S.drp false [(2, lm x4), (4, lm dL), (5, lm x5), (7, lm x6), (8, lm x7), (9, lm x8), (10, .t [lm rx, .l true])] rfl rfl rfl ?_ (by repeat' (first | exact True.intro | refine And.intro ?_ ?_ | assumption | omega | (dsimp only; omega) | exact rfl))
      refine S.g false rfl ?_
      refine S.cv rfl rfl rfl rfl rfl rfl H10 ?_
      refine S.g false rfl ?_
      refine S.condF rfl hnz ?_
      refine S.g false rfl ?_
      refine S.cv rfl rfl rfl rfl rfl rfl H11 ?_
      refine S.g false rfl ?_
      refine S.cv rfl rfl rfl rfl rfl rfl H12 ?_
      refine S.go false rfl (by repeat' (first | exact True.intro | refine And.intro ?_ ?_ | assumption | omega | (dsimp only; omega) | exact rfl)) ?_
      exact S.rett rfl rfl rfl rfl rfl
    . rw [<- hxf ho] at k9
      obtain ⟨r, hr, H12⟩ := Yu (P := Fi b h) k9 k1
      have hrl := hr.1.len
      refine ⟨r, hr, PV.mk' Tryd.func61 rfl rfl rfl rfl fun w L hL hG => ?_⟩
      clear k1 k2 k4 k5 k6 k7 k8 k9 kn hr
      refine S.enter Qm [.a .u8 b 32] gT Tryd.func61 rfl rfl rfl (fun _ => rfl) hL hG ?_
      refine S.go false rfl (by repeat' (first | exact True.intro | refine And.intro ?_ ?_ | assumption | omega | (dsimp only; omega) | exact rfl)) ?_
      refine S.rd 4 (.l false) rfl (fun _ => by simp only [SV.den]; rw [decide_eq_false (fun e => e (Qer hb ho))]) ?_
      refine S.recell 0 [.a .u8 (YF b) 32] rfl (fun ρ => congrArg (fun z => Qd ρ [SV.a .u8 z 32]) hsl) ⟨hlb, trivial⟩ rfl ?_
      refine S.rd 19 (.a .u8 (YF b) 32) rfl (fun ρ => congrArg (fun z => (SV.a .u8 z 32).den ρ) hsl) ?_
      refine S.cv rfl rfl rfl rfl rfl rfl H0 ?_
      refine S.g false rfl ?_
      refine S.condF rfl (fun h => h hlow) ?_
      refine S.g false rfl ?_
      refine S.cv rfl rfl rfl rfl rfl rfl H1 ?_
      refine S.g false rfl ?_
      refine S.cv rfl rfl rfl rfl rfl rfl H2 ?_
      refine S.g false rfl ?_
      refine S.cv rfl rfl rfl rfl rfl rfl h1 ?_
      refine S.g false rfl ?_
      refine S.drp false [(2, lm x4), (4, lm dL), (5, lm x5), (7, lm x6), (8, lm x7), (9, lm x8), (10, .t [lm rx, .l true])] rfl rfl rfl ?_ (by repeat' (first | exact True.intro | refine And.intro ?_ ?_ | assumption | omega | (dsimp only; omega) | exact rfl))
      refine S.g false rfl ?_
      refine S.cv rfl rfl rfl rfl rfl rfl H12 ?_
      refine S.go false rfl (by repeat' (first | exact True.intro | refine And.intro ?_ ?_ | assumption | omega | (dsimp only; omega) | exact rfl)) ?_
      exact S.rett rfl rfl rfl rfl rfl
  refine ⟨fun h => yes h h, fun hno => PV.mk' Tryd.func61 rfl rfl rfl rfl fun w L hL hG => ?_⟩
  clear k1 k2 k4 k5 k6 k7 k8 k9 kn
  refine S.enter Qm [.a .u8 b 32] gT Tryd.func61 rfl rfl rfl (fun _ => rfl) hL hG ?_
  refine S.go false rfl (by repeat' (first | exact True.intro | refine And.intro ?_ ?_ | assumption | omega | (dsimp only; omega) | exact rfl)) ?_
  have hod : ∃ od : Bool, (od = true ↔ 128 <= Qa b 31) /\ decide (¬ bits .and .u8 (b.getD 31 0) 128 = 0) = od := by
    by_cases ho : 128 <= Qa b 31
    . exact ⟨true, by simp [ho], decide_eq_true (Qeq hb ho)⟩
    . exact ⟨false, by simp [ho], decide_eq_false (fun e => e (Qer hb ho))⟩
  obtain ⟨od, ho1, ho2⟩ := hod
  refine S.rd 4 (.l od) rfl (fun _ => by simp only [SV.den]; rw [<- ho2]) ?_
  refine S.recell 0 [.a .u8 (YF b) 32] rfl (fun ρ => congrArg (fun z => Qd ρ [SV.a .u8 z 32]) hsl) ⟨hlb, trivial⟩ rfl ?_
  refine S.rd 19 (.a .u8 (YF b) 32) rfl (fun ρ => congrArg (fun z => (SV.a .u8 z 32).den ρ) hsl) ?_
  refine S.cv rfl rfl rfl rfl rfl rfl H0 ?_
  refine S.g false rfl ?_
  refine S.cond rfl (fun hc => ?_) (fun hc => ?_)
  . refine S.g false rfl ?_
    exact S.rett rfl rfl rfl rfl rfl
  have hlow : Qh (YF b) 32 < pV := Decidable.not_not.1 hc
  refine S.g false rfl ?_
  refine S.cv rfl rfl rfl rfl rfl rfl H1 ?_
  refine S.g false rfl ?_
  refine S.cv rfl rfl rfl rfl rfl rfl H2 ?_
  refine S.g false rfl ?_
  refine S.cv rfl rfl rfl rfl rfl rfl h1 ?_
  refine S.g false rfl ?_
  refine S.drp false [(2, lm x4), (4, lm dL), (5, lm x5), (7, lm x6), (8, lm x7), (9, lm x8), (10, .t [lm rx, .l (okF (uF (yF b)))])] rfl rfl rfl ?_ (by repeat' (first | exact True.intro | refine And.intro ?_ ?_ | assumption | omega | (dsimp only; omega) | exact rfl))
  cases hok : okF (uF (yF b)) with
  | false =>
    refine S.rd 9 (.l false) rfl (fun _ => rfl) ?_
    refine S.g false rfl ?_
    exact S.rett rfl rfl rfl rfl rfl
  | true =>
    refine S.rd 9 (.l true) rfl (fun _ => rfl) ?_
    cases od with
    | false => exact absurd ⟨hlow, hok, fun h => by have := ho1.2 (of_decide_eq_true h.1); cases this⟩ hno
    | true =>
      refine S.g false rfl ?_
      refine S.cv rfl rfl rfl rfl rfl rfl H10 ?_
      refine S.g false rfl ?_
      by_cases hz : ((Fh b).val : Int) = 0
      . refine S.condT rfl hz ?_
        refine S.g false rfl ?_
        exact S.rett rfl rfl rfl rfl rfl
      . exact absurd ⟨hlow, hok, fun h => hz (hz0.2 h.2)⟩ hno
end Go.Proofs.YtbiboamaigedjaaDoor
