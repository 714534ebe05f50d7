/- A region whose order is drawn, of which one operation ahead of the last ones writes to what the region itself has made. No program stands here. -/
import Derived.Test.YthefddclefimoaaDoorDrA
import Derived.Test.YthefddclefimoaaDoorDrT
namespace Go.Proofs.YthefddclefimoaaDoor
open Go.RowKit
set_option linter.unusedVariables false
set_option linter.unusedSimpArgs false
/-- What the facts keep when the writer runs. -/
def VS.monoR (rel : World → World → Prop) : List (Option Tmp × VS) → Prop
  | [] => True
  | (_, .is _) :: l => VS.monoR rel l
  | (_, .by p) :: l => (∀ u W W', rel W W' → p u W → p u W') ∧ VS.monoR rel l
theorem monoR_at {rel : World → World → Prop} : ∀ {sd : List (Option Tmp × VS)}, VS.monoR rel sd → ∀ {j : Nat} {d : Option Tmp} {p : Value → World → Prop}, sd[j]? = some (d, .by p) → ∀ u W W', rel W W' → p u W → p u W'
  | [], _, j, d, p, h => by simp at h
  | (d', .is v) :: l, hm, j, d, p, h => by
    cases j with
    | zero => simp at h
    | succ j => exact monoR_at (sd := l) hm (by simpa using h)
  | (d', .by q) :: l, hm, j, d, p, h => by
    cases j with
    | zero =>
      simp only [List.getElem?_cons_zero, Option.some.injEq, Prod.mk.injEq, VS.by.injEq] at h
      rw [← h.2]
      exact hm.1
    | succ j => exact monoR_at (sd := l) hm.2 (by simpa using h)
/-- The steps, of which the one with number s writes to what the one with number t has made. -/
def DStepsR (P : Program) (ops : Array Oper) (N : Nat) (w0 : World) (sd : List (Option Tmp × VS)) (dl : List (List Nat)) (f : Fl) (s t dt : Nat) (pt q : Value → World → Prop) (rel : World → World → Prop) : Nat → List Oper → Prop
  | _, [] => True
  | k, o :: l => (if k = s then ∀ W, Below w0.heap.size w0 W → ∀ ut, pt ut W → DStep P ops o N W (sd.set t (some dt, .is ut)) (fun v W' => rel W W' ∧ q ut W') ((dl[k]?).getD []) f
      else ∀ W, Below w0.heap.size w0 W → DStep P ops o N W sd (fun v W' => Below W.heap.size W W' ∧ okAt sd k v W') ((dl[k]?).getD []) f) ∧ DStepsR P ops N w0 sd dl f s t dt pt q rel (k + 1) l
section
variable {P : Program} {N : Nat} {sd : List (Option Tmp × VS)} {dl : List (List Nat)}
theorem DStepsR.cons {ops : Array Oper} {w0 : World} {f : Fl} {k s t dt : Nat} {pt q : Value → World → Prop} {rel : World → World → Prop} {o : Oper} {l : List Oper} (hk : k ≠ s) (h : ∀ W, Below w0.heap.size w0 W → DStep P ops o N W sd (fun v W' => Below W.heap.size W W' ∧ okAt sd k v W') ((dl[k]?).getD []) f) (hl : DStepsR P ops N w0 sd dl f s t dt pt q rel (k + 1) l) : DStepsR P ops N w0 sd dl f s t dt pt q rel k (o :: l) := ⟨by rw [if_neg hk]; exact h, hl⟩
theorem DStepsR.hit {ops : Array Oper} {w0 : World} {f : Fl} {s t dt : Nat} {pt q : Value → World → Prop} {rel : World → World → Prop} {o : Oper} {l : List Oper} (h : ∀ W, Below w0.heap.size w0 W → ∀ ut, pt ut W → DStep P ops o N W (sd.set t (some dt, .is ut)) (fun v W' => rel W W' ∧ q ut W') ((dl[s]?).getD []) f) (hl : DStepsR P ops N w0 sd dl f s t dt pt q rel (s + 1) l) : DStepsR P ops N w0 sd dl f s t dt pt q rel s (o :: l) := ⟨by rw [if_pos rfl]; exact h, hl⟩
theorem okAt_set {t dt : Nat} {u : Value} {j : Nat} (hj : j ≠ t) (v : Value) (W : World) : okAt (sd.set t (some dt, .is u)) j v W = okAt sd j v W := by
  unfold okAt
  rw [List.getElem?_set_ne (fun e => hj e.symm)]
theorem okAt_hit {t dt : Nat} {u : Value} (ht : t < sd.length) (W : World) : okAt (sd.set t (some dt, .is u)) t u W := by
  unfold okAt
  rw [List.getElem?_set_self ht]
  rfl
theorem map_set {t dt : Nat} {s s' : VS} (ht : sd[t]? = some (some dt, s)) : (sd.set t (some dt, s')).map (·.1) = sd.map (·.1) := by
  apply List.ext_getElem?
  intro i
  rw [List.getElem?_map, List.getElem?_map]
  by_cases e : i = t
  · subst e
    rw [ht, List.getElem?_set_self (List.getElem?_eq_some_iff.1 ht).1]
    rfl
  · rw [List.getElem?_set_ne (fun h => e h.symm)]
theorem inN_set {t dt : Nat} {s s' : VS} (ht : sd[t]? = some (some dt, s)) (h : inN N sd = true) : inN N (sd.set t (some dt, s')) = true := by
  have key : ∀ (l : List (Option Tmp × VS)), inN N l = (l.map (·.1)).all fun p => match p with | some d => decide (d < N) | none => true := fun l => by
    unfold inN
    rw [List.all_map]
    rfl
  rw [key, map_set ht, ← key]
  exact h
/-- The rule. -/
theorem WC.drawR {id : Nat} {f : Fl} {w : World} {Q : Exit → Act → World → Prop} (m s t dt : Nat) (pt q : Value → World → Prop) (rel : World → World → Prop) {ops : List Oper} (sd : List (Option Tmp × VS)) (dl : List (List Nat)) (hm : P.follows .mixedOrders = true) (hb : ordB .any ops.toArray = true) (hbp : ordB .any (ops.take m).toArray = true) (htl : tailB .any ops.toArray (ops.take m).length = true) (hdl : (ops.take m).map (depsOf .any) = dl)
    (hds : (ops.take m).map (·.dst) = sd.map (·.1)) (hN : inN N sd = true) (hmono : VS.mono sd)
    (ht : sd[t]? = some (some dt, .by pt)) (hs : sd[s]? = some (none, .by fun _ _ => True)) (hts : ((dl[s]?).getD []).contains t = true) (hst' : s ≠ t) (hsm : s < m) (hrel : VS.monoR rel sd) (hq : ∀ u W W', Below W.heap.size W W' → q u W → q u W') (hbr : ∀ W W', Below w.heap.size w W → rel W W' → Below w.heap.size w W')
    (hst : DStepsR P (ops.take m).toArray N w sd dl f s t dt pt q rel 0 (ops.take m))
    (hend : ∀ W, Below w.heap.size w W → ∀ ut, pt ut W → q ut W → DEnd (fun f W => WL P ops.toArray Q N (ops.drop m) f W) W (sd.set t (some dt, .is ut)) f) : WC P N (.region id ops.toArray true) Q f w := fun a ha => by
  obtain ⟨pre, hpre⟩ : ∃ pre, pre = ops.take m := ⟨_, rfl⟩
  obtain ⟨suf, hsuf⟩ : ∃ suf, suf = ops.drop m := ⟨_, rfl⟩
  have hops : pre ++ suf = ops := by rw [hpre, hsuf]; exact List.take_append_drop m ops
  rw [← hpre] at hbp htl hdl hds hst
  rw [← hsuf] at hend
  clear hpre hsuf
  subst hops
  have hlen : dl.length = sd.length := by rw [← hdl, List.length_map, ← List.length_map (f := (·.dst)), hds, List.length_map]
  have hpl : pre.length = dl.length := by rw [← hdl, List.length_map]
  have htlt : t < sd.length := (List.getElem?_eq_some_iff.1 ht).1
  have hslt : s < sd.length := (List.getElem?_eq_some_iff.1 hs).1
  refine wp_region_any hm ?_
  have hrep : Array.replicate (pre ++ suf).toArray.size false = Array.replicate pre.toArray.size false ++ Array.replicate suf.length false := by
    simp [Array.replicate_append_replicate]
  rw [hrep]
  have hsz : (pre ++ suf).toArray.size = pre.toArray.size + suf.length := by simp
  rw [hsz]
  refine pre_tail (pre := pre.toArray) (suf := suf) hb hbp (by simp) (by simpa using htl) pre.toArray.size _ (by simp) (fun j hj => by simp [Array.getD_eq_getD_getElem?, Array.getElem?_replicate] at hj; split at hj <;> simp_all) a w.drew ?_
  have hda : ∀ j, depsAt .any pre.toArray j = (dl[j]?).getD [] := by
    intro j
    subst hdl
    simp only [depsAt, List.getElem?_map, List.getElem?_toArray]
  have hF0 : ∀ j, (Array.replicate pre.toArray.size false).getD j false = true → False := fun j hj => by simp [Array.getD_eq_getD_getElem?, Array.getElem?_replicate] at hj; split at hj <;> simp_all
  have hmemt : t ∈ (dl[s]?).getD [] := by simpa using hts
  refine wpAny_facts hbp a (fun _ W => Below w.heap.size w W) (fun j g W => okAt sd j (g j) W ∧ (j = s → q (g t) W)) (fun i _ W W' => if i = s then rel W W' else Below W.heap.size W W') ?_ ?_ ?_ pre.toArray.size _ (fun _ => undef) a w.drew (by simp) (by
      have := List.countP_le_length (p := fun b => !b) (l := (Array.replicate pre.toArray.size false).toList)
      simpa using this) (fun j hj => (hF0 j hj).elim) (Agrees.start fun j hj => hF0 j hj) (below_draws (Below.refl _ _) 1) (fun j hj => (hF0 j hj).elim)
  · intro i g W W' j g' hB hne ⟨h, hqj⟩
    by_cases hi : i = s
    · rw [if_pos hi] at hB
      refine ⟨?_, fun hj => absurd (hj.trans hi.symm) hne⟩
      unfold okAt at h ⊢
      cases hsj : sd[j]? with
      | none => trivial
      | some p =>
        obtain ⟨d, s'⟩ := p
        rw [hsj] at h
        cases s' with
        | is v => exact h
        | «by» p => exact monoR_at hrel hsj _ W W' hB h
    · rw [if_neg hi] at hB
      refine ⟨?_, fun hj => hq _ _ _ hB (hqj hj)⟩
      unfold okAt at h ⊢
      cases hsj : sd[j]? with
      | none => trivial
      | some p =>
        obtain ⟨d, s'⟩ := p
        rw [hsj] at h
        cases s' with
        | is v => exact h
        | «by» p => exact mono_at hmono hsj _ W W' hB h
  · intro i o hoi L g W _ _ hG hd
    have key : ∀ (l : List Oper) (k : Nat), DStepsR P pre.toArray N w sd dl f s t dt pt q rel k l → ∀ j o, l[j]? = some o →
        (if k + j = s then ∀ W, Below w.heap.size w W → ∀ ut, pt ut W → DStep P pre.toArray o N W (sd.set t (some dt, .is ut)) (fun v W' => rel W W' ∧ q ut W') ((dl[k + j]?).getD []) f
          else ∀ W, Below w.heap.size w W → DStep P pre.toArray o N W sd (fun v W' => Below W.heap.size W W' ∧ okAt sd (k + j) v W') ((dl[k + j]?).getD []) f) := by
      intro l
      induction l with
      | nil => intro k _ j o h; simp at h
      | cons x l ih =>
        intro k hs j o h
        cases j with
        | zero =>
          simp only [List.getElem?_cons_zero, Option.some.injEq] at h
          subst h
          exact hs.1
        | succ j =>
          have := ih (k + 1) hs.2 j o (by simpa using h)
          rw [show k + (j + 1) = k + 1 + j by omega]
          exact this
    have hk := key pre 0 hst i o (by simpa using hoi)
    rw [Nat.zero_add] at hk
    have hdo : depsOf .any o = (dl[i]?).getD [] := by rw [← hda i, depsAt_eq hoi]
    rw [hdo] at hd ⊢
    rw [putL_eq (ds := sd.map (·.1)) (by simpa using hds)]
    by_cases hi : i = s
    · rw [if_pos hi] at hk
      subst hi
      have hpt : pt (g t) W := by
        have := (hd t hmemt).1
        rw [restr_self] at this
        unfold okAt at this
        rw [ht] at this
        exact this
      obtain ⟨ut, hut⟩ : ∃ ut, ut = g t := ⟨_, rfl⟩
      have hH : HypL (fun j g w => okAt (sd.set t (some dt, .is ut)) j (g j) w) dl g W ((dl[i]?).getD []) := HypL.of _ fun j hj => by
        have h1 := (hd j hj).1
        rw [hda j] at h1
        show okAt _ j (restr g (j :: _) j) W
        rw [restr_self] at h1 ⊢
        by_cases e : j = t
        · subst e
          rw [← hut]
          exact okAt_hit htlt W
        · rw [okAt_set e]
          exact h1
      have hfin := DStep.to (inN_set ht hN) _ f a (hk W hG ut (by rw [hut]; exact hpt)) ha hH
      rw [map_set ht] at hfin
      refine hfin.mono fun v W' h => ⟨by rw [if_pos rfl]; exact h.1, hbr _ _ hG h.1, ?_, fun _ => ?_⟩
      · unfold okAt
        rw [hs]
        trivial
      · have e : restr (upd g i v) (i :: (dl[i]?).getD []) t = g t := by
          unfold restr upd
          rw [if_pos (by simp [hmemt]), if_neg (fun h => hst' h.symm)]
        rw [e, ← hut]
        exact h.2
    · rw [if_neg hi] at hk
      have hH : HypL (fun j g w => okAt sd j (g j) w) dl g W ((dl[i]?).getD []) := HypL.of _ fun j hj => by have := (hd j hj).1; rwa [hda j] at this
      refine (DStep.to hN _ f a (hk W hG) ha hH).mono fun v W' h => ⟨by rw [if_neg hi]; exact h.1, hG.trans (h.1.mono hG.size), ?_, fun e => absurd e hi⟩
      simp only [restr_self]
      rw [show upd g i v i = v by simp [upd]]
      exact h.2
  · intro L g W hL hG hd
    rw [putL_eq (ds := sd.map (·.1)) (by simpa using hds)]
    have hsize : pre.toArray.size = sd.length := by simp; omega
    have hpt : pt (g t) W := by
      have := (hd t (by omega)).1
      rw [restr_self] at this
      unfold okAt at this
      rw [ht] at this
      exact this
    have hqt : q (g t) W := by
      have := (hd s (by omega)).2 rfl
      have e : restr g (s :: depsAt .any pre.toArray s) t = g t := by
        rw [hda s]
        unfold restr
        rw [if_pos (by simp [hmemt])]
      rwa [e] at this
    obtain ⟨ut, hut⟩ : ∃ ut, ut = g t := ⟨_, rfl⟩
    have hH : HypL (fun j g w => okAt (sd.set t (some dt, .is ut)) j (g j) w) dl g W (List.range' 0 sd.length) := HypL.of _ fun j hj => by
      have hj' : j < pre.toArray.size := by
        simp [List.mem_range'] at hj
        simp
        omega
      have h1 := (hd j hj').1
      rw [hda j] at h1
      show okAt _ j (restr g (j :: _) j) W
      rw [restr_self] at h1 ⊢
      by_cases e : j = t
      · subst e
        rw [← hut]
        exact okAt_hit htlt W
      · rw [okAt_set e]
        exact h1
    have hfin := DEnd.to (Q := fun a W => wpList P (pre ++ suf).toArray Q suf a W) (inN_set (s' := .is ut) ht hN) (fun f h a ha => h a ha) (sd.set t (some dt, .is ut)) 0 f a (by simp) (hend W hG ut (by rw [hut]; exact hpt) (by rw [hut]; exact hqt)) ha (by rw [List.length_set]; exact hH)
    rw [List.length_set, map_set ht] at hfin
    show wpOps P (pre ++ suf).toArray Q (List.range' pre.toArray.size suf.length) _ _
    rw [wpOps_eq_wpList suf pre.toArray.size (fun j => by simp [List.getElem?_append_right])]
    rw [List.range_eq_range', hsize]
    exact hfin
end
/-- A pointer to what lies behind the world of the base. -/
def PtB (base : Nat) (L : List Nat) (w : World) (u : Value) (cs : List Value) : Prop := 0 < cs.length ∧ ∃ X o, u = .pointer (some ⟨X, o, none⟩) ∧ X < base ∧ X ∉ L ∧ w.rangeAt X o cs
theorem PtB.ptr {base : Nat} {L : List Nat} {w : World} {u : Value} {cs : List Value} (h : PtB base L w u cs) : PtR L w u cs := by
  obtain ⟨h0, X, o, h1, _, h2, h3⟩ := h
  exact ⟨h0, X, o, h1, h2, h3⟩
theorem PtB.below {base : Nat} {L : List Nat} {w w' : World} {u : Value} {cs : List Value} (h : PtB base L w u cs) (hb : Below w.heap.size w w') : PtB base L w' u cs := by
  obtain ⟨h0, X, o, h1, hx, h2, h3⟩ := h
  exact ⟨h0, X, o, h1, hx, h2, range_agree h3 (Agree.of_below (L := L) hb) h2⟩
/-- A variable that is newly made, of a type, whatever it holds. -/
def NewT (base t n : Nat) (u : Value) (w : World) : Prop := ∃ B cs, u = .pointer (some ⟨B, 0, none⟩) ∧ base ≤ B ∧ BlkT w B t cs ∧ cs.length = n
theorem NewT.below {base t n : Nat} {u : Value} {w w' : World} (h : NewT base t n u w) (hb : Below w.heap.size w w') : NewT base t n u w' := by
  obtain ⟨B, cs, h1, h2, h3, h4⟩ := h
  exact ⟨B, cs, h1, h2, by unfold BlkT; rw [hb.block B h3.blk.lt]; exact h3, h4⟩
theorem NewP.newT {base t n : Nat} {cs : List Value} {u : Value} {w : World} (h : NewP base t cs u w) (hn : cs.length = n) : NewT base t n u w := by
  obtain ⟨B, h1, h2, h3⟩ := h
  exact ⟨B, cs, h1, h2, h3, hn⟩
/-- A write to a new variable of this type. -/
def WrT (base t n : Nat) (w w' : World) : Prop := ∃ C cs cs', base ≤ C ∧ BlkT w C t cs ∧ BlkT w' C t cs' ∧ cs.length = n ∧ cs'.length = n ∧ Only C w w'
theorem WrT.below {base t n : Nat} {w0 w w' : World} (h : WrT base t n w w') (hb : Below base w0 w) : Below base w0 w' := by
  obtain ⟨C, cs, cs', h1, h2, h3, _, h4, h5⟩ := h
  exact h5.below hb h1
theorem NewT.wr {base t n : Nat} {u : Value} {w w' : World} (h : NewT base t n u w) (hw : WrT base t n w w') : NewT base t n u w' := by
  obtain ⟨B, cs, h1, h2, h3, h4⟩ := h
  obtain ⟨C, c1, c2, k1, k2, k3, k0, k4, k5⟩ := hw
  by_cases e : B = C
  · subst e
    exact ⟨B, c2, h1, h2, k3, k4⟩
  · exact ⟨B, cs, h1, h2, by unfold BlkT; rw [k5.block B e]; exact h3, h4⟩
theorem NewP.wr {base t t' n : Nat} {cs : List Value} {u : Value} {w w' : World} (h : NewP base t' cs u w) (hw : WrT base t n w w') (hn : (t' == t) = false) : NewP base t' cs u w' := by
  obtain ⟨B, h1, h2, h3⟩ := h
  obtain ⟨C, c1, c2, k1, k2, k3, k0, k4, k5⟩ := hw
  exact ⟨B, h1, h2, by unfold BlkT; rw [k5.block B (h3.ne k2 hn)]; exact h3⟩
theorem PtB.wr {base t n : Nat} {L : List Nat} {w w' : World} {u : Value} {cs : List Value} (h : PtB base L w u cs) (hw : WrT base t n w w') : PtB base L w' u cs := by
  obtain ⟨h0, X, o, h1, hx, h2, h3⟩ := h
  obtain ⟨C, c1, c2, k1, k2, k3, k0, k4, k5⟩ := hw
  exact ⟨h0, X, o, h1, hx, h2, range_agree h3 (Agree.of_only (L := [C]) k5 (.head _)) (by simp; omega)⟩
/-- Rows that are longer than a whole block do not lie in it. -/
theorem RdF.offB {s : Nat} {L : List Nat} {w : World} {v : Value} {rs : List (List Value)} {B : Nat} {cs : List Value} (h : RdF s L w v rs) (hk : Blk w B cs) (hl : cs.length < s) : RdF s (B :: L) w v rs := by
  obtain ⟨h0, hr, a, cap, h1, h2, h3, h4, h5⟩ := h
  refine ⟨h0, hr, a, cap, h1, h2, h3, h4, fun hn => ?_⟩
  obtain ⟨X, o, e, hX, hc⟩ := h5 hn
  refine ⟨X, o, e, ?_, hc⟩
  have hlen : s ≤ rs.flatten.length := by
    rw [flat_len hr]
    exact Nat.le_mul_of_pos_left s (List.length_pos_iff.2 hn)
  have hne : X ≠ B := fun e => by
    subst e
    obtain ⟨t, ht⟩ := hk
    have := hc (s - 1) _ (List.getElem?_eq_getElem (by omega))
    simp [World.cell?, ht] at this
    obtain ⟨h', _⟩ := List.getElem?_eq_some_iff.1 this
    omega
  simp [hne, hX]
theorem RdF.wr {s base t n : Nat} {L : List Nat} {w w' : World} {v : Value} {rs : List (List Value)} (h : RdF s L w v rs) (hw : WrT base t n w w') (hn : n < s) : RdF s L w' v rs := by
  obtain ⟨C, c1, c2, k1, k2, k3, k0, k4, k5⟩ := hw
  exact ((h.offB k2.blk (by omega)).only k5 (.head _)).less (fun x hx => .tail _ hx)
section
variable {P : Program} {ops : Array Oper} {o : Oper} {N : Nat} {f : Fl} {w : World}
theorem dx_fldB {t : TypeId} {x : Operand} {k off base : Nat} {L : List Nat} {u : Value} {cs cs' : List Value} (n : Nat) (ho : o.op = .fieldAddr t x k) (hf : fldB P t k off = true) (hx : ev f x = some u) (hp : PtB base L w u cs) (hr : (cs.drop off).take n = cs') (hn : 0 < cs'.length) (hw : wantF ops o f = some true := by rfl) : DR P ops o N f w fun u' W => w = W ∧ PtB base L w u' cs' := fun a ha => by
  obtain ⟨_, X, o0, rfl, hb, hX, hc⟩ := hp
  have hx := ha.ev hx
  refine Does.pure (wantF_of ha hw) _ (by unfold execOp; simp only [ho, hx, Sem.run_bind, run_fldB hf, Result.andThen_ok]; rfl) ⟨rfl, hn, X, _, rfl, hb, hX, ?_⟩
  have := range_part hc off n
  rwa [hr] at this
theorem dx_idxB {t s : Nat} {L : List Nat} {w0 : World} {x y : Operand} {v : Value} {rs : List (List Value)} {K : IntKind} {i : Int} {r : List Value} (k : Nat) (ho : o.op = .indexAddr t x y) (ht : sliceB P t s = true) (hx : ev f x = some v) (hy : ev f y = some (.int K i)) (hr : RdF s L w0 v rs) (hd : Below w0.heap.size w0 w) (hk : i = (k : Int)) (hi : rs[k]? = some r) (hw : wantF ops o f = some true := by rfl) :
    DR P ops o N f w fun u W => w = W ∧ PtB w0.heap.size L w u r := fun a ha => by
  have hr' := hr.below hd
  obtain ⟨h0, hl, ad, cap, rfl, h2, h3, h4, h5⟩ := hr'
  obtain ⟨e, hu, hs⟩ := of_sliceB ht
  have hx := ha.ev hx
  have hy := ha.ev hy
  subst hk
  have hlt := (List.getElem?_eq_some_iff.1 hi).1
  have hne : rs ≠ [] := by intro e; subst e; simp at hlt
  obtain ⟨X, o0, rfl, hX, hc⟩ := h5 hne
  have hrun := run_idxS (w := w) (n := rs.length) (c := cap) hu hs X o0 K (k : Int) (by omega) (by omega)
  refine Does.pure (wantF_of ha hw) (.pointer (some ⟨X, o0 + k * s, none⟩)) (by unfold execOp; simp only [ho, hx, hy, Sem.run_bind, hrun, Result.andThen_ok]; rfl) ⟨rfl, by rw [hl r (List.mem_of_getElem? hi)]; exact h0, X, _, rfl, rdf_lt hr rfl hne, hX, ?_⟩
  have := range_part hc (k * s) s
  rw [flat_row hl hi] at this
  simpa using this
/-- A store of the whole of a new variable. -/
theorem dx_storeT {t t' base n : Nat} {x y : Operand} {u V : Value} {vs : List Value} (ho : o.op = .store t x y) (ht : sizeB P t n = true) (hx : ev f x = some u) (hp : NewT base t' n u w) (hy : ev f y = some V) (hv : V.cells.toList = vs) (h1 : ∀ v ∈ vs, v.oneCell' = true) (hn : vs.length = n) (hw : wantF ops o f = some true := by rfl) : DR P ops o N f w fun _ W => WrT base t' n w W ∧ NewP base t' vs u W := fun a ha => by
  obtain ⟨B, cs, rfl, hB, hb, hc⟩ := hp
  obtain ⟨i, hi, hs⟩ := of_sizeB ht
  have hx := ha.ev hx
  have hy := ha.ev hy
  exact Does.of_wp (wantF_of ha hw) fun K hK => by
    have hst := run_storeCells_at P B 0 t' vs 0 _ w hb (by simp; omega) h1
    simp only [Nat.add_zero] at hst
    have hcs : (cs.toArray.toList.take 0 ++ vs ++ cs.toArray.toList.drop (0 + vs.length)) = vs := by
      rw [List.drop_eq_nil_of_le (by simp; omega)]
      simp
    rw [hcs] at hst
    have hsz : V.cells.size = i.size := by rw [← Array.length_toList, hv, hn, hs]
    unfold Oper.wp execOp
    simp only [ho, hx, hy, Instr.storeAt, Instr.sureAddr, storeVar, sizeOf, typeInfo, Sem.run_bind, Sem.run_pure, Result.andThen_ok, run_program, hi, hsz, hv, ne_eq, not_true_eq_false, if_false, hst]
    have e : (w.setRow B vs.toArray).heap[B]? = some (.cells vs.toArray t' (0, 0)) := setRow_heap w B _ _ t' _ hb
    exact hK _ _ ⟨⟨B, cs, vs, hB, hb, e, hc, hn, only_setRow w B _⟩, B, rfl, hB, e⟩
end
end Go.Proofs.YthefddclefimoaaDoor
