/- A region whose order is drawn, of which one operation ahead of the last ones writes in place to what another one of it has made. No program stands here. The reference of accounts: Logout, Register. AccountUsers, walked. Slices of structures as arguments, with what their data weighs. No program stands here. Users, as arguments, with what they weigh. The reference of accounts: Agreed, with. The reference of accounts: with. The reference of accounts: Agree. AccountTerms, walked. -/
import Derived.Test.YthefddclefimoaaGreatDoorVD
namespace Go.Proofs.YthefddclefimoaaGreatDoor
open Go.RowKit
set_option linter.unusedVariables false
set_option linter.unusedSimpArgs false
/-- The steps, of which the one with number s is bound by rel alone. -/
def DStepsW (P : Program) (ops : Array Oper) (N : Nat) (w0 : World) (sd : List (Option Tmp × VS)) (dl : List (List Nat)) (f : Fl) (s : Nat) (rel : World → World → Prop) : Nat → List Oper → Prop
  | _, [] => True
  | k, o :: l => (∀ W, Below w0.heap.size w0 W → DStep P ops o N W sd (fun v W' => (if k = s then rel W W' else Below W.heap.size W W') ∧ okAt sd k v W') ((dl[k]?).getD []) f) ∧ DStepsW P ops N w0 sd dl f s rel (k + 1) l
section
variable {P : Program} {N : Nat} {sd : List (Option Tmp × VS)} {dl : List (List Nat)}
theorem DStepsW.cons {ops : Array Oper} {w0 : World} {f : Fl} {k s : Nat} {rel : World → World → Prop} {o : Oper} {l : List Oper} (hk : k ≠ s) (h : ∀ W, Below w0.heap.size w0 W → DStep P ops o N W sd (fun v W' => Below W.heap.size W W' ∧ okAt sd k v W') ((dl[k]?).getD []) f) (hl : DStepsW P ops N w0 sd dl f s rel (k + 1) l) : DStepsW P ops N w0 sd dl f s rel k (o :: l) := ⟨by simp only [if_neg hk]; exact h, hl⟩
theorem DStepsW.hit {ops : Array Oper} {w0 : World} {f : Fl} {s : Nat} {rel : World → World → Prop} {o : Oper} {l : List Oper} (h : ∀ W, Below w0.heap.size w0 W → DStep P ops o N W sd (fun v W' => rel W W' ∧ okAt sd s v W') ((dl[s]?).getD []) f) (hl : DStepsW P ops N w0 sd dl f s rel (s + 1) l) : DStepsW P ops N w0 sd dl f s rel s (o :: l) := ⟨by simp only [if_true]; exact h, hl⟩
theorem monoR_set {rel : World → World → Prop} {s : Nat} {x : Option Tmp × VS} (h : VS.monoR rel (sd.set s x)) {j : Nat} (hj : j ≠ s) {d : Option Tmp} {p : Value → World → Prop} (hp : sd[j]? = some (d, .by p)) : ∀ u W W', rel W W' → p u W → p u W' :=
  monoR_at h (j := j) (d := d) (by rw [List.getElem?_set_ne (fun e => hj e.symm)]; exact hp)
/-- The rule. -/
theorem WC.drawW {id : Nat} {f : Fl} {w : World} {Q : Exit → Act → World → Prop} (m s : Nat) (rel : World → World → Prop) {ops : List Oper} (sd : List (Option Tmp × VS)) (dl : List (List Nat)) (hm : P.follows .mixedOrders = true) (hb : ordB .any ops.toArray = true) (hbp : ordB .any (ops.take m).toArray = true) (ht : tailB .any ops.toArray (ops.take m).length = true) (hdl : (ops.take m).map (depsOf .any) = dl)
    (hds : (ops.take m).map (·.dst) = sd.map (·.1)) (hN : inN N sd = true) (hmono : VS.mono sd) (hrel : VS.monoR rel (sd.set s (none, .is undef))) (hbr : ∀ W W', Below w.heap.size w W → rel W W' → Below w.heap.size w W') (hst : DStepsW P (ops.take m).toArray N w sd dl f s rel 0 (ops.take m))
    (hend : ∀ W, Below w.heap.size w W → DEnd (fun f W => WL P ops.toArray Q N (ops.drop m) f W) W sd f) : WC P N (.region id ops.toArray true) Q f w := fun a ha => by
  obtain ⟨pre, hpre⟩ : ∃ pre, pre = ops.take m := ⟨_, rfl⟩
  obtain ⟨suf, hsuf⟩ : ∃ suf, suf = ops.drop m := ⟨_, rfl⟩
  have hops : pre ++ suf = ops := by rw [hpre, hsuf]; exact List.take_append_drop m ops
  rw [← hpre] at hbp ht hdl hds hst
  rw [← hsuf] at hend
  clear hpre hsuf
  subst hops
  have hlen : dl.length = sd.length := by rw [← hdl, List.length_map, ← List.length_map (f := (·.dst)), hds, List.length_map]
  have hpl : pre.length = dl.length := by rw [← hdl, List.length_map]
  refine wp_region_any hm ?_
  have hrep : Array.replicate (pre ++ suf).toArray.size false = Array.replicate pre.toArray.size false ++ Array.replicate suf.length false := by
    simp [Array.replicate_append_replicate]
  rw [hrep]
  have hsz : (pre ++ suf).toArray.size = pre.toArray.size + suf.length := by simp
  rw [hsz]
  refine pre_tail (pre := pre.toArray) (suf := suf) hb hbp (by simp) (by simpa using ht) pre.toArray.size _ (by simp) (fun j hj => by simp [Array.getD_eq_getD_getElem?, Array.getElem?_replicate] at hj; split at hj <;> simp_all) a w.drew ?_
  have hda : ∀ j, depsAt .any pre.toArray j = (dl[j]?).getD [] := by
    intro j
    subst hdl
    simp only [depsAt, List.getElem?_map, List.getElem?_toArray]
  have hF0 : ∀ j, (Array.replicate pre.toArray.size false).getD j false = true → False := fun j hj => by simp [Array.getD_eq_getD_getElem?, Array.getElem?_replicate] at hj; split at hj <;> simp_all
  refine wpAny_facts hbp a (fun _ W => Below w.heap.size w W) (fun j g W => okAt sd j (g j) W) (fun i _ W W' => if i = s then rel W W' else Below W.heap.size W W') ?_ ?_ ?_ pre.toArray.size _ (fun _ => undef) a w.drew (by simp) (by
      have := List.countP_le_length (p := fun b => !b) (l := (Array.replicate pre.toArray.size false).toList)
      simpa using this) (fun j hj => (hF0 j hj).elim) (Agrees.start fun j hj => hF0 j hj) (below_draws (Below.refl _ _) 1) (fun j hj => (hF0 j hj).elim)
  · intro i g W W' j g' hB hne h
    unfold okAt at h ⊢
    cases hs : sd[j]? with
    | none => trivial
    | some p =>
      obtain ⟨d, s'⟩ := p
      rw [hs] at h
      cases s' with
      | is v => exact h
      | «by» p =>
        by_cases hi : i = s
        · rw [if_pos hi] at hB
          exact monoR_set hrel (fun e => hne (e.trans hi.symm)) hs _ W W' hB h
        · rw [if_neg hi] at hB
          exact mono_at hmono hs _ W W' hB h
  · intro i o hoi L g W _ _ hG hd
    have key : ∀ (l : List Oper) (k : Nat), DStepsW P pre.toArray N w sd dl f s rel k l → ∀ j o, l[j]? = some o → ∀ W, Below w.heap.size w W → DStep P pre.toArray o N W sd (fun v W' => (if k + j = s then rel W W' else Below W.heap.size W W') ∧ okAt sd (k + j) v W') ((dl[k + j]?).getD []) f := by
      intro l
      induction l with
      | nil => intro k _ j o h; simp at h
      | cons x l ih =>
        intro k hs j o h
        cases j with
        | zero =>
          simp only [List.getElem?_cons_zero, Option.some.injEq] at h
          subst h
          exact hs.1
        | succ j =>
          have := ih (k + 1) hs.2 j o (by simpa using h)
          rw [show k + (j + 1) = k + 1 + j by omega]
          exact this
    have hk := key pre 0 hst i o (by simpa using hoi) W hG
    rw [Nat.zero_add] at hk
    have hdo : depsOf .any o = (dl[i]?).getD [] := by rw [← hda i, depsAt_eq hoi]
    rw [hdo] at hd ⊢
    rw [putL_eq (ds := sd.map (·.1)) (by simpa using hds)]
    have hH : HypL (fun j g w => okAt sd j (g j) w) dl g W ((dl[i]?).getD []) := HypL.of _ fun j hj => by have := hd j hj; rwa [hda j] at this
    refine (DStep.to hN _ f a hk ha hH).mono fun v W' h => ⟨h.1, ?_, ?_⟩
    · by_cases hi : i = s
      · exact hbr _ _ hG (by have := h.1; rwa [if_pos hi] at this)
      · have h1 := h.1
        rw [if_neg hi] at h1
        exact hG.trans (h1.mono hG.size)
    · simp only [restr_self]
      rw [show upd g i v i = v by simp [upd]]
      exact h.2
  · intro L g W hL hG hd
    rw [putL_eq (ds := sd.map (·.1)) (by simpa using hds)]
    have hH : HypL (fun j g w => okAt sd j (g j) w) dl g W (List.range' 0 sd.length) := HypL.of _ fun j hj => by
      have hj' : j < pre.toArray.size := by
        simp [List.mem_range'] at hj
        simp
        omega
      have := hd j hj'
      rwa [hda j] at this
    have hfin := DEnd.to (Q := fun a W => wpList P (pre ++ suf).toArray Q suf a W) hN (fun f h a ha => h a ha) sd 0 f a (by simp) (hend W hG) ha hH
    show wpOps P (pre ++ suf).toArray Q (List.range' pre.toArray.size suf.length) _ _
    rw [wpOps_eq_wpList suf pre.toArray.size (fun j => by simp [List.getElem?_append_right])]
    rw [List.range_eq_range', show pre.toArray.size = sd.length by simp; omega]
    exact hfin
end
/-- Rows read at a base: what is said of another world is nothing. -/
def RdZ (s : Nat) (L : List Nat) (w0 : World) (v : Value) (rs : List (List Value)) (w : World) : Prop := RdF s L w0 v rs
theorem RdZ.below {s : Nat} {L : List Nat} {w0 w w' : World} {v : Value} {rs : List (List Value)} (h : RdZ s L w0 v rs w) (hb : Below w.heap.size w w') : RdZ s L w0 v rs w' := h
/-- New things only, or a write behind the first rows of a block that is new since the base. -/
def KeepR (s base n : Nat) (w w' : World) : Prop := Below w.heap.size w w' ∨ ∃ B R R', base ≤ B ∧ base ≤ w.heap.size ∧ Only B w w' ∧ RwB s w B R ∧ RwB s w' B R' ∧ R.length = R'.length ∧ R.take n = R'.take n ∧ n < R.length ∧ 0 < n
theorem KeepR.base {s base n : Nat} {w0 w w' : World} (h : KeepR s base n w w') (hs : base ≤ w.heap.size) (hb : Below base w0 w) : Below base w0 w' := by
  rcases h with h | ⟨B, R, R', h1, h0, h2, _⟩
  · exact hb.trans (h.mono hs)
  · exact hb.trans ((GrowB.of_only h2).from_base h1 h0)
theorem RdZ.keep {s s' base n : Nat} {L : List Nat} {w0 w w' : World} {v : Value} {rs : List (List Value)} (h : RdZ s L w0 v rs w) (hk : KeepR s' base n w w') : RdZ s L w0 v rs w' := h
theorem rwb_same {s : Nat} {w : World} {B : Nat} {R R' : List (List Value)} (h : RwB s w B R) (h' : RwB s w B R') : R = R' := by
  obtain ⟨h0, hr, h1, t, hb⟩ := h
  obtain ⟨h2, hr', h3, t', hb'⟩ := h'
  rw [hb] at hb'
  have e1 : R.flatten = R'.flatten := by simpa using (Obj.cells.inj (Option.some.inj hb')).1
  clear hb hb' h1 h2 h3
  induction R generalizing R' with
  | nil =>
    cases R' with
    | nil => rfl
    | cons r l =>
      have := congrArg List.length e1
      rw [List.flatten_cons, List.length_append, hr' r (.head _)] at this
      simp at this
      omega
  | cons r l ih =>
    cases R' with
    | nil =>
      have := congrArg List.length e1
      rw [List.flatten_cons, List.length_append, hr r (.head _)] at this
      simp at this
      omega
    | cons r' l' =>
      rw [List.flatten_cons, List.flatten_cons] at e1
      obtain ⟨e2, e3⟩ := List.append_inj e1 (by rw [hr r (.head _), hr' r' (.head _)])
      rw [e2, ih (fun x hx => hr x (.tail _ hx)) (fun x hx => hr' x (.tail _ hx)) e3]
theorem NewS.keep {s base n : Nat} {rs : List (List Value)} {u : Value} {w w' : World} (h : NewS s base rs u w) (hk : KeepR s base n w w') (hn : rs.length ≤ n) : NewS s base rs u w' := by
  rcases hk with hk | ⟨B, R, R', h1, h0, h2, h3, h4, h5, h6, h7, h8⟩
  · exact h.below hk
  · rcases h with h | ⟨C, sp, k1, k2, k3, k4⟩
    · exact .inl h
    · by_cases e : C = B
      · subst e
        obtain rfl := rwb_same k3 h3
        have e2 : R'.take rs.length = rs := by
          have := congrArg (List.take rs.length) h6
          rw [List.take_take, List.take_take, Nat.min_eq_left hn, List.take_append_of_le_length (Nat.le_refl _), List.take_length] at this
          exact this.symm
        refine .inr ⟨C, R'.drop rs.length, k1, ?_, ?_, fun hr => ?_⟩
        · rw [k2, h5]
          congr 1
          rw [← List.take_append_drop rs.length R', e2]
          simp
        · have := List.take_append_drop rs.length R'
          rw [e2] at this
          rw [this]
          exact h4
        · subst hr
          have := k4 rfl
          subst this
          simp at h7
      · exact .inr ⟨C, sp, k1, k2, k3.other h2 e, k4⟩
theorem NewE.keep {s base n : Nat} {u : Value} {w w' : World} (h : NewE s base u w) (hk : KeepR s base n w w') : NewE s base u w' := by
  rcases hk with hk | ⟨B, R, R', h1, h0, h2, h3, h4, h5, h6, h7, h8⟩
  · exact h.below hk
  · obtain ⟨C, k1, rfl, k3⟩ := h
    by_cases e : C = B
    · subst e
      obtain ⟨sp, q1, q2⟩ := k3.open
      have e1 : sp = [] := by
        have := congrArg (fun v : Value => match v with | .slice _ _ c => c | _ => 0) q1
        simp at this
        exact List.length_eq_zero_iff.1 this.symm
      subst e1
      obtain rfl := rwb_same h3 q2
      simp at h7
    · exact ⟨C, k1, rfl, k3.other h2 e⟩
section
variable {P : Program} {ops : Array Oper} {o : Oper} {N : Nat} {f : Fl} {w : World}
/-- An append of one row to what the region has made. -/
theorem dx_apR {t s bytes base : Nat} {x y : Operand} {u v2 : Value} {rs : List (List Value)} {row : List Value} {L : List Nat} (ho : o.op = .call { callee := .builtin .append, args := #[x, y], argTypes := #[t, t] }) (ht : apB P t s bytes = true) (hx : ev f x = some u) (hy : ev f y = some v2)
    (h : NewS s base rs u w) (h2 : RdF s L w v2 [row]) (h1 : ∀ u ∈ row, u.oneCell' = true) (hm : rs.length + 1 ≤ maxLen) (hby : (rs.length + 1) * bytes ≤ 140737488355328) (hb : base ≤ w.heap.size) {n : Nat} (hn : rs.length ≤ n) (hn1 : 0 < rs.length → n = rs.length) (hw : wantF ops o f = some true := by rfl) : DR P ops o N f w fun u' W => KeepR s base n w W ∧ NewW s base (rs ++ [row]) u' W := fun a ha => by
  have hoc : ∀ r ∈ [row], ∀ u ∈ r, u.oneCell' = true := fun r hr => by rw [List.mem_singleton.1 hr]; exact h1
  rcases h with ⟨rfl, rfl, h0⟩ | ⟨B, sp, hB, rfl, hR, h4⟩
  · exact Does.mono (dx_apF (rs := []) ho ht hx hy (RdF.nil (L := L) h0) h2 (by simp) hm hby hw a ha) fun v W ⟨k1, k2, k3⟩ => ⟨.inl k2, .inr ⟨_, hb, k1⟩⟩
  · by_cases hsp : sp = []
    · subst hsp
      have hx' : ev f x = some (.slice (some ⟨B, 0, none⟩) rs.length rs.length) := by rw [hx]; simp
      have hrd : RdF s [] w (.slice (some ⟨B, 0, none⟩) rs.length rs.length) rs := by
        have := hR.rd (L := []) (vs := rs) (sp := []) (by simp)
        simpa using this
      exact Does.mono (dx_apF (rs := rs) (L := []) ho ht hx' hy hrd (h2.less (by simp)) (by simp) hm hby hw a ha) fun v W ⟨k1, k2, k3⟩ => ⟨.inl k2, .inr ⟨_, hb, k1⟩⟩
    · have hrs : rs ≠ [] := fun e => hsp (h4 e)
      have hspl := List.length_pos_iff.2 hsp
      have hrl := List.length_pos_iff.2 hrs
      have hnn := hn1 hrl
      refine Does.mono (dx_apV (m := 1) ho ht hx hy hR h2 hoc rfl (by rw [List.length_append]; omega) hw a ha) fun v W ⟨k1, k2, k3⟩ => ?_
      have et : (rs ++ sp).take rs.length = rs := by rw [List.take_append_of_le_length (Nat.le_refl _), List.take_length]
      have ed : (rs ++ sp).drop (rs.length + 1) = sp.drop 1 := by rw [List.drop_append]; simp
      rw [et, ed] at k2
      have elen : (rs ++ sp).length = (rs ++ ([row] ++ sp.drop 1)).length := by simp; omega
      refine ⟨.inr ⟨B, _, _, hB, hb, k3, hR, k2, elen, by rw [hnn, et, List.take_append_of_le_length (Nat.le_refl _), List.take_length], by rw [List.length_append]; omega, by omega⟩, .inr ⟨B, hB, ?_⟩⟩
      rw [k1, elen, ← List.append_assoc]
      rw [← List.append_assoc] at k2
      have := k2.own
      simpa using this
/-- x[:k] and x[k:] of rows that are read. -/
theorem dx_rdH {t s : Nat} {x y : Operand} {K : IntKind} {v : Value} {rs : List (List Value)} {L : List Nat} {w0 : World} {i : Int} (k : Nat) (ho : o.op = .slice t x none (some y) none) (ht : sliceB P t s = true) (hx : ev f x = some v) (hy : ev f y = some (.int K i)) (hi : i = (k : Int)) (hr : RdF s L w0 v rs) (hk : k ≤ rs.length) (hw : wantF ops o f = some true := by rfl) : DR P ops o N f w fun u W => w = W ∧ RdZ s L w0 u (rs.take k) W := fun a ha => by
  subst hi
  obtain ⟨h0, hl, ad, cap, rfl, h2, h3, h4, h5⟩ := hr
  have htl : (rs.take k).length = k := by rw [List.length_take]; omega
  cases ad with
  | none =>
    have hc := h4 rfl
    subst hc
    have e1 : rs.length = 0 := by omega
    have e2 := List.length_eq_zero_iff.1 e1
    subst e2
    have e3 : k = 0 := by simpa using hk
    subst e3
    exact Does.mono (dx_slNH ho ht hx hy hw a ha) fun u W ⟨q1, q2⟩ => ⟨q2.symm, by rw [q1]; exact RdF.nil h0⟩
  | some b =>
    obtain ⟨B, o0, sp⟩ := b
    have hgo : DV P ops o N f w (.slice (some ⟨B, o0, sp⟩) k cap) := fun a ha => by
      obtain ⟨e, hu, hs⟩ := of_sliceB ht
      have hx := ha.ev hx
      have hy := ha.ev hy
      cases hi : P.info? e with
      | none => rw [hi] at hs; cases hs
      | some q =>
        have hq : q.size = s := by simpa [hi] using hs
        refine Does.pure (wantF_of ha hw) _ ?_ ⟨rfl, rfl⟩
        have h1 : ((k : Int) ≤ (cap : Int)) := by omega
        have h3 : (0 : Int) ≤ (k : Int) := by omega
        unfold execOp
        simp only [ho, Option.map_none, Option.map_some, hx, hy, Instr.sliceAt, Sem.run_bind, run_underlying hu, Result.andThen_ok, Instr.slice, Instr.sliceBounds, Instr.sliceBound, asIntOf, Sem.run_pure, sizeOf, typeInfo, run_program, hi]
        simp [h1, h3, hq, addr_at, Addr.add]
    refine Does.mono (hgo a ha) fun u W ⟨q1, q2⟩ => ⟨q2.symm, ?_⟩
    rw [q1]
    refine ⟨h0, fun r hr => hl r (List.mem_of_mem_take hr), _, cap, by rw [htl], by omega, h3, (fun h => by cases h), fun hne => ?_⟩
    obtain ⟨X, o1, e, hX, hc⟩ := h5 (fun e => hne (by rw [e, List.take_nil]))
    refine ⟨X, o1, e, hX, ?_⟩
    have := range_part hc 0 (k * s)
    rw [Nat.add_zero, List.drop_zero, flat_take k hl] at this
    exact this
theorem dx_rdL {t s : Nat} {x y : Operand} {K : IntKind} {v : Value} {rs : List (List Value)} {L : List Nat} {w0 : World} {i : Int} (l : Nat) (ho : o.op = .slice t x (some y) none none) (ht : sliceB P t s = true) (hx : ev f x = some v) (hy : ev f y = some (.int K i)) (hi : i = (l : Int)) (hr : RdF s L w0 v rs) (hk : l ≤ rs.length) (hw : wantF ops o f = some true := by rfl) : DR P ops o N f w fun u W => w = W ∧ RdZ s L w0 u (rs.drop l) W := fun a ha => by
  subst hi
  obtain ⟨h0, hl, ad, cap, rfl, h2, h3, h4, h5⟩ := hr
  have htl : (rs.drop l).length = rs.length - l := List.length_drop
  cases ad with
  | none =>
    have hc := h4 rfl
    subst hc
    have e1 : rs.length = 0 := by omega
    have e2 := List.length_eq_zero_iff.1 e1
    subst e2
    have e3 : l = 0 := by simpa using hk
    subst e3
    exact Does.mono (dx_slN ho ht hx hy hw a ha) fun u W ⟨q1, q2⟩ => ⟨q2.symm, by rw [q1]; exact RdF.nil h0⟩
  | some b =>
    obtain ⟨B, o0, sp⟩ := b
    have hgo : DV P ops o N f w (.slice (some (if cap = l then ⟨B, o0, sp⟩ else if l * s = 0 then ⟨B, o0, sp⟩ else ⟨B, o0 + l * s, none⟩)) (rs.length - l) (cap - l)) := fun a ha => by
      obtain ⟨e, hu, hs⟩ := of_sliceB ht
      have hx := ha.ev hx
      have hy := ha.ev hy
      cases hi : P.info? e with
      | none => rw [hi] at hs; cases hs
      | some q =>
        have hq : q.size = s := by simpa [hi] using hs
        refine Does.pure (wantF_of ha hw) _ ?_ ⟨rfl, rfl⟩
        have h1 : ((l : Int) ≤ (rs.length : Int)) := by omega
        have h2' : ((rs.length : Int) ≤ (cap : Int)) := by omega
        have h3 : (0 : Int) ≤ (l : Int) := by omega
        unfold execOp
        simp only [ho, Option.map_none, Option.map_some, hx, hy, Instr.sliceAt, Sem.run_bind, run_underlying hu, Result.andThen_ok, Instr.slice, Instr.sliceBounds, Instr.sliceBound, asIntOf, Sem.run_pure, sizeOf, typeInfo, run_program, hi]
        simp [h1, h2', h3, hq, addr_at, Addr.add, hk]
        split
        · rfl
        · rfl
    refine Does.mono (hgo a ha) fun u W ⟨q1, q2⟩ => ⟨q2.symm, ?_⟩
    rw [q1]
    refine ⟨h0, fun r hr => hl r (List.mem_of_mem_drop hr), _, cap - l, by rw [htl], by omega, by omega, (fun h => by cases h), fun hne => ?_⟩
    have hlt : l < rs.length := by
      rcases Nat.lt_or_ge l rs.length with h | h
      · exact h
      · exact absurd (List.drop_eq_nil_of_le h) hne
    obtain ⟨X, o2, e, hX, hc⟩ := h5 (fun e => hne (by rw [e, List.drop_nil]))
    cases e
    refine ⟨_, o0 + l * s, ?_, hX, ?_⟩
    · rw [if_neg (by omega)]
      split
      · rename_i hz
        rw [hz]
        rfl
      · rfl
    · have := range_part hc (l * s) (rs.flatten.length)
      rw [List.take_of_length_le (by rw [List.length_drop]; omega), flat_drop l hl] at this
      exact this
end
end Go.Proofs.YthefddclefimoaaGreatDoor
namespace Go.Proofs.YthefddclefimoaaGreatDoor
open Go.RowKit
set_option linter.unusedVariables false
set_option linter.unusedSimpArgs false
set_option maxRecDepth 8000

theorem NewS.toW {s base : Nat} {rs : List (List Value)} {u : Value} {w : World} (h : NewS s base rs u w) : NewW s base rs u w := by
  rcases h with h | ⟨B, sp, h1, rfl, h3, h4⟩
  · exact .inl h
  · exact .inr ⟨B, h1, h3.own⟩
theorem tkl {xs : List UserX} {k : Nat} (h : k ≤ xs.length) : ((xs.map encU).take k).length = k := by rw [List.length_take, List.length_map]; omega
theorem tkoc {L : List Nat} {w : World} {xs : List UserX} (h : AgU L w xs) (k : Nat) : ∀ r ∈ (xs.map encU).take k, ∀ u ∈ r, u.oneCell' = true := fun r hr => h.oc r (List.mem_of_mem_take hr)
theorem dpoc {L : List Nat} {w : World} {xs : List UserX} (h : AgU L w xs) (k : Nat) : ∀ r ∈ (xs.map encU).drop k, ∀ u ∈ r, u.oneCell' = true := fun r hr => h.oc r (List.mem_of_mem_drop hr)
theorem dpl {xs : List UserX} {k : Nat} : ((xs.map encU).drop k).length = xs.length - k := by rw [List.length_drop, List.length_map]
set_option maxHeartbeats 1000000 in
theorem refLogout_v (xs : List UserX) (tok : ByteArray) (sv : Value) (w : World) (L : List Nat) (hL : LL L w) (h1 : RdF 3 L w sv (xs.map encU)) (h2 : AgU L w xs)  (hz : SzU xs) : CV Tryz.prog 12 [sv, .string tok] w fun v W => ∃ s2, v = .tuple #[s2, .int .i64 (findU xs tok).2] ∧ RdF 3 L W s2 ((logU xs tok).map encU) ∧ AgU L W (logU xs tok) := by
  refine cv_enter (N := 27) (f := [(0, sv), (1, .string tok)]) Tryz.func12 rfl rfl rfl rfl fun Q hQ hE => ?_
  have hB := Below.refl w.heap.size w
  have h1m : xs.length ≤ maxLen := by have := h1.len; rwa [List.length_map] at this
  unfold maxLen at h1m
  refine WC.seq fun K1 hK1 => ?_
  refine WC.region ?_
  refine WL.val (dx_assign rfl rfl) rfl rfl ?_
  refine WL.val (dx_assign rfl rfl) rfl rfl ?_
  refine WL.nil ?_
  refine hK1 ?_
  refine WC.seq fun K2 hK2 => ?_
  refine WC.seq fun K3 hK3 => ?_
  refine WC.region ?_
  refine WL.val (dx_move rfl rfl) rfl rfl ?_
  refine WL.get (dx_cv rfl Tryz.func17 rfl rfl rfl (refRight_v xs _ w _ hL h1 h2 hz)) rfl rfl ?_
  rintro _ W5 ⟨rfl, b4⟩
  replace h1 := h1.below b4
  replace h2 := h2.below b4
  replace hB := below_then hB b4
  replace hL := LL.below hL b4
  refine WL.val (dx_not rfl rfl) rfl rfl ?_
  refine WL.nil ?_
  refine hK3 ?_
  refine WC.cond rfl (fun c6 => ?_) (fun c6 => ?_)
  ·
    replace c6 := bnot_t c6
    refine WC.seq fun K7 hK7 => ?_
    refine WC.region ?_
    refine WL.val (dx_move rfl rfl) rfl rfl ?_
    refine WL.val (dx_assign rfl rfl) rfl rfl ?_
    refine WL.val (dx_assign rfl rfl) rfl rfl ?_
    refine WL.nil ?_
    refine hK7 ?_
    refine WC.ret fun a_ ha_ => ?_
    exact hQ (cv_ret2 rfl (.tmp rfl) (.tmp rfl) (by have hf : findU xs tok = (0, 1) := find_bad (by first | assumption | exact Bool.eq_false_iff.2 (by assumption)); have hr : logU xs tok = xs := (by unfold logU; rw [hf, if_neg (by decide)]); rw [hr, hf]; exact ⟨_, rfl, (h1.less (fun x hx => hx)), (h2.less (fun x hx => hx))⟩) hB ha_)
  ·
    replace c6 := bnot_f c6
    refine WC.skip ?_
    refine hK2 ?_
    refine WC.seq fun K8 hK8 => ?_
    refine WC.region ?_
    refine WL.val (dx_move rfl rfl) rfl rfl ?_
    refine WL.val (dx_move rfl rfl) rfl rfl ?_
    refine WL.get (dx_cv rfl Tryz.func46 rfl rfl rfl (place_v xs tok _ W5 _ hL h1 h2)) rfl rfl ?_
    rintro _ W10 ⟨rfl, b9⟩
    replace h1 := h1.below b9
    replace h2 := h2.below b9
    replace hB := below_then hB b9
    replace hL := LL.below hL b9
    refine WL.val (dx_assign rfl rfl) rfl rfl ?_
    refine WL.nil ?_
    refine hK8 ?_
    refine WC.seq fun K11 hK11 => ?_
    refine WC.seq fun K12 hK12 => ?_
    refine WC.region ?_
    refine WL.val (dx_move rfl rfl) rfl rfl ?_
    refine WL.val (dx_lss rfl rfl rfl) rfl rfl ?_
    refine WL.nil ?_
    refine hK12 ?_
    refine WC.cond rfl (fun c13 => ?_) (fun c13 => ?_)
    ·
      replace c13 := of_decide_eq_true c13
      refine WC.seq fun K14 hK14 => ?_
      refine WC.region ?_
      refine WL.val (dx_move rfl rfl) rfl rfl ?_
      refine WL.val (dx_assign rfl rfl) rfl rfl ?_
      refine WL.val (dx_assign rfl rfl) rfl rfl ?_
      refine WL.nil ?_
      refine hK14 ?_
      refine WC.ret fun a_ ha_ => ?_
      exact hQ (cv_ret2 rfl (.tmp rfl) (.tmp rfl) (by have hf : findU xs tok = (0, 14) := find_not (by assumption) (by assumption); have hr : logU xs tok = xs := (by unfold logU; rw [hf, if_neg (by decide)]); rw [hr, hf]; exact ⟨_, rfl, (h1.less (fun x hx => hx)), (h2.less (fun x hx => hx))⟩) hB ha_)
    ·
      replace c13 := of_decide_eq_false c13
      refine WC.skip ?_
      refine hK11 ?_
      refine WC.seq fun K15 hK15 => ?_
      have hf0 := find_plc (xs := xs) (tok := tok) (by assumption) (by assumption)
      obtain ⟨hr0, k0, u0, hk0, hu0, ht0, hn0⟩ := findU_ok (xs := xs) (tok := tok) (by rw [hf0])
      rw [hf0] at hk0
      replace hk0 : plcU xs tok = (k0 : Nat) := hk0
      have hl0 := (List.getElem?_eq_some_iff.1 hu0).1
      have hrl := right_len hr0
      have zh1 := h1
      have zh2 := h2
      have zhB := hB
      have zhL := hL
      refine WC.drawM 9 [(some 17, .by fun u W => NewE 3 W10.heap.size u W), (some 18, .is (sv)), (some 19, .is (.int .i64 (plcU xs tok))), (some 20, .by fun u W => RdZ 3 L W10 u ((xs.map encU).take k0) W), (some 21, .by fun u W => NewS 3 W10.heap.size ((xs.map encU).take k0) u W), (some 22, .is (sv)), (some 23, .is (.int .i64 (plcU xs tok))), (some 24, .is (.int .i64 ((plcU xs tok) + 1))), (some 25, .by fun u W => RdZ 3 L W10 u ((xs.map encU).drop (k0 + 1)) W)] [[], [], [], [1, 2], [0, 3], [], [], [6], [5, 7]] (by kernel_rfl) (by kernel_rfl) (by kernel_rfl) (by kernel_rfl) (by kernel_rfl) (by kernel_rfl) (by kernel_rfl) ⟨fun _ _ _ hb h => h.below hb, fun _ _ _ hb h => h.below hb, fun _ _ _ hb h => h.below hb, fun _ _ _ hb h => h.below hb, trivial⟩ ?_ ?_
      ·
        refine DSteps.cons (fun Wd hd => ?_) ?_
        ·
          exact (dx_lit0E rfl ty_ap_22 (by decide)).mono (fun v W' h => ⟨h.1, h.2.le hd.size⟩)
        refine DSteps.cons (fun Wd hd => ?_) ?_
        ·
          exact DV.dr (dx_move rfl rfl) ⟨Below.refl _ _, rfl⟩
        refine DSteps.cons (fun Wd hd => ?_) ?_
        ·
          exact DV.dr (dx_move rfl rfl) ⟨Below.refl _ _, rfl⟩
        refine DSteps.cons (fun Wd hd => ?_) ?_
        ·
          exact ((dx_rdH k0 rfl ty_slice_22 rfl rfl hk0 zh1 (by rw [List.length_map]; omega))).mono (fun v W' h => ⟨by rw [← h.1]; exact Below.refl _ _, h.2⟩)
        refine DSteps.cons (fun Wd hd => ?_) ?_
        ·
          intro u6_0 p6_0 u6_3 p6_3
          exact (dx_apN (base := W10.heap.size) rfl ty_ap_22 rfl rfl p6_0 ((show RdF 3 L W10 u6_3 _ from p6_3).below hd) (tkoc zh2 _) (by rw [tkl (Nat.le_of_lt hl0)]; unfold maxLen; omega) (by rw [tkl (Nat.le_of_lt hl0)]; omega) hd.size).mono (fun v W' h => ⟨h.1, h.2⟩)
        refine DSteps.cons (fun Wd hd => ?_) ?_
        ·
          exact DV.dr (dx_move rfl rfl) ⟨Below.refl _ _, rfl⟩
        refine DSteps.cons (fun Wd hd => ?_) ?_
        ·
          exact DV.dr (dx_move rfl rfl) ⟨Below.refl _ _, rfl⟩
        refine DSteps.cons (fun Wd hd => ?_) ?_
        ·
          exact DV.dr (dx_add (r := (plcU xs tok) + 1) rfl rfl rfl (wrap64_id (by omega))) ⟨Below.refl _ _, rfl⟩
        refine DSteps.cons (fun Wd hd => ?_) ?_
        ·
          exact ((dx_rdL (k0 + 1) rfl ty_slice_22 rfl rfl (by omega) zh1 (by rw [List.length_map]; omega))).mono (fun v W' h => ⟨by rw [← h.1]; exact Below.refl _ _, h.2⟩)
        exact trivial
      ·
        intro W16 b17
        intro _ _
        intro u6_3 p6_3
        intro u6_4 p6_4
        intro u6_8 p6_8
        replace h1 := h1.below b17
        replace h2 := h2.below b17
        replace hB := below_then hB b17
        replace hL := LL.below hL b17
        refine WL.get (dx_apW (base := W10.heap.size) rfl ty_ap_22 rfl rfl p6_4.toW ((show RdF 3 L W10 u6_8 _ from p6_8).below b17) (dpoc zh2 _) (by rw [tkl (Nat.le_of_lt hl0), dpl]; unfold maxLen; omega) (by rw [tkl (Nat.le_of_lt hl0), dpl]; omega) b17.size) rfl rfl ?_
        rintro x18 W19 ⟨hN, b20⟩
        have b21 := b17.trans b20
        replace h1 := zh1.below b21
        replace h2 := zh2.below b21
        replace hB := below_then zhB b21
        replace hL := LL.below zhL b21
        refine WL.val (dx_assign rfl rfl) rfl rfl ?_
        refine WL.val (dx_assign rfl rfl) rfl rfl ?_
        refine WL.nil ?_
        refine hK15 ?_
        refine WC.ret fun a_ ha_ => ?_
        exact hQ (cv_ret2 rfl (.tmp rfl) (.tmp rfl) (by have hr : logU xs tok = xs.take k0 ++ xs.drop (k0 + 1) := (by unfold logU; rw [hf0, if_pos rfl, hk0, Int.toNat_natCast]); rw [hr, show (findU xs tok).2 = 0 by rw [hf0]]; rw [log_rows] at hN; exact ⟨_, rfl, hN.rd (fun x hx => zhL x hx), h2.del _⟩) hB ha_)

theorem any_plc {xs : List UserX} {tok : ByteArray} : xs.any (tokP tok) = decide (0 ≤ plcU xs tok) := by
  cases h : xs.any (tokP tok) with
  | true =>
    obtain ⟨a, ha, hp⟩ := List.any_eq_true.1 h
    refine (decide_eq_true ?_).symm
    rcases Int.lt_or_le (plcU xs tok) 0 with hl | hl
    · have := idxX_no xs 0 (by omega) hl a ha
      rw [hp] at this
      cases this
    · exact hl
  | false =>
    refine (decide_eq_false fun hl => ?_).symm
    obtain ⟨k, a, h1, h2, h3, h4⟩ := idxX_is (p := tokP tok) xs 0 (by omega) hl
    exact absurd (List.any_eq_true.2 ⟨a, List.mem_of_getElem? h2, h3⟩) (by rw [h]; decide)
theorem reg_at {xs : List UserX} {tok : ByteArray} {n : Nat} (hn : n ≤ xs.length) (hno : xs.any (tokP tok) = false) (hv : ∀ k a, k < n → xs[k]? = some a → sless a.1 tok = true) (he : n = xs.length ∨ ∃ a, xs[n]? = some a ∧ sless a.1 tok = false) : regAt xs tok = n := by
  have hne : ∀ a ∈ xs, a.1 ≠ tok := fun a ha e => by
    have := List.any_eq_false.1 hno a ha
    exact this (decide_eq_true e)
  have hg : ∀ a ∈ xs, gtP tok a = !sless a.1 tok := fun a ha => by
    unfold gtP
    rw [decide_eq_false (hne a ha), Bool.or_false]
  unfold regAt
  split
  · rename_i hl
    have hall := idxX_no (p := gtP tok) xs 0 (by omega) hl
    rcases he with he | ⟨a, h1, h2⟩
    · exact he.symm
    · have h3 := List.mem_of_getElem? h1
      have := hall a h3
      rw [hg a h3, h2] at this
      cases this
  · rename_i hl
    obtain ⟨k, a, h1, h2, h3, h4⟩ := idxX_is (p := gtP tok) xs 0 (by omega) (by omega)
    rw [h1]
    have e0 : ((0 : Int) + (k : Nat)).toNat = k := by omega
    rw [e0]
    have hk := (List.getElem?_eq_some_iff.1 h2).1
    rcases Nat.lt_trichotomy k n with h | h | h
    · have h5 := hv k a h h2
      rw [hg a (List.mem_of_getElem? h2), h5] at h3
      cases h3
    · exact h
    · rcases he with he | ⟨b, h5, h6⟩
      · omega
      · have := h4 n b h h5
        rw [hg b (List.mem_of_getElem? h5), h6] at this
        cases this
set_option maxHeartbeats 1000000 in
theorem refRegister_v (xs : List UserX) (tok mx : ByteArray) (sv : Value) (w : World) (L : List Nat) (hL : LL L w) (h1 : RdF 3 L w sv (xs.map encU)) (h2 : AgU L w xs)  (hz : SzU xs) (htk : tok.size ≤ 140737488355328) : CV Tryz.prog 10 [sv, .string tok, .string mx] w fun v W => ∃ s2, v = .tuple #[s2, .int .i64 (regE xs tok mx)] ∧ RdF 3 L W s2 ((regU xs tok mx).map encU) ∧ AgU L W (regU xs tok mx) := by
  refine cv_enter (N := 64) (f := [(0, sv), (1, .string tok), (2, .string mx)]) Tryz.func10 rfl rfl rfl rfl fun Q hQ hE => ?_
  have hB := Below.refl w.heap.size w
  have h1m : xs.length ≤ maxLen := by have := h1.len; rwa [List.length_map] at this
  unfold maxLen at h1m
  refine WC.seq fun K1 hK1 => ?_
  refine WC.region ?_
  refine WL.val (dx_assign rfl rfl) rfl rfl ?_
  refine WL.val (dx_assign rfl rfl) rfl rfl ?_
  refine WL.nil ?_
  refine hK1 ?_
  refine WC.seq fun K2 hK2 => ?_
  refine WC.block ?_
  refine WC.seq fun K3 hK3 => ?_
  refine WC.region ?_
  refine WL.val (dx_move rfl rfl) rfl rfl ?_
  refine WL.get (dx_cv rfl Tryz.func17 rfl rfl rfl (refRight_v xs _ w _ hL h1 h2 hz)) rfl rfl ?_
  rintro _ W5 ⟨rfl, b4⟩
  replace h1 := h1.below b4
  replace h2 := h2.below b4
  replace hB := below_then hB b4
  replace hL := LL.below hL b4
  refine WL.val (dx_not rfl rfl) rfl rfl ?_
  refine WL.val (dx_move rfl rfl) rfl rfl ?_
  refine WL.split 13 rfl (fun g6 => ?_) (fun g6 => ?_)
  ·
    replace g6 := bnot_t g6
    refine WL.off rfl rfl rfl ?_
    refine WL.off rfl rfl rfl ?_
    refine WL.off rfl rfl rfl ?_
    refine WL.val (dx_pick rfl rfl rfl) rfl rfl ?_
    refine WL.val (dx_move rfl rfl) rfl rfl ?_
    refine WL.off rfl rfl rfl ?_
    refine WL.off rfl rfl rfl ?_
    refine WL.off rfl rfl rfl ?_
    refine WL.val (dx_pick rfl rfl rfl) rfl rfl ?_
    refine WL.val (dx_assign rfl rfl) rfl rfl ?_
    refine WL.nil ?_
    refine hK3 ?_
    refine WC.condT rfl ?_
    refine WC.seq fun K7 hK7 => ?_
    refine WC.region ?_
    refine WL.val (dx_move rfl rfl) rfl rfl ?_
    refine WL.val (dx_assign rfl rfl) rfl rfl ?_
    refine WL.val (dx_assign rfl rfl) rfl rfl ?_
    refine WL.nil ?_
    refine hK7 ?_
    refine WC.ret fun a_ ha_ => ?_
    exact hQ (cv_ret2 rfl (.tmp rfl) (.tmp rfl) (by have he : regE xs tok mx = 1 := (by unfold regE; rw [if_neg (fun hc => by obtain ⟨q1, q2, q3⟩ := hc; simp_all)]); have hr : regU xs tok mx = xs := (by unfold regU; rw [if_neg (by rw [he]; decide)]); rw [he, hr]; exact ⟨_, rfl, (h1.less (fun x hx => hx)), (h2.less (fun x hx => hx))⟩) hB ha_)
  ·
    replace g6 := bnot_f g6
    refine WL.val (dx_move rfl rfl) rfl rfl ?_
    refine WL.get (dx_cv rfl Tryz.func44 rfl rfl rfl (secret_v tok W5 [] (LL.nil _) (by assumption))) rfl rfl ?_
    rintro _ W9 ⟨rfl, b8⟩
    replace h1 := h1.below b8
    replace h2 := h2.below b8
    replace hB := below_then hB b8
    replace hL := LL.below hL b8
    refine WL.val (dx_not rfl rfl) rfl rfl ?_
    refine WL.val (dx_pick rfl rfl rfl) rfl rfl ?_
    refine WL.val (dx_move rfl rfl) rfl rfl ?_
    refine WL.split 18 rfl (fun g10 => ?_) (fun g10 => ?_)
    ·
      replace g10 := bnot_t g10
      refine WL.off rfl rfl rfl ?_
      refine WL.off rfl rfl rfl ?_
      refine WL.off rfl rfl rfl ?_
      refine WL.val (dx_pick rfl rfl rfl) rfl rfl ?_
      refine WL.val (dx_assign rfl rfl) rfl rfl ?_
      refine WL.nil ?_
      refine hK3 ?_
      refine WC.condT rfl ?_
      refine WC.seq fun K11 hK11 => ?_
      refine WC.region ?_
      refine WL.val (dx_move rfl rfl) rfl rfl ?_
      refine WL.val (dx_assign rfl rfl) rfl rfl ?_
      refine WL.val (dx_assign rfl rfl) rfl rfl ?_
      refine WL.nil ?_
      refine hK11 ?_
      refine WC.ret fun a_ ha_ => ?_
      exact hQ (cv_ret2 rfl (.tmp rfl) (.tmp rfl) (by have he : regE xs tok mx = 1 := (by unfold regE; rw [if_neg (fun hc => by obtain ⟨q1, q2, q3⟩ := hc; simp_all)]); have hr : regU xs tok mx = xs := (by unfold regU; rw [if_neg (by rw [he]; decide)]); rw [he, hr]; exact ⟨_, rfl, (h1.less (fun x hx => hx)), (h2.less (fun x hx => hx))⟩) hB ha_)
    ·
      replace g10 := bnot_f g10
      refine WL.val (dx_move rfl rfl) rfl rfl ?_
      refine WL.get (dx_cv rfl Tryz.func45 rfl rfl rfl (refUser_v mx W9)) rfl rfl ?_
      rintro _ W13 ⟨rfl, b12⟩
      replace h1 := h1.below b12
      replace h2 := h2.below b12
      replace hB := below_then hB b12
      replace hL := LL.below hL b12
      refine WL.val (dx_not rfl rfl) rfl rfl ?_
      refine WL.val (dx_pick rfl rfl rfl) rfl rfl ?_
      refine WL.val (dx_assign rfl rfl) rfl rfl ?_
      refine WL.nil ?_
      refine hK3 ?_
      refine WC.cond rfl (fun c14 => ?_) (fun c14 => ?_)
      ·
        replace c14 := bnot_t c14
        refine WC.seq fun K15 hK15 => ?_
        refine WC.region ?_
        refine WL.val (dx_move rfl rfl) rfl rfl ?_
        refine WL.val (dx_assign rfl rfl) rfl rfl ?_
        refine WL.val (dx_assign rfl rfl) rfl rfl ?_
        refine WL.nil ?_
        refine hK15 ?_
        refine WC.ret fun a_ ha_ => ?_
        exact hQ (cv_ret2 rfl (.tmp rfl) (.tmp rfl) (by have he : regE xs tok mx = 1 := (by unfold regE; rw [if_neg (fun hc => by obtain ⟨q1, q2, q3⟩ := hc; simp_all)]); have hr : regU xs tok mx = xs := (by unfold regU; rw [if_neg (by rw [he]; decide)]); rw [he, hr]; exact ⟨_, rfl, (h1.less (fun x hx => hx)), (h2.less (fun x hx => hx))⟩) hB ha_)
      ·
        replace c14 := bnot_f c14
        refine WC.seq fun K16 hK16 => ?_
        refine WC.region ?_
        refine WL.val (dx_move rfl rfl) rfl rfl ?_
        refine WL.val (dx_move rfl rfl) rfl rfl ?_
        refine WL.get (dx_cv rfl Tryz.func46 rfl rfl rfl (place_v xs tok _ W13 _ hL h1 h2)) rfl rfl ?_
        rintro _ W18 ⟨rfl, b17⟩
        replace h1 := h1.below b17
        replace h2 := h2.below b17
        replace hB := below_then hB b17
        replace hL := LL.below hL b17
        refine WL.val (dx_geq rfl rfl rfl) rfl rfl ?_
        refine WL.val (dx_assign rfl rfl) rfl rfl ?_
        refine WL.nil ?_
        refine hK16 ?_
        refine WC.cond rfl (fun c19 => ?_) (fun c19 => ?_)
        ·
          replace c19 := of_decide_eq_true c19
          refine WC.seq fun K20 hK20 => ?_
          refine WC.region ?_
          refine WL.val (dx_move rfl rfl) rfl rfl ?_
          refine WL.val (dx_assign rfl rfl) rfl rfl ?_
          refine WL.val (dx_assign rfl rfl) rfl rfl ?_
          refine WL.nil ?_
          refine hK20 ?_
          refine WC.ret fun a_ ha_ => ?_
          exact hQ (cv_ret2 rfl (.tmp rfl) (.tmp rfl) (by have he : regE xs tok mx = 6 := (by unfold regE; rw [if_pos ⟨by assumption, by assumption, by assumption⟩, any_plc]; simp [*]); have hr : regU xs tok mx = xs := (by unfold regU; rw [if_neg (by rw [he]; decide)]); rw [he, hr]; exact ⟨_, rfl, (h1.less (fun x hx => hx)), (h2.less (fun x hx => hx))⟩) hB ha_)
        ·
          replace c19 := of_decide_eq_false c19
          refine WC.seq fun K21 hK21 => ?_
          refine WC.region ?_
          refine WL.val (dx_move rfl rfl) rfl rfl ?_
          refine WL.val (dx_lenX rfl ty_slice_22 rfl h1) rfl rfl ?_
          refine WL.val (dx_eql rfl rfl rfl) rfl rfl ?_
          refine WL.val (dx_assign rfl rfl) rfl rfl ?_
          refine WL.nil ?_
          refine hK21 ?_
          refine WC.cond rfl (fun c22 => ?_) (fun c22 => ?_)
          ·
            replace c22 := of_decide_eq_true c22
            refine WC.seq fun K23 hK23 => ?_
            refine WC.region ?_
            refine WL.val (dx_move rfl rfl) rfl rfl ?_
            refine WL.val (dx_assign rfl rfl) rfl rfl ?_
            refine WL.val (dx_assign rfl rfl) rfl rfl ?_
            refine WL.nil ?_
            refine hK23 ?_
            refine WC.ret fun a_ ha_ => ?_
            exact hQ (cv_ret2 rfl (.tmp rfl) (.tmp rfl) (by have he : regE xs tok mx = 10 := (by unfold regE; rw [if_pos ⟨by assumption, by assumption, by assumption⟩, any_plc]; simp [*]); have hr : regU xs tok mx = xs := (by unfold regU; rw [if_neg (by rw [he]; decide)]); rw [he, hr]; exact ⟨_, rfl, (h1.less (fun x hx => hx)), (h2.less (fun x hx => hx))⟩) hB ha_)
          ·
            replace c22 := of_decide_eq_false c22
            refine WC.skip ?_
            refine hK2 ?_
            refine WC.seq fun K24 hK24 => ?_
            refine WC.region ?_
            refine WL.val (dx_assign rfl rfl) rfl rfl ?_
            refine WL.nil ?_
            refine hK24 ?_
            refine WC.seq fun K25 hK25 => ?_
            refine WC.block ?_
            refine WC.loop (fun (ia : Nat) => [(0, sv), (1, .string tok), (2, .string mx), (6, .slice none 0 0), (7, .int .i64 0), (8, .int .i64 (ia : Int))]) (fun (ia : Nat) W => ia ≤ xs.length ∧ (∀ k a, k < ia → xs[k]? = some a → (fun a : UserX => sless a.1 tok) a = true) ∧ Below w.heap.size w W ∧ LL (L) W ∧ RdF 3 (L) W sv (xs.map encU) ∧ AgU (L) W xs) (fun (ia : Nat) => xs.length - ia) 0 (by repeat first | exact trivial | exact And.intro rfl trivial | refine And.intro rfl ?_ | refine And.intro (congrArg (fun z : Int => some (Value.int .i64 z)) (by omega)) ?_) ⟨Nat.zero_le _, (fun k a hk => by omega), hB, hL, h1, h2⟩ ?_
            clear h1 h2 hB hL
            rintro K26 ia W27 ⟨hi, hv, hB, hL, h1, h2⟩ hK26
            refine WC.seq fun K28 hK28 => ?_
            refine WC.seq fun K29 hK29 => ?_
            refine WC.region ?_
            refine WL.val (dx_move rfl rfl) rfl rfl ?_
            refine WL.val (dx_move rfl rfl) rfl rfl ?_
            refine WL.val (dx_lenX rfl ty_slice_22 rfl h1) rfl rfl ?_
            refine WL.val (dx_lss rfl rfl rfl) rfl rfl ?_
            refine WL.val (dx_move rfl rfl) rfl rfl ?_
            refine WL.split 39 rfl (fun g30 => ?_) (fun g30 => ?_)
            ·
              replace g30 := of_decide_eq_true g30
              refine WL.val (dx_move rfl rfl) rfl rfl ?_
              refine WL.val (dx_move rfl rfl) rfl rfl ?_
              obtain ⟨r31, e32⟩ : ∃ x, xs[ia]? = some x := ⟨_, List.getElem?_eq_getElem (by omega)⟩
              refine WL.get (dx_idxF ia rfl ty_slice_22 rfl rfl h1 (by omega) (at_mapX e32)) rfl rfl ?_
              rintro u33 _ ⟨rfl, p34⟩
              refine WL.get (dx_fldP 1 rfl ty_fld_54_0_0 rfl p34 (cs' := [.string r31.1]) rfl (Nat.succ_pos _)) rfl rfl ?_
              rintro u35 _ ⟨rfl, p36⟩
              refine WL.val (dx_loadP rfl ty_one_9 rfl p36) rfl rfl ?_
              refine WL.val (dx_move rfl rfl) rfl rfl ?_
              refine WL.val (dx_lssT rfl rfl rfl) rfl rfl ?_
              refine WL.val (dx_pick rfl rfl rfl) rfl rfl ?_
              refine WL.nil ?_
              refine hK29 ?_
              refine WC.cond rfl (fun c37 => ?_) (fun c37 => ?_)
              ·
                refine WC.skip ?_
                refine hK28 ?_
                refine WC.block ?_
                refine WC.region ?_
                refine WL.val (dx_move rfl rfl) rfl rfl ?_
                refine WL.val (dx_add (r := (ia : Int) + 1) rfl rfl rfl (wrap64_id (by omega))) rfl rfl ?_
                refine WL.val (dx_assign rfl rfl) rfl rfl ?_
                refine WL.nil ?_
                exact hK26 (ia + 1) ⟨(by omega), (good_step (g := fun a : UserX => sless a.1 tok) hv e32 (by first | assumption | simp [*])), hB, hL, h1, h2⟩ (by omega) (by repeat first | exact trivial | exact And.intro rfl trivial | refine And.intro rfl ?_ | refine And.intro (congrArg (fun z : Int => some (Value.int .i64 z)) (by omega)) ?_)
              ·
                refine WC.exit ?_
                refine hK25 ?_
                refine WC.seq fun K38 hK38 => ?_
                have zh1 := h1
                have zh2 := h2
                have zhB := hB
                have zhL := hL
                have hrl := right_len (show rightU xs = true by assumption)
                have hno : xs.any (tokP tok) = false := (by rw [any_plc]; exact decide_eq_false (by assumption))
                have hra : regAt xs tok = ia := reg_at hi hno hv (.inr ⟨_, e32, by first | assumption | simp [*]⟩)
                refine WC.drawW 13 9 (KeepR 3 W27.heap.size (max ia 1)) [(some 50, .by fun u W => NewE 3 W27.heap.size u W), (some 51, .is (sv)), (some 52, .is (.int .i64 (ia : Int))), (some 53, .by fun u W => RdZ 3 L W27 u ((xs.map encU).take ia) W), (some 54, .by fun u W => NewS 3 W27.heap.size ((xs.map encU).take ia) u W), (some 55, .is (.string tok)), (some 56, .is (.string mx)), (some 57, .is (.agg #[.string tok, .string mx, .slice none 0 0])), (some 58, .by fun u W => NewS 3 W27.heap.size [encU (newU tok mx)] u W), (some 59, .by fun u W => NewW 3 W27.heap.size ((xs.map encU).take ia ++ [encU (newU tok mx)]) u W), (some 60, .is (sv)), (some 61, .is (.int .i64 (ia : Int))), (some 62, .by fun u W => RdZ 3 L W27 u ((xs.map encU).drop ia) W)] [[], [], [], [1, 2], [0, 3], [], [], [5, 6], [7], [4, 8, 4], [], [], [10, 11]] (by kernel_rfl) (by kernel_rfl) (by kernel_rfl) (by kernel_rfl) (by kernel_rfl) (by kernel_rfl) (by kernel_rfl) ⟨fun _ _ _ hb h => h.below hb, fun _ _ _ hb h => h.below hb, fun _ _ _ hb h => h.below hb, fun _ _ _ hb h => h.below hb, fun _ _ _ hb h => h.below hb, fun _ _ _ hb h => h.below hb, trivial⟩ ⟨fun _ _ _ hk h => h.keep hk, fun _ _ _ hk h => h.keep hk, fun _ _ _ hk h => h.keep hk (by first | (rw [tkl hi]; omega) | (simp; omega)), fun _ _ _ hk h => h.keep hk (by first | (rw [tkl hi]; omega) | (simp; omega)), fun _ _ _ hk h => h.keep hk, trivial⟩ (fun _ _ hb h => h.base hb.size hb) ?_ ?_
                ·
                  refine DStepsW.cons (by decide) (fun Wd hd => ?_) ?_
                  ·
                    exact (dx_lit0E rfl ty_ap_22 (by decide)).mono (fun v W' h => ⟨h.1, h.2.le hd.size⟩)
                  refine DStepsW.cons (by decide) (fun Wd hd => ?_) ?_
                  ·
                    exact DV.dr (dx_move rfl rfl) ⟨Below.refl _ _, rfl⟩
                  refine DStepsW.cons (by decide) (fun Wd hd => ?_) ?_
                  ·
                    exact DV.dr (dx_move rfl rfl) ⟨Below.refl _ _, rfl⟩
                  refine DStepsW.cons (by decide) (fun Wd hd => ?_) ?_
                  ·
                    exact ((dx_rdH ia rfl ty_slice_22 rfl rfl rfl zh1 (by rw [List.length_map]; exact hi))).mono (fun v W' h => ⟨by rw [← h.1]; exact Below.refl _ _, h.2⟩)
                  refine DStepsW.cons (by decide) (fun Wd hd => ?_) ?_
                  ·
                    intro u10_0 p10_0 u10_3 p10_3
                    exact (dx_apN (base := W27.heap.size) rfl ty_ap_22 rfl rfl p10_0 ((show RdF 3 L W27 u10_3 _ from p10_3).below hd) (tkoc zh2 _) (by rw [tkl hi]; unfold maxLen; omega) (by rw [tkl hi]; omega) hd.size).mono (fun v W' h => ⟨h.1, h.2⟩)
                  refine DStepsW.cons (by decide) (fun Wd hd => ?_) ?_
                  ·
                    exact DV.dr (dx_move rfl rfl) ⟨Below.refl _ _, rfl⟩
                  refine DStepsW.cons (by decide) (fun Wd hd => ?_) ?_
                  ·
                    exact DV.dr (dx_move rfl rfl) ⟨Below.refl _ _, rfl⟩
                  refine DStepsW.cons (by decide) (fun Wd hd => ?_) ?_
                  ·
                    exact DV.dr (dx_build rfl rfl (built_of_O (cs := [.string tok, .string mx, .slice none 0 0]) (by kernel_rfl) (oc_cons rfl (oc_cons rfl oc_nil)))) ⟨Below.refl _ _, rfl⟩
                  refine DStepsW.cons (by decide) (fun Wd hd => ?_) ?_
                  ·
                    exact (dx_lit1 (r := encU (newU tok mx)) rfl ty_ap_22 (by decide) (by decide) rfl rfl rfl).mono (fun v W' h => ⟨h.2.1, NewS.of_own h.1 hd.size (by simp)⟩)
                  refine DStepsW.hit (fun Wd hd => ?_) ?_
                  ·
                    intro u10_4 p10_4 u10_8 p10_8 u10_4 p10_4
                    exact (dx_apR (n := max ia 1) rfl ty_ap_22 rfl rfl p10_4 (p10_8.rd (L := []) (by simp)) (oc_cons rfl (oc_cons rfl (oc_cons rfl oc_nil))) (by rw [tkl hi]; unfold maxLen; omega) (by rw [tkl hi]; omega) hd.size (by rw [tkl hi]; omega) (by rw [tkl hi]; omega)).mono (fun v W' h => ⟨h.1, h.2⟩)
                  refine DStepsW.cons (by decide) (fun Wd hd => ?_) ?_
                  ·
                    exact DV.dr (dx_move rfl rfl) ⟨Below.refl _ _, rfl⟩
                  refine DStepsW.cons (by decide) (fun Wd hd => ?_) ?_
                  ·
                    exact DV.dr (dx_move rfl rfl) ⟨Below.refl _ _, rfl⟩
                  refine DStepsW.cons (by decide) (fun Wd hd => ?_) ?_
                  ·
                    exact ((dx_rdL ia rfl ty_slice_22 rfl rfl rfl zh1 (by rw [List.length_map]; exact hi))).mono (fun v W' h => ⟨by rw [← h.1]; exact Below.refl _ _, h.2⟩)
                  exact trivial
                ·
                  intro W39 b40
                  intro _ _
                  intro u10_3 p10_3
                  intro u10_4 p10_4
                  intro u10_8 p10_8
                  intro u10_9 p10_9
                  intro u10_12 p10_12
                  replace h1 := h1.below b40
                  replace h2 := h2.below b40
                  replace hB := below_then hB b40
                  replace hL := LL.below hL b40
                  refine WL.get (dx_apW (base := W27.heap.size) rfl ty_ap_22 rfl rfl p10_9 ((show RdF 3 L W27 u10_12 _ from p10_12).below b40) (dpoc zh2 _) (by rw [List.length_append, tkl hi, dpl, show [encU (newU tok mx)].length = 1 from rfl]; unfold maxLen; omega) (by rw [List.length_append, tkl hi, dpl, show [encU (newU tok mx)].length = 1 from rfl]; omega) b40.size) rfl rfl ?_
                  rintro x41 W42 ⟨hN, b43⟩
                  have b44 := b40.trans b43
                  replace h1 := zh1.below b44
                  replace h2 := zh2.below b44
                  replace hB := below_then zhB b44
                  replace hL := LL.below zhL b44
                  refine WL.val (dx_assign rfl rfl) rfl rfl ?_
                  refine WL.val (dx_assign rfl rfl) rfl rfl ?_
                  refine WL.nil ?_
                  refine hK38 ?_
                  refine WC.ret fun a_ ha_ => ?_
                  exact hQ (cv_ret2 rfl (.tmp rfl) (.tmp rfl) (by have he : regE xs tok mx = 0 := (by unfold regE; rw [if_pos ⟨by assumption, by assumption, by assumption⟩, if_neg (by rw [hno]; decide), if_neg (by omega)]); have hr : regU xs tok mx = xs.take ia ++ (newU tok mx :: xs.drop ia) := (by unfold regU; rw [if_pos he, hra]); rw [he, hr, ← reg_rows]; rw [List.append_assoc] at hN; exact ⟨_, rfl, hN.rd (fun x hx => zhL x hx), h2.reg tok mx _⟩) hB ha_)
            ·
              replace g30 := of_decide_eq_false g30
              refine WL.off rfl rfl rfl ?_
              refine WL.off rfl rfl rfl ?_
              refine WL.off rfl rfl rfl ?_
              refine WL.off rfl rfl rfl ?_
              refine WL.off rfl rfl rfl ?_
              refine WL.off rfl rfl rfl ?_
              refine WL.off rfl rfl rfl ?_
              refine WL.val (dx_pick rfl rfl rfl) rfl rfl ?_
              refine WL.nil ?_
              refine hK29 ?_
              refine WC.condF rfl ?_
              refine WC.exit ?_
              refine hK25 ?_
              refine WC.seq fun K45 hK45 => ?_
              have zh1 := h1
              have zh2 := h2
              have zhB := hB
              have zhL := hL
              have hrl := right_len (show rightU xs = true by assumption)
              have hno : xs.any (tokP tok) = false := (by rw [any_plc]; exact decide_eq_false (by assumption))
              have hra : regAt xs tok = ia := reg_at hi hno hv (.inl (by omega))
              refine WC.drawW 13 9 (KeepR 3 W27.heap.size (max ia 1)) [(some 50, .by fun u W => NewE 3 W27.heap.size u W), (some 51, .is (sv)), (some 52, .is (.int .i64 (ia : Int))), (some 53, .by fun u W => RdZ 3 L W27 u ((xs.map encU).take ia) W), (some 54, .by fun u W => NewS 3 W27.heap.size ((xs.map encU).take ia) u W), (some 55, .is (.string tok)), (some 56, .is (.string mx)), (some 57, .is (.agg #[.string tok, .string mx, .slice none 0 0])), (some 58, .by fun u W => NewS 3 W27.heap.size [encU (newU tok mx)] u W), (some 59, .by fun u W => NewW 3 W27.heap.size ((xs.map encU).take ia ++ [encU (newU tok mx)]) u W), (some 60, .is (sv)), (some 61, .is (.int .i64 (ia : Int))), (some 62, .by fun u W => RdZ 3 L W27 u ((xs.map encU).drop ia) W)] [[], [], [], [1, 2], [0, 3], [], [], [5, 6], [7], [4, 8, 4], [], [], [10, 11]] (by kernel_rfl) (by kernel_rfl) (by kernel_rfl) (by kernel_rfl) (by kernel_rfl) (by kernel_rfl) (by kernel_rfl) ⟨fun _ _ _ hb h => h.below hb, fun _ _ _ hb h => h.below hb, fun _ _ _ hb h => h.below hb, fun _ _ _ hb h => h.below hb, fun _ _ _ hb h => h.below hb, fun _ _ _ hb h => h.below hb, trivial⟩ ⟨fun _ _ _ hk h => h.keep hk, fun _ _ _ hk h => h.keep hk, fun _ _ _ hk h => h.keep hk (by first | (rw [tkl hi]; omega) | (simp; omega)), fun _ _ _ hk h => h.keep hk (by first | (rw [tkl hi]; omega) | (simp; omega)), fun _ _ _ hk h => h.keep hk, trivial⟩ (fun _ _ hb h => h.base hb.size hb) ?_ ?_
              ·
                refine DStepsW.cons (by decide) (fun Wd hd => ?_) ?_
                ·
                  exact (dx_lit0E rfl ty_ap_22 (by decide)).mono (fun v W' h => ⟨h.1, h.2.le hd.size⟩)
                refine DStepsW.cons (by decide) (fun Wd hd => ?_) ?_
                ·
                  exact DV.dr (dx_move rfl rfl) ⟨Below.refl _ _, rfl⟩
                refine DStepsW.cons (by decide) (fun Wd hd => ?_) ?_
                ·
                  exact DV.dr (dx_move rfl rfl) ⟨Below.refl _ _, rfl⟩
                refine DStepsW.cons (by decide) (fun Wd hd => ?_) ?_
                ·
                  exact ((dx_rdH ia rfl ty_slice_22 rfl rfl rfl zh1 (by rw [List.length_map]; exact hi))).mono (fun v W' h => ⟨by rw [← h.1]; exact Below.refl _ _, h.2⟩)
                refine DStepsW.cons (by decide) (fun Wd hd => ?_) ?_
                ·
                  intro u10_0 p10_0 u10_3 p10_3
                  exact (dx_apN (base := W27.heap.size) rfl ty_ap_22 rfl rfl p10_0 ((show RdF 3 L W27 u10_3 _ from p10_3).below hd) (tkoc zh2 _) (by rw [tkl hi]; unfold maxLen; omega) (by rw [tkl hi]; omega) hd.size).mono (fun v W' h => ⟨h.1, h.2⟩)
                refine DStepsW.cons (by decide) (fun Wd hd => ?_) ?_
                ·
                  exact DV.dr (dx_move rfl rfl) ⟨Below.refl _ _, rfl⟩
                refine DStepsW.cons (by decide) (fun Wd hd => ?_) ?_
                ·
                  exact DV.dr (dx_move rfl rfl) ⟨Below.refl _ _, rfl⟩
                refine DStepsW.cons (by decide) (fun Wd hd => ?_) ?_
                ·
                  exact DV.dr (dx_build rfl rfl (built_of_O (cs := [.string tok, .string mx, .slice none 0 0]) (by kernel_rfl) (oc_cons rfl (oc_cons rfl oc_nil)))) ⟨Below.refl _ _, rfl⟩
                refine DStepsW.cons (by decide) (fun Wd hd => ?_) ?_
                ·
                  exact (dx_lit1 (r := encU (newU tok mx)) rfl ty_ap_22 (by decide) (by decide) rfl rfl rfl).mono (fun v W' h => ⟨h.2.1, NewS.of_own h.1 hd.size (by simp)⟩)
                refine DStepsW.hit (fun Wd hd => ?_) ?_
                ·
                  intro u10_4 p10_4 u10_8 p10_8 u10_4 p10_4
                  exact (dx_apR (n := max ia 1) rfl ty_ap_22 rfl rfl p10_4 (p10_8.rd (L := []) (by simp)) (oc_cons rfl (oc_cons rfl (oc_cons rfl oc_nil))) (by rw [tkl hi]; unfold maxLen; omega) (by rw [tkl hi]; omega) hd.size (by rw [tkl hi]; omega) (by rw [tkl hi]; omega)).mono (fun v W' h => ⟨h.1, h.2⟩)
                refine DStepsW.cons (by decide) (fun Wd hd => ?_) ?_
                ·
                  exact DV.dr (dx_move rfl rfl) ⟨Below.refl _ _, rfl⟩
                refine DStepsW.cons (by decide) (fun Wd hd => ?_) ?_
                ·
                  exact DV.dr (dx_move rfl rfl) ⟨Below.refl _ _, rfl⟩
                refine DStepsW.cons (by decide) (fun Wd hd => ?_) ?_
                ·
                  exact ((dx_rdL ia rfl ty_slice_22 rfl rfl rfl zh1 (by rw [List.length_map]; exact hi))).mono (fun v W' h => ⟨by rw [← h.1]; exact Below.refl _ _, h.2⟩)
                exact trivial
              ·
                intro W46 b47
                intro _ _
                intro u10_3 p10_3
                intro u10_4 p10_4
                intro u10_8 p10_8
                intro u10_9 p10_9
                intro u10_12 p10_12
                replace h1 := h1.below b47
                replace h2 := h2.below b47
                replace hB := below_then hB b47
                replace hL := LL.below hL b47
                refine WL.get (dx_apW (base := W27.heap.size) rfl ty_ap_22 rfl rfl p10_9 ((show RdF 3 L W27 u10_12 _ from p10_12).below b47) (dpoc zh2 _) (by rw [List.length_append, tkl hi, dpl, show [encU (newU tok mx)].length = 1 from rfl]; unfold maxLen; omega) (by rw [List.length_append, tkl hi, dpl, show [encU (newU tok mx)].length = 1 from rfl]; omega) b47.size) rfl rfl ?_
                rintro x48 W49 ⟨hN, b50⟩
                have b51 := b47.trans b50
                replace h1 := zh1.below b51
                replace h2 := zh2.below b51
                replace hB := below_then zhB b51
                replace hL := LL.below zhL b51
                refine WL.val (dx_assign rfl rfl) rfl rfl ?_
                refine WL.val (dx_assign rfl rfl) rfl rfl ?_
                refine WL.nil ?_
                refine hK45 ?_
                refine WC.ret fun a_ ha_ => ?_
                exact hQ (cv_ret2 rfl (.tmp rfl) (.tmp rfl) (by have he : regE xs tok mx = 0 := (by unfold regE; rw [if_pos ⟨by assumption, by assumption, by assumption⟩, if_neg (by rw [hno]; decide), if_neg (by omega)]); have hr : regU xs tok mx = xs.take ia ++ (newU tok mx :: xs.drop ia) := (by unfold regU; rw [if_pos he, hra]); rw [he, hr, ← reg_rows]; rw [List.append_assoc] at hN; exact ⟨_, rfl, hN.rd (fun x hx => zhL x hx), h2.reg tok mx _⟩) hB ha_)

end Go.Proofs.YthefddclefimoaaGreatDoor
namespace Go.Proofs.YthefddclefimoaaGreatDoor
open Go.RowKit
set_option linter.unusedVariables false
set_option linter.unusedSimpArgs false
set_option maxRecDepth 8000

abbrev keyU (u : UserX) : ByteArray × ByteArray × List ByteArray := (u.1, u.2.1, u.2.2.2)
theorem upL_map {α β : Type} (f : α → β) (r : β → β → Bool) : ∀ l : List α, upL r (l.map f) = upL (fun a b => r (f a) (f b)) l
  | [] => rfl
  | [a] => rfl
  | a :: b :: l => by
    have ih := upL_map f r (b :: l)
    simp only [List.map_cons] at ih ⊢
    unfold upL
    rw [ih]
theorem rightL_map {α β : Type} (f : α → β) (n : Nat) (g : β → Bool) (r : β → β → Bool) (l : List α) : rightL n g r (l.map f) = rightL n (fun a => g (f a)) (fun a b => r (f a) (f b)) l := by
  unfold rightL
  rw [List.length_map, upL_map, List.all_map]
  rfl
theorem idxX_map {α β : Type} (f : α → β) (p : β → Bool) : ∀ (l : List α) (i : Int), idxX p (l.map f) i = idxX (fun a => p (f a)) l i
  | [], i => rfl
  | a :: l, i => by
    rw [List.map_cons]
    unfold idxX
    rw [idxX_map f p l]
section
variable {xs ys : List UserX} (h : KeyU ys xs) (tok mx : ByteArray)
include h
theorem right_key : rightU ys = rightU xs := by
  have e : ∀ l : List UserX, rightU l = rightL 16 (fun k : ByteArray × ByteArray × List ByteArray => wordB k.1 && (userB k.2.1 && risingB k.2.2)) (fun a b => sless a.1 b.1) (l.map keyU) := fun l => by rw [rightL_map]; rfl
  rw [e, e]
  exact congrArg _ h
theorem plc_key : idxX (tokP tok) ys 0 = idxX (tokP tok) xs 0 := by
  have e : ∀ l : List UserX, idxX (tokP tok) l 0 = idxX (fun k : ByteArray × ByteArray × List ByteArray => decide (k.1 = tok)) (l.map keyU) 0 := fun l => by rw [idxX_map]
  rw [e, e]
  exact congrArg (fun l => idxX _ l 0) h
theorem gt_key : idxX (gtP tok) ys 0 = idxX (gtP tok) xs 0 := by
  have e : ∀ l : List UserX, idxX (gtP tok) l 0 = idxX (fun k : ByteArray × ByteArray × List ByteArray => !(sless k.1 tok || decide (k.1 = tok))) (l.map keyU) 0 := fun l => by rw [idxX_map]
  rw [e, e]
  exact congrArg (fun l => idxX _ l 0) h
theorem find_key : findU ys tok = findU xs tok := by
  unfold findU
  rw [right_key h, plc_key h tok]
theorem who_key : whoU ys tok = whoU xs tok := by
  have e : ∀ k : Nat, (ys[k]?).map (·.2.1) = (xs[k]?).map (·.2.1) := fun k => by
    have := congrArg (fun l : List (ByteArray × ByteArray × List ByteArray) => (l[k]?).map (·.2.1)) h
    simpa [List.getElem?_map, Option.map_map, Function.comp_def] using this
  unfold whoU
  rw [find_key h tok, e]
theorem any_key : ys.any (tokP tok) = xs.any (tokP tok) := by
  rw [any_plc, any_plc]
  unfold plcU
  rw [plc_key h tok]
theorem regE_key : regE ys tok mx = regE xs tok mx := by
  unfold regE
  rw [right_key h, any_key h tok, h.len]
theorem regAt_key : regAt ys tok = regAt xs tok := by
  unfold regAt
  rw [gt_key h tok, h.len]
theorem KeyU.take (k : Nat) : KeyU (ys.take k) (xs.take k) := by
  unfold KeyU
  rw [List.map_take, List.map_take]
  exact congrArg _ h
theorem KeyU.drop (k : Nat) : KeyU (ys.drop k) (xs.drop k) := by
  unfold KeyU
  rw [List.map_drop, List.map_drop]
  exact congrArg _ h
theorem KeyU.app {xs' ys' : List UserX} (h' : KeyU ys' xs') : KeyU (ys ++ ys') (xs ++ xs') := by
  unfold KeyU at h h' ⊢
  rw [List.map_append, List.map_append, h, h']
theorem KeyU.cons (u : UserX) : KeyU (u :: ys) (u :: xs) := by
  unfold KeyU at h ⊢
  rw [List.map_cons, List.map_cons, h]
theorem regU_key : KeyU (regU ys tok mx) (regU xs tok mx) := by
  unfold regU
  rw [regE_key h, regAt_key h]
  split
  · exact (h.take _).app ((h.drop _).cons _)
  · exact h
theorem logU_key : KeyU (logU ys tok) (logU xs tok) := by
  unfold logU
  rw [find_key h]
  split
  · exact (h.take _).app (h.drop _)
  · exact h
end
def LnU (xs : List UserX) : Prop := ∀ u ∈ xs, u.2.2.2.length ≤ 140737488355328
set_option maxHeartbeats 1000000 in
theorem great2_v (xs : List UserX) (sv : Value) (w : World) (L : List Nat) (hL : LL L w) (h1 : RdF 3 L w sv (xs.map encU)) (h2 : AgU L w xs)  (hlw : LnU xs) : CV Tryz.prog 7 [sv] w fun v W => ∃ b : Bool, v = .bool b ∧ (b = false → xs.length ≤ 200 ∧ ∀ u ∈ xs, u.2.2.2.length ≤ 200) := by
  refine cv_enter (N := 27) (f := [(0, sv)]) Tryz.func7 rfl rfl rfl rfl fun Q hQ hE => ?_
  have hB := Below.refl w.heap.size w
  have h1m : xs.length ≤ maxLen := by have := h1.len; rwa [List.length_map] at this
  unfold maxLen at h1m
  refine WC.seq fun K1 hK1 => ?_
  refine WC.region ?_
  refine WL.val (dx_assign rfl rfl) rfl rfl ?_
  refine WL.nil ?_
  refine hK1 ?_
  refine WC.seq fun K2 hK2 => ?_
  refine WC.region ?_
  refine WL.val (dx_move rfl rfl) rfl rfl ?_
  refine WL.val (dx_lenX rfl ty_slice_22 rfl h1) rfl rfl ?_
  refine WL.val (dx_assign rfl rfl) rfl rfl ?_
  refine WL.nil ?_
  refine hK2 ?_
  refine WC.seq fun K3 hK3 => ?_
  refine WC.seq fun K4 hK4 => ?_
  refine WC.region ?_
  refine WL.val (dx_assign rfl rfl) rfl rfl ?_
  refine WL.nil ?_
  refine hK4 ?_
  refine WC.block ?_
  refine WC.loop2 (fun (i : Nat) (n : Int) => [(0, sv), (4, .int .i64 (i : Int)), (3, .int .i64 n)]) (fun (i : Nat) (n : Int) W => i ≤ xs.length ∧ (xs.length : Int) ≤ n ∧ (∀ k a, k < i → xs[k]? = some a → (a.2.2.2.length : Int) ≤ n) ∧ Below w.heap.size w W ∧ LL (L) W ∧ RdF 3 (L) W sv (xs.map encU) ∧ AgU (L) W xs) (fun (i : Nat) (n : Int) => xs.length - i) 0 (xs.length : Int) (by repeat first | exact trivial | exact And.intro rfl trivial | refine And.intro rfl ?_ | refine And.intro (congrArg (fun z : Int => some (Value.int .i64 z)) (by omega)) ?_) ⟨Nat.zero_le _, Int.le_refl _, (fun k a hk => by omega), hB, hL, h1, h2⟩ ?_
  clear h1 h2 hB hL
  rintro K5 i n W6 ⟨hi, hn1, hn2, hB, hL, h1, h2⟩ hK5
  refine WC.seq fun K7 hK7 => ?_
  refine WC.seq fun K8 hK8 => ?_
  refine WC.region ?_
  refine WL.val (dx_move rfl rfl) rfl rfl ?_
  refine WL.val (dx_move rfl rfl) rfl rfl ?_
  refine WL.val (dx_lenX rfl ty_slice_22 rfl h1) rfl rfl ?_
  refine WL.val (dx_lss rfl rfl rfl) rfl rfl ?_
  refine WL.val (dx_move rfl rfl) rfl rfl ?_
  refine WL.split 11 rfl (fun g9 => ?_) (fun g9 => ?_)
  ·
    replace g9 := of_decide_eq_true g9
    refine WL.val (dx_move rfl rfl) rfl rfl ?_
    refine WL.val (dx_leq rfl rfl rfl) rfl rfl ?_
    refine WL.val (dx_pick rfl rfl rfl) rfl rfl ?_
    refine WL.nil ?_
    refine hK8 ?_
    refine WC.cond rfl (fun c10 => ?_) (fun c10 => ?_)
    ·
      replace c10 := of_decide_eq_true c10
      refine WC.skip ?_
      refine hK7 ?_
      refine WC.seq fun K11 hK11 => ?_
      refine WC.block ?_
      refine WC.region ?_
      refine WL.val (dx_move rfl rfl) rfl rfl ?_
      refine WL.val (dx_move rfl rfl) rfl rfl ?_
      refine WL.val (dx_move rfl rfl) rfl rfl ?_
      obtain ⟨r12, e13⟩ : ∃ x, xs[i]? = some x := ⟨_, List.getElem?_eq_getElem (by omega)⟩
      refine WL.get (dx_idxF i rfl ty_slice_22 rfl rfl h1 (by omega) (at_mapX e13)) rfl rfl ?_
      rintro u14 _ ⟨rfl, p15⟩
      refine WL.get (dx_fldP 1 rfl ty_fld_54_2_2 rfl p15 (cs' := [r12.2.2.1]) rfl (Nat.succ_pos _)) rfl rfl ?_
      rintro u16 _ ⟨rfl, p17⟩
      refine WL.val (dx_loadP rfl ty_one_34 rfl p17) rfl rfl ?_
      refine WL.val (dx_lenX rfl ty_slice_34 rfl (h2 r12 (List.mem_of_getElem? e13))) rfl rfl ?_
      have hlr := hlw r12 (List.mem_of_getElem? e13)
      refine WL.val (dx_add (r := n + (r12.2.2.2.length : Int)) rfl rfl rfl (wrap64_id (by omega))) rfl rfl ?_
      refine WL.val (dx_assign rfl rfl) rfl rfl ?_
      refine WL.nil ?_
      refine hK11 ?_
      refine WC.region ?_
      refine WL.val (dx_move rfl rfl) rfl rfl ?_
      refine WL.val (dx_add (r := (i : Int) + 1) rfl rfl rfl (wrap64_id (by omega))) rfl rfl ?_
      refine WL.val (dx_assign rfl rfl) rfl rfl ?_
      refine WL.nil ?_
      exact hK5 (i + 1) (n + (r12.2.2.2.length : Int)) ⟨(by omega), (by omega), (fun k a hk ha => by rcases Nat.lt_or_ge k i with hl | hl; have := hn2 k a hl ha; omega; obtain rfl : k = i := (by omega); rw [e13] at ha; cases ha; omega), hB, hL, h1, h2⟩ (by omega) (by repeat first | exact trivial | exact And.intro rfl trivial | refine And.intro rfl ?_ | refine And.intro (congrArg (fun z : Int => some (Value.int .i64 z)) (by omega)) ?_)
    ·
      replace c10 := of_decide_eq_false c10
      refine WC.exit ?_
      refine hK3 ?_
      refine WC.seq fun K18 hK18 => ?_
      refine WC.region ?_
      refine WL.val (dx_move rfl rfl) rfl rfl ?_
      refine WL.val (dx_gtr rfl rfl rfl) rfl rfl ?_
      refine WL.val (dx_assign rfl rfl) rfl rfl ?_
      refine WL.nil ?_
      refine hK18 ?_
      refine WC.ret fun a_ ha_ => ?_
      exact hQ (cv_ret1 rfl (.tmp rfl) ⟨_, rfl, fun h => by replace h := of_decide_eq_false h; refine ⟨by omega, fun u hu => ?_⟩; obtain ⟨k, hk, rfl⟩ := List.getElem_of_mem hu; have := hn2 k _ (by omega) (List.getElem?_eq_getElem hk); omega⟩ hB ha_)
  ·
    replace g9 := of_decide_eq_false g9
    refine WL.off rfl rfl rfl ?_
    refine WL.off rfl rfl rfl ?_
    refine WL.val (dx_pick rfl rfl rfl) rfl rfl ?_
    refine WL.nil ?_
    refine hK8 ?_
    refine WC.condF rfl ?_
    refine WC.exit ?_
    refine hK3 ?_
    refine WC.seq fun K19 hK19 => ?_
    refine WC.region ?_
    refine WL.val (dx_move rfl rfl) rfl rfl ?_
    refine WL.val (dx_gtr rfl rfl rfl) rfl rfl ?_
    refine WL.val (dx_assign rfl rfl) rfl rfl ?_
    refine WL.nil ?_
    refine hK19 ?_
    refine WC.ret fun a_ ha_ => ?_
    exact hQ (cv_ret1 rfl (.tmp rfl) ⟨_, rfl, fun h => by replace h := of_decide_eq_false h; refine ⟨by omega, fun u hu => ?_⟩; obtain ⟨k, hk, rfl⟩ := List.getElem_of_mem hu; have := hn2 k _ (by omega) (List.getElem?_eq_getElem hk); omega⟩ hB ha_)

set_option maxHeartbeats 1000000 in
theorem accountUsers_v (xs : List UserX) (tok mx : ByteArray) (sv : Value) (w : World) (L : List Nat) (hL : LL L w) (h1 : RdF 3 L w sv (xs.map encU)) (h2 : AgU L w xs) (hM : MaxL L w)  (hz : SzU xs) (htk : tok.size ≤ 140737488355328) (hlw : LnU xs) : CV Tryz.prog 3 [sv, .string tok, .string mx] w fun v W => v = .bool true := by
  refine cv_enter (N := 109) (f := [(0, sv), (1, .string tok), (2, .string mx)]) Tryz.func3 rfl rfl rfl rfl fun Q hQ hE => ?_
  have hB := Below.refl w.heap.size w
  have h1m : xs.length ≤ maxLen := by have := h1.len; rwa [List.length_map] at this
  unfold maxLen at h1m
  refine WC.seq fun K1 hK1 => ?_
  refine WC.region ?_
  refine WL.val (dx_assign rfl rfl) rfl rfl ?_
  refine WL.nil ?_
  refine hK1 ?_
  refine WC.seq fun K2 hK2 => ?_
  refine WC.seq fun K3 hK3 => ?_
  refine WC.region ?_
  refine WL.get (dx_cv rfl Tryz.func6 rfl rfl rfl (alive17_v w _ hL hM)) rfl rfl ?_
  rintro _ W5 ⟨rfl, b4⟩
  replace h1 := h1.below b4
  replace h2 := h2.below b4
  replace hM := hM.below b4
  replace hB := below_then hB b4
  replace hL := LL.below hL b4
  refine WL.val (dx_not rfl rfl) rfl rfl ?_
  refine WL.nil ?_
  refine hK3 ?_
  refine WC.condF rfl ?_
  refine WC.skip ?_
  refine hK2 ?_
  refine WC.seq fun K6 hK6 => ?_
  refine WC.seq fun K7 hK7 => ?_
  refine WC.region ?_
  refine WL.val (dx_move rfl rfl) rfl rfl ?_
  refine WL.get (dx_cv rfl Tryz.func7 rfl rfl rfl (great2_v xs _ W5 _ hL h1 h2 hlw)) rfl rfl ?_
  rintro _ W10 ⟨⟨gr8, rfl, hgr⟩, b9⟩
  replace h1 := h1.below b9
  replace h2 := h2.below b9
  replace hM := hM.below b9
  replace hB := below_then hB b9
  replace hL := LL.below hL b9
  refine WL.val (dx_move rfl rfl) rfl rfl ?_
  refine WL.split 24 rfl (fun g11 => ?_) (fun g11 => ?_)
  ·
    refine WL.off rfl rfl rfl ?_
    refine WL.off rfl rfl rfl ?_
    refine WL.off rfl rfl rfl ?_
    refine WL.val (dx_pick rfl rfl rfl) rfl rfl ?_
    refine WL.nil ?_
    refine hK7 ?_
    refine WC.condT rfl ?_
    refine WC.seq fun K12 hK12 => ?_
    refine WC.region ?_
    refine WL.val (dx_assign rfl rfl) rfl rfl ?_
    refine WL.nil ?_
    refine hK12 ?_
    refine WC.ret fun a_ ha_ => ?_
    exact hQ (cv_ret1 rfl (.tmp rfl) rfl hB ha_)
  ·
    replace g11 := bvar_f g11
    refine WL.val (dx_move rfl rfl) rfl rfl ?_
    refine WL.val (dx_lenT rfl Tryz.underlying9 rfl) rfl rfl ?_
    refine WL.val (dx_gtr rfl rfl rfl) rfl rfl ?_
    refine WL.val (dx_pick rfl rfl rfl) rfl rfl ?_
    refine WL.nil ?_
    refine hK7 ?_
    refine WC.cond rfl (fun c13 => ?_) (fun c13 => ?_)
    ·
      replace c13 := of_decide_eq_true c13
      refine WC.seq fun K14 hK14 => ?_
      refine WC.region ?_
      refine WL.val (dx_assign rfl rfl) rfl rfl ?_
      refine WL.nil ?_
      refine hK14 ?_
      refine WC.ret fun a_ ha_ => ?_
      exact hQ (cv_ret1 rfl (.tmp rfl) rfl hB ha_)
    ·
      replace c13 := of_decide_eq_false c13
      refine WC.skip ?_
      refine hK6 ?_
      refine WC.seq fun K15 hK15 => ?_
      obtain ⟨hxl, hls⟩ := hgr (by first | assumption | exact Bool.eq_false_iff.2 (by assumption) | simp_all)
      refine WC.region ?_
      refine WL.val (dx_move rfl rfl) rfl rfl ?_
      refine WL.get (dx_cv rfl Tryz.func8 rfl rfl rfl (copy_v xs _ W10 _ hL h1 h2 hxl hls)) rfl rfl ?_
      rintro u16 W18 ⟨⟨ys, hkey, ky1, ky2⟩, b17⟩
      replace h1 := h1.below b17
      replace h2 := h2.below b17
      replace hM := hM.below b17
      replace hB := below_then hB b17
      replace hL := LL.below hL b17
      refine WL.val (dx_assign rfl rfl) rfl rfl ?_
      refine WL.nil ?_
      refine hK15 ?_
      refine WC.seq fun K19 hK19 => ?_
      refine WC.region ?_
      refine WL.val (dx_move rfl rfl) rfl rfl ?_
      refine WL.val (dx_move rfl rfl) rfl rfl ?_
      refine WL.val (dx_move rfl rfl) rfl rfl ?_
      refine WL.get (dx_cv rfl Tryz.func9 rfl rfl rfl ((show CV _ _ _ _ (fun v W => ∃ s2, v = .tuple #[s2, .int .i64 (regE xs tok mx)] ∧ RdF 3 (L) W s2 ((regU ys tok mx).map encU) ∧ AgU (L) W (regU ys tok mx)) from by have := register_v ys tok mx _ W18 _ hL ky1 ky2 hM; rw [regE_key hkey] at this; exact this))) rfl rfl ?_
      rintro _ W24 ⟨⟨u20, rfl, j21, j22⟩, b23⟩
      replace h1 := h1.below b23
      replace h2 := h2.below b23
      replace hM := hM.below b23
      replace ky1 := ky1.below b23
      replace ky2 := ky2.below b23
      replace hB := below_then hB b23
      replace hL := LL.below hL b23
      refine WL.val (dx_move rfl rfl) rfl rfl ?_
      refine WL.val (dx_extract rfl rfl rfl) rfl rfl ?_
      refine WL.val (dx_extract rfl rfl rfl) rfl rfl ?_
      refine WL.val (dx_assign rfl rfl) rfl rfl ?_
      refine WL.val (dx_assign rfl rfl) rfl rfl ?_
      refine WL.nil ?_
      refine hK19 ?_
      refine WC.seq fun K25 hK25 => ?_
      refine WC.region ?_
      refine WL.val (dx_move rfl rfl) rfl rfl ?_
      refine WL.val (dx_move rfl rfl) rfl rfl ?_
      refine WL.val (dx_move rfl rfl) rfl rfl ?_
      refine WL.get (dx_cv rfl Tryz.func10 rfl rfl rfl (refRegister_v xs tok mx _ W24 _ hL h1 h2 hz htk)) rfl rfl ?_
      rintro _ W30 ⟨⟨u26, rfl, j27, j28⟩, b29⟩
      replace h1 := h1.below b29
      replace h2 := h2.below b29
      replace hM := hM.below b29
      replace ky1 := ky1.below b29
      replace ky2 := ky2.below b29
      replace j21 := j21.below b29
      replace j22 := j22.below b29
      replace hB := below_then hB b29
      replace hL := LL.below hL b29
      refine WL.val (dx_move rfl rfl) rfl rfl ?_
      refine WL.val (dx_extract rfl rfl rfl) rfl rfl ?_
      refine WL.val (dx_extract rfl rfl rfl) rfl rfl ?_
      refine WL.val (dx_assign rfl rfl) rfl rfl ?_
      refine WL.val (dx_assign rfl rfl) rfl rfl ?_
      refine WL.nil ?_
      refine hK25 ?_
      refine WC.seq fun K31 hK31 => ?_
      refine WC.region ?_
      refine WL.val (dx_move rfl rfl) rfl rfl ?_
      refine WL.val (dx_move rfl rfl) rfl rfl ?_
      refine WL.get (dx_cv rfl Tryz.func11 rfl rfl rfl ((show CV _ _ _ _ (fun v W => ∃ s2, v = .tuple #[s2, .int .i64 (findU xs tok).2] ∧ RdF 3 (L) W s2 ((logU ys tok).map encU) ∧ AgU (L) W (logU ys tok)) from by have := logout_v ys tok _ W30 _ hL ky1 ky2 hM; rw [find_key hkey] at this; exact this))) rfl rfl ?_
      rintro _ W36 ⟨⟨u32, rfl, j33, j34⟩, b35⟩
      replace h1 := h1.below b35
      replace h2 := h2.below b35
      replace hM := hM.below b35
      replace ky1 := ky1.below b35
      replace ky2 := ky2.below b35
      replace j21 := j21.below b35
      replace j22 := j22.below b35
      replace j27 := j27.below b35
      replace j28 := j28.below b35
      replace hB := below_then hB b35
      replace hL := LL.below hL b35
      refine WL.val (dx_move rfl rfl) rfl rfl ?_
      refine WL.val (dx_extract rfl rfl rfl) rfl rfl ?_
      refine WL.val (dx_extract rfl rfl rfl) rfl rfl ?_
      refine WL.val (dx_assign rfl rfl) rfl rfl ?_
      refine WL.val (dx_assign rfl rfl) rfl rfl ?_
      refine WL.nil ?_
      refine hK31 ?_
      refine WC.seq fun K37 hK37 => ?_
      refine WC.region ?_
      refine WL.val (dx_move rfl rfl) rfl rfl ?_
      refine WL.val (dx_move rfl rfl) rfl rfl ?_
      refine WL.get (dx_cv rfl Tryz.func12 rfl rfl rfl (refLogout_v xs tok _ W36 _ hL h1 h2 hz)) rfl rfl ?_
      rintro _ W42 ⟨⟨u38, rfl, j39, j40⟩, b41⟩
      replace h1 := h1.below b41
      replace h2 := h2.below b41
      replace hM := hM.below b41
      replace ky1 := ky1.below b41
      replace ky2 := ky2.below b41
      replace j21 := j21.below b41
      replace j22 := j22.below b41
      replace j27 := j27.below b41
      replace j28 := j28.below b41
      replace j33 := j33.below b41
      replace j34 := j34.below b41
      replace hB := below_then hB b41
      replace hL := LL.below hL b41
      refine WL.val (dx_move rfl rfl) rfl rfl ?_
      refine WL.val (dx_extract rfl rfl rfl) rfl rfl ?_
      refine WL.val (dx_extract rfl rfl rfl) rfl rfl ?_
      refine WL.val (dx_assign rfl rfl) rfl rfl ?_
      refine WL.val (dx_assign rfl rfl) rfl rfl ?_
      refine WL.nil ?_
      refine hK37 ?_
      refine WC.seq fun K43 hK43 => ?_
      refine WC.region ?_
      refine WL.val (dx_move rfl rfl) rfl rfl ?_
      refine WL.val (dx_move rfl rfl) rfl rfl ?_
      refine WL.get (dx_cv rfl Tryz.func13 rfl rfl rfl ((show CV _ _ _ _ (fun v W => v = .tuple #[.string (whoU xs tok).1, .int .i64 (whoU xs tok).2]) from by have := whose_v ys tok _ W42 _ hL ky1 ky2 hM; rw [who_key hkey] at this; exact this))) rfl rfl ?_
      rintro _ W45 ⟨rfl, b44⟩
      replace h1 := h1.below b44
      replace h2 := h2.below b44
      replace hM := hM.below b44
      replace ky1 := ky1.below b44
      replace ky2 := ky2.below b44
      replace j21 := j21.below b44
      replace j22 := j22.below b44
      replace j27 := j27.below b44
      replace j28 := j28.below b44
      replace j33 := j33.below b44
      replace j34 := j34.below b44
      replace j39 := j39.below b44
      replace j40 := j40.below b44
      replace hB := below_then hB b44
      replace hL := LL.below hL b44
      refine WL.val (dx_move rfl rfl) rfl rfl ?_
      refine WL.val (dx_extract rfl rfl rfl) rfl rfl ?_
      refine WL.val (dx_extract rfl rfl rfl) rfl rfl ?_
      refine WL.val (dx_assign rfl rfl) rfl rfl ?_
      refine WL.val (dx_assign rfl rfl) rfl rfl ?_
      refine WL.nil ?_
      refine hK43 ?_
      refine WC.seq fun K46 hK46 => ?_
      refine WC.region ?_
      refine WL.val (dx_move rfl rfl) rfl rfl ?_
      refine WL.val (dx_move rfl rfl) rfl rfl ?_
      refine WL.get (dx_cv rfl Tryz.func14 rfl rfl rfl (refWhose_v xs tok _ W45 _ hL h1 h2 hz)) rfl rfl ?_
      rintro _ W48 ⟨rfl, b47⟩
      replace h1 := h1.below b47
      replace h2 := h2.below b47
      replace hM := hM.below b47
      replace ky1 := ky1.below b47
      replace ky2 := ky2.below b47
      replace j21 := j21.below b47
      replace j22 := j22.below b47
      replace j27 := j27.below b47
      replace j28 := j28.below b47
      replace j33 := j33.below b47
      replace j34 := j34.below b47
      replace j39 := j39.below b47
      replace j40 := j40.below b47
      replace hB := below_then hB b47
      replace hL := LL.below hL b47
      refine WL.val (dx_move rfl rfl) rfl rfl ?_
      refine WL.val (dx_extract rfl rfl rfl) rfl rfl ?_
      refine WL.val (dx_extract rfl rfl rfl) rfl rfl ?_
      refine WL.val (dx_assign rfl rfl) rfl rfl ?_
      refine WL.val (dx_assign rfl rfl) rfl rfl ?_
      refine WL.nil ?_
      refine hK46 ?_
      refine WC.seq fun K49 hK49 => ?_
      refine WC.region ?_
      refine WL.val (dx_move rfl rfl) rfl rfl ?_
      refine WL.val (dx_move rfl rfl) rfl rfl ?_
      refine WL.get (dx_cv rfl Tryz.func15 rfl rfl rfl (same_v (regU ys tok mx) (regU xs tok mx) _ _ W48 _ hL j21 j22 j27 j28 (regU_key hkey tok mx) (regU_key hkey tok mx).len)) rfl rfl ?_
      rintro _ W51 ⟨rfl, b50⟩
      replace h1 := h1.below b50
      replace h2 := h2.below b50
      replace hM := hM.below b50
      replace ky1 := ky1.below b50
      replace ky2 := ky2.below b50
      replace j21 := j21.below b50
      replace j22 := j22.below b50
      replace j27 := j27.below b50
      replace j28 := j28.below b50
      replace j33 := j33.below b50
      replace j34 := j34.below b50
      replace j39 := j39.below b50
      replace j40 := j40.below b50
      replace hB := below_then hB b50
      replace hL := LL.below hL b50
      refine WL.val (dx_move rfl rfl) rfl rfl ?_
      refine WL.val (dx_move rfl rfl) rfl rfl ?_
      refine WL.val (dx_move rfl rfl) rfl rfl ?_
      refine WL.val (dv_T (dx_eql rfl rfl rfl) rfl) rfl rfl ?_
      refine WL.val (dx_pick rfl rfl rfl) rfl rfl ?_
      refine WL.val (dx_move rfl rfl) rfl rfl ?_
      refine WL.val (dx_move rfl rfl) rfl rfl ?_
      refine WL.val (dx_move rfl rfl) rfl rfl ?_
      refine WL.get (dx_cv rfl Tryz.func15 rfl rfl rfl (same_v (logU ys tok) (logU xs tok) _ _ W51 _ hL j33 j34 j39 j40 (logU_key hkey tok) (logU_key hkey tok).len)) rfl rfl ?_
      rintro _ W53 ⟨rfl, b52⟩
      replace h1 := h1.below b52
      replace h2 := h2.below b52
      replace hM := hM.below b52
      replace ky1 := ky1.below b52
      replace ky2 := ky2.below b52
      replace j21 := j21.below b52
      replace j22 := j22.below b52
      replace j27 := j27.below b52
      replace j28 := j28.below b52
      replace j33 := j33.below b52
      replace j34 := j34.below b52
      replace j39 := j39.below b52
      replace j40 := j40.below b52
      replace hB := below_then hB b52
      replace hL := LL.below hL b52
      refine WL.val (dx_pick rfl rfl rfl) rfl rfl ?_
      refine WL.val (dx_move rfl rfl) rfl rfl ?_
      refine WL.val (dx_move rfl rfl) rfl rfl ?_
      refine WL.val (dx_move rfl rfl) rfl rfl ?_
      refine WL.val (dv_T (dx_eql rfl rfl rfl) rfl) rfl rfl ?_
      refine WL.val (dx_pick rfl rfl rfl) rfl rfl ?_
      refine WL.val (dx_move rfl rfl) rfl rfl ?_
      refine WL.val (dx_move rfl rfl) rfl rfl ?_
      refine WL.val (dx_move rfl rfl) rfl rfl ?_
      refine WL.val (dv_T (dx_eqlT rfl rfl rfl) rfl) rfl rfl ?_
      refine WL.val (dx_pick rfl rfl rfl) rfl rfl ?_
      refine WL.val (dx_move rfl rfl) rfl rfl ?_
      refine WL.val (dx_move rfl rfl) rfl rfl ?_
      refine WL.val (dx_move rfl rfl) rfl rfl ?_
      refine WL.val (dv_T (dx_eql rfl rfl rfl) rfl) rfl rfl ?_
      refine WL.val (dx_pick rfl rfl rfl) rfl rfl ?_
      refine WL.val (dx_move rfl rfl) rfl rfl ?_
      refine WL.val (dx_move rfl rfl) rfl rfl ?_
      refine WL.get (dx_cv rfl Tryz.func16 rfl rfl rfl ((show CV _ _ _ _ (fun v W => v = .bool (rightU xs)) from by have := rightU_v ys _ W53 _ hL ky1 ky2 hM; rw [right_key hkey] at this; exact this))) rfl rfl ?_
      rintro _ W55 ⟨rfl, b54⟩
      replace h1 := h1.below b54
      replace h2 := h2.below b54
      replace hM := hM.below b54
      replace ky1 := ky1.below b54
      replace ky2 := ky2.below b54
      replace j21 := j21.below b54
      replace j22 := j22.below b54
      replace j27 := j27.below b54
      replace j28 := j28.below b54
      replace j33 := j33.below b54
      replace j34 := j34.below b54
      replace j39 := j39.below b54
      replace j40 := j40.below b54
      replace hB := below_then hB b54
      replace hL := LL.below hL b54
      refine WL.val (dx_move rfl rfl) rfl rfl ?_
      refine WL.get (dx_cv rfl Tryz.func17 rfl rfl rfl (refRight_v xs _ W55 _ hL h1 h2 hz)) rfl rfl ?_
      rintro _ W57 ⟨rfl, b56⟩
      replace h1 := h1.below b56
      replace h2 := h2.below b56
      replace hM := hM.below b56
      replace ky1 := ky1.below b56
      replace ky2 := ky2.below b56
      replace j21 := j21.below b56
      replace j22 := j22.below b56
      replace j27 := j27.below b56
      replace j28 := j28.below b56
      replace j33 := j33.below b56
      replace j34 := j34.below b56
      replace j39 := j39.below b56
      replace j40 := j40.below b56
      replace hB := below_then hB b56
      replace hL := LL.below hL b56
      refine WL.val (dv_T (dx_eqB rfl Tryz.underlying4 rfl rfl) rfl) rfl rfl ?_
      refine WL.val (dx_pick rfl rfl rfl) rfl rfl ?_
      refine WL.val (dx_move rfl rfl) rfl rfl ?_
      refine WL.val (dx_move rfl rfl) rfl rfl ?_
      refine WL.val (dx_move rfl rfl) rfl rfl ?_
      refine WL.get (dx_cv rfl Tryz.func15 rfl rfl rfl (same_v ys xs _ _ W57 _ hL ky1 ky2 h1 h2 hkey hkey.len)) rfl rfl ?_
      rintro _ W59 ⟨rfl, b58⟩
      replace h1 := h1.below b58
      replace h2 := h2.below b58
      replace hM := hM.below b58
      replace ky1 := ky1.below b58
      replace ky2 := ky2.below b58
      replace j21 := j21.below b58
      replace j22 := j22.below b58
      replace j27 := j27.below b58
      replace j28 := j28.below b58
      replace j33 := j33.below b58
      replace j34 := j34.below b58
      replace j39 := j39.below b58
      replace j40 := j40.below b58
      replace hB := below_then hB b58
      replace hL := LL.below hL b58
      refine WL.val (dx_pick rfl rfl rfl) rfl rfl ?_
      refine WL.val (dx_assign rfl rfl) rfl rfl ?_
      refine WL.nil ?_
      refine hK49 ?_
      refine WC.ret fun a_ ha_ => ?_
      exact hQ (cv_ret1 rfl (.tmp rfl) rfl hB ha_)

end Go.Proofs.YthefddclefimoaaGreatDoor
namespace Go.Proofs.YthefddclefimoaaGreatDoor
open Go.ChangeShapes Go.WideShapes Go.ChangeAt Go.RowKit
set_option linter.unusedVariables false
section
variable {P : Program} {H : Type} {enc : TypeId × Value → H} {W : World} {base : Nat} {sp : Nat → Bool} {held : Bool}
theorem rd_of_sliceD {α : Type} (en : α → List Value) (good : α → DataW H → Prop) {s : Nat} (hs : 0 < s) {t e : TypeId} {fuel : Nat} {cs : List Value} {x : DataW H × List MemPlace} (ht : P.underlying t = some (.slice e)) (hce : P.cellsOf e = s) (hl : ∀ a d, good a d → (en a).length = s)
    (hel : ∀ n cs x, DataW.trod enc P W base sp held n e cs = some x → ∃ a, cs = en a ∧ good a x.1) (h : DataW.trod enc P W base sp held fuel t cs = some x) : ∃ (v : Value) (xs : List α), cs = [v] ∧ RdF s [] W v (xs.map en) ∧ ∀ a ∈ xs, ∃ es sps d, x.1 = .slice es sps ∧ d ∈ es ∧ good a d := by
  rcases DataW.trod_slice ht h with ⟨rfl, _⟩ | ⟨a, len, cap, elems, rest, n, rfl, rfl, hxe, hb, hlc, hcm, hlen, hx, _⟩
  · exact ⟨_, [], rfl, RdF.nil hs, fun a ha => by cases ha⟩
  · obtain ⟨xs, hxl, hxs⟩ := choose_list (fun i (y : α) => (∃ d, d ∈ elems ∧ good y d.1) ∧ W.cells? base (a.add (i * s)) s = some (en y)) len (fun i hi => by
      have h1 := hx i hi
      rw [hce, List.getElem?_eq_getElem (by omega)] at h1
      obtain ⟨cs', h2, h3⟩ := Option.bind_eq_some_iff.1 h1
      obtain ⟨y, rfl, hg⟩ := hel n cs' _ h3
      exact ⟨y, ⟨_, List.getElem_mem _, hg⟩, h2⟩)
    have hgood : ∀ y ∈ xs, ∃ d, d ∈ elems ∧ good y d.1 := fun y hy => by
      obtain ⟨i, hi⟩ := List.getElem?_of_mem hy
      exact (hxs i y hi).1
    have hrl : ∀ r ∈ xs.map en, r.length = s := fun r hr => by
      obtain ⟨y, hy, rfl⟩ := List.mem_map.1 hr
      obtain ⟨d, _, hd⟩ := hgood y hy
      exact hl y _ hd
    refine ⟨_, xs, rfl, ⟨hs, hrl, some a, cap, by rw [List.length_map, hxl], by rw [List.length_map, hxl]; exact hlc, hcm, (fun e => by cases e), fun hn => ?_⟩, fun a ha => by
      obtain ⟨d, h1, h2⟩ := hgood a ha
      exact ⟨_, _, d.1, by rw [hxe], List.mem_map.2 ⟨d, h1, rfl⟩, h2⟩⟩
    have cellat : ∀ i y, xs[i]? = some y → ∀ j v, (en y)[j]? = some v → W.cell? ((a.add (i * s)).add j) = some v := fun i y hi j v hj => by
      have h2 := (hxs i y hi).2
      unfold World.cells? at h2
      split at h2
      · have hj' : j < s := by have := (List.getElem?_eq_some_iff.1 hj).1; obtain ⟨d, _, hd⟩ := (hxs i y hi).1; rw [hl y _ hd] at this; exact this
        have := mapM_some_get h2 j j (by simp [hj'])
        rw [this]; exact hj
      · cases h2
    have hne : 0 < xs.length := by
      rcases Nat.eq_zero_or_pos xs.length with h0 | h0
      · exact absurd (by rw [List.length_eq_zero_iff.1 h0]; rfl) hn
      · exact h0
    have hx0 : xs[0]? = some xs[0] := List.getElem?_eq_getElem hne
    have hspot : a.spot = none := by
      have hlen0 : 0 < (en xs[0]).length := by obtain ⟨d, _, hd⟩ := (hxs 0 _ hx0).1; rw [hl _ _ hd]; exact hs
      have := cellat 0 _ hx0 0 _ (List.getElem?_eq_getElem hlen0)
      have h3 := World.cell?_spot this
      have e0 : (a.add (0 * s)).add 0 = a := by simp [Addr.add]
      rw [e0] at h3
      exact h3
    obtain ⟨b, off, spot⟩ := a
    simp only at hspot
    subst hspot
    refine ⟨b, off, rfl, by simp, range_flat _ off hrl fun i r hi => ?_⟩
    rw [List.getElem?_map] at hi
    cases hy : xs[i]? with
    | none => rw [hy] at hi; cases hi
    | some y =>
      rw [hy] at hi
      cases hi
      intro j v hj
      have := cellat i y hy j v hj
      rw [addr_at, addr_at] at this
      exact this
theorem weights_all {e : TypeId} {n : Nat} {d : DataW H} : ∀ {es : List (DataW H)}, d ∈ es → n ∈ d.weights P e → n ∈ DataW.weightsAll P e es
  | x :: l, hd, hn => by
    rw [DataW.weightsAll]
    rcases List.mem_cons.1 hd with rfl | hd
    · exact List.mem_append_left _ hn
    · exact List.mem_append_right _ (weights_all hd hn)
theorem weights_slice {t e : TypeId} {n : Nat} {d : DataW H} {es sps : List (DataW H)} (ht : P.underlying t = some (.slice e)) (hd : d ∈ es) (hn : n ∈ d.weights P e) : n ∈ (DataW.slice es sps).weights P t := by
  rw [DataW.weights, ht]
  exact List.mem_cons_of_mem _ (List.mem_append_left _ (weights_all hd hn))
end
end Go.Proofs.YthefddclefimoaaGreatDoor
namespace Go.Proofs.YthefddclefimoaaGreatDoor
open Go.ChangeShapes Go.WideShapes Go.ChangeAt Go.RowKit
set_option linter.unusedVariables false
set_option maxRecDepth 8000
section
variable {H : Type} {enc : TypeId × Value → H} {W : World} {base : Nat} {sp : Nat → Bool} {held : Bool}
theorem el_TD (n : Nat) (cs : List Value) (x : DataW H × List MemPlace) (h : DataW.trod enc Tryz.prog W base sp held n 9 cs = some x) : ∃ s : ByteArray, cs = encT s ∧ s.size ∈ x.1.weights Tryz.prog 9 := by
  obtain ⟨s, es, rfl, _⟩ := DataW.trod_string Tryz.underlying9 h
  exact ⟨s, es, by simp [DataW.weights]⟩
/-- What a slice of texts weighs. -/
theorem open_textsD {m : Nat} {cs : List Value} {x : DataW H × List MemPlace} (h : DataW.trod enc Tryz.prog W base sp held m 34 cs = some x) : ∃ (v : Value) (ts : List ByteArray), cs = [v] ∧ RdF 1 [] W v (ts.map encT) ∧ (∀ t ∈ ts, t.size ∈ x.1.weights Tryz.prog 34) ∧ (ts = [] ∨ ∃ n, n ∈ x.1.weights Tryz.prog 34 ∧ ts.length ≤ n) := by
  obtain ⟨v, ts, hv, hr, hg⟩ := rd_of_sliceD (s := 1) encT (fun t d => t.size ∈ d.weights Tryz.prog 9) (by decide) Tryz.underlying34 cT (fun _ _ _ => rfl) el_TD h
  refine ⟨v, ts, hv, hr, fun t ht => ?_, ?_⟩
  · obtain ⟨es, sps, d, h1, h2, h3⟩ := hg t ht
    rw [h1]
    exact weights_slice Tryz.underlying34 h2 h3
  · have hlv : ∃ a cap, v = .slice a ts.length cap := by
      obtain ⟨_, _, a, cap, e, _⟩ := hr
      rw [List.length_map] at e
      exact ⟨a, cap, e⟩
    obtain ⟨a, cap, ev⟩ := hlv
    rcases DataW.trod_slice Tryz.underlying34 h with ⟨q1, q2⟩ | ⟨a', len, cap', elems, rest, n, _, q1, q2, _, _, _, q3, _⟩
    · rw [hv, ev] at q1
      simp at q1
      exact .inl q1.2.1
    · rw [hv, ev] at q1
      simp at q1
      refine .inr ⟨_, by rw [q2]; simp only [DataW.weights, Tryz.underlying34]; exact .head _, ?_⟩
      rw [show Tryz.prog.bytesOf 9 = 16 by kernel_rfl, List.length_map, q3, ← q1.2.1]
      omega
theorem el_UD (n : Nat) (cs : List Value) (x : DataW H × List MemPlace) (h : DataW.trod enc Tryz.prog W base sp held n 54 cs = some x) : ∃ u : UserX, cs = encU u ∧ (RdF 1 [] W u.2.2.1 (u.2.2.2.map encT) ∧ u.1.size ∈ x.1.weights Tryz.prog 54 ∧ (∀ t ∈ u.2.2.2, t.size ∈ x.1.weights Tryz.prog 54) ∧ (u.2.2.2 = [] ∨ ∃ n, n ∈ x.1.weights Tryz.prog 54 ∧ u.2.2.2.length ≤ n)) := by
  obtain ⟨y0, y1, y2, m, rfl, hl, h0, h1, h2⟩ := Go.Deep.trod_struct3 Tryz.underlying54 h
  rw [cU] at hl
  match cs, hl with
  | [c, d, e], _ =>
    obtain ⟨a, ha, wa⟩ := el_TD m _ _ h0
    obtain ⟨b, hb, _⟩ := el_TD m _ _ h1
    obtain ⟨v, ts, hv, hr, hg, hn⟩ := open_textsD h2
    simp only [cT, cS] at ha hb hv
    simp [encT] at ha hb hv
    have hw : ∀ k, k ∈ y2.1.weights Tryz.prog 34 → k ∈ (DataW.agg [y0.1, y1.1, y2.1]).weights Tryz.prog 54 := fun k hk => by
      simp only [DataW.weights, Tryz.underlying54]
      simp only [DataW.weightsEach, List.map_cons, List.mem_append]
      exact .inr (.inr (.inl hk))
    refine ⟨(a, b, v, ts), by simp [encU, ha, hb, hv], hr, ?_, fun t ht => hw _ (hg t ht), ?_⟩
    · simp only [DataW.weights, Tryz.underlying54]
      simp only [DataW.weightsEach, List.map_cons, List.mem_append]
      exact .inl wa
    · rcases hn with hn | ⟨k, h3, h4⟩
      · exact .inl hn
      · exact .inr ⟨k, hw _ h3, h4⟩
theorem open_usersZ {r : Reach} {b0 : Nat} {v : Value} {d : DataW H} {p : List MemPlace} (hv : Value.okWide Tryz.prog W r b0 22 v) (h : DataW.Trod enc Tryz.prog W base sp held 22 v d p) (hw : ∀ n ∈ d.weights Tryz.prog 22, n ≤ reachBytes) : ∃ xs : List UserX, RdF 3 [] W v (xs.map encU) ∧ AgU [] W xs ∧ SzU xs ∧ LnU xs := by
  obtain ⟨a, len, cap, rfl⟩ := okWide_slice Tryz.underlying22 hv
  obtain ⟨fuel, hf⟩ := h
  obtain ⟨v, xs, e, r, g⟩ := rd_of_sliceD (s := 3) encU (fun u d => RdF 1 [] W u.2.2.1 (u.2.2.2.map encT) ∧ u.1.size ∈ d.weights Tryz.prog 54 ∧ (∀ t ∈ u.2.2.2, t.size ∈ d.weights Tryz.prog 54) ∧ (u.2.2.2 = [] ∨ ∃ n, n ∈ d.weights Tryz.prog 54 ∧ u.2.2.2.length ≤ n)) (by decide) Tryz.underlying22 cU (fun _ _ _ => rfl) el_UD hf
  simp [Value.cells] at e
  subst e
  have hall : ∀ u ∈ xs, ∃ d' : DataW H, (∀ k, k ∈ d'.weights Tryz.prog 54 → k ≤ 140737488355328) ∧ (RdF 1 [] W u.2.2.1 (u.2.2.2.map encT) ∧ u.1.size ∈ d'.weights Tryz.prog 54 ∧ (∀ t ∈ u.2.2.2, t.size ∈ d'.weights Tryz.prog 54) ∧ (u.2.2.2 = [] ∨ ∃ n, n ∈ d'.weights Tryz.prog 54 ∧ u.2.2.2.length ≤ n)) := fun u hu => by
    obtain ⟨es, sps, d', h1, h2, h3⟩ := g u hu
    refine ⟨d', fun k hk => ?_, h3⟩
    have := hw _ (by simp only at h1; rw [h1]; exact weights_slice Tryz.underlying22 h2 hk)
    unfold reachBytes at this
    omega
  refine ⟨xs, r, fun u hu => ?_, fun u hu => ?_, fun u hu => ?_⟩
  · obtain ⟨d', k, h1, _⟩ := hall u hu
    exact h1
  · obtain ⟨d', k, _, h1, h2, _⟩ := hall u hu
    exact ⟨k _ h1, fun t ht => k _ (h2 t ht)⟩
  · obtain ⟨d', k, _, _, _, h1⟩ := hall u hu
    rcases h1 with h1 | ⟨n, h1, h2⟩
    · rw [h1]; simp
    · have := k _ h1; omega
theorem open_textsZ {r : Reach} {b0 : Nat} {v : Value} {d : DataW H} {p : List MemPlace} (hv : Value.okWide Tryz.prog W r b0 34 v) (h : DataW.Trod enc Tryz.prog W base sp held 34 v d p) (hw : ∀ n ∈ d.weights Tryz.prog 34, n ≤ reachBytes) : ∃ ts : List ByteArray, RdF 1 [] W v (ts.map encT) ∧ SzT ts := by
  obtain ⟨a, len, cap, rfl⟩ := okWide_slice Tryz.underlying34 hv
  obtain ⟨fuel, hf⟩ := h
  obtain ⟨v, ts, e, r, g, _⟩ := open_textsD hf
  simp [Value.cells] at e
  subst e
  refine ⟨ts, r, fun t ht => ?_⟩
  have := hw _ (g t ht)
  unfold reachBytes at this
  omega
end
end Go.Proofs.YthefddclefimoaaGreatDoor
namespace Go.Proofs.YthefddclefimoaaGreatDoor
open Go.RowKit
set_option linter.unusedVariables false
set_option linter.unusedSimpArgs false
set_option maxRecDepth 8000

theorem hasT_any (l : List ByteArray) (t : ByteArray) : l.any (fun x => decide (x = t)) = hasT l t := by
  unfold hasT
  congr 1
  funext x
  exact decide_eq_decide.2 eq_comm
theorem any_step {l : List ByteArray} {p : ByteArray → Bool} {j : Nat} {r : ByteArray} (h : l[j]? = some r) : (l.take (j + 1)).any p = ((l.take j).any p || p r) := by
  rw [List.take_add_one, h, List.any_append]
  simp
set_option maxHeartbeats 1000000 in
theorem refAgreed_v (xs : List UserX) (tok : ByteArray) (ts : List ByteArray) (sv tv : Value) (w : World) (L : List Nat) (hL : LL L w) (h1 : RdF 3 L w sv (xs.map encU)) (h2 : AgU L w xs) (h3 : RdF 1 L w tv (ts.map encT))  (hz : SzU xs) : CV Tryz.prog 21 [sv, .string tok, tv] w fun v W => v = .int .i64 (agdU xs tok ts) := by
  refine cv_enter (N := 53) (f := [(0, sv), (1, .string tok), (2, tv)]) Tryz.func21 rfl rfl rfl rfl fun Q hQ hE => ?_
  have hB := Below.refl w.heap.size w
  have h1m : xs.length ≤ maxLen := by have := h1.len; rwa [List.length_map] at this
  unfold maxLen at h1m
  have h3m : ts.length ≤ maxLen := by have := h3.len; rwa [List.length_map] at this
  unfold maxLen at h3m
  refine WC.seq fun K1 hK1 => ?_
  refine WC.region ?_
  refine WL.val (dx_assign rfl rfl) rfl rfl ?_
  refine WL.nil ?_
  refine hK1 ?_
  refine WC.seq fun K2 hK2 => ?_
  refine WC.seq fun K3 hK3 => ?_
  refine WC.region ?_
  refine WL.val (dx_move rfl rfl) rfl rfl ?_
  refine WL.get (dx_cv rfl Tryz.func17 rfl rfl rfl (refRight_v xs _ w _ hL h1 h2 hz)) rfl rfl ?_
  rintro _ W5 ⟨rfl, b4⟩
  replace h1 := h1.below b4
  replace h2 := h2.below b4
  replace h3 := h3.below b4
  replace hB := below_then hB b4
  replace hL := LL.below hL b4
  refine WL.val (dx_not rfl rfl) rfl rfl ?_
  refine WL.nil ?_
  refine hK3 ?_
  refine WC.cond rfl (fun c6 => ?_) (fun c6 => ?_)
  ·
    replace c6 := bnot_t c6
    refine WC.seq fun K7 hK7 => ?_
    refine WC.region ?_
    refine WL.val (dx_assign rfl rfl) rfl rfl ?_
    refine WL.nil ?_
    refine hK7 ?_
    refine WC.ret fun a_ ha_ => ?_
    exact hQ (cv_ret1 rfl (.tmp rfl) (by unfold agdU; rw [find_bad (by first | assumption | exact Bool.eq_false_iff.2 (by assumption)), if_neg (by decide)]) hB ha_)
  ·
    replace c6 := bnot_f c6
    refine WC.skip ?_
    refine hK2 ?_
    refine WC.seq fun K8 hK8 => ?_
    refine WC.region ?_
    refine WL.val (dx_move rfl rfl) rfl rfl ?_
    refine WL.val (dx_move rfl rfl) rfl rfl ?_
    refine WL.get (dx_cv rfl Tryz.func46 rfl rfl rfl (place_v xs tok _ W5 _ hL h1 h2)) rfl rfl ?_
    rintro _ W10 ⟨rfl, b9⟩
    replace h1 := h1.below b9
    replace h2 := h2.below b9
    replace h3 := h3.below b9
    replace hB := below_then hB b9
    replace hL := LL.below hL b9
    refine WL.val (dx_assign rfl rfl) rfl rfl ?_
    refine WL.nil ?_
    refine hK8 ?_
    refine WC.seq fun K11 hK11 => ?_
    refine WC.seq fun K12 hK12 => ?_
    refine WC.region ?_
    refine WL.val (dx_move rfl rfl) rfl rfl ?_
    refine WL.val (dx_lss rfl rfl rfl) rfl rfl ?_
    refine WL.nil ?_
    refine hK12 ?_
    refine WC.cond rfl (fun c13 => ?_) (fun c13 => ?_)
    ·
      replace c13 := of_decide_eq_true c13
      refine WC.seq fun K14 hK14 => ?_
      refine WC.region ?_
      refine WL.val (dx_assign rfl rfl) rfl rfl ?_
      refine WL.nil ?_
      refine hK14 ?_
      refine WC.ret fun a_ ha_ => ?_
      exact hQ (cv_ret1 rfl (.tmp rfl) (by unfold agdU; rw [find_not (by assumption) (by assumption), if_neg (by decide)]) hB ha_)
    ·
      replace c13 := of_decide_eq_false c13
      refine WC.skip ?_
      refine hK11 ?_
      refine WC.seq fun K15 hK15 => ?_
      refine WC.seq fun K16 hK16 => ?_
      have hf0 := find_plc (xs := xs) (tok := tok) (by assumption) (by assumption)
      obtain ⟨hr0, k0, u0, hk0, hu0, ht0, hn0⟩ := findU_ok (xs := xs) (tok := tok) (by rw [hf0])
      rw [hf0] at hk0
      replace hk0 : plcU xs tok = (k0 : Nat) := hk0
      have hl0 := (List.getElem?_eq_some_iff.1 hu0).1
      have hrl := right_len hr0
      have hbig := (h2 u0 (List.mem_of_getElem? hu0)).len; rw [List.length_map] at hbig; unfold maxLen at hbig
      refine WC.region ?_
      refine WL.val (dx_assign rfl rfl) rfl rfl ?_
      refine WL.nil ?_
      refine hK16 ?_
      refine WC.block ?_
      refine WC.loop (fun (kk : Nat) => [(0, sv), (2, tv), (6, .int .i64 0), (7, .int .i64 (plcU xs tok)), (8, .int .i64 (kk : Int))]) (fun (kk : Nat) W => kk ≤ ts.length ∧ (∀ k a, k < kk → ts[k]? = some a → hasT u0.2.2.2 a = true) ∧ Below w.heap.size w W ∧ LL (L) W ∧ RdF 3 (L) W sv (xs.map encU) ∧ AgU (L) W xs ∧ RdF 1 (L) W tv (ts.map encT)) (fun (kk : Nat) => ts.length - kk) 0 (by repeat first | exact trivial | exact And.intro rfl trivial | refine And.intro rfl ?_ | refine And.intro (congrArg (fun z : Int => some (Value.int .i64 z)) (by omega)) ?_) ⟨Nat.zero_le _, (fun k a hk => by omega), hB, hL, h1, h2, h3⟩ ?_
      clear h1 h2 h3 hB hL
      rintro K17 kk W18 ⟨hi, hv, hB, hL, h1, h2, h3⟩ hK17
      refine WC.seq fun K19 hK19 => ?_
      refine WC.seq fun K20 hK20 => ?_
      refine WC.region ?_
      refine WL.val (dx_move rfl rfl) rfl rfl ?_
      refine WL.val (dx_move rfl rfl) rfl rfl ?_
      refine WL.val (dx_lenX rfl ty_slice_34 rfl h3) rfl rfl ?_
      refine WL.val (dx_lss rfl rfl rfl) rfl rfl ?_
      refine WL.nil ?_
      refine hK20 ?_
      refine WC.cond rfl (fun c21 => ?_) (fun c21 => ?_)
      ·
        replace c21 := of_decide_eq_true c21
        refine WC.skip ?_
        refine hK19 ?_
        refine WC.seq fun K22 hK22 => ?_
        refine WC.block ?_
        refine WC.seq fun K23 hK23 => ?_
        refine WC.region ?_
        refine WL.val (dx_assign rfl rfl) rfl rfl ?_
        refine WL.nil ?_
        refine hK23 ?_
        refine WC.seq fun K24 hK24 => ?_
        refine WC.seq fun K25 hK25 => ?_
        refine WC.region ?_
        refine WL.val (dx_assign rfl rfl) rfl rfl ?_
        refine WL.nil ?_
        refine hK25 ?_
        refine WC.block ?_
        obtain ⟨tq, htq⟩ : ∃ x, ts[kk]? = some x := ⟨_, List.getElem?_eq_getElem (by omega)⟩
        refine WC.loop2 (fun (jj : Nat) (th : Bool) => [(0, sv), (2, tv), (6, .int .i64 0), (7, .int .i64 (plcU xs tok)), (8, .int .i64 (kk : Int)), (10, .int .i64 (jj : Int)), (9, .bool th)]) (fun (jj : Nat) (th : Bool) W => jj ≤ u0.2.2.2.length ∧ th = (u0.2.2.2.take jj).any (fun x => decide (x = tq)) ∧ Below w.heap.size w W ∧ LL (L) W ∧ RdF 3 (L) W sv (xs.map encU) ∧ AgU (L) W xs ∧ RdF 1 (L) W tv (ts.map encT)) (fun (jj : Nat) (th : Bool) => u0.2.2.2.length - jj) 0 false (by repeat first | exact trivial | exact And.intro rfl trivial | refine And.intro rfl ?_ | refine And.intro (congrArg (fun z : Int => some (Value.int .i64 z)) (by omega)) ?_) ⟨Nat.zero_le _, (by simp), hB, hL, h1, h2, h3⟩ ?_
        clear h1 h2 h3 hB hL
        rintro K26 jj th W27 ⟨gi, hth, hB, hL, h1, h2, h3⟩ hK26
        refine WC.seq fun K28 hK28 => ?_
        refine WC.seq fun K29 hK29 => ?_
        refine WC.region ?_
        refine WL.val (dx_move rfl rfl) rfl rfl ?_
        refine WL.val (dx_move rfl rfl) rfl rfl ?_
        refine WL.val (dx_move rfl rfl) rfl rfl ?_
        refine WL.get (dx_idxF k0 rfl ty_slice_22 rfl rfl h1 (by omega) (at_mapX hu0)) rfl rfl ?_
        rintro u30 _ ⟨rfl, p31⟩
        refine WL.get (dx_fldP 1 rfl ty_fld_54_2_2 rfl p31 (cs' := [u0.2.2.1]) rfl (Nat.succ_pos _)) rfl rfl ?_
        rintro u32 _ ⟨rfl, p33⟩
        refine WL.val (dx_loadP rfl ty_one_34 rfl p33) rfl rfl ?_
        refine WL.val (dx_lenX rfl ty_slice_34 rfl (h2 u0 (List.mem_of_getElem? hu0))) rfl rfl ?_
        refine WL.val (dx_lss rfl rfl rfl) rfl rfl ?_
        refine WL.nil ?_
        refine hK29 ?_
        refine WC.cond rfl (fun c34 => ?_) (fun c34 => ?_)
        ·
          replace c34 := of_decide_eq_true c34
          refine WC.skip ?_
          refine hK28 ?_
          refine WC.seq fun K35 hK35 => ?_
          refine WC.block ?_
          obtain ⟨b36, hb36⟩ : ∃ b, b = (th) := ⟨_, rfl⟩
          obtain ⟨r37, e38⟩ : ∃ x, u0.2.2.2[jj]? = some x := ⟨_, List.getElem?_eq_getElem (by omega)⟩
          refine WC.drawM 16 [(some 35, .is (.bool th)), (some 36, .is (.bool b36)), (some 37, .is (bif b36 then undef else sv)), (some 38, .is (bif b36 then undef else .int .i64 (plcU xs tok))), (some 39, .by fun u W => b36 = false → PtR (L) W u [.string u0.1, .string u0.2.1, u0.2.2.1]), (some 40, .by fun u W => b36 = false → PtR (L) W u [u0.2.2.1]), (some 41, .is (bif b36 then undef else u0.2.2.1)), (some 42, .is (bif b36 then undef else .int .i64 (jj : Int))), (some 43, .by fun u W => b36 = false → PtR (L) W u (encT r37)), (some 44, .is (bif b36 then undef else .string r37)), (some 45, .is (bif b36 then undef else tv)), (some 46, .is (bif b36 then undef else .int .i64 (kk : Int))), (some 47, .by fun u W => b36 = false → PtR (L) W u (encT tq)), (some 48, .is (bif b36 then undef else .string tq)), (some 49, .is (bif b36 then undef else .bool (decide (r37 = tq)))), (some 50, .is (.bool (b36 || (decide (r37 = tq)))))] [[], [0], [1], [1], [2, 3, 1], [4, 1], [5, 1], [1], [6, 7, 1], [8, 1], [1], [1], [10, 11, 1], [12, 1], [9, 13, 1], [1, 14]] (by kernel_rfl) (by kernel_rfl) (by kernel_rfl) (by kernel_rfl) (by kernel_rfl) (by kernel_rfl) (by kernel_rfl) ⟨fun _ _ _ hb h g => (h g).below hb, fun _ _ _ hb h g => (h g).below hb, fun _ _ _ hb h g => (h g).below hb, fun _ _ _ hb h g => (h g).below hb, trivial⟩ ?_ ?_
          ·
            refine DSteps.cons (fun Wd hd => ?_) ?_
            ·
              exact DV.dr (dx_move rfl rfl) ⟨Below.refl _ _, rfl⟩
            refine DSteps.cons (fun Wd hd => ?_) ?_
            ·
              exact DV.dr (dx_move rfl rfl) ⟨Below.refl _ _, by rw [hb36]; rfl⟩
            refine DSteps.cons (fun Wd hd => ?_) ?_
            ·
              cases b36
              ·
                exact DV.dr (dx_move rfl rfl) ⟨Below.refl _ _, rfl⟩
              ·
                exact DV.dr (dv_off rfl) ⟨Below.refl _ _, rfl⟩
            refine DSteps.cons (fun Wd hd => ?_) ?_
            ·
              cases b36
              ·
                exact DV.dr (dx_move rfl rfl) ⟨Below.refl _ _, rfl⟩
              ·
                exact DV.dr (dv_off rfl) ⟨Below.refl _ _, rfl⟩
            refine DSteps.cons (fun Wd hd => ?_) ?_
            ·
              cases b36
              ·
                have h1 := h1.below hd
                exact (dx_idxF k0 rfl ty_slice_22 rfl rfl h1 (by omega) (at_mapX hu0)).mono (fun v W' h => ⟨by rw [← h.1]; exact Below.refl _ _, fun _ => by rw [← h.1]; exact h.2⟩)
              ·
                exact DV.dr (dv_off rfl) ⟨Below.refl _ _, fun h => by cases h⟩
            refine DSteps.cons (fun Wd hd => ?_) ?_
            ·
              intro u13_4 p13_4
              cases b36
              ·
                replace p13_4 := p13_4 rfl
                exact (dx_fldP 1 rfl ty_fld_54_2_2 rfl p13_4 (cs' := [u0.2.2.1]) rfl (Nat.succ_pos _)).mono (fun v W' h => ⟨by rw [← h.1]; exact Below.refl _ _, fun _ => by rw [← h.1]; exact h.2⟩)
              ·
                exact DV.dr (dv_off rfl) ⟨Below.refl _ _, fun h => by cases h⟩
            refine DSteps.cons (fun Wd hd => ?_) ?_
            ·
              intro u13_5 p13_5
              cases b36
              ·
                replace p13_5 := p13_5 rfl
                exact DV.dr (dx_loadP rfl ty_one_34 rfl p13_5) ⟨Below.refl _ _, rfl⟩
              ·
                exact DV.dr (dv_off rfl) ⟨Below.refl _ _, rfl⟩
            refine DSteps.cons (fun Wd hd => ?_) ?_
            ·
              cases b36
              ·
                exact DV.dr (dx_move rfl rfl) ⟨Below.refl _ _, rfl⟩
              ·
                exact DV.dr (dv_off rfl) ⟨Below.refl _ _, rfl⟩
            refine DSteps.cons (fun Wd hd => ?_) ?_
            ·
              cases b36
              ·
                have h2 := h2.below hd
                exact (dx_idxF jj rfl ty_slice_34 rfl rfl (h2 u0 (List.mem_of_getElem? hu0)) (by omega) (at_mapX e38)).mono (fun v W' h => ⟨by rw [← h.1]; exact Below.refl _ _, fun _ => by rw [← h.1]; exact h.2⟩)
              ·
                exact DV.dr (dv_off rfl) ⟨Below.refl _ _, fun h => by cases h⟩
            refine DSteps.cons (fun Wd hd => ?_) ?_
            ·
              intro u13_8 p13_8
              cases b36
              ·
                replace p13_8 := p13_8 rfl
                exact DV.dr (dx_loadP rfl ty_one_9 rfl p13_8) ⟨Below.refl _ _, rfl⟩
              ·
                exact DV.dr (dv_off rfl) ⟨Below.refl _ _, rfl⟩
            refine DSteps.cons (fun Wd hd => ?_) ?_
            ·
              cases b36
              ·
                exact DV.dr (dx_move rfl rfl) ⟨Below.refl _ _, rfl⟩
              ·
                exact DV.dr (dv_off rfl) ⟨Below.refl _ _, rfl⟩
            refine DSteps.cons (fun Wd hd => ?_) ?_
            ·
              cases b36
              ·
                exact DV.dr (dx_move rfl rfl) ⟨Below.refl _ _, rfl⟩
              ·
                exact DV.dr (dv_off rfl) ⟨Below.refl _ _, rfl⟩
            refine DSteps.cons (fun Wd hd => ?_) ?_
            ·
              cases b36
              ·
                have h3 := h3.below hd
                exact (dx_idxF kk rfl ty_slice_34 rfl rfl h3 (by omega) (at_mapX htq)).mono (fun v W' h => ⟨by rw [← h.1]; exact Below.refl _ _, fun _ => by rw [← h.1]; exact h.2⟩)
              ·
                exact DV.dr (dv_off rfl) ⟨Below.refl _ _, fun h => by cases h⟩
            refine DSteps.cons (fun Wd hd => ?_) ?_
            ·
              intro u13_12 p13_12
              cases b36
              ·
                replace p13_12 := p13_12 rfl
                exact DV.dr (dx_loadP rfl ty_one_9 rfl p13_12) ⟨Below.refl _ _, rfl⟩
              ·
                exact DV.dr (dv_off rfl) ⟨Below.refl _ _, rfl⟩
            refine DSteps.cons (fun Wd hd => ?_) ?_
            ·
              cases b36
              ·
                exact DV.dr (dx_eqlT rfl rfl rfl) ⟨Below.refl _ _, rfl⟩
              ·
                exact DV.dr (dv_off rfl) ⟨Below.refl _ _, rfl⟩
            refine DSteps.cons (fun Wd hd => ?_) ?_
            ·
              cases b36
              ·
                exact DV.dr (dx_pick rfl rfl rfl) ⟨Below.refl _ _, rfl⟩
              ·
                exact DV.dr (dx_pick rfl rfl rfl) ⟨Below.refl _ _, rfl⟩
            exact trivial
          ·
            intro W39 b40
            intro _ _
            intro _ _
            intro _ _
            intro _ _
            replace h1 := h1.below b40
            replace h2 := h2.below b40
            replace h3 := h3.below b40
            replace hB := below_then hB b40
            replace hL := LL.below hL b40
            refine WL.val (dx_assign rfl rfl) rfl rfl ?_
            refine WL.nil ?_
            refine hK35 ?_
            refine WC.region ?_
            refine WL.val (dx_move rfl rfl) rfl rfl ?_
            refine WL.val (dx_add (r := (jj : Int) + 1) rfl rfl rfl (wrap64_id (by omega))) rfl rfl ?_
            refine WL.val (dx_assign rfl rfl) rfl rfl ?_
            refine WL.nil ?_
            exact hK26 (jj + 1) (b36 || (decide (r37 = tq))) ⟨(by omega), (by rw [any_step e38, ← hth, ← hb36]), hB, hL, h1, h2, h3⟩ (by omega) (by repeat first | exact trivial | exact And.intro rfl trivial | refine And.intro rfl ?_ | refine And.intro (congrArg (fun z : Int => some (Value.int .i64 z)) (by omega)) ?_)
        ·
          replace c34 := of_decide_eq_false c34
          refine WC.exit ?_
          refine hK24 ?_
          refine WC.seq fun K41 hK41 => ?_
          refine WC.region ?_
          refine WL.val (dx_move rfl rfl) rfl rfl ?_
          refine WL.val (dx_not rfl rfl) rfl rfl ?_
          refine WL.nil ?_
          refine hK41 ?_
          refine WC.cond rfl (fun c42 => ?_) (fun c42 => ?_)
          ·
            replace c42 := bnot_t c42
            replace c42 := bvar_f c42
            refine WC.seq fun K43 hK43 => ?_
            refine WC.region ?_
            refine WL.val (dx_assign rfl rfl) rfl rfl ?_
            refine WL.nil ?_
            refine hK43 ?_
            refine WC.ret fun a_ ha_ => ?_
            exact hQ (cv_ret1 rfl (.tmp rfl) (by have hq : hasT u0.2.2.2 tq = false := (by rw [← hasT_any]; rw [List.take_of_length_le (by omega)] at hth; rw [← hth]; first | assumption | simp_all); unfold agdU; rw [hf0, if_pos rfl, hk0, Int.toNat_natCast, hu0]; show Value.int .i64 13 = Value.int .i64 (if ts.any (lacks u0.2.2.2) = true then 13 else 0); rw [if_pos (List.any_eq_true.2 ⟨tq, List.mem_of_getElem? htq, by rw [lacks, hq]; rfl⟩)]) hB ha_)
          ·
            replace c42 := bnot_f c42
            refine WC.skip ?_
            refine hK22 ?_
            refine WC.region ?_
            refine WL.val (dx_move rfl rfl) rfl rfl ?_
            refine WL.val (dx_add (r := (kk : Int) + 1) rfl rfl rfl (wrap64_id (by omega))) rfl rfl ?_
            refine WL.val (dx_assign rfl rfl) rfl rfl ?_
            refine WL.nil ?_
            exact hK17 (kk + 1) ⟨(by omega), (good_step (g := hasT u0.2.2.2) hv htq (by rw [← hasT_any]; rw [List.take_of_length_le (by omega)] at hth; rw [← hth]; first | assumption | simp_all)), hB, hL, h1, h2, h3⟩ (by omega) (by repeat first | exact trivial | exact And.intro rfl trivial | refine And.intro rfl ?_ | refine And.intro (congrArg (fun z : Int => some (Value.int .i64 z)) (by omega)) ?_)
      ·
        replace c21 := of_decide_eq_false c21
        refine WC.exit ?_
        refine hK15 ?_
        refine WC.seq fun K44 hK44 => ?_
        refine WC.region ?_
        refine WL.val (dx_assign rfl rfl) rfl rfl ?_
        refine WL.nil ?_
        refine hK44 ?_
        refine WC.ret fun a_ ha_ => ?_
        exact hQ (cv_ret1 rfl (.tmp rfl) (by unfold agdU; rw [hf0, if_pos rfl, hk0, Int.toNat_natCast, hu0]; show Value.int .i64 0 = Value.int .i64 (if ts.any (lacks u0.2.2.2) = true then 13 else 0); rw [if_neg (fun hc => by obtain ⟨a, ha, hp⟩ := List.any_eq_true.1 hc; obtain ⟨k, hk, rfl⟩ := List.getElem_of_mem ha; rw [lacks, hv k _ (by omega) (List.getElem?_eq_getElem hk)] at hp; cases hp)]) hB ha_)

end Go.Proofs.YthefddclefimoaaGreatDoor
namespace Go.Proofs.YthefddclefimoaaGreatDoor
open Go.RowKit
set_option linter.unusedVariables false
set_option linter.unusedSimpArgs false
set_option maxRecDepth 8000

section
variable {P : Program} {N : Nat} {Q : Exit → Act → World → Prop} {f : Fl} {w : World}
theorem WC.loop4 {α β γ δ : Type} {c : Code} (fr : α → β → γ → δ → Fl) (I : α → β → γ → δ → World → Prop) (μ : α → β → γ → δ → Nat) (a0 : α) (b0 : β) (c0 : γ) (d0 : δ) (hs : Sub (fr a0 b0 c0 d0) f) (h0 : I a0 b0 c0 d0 w)
    (round : ∀ (K : Act → World → Prop) a b c' d w, I a b c' d w → (∀ {f' w'} (a' : α) (b' : β) (c'' : γ) (d' : δ), I a' b' c'' d' w' → μ a' b' c'' d' < μ a b c' d → Sub (fr a' b' c'' d') f' → ∀ x, Fr N x f' → K x w') → WC P N c (Exit.then K Q) (fr a b c' d) w) : WC P N (.loop c) Q f w :=
  WC.loop (σ := α × β × γ × δ) (fun s => fr s.1 s.2.1 s.2.2.1 s.2.2.2) (fun s => I s.1 s.2.1 s.2.2.1 s.2.2.2) (fun s => μ s.1 s.2.1 s.2.2.1 s.2.2.2) (a0, b0, c0, d0) hs h0 fun K s w hI hK => round K s.1 s.2.1 s.2.2.1 s.2.2.2 w hI fun a' b' c' d' h1 h2 h3 => hK (a', b', c', d') h1 h2 h3
end
/-- A text put in its place; nothing where it is there already. -/
def insT (s : ByteArray) : List ByteArray → List ByteArray
  | [] => [s]
  | a :: l => if sless s a = true then s :: a :: l else a :: insT s l
def withT (l : List ByteArray) (s : ByteArray) : List ByteArray := if l.any (fun x => decide (x = s)) = true then l else insT s l
theorem insT_len (s : ByteArray) : ∀ l : List ByteArray, (insT s l).length = l.length + 1
  | [] => rfl
  | a :: l => by
    unfold insT
    split
    · rfl
    · rw [List.length_cons, insT_len s l, List.length_cons]
theorem withT_len (l : List ByteArray) (s : ByteArray) : (withT l s).length ≤ l.length + 1 := by
  unfold withT
  split
  · omega
  · rw [insT_len]; omega
/-- What is still to come. -/
def restT (s : ByteArray) (put : Bool) (l : List ByteArray) : List ByteArray := bif put then l else insT s l
theorem rest_put {s : ByteArray} {l : List ByteArray} {i : Nat} {r : ByteArray} (h : l[i]? = some r) (hs : sless s r = true) : restT s false (l.drop i) = s :: r :: l.drop (i + 1) := by
  obtain ⟨hl, rfl⟩ := List.getElem?_eq_some_iff.1 h
  rw [List.drop_eq_getElem_cons hl]
  show insT s _ = _
  unfold insT
  rw [if_pos hs]
theorem rest_no {s : ByteArray} {l : List ByteArray} {i : Nat} {r : ByteArray} (h : l[i]? = some r) (hs : ¬ sless s r = true) : restT s false (l.drop i) = r :: restT s false (l.drop (i + 1)) := by
  obtain ⟨hl, rfl⟩ := List.getElem?_eq_some_iff.1 h
  rw [List.drop_eq_getElem_cons hl]
  show insT s _ = _
  unfold insT
  rw [if_neg hs]
  rfl
theorem rest_on {s : ByteArray} {l : List ByteArray} {i : Nat} {r : ByteArray} (h : l[i]? = some r) : restT s true (l.drop i) = r :: restT s true (l.drop (i + 1)) := by
  obtain ⟨hl, rfl⟩ := List.getElem?_eq_some_iff.1 h
  exact List.drop_eq_getElem_cons hl
theorem rest_end {s : ByteArray} {put : Bool} {l : List ByteArray} {i : Nat} (h : l.length ≤ i) : restT s put (l.drop i) = bif put then [] else [s] := by
  rw [List.drop_eq_nil_of_le h]
  cases put <;> rfl
theorem gt_s {s r : ByteArray} (hne : ¬ r = s) : (!(sless r s || decide (r = s))) = sless s r := by
  rw [decide_eq_false hne, Bool.or_false]
  rcases sless_tri r s with ⟨h1, h2, _⟩ | ⟨h1, h2, _⟩ | h
  · rw [h1, h2]; rfl
  · rw [h1, h2]; rfl
  · exact absurd h hne
theorem gt_of {s r : ByteArray} (h : sless r s = false) (hne : ¬ r = s) : sless s r = true := by
  rw [← gt_s hne, h, decide_eq_false hne]
  rfl
theorem ngt_of {s r : ByteArray} (h : (sless r s || decide (r = s)) = true) (hne : ¬ r = s) : ¬ sless s r = true := fun hc => by
  rw [← gt_s hne, h] at hc
  cases hc
theorem oc_cons1 (s : ByteArray) : ∀ r ∈ [[Value.string s]], ∀ u ∈ r, u.oneCell' = true := fun r hr => by rw [List.mem_singleton.1 hr]; exact oc_cons rfl oc_nil
set_option maxHeartbeats 1000000 in
theorem with_v (ts : List ByteArray) (s : ByteArray) (lv : Value) (w : World) (L : List Nat) (hL : LL L w) (h3 : RdF 1 L w lv (ts.map encT))  (hts : ts.length ≤ 1000) : CV Tryz.prog 53 [lv, .string s] w fun v W => RdF 1 L W v ((withT ts s).map encT) := by
  refine cv_enter (N := 49) (f := [(0, lv), (1, .string s)]) Tryz.func53 rfl rfl rfl rfl fun Q hQ hE => ?_
  have hB := Below.refl w.heap.size w
  have hL0 := hL
  have h3m : ts.length ≤ maxLen := by have := h3.len; rwa [List.length_map] at this
  unfold maxLen at h3m
  refine WC.seq fun K1 hK1 => ?_
  refine WC.region ?_
  refine WL.val (dx_assign rfl rfl) rfl rfl ?_
  refine WL.nil ?_
  refine hK1 ?_
  refine WC.seq fun K2 hK2 => ?_
  refine WC.region ?_
  refine WL.val (dx_assign rfl rfl) rfl rfl ?_
  refine WL.nil ?_
  refine hK2 ?_
  refine WC.seq fun K3 hK3 => ?_
  refine WC.region ?_
  refine WL.val (dx_assign rfl rfl) rfl rfl ?_
  refine WL.nil ?_
  refine hK3 ?_
  refine WC.seq fun K4 hK4 => ?_
  refine WC.seq fun K5 hK5 => ?_
  refine WC.region ?_
  refine WL.val (dx_assign rfl rfl) rfl rfl ?_
  refine WL.nil ?_
  refine hK5 ?_
  refine WC.block ?_
  have zh3 := h3
  have h5 : NewW 1 w.heap.size (([] : List ByteArray).map encT) (.slice none 0 0) w := .inl ⟨rfl, rfl, by decide⟩
  refine WC.loop4 (fun (ia : Nat) (ov : Value) (pt : Bool) (out : List ByteArray) => [(0, lv), (1, .string s), (4, .slice none 0 0), (7, .int .i64 (ia : Int)), (5, ov), (6, .bool pt)]) (fun (ia : Nat) (ov : Value) (pt : Bool) (out : List ByteArray) W => ia ≤ ts.length ∧ insT s ts = out ++ restT s pt (ts.drop ia) ∧ (∀ k a, k < ia → ts[k]? = some a → (fun x => !decide (x = s)) a = true) ∧ Below w.heap.size w W ∧ LL (L) W ∧ RdF 1 (L) W lv (ts.map encT) ∧ NewW 1 w.heap.size (out.map encT) ov W) (fun (ia : Nat) (ov : Value) (pt : Bool) (out : List ByteArray) => ts.length - ia) 0 (.slice none 0 0) false [] (by repeat first | exact trivial | exact And.intro rfl trivial | refine And.intro rfl ?_ | refine And.intro (congrArg (fun z : Int => some (Value.int .i64 z)) (by omega)) ?_) ⟨Nat.zero_le _, (by rfl), (fun k a hk => by omega), hB, hL, h3, h5⟩ ?_
  clear h3 h5 hB hL
  rintro K6 ia ov pt out W7 ⟨hi, hv, hn, hB, hL, h3, h5⟩ hK6
  have hol : out.length ≤ ts.length + 1 := (by have := congrArg List.length hv; rw [insT_len, List.length_append] at this; omega)
  refine WC.seq fun K8 hK8 => ?_
  refine WC.seq fun K9 hK9 => ?_
  refine WC.region ?_
  refine WL.val (dx_move rfl rfl) rfl rfl ?_
  refine WL.val (dx_move rfl rfl) rfl rfl ?_
  refine WL.val (dx_lenX rfl ty_slice_34 rfl h3) rfl rfl ?_
  refine WL.val (dx_lss rfl rfl rfl) rfl rfl ?_
  refine WL.nil ?_
  refine hK9 ?_
  refine WC.cond rfl (fun c10 => ?_) (fun c10 => ?_)
  ·
    replace c10 := of_decide_eq_true c10
    refine WC.skip ?_
    refine hK8 ?_
    refine WC.seq fun K11 hK11 => ?_
    refine WC.block ?_
    refine WC.seq fun K12 hK12 => ?_
    refine WC.seq fun K13 hK13 => ?_
    refine WC.region ?_
    refine WL.val (dx_move rfl rfl) rfl rfl ?_
    refine WL.val (dx_move rfl rfl) rfl rfl ?_
    obtain ⟨r14, e15⟩ : ∃ x, ts[ia]? = some x := ⟨_, List.getElem?_eq_getElem (by omega)⟩
    refine WL.get (dx_idxF ia rfl ty_slice_34 rfl rfl h3 (by omega) (at_mapX e15)) rfl rfl ?_
    rintro u16 _ ⟨rfl, p17⟩
    refine WL.val (dx_loadP rfl ty_one_9 rfl p17) rfl rfl ?_
    refine WL.val (dx_move rfl rfl) rfl rfl ?_
    refine WL.val (dx_eqlT rfl rfl rfl) rfl rfl ?_
    refine WL.nil ?_
    refine hK13 ?_
    refine WC.cond rfl (fun c18 => ?_) (fun c18 => ?_)
    ·
      replace c18 := of_decide_eq_true c18
      refine WC.seq fun K19 hK19 => ?_
      refine WC.region ?_
      refine WL.val (dx_move rfl rfl) rfl rfl ?_
      refine WL.val (dx_assign rfl rfl) rfl rfl ?_
      refine WL.nil ?_
      refine hK19 ?_
      refine WC.ret fun a_ ha_ => ?_
      exact hQ (cv_ret1 rfl (.tmp rfl) (by have hw : withT ts s = ts := (by unfold withT; rw [if_pos (List.any_eq_true.2 ⟨_, List.mem_of_getElem? e15, decide_eq_true (by assumption)⟩)]); rw [hw]; exact (h3.less (fun x hx => hx))) hB ha_)
    ·
      replace c18 := of_decide_eq_false c18
      refine WC.skip ?_
      refine hK12 ?_
      refine WC.seq fun K20 hK20 => ?_
      refine WC.seq fun K21 hK21 => ?_
      refine WC.region ?_
      refine WL.val (dx_move rfl rfl) rfl rfl ?_
      refine WL.val (dx_not rfl rfl) rfl rfl ?_
      refine WL.val (dx_move rfl rfl) rfl rfl ?_
      refine WL.split 23 rfl (fun g22 => ?_) (fun g22 => ?_)
      ·
        replace g22 := bnot_t g22
        replace g22 := bvar_f g22
        refine WL.val (dx_move rfl rfl) rfl rfl ?_
        refine WL.val (dx_move rfl rfl) rfl rfl ?_
        refine WL.get (dx_idxF ia rfl ty_slice_34 rfl rfl h3 (by omega) (at_mapX e15)) rfl rfl ?_
        rintro u23 _ ⟨rfl, p24⟩
        refine WL.val (dx_loadP rfl ty_one_9 rfl p24) rfl rfl ?_
        refine WL.val (dx_move rfl rfl) rfl rfl ?_
        refine WL.val (dx_gtrT rfl rfl rfl) rfl rfl ?_
        refine WL.val (dx_pick rfl rfl rfl) rfl rfl ?_
        refine WL.nil ?_
        refine hK21 ?_
        refine WC.cond rfl (fun c25 => ?_) (fun c25 => ?_)
        ·
          replace c25 := bnot_t c25
          obtain ⟨g26, g27⟩ := bor_f c25
          replace g27 := of_decide_eq_false g27
          refine WC.seq fun K28 hK28 => ?_
          refine WC.region ?_
          refine WL.val (dx_move rfl rfl) rfl rfl ?_
          refine WL.val (dx_move rfl rfl) rfl rfl ?_
          refine WL.get (dx_lit1 (r := [.string s]) rfl ty_ap_34 (by decide) (by decide) rfl rfl rfl) rfl rfl ?_
          rintro x29 W30 ⟨k32, b31, z33⟩
          replace h3 := h3.below b31
          replace h5 := h5.below b31
          replace hB := below_then hB b31
          replace hL := LL.below hL b31
          have hx := k32.rd (L := []) (by simp)
          refine WL.get (dx_apW (base := w.heap.size) rfl ty_ap_34 rfl rfl h5 hx (oc_cons1 _) (by simp [maxLen]; omega) (by simp; omega) hB.size) rfl rfl ?_
          rintro x34 W35 ⟨h5, b36⟩
          replace h5 : NewW 1 w.heap.size ((out ++ [s]).map encT) x34 W35 := by rw [List.map_append]; exact h5
          replace hB := hB.trans b36
          have h3 := zh3.below hB
          have hL := LL.below hL0 hB
          refine WL.val (dx_assign rfl rfl) rfl rfl ?_
          refine WL.nil ?_
          refine hK28 ?_
          refine WC.region ?_
          refine WL.val (dx_assign rfl rfl) rfl rfl ?_
          refine WL.nil ?_
          refine hK20 ?_
          refine WC.region ?_
          refine WL.val (dx_move rfl rfl) rfl rfl ?_
          refine WL.val (dx_move rfl rfl) rfl rfl ?_
          refine WL.val (dx_move rfl rfl) rfl rfl ?_
          refine WL.get (dx_idxF ia rfl ty_slice_34 rfl rfl h3 (by omega) (at_mapX e15)) rfl rfl ?_
          rintro u37 _ ⟨rfl, p38⟩
          refine WL.val (dx_loadP rfl ty_one_9 rfl p38) rfl rfl ?_
          refine WL.get (dx_lit1 (r := [.string r14]) rfl ty_ap_34 (by decide) (by decide) rfl rfl rfl) rfl rfl ?_
          rintro x39 W40 ⟨k42, b41, z43⟩
          replace h3 := h3.below b41
          replace h5 := h5.below b41
          replace p38 := p38.below b41
          replace hB := below_then hB b41
          replace hL := LL.below hL b41
          have hx := k42.rd (L := []) (by simp)
          refine WL.get (dx_apW (base := w.heap.size) rfl ty_ap_34 rfl rfl h5 hx (oc_cons1 _) (by simp [maxLen]; omega) (by simp; omega) hB.size) rfl rfl ?_
          rintro x44 W45 ⟨h5, b46⟩
          replace h5 : NewW 1 w.heap.size (((out ++ [s]) ++ [r14]).map encT) x44 W45 := by rw [List.map_append]; exact h5
          replace hB := hB.trans b46
          have h3 := zh3.below hB
          have hL := LL.below hL0 hB
          refine WL.val (dx_assign rfl rfl) rfl rfl ?_
          refine WL.nil ?_
          refine hK11 ?_
          refine WC.region ?_
          refine WL.val (dx_move rfl rfl) rfl rfl ?_
          refine WL.val (dx_add (r := (ia : Int) + 1) rfl rfl rfl (wrap64_id (by omega))) rfl rfl ?_
          refine WL.val (dx_assign rfl rfl) rfl rfl ?_
          refine WL.nil ?_
          exact hK6 (ia + 1) x44 (true) ((out ++ [s]) ++ [r14]) ⟨(by omega), (by rw [hv]; cases pt <;> first | (exfalso; simp_all; done) | (rw [rest_put e15 (gt_of (by assumption) (by assumption))]; simp [restT]; done) | (rw [rest_on e15]; simp; done) | (rw [rest_no e15 (ngt_of (by assumption) (by assumption))]; simp; done)), (good_step (g := fun x => !decide (x = s)) hn e15 (by simp; assumption)), hB, hL, h3, h5⟩ (by omega) (by repeat first | exact trivial | exact And.intro rfl trivial | refine And.intro rfl ?_ | refine And.intro (congrArg (fun z : Int => some (Value.int .i64 z)) (by omega)) ?_)
        ·
          replace c25 := bnot_f c25
          refine WC.skip ?_
          refine hK20 ?_
          refine WC.region ?_
          refine WL.val (dx_move rfl rfl) rfl rfl ?_
          refine WL.val (dx_move rfl rfl) rfl rfl ?_
          refine WL.val (dx_move rfl rfl) rfl rfl ?_
          refine WL.get (dx_idxF ia rfl ty_slice_34 rfl rfl h3 (by omega) (at_mapX e15)) rfl rfl ?_
          rintro u47 _ ⟨rfl, p48⟩
          refine WL.val (dx_loadP rfl ty_one_9 rfl p48) rfl rfl ?_
          refine WL.get (dx_lit1 (r := [.string r14]) rfl ty_ap_34 (by decide) (by decide) rfl rfl rfl) rfl rfl ?_
          rintro x49 W50 ⟨k52, b51, z53⟩
          replace h3 := h3.below b51
          replace h5 := h5.below b51
          replace p48 := p48.below b51
          replace hB := below_then hB b51
          replace hL := LL.below hL b51
          have hx := k52.rd (L := []) (by simp)
          refine WL.get (dx_apW (base := w.heap.size) rfl ty_ap_34 rfl rfl h5 hx (oc_cons1 _) (by simp [maxLen]; omega) (by simp; omega) hB.size) rfl rfl ?_
          rintro x54 W55 ⟨h5, b56⟩
          replace h5 : NewW 1 w.heap.size ((out ++ [r14]).map encT) x54 W55 := by rw [List.map_append]; exact h5
          replace hB := hB.trans b56
          have h3 := zh3.below hB
          have hL := LL.below hL0 hB
          refine WL.val (dx_assign rfl rfl) rfl rfl ?_
          refine WL.nil ?_
          refine hK11 ?_
          refine WC.region ?_
          refine WL.val (dx_move rfl rfl) rfl rfl ?_
          refine WL.val (dx_add (r := (ia : Int) + 1) rfl rfl rfl (wrap64_id (by omega))) rfl rfl ?_
          refine WL.val (dx_assign rfl rfl) rfl rfl ?_
          refine WL.nil ?_
          exact hK6 (ia + 1) x54 (pt) (out ++ [r14]) ⟨(by omega), (by rw [hv]; cases pt <;> first | (exfalso; simp_all; done) | (rw [rest_put e15 (gt_of (by assumption) (by assumption))]; simp [restT]; done) | (rw [rest_on e15]; simp; done) | (rw [rest_no e15 (ngt_of (by assumption) (by assumption))]; simp; done)), (good_step (g := fun x => !decide (x = s)) hn e15 (by simp; assumption)), hB, hL, h3, h5⟩ (by omega) (by repeat first | exact trivial | exact And.intro rfl trivial | refine And.intro rfl ?_ | refine And.intro (congrArg (fun z : Int => some (Value.int .i64 z)) (by omega)) ?_)
      ·
        replace g22 := bnot_f g22
        refine WL.off rfl rfl rfl ?_
        refine WL.off rfl rfl rfl ?_
        refine WL.off rfl rfl rfl ?_
        refine WL.off rfl rfl rfl ?_
        refine WL.off rfl rfl rfl ?_
        refine WL.off rfl rfl rfl ?_
        refine WL.val (dx_pick rfl rfl rfl) rfl rfl ?_
        refine WL.nil ?_
        refine hK21 ?_
        refine WC.condF rfl ?_
        refine WC.skip ?_
        refine hK20 ?_
        refine WC.region ?_
        refine WL.val (dx_move rfl rfl) rfl rfl ?_
        refine WL.val (dx_move rfl rfl) rfl rfl ?_
        refine WL.val (dx_move rfl rfl) rfl rfl ?_
        refine WL.get (dx_idxF ia rfl ty_slice_34 rfl rfl h3 (by omega) (at_mapX e15)) rfl rfl ?_
        rintro u57 _ ⟨rfl, p58⟩
        refine WL.val (dx_loadP rfl ty_one_9 rfl p58) rfl rfl ?_
        refine WL.get (dx_lit1 (r := [.string r14]) rfl ty_ap_34 (by decide) (by decide) rfl rfl rfl) rfl rfl ?_
        rintro x59 W60 ⟨k62, b61, z63⟩
        replace h3 := h3.below b61
        replace h5 := h5.below b61
        replace p58 := p58.below b61
        replace hB := below_then hB b61
        replace hL := LL.below hL b61
        have hx := k62.rd (L := []) (by simp)
        refine WL.get (dx_apW (base := w.heap.size) rfl ty_ap_34 rfl rfl h5 hx (oc_cons1 _) (by simp [maxLen]; omega) (by simp; omega) hB.size) rfl rfl ?_
        rintro x64 W65 ⟨h5, b66⟩
        replace h5 : NewW 1 w.heap.size ((out ++ [r14]).map encT) x64 W65 := by rw [List.map_append]; exact h5
        replace hB := hB.trans b66
        have h3 := zh3.below hB
        have hL := LL.below hL0 hB
        refine WL.val (dx_assign rfl rfl) rfl rfl ?_
        refine WL.nil ?_
        refine hK11 ?_
        refine WC.region ?_
        refine WL.val (dx_move rfl rfl) rfl rfl ?_
        refine WL.val (dx_add (r := (ia : Int) + 1) rfl rfl rfl (wrap64_id (by omega))) rfl rfl ?_
        refine WL.val (dx_assign rfl rfl) rfl rfl ?_
        refine WL.nil ?_
        exact hK6 (ia + 1) x64 (pt) (out ++ [r14]) ⟨(by omega), (by rw [hv]; cases pt <;> first | (exfalso; simp_all; done) | (rw [rest_put e15 (gt_of (by assumption) (by assumption))]; simp [restT]; done) | (rw [rest_on e15]; simp; done) | (rw [rest_no e15 (ngt_of (by assumption) (by assumption))]; simp; done)), (good_step (g := fun x => !decide (x = s)) hn e15 (by simp; assumption)), hB, hL, h3, h5⟩ (by omega) (by repeat first | exact trivial | exact And.intro rfl trivial | refine And.intro rfl ?_ | refine And.intro (congrArg (fun z : Int => some (Value.int .i64 z)) (by omega)) ?_)
  ·
    replace c10 := of_decide_eq_false c10
    refine WC.exit ?_
    refine hK4 ?_
    refine WC.seq fun K67 hK67 => ?_
    refine WC.seq fun K68 hK68 => ?_
    refine WC.region ?_
    refine WL.val (dx_move rfl rfl) rfl rfl ?_
    refine WL.val (dx_not rfl rfl) rfl rfl ?_
    refine WL.nil ?_
    refine hK68 ?_
    refine WC.cond rfl (fun c69 => ?_) (fun c69 => ?_)
    ·
      replace c69 := bnot_t c69
      replace c69 := bvar_f c69
      refine WC.region ?_
      refine WL.val (dx_move rfl rfl) rfl rfl ?_
      refine WL.val (dx_move rfl rfl) rfl rfl ?_
      refine WL.get (dx_lit1 (r := [.string s]) rfl ty_ap_34 (by decide) (by decide) rfl rfl rfl) rfl rfl ?_
      rintro x70 W71 ⟨k73, b72, z74⟩
      replace h3 := h3.below b72
      replace h5 := h5.below b72
      replace hB := below_then hB b72
      replace hL := LL.below hL b72
      have hx := k73.rd (L := []) (by simp)
      refine WL.get (dx_apW (base := w.heap.size) rfl ty_ap_34 rfl rfl h5 hx (oc_cons1 _) (by simp [maxLen]; omega) (by simp; omega) hB.size) rfl rfl ?_
      rintro x75 W76 ⟨h5, b77⟩
      replace h5 : NewW 1 w.heap.size ((out ++ [s]).map encT) x75 W76 := by rw [List.map_append]; exact h5
      replace hB := hB.trans b77
      have h3 := zh3.below hB
      have hL := LL.below hL0 hB
      refine WL.val (dx_assign rfl rfl) rfl rfl ?_
      refine WL.nil ?_
      refine hK67 ?_
      refine WC.seq fun K78 hK78 => ?_
      refine WC.region ?_
      refine WL.val (dx_move rfl rfl) rfl rfl ?_
      refine WL.val (dx_assign rfl rfl) rfl rfl ?_
      refine WL.nil ?_
      refine hK78 ?_
      refine WC.ret fun a_ ha_ => ?_
      exact hQ (cv_ret1 rfl (.tmp rfl) (by have hw : withT ts s = (out ++ [s]) := (by unfold withT; rw [if_neg (fun hc => by obtain ⟨a, ha, hp⟩ := List.any_eq_true.1 hc; obtain ⟨k, hk, rfl⟩ := List.getElem_of_mem ha; have h9 : (!decide (ts[k] = s)) = true := hn k _ (by omega) (List.getElem?_eq_getElem hk); rw [hp] at h9; cases h9), hv, rest_end (by omega)]; simp_all); rw [hw]; exact h5.rd (fun x hx => hL0 x hx)) hB ha_)
    ·
      replace c69 := bnot_f c69
      refine WC.skip ?_
      refine hK67 ?_
      refine WC.seq fun K79 hK79 => ?_
      refine WC.region ?_
      refine WL.val (dx_move rfl rfl) rfl rfl ?_
      refine WL.val (dx_assign rfl rfl) rfl rfl ?_
      refine WL.nil ?_
      refine hK79 ?_
      refine WC.ret fun a_ ha_ => ?_
      exact hQ (cv_ret1 rfl (.tmp rfl) (by have hw : withT ts s = out := (by unfold withT; rw [if_neg (fun hc => by obtain ⟨a, ha, hp⟩ := List.any_eq_true.1 hc; obtain ⟨k, hk, rfl⟩ := List.getElem_of_mem ha; have h9 : (!decide (ts[k] = s)) = true := hn k _ (by omega) (List.getElem?_eq_getElem hk); rw [hp] at h9; cases h9), hv, rest_end (by omega)]; simp_all); rw [hw]; exact h5.rd (fun x hx => hL0 x hx)) hB ha_)

end Go.Proofs.YthefddclefimoaaGreatDoor
namespace Go.Proofs.YthefddclefimoaaGreatDoor
open Go.RowKit
set_option linter.unusedVariables false
set_option linter.unusedSimpArgs false
set_option maxRecDepth 8000

def upT (l : List ByteArray) : Prop := l.Pairwise fun a b => sless a b = true
theorem insT_mem {s x : ByteArray} : ∀ {l : List ByteArray}, x ∈ insT s l ↔ x = s ∨ x ∈ l
  | [] => by simp [insT]
  | a :: l => by
    unfold insT
    split
    · simp
    · rw [List.mem_cons, insT_mem (l := l), List.mem_cons]
      constructor
      · rintro (h | h | h)
        · exact .inr (.inl h)
        · exact .inl h
        · exact .inr (.inr h)
      · rintro (h | h | h)
        · exact .inr (.inl h)
        · exact .inl h
        · exact .inr (.inr h)
theorem insT_up {s : ByteArray} : ∀ {l : List ByteArray}, upT l → s ∉ l → upT (insT s l)
  | [], _, _ => by simp [insT, upT]
  | a :: l, h, hs => by
    obtain ⟨h1, h2⟩ := List.pairwise_cons.1 h
    unfold insT
    split
    · rename_i hlt
      refine List.pairwise_cons.2 ⟨fun x hx => ?_, h⟩
      rcases List.mem_cons.1 hx with rfl | hx
      · exact hlt
      · exact sless_trans _ _ _ hlt (h1 x hx)
    · rename_i hlt
      refine List.pairwise_cons.2 ⟨fun x hx => ?_, insT_up h2 fun hm => hs (.tail _ hm)⟩
      rcases insT_mem.1 hx with rfl | hx
      · rcases sless_tri a x with ⟨q, _, _⟩ | ⟨_, q, _⟩ | q
        · exact q
        · exact absurd q hlt
        · exact absurd (by rw [q]; exact .head _) hs
      · exact h1 x hx
theorem withT_mem {s x : ByteArray} {l : List ByteArray} : x ∈ withT l s ↔ x = s ∨ x ∈ l := by
  unfold withT
  split
  · rename_i h
    obtain ⟨a, ha, hp⟩ := List.any_eq_true.1 h
    have e : a = s := of_decide_eq_true hp
    subst e
    constructor
    · exact .inr
    · rintro (rfl | h)
      · exact ha
      · exact h
  · exact insT_mem
theorem withT_up {s : ByteArray} {l : List ByteArray} (h : upT l) : upT (withT l s) := by
  unfold withT
  split
  · exact h
  · rename_i hn
    exact insT_up h fun hm => hn (List.any_eq_true.2 ⟨s, hm, decide_eq_true rfl⟩)
theorem withT_ge (l : List ByteArray) (s : ByteArray) : l.length ≤ (withT l s).length := by
  unfold withT
  split
  · omega
  · rw [insT_len]; omega
def stepA (l : List ByteArray) (d : ByteArray) : List ByteArray := if l.length ≤ 4 then withT l d else l
def foldA (a ts : List ByteArray) : List ByteArray := ts.foldl stepA a
theorem stepA_ge (l : List ByteArray) (d : ByteArray) : l.length ≤ (stepA l d).length := by
  unfold stepA
  split
  · exact withT_ge _ _
  · omega
theorem foldA_step {a ts : List ByteArray} {k : Nat} {r : ByteArray} (h : ts[k]? = some r) : foldA a (ts.take (k + 1)) = stepA (foldA a (ts.take k)) r := by
  unfold foldA
  rw [List.take_add_one, h, List.foldl_append]
  rfl
theorem foldA_ge : ∀ (ts a : List ByteArray), a.length ≤ (foldA a ts).length
  | [], a => Nat.le_refl _
  | d :: ts, a => Nat.le_trans (stepA_ge a d) (foldA_ge ts (stepA a d))
theorem foldA_up : ∀ (ts : List ByteArray) {a : List ByteArray}, upT a → upT (foldA a ts)
  | [], _, h => h
  | d :: ts, a, h => foldA_up ts (by unfold stepA; split; exact withT_up h; exact h)
theorem foldA_sub {x : ByteArray} : ∀ (ts : List ByteArray) {a : List ByteArray}, x ∈ foldA a ts → x ∈ a ∨ x ∈ ts
  | [], _, h => .inl h
  | d :: ts, a, h => by
    rcases foldA_sub ts (a := stepA a d) h with h | h
    · unfold stepA at h
      split at h
      · rcases withT_mem.1 h with rfl | h
        · exact .inr (.head _)
        · exact .inl h
      · exact .inl h
    · exact .inr (.tail _ h)
theorem foldA_all {x : ByteArray} : ∀ (ts : List ByteArray) {a : List ByteArray}, (foldA a ts).length ≤ 4 → x ∈ a ∨ x ∈ ts → x ∈ foldA a ts
  | [], a, _, h => by
    rcases h with h | h
    · exact h
    · cases h
  | d :: ts, a, hl, h => by
    have h4 : a.length ≤ 4 := Nat.le_trans (foldA_ge (d :: ts) a) hl
    refine foldA_all ts (a := stepA a d) hl ?_
    have e : stepA a d = withT a d := if_pos h4
    rw [e]
    rcases h with h | h
    · exact .inl (withT_mem.2 (.inr h))
    · rcases List.mem_cons.1 h with rfl | h
      · exact .inl (withT_mem.2 (.inl rfl))
      · exact .inr h
theorem up_sub : ∀ (m g : List ByteArray), upT g → upT m → (∀ x ∈ g, x ∈ m) → g.Sublist m
  | [], g, _, _, h => by
    cases g with
    | nil => exact List.Sublist.slnil
    | cons a g => exact absurd (h a (.head _)) (by simp)
  | b :: m, [], _, _, _ => List.nil_sublist _
  | b :: m, a :: g, hg, hm, h => by
    obtain ⟨g1, g2⟩ := List.pairwise_cons.1 hg
    obtain ⟨m1, m2⟩ := List.pairwise_cons.1 hm
    rcases List.mem_cons.1 (h a (.head _)) with e | ha
    · subst e
      refine List.Sublist.cons_cons _ (up_sub m g g2 m2 fun x hx => ?_)
      rcases List.mem_cons.1 (h x (.tail _ hx)) with e | hx'
      · have := g1 x hx
        rw [e, sless_irrefl] at this
        cases this
      · exact hx'
    · refine List.Sublist.cons _ (up_sub m (a :: g) hg m2 fun x hx => ?_)
      rcases List.mem_cons.1 (h x hx) with e | hx'
      · have hb := m1 a ha
        rcases List.mem_cons.1 hx with e' | hx
        · rw [← e', e, sless_irrefl] at hb
          cases hb
        · have := sless_trans _ _ _ hb (g1 x hx)
          rw [e, sless_irrefl] at this
          cases this
      · exact hx'
theorem agL_up (a ts : List ByteArray) : upT (agL a ts) := onceT_up (sortT_le _)
theorem agL_mem {a ts : List ByteArray} {x : ByteArray} : x ∈ agL a ts ↔ x ∈ a ∨ x ∈ ts := by
  unfold agL
  rw [onceT_mem, sortT_mem, List.mem_append]
theorem fold_agL {a : List ByteArray} (ts : List ByteArray) (h : upT a) (hl : (foldA a ts).length ≤ 4) : foldA a ts = agL a ts :=
  (up_sub _ _ (foldA_up ts h) (agL_up a ts) fun x hx => agL_mem.2 (foldA_sub ts hx)).eq_of_length_le (up_sub _ _ (agL_up a ts) (foldA_up ts h) fun x hx => foldA_all ts hl (agL_mem.1 hx)).length_le
theorem fold_full {a : List ByteArray} (ts : List ByteArray) (h : upT a) (hl : 4 < (foldA a ts).length) : 4 < (agL a ts).length :=
  Nat.lt_of_lt_of_le hl (up_sub _ _ (foldA_up ts h) (agL_up a ts) fun x hx => agL_mem.2 (foldA_sub ts hx)).length_le
theorem rising_up {a : List ByteArray} (h : risingB a = true) : upT a := ((right_iff (r := sless) (g := wordB) (n := 4) sless_trans).1 h).2.2
set_option maxHeartbeats 1000000 in
theorem refAgree_v (xs : List UserX) (tok : ByteArray) (ts : List ByteArray) (sv tv : Value) (w : World) (L : List Nat) (hL : LL L w) (h1 : RdF 3 L w sv (xs.map encU)) (h2 : AgU L w xs) (h3 : RdF 1 L w tv (ts.map encT))  (hz : SzU xs) (hzt : SzT ts) : CV Tryz.prog 19 [sv, .string tok, tv] w fun v W => ∃ s2 av, v = .tuple #[s2, .int .i64 (agrE xs tok ts)] ∧ RdF 3 L W s2 ((agrU xs tok ts av).map encU) ∧ AgU L W (agrU xs tok ts av) := by
  refine cv_enter (N := 64) (f := [(0, sv), (1, .string tok), (2, tv)]) Tryz.func19 rfl rfl rfl rfl fun Q hQ hE => ?_
  have hB := Below.refl w.heap.size w
  have hL0 := hL
  have h1m : xs.length ≤ maxLen := by have := h1.len; rwa [List.length_map] at this
  unfold maxLen at h1m
  have h3m : ts.length ≤ maxLen := by have := h3.len; rwa [List.length_map] at this
  unfold maxLen at h3m
  refine WC.seq fun K1 hK1 => ?_
  refine WC.region ?_
  refine WL.val (dx_assign rfl rfl) rfl rfl ?_
  refine WL.val (dx_assign rfl rfl) rfl rfl ?_
  refine WL.nil ?_
  refine hK1 ?_
  refine WC.seq fun K2 hK2 => ?_
  refine WC.seq fun K3 hK3 => ?_
  refine WC.region ?_
  refine WL.val (dx_move rfl rfl) rfl rfl ?_
  refine WL.get (dx_cv rfl Tryz.func17 rfl rfl rfl (refRight_v xs _ w _ hL h1 h2 hz)) rfl rfl ?_
  rintro _ W5 ⟨rfl, b4⟩
  replace h1 := h1.below b4
  replace h2 := h2.below b4
  replace h3 := h3.below b4
  replace hB := below_then hB b4
  replace hL := LL.below hL b4
  refine WL.val (dx_not rfl rfl) rfl rfl ?_
  refine WL.nil ?_
  refine hK3 ?_
  refine WC.cond rfl (fun c6 => ?_) (fun c6 => ?_)
  ·
    replace c6 := bnot_t c6
    refine WC.seq fun K7 hK7 => ?_
    refine WC.region ?_
    refine WL.val (dx_move rfl rfl) rfl rfl ?_
    refine WL.val (dx_assign rfl rfl) rfl rfl ?_
    refine WL.val (dx_assign rfl rfl) rfl rfl ?_
    refine WL.nil ?_
    refine hK7 ?_
    refine WC.ret fun a_ ha_ => ?_
    exact hQ (cv_ret2 rfl (.tmp rfl) (.tmp rfl) (by have he : agrE xs tok ts = 1 := (by unfold agrE; rw [find_bad (by first | assumption | exact Bool.eq_false_iff.2 (by assumption)), if_neg (by decide)]); have hr : agrU xs tok ts undef = xs := (by unfold agrU; rw [if_neg (by rw [he]; decide)]); exact ⟨_, undef, (by rw [he]), by rw [hr]; exact (h1.less (fun x hx => hx)), by rw [hr]; exact (h2.less (fun x hx => hx))⟩) hB ha_)
  ·
    replace c6 := bnot_f c6
    refine WC.skip ?_
    refine hK2 ?_
    refine WC.seq fun K8 hK8 => ?_
    refine WC.region ?_
    refine WL.val (dx_move rfl rfl) rfl rfl ?_
    refine WL.val (dx_move rfl rfl) rfl rfl ?_
    refine WL.get (dx_cv rfl Tryz.func46 rfl rfl rfl (place_v xs tok _ W5 _ hL h1 h2)) rfl rfl ?_
    rintro _ W10 ⟨rfl, b9⟩
    replace h1 := h1.below b9
    replace h2 := h2.below b9
    replace h3 := h3.below b9
    replace hB := below_then hB b9
    replace hL := LL.below hL b9
    refine WL.val (dx_assign rfl rfl) rfl rfl ?_
    refine WL.nil ?_
    refine hK8 ?_
    refine WC.seq fun K11 hK11 => ?_
    refine WC.seq fun K12 hK12 => ?_
    refine WC.region ?_
    refine WL.val (dx_move rfl rfl) rfl rfl ?_
    refine WL.val (dx_lss rfl rfl rfl) rfl rfl ?_
    refine WL.nil ?_
    refine hK12 ?_
    refine WC.cond rfl (fun c13 => ?_) (fun c13 => ?_)
    ·
      replace c13 := of_decide_eq_true c13
      refine WC.seq fun K14 hK14 => ?_
      refine WC.region ?_
      refine WL.val (dx_move rfl rfl) rfl rfl ?_
      refine WL.val (dx_assign rfl rfl) rfl rfl ?_
      refine WL.val (dx_assign rfl rfl) rfl rfl ?_
      refine WL.nil ?_
      refine hK14 ?_
      refine WC.ret fun a_ ha_ => ?_
      exact hQ (cv_ret2 rfl (.tmp rfl) (.tmp rfl) (by have he : agrE xs tok ts = 14 := (by unfold agrE; rw [find_not (by assumption) (by assumption), if_neg (by decide)]); have hr : agrU xs tok ts undef = xs := (by unfold agrU; rw [if_neg (by rw [he]; decide)]); exact ⟨_, undef, (by rw [he]), by rw [hr]; exact (h1.less (fun x hx => hx)), by rw [hr]; exact (h2.less (fun x hx => hx))⟩) hB ha_)
    ·
      replace c13 := of_decide_eq_false c13
      refine WC.skip ?_
      refine hK11 ?_
      refine WC.seq fun K15 hK15 => ?_
      have hf0 := find_plc (xs := xs) (tok := tok) (by assumption) (by assumption)
      obtain ⟨hr0, k0, u0, hk0, hu0, ht0, hn0⟩ := findU_ok (xs := xs) (tok := tok) (by rw [hf0])
      rw [hf0] at hk0
      replace hk0 : plcU xs tok = (k0 : Nat) := hk0
      have hl0 := (List.getElem?_eq_some_iff.1 hu0).1
      have hrl := right_len hr0
      have hg0 : goodU u0 = true := (by have := hr0; unfold rightU rightL at this; simp only [Bool.and_eq_true, List.all_eq_true] at this; exact this.2.1 u0 (List.mem_of_getElem? hu0))
      have hri : risingB u0.2.2.2 = true := (by unfold goodU at hg0; simp only [Bool.and_eq_true] at hg0; exact hg0.2.2)
      have h40 := right_len hri
      refine WC.region ?_
      have hLs := hL
      refine WL.get (dx_lit0E rfl ty_ap_34 (by decide)) rfl rfl ?_
      rintro u16 W17 ⟨b18, hE⟩
      replace h1 := h1.below b18
      replace h2 := h2.below b18
      replace h3 := h3.below b18
      replace hB := below_then hB b18
      replace hL := LL.below hL b18
      refine WL.val (dx_move rfl rfl) rfl rfl ?_
      refine WL.val (dx_move rfl rfl) rfl rfl ?_
      refine WL.get (dx_idxF k0 rfl ty_slice_22 rfl rfl h1 (by omega) (at_mapX hu0)) rfl rfl ?_
      rintro u19 _ ⟨rfl, p20⟩
      refine WL.get (dx_fldP 1 rfl ty_fld_54_2_2 rfl p20 (cs' := [u0.2.2.1]) rfl (Nat.succ_pos _)) rfl rfl ?_
      rintro u21 _ ⟨rfl, p22⟩
      refine WL.val (dx_loadP rfl ty_one_34 rfl p22) rfl rfl ?_
      refine WL.get (dx_apN rfl ty_ap_34 rfl rfl hE (h2 u0 (List.mem_of_getElem? hu0)) (oc_rowsX oc_T _) (by rw [List.length_map]; unfold maxLen; omega) (by rw [List.length_map]; omega) b18.size) rfl rfl ?_
      rintro u23 W24 ⟨b25, hN⟩
      replace h1 := h1.below b25
      replace h2 := h2.below b25
      replace h3 := h3.below b25
      replace p20 := p20.below b25
      replace p22 := p22.below b25
      replace hB := below_then hB b25
      replace hL := LL.below hL b25
      have h5 := hN.rd (fun x hx => hLs x hx)
      replace hE := trivial
      replace hN := trivial
      refine WL.val (dx_assign rfl rfl) rfl rfl ?_
      refine WL.nil ?_
      refine hK15 ?_
      refine WC.seq fun K26 hK26 => ?_
      refine WC.seq fun K27 hK27 => ?_
      refine WC.region ?_
      refine WL.val (dx_assign rfl rfl) rfl rfl ?_
      refine WL.nil ?_
      refine hK27 ?_
      refine WC.block ?_
      refine WC.loop3 (fun (kk : Nat) (av : Value) (ag : List ByteArray) => [(0, sv), (1, .string tok), (2, tv), (6, .slice none 0 0), (7, .int .i64 0), (8, .int .i64 (plcU xs tok)), (10, .int .i64 (kk : Int)), (9, av)]) (fun (kk : Nat) (av : Value) (ag : List ByteArray) W => kk ≤ ts.length ∧ (∀ k a, k < kk → ts[k]? = some a → wordB a = true) ∧ ag = foldA u0.2.2.2 (ts.take kk) ∧ ag.length ≤ 5 ∧ Below w.heap.size w W ∧ LL (L) W ∧ RdF 3 (L) W sv (xs.map encU) ∧ AgU (L) W xs ∧ RdF 1 (L) W tv (ts.map encT) ∧ RdF 1 (L) W av (ag.map encT)) (fun (kk : Nat) (av : Value) (ag : List ByteArray) => ts.length - kk) 0 u23 u0.2.2.2 (by repeat first | exact trivial | exact And.intro rfl trivial | refine And.intro rfl ?_ | refine And.intro (congrArg (fun z : Int => some (Value.int .i64 z)) (by omega)) ?_) ⟨Nat.zero_le _, (fun k a hk => by omega), (by simp [foldA]), (by omega), hB, hL, h1, h2, h3, h5⟩ ?_
      clear h1 h2 h3 h5 hB hL
      rintro K28 kk av ag W29 ⟨hi, hv, hg, hgl, hB, hL, h1, h2, h3, h5⟩ hK28
      refine WC.seq fun K30 hK30 => ?_
      refine WC.seq fun K31 hK31 => ?_
      refine WC.region ?_
      refine WL.val (dx_move rfl rfl) rfl rfl ?_
      refine WL.val (dx_move rfl rfl) rfl rfl ?_
      refine WL.val (dx_lenX rfl ty_slice_34 rfl h3) rfl rfl ?_
      refine WL.val (dx_lss rfl rfl rfl) rfl rfl ?_
      refine WL.nil ?_
      refine hK31 ?_
      refine WC.cond rfl (fun c32 => ?_) (fun c32 => ?_)
      ·
        replace c32 := of_decide_eq_true c32
        refine WC.skip ?_
        refine hK30 ?_
        refine WC.seq fun K33 hK33 => ?_
        refine WC.block ?_
        refine WC.seq fun K34 hK34 => ?_
        refine WC.seq fun K35 hK35 => ?_
        refine WC.region ?_
        refine WL.val (dx_move rfl rfl) rfl rfl ?_
        refine WL.val (dx_move rfl rfl) rfl rfl ?_
        obtain ⟨r36, e37⟩ : ∃ x, ts[kk]? = some x := ⟨_, List.getElem?_eq_getElem (by omega)⟩
        refine WL.get (dx_idxF kk rfl ty_slice_34 rfl rfl h3 (by omega) (at_mapX e37)) rfl rfl ?_
        rintro u38 _ ⟨rfl, p39⟩
        refine WL.val (dx_loadP rfl ty_one_9 rfl p39) rfl rfl ?_
        refine WL.get (dx_cv rfl Tryz.func44 rfl rfl rfl (secret_v r36 W29 [] (LL.nil _) (hzt _ (List.mem_of_getElem? e37)))) rfl rfl ?_
        rintro _ W41 ⟨rfl, b40⟩
        replace h1 := h1.below b40
        replace h2 := h2.below b40
        replace h3 := h3.below b40
        replace h5 := h5.below b40
        replace p39 := p39.below b40
        replace hB := below_then hB b40
        replace hL := LL.below hL b40
        refine WL.val (dx_not rfl rfl) rfl rfl ?_
        refine WL.nil ?_
        refine hK35 ?_
        refine WC.cond rfl (fun c42 => ?_) (fun c42 => ?_)
        ·
          replace c42 := bnot_t c42
          refine WC.seq fun K43 hK43 => ?_
          refine WC.region ?_
          refine WL.val (dx_move rfl rfl) rfl rfl ?_
          refine WL.val (dx_assign rfl rfl) rfl rfl ?_
          refine WL.val (dx_assign rfl rfl) rfl rfl ?_
          refine WL.nil ?_
          refine hK43 ?_
          refine WC.ret fun a_ ha_ => ?_
          exact hQ (cv_ret2 rfl (.tmp rfl) (.tmp rfl) (by have he : agrE xs tok ts = 1 := (by unfold agrE; rw [hf0, if_pos rfl, if_neg (by rw [show ts.all wordB = false from List.all_eq_false.2 ⟨_, List.mem_of_getElem? e37, by simp [*]⟩]; decide)]); have hr : agrU xs tok ts undef = xs := (by unfold agrU; rw [if_neg (by rw [he]; decide)]); exact ⟨_, undef, (by rw [he]), by rw [hr]; exact (h1.less (fun x hx => hx)), by rw [hr]; exact (h2.less (fun x hx => hx))⟩) hB ha_)
        ·
          replace c42 := bnot_f c42
          refine WC.skip ?_
          refine hK34 ?_
          refine WC.seq fun K44 hK44 => ?_
          refine WC.region ?_
          refine WL.val (dx_move rfl rfl) rfl rfl ?_
          refine WL.val (dx_lenX rfl ty_slice_34 rfl h5) rfl rfl ?_
          refine WL.val (dx_leq rfl rfl rfl) rfl rfl ?_
          refine WL.nil ?_
          refine hK44 ?_
          refine WC.cond rfl (fun c45 => ?_) (fun c45 => ?_)
          ·
            replace c45 := of_decide_eq_true c45
            refine WC.region ?_
            refine WL.val (dx_move rfl rfl) rfl rfl ?_
            refine WL.val (dx_move rfl rfl) rfl rfl ?_
            refine WL.val (dx_move rfl rfl) rfl rfl ?_
            refine WL.get (dx_idxF kk rfl ty_slice_34 rfl rfl h3 (by omega) (at_mapX e37)) rfl rfl ?_
            rintro u46 _ ⟨rfl, p47⟩
            refine WL.val (dx_loadP rfl ty_one_9 rfl p47) rfl rfl ?_
            refine WL.get (dx_cv rfl Tryz.func53 rfl rfl rfl (with_v ag r36 _ W41 _ hL h5 (by omega))) rfl rfl ?_
            rintro u48 W51 ⟨j49, b50⟩
            replace h1 := h1.below b50
            replace h2 := h2.below b50
            replace h3 := h3.below b50
            replace h5 := h5.below b50
            replace p47 := p47.below b50
            replace hB := below_then hB b50
            replace hL := LL.below hL b50
            refine WL.val (dx_assign rfl rfl) rfl rfl ?_
            refine WL.nil ?_
            refine hK33 ?_
            refine WC.region ?_
            refine WL.val (dx_move rfl rfl) rfl rfl ?_
            refine WL.val (dx_add (r := (kk : Int) + 1) rfl rfl rfl (wrap64_id (by omega))) rfl rfl ?_
            refine WL.val (dx_assign rfl rfl) rfl rfl ?_
            refine WL.nil ?_
            have hwl := withT_len ag r36
            exact hK28 (kk + 1) u48 (withT ag r36) ⟨(by omega), (good_step hv e37 (by assumption)), (by rw [foldA_step e37, ← hg]; exact (if_pos (by omega)).symm), (by omega), hB, hL, h1, h2, h3, j49⟩ (by omega) (by repeat first | exact trivial | exact And.intro rfl trivial | refine And.intro rfl ?_ | refine And.intro (congrArg (fun z : Int => some (Value.int .i64 z)) (by omega)) ?_)
          ·
            replace c45 := of_decide_eq_false c45
            refine WC.skip ?_
            refine hK33 ?_
            refine WC.region ?_
            refine WL.val (dx_move rfl rfl) rfl rfl ?_
            refine WL.val (dx_add (r := (kk : Int) + 1) rfl rfl rfl (wrap64_id (by omega))) rfl rfl ?_
            refine WL.val (dx_assign rfl rfl) rfl rfl ?_
            refine WL.nil ?_
            have hwl := withT_len ag r36
            exact hK28 (kk + 1) av ag ⟨(by omega), (good_step hv e37 (by assumption)), (by rw [foldA_step e37, ← hg]; exact (if_neg (by omega)).symm), (by omega), hB, hL, h1, h2, h3, h5⟩ (by omega) (by repeat first | exact trivial | exact And.intro rfl trivial | refine And.intro rfl ?_ | refine And.intro (congrArg (fun z : Int => some (Value.int .i64 z)) (by omega)) ?_)
      ·
        replace c32 := of_decide_eq_false c32
        refine WC.exit ?_
        refine hK26 ?_
        refine WC.seq fun K52 hK52 => ?_
        refine WC.seq fun K53 hK53 => ?_
        have hall : ts.all wordB = true := List.all_eq_true.2 (fun t ht => by obtain ⟨k, hk, rfl⟩ := List.getElem_of_mem ht; exact hv k _ (by omega) (List.getElem?_eq_getElem hk))
        rw [List.take_of_length_le (by omega)] at hg
        refine WC.region ?_
        refine WL.val (dx_move rfl rfl) rfl rfl ?_
        refine WL.val (dx_lenX rfl ty_slice_34 rfl h5) rfl rfl ?_
        refine WL.val (dx_gtr rfl rfl rfl) rfl rfl ?_
        refine WL.nil ?_
        refine hK53 ?_
        refine WC.cond rfl (fun c54 => ?_) (fun c54 => ?_)
        ·
          replace c54 := of_decide_eq_true c54
          refine WC.seq fun K55 hK55 => ?_
          refine WC.region ?_
          refine WL.val (dx_move rfl rfl) rfl rfl ?_
          refine WL.val (dx_assign rfl rfl) rfl rfl ?_
          refine WL.val (dx_assign rfl rfl) rfl rfl ?_
          refine WL.nil ?_
          refine hK55 ?_
          refine WC.ret fun a_ ha_ => ?_
          exact hQ (cv_ret2 rfl (.tmp rfl) (.tmp rfl) (by have he : agrE xs tok ts = 10 := (by unfold agrE; rw [hf0, if_pos rfl, if_pos hall]; show (if 4 < ((agL (((xs[(plcU xs tok).toNat]?).map (·.2.2.2)).getD []) ts).length : Int) then (10 : Int) else 0) = 10; rw [hk0, Int.toNat_natCast, hu0]; exact if_pos (by have := fold_full ts (rising_up hri) (by rw [← hg]; omega); show 4 < ((agL u0.2.2.2 ts).length : Int); omega)); have hr : agrU xs tok ts undef = xs := (by unfold agrU; rw [if_neg (by rw [he]; decide)]); exact ⟨_, undef, (by rw [he]), by rw [hr]; exact (h1.less (fun x hx => hx)), by rw [hr]; exact (h2.less (fun x hx => hx))⟩) hB ha_)
        ·
          replace c54 := of_decide_eq_false c54
          refine WC.skip ?_
          refine hK52 ?_
          refine WC.seq fun K56 hK56 => ?_
          refine WC.region ?_
          have hag : ag = agL u0.2.2.2 ts := (by rw [hg]; exact fold_agL ts (rising_up hri) (by rw [← hg]; omega))
          refine WL.get (dx_lit0E rfl ty_ap_22 (by decide)) rfl rfl ?_
          rintro u57 W58 ⟨b59, hE⟩
          refine WL.val (dx_move rfl rfl) rfl rfl ?_
          refine WL.get (dx_apN rfl ty_ap_22 rfl rfl hE (h1.below b59) h2.oc (by rw [List.length_map]; unfold maxLen; omega) (by rw [List.length_map]; omega) b59.size) rfl rfl ?_
          rintro u60 W61 ⟨b62, hN⟩
          replace b62 := b59.trans (b62.mono b59.size)
          obtain ⟨B63, q64, k65⟩ := hN.own (fun e => by have := congrArg List.length e; rw [List.length_map, List.length_nil] at this; omega)
          have l66 := Nat.le_trans hB.size q64
          replace h1 := h1.more b62 q64
          replace h2 := h2.more b62 q64
          replace h3 := h3.more b62 q64
          replace h5 := h5.more b62 q64
          replace hB := below_then hB b62
          replace hL := LL.cons (LL.below hL b62) k65.lt
          refine WL.val (dx_assign rfl rfl) rfl rfl ?_
          refine WL.nil ?_
          refine hK56 ?_
          refine WC.seq fun K67 hK67 => ?_
          refine WC.region ?_
          refine WL.val (dx_move rfl rfl) rfl rfl ?_
          refine WL.val (dx_move rfl rfl) rfl rfl ?_
          refine WL.val (dx_move rfl rfl) rfl rfl ?_
          refine WL.val (dx_idxO k0 rfl ty_slice_22 rfl rfl k65 (by omega) (by rw [List.length_map]; omega) rfl) rfl rfl ?_
          refine WL.val (dx_fld (o1 := k0 * 3 + 2) rfl ty_fld_54_2_2 rfl rfl) rfl rfl ?_
          refine WL.do (dx_storeF (k := k0) (j := 2) (r := encU u0) rfl ty_size_34_1 rfl rfl (oc_one h5.one) h5.one k65 rfl (by rw [List.getElem?_map, hu0]; rfl) (by decide)) rfl ?_
          rintro _ W68 ⟨k70, o69⟩
          clear k65
          replace h1 := h1.only o69 (.head _)
          replace h2 := h2.only o69 (.head _)
          replace h3 := h3.only o69 (.head _)
          replace h5 := h5.only o69 (.head _)
          replace hB := o69.below hB l66
          replace hL := LL.only hL o69
          rw [agr_rows xs k0 u0 av ag] at k70
          refine WL.nil ?_
          refine hK67 ?_
          refine WC.seq fun K71 hK71 => ?_
          refine WC.region ?_
          refine WL.val (dx_move rfl rfl) rfl rfl ?_
          refine WL.val (dx_assign rfl rfl) rfl rfl ?_
          refine WL.val (dx_assign rfl rfl) rfl rfl ?_
          refine WL.nil ?_
          refine hK71 ?_
          refine WC.ret fun a_ ha_ => ?_
          exact hQ (cv_ret2 rfl (.tmp rfl) (.tmp rfl) (by have he : agrE xs tok ts = 0 := (by unfold agrE; rw [hf0, if_pos rfl, if_pos hall]; show (if 4 < ((agL (((xs[(plcU xs tok).toNat]?).map (·.2.2.2)).getD []) ts).length : Int) then (10 : Int) else 0) = 0; rw [hk0, Int.toNat_natCast, hu0]; exact if_neg (by show ¬ 4 < ((agL u0.2.2.2 ts).length : Int); rw [← hag]; omega)); have hr : agrU xs tok ts av = xs.set k0 (u0.1, u0.2.1, av, ag) := (by unfold agrU; rw [if_pos he, hf0, hk0, Int.toNat_natCast, hu0, hag]); exact ⟨_, av, by rw [he], by rw [hr]; exact k70.notin hL0 l66, by rw [hr]; exact ((h2.less (fun x hx => (.tail _ hx)))).set _ _ _ (h5.less (fun x hx => (.tail _ hx)))⟩) hB ha_)

end Go.Proofs.YthefddclefimoaaGreatDoor
namespace Go.Proofs.YthefddclefimoaaGreatDoor
open Go.RowKit
set_option linter.unusedVariables false
set_option linter.unusedSimpArgs false
set_option maxRecDepth 8000

section
variable {xs ys : List UserX} (h : KeyU ys xs) (tok : ByteArray) (ts : List ByteArray)
include h
theorem agreed_key (k : Nat) : (ys[k]?).map (·.2.2.2) = (xs[k]?).map (·.2.2.2) := by
  have := congrArg (fun l : List (ByteArray × ByteArray × List ByteArray) => (l[k]?).map (·.2.2)) h
  simpa [List.getElem?_map, Option.map_map, Function.comp_def] using this
theorem agdU_key : agdU ys tok ts = agdU xs tok ts := by
  unfold agdU
  rw [find_key h tok, agreed_key h]
theorem agrE_key : agrE ys tok ts = agrE xs tok ts := by
  unfold agrE
  rw [find_key h tok, agreed_key h]
theorem KeyU.set (k : Nat) {x y : UserX} (hk : keyU y = keyU x) : KeyU (ys.set k y) (xs.set k x) := by
  unfold KeyU at h ⊢
  rw [List.map_set, List.map_set, h]
  exact congrArg _ hk
theorem agrU_key (v v' : Value) : KeyU (agrU ys tok ts v) (agrU xs tok ts v') := by
  unfold agrU
  rw [agrE_key h, find_key h]
  split
  · have hl := h.len
    cases hx : xs[(findU xs tok).1.toNat]? with
    | none =>
      have : ys[(findU xs tok).1.toNat]? = none := by
        rw [List.getElem?_eq_none_iff] at hx ⊢
        omega
      rw [this]
      exact h
    | some a =>
      have hlt := (List.getElem?_eq_some_iff.1 hx).1
      have hy : ys[(findU xs tok).1.toNat]? = some (ys[(findU xs tok).1.toNat]'(by omega)) := List.getElem?_eq_getElem (by omega)
      rw [hy]
      obtain ⟨q1, q2, q3⟩ := h.at hy hx
      refine KeyU.set h _ ?_
      show (_, _, _) = (_, _, _)
      rw [q1, q2, q3]
  · exact h
end
theorem agr_tok (xs : List UserX) (tok : ByteArray) (ts : List ByteArray) (v : Value) : (agrU xs tok ts v).map (·.1) = xs.map (·.1) := by
  rcases agr_cases xs tok ts v with h | ⟨k, u, h1, h2, _, _, _, h3⟩
  · rw [h]
  · rw [h3, List.map_set]
    apply List.ext_getElem?
    intro i
    by_cases e : i = k
    · subst e
      rw [List.getElem?_set_self (by rw [List.length_map]; exact (List.getElem?_eq_some_iff.1 h1).1), List.getElem?_map, h1]
      rfl
    · rw [List.getElem?_set_ne (fun h => e h.symm)]
theorem agr_find (xs : List UserX) (tok : ByteArray) (ts : List ByteArray) (v : Value) : findU (agrU xs tok ts v) tok = findU xs tok := by
  have e : ∀ l : List UserX, idxX (tokP tok) l 0 = idxX (fun k : ByteArray => decide (k = tok)) (l.map (·.1)) 0 := fun l => by rw [idxX_map]
  unfold findU
  rw [agr_right, e (agrU xs tok ts v), agr_tok, ← e]
theorem agr_ok {xs : List UserX} {tok : ByteArray} {ts : List ByteArray} (h : agrE xs tok ts = 0) : (findU xs tok).2 = 0 := by
  unfold agrE at h
  split at h
  · assumption
  · rename_i hn
    exact absurd h hn
theorem agr_ok_right {xs : List UserX} {tok : ByteArray} {ts : List ByteArray} (v : Value) (h : agrE xs tok ts = 0) : rightU (agrU xs tok ts v) = true := by
  rw [agr_right]
  exact (findU_ok (agr_ok h)).1
theorem agr_ok_agd {xs : List UserX} {tok : ByteArray} {ts : List ByteArray} (v : Value) (h : agrE xs tok ts = 0) : agdU (agrU xs tok ts v) tok ts = 0 := by
  obtain ⟨hr, k, u, hk, hu, _, _⟩ := findU_ok (agr_ok h)
  have hl := (List.getElem?_eq_some_iff.1 hu).1
  have e : agrU xs tok ts v = xs.set k (u.1, u.2.1, v, agL u.2.2.2 ts) := by
    unfold agrU
    rw [if_pos h, hk, Int.toNat_natCast, hu]
  unfold agdU
  rw [agr_find, if_pos (agr_ok h), hk, Int.toNat_natCast, e, List.getElem?_set_self hl]
  refine if_neg fun hc => ?_
  obtain ⟨t, ht, hp⟩ := List.any_eq_true.1 hc
  have hm : t ∈ agL u.2.2.2 ts := agL_mem.2 (.inr ht)
  have h1 : hasT (agL u.2.2.2 ts) t = true := List.any_eq_true.2 ⟨t, hm, decide_eq_true rfl⟩
  have h2 : lacks (agL u.2.2.2 ts) t = true := hp
  rw [lacks, h1] at h2
  cases h2
set_option maxHeartbeats 1000000 in
theorem accountTerms_v (xs : List UserX) (tok : ByteArray) (ts : List ByteArray) (sv tv : Value) (w : World) (L : List Nat) (hL : LL L w) (h1 : RdF 3 L w sv (xs.map encU)) (h2 : AgU L w xs) (hM : MaxL L w) (h3 : RdF 1 L w tv (ts.map encT))  (hz : SzU xs) (hzt : SzT ts) (hlw : LnU xs) : CV Tryz.prog 4 [sv, .string tok, tv] w fun v W => v = .bool true := by
  refine cv_enter (N := 76) (f := [(0, sv), (1, .string tok), (2, tv)]) Tryz.func4 rfl rfl rfl rfl fun Q hQ hE => ?_
  have hB := Below.refl w.heap.size w
  have h1m : xs.length ≤ maxLen := by have := h1.len; rwa [List.length_map] at this
  unfold maxLen at h1m
  have h3m : ts.length ≤ maxLen := by have := h3.len; rwa [List.length_map] at this
  unfold maxLen at h3m
  refine WC.seq fun K1 hK1 => ?_
  refine WC.region ?_
  refine WL.val (dx_assign rfl rfl) rfl rfl ?_
  refine WL.nil ?_
  refine hK1 ?_
  refine WC.seq fun K2 hK2 => ?_
  refine WC.seq fun K3 hK3 => ?_
  refine WC.region ?_
  refine WL.get (dx_cv rfl Tryz.func6 rfl rfl rfl (alive17_v w _ hL hM)) rfl rfl ?_
  rintro _ W5 ⟨rfl, b4⟩
  replace h1 := h1.below b4
  replace h2 := h2.below b4
  replace hM := hM.below b4
  replace h3 := h3.below b4
  replace hB := below_then hB b4
  replace hL := LL.below hL b4
  refine WL.val (dx_not rfl rfl) rfl rfl ?_
  refine WL.nil ?_
  refine hK3 ?_
  refine WC.condF rfl ?_
  refine WC.skip ?_
  refine hK2 ?_
  refine WC.seq fun K6 hK6 => ?_
  refine WC.seq fun K7 hK7 => ?_
  refine WC.region ?_
  refine WL.val (dx_move rfl rfl) rfl rfl ?_
  refine WL.get (dx_cv rfl Tryz.func7 rfl rfl rfl (great2_v xs _ W5 _ hL h1 h2 hlw)) rfl rfl ?_
  rintro _ W10 ⟨⟨gr8, rfl, hgr⟩, b9⟩
  replace h1 := h1.below b9
  replace h2 := h2.below b9
  replace hM := hM.below b9
  replace h3 := h3.below b9
  replace hB := below_then hB b9
  replace hL := LL.below hL b9
  refine WL.val (dx_move rfl rfl) rfl rfl ?_
  refine WL.split 16 rfl (fun g11 => ?_) (fun g11 => ?_)
  ·
    refine WL.off rfl rfl rfl ?_
    refine WL.off rfl rfl rfl ?_
    refine WL.off rfl rfl rfl ?_
    refine WL.val (dx_pick rfl rfl rfl) rfl rfl ?_
    refine WL.nil ?_
    refine hK7 ?_
    refine WC.condT rfl ?_
    refine WC.seq fun K12 hK12 => ?_
    refine WC.region ?_
    refine WL.val (dx_assign rfl rfl) rfl rfl ?_
    refine WL.nil ?_
    refine hK12 ?_
    refine WC.ret fun a_ ha_ => ?_
    exact hQ (cv_ret1 rfl (.tmp rfl) rfl hB ha_)
  ·
    replace g11 := bvar_f g11
    refine WL.val (dx_move rfl rfl) rfl rfl ?_
    refine WL.val (dx_lenX rfl ty_slice_34 rfl h3) rfl rfl ?_
    refine WL.val (dx_gtr rfl rfl rfl) rfl rfl ?_
    refine WL.val (dx_pick rfl rfl rfl) rfl rfl ?_
    refine WL.nil ?_
    refine hK7 ?_
    refine WC.cond rfl (fun c13 => ?_) (fun c13 => ?_)
    ·
      replace c13 := of_decide_eq_true c13
      refine WC.seq fun K14 hK14 => ?_
      refine WC.region ?_
      refine WL.val (dx_assign rfl rfl) rfl rfl ?_
      refine WL.nil ?_
      refine hK14 ?_
      refine WC.ret fun a_ ha_ => ?_
      exact hQ (cv_ret1 rfl (.tmp rfl) rfl hB ha_)
    ·
      replace c13 := of_decide_eq_false c13
      refine WC.skip ?_
      refine hK6 ?_
      refine WC.seq fun K15 hK15 => ?_
      obtain ⟨hxl, hls⟩ := hgr (by first | assumption | exact Bool.eq_false_iff.2 (by assumption) | simp_all)
      refine WC.region ?_
      refine WL.val (dx_move rfl rfl) rfl rfl ?_
      refine WL.get (dx_cv rfl Tryz.func8 rfl rfl rfl (copy_v xs _ W10 _ hL h1 h2 hxl hls)) rfl rfl ?_
      rintro u16 W18 ⟨⟨ys, hkey, ky1, ky2⟩, b17⟩
      replace h1 := h1.below b17
      replace h2 := h2.below b17
      replace hM := hM.below b17
      replace h3 := h3.below b17
      replace hB := below_then hB b17
      replace hL := LL.below hL b17
      refine WL.val (dx_assign rfl rfl) rfl rfl ?_
      refine WL.nil ?_
      refine hK15 ?_
      refine WC.seq fun K19 hK19 => ?_
      refine WC.region ?_
      refine WL.val (dx_move rfl rfl) rfl rfl ?_
      refine WL.val (dx_move rfl rfl) rfl rfl ?_
      refine WL.val (dx_move rfl rfl) rfl rfl ?_
      refine WL.get (dx_cv rfl Tryz.func18 rfl rfl rfl ((show CV _ _ _ _ (fun v W => ∃ s2 av, v = .tuple #[s2, .int .i64 (agrE xs tok ts)] ∧ RdF 3 (L) W s2 ((agrU ys tok ts av).map encU) ∧ AgU (L) W (agrU ys tok ts av)) from by have := agree_v ys tok ts _ _ W18 _ hL ky1 ky2 hM h3 (by omega); rw [agrE_key hkey] at this; exact this))) rfl rfl ?_
      rintro _ W24 ⟨⟨u20, av1, rfl, j21, j22⟩, b23⟩
      replace h1 := h1.below b23
      replace h2 := h2.below b23
      replace hM := hM.below b23
      replace h3 := h3.below b23
      replace ky1 := ky1.below b23
      replace ky2 := ky2.below b23
      replace hB := below_then hB b23
      replace hL := LL.below hL b23
      refine WL.val (dx_move rfl rfl) rfl rfl ?_
      refine WL.val (dx_extract rfl rfl rfl) rfl rfl ?_
      refine WL.val (dx_extract rfl rfl rfl) rfl rfl ?_
      refine WL.val (dx_assign rfl rfl) rfl rfl ?_
      refine WL.val (dx_assign rfl rfl) rfl rfl ?_
      refine WL.nil ?_
      refine hK19 ?_
      refine WC.seq fun K25 hK25 => ?_
      refine WC.region ?_
      refine WL.val (dx_move rfl rfl) rfl rfl ?_
      refine WL.val (dx_move rfl rfl) rfl rfl ?_
      refine WL.val (dx_move rfl rfl) rfl rfl ?_
      refine WL.get (dx_cv rfl Tryz.func19 rfl rfl rfl (refAgree_v xs tok ts _ _ W24 _ hL h1 h2 h3 hz hzt)) rfl rfl ?_
      rintro _ W30 ⟨⟨u26, av2, rfl, j27, j28⟩, b29⟩
      replace h1 := h1.below b29
      replace h2 := h2.below b29
      replace hM := hM.below b29
      replace h3 := h3.below b29
      replace ky1 := ky1.below b29
      replace ky2 := ky2.below b29
      replace j21 := j21.below b29
      replace j22 := j22.below b29
      replace hB := below_then hB b29
      replace hL := LL.below hL b29
      refine WL.val (dx_move rfl rfl) rfl rfl ?_
      refine WL.val (dx_extract rfl rfl rfl) rfl rfl ?_
      refine WL.val (dx_extract rfl rfl rfl) rfl rfl ?_
      refine WL.val (dx_assign rfl rfl) rfl rfl ?_
      refine WL.val (dx_assign rfl rfl) rfl rfl ?_
      refine WL.nil ?_
      refine hK25 ?_
      refine WC.seq fun K31 hK31 => ?_
      refine WC.region ?_
      refine WL.val (dx_move rfl rfl) rfl rfl ?_
      refine WL.val (dx_move rfl rfl) rfl rfl ?_
      refine WL.get (dx_cv rfl Tryz.func15 rfl rfl rfl (same_v (agrU ys tok ts av1) (agrU xs tok ts av2) _ _ W30 _ hL j21 j22 j27 j28 (agrU_key hkey tok ts av1 av2) (agrU_key hkey tok ts av1 av2).len)) rfl rfl ?_
      rintro _ W33 ⟨rfl, b32⟩
      replace h1 := h1.below b32
      replace h2 := h2.below b32
      replace hM := hM.below b32
      replace h3 := h3.below b32
      replace ky1 := ky1.below b32
      replace ky2 := ky2.below b32
      replace j21 := j21.below b32
      replace j22 := j22.below b32
      replace j27 := j27.below b32
      replace j28 := j28.below b32
      replace hB := below_then hB b32
      replace hL := LL.below hL b32
      refine WL.val (dx_move rfl rfl) rfl rfl ?_
      refine WL.val (dx_move rfl rfl) rfl rfl ?_
      refine WL.val (dx_move rfl rfl) rfl rfl ?_
      refine WL.val (dv_T (dx_eql rfl rfl rfl) rfl) rfl rfl ?_
      refine WL.val (dx_pick rfl rfl rfl) rfl rfl ?_
      refine WL.val (dx_move rfl rfl) rfl rfl ?_
      refine WL.val (dx_move rfl rfl) rfl rfl ?_
      refine WL.val (dx_move rfl rfl) rfl rfl ?_
      refine WL.val (dx_move rfl rfl) rfl rfl ?_
      refine WL.get (dx_cv rfl Tryz.func20 rfl rfl rfl ((show CV _ _ _ _ (fun v W => v = .int .i64 (agdU xs tok ts)) from by have := agreed_v ys tok ts _ _ W33 _ hL ky1 ky2 hM h3; rw [agdU_key hkey] at this; exact this))) rfl rfl ?_
      rintro _ W35 ⟨rfl, b34⟩
      replace h1 := h1.below b34
      replace h2 := h2.below b34
      replace hM := hM.below b34
      replace h3 := h3.below b34
      replace ky1 := ky1.below b34
      replace ky2 := ky2.below b34
      replace j21 := j21.below b34
      replace j22 := j22.below b34
      replace j27 := j27.below b34
      replace j28 := j28.below b34
      replace hB := below_then hB b34
      replace hL := LL.below hL b34
      refine WL.val (dx_move rfl rfl) rfl rfl ?_
      refine WL.val (dx_move rfl rfl) rfl rfl ?_
      refine WL.val (dx_move rfl rfl) rfl rfl ?_
      refine WL.get (dx_cv rfl Tryz.func21 rfl rfl rfl (refAgreed_v xs tok ts _ _ W35 _ hL h1 h2 h3 hz)) rfl rfl ?_
      rintro _ W37 ⟨rfl, b36⟩
      replace h1 := h1.below b36
      replace h2 := h2.below b36
      replace hM := hM.below b36
      replace h3 := h3.below b36
      replace ky1 := ky1.below b36
      replace ky2 := ky2.below b36
      replace j21 := j21.below b36
      replace j22 := j22.below b36
      replace j27 := j27.below b36
      replace j28 := j28.below b36
      replace hB := below_then hB b36
      replace hL := LL.below hL b36
      refine WL.val (dv_T (dx_eql rfl rfl rfl) rfl) rfl rfl ?_
      refine WL.val (dx_pick rfl rfl rfl) rfl rfl ?_
      refine WL.val (dx_move rfl rfl) rfl rfl ?_
      refine WL.val (dx_move rfl rfl) rfl rfl ?_
      refine WL.val (dx_move rfl rfl) rfl rfl ?_
      refine WL.get (dx_cv rfl Tryz.func15 rfl rfl rfl (same_v ys xs _ _ W37 _ hL ky1 ky2 h1 h2 hkey hkey.len)) rfl rfl ?_
      rintro _ W39 ⟨rfl, b38⟩
      replace h1 := h1.below b38
      replace h2 := h2.below b38
      replace hM := hM.below b38
      replace h3 := h3.below b38
      replace ky1 := ky1.below b38
      replace ky2 := ky2.below b38
      replace j21 := j21.below b38
      replace j22 := j22.below b38
      replace j27 := j27.below b38
      replace j28 := j28.below b38
      replace hB := below_then hB b38
      replace hL := LL.below hL b38
      refine WL.val (dx_pick rfl rfl rfl) rfl rfl ?_
      refine WL.val (dx_move rfl rfl) rfl rfl ?_
      refine WL.val (dx_move rfl rfl) rfl rfl ?_
      refine WL.val (dx_neq rfl rfl rfl) rfl rfl ?_
      refine WL.val (dx_move rfl rfl) rfl rfl ?_
      refine WL.split 64 rfl (fun g40 => ?_) (fun g40 => ?_)
      ·
        replace g40 := bnot_t g40
        replace g40 := of_decide_eq_false g40
        refine WL.off rfl rfl rfl ?_
        refine WL.off rfl rfl rfl ?_
        refine WL.off rfl rfl rfl ?_
        refine WL.off rfl rfl rfl ?_
        refine WL.off rfl rfl rfl ?_
        refine WL.off rfl rfl rfl ?_
        refine WL.off rfl rfl rfl ?_
        refine WL.off rfl rfl rfl ?_
        refine WL.off rfl rfl rfl ?_
        refine WL.val (dx_pick rfl rfl rfl) rfl rfl ?_
        refine WL.val (dx_pick rfl rfl rfl) rfl rfl ?_
        refine WL.val (dx_assign rfl rfl) rfl rfl ?_
        refine WL.nil ?_
        refine hK31 ?_
        refine WC.ret fun a_ ha_ => ?_
        exact hQ (cv_ret1 rfl (.tmp rfl) rfl hB ha_)
      ·
        replace g40 := bnot_f g40
        replace g40 := of_decide_eq_true g40
        refine WL.val (dx_move rfl rfl) rfl rfl ?_
        have hok : agrE ys tok ts = 0 := (by rw [agrE_key hkey]; first | assumption | exact Classical.not_not.1 (by assumption) | simp_all)
        refine WL.get (dx_cv rfl Tryz.func16 rfl rfl rfl ((show CV _ _ _ _ (fun v W => v = .bool true) from by have := rightU_v (agrU ys tok ts av1) _ W39 _ hL j21 j22 hM; rw [agr_ok_right av1 hok] at this; exact this))) rfl rfl ?_
        rintro _ W42 ⟨rfl, b41⟩
        replace h1 := h1.below b41
        replace h2 := h2.below b41
        replace hM := hM.below b41
        replace h3 := h3.below b41
        replace ky1 := ky1.below b41
        replace ky2 := ky2.below b41
        replace j21 := j21.below b41
        replace j22 := j22.below b41
        replace j27 := j27.below b41
        replace j28 := j28.below b41
        replace hB := below_then hB b41
        replace hL := LL.below hL b41
        refine WL.val (dx_move rfl rfl) rfl rfl ?_
        refine WL.val (dx_move rfl rfl) rfl rfl ?_
        refine WL.val (dx_move rfl rfl) rfl rfl ?_
        refine WL.val (dx_move rfl rfl) rfl rfl ?_
        refine WL.get (dx_cv rfl Tryz.func20 rfl rfl rfl ((show CV _ _ _ _ (fun v W => v = .int .i64 0) from by have := agreed_v (agrU ys tok ts av1) tok ts _ _ W42 _ hL j21 j22 hM h3; rw [agr_ok_agd av1 hok] at this; exact this))) rfl rfl ?_
        rintro _ W44 ⟨rfl, b43⟩
        replace h1 := h1.below b43
        replace h2 := h2.below b43
        replace hM := hM.below b43
        replace h3 := h3.below b43
        replace ky1 := ky1.below b43
        replace ky2 := ky2.below b43
        replace j21 := j21.below b43
        replace j22 := j22.below b43
        replace j27 := j27.below b43
        replace j28 := j28.below b43
        replace hB := below_then hB b43
        replace hL := LL.below hL b43
        refine WL.val (dx_eql rfl rfl rfl) rfl rfl ?_
        refine WL.val (dx_pick rfl rfl rfl) rfl rfl ?_
        refine WL.val (dx_pick rfl rfl rfl) rfl rfl ?_
        refine WL.val (dx_pick rfl rfl rfl) rfl rfl ?_
        refine WL.val (dx_assign rfl rfl) rfl rfl ?_
        refine WL.nil ?_
        refine hK31 ?_
        refine WC.ret fun a_ ha_ => ?_
        exact hQ (cv_ret1 rfl (.tmp rfl) rfl hB ha_)

end Go.Proofs.YthefddclefimoaaGreatDoor
