/- A region whose order is drawn, of which one operation ahead of the last ones writes in place to what another one of it has made. No program stands here. The reference of accounts: Logout, Register. AccountUsers, walked. Slices of structures as arguments, with what their data weighs. No program stands here. Users, as arguments, with what they weigh. -/
import Derived.Test.YthefddclefimoaaGreatDoorUD
namespace Go.Proofs.YthefddclefimoaaGreatDoor
open Go.RowKit
set_option linter.unusedVariables false
set_option linter.unusedSimpArgs false
/-- The steps, of which the one with number s is bound by rel alone. -/
def DStepsW (P : Program) (ops : Array Oper) (N : Nat) (w0 : World) (sd : List (Option Tmp × VS)) (dl : List (List Nat)) (f : Fl) (s : Nat) (rel : World → World → Prop) : Nat → List Oper → Prop
  | _, [] => True
  | k, o :: l => (∀ W, Below w0.heap.size w0 W → DStep P ops o N W sd (fun v W' => (if k = s then rel W W' else Below W.heap.size W W') ∧ okAt sd k v W') ((dl[k]?).getD []) f) ∧ DStepsW P ops N w0 sd dl f s rel (k + 1) l
section
variable {P : Program} {N : Nat} {sd : List (Option Tmp × VS)} {dl : List (List Nat)}
theorem DStepsW.cons {ops : Array Oper} {w0 : World} {f : Fl} {k s : Nat} {rel : World → World → Prop} {o : Oper} {l : List Oper} (hk : k ≠ s) (h : ∀ W, Below w0.heap.size w0 W → DStep P ops o N W sd (fun v W' => Below W.heap.size W W' ∧ okAt sd k v W') ((dl[k]?).getD []) f) (hl : DStepsW P ops N w0 sd dl f s rel (k + 1) l) : DStepsW P ops N w0 sd dl f s rel k (o :: l) := ⟨by simp only [if_neg hk]; exact h, hl⟩
theorem DStepsW.hit {ops : Array Oper} {w0 : World} {f : Fl} {s : Nat} {rel : World → World → Prop} {o : Oper} {l : List Oper} (h : ∀ W, Below w0.heap.size w0 W → DStep P ops o N W sd (fun v W' => rel W W' ∧ okAt sd s v W') ((dl[s]?).getD []) f) (hl : DStepsW P ops N w0 sd dl f s rel (s + 1) l) : DStepsW P ops N w0 sd dl f s rel s (o :: l) := ⟨by simp only [if_true]; exact h, hl⟩
theorem monoR_set {rel : World → World → Prop} {s : Nat} {x : Option Tmp × VS} (h : VS.monoR rel (sd.set s x)) {j : Nat} (hj : j ≠ s) {d : Option Tmp} {p : Value → World → Prop} (hp : sd[j]? = some (d, .by p)) : ∀ u W W', rel W W' → p u W → p u W' :=
  monoR_at h (j := j) (d := d) (by rw [List.getElem?_set_ne (fun e => hj e.symm)]; exact hp)
/-- The rule. -/
theorem WC.drawW {id : Nat} {f : Fl} {w : World} {Q : Exit → Act → World → Prop} (m s : Nat) (rel : World → World → Prop) {ops : List Oper} (sd : List (Option Tmp × VS)) (dl : List (List Nat)) (hm : P.follows .mixedOrders = true) (hb : ordB .any ops.toArray = true) (hbp : ordB .any (ops.take m).toArray = true) (ht : tailB .any ops.toArray (ops.take m).length = true) (hdl : (ops.take m).map (depsOf .any) = dl)
    (hds : (ops.take m).map (·.dst) = sd.map (·.1)) (hN : inN N sd = true) (hmono : VS.mono sd) (hrel : VS.monoR rel (sd.set s (none, .is undef))) (hbr : ∀ W W', Below w.heap.size w W → rel W W' → Below w.heap.size w W') (hst : DStepsW P (ops.take m).toArray N w sd dl f s rel 0 (ops.take m))
    (hend : ∀ W, Below w.heap.size w W → DEnd (fun f W => WL P ops.toArray Q N (ops.drop m) f W) W sd f) : WC P N (.region id ops.toArray true) Q f w := fun a ha => by
  obtain ⟨pre, hpre⟩ : ∃ pre, pre = ops.take m := ⟨_, rfl⟩
  obtain ⟨suf, hsuf⟩ : ∃ suf, suf = ops.drop m := ⟨_, rfl⟩
  have hops : pre ++ suf = ops := by rw [hpre, hsuf]; exact List.take_append_drop m ops
  rw [← hpre] at hbp ht hdl hds hst
  rw [← hsuf] at hend
  clear hpre hsuf
  subst hops
  have hlen : dl.length = sd.length := by rw [← hdl, List.length_map, ← List.length_map (f := (·.dst)), hds, List.length_map]
  have hpl : pre.length = dl.length := by rw [← hdl, List.length_map]
  refine wp_region_any hm ?_
  have hrep : Array.replicate (pre ++ suf).toArray.size false = Array.replicate pre.toArray.size false ++ Array.replicate suf.length false := by
    simp [Array.replicate_append_replicate]
  rw [hrep]
  have hsz : (pre ++ suf).toArray.size = pre.toArray.size + suf.length := by simp
  rw [hsz]
  refine pre_tail (pre := pre.toArray) (suf := suf) hb hbp (by simp) (by simpa using ht) pre.toArray.size _ (by simp) (fun j hj => by simp [Array.getD_eq_getD_getElem?, Array.getElem?_replicate] at hj; split at hj <;> simp_all) a w.drew ?_
  have hda : ∀ j, depsAt .any pre.toArray j = (dl[j]?).getD [] := by
    intro j
    subst hdl
    simp only [depsAt, List.getElem?_map, List.getElem?_toArray]
  have hF0 : ∀ j, (Array.replicate pre.toArray.size false).getD j false = true → False := fun j hj => by simp [Array.getD_eq_getD_getElem?, Array.getElem?_replicate] at hj; split at hj <;> simp_all
  refine wpAny_facts hbp a (fun _ W => Below w.heap.size w W) (fun j g W => okAt sd j (g j) W) (fun i _ W W' => if i = s then rel W W' else Below W.heap.size W W') ?_ ?_ ?_ pre.toArray.size _ (fun _ => undef) a w.drew (by simp) (by
      have := List.countP_le_length (p := fun b => !b) (l := (Array.replicate pre.toArray.size false).toList)
      simpa using this) (fun j hj => (hF0 j hj).elim) (Agrees.start fun j hj => hF0 j hj) (below_draws (Below.refl _ _) 1) (fun j hj => (hF0 j hj).elim)
  · intro i g W W' j g' hB hne h
    unfold okAt at h ⊢
    cases hs : sd[j]? with
    | none => trivial
    | some p =>
      obtain ⟨d, s'⟩ := p
      rw [hs] at h
      cases s' with
      | is v => exact h
      | «by» p =>
        by_cases hi : i = s
        · rw [if_pos hi] at hB
          exact monoR_set hrel (fun e => hne (e.trans hi.symm)) hs _ W W' hB h
        · rw [if_neg hi] at hB
          exact mono_at hmono hs _ W W' hB h
  · intro i o hoi L g W _ _ hG hd
    have key : ∀ (l : List Oper) (k : Nat), DStepsW P pre.toArray N w sd dl f s rel k l → ∀ j o, l[j]? = some o → ∀ W, Below w.heap.size w W → DStep P pre.toArray o N W sd (fun v W' => (if k + j = s then rel W W' else Below W.heap.size W W') ∧ okAt sd (k + j) v W') ((dl[k + j]?).getD []) f := by
      intro l
      induction l with
      | nil => intro k _ j o h; simp at h
      | cons x l ih =>
        intro k hs j o h
        cases j with
        | zero =>
          simp only [List.getElem?_cons_zero, Option.some.injEq] at h
          subst h
          exact hs.1
        | succ j =>
          have := ih (k + 1) hs.2 j o (by simpa using h)
          rw [show k + (j + 1) = k + 1 + j by omega]
          exact this
    have hk := key pre 0 hst i o (by simpa using hoi) W hG
    rw [Nat.zero_add] at hk
    have hdo : depsOf .any o = (dl[i]?).getD [] := by rw [← hda i, depsAt_eq hoi]
    rw [hdo] at hd ⊢
    rw [putL_eq (ds := sd.map (·.1)) (by simpa using hds)]
    have hH : HypL (fun j g w => okAt sd j (g j) w) dl g W ((dl[i]?).getD []) := HypL.of _ fun j hj => by have := hd j hj; rwa [hda j] at this
    refine (DStep.to hN _ f a hk ha hH).mono fun v W' h => ⟨h.1, ?_, ?_⟩
    · by_cases hi : i = s
      · exact hbr _ _ hG (by have := h.1; rwa [if_pos hi] at this)
      · have h1 := h.1
        rw [if_neg hi] at h1
        exact hG.trans (h1.mono hG.size)
    · simp only [restr_self]
      rw [show upd g i v i = v by simp [upd]]
      exact h.2
  · intro L g W hL hG hd
    rw [putL_eq (ds := sd.map (·.1)) (by simpa using hds)]
    have hH : HypL (fun j g w => okAt sd j (g j) w) dl g W (List.range' 0 sd.length) := HypL.of _ fun j hj => by
      have hj' : j < pre.toArray.size := by
        simp [List.mem_range'] at hj
        simp
        omega
      have := hd j hj'
      rwa [hda j] at this
    have hfin := DEnd.to (Q := fun a W => wpList P (pre ++ suf).toArray Q suf a W) hN (fun f h a ha => h a ha) sd 0 f a (by simp) (hend W hG) ha hH
    show wpOps P (pre ++ suf).toArray Q (List.range' pre.toArray.size suf.length) _ _
    rw [wpOps_eq_wpList suf pre.toArray.size (fun j => by simp [List.getElem?_append_right])]
    rw [List.range_eq_range', show pre.toArray.size = sd.length by simp; omega]
    exact hfin
end
/-- Rows read at a base: what is said of another world is nothing. -/
def RdZ (s : Nat) (L : List Nat) (w0 : World) (v : Value) (rs : List (List Value)) (w : World) : Prop := RdF s L w0 v rs
theorem RdZ.below {s : Nat} {L : List Nat} {w0 w w' : World} {v : Value} {rs : List (List Value)} (h : RdZ s L w0 v rs w) (hb : Below w.heap.size w w') : RdZ s L w0 v rs w' := h
/-- New things only, or a write behind the first rows of a block that is new since the base. -/
def KeepR (s base n : Nat) (w w' : World) : Prop := Below w.heap.size w w' ∨ ∃ B R R', base ≤ B ∧ base ≤ w.heap.size ∧ Only B w w' ∧ RwB s w B R ∧ RwB s w' B R' ∧ R.length = R'.length ∧ R.take n = R'.take n ∧ n < R.length ∧ 0 < n
theorem KeepR.base {s base n : Nat} {w0 w w' : World} (h : KeepR s base n w w') (hs : base ≤ w.heap.size) (hb : Below base w0 w) : Below base w0 w' := by
  rcases h with h | ⟨B, R, R', h1, h0, h2, _⟩
  · exact hb.trans (h.mono hs)
  · exact hb.trans ((GrowB.of_only h2).from_base h1 h0)
theorem RdZ.keep {s s' base n : Nat} {L : List Nat} {w0 w w' : World} {v : Value} {rs : List (List Value)} (h : RdZ s L w0 v rs w) (hk : KeepR s' base n w w') : RdZ s L w0 v rs w' := h
theorem rwb_same {s : Nat} {w : World} {B : Nat} {R R' : List (List Value)} (h : RwB s w B R) (h' : RwB s w B R') : R = R' := by
  obtain ⟨h0, hr, h1, t, hb⟩ := h
  obtain ⟨h2, hr', h3, t', hb'⟩ := h'
  rw [hb] at hb'
  have e1 : R.flatten = R'.flatten := by simpa using (Obj.cells.inj (Option.some.inj hb')).1
  clear hb hb' h1 h2 h3
  induction R generalizing R' with
  | nil =>
    cases R' with
    | nil => rfl
    | cons r l =>
      have := congrArg List.length e1
      rw [List.flatten_cons, List.length_append, hr' r (.head _)] at this
      simp at this
      omega
  | cons r l ih =>
    cases R' with
    | nil =>
      have := congrArg List.length e1
      rw [List.flatten_cons, List.length_append, hr r (.head _)] at this
      simp at this
      omega
    | cons r' l' =>
      rw [List.flatten_cons, List.flatten_cons] at e1
      obtain ⟨e2, e3⟩ := List.append_inj e1 (by rw [hr r (.head _), hr' r' (.head _)])
      rw [e2, ih (fun x hx => hr x (.tail _ hx)) (fun x hx => hr' x (.tail _ hx)) e3]
theorem NewS.keep {s base n : Nat} {rs : List (List Value)} {u : Value} {w w' : World} (h : NewS s base rs u w) (hk : KeepR s base n w w') (hn : rs.length ≤ n) : NewS s base rs u w' := by
  rcases hk with hk | ⟨B, R, R', h1, h0, h2, h3, h4, h5, h6, h7, h8⟩
  · exact h.below hk
  · rcases h with h | ⟨C, sp, k1, k2, k3, k4⟩
    · exact .inl h
    · by_cases e : C = B
      · subst e
        obtain rfl := rwb_same k3 h3
        have e2 : R'.take rs.length = rs := by
          have := congrArg (List.take rs.length) h6
          rw [List.take_take, List.take_take, Nat.min_eq_left hn, List.take_append_of_le_length (Nat.le_refl _), List.take_length] at this
          exact this.symm
        refine .inr ⟨C, R'.drop rs.length, k1, ?_, ?_, fun hr => ?_⟩
        · rw [k2, h5]
          congr 1
          rw [← List.take_append_drop rs.length R', e2]
          simp
        · have := List.take_append_drop rs.length R'
          rw [e2] at this
          rw [this]
          exact h4
        · subst hr
          have := k4 rfl
          subst this
          simp at h7
      · exact .inr ⟨C, sp, k1, k2, k3.other h2 e, k4⟩
theorem NewE.keep {s base n : Nat} {u : Value} {w w' : World} (h : NewE s base u w) (hk : KeepR s base n w w') : NewE s base u w' := by
  rcases hk with hk | ⟨B, R, R', h1, h0, h2, h3, h4, h5, h6, h7, h8⟩
  · exact h.below hk
  · obtain ⟨C, k1, rfl, k3⟩ := h
    by_cases e : C = B
    · subst e
      obtain ⟨sp, q1, q2⟩ := k3.open
      have e1 : sp = [] := by
        have := congrArg (fun v : Value => match v with | .slice _ _ c => c | _ => 0) q1
        simp at this
        exact List.length_eq_zero_iff.1 this.symm
      subst e1
      obtain rfl := rwb_same h3 q2
      simp at h7
    · exact ⟨C, k1, rfl, k3.other h2 e⟩
section
variable {P : Program} {ops : Array Oper} {o : Oper} {N : Nat} {f : Fl} {w : World}
/-- An append of one row to what the region has made. -/
theorem dx_apR {t s bytes base : Nat} {x y : Operand} {u v2 : Value} {rs : List (List Value)} {row : List Value} {L : List Nat} (ho : o.op = .call { callee := .builtin .append, args := #[x, y], argTypes := #[t, t] }) (ht : apB P t s bytes = true) (hx : ev f x = some u) (hy : ev f y = some v2)
    (h : NewS s base rs u w) (h2 : RdF s L w v2 [row]) (h1 : ∀ u ∈ row, u.oneCell' = true) (hm : rs.length + 1 ≤ maxLen) (hby : (rs.length + 1) * bytes ≤ 140737488355328) (hb : base ≤ w.heap.size) {n : Nat} (hn : rs.length ≤ n) (hn1 : 0 < rs.length → n = rs.length) (hw : wantF ops o f = some true := by rfl) : DR P ops o N f w fun u' W => KeepR s base n w W ∧ NewW s base (rs ++ [row]) u' W := fun a ha => by
  have hoc : ∀ r ∈ [row], ∀ u ∈ r, u.oneCell' = true := fun r hr => by rw [List.mem_singleton.1 hr]; exact h1
  rcases h with ⟨rfl, rfl, h0⟩ | ⟨B, sp, hB, rfl, hR, h4⟩
  · exact Does.mono (dx_apF (rs := []) ho ht hx hy (RdF.nil (L := L) h0) h2 (by simp) hm hby hw a ha) fun v W ⟨k1, k2, k3⟩ => ⟨.inl k2, .inr ⟨_, hb, k1⟩⟩
  · by_cases hsp : sp = []
    · subst hsp
      have hx' : ev f x = some (.slice (some ⟨B, 0, none⟩) rs.length rs.length) := by rw [hx]; simp
      have hrd : RdF s [] w (.slice (some ⟨B, 0, none⟩) rs.length rs.length) rs := by
        have := hR.rd (L := []) (vs := rs) (sp := []) (by simp)
        simpa using this
      exact Does.mono (dx_apF (rs := rs) (L := []) ho ht hx' hy hrd (h2.less (by simp)) (by simp) hm hby hw a ha) fun v W ⟨k1, k2, k3⟩ => ⟨.inl k2, .inr ⟨_, hb, k1⟩⟩
    · have hrs : rs ≠ [] := fun e => hsp (h4 e)
      have hspl := List.length_pos_iff.2 hsp
      have hrl := List.length_pos_iff.2 hrs
      have hnn := hn1 hrl
      refine Does.mono (dx_apV (m := 1) ho ht hx hy hR h2 hoc rfl (by rw [List.length_append]; omega) hw a ha) fun v W ⟨k1, k2, k3⟩ => ?_
      have et : (rs ++ sp).take rs.length = rs := by rw [List.take_append_of_le_length (Nat.le_refl _), List.take_length]
      have ed : (rs ++ sp).drop (rs.length + 1) = sp.drop 1 := by rw [List.drop_append]; simp
      rw [et, ed] at k2
      have elen : (rs ++ sp).length = (rs ++ ([row] ++ sp.drop 1)).length := by simp; omega
      refine ⟨.inr ⟨B, _, _, hB, hb, k3, hR, k2, elen, by rw [hnn, et, List.take_append_of_le_length (Nat.le_refl _), List.take_length], by rw [List.length_append]; omega, by omega⟩, .inr ⟨B, hB, ?_⟩⟩
      rw [k1, elen, ← List.append_assoc]
      rw [← List.append_assoc] at k2
      have := k2.own
      simpa using this
/-- x[:k] and x[k:] of rows that are read. -/
theorem dx_rdH {t s : Nat} {x y : Operand} {K : IntKind} {v : Value} {rs : List (List Value)} {L : List Nat} {w0 : World} {i : Int} (k : Nat) (ho : o.op = .slice t x none (some y) none) (ht : sliceB P t s = true) (hx : ev f x = some v) (hy : ev f y = some (.int K i)) (hi : i = (k : Int)) (hr : RdF s L w0 v rs) (hk : k ≤ rs.length) (hw : wantF ops o f = some true := by rfl) : DR P ops o N f w fun u W => w = W ∧ RdZ s L w0 u (rs.take k) W := fun a ha => by
  subst hi
  obtain ⟨h0, hl, ad, cap, rfl, h2, h3, h4, h5⟩ := hr
  have htl : (rs.take k).length = k := by rw [List.length_take]; omega
  cases ad with
  | none =>
    have hc := h4 rfl
    subst hc
    have e1 : rs.length = 0 := by omega
    have e2 := List.length_eq_zero_iff.1 e1
    subst e2
    have e3 : k = 0 := by simpa using hk
    subst e3
    exact Does.mono (dx_slNH ho ht hx hy hw a ha) fun u W ⟨q1, q2⟩ => ⟨q2.symm, by rw [q1]; exact RdF.nil h0⟩
  | some b =>
    obtain ⟨B, o0, sp⟩ := b
    have hgo : DV P ops o N f w (.slice (some ⟨B, o0, sp⟩) k cap) := fun a ha => by
      obtain ⟨e, hu, hs⟩ := of_sliceB ht
      have hx := ha.ev hx
      have hy := ha.ev hy
      cases hi : P.info? e with
      | none => rw [hi] at hs; cases hs
      | some q =>
        have hq : q.size = s := by simpa [hi] using hs
        refine Does.pure (wantF_of ha hw) _ ?_ ⟨rfl, rfl⟩
        have h1 : ((k : Int) ≤ (cap : Int)) := by omega
        have h3 : (0 : Int) ≤ (k : Int) := by omega
        unfold execOp
        simp only [ho, Option.map_none, Option.map_some, hx, hy, Instr.sliceAt, Sem.run_bind, run_underlying hu, Result.andThen_ok, Instr.slice, Instr.sliceBounds, Instr.sliceBound, asIntOf, Sem.run_pure, sizeOf, typeInfo, run_program, hi]
        simp [h1, h3, hq, addr_at, Addr.add]
    refine Does.mono (hgo a ha) fun u W ⟨q1, q2⟩ => ⟨q2.symm, ?_⟩
    rw [q1]
    refine ⟨h0, fun r hr => hl r (List.mem_of_mem_take hr), _, cap, by rw [htl], by omega, h3, (fun h => by cases h), fun hne => ?_⟩
    obtain ⟨X, o1, e, hX, hc⟩ := h5 (fun e => hne (by rw [e, List.take_nil]))
    refine ⟨X, o1, e, hX, ?_⟩
    have := range_part hc 0 (k * s)
    rw [Nat.add_zero, List.drop_zero, flat_take k hl] at this
    exact this
theorem dx_rdL {t s : Nat} {x y : Operand} {K : IntKind} {v : Value} {rs : List (List Value)} {L : List Nat} {w0 : World} {i : Int} (l : Nat) (ho : o.op = .slice t x (some y) none none) (ht : sliceB P t s = true) (hx : ev f x = some v) (hy : ev f y = some (.int K i)) (hi : i = (l : Int)) (hr : RdF s L w0 v rs) (hk : l ≤ rs.length) (hw : wantF ops o f = some true := by rfl) : DR P ops o N f w fun u W => w = W ∧ RdZ s L w0 u (rs.drop l) W := fun a ha => by
  subst hi
  obtain ⟨h0, hl, ad, cap, rfl, h2, h3, h4, h5⟩ := hr
  have htl : (rs.drop l).length = rs.length - l := List.length_drop
  cases ad with
  | none =>
    have hc := h4 rfl
    subst hc
    have e1 : rs.length = 0 := by omega
    have e2 := List.length_eq_zero_iff.1 e1
    subst e2
    have e3 : l = 0 := by simpa using hk
    subst e3
    exact Does.mono (dx_slN ho ht hx hy hw a ha) fun u W ⟨q1, q2⟩ => ⟨q2.symm, by rw [q1]; exact RdF.nil h0⟩
  | some b =>
    obtain ⟨B, o0, sp⟩ := b
    have hgo : DV P ops o N f w (.slice (some (if cap = l then ⟨B, o0, sp⟩ else if l * s = 0 then ⟨B, o0, sp⟩ else ⟨B, o0 + l * s, none⟩)) (rs.length - l) (cap - l)) := fun a ha => by
      obtain ⟨e, hu, hs⟩ := of_sliceB ht
      have hx := ha.ev hx
      have hy := ha.ev hy
      cases hi : P.info? e with
      | none => rw [hi] at hs; cases hs
      | some q =>
        have hq : q.size = s := by simpa [hi] using hs
        refine Does.pure (wantF_of ha hw) _ ?_ ⟨rfl, rfl⟩
        have h1 : ((l : Int) ≤ (rs.length : Int)) := by omega
        have h2' : ((rs.length : Int) ≤ (cap : Int)) := by omega
        have h3 : (0 : Int) ≤ (l : Int) := by omega
        unfold execOp
        simp only [ho, Option.map_none, Option.map_some, hx, hy, Instr.sliceAt, Sem.run_bind, run_underlying hu, Result.andThen_ok, Instr.slice, Instr.sliceBounds, Instr.sliceBound, asIntOf, Sem.run_pure, sizeOf, typeInfo, run_program, hi]
        simp [h1, h2', h3, hq, addr_at, Addr.add, hk]
        split
        · rfl
        · rfl
    refine Does.mono (hgo a ha) fun u W ⟨q1, q2⟩ => ⟨q2.symm, ?_⟩
    rw [q1]
    refine ⟨h0, fun r hr => hl r (List.mem_of_mem_drop hr), _, cap - l, by rw [htl], by omega, by omega, (fun h => by cases h), fun hne => ?_⟩
    have hlt : l < rs.length := by
      rcases Nat.lt_or_ge l rs.length with h | h
      · exact h
      · exact absurd (List.drop_eq_nil_of_le h) hne
    obtain ⟨X, o2, e, hX, hc⟩ := h5 (fun e => hne (by rw [e, List.drop_nil]))
    cases e
    refine ⟨_, o0 + l * s, ?_, hX, ?_⟩
    · rw [if_neg (by omega)]
      split
      · rename_i hz
        rw [hz]
        rfl
      · rfl
    · have := range_part hc (l * s) (rs.flatten.length)
      rw [List.take_of_length_le (by rw [List.length_drop]; omega), flat_drop l hl] at this
      exact this
end
end Go.Proofs.YthefddclefimoaaGreatDoor
namespace Go.Proofs.YthefddclefimoaaGreatDoor
open Go.RowKit
set_option linter.unusedVariables false
set_option linter.unusedSimpArgs false
set_option maxRecDepth 8000

theorem NewS.toW {s base : Nat} {rs : List (List Value)} {u : Value} {w : World} (h : NewS s base rs u w) : NewW s base rs u w := by
  rcases h with h | ⟨B, sp, h1, rfl, h3, h4⟩
  · exact .inl h
  · exact .inr ⟨B, h1, h3.own⟩
theorem tkl {xs : List UserX} {k : Nat} (h : k ≤ xs.length) : ((xs.map encU).take k).length = k := by rw [List.length_take, List.length_map]; omega
theorem tkoc {L : List Nat} {w : World} {xs : List UserX} (h : AgU L w xs) (k : Nat) : ∀ r ∈ (xs.map encU).take k, ∀ u ∈ r, u.oneCell' = true := fun r hr => h.oc r (List.mem_of_mem_take hr)
theorem dpoc {L : List Nat} {w : World} {xs : List UserX} (h : AgU L w xs) (k : Nat) : ∀ r ∈ (xs.map encU).drop k, ∀ u ∈ r, u.oneCell' = true := fun r hr => h.oc r (List.mem_of_mem_drop hr)
theorem dpl {xs : List UserX} {k : Nat} : ((xs.map encU).drop k).length = xs.length - k := by rw [List.length_drop, List.length_map]
set_option maxHeartbeats 1000000 in
theorem refLogout_v (xs : List UserX) (tok : ByteArray) (sv : Value) (w : World) (L : List Nat) (hL : LL L w) (h1 : RdF 3 L w sv (xs.map encU)) (h2 : AgU L w xs)  (hz : SzU xs) : CV Tryz.prog 12 [sv, .string tok] w fun v W => ∃ s2, v = .tuple #[s2, .int .i64 (findU xs tok).2] ∧ RdF 3 L W s2 ((logU xs tok).map encU) ∧ AgU L W (logU xs tok) := by
  refine cv_enter (N := 27) (f := [(0, sv), (1, .string tok)]) Tryz.func12 rfl rfl rfl rfl fun Q hQ hE => ?_
  have hB := Below.refl w.heap.size w
  have h1m : xs.length ≤ maxLen := by have := h1.len; rwa [List.length_map] at this
  unfold maxLen at h1m
  refine WC.seq fun K1 hK1 => ?_
  refine WC.region ?_
  refine WL.val (dx_assign rfl rfl) rfl rfl ?_
  refine WL.val (dx_assign rfl rfl) rfl rfl ?_
  refine WL.nil ?_
  refine hK1 ?_
  refine WC.seq fun K2 hK2 => ?_
  refine WC.seq fun K3 hK3 => ?_
  refine WC.region ?_
  refine WL.val (dx_move rfl rfl) rfl rfl ?_
  refine WL.get (dx_cv rfl Tryz.func17 rfl rfl rfl (refRight_v xs _ w _ hL h1 h2 hz)) rfl rfl ?_
  rintro _ W5 ⟨rfl, b4⟩
  replace h1 := h1.below b4
  replace h2 := h2.below b4
  replace hB := below_then hB b4
  replace hL := LL.below hL b4
  refine WL.val (dx_not rfl rfl) rfl rfl ?_
  refine WL.nil ?_
  refine hK3 ?_
  refine WC.cond rfl (fun c6 => ?_) (fun c6 => ?_)
  ·
    replace c6 := bnot_t c6
    refine WC.seq fun K7 hK7 => ?_
    refine WC.region ?_
    refine WL.val (dx_move rfl rfl) rfl rfl ?_
    refine WL.val (dx_assign rfl rfl) rfl rfl ?_
    refine WL.val (dx_assign rfl rfl) rfl rfl ?_
    refine WL.nil ?_
    refine hK7 ?_
    refine WC.ret fun a_ ha_ => ?_
    exact hQ (cv_ret2 rfl (.tmp rfl) (.tmp rfl) (by have hf : findU xs tok = (0, 1) := find_bad (by first | assumption | exact Bool.eq_false_iff.2 (by assumption)); have hr : logU xs tok = xs := (by unfold logU; rw [hf, if_neg (by decide)]); rw [hr, hf]; exact ⟨_, rfl, (h1.less (fun x hx => hx)), (h2.less (fun x hx => hx))⟩) hB ha_)
  ·
    replace c6 := bnot_f c6
    refine WC.skip ?_
    refine hK2 ?_
    refine WC.seq fun K8 hK8 => ?_
    refine WC.region ?_
    refine WL.val (dx_move rfl rfl) rfl rfl ?_
    refine WL.val (dx_move rfl rfl) rfl rfl ?_
    refine WL.get (dx_cv rfl Tryz.func46 rfl rfl rfl (place_v xs tok _ W5 _ hL h1 h2)) rfl rfl ?_
    rintro _ W10 ⟨rfl, b9⟩
    replace h1 := h1.below b9
    replace h2 := h2.below b9
    replace hB := below_then hB b9
    replace hL := LL.below hL b9
    refine WL.val (dx_assign rfl rfl) rfl rfl ?_
    refine WL.nil ?_
    refine hK8 ?_
    refine WC.seq fun K11 hK11 => ?_
    refine WC.seq fun K12 hK12 => ?_
    refine WC.region ?_
    refine WL.val (dx_move rfl rfl) rfl rfl ?_
    refine WL.val (dx_lss rfl rfl rfl) rfl rfl ?_
    refine WL.nil ?_
    refine hK12 ?_
    refine WC.cond rfl (fun c13 => ?_) (fun c13 => ?_)
    ·
      replace c13 := of_decide_eq_true c13
      refine WC.seq fun K14 hK14 => ?_
      refine WC.region ?_
      refine WL.val (dx_move rfl rfl) rfl rfl ?_
      refine WL.val (dx_assign rfl rfl) rfl rfl ?_
      refine WL.val (dx_assign rfl rfl) rfl rfl ?_
      refine WL.nil ?_
      refine hK14 ?_
      refine WC.ret fun a_ ha_ => ?_
      exact hQ (cv_ret2 rfl (.tmp rfl) (.tmp rfl) (by have hf : findU xs tok = (0, 14) := find_not (by assumption) (by assumption); have hr : logU xs tok = xs := (by unfold logU; rw [hf, if_neg (by decide)]); rw [hr, hf]; exact ⟨_, rfl, (h1.less (fun x hx => hx)), (h2.less (fun x hx => hx))⟩) hB ha_)
    ·
      replace c13 := of_decide_eq_false c13
      refine WC.skip ?_
      refine hK11 ?_
      refine WC.seq fun K15 hK15 => ?_
      have hf0 := find_plc (xs := xs) (tok := tok) (by assumption) (by assumption)
      obtain ⟨hr0, k0, u0, hk0, hu0, ht0, hn0⟩ := findU_ok (xs := xs) (tok := tok) (by rw [hf0])
      rw [hf0] at hk0
      replace hk0 : plcU xs tok = (k0 : Nat) := hk0
      have hl0 := (List.getElem?_eq_some_iff.1 hu0).1
      have hrl := right_len hr0
      have zh1 := h1
      have zh2 := h2
      have zhB := hB
      have zhL := hL
      refine WC.drawM 9 [(some 17, .by fun u W => NewE 3 W10.heap.size u W), (some 18, .is (sv)), (some 19, .is (.int .i64 (plcU xs tok))), (some 20, .by fun u W => RdZ 3 L W10 u ((xs.map encU).take k0) W), (some 21, .by fun u W => NewS 3 W10.heap.size ((xs.map encU).take k0) u W), (some 22, .is (sv)), (some 23, .is (.int .i64 (plcU xs tok))), (some 24, .is (.int .i64 ((plcU xs tok) + 1))), (some 25, .by fun u W => RdZ 3 L W10 u ((xs.map encU).drop (k0 + 1)) W)] [[], [], [], [1, 2], [0, 3], [], [], [6], [5, 7]] (by kernel_rfl) (by kernel_rfl) (by kernel_rfl) (by kernel_rfl) (by kernel_rfl) (by kernel_rfl) (by kernel_rfl) ⟨fun _ _ _ hb h => h.below hb, fun _ _ _ hb h => h.below hb, fun _ _ _ hb h => h.below hb, fun _ _ _ hb h => h.below hb, trivial⟩ ?_ ?_
      ·
        refine DSteps.cons (fun Wd hd => ?_) ?_
        ·
          exact (dx_lit0E rfl ty_ap_22 (by decide)).mono (fun v W' h => ⟨h.1, h.2.le hd.size⟩)
        refine DSteps.cons (fun Wd hd => ?_) ?_
        ·
          exact DV.dr (dx_move rfl rfl) ⟨Below.refl _ _, rfl⟩
        refine DSteps.cons (fun Wd hd => ?_) ?_
        ·
          exact DV.dr (dx_move rfl rfl) ⟨Below.refl _ _, rfl⟩
        refine DSteps.cons (fun Wd hd => ?_) ?_
        ·
          exact ((dx_rdH k0 rfl ty_slice_22 rfl rfl hk0 zh1 (by rw [List.length_map]; omega))).mono (fun v W' h => ⟨by rw [← h.1]; exact Below.refl _ _, h.2⟩)
        refine DSteps.cons (fun Wd hd => ?_) ?_
        ·
          intro u6_0 p6_0 u6_3 p6_3
          exact (dx_apN (base := W10.heap.size) rfl ty_ap_22 rfl rfl p6_0 ((show RdF 3 L W10 u6_3 _ from p6_3).below hd) (tkoc zh2 _) (by rw [tkl (Nat.le_of_lt hl0)]; unfold maxLen; omega) (by rw [tkl (Nat.le_of_lt hl0)]; omega) hd.size).mono (fun v W' h => ⟨h.1, h.2⟩)
        refine DSteps.cons (fun Wd hd => ?_) ?_
        ·
          exact DV.dr (dx_move rfl rfl) ⟨Below.refl _ _, rfl⟩
        refine DSteps.cons (fun Wd hd => ?_) ?_
        ·
          exact DV.dr (dx_move rfl rfl) ⟨Below.refl _ _, rfl⟩
        refine DSteps.cons (fun Wd hd => ?_) ?_
        ·
          exact DV.dr (dx_add (r := (plcU xs tok) + 1) rfl rfl rfl (wrap64_id (by omega))) ⟨Below.refl _ _, rfl⟩
        refine DSteps.cons (fun Wd hd => ?_) ?_
        ·
          exact ((dx_rdL (k0 + 1) rfl ty_slice_22 rfl rfl (by omega) zh1 (by rw [List.length_map]; omega))).mono (fun v W' h => ⟨by rw [← h.1]; exact Below.refl _ _, h.2⟩)
        exact trivial
      ·
        intro W16 b17
        intro _ _
        intro u6_3 p6_3
        intro u6_4 p6_4
        intro u6_8 p6_8
        replace h1 := h1.below b17
        replace h2 := h2.below b17
        replace hB := below_then hB b17
        replace hL := LL.below hL b17
        refine WL.get (dx_apW (base := W10.heap.size) rfl ty_ap_22 rfl rfl p6_4.toW ((show RdF 3 L W10 u6_8 _ from p6_8).below b17) (dpoc zh2 _) (by rw [tkl (Nat.le_of_lt hl0), dpl]; unfold maxLen; omega) (by rw [tkl (Nat.le_of_lt hl0), dpl]; omega) b17.size) rfl rfl ?_
        rintro x18 W19 ⟨hN, b20⟩
        have b21 := b17.trans b20
        replace h1 := zh1.below b21
        replace h2 := zh2.below b21
        replace hB := below_then zhB b21
        replace hL := LL.below zhL b21
        refine WL.val (dx_assign rfl rfl) rfl rfl ?_
        refine WL.val (dx_assign rfl rfl) rfl rfl ?_
        refine WL.nil ?_
        refine hK15 ?_
        refine WC.ret fun a_ ha_ => ?_
        exact hQ (cv_ret2 rfl (.tmp rfl) (.tmp rfl) (by have hr : logU xs tok = xs.take k0 ++ xs.drop (k0 + 1) := (by unfold logU; rw [hf0, if_pos rfl, hk0, Int.toNat_natCast]); rw [hr, show (findU xs tok).2 = 0 by rw [hf0]]; rw [log_rows] at hN; exact ⟨_, rfl, hN.rd (fun x hx => zhL x hx), h2.del _⟩) hB ha_)

theorem any_plc {xs : List UserX} {tok : ByteArray} : xs.any (tokP tok) = decide (0 ≤ plcU xs tok) := by
  cases h : xs.any (tokP tok) with
  | true =>
    obtain ⟨a, ha, hp⟩ := List.any_eq_true.1 h
    refine (decide_eq_true ?_).symm
    rcases Int.lt_or_le (plcU xs tok) 0 with hl | hl
    · have := idxX_no xs 0 (by omega) hl a ha
      rw [hp] at this
      cases this
    · exact hl
  | false =>
    refine (decide_eq_false fun hl => ?_).symm
    obtain ⟨k, a, h1, h2, h3, h4⟩ := idxX_is (p := tokP tok) xs 0 (by omega) hl
    exact absurd (List.any_eq_true.2 ⟨a, List.mem_of_getElem? h2, h3⟩) (by rw [h]; decide)
theorem reg_at {xs : List UserX} {tok : ByteArray} {n : Nat} (hn : n ≤ xs.length) (hno : xs.any (tokP tok) = false) (hv : ∀ k a, k < n → xs[k]? = some a → sless a.1 tok = true) (he : n = xs.length ∨ ∃ a, xs[n]? = some a ∧ sless a.1 tok = false) : regAt xs tok = n := by
  have hne : ∀ a ∈ xs, a.1 ≠ tok := fun a ha e => by
    have := List.any_eq_false.1 hno a ha
    exact this (decide_eq_true e)
  have hg : ∀ a ∈ xs, gtP tok a = !sless a.1 tok := fun a ha => by
    unfold gtP
    rw [decide_eq_false (hne a ha), Bool.or_false]
  unfold regAt
  split
  · rename_i hl
    have hall := idxX_no (p := gtP tok) xs 0 (by omega) hl
    rcases he with he | ⟨a, h1, h2⟩
    · exact he.symm
    · have h3 := List.mem_of_getElem? h1
      have := hall a h3
      rw [hg a h3, h2] at this
      cases this
  · rename_i hl
    obtain ⟨k, a, h1, h2, h3, h4⟩ := idxX_is (p := gtP tok) xs 0 (by omega) (by omega)
    rw [h1]
    have e0 : ((0 : Int) + (k : Nat)).toNat = k := by omega
    rw [e0]
    have hk := (List.getElem?_eq_some_iff.1 h2).1
    rcases Nat.lt_trichotomy k n with h | h | h
    · have h5 := hv k a h h2
      rw [hg a (List.mem_of_getElem? h2), h5] at h3
      cases h3
    · exact h
    · rcases he with he | ⟨b, h5, h6⟩
      · omega
      · have := h4 n b h h5
        rw [hg b (List.mem_of_getElem? h5), h6] at this
        cases this
set_option maxHeartbeats 1000000 in
theorem refRegister_v (xs : List UserX) (tok mx : ByteArray) (sv : Value) (w : World) (L : List Nat) (hL : LL L w) (h1 : RdF 3 L w sv (xs.map encU)) (h2 : AgU L w xs)  (hz : SzU xs) (htk : tok.size ≤ 140737488355328) : CV Tryz.prog 10 [sv, .string tok, .string mx] w fun v W => ∃ s2, v = .tuple #[s2, .int .i64 (regE xs tok mx)] ∧ RdF 3 L W s2 ((regU xs tok mx).map encU) ∧ AgU L W (regU xs tok mx) := by
  refine cv_enter (N := 64) (f := [(0, sv), (1, .string tok), (2, .string mx)]) Tryz.func10 rfl rfl rfl rfl fun Q hQ hE => ?_
  have hB := Below.refl w.heap.size w
  have h1m : xs.length ≤ maxLen := by have := h1.len; rwa [List.length_map] at this
  unfold maxLen at h1m
  refine WC.seq fun K1 hK1 => ?_
  refine WC.region ?_
  refine WL.val (dx_assign rfl rfl) rfl rfl ?_
  refine WL.val (dx_assign rfl rfl) rfl rfl ?_
  refine WL.nil ?_
  refine hK1 ?_
  refine WC.seq fun K2 hK2 => ?_
  refine WC.block ?_
  refine WC.seq fun K3 hK3 => ?_
  refine WC.region ?_
  refine WL.val (dx_move rfl rfl) rfl rfl ?_
  refine WL.get (dx_cv rfl Tryz.func17 rfl rfl rfl (refRight_v xs _ w _ hL h1 h2 hz)) rfl rfl ?_
  rintro _ W5 ⟨rfl, b4⟩
  replace h1 := h1.below b4
  replace h2 := h2.below b4
  replace hB := below_then hB b4
  replace hL := LL.below hL b4
  refine WL.val (dx_not rfl rfl) rfl rfl ?_
  refine WL.val (dx_move rfl rfl) rfl rfl ?_
  refine WL.split 13 rfl (fun g6 => ?_) (fun g6 => ?_)
  ·
    replace g6 := bnot_t g6
    refine WL.off rfl rfl rfl ?_
    refine WL.off rfl rfl rfl ?_
    refine WL.off rfl rfl rfl ?_
    refine WL.val (dx_pick rfl rfl rfl) rfl rfl ?_
    refine WL.val (dx_move rfl rfl) rfl rfl ?_
    refine WL.off rfl rfl rfl ?_
    refine WL.off rfl rfl rfl ?_
    refine WL.off rfl rfl rfl ?_
    refine WL.val (dx_pick rfl rfl rfl) rfl rfl ?_
    refine WL.val (dx_assign rfl rfl) rfl rfl ?_
    refine WL.nil ?_
    refine hK3 ?_
    refine WC.condT rfl ?_
    refine WC.seq fun K7 hK7 => ?_
    refine WC.region ?_
    refine WL.val (dx_move rfl rfl) rfl rfl ?_
    refine WL.val (dx_assign rfl rfl) rfl rfl ?_
    refine WL.val (dx_assign rfl rfl) rfl rfl ?_
    refine WL.nil ?_
    refine hK7 ?_
    refine WC.ret fun a_ ha_ => ?_
    exact hQ (cv_ret2 rfl (.tmp rfl) (.tmp rfl) (by have he : regE xs tok mx = 1 := (by unfold regE; rw [if_neg (fun hc => by obtain ⟨q1, q2, q3⟩ := hc; simp_all)]); have hr : regU xs tok mx = xs := (by unfold regU; rw [if_neg (by rw [he]; decide)]); rw [he, hr]; exact ⟨_, rfl, (h1.less (fun x hx => hx)), (h2.less (fun x hx => hx))⟩) hB ha_)
  ·
    replace g6 := bnot_f g6
    refine WL.val (dx_move rfl rfl) rfl rfl ?_
    refine WL.get (dx_cv rfl Tryz.func44 rfl rfl rfl (secret_v tok W5 [] (LL.nil _) (by assumption))) rfl rfl ?_
    rintro _ W9 ⟨rfl, b8⟩
    replace h1 := h1.below b8
    replace h2 := h2.below b8
    replace hB := below_then hB b8
    replace hL := LL.below hL b8
    refine WL.val (dx_not rfl rfl) rfl rfl ?_
    refine WL.val (dx_pick rfl rfl rfl) rfl rfl ?_
    refine WL.val (dx_move rfl rfl) rfl rfl ?_
    refine WL.split 18 rfl (fun g10 => ?_) (fun g10 => ?_)
    ·
      replace g10 := bnot_t g10
      refine WL.off rfl rfl rfl ?_
      refine WL.off rfl rfl rfl ?_
      refine WL.off rfl rfl rfl ?_
      refine WL.val (dx_pick rfl rfl rfl) rfl rfl ?_
      refine WL.val (dx_assign rfl rfl) rfl rfl ?_
      refine WL.nil ?_
      refine hK3 ?_
      refine WC.condT rfl ?_
      refine WC.seq fun K11 hK11 => ?_
      refine WC.region ?_
      refine WL.val (dx_move rfl rfl) rfl rfl ?_
      refine WL.val (dx_assign rfl rfl) rfl rfl ?_
      refine WL.val (dx_assign rfl rfl) rfl rfl ?_
      refine WL.nil ?_
      refine hK11 ?_
      refine WC.ret fun a_ ha_ => ?_
      exact hQ (cv_ret2 rfl (.tmp rfl) (.tmp rfl) (by have he : regE xs tok mx = 1 := (by unfold regE; rw [if_neg (fun hc => by obtain ⟨q1, q2, q3⟩ := hc; simp_all)]); have hr : regU xs tok mx = xs := (by unfold regU; rw [if_neg (by rw [he]; decide)]); rw [he, hr]; exact ⟨_, rfl, (h1.less (fun x hx => hx)), (h2.less (fun x hx => hx))⟩) hB ha_)
    ·
      replace g10 := bnot_f g10
      refine WL.val (dx_move rfl rfl) rfl rfl ?_
      refine WL.get (dx_cv rfl Tryz.func45 rfl rfl rfl (refUser_v mx W9)) rfl rfl ?_
      rintro _ W13 ⟨rfl, b12⟩
      replace h1 := h1.below b12
      replace h2 := h2.below b12
      replace hB := below_then hB b12
      replace hL := LL.below hL b12
      refine WL.val (dx_not rfl rfl) rfl rfl ?_
      refine WL.val (dx_pick rfl rfl rfl) rfl rfl ?_
      refine WL.val (dx_assign rfl rfl) rfl rfl ?_
      refine WL.nil ?_
      refine hK3 ?_
      refine WC.cond rfl (fun c14 => ?_) (fun c14 => ?_)
      ·
        replace c14 := bnot_t c14
        refine WC.seq fun K15 hK15 => ?_
        refine WC.region ?_
        refine WL.val (dx_move rfl rfl) rfl rfl ?_
        refine WL.val (dx_assign rfl rfl) rfl rfl ?_
        refine WL.val (dx_assign rfl rfl) rfl rfl ?_
        refine WL.nil ?_
        refine hK15 ?_
        refine WC.ret fun a_ ha_ => ?_
        exact hQ (cv_ret2 rfl (.tmp rfl) (.tmp rfl) (by have he : regE xs tok mx = 1 := (by unfold regE; rw [if_neg (fun hc => by obtain ⟨q1, q2, q3⟩ := hc; simp_all)]); have hr : regU xs tok mx = xs := (by unfold regU; rw [if_neg (by rw [he]; decide)]); rw [he, hr]; exact ⟨_, rfl, (h1.less (fun x hx => hx)), (h2.less (fun x hx => hx))⟩) hB ha_)
      ·
        replace c14 := bnot_f c14
        refine WC.seq fun K16 hK16 => ?_
        refine WC.region ?_
        refine WL.val (dx_move rfl rfl) rfl rfl ?_
        refine WL.val (dx_move rfl rfl) rfl rfl ?_
        refine WL.get (dx_cv rfl Tryz.func46 rfl rfl rfl (place_v xs tok _ W13 _ hL h1 h2)) rfl rfl ?_
        rintro _ W18 ⟨rfl, b17⟩
        replace h1 := h1.below b17
        replace h2 := h2.below b17
        replace hB := below_then hB b17
        replace hL := LL.below hL b17
        refine WL.val (dx_geq rfl rfl rfl) rfl rfl ?_
        refine WL.val (dx_assign rfl rfl) rfl rfl ?_
        refine WL.nil ?_
        refine hK16 ?_
        refine WC.cond rfl (fun c19 => ?_) (fun c19 => ?_)
        ·
          replace c19 := of_decide_eq_true c19
          refine WC.seq fun K20 hK20 => ?_
          refine WC.region ?_
          refine WL.val (dx_move rfl rfl) rfl rfl ?_
          refine WL.val (dx_assign rfl rfl) rfl rfl ?_
          refine WL.val (dx_assign rfl rfl) rfl rfl ?_
          refine WL.nil ?_
          refine hK20 ?_
          refine WC.ret fun a_ ha_ => ?_
          exact hQ (cv_ret2 rfl (.tmp rfl) (.tmp rfl) (by have he : regE xs tok mx = 6 := (by unfold regE; rw [if_pos ⟨by assumption, by assumption, by assumption⟩, any_plc]; simp [*]); have hr : regU xs tok mx = xs := (by unfold regU; rw [if_neg (by rw [he]; decide)]); rw [he, hr]; exact ⟨_, rfl, (h1.less (fun x hx => hx)), (h2.less (fun x hx => hx))⟩) hB ha_)
        ·
          replace c19 := of_decide_eq_false c19
          refine WC.seq fun K21 hK21 => ?_
          refine WC.region ?_
          refine WL.val (dx_move rfl rfl) rfl rfl ?_
          refine WL.val (dx_lenX rfl ty_slice_22 rfl h1) rfl rfl ?_
          refine WL.val (dx_eql rfl rfl rfl) rfl rfl ?_
          refine WL.val (dx_assign rfl rfl) rfl rfl ?_
          refine WL.nil ?_
          refine hK21 ?_
          refine WC.cond rfl (fun c22 => ?_) (fun c22 => ?_)
          ·
            replace c22 := of_decide_eq_true c22
            refine WC.seq fun K23 hK23 => ?_
            refine WC.region ?_
            refine WL.val (dx_move rfl rfl) rfl rfl ?_
            refine WL.val (dx_assign rfl rfl) rfl rfl ?_
            refine WL.val (dx_assign rfl rfl) rfl rfl ?_
            refine WL.nil ?_
            refine hK23 ?_
            refine WC.ret fun a_ ha_ => ?_
            exact hQ (cv_ret2 rfl (.tmp rfl) (.tmp rfl) (by have he : regE xs tok mx = 10 := (by unfold regE; rw [if_pos ⟨by assumption, by assumption, by assumption⟩, any_plc]; simp [*]); have hr : regU xs tok mx = xs := (by unfold regU; rw [if_neg (by rw [he]; decide)]); rw [he, hr]; exact ⟨_, rfl, (h1.less (fun x hx => hx)), (h2.less (fun x hx => hx))⟩) hB ha_)
          ·
            replace c22 := of_decide_eq_false c22
            refine WC.skip ?_
            refine hK2 ?_
            refine WC.seq fun K24 hK24 => ?_
            refine WC.region ?_
            refine WL.val (dx_assign rfl rfl) rfl rfl ?_
            refine WL.nil ?_
            refine hK24 ?_
            refine WC.seq fun K25 hK25 => ?_
            refine WC.block ?_
            refine WC.loop (fun (ia : Nat) => [(0, sv), (1, .string tok), (2, .string mx), (6, .slice none 0 0), (7, .int .i64 0), (8, .int .i64 (ia : Int))]) (fun (ia : Nat) W => ia ≤ xs.length ∧ (∀ k a, k < ia → xs[k]? = some a → (fun a : UserX => sless a.1 tok) a = true) ∧ Below w.heap.size w W ∧ LL (L) W ∧ RdF 3 (L) W sv (xs.map encU) ∧ AgU (L) W xs) (fun (ia : Nat) => xs.length - ia) 0 (by repeat first | exact trivial | exact And.intro rfl trivial | refine And.intro rfl ?_ | refine And.intro (congrArg (fun z : Int => some (Value.int .i64 z)) (by omega)) ?_) ⟨Nat.zero_le _, (fun k a hk => by omega), hB, hL, h1, h2⟩ ?_
            clear h1 h2 hB hL
            rintro K26 ia W27 ⟨hi, hv, hB, hL, h1, h2⟩ hK26
            refine WC.seq fun K28 hK28 => ?_
            refine WC.seq fun K29 hK29 => ?_
            refine WC.region ?_
            refine WL.val (dx_move rfl rfl) rfl rfl ?_
            refine WL.val (dx_move rfl rfl) rfl rfl ?_
            refine WL.val (dx_lenX rfl ty_slice_22 rfl h1) rfl rfl ?_
            refine WL.val (dx_lss rfl rfl rfl) rfl rfl ?_
            refine WL.val (dx_move rfl rfl) rfl rfl ?_
            refine WL.split 39 rfl (fun g30 => ?_) (fun g30 => ?_)
            ·
              replace g30 := of_decide_eq_true g30
              refine WL.val (dx_move rfl rfl) rfl rfl ?_
              refine WL.val (dx_move rfl rfl) rfl rfl ?_
              obtain ⟨r31, e32⟩ : ∃ x, xs[ia]? = some x := ⟨_, List.getElem?_eq_getElem (by omega)⟩
              refine WL.get (dx_idxF ia rfl ty_slice_22 rfl rfl h1 (by omega) (at_mapX e32)) rfl rfl ?_
              rintro u33 _ ⟨rfl, p34⟩
              refine WL.get (dx_fldP 1 rfl ty_fld_54_0_0 rfl p34 (cs' := [.string r31.1]) rfl (Nat.succ_pos _)) rfl rfl ?_
              rintro u35 _ ⟨rfl, p36⟩
              refine WL.val (dx_loadP rfl ty_one_9 rfl p36) rfl rfl ?_
              refine WL.val (dx_move rfl rfl) rfl rfl ?_
              refine WL.val (dx_lssT rfl rfl rfl) rfl rfl ?_
              refine WL.val (dx_pick rfl rfl rfl) rfl rfl ?_
              refine WL.nil ?_
              refine hK29 ?_
              refine WC.cond rfl (fun c37 => ?_) (fun c37 => ?_)
              ·
                refine WC.skip ?_
                refine hK28 ?_
                refine WC.block ?_
                refine WC.region ?_
                refine WL.val (dx_move rfl rfl) rfl rfl ?_
                refine WL.val (dx_add (r := (ia : Int) + 1) rfl rfl rfl (wrap64_id (by omega))) rfl rfl ?_
                refine WL.val (dx_assign rfl rfl) rfl rfl ?_
                refine WL.nil ?_
                exact hK26 (ia + 1) ⟨(by omega), (good_step (g := fun a : UserX => sless a.1 tok) hv e32 (by first | assumption | simp [*])), hB, hL, h1, h2⟩ (by omega) (by repeat first | exact trivial | exact And.intro rfl trivial | refine And.intro rfl ?_ | refine And.intro (congrArg (fun z : Int => some (Value.int .i64 z)) (by omega)) ?_)
              ·
                refine WC.exit ?_
                refine hK25 ?_
                refine WC.seq fun K38 hK38 => ?_
                have zh1 := h1
                have zh2 := h2
                have zhB := hB
                have zhL := hL
                have hrl := right_len (show rightU xs = true by assumption)
                have hno : xs.any (tokP tok) = false := (by rw [any_plc]; exact decide_eq_false (by assumption))
                have hra : regAt xs tok = ia := reg_at hi hno hv (.inr ⟨_, e32, by first | assumption | simp [*]⟩)
                refine WC.drawW 13 9 (KeepR 3 W27.heap.size (max ia 1)) [(some 50, .by fun u W => NewE 3 W27.heap.size u W), (some 51, .is (sv)), (some 52, .is (.int .i64 (ia : Int))), (some 53, .by fun u W => RdZ 3 L W27 u ((xs.map encU).take ia) W), (some 54, .by fun u W => NewS 3 W27.heap.size ((xs.map encU).take ia) u W), (some 55, .is (.string tok)), (some 56, .is (.string mx)), (some 57, .is (.agg #[.string tok, .string mx, .slice none 0 0])), (some 58, .by fun u W => NewS 3 W27.heap.size [encU (newU tok mx)] u W), (some 59, .by fun u W => NewW 3 W27.heap.size ((xs.map encU).take ia ++ [encU (newU tok mx)]) u W), (some 60, .is (sv)), (some 61, .is (.int .i64 (ia : Int))), (some 62, .by fun u W => RdZ 3 L W27 u ((xs.map encU).drop ia) W)] [[], [], [], [1, 2], [0, 3], [], [], [5, 6], [7], [4, 8, 4], [], [], [10, 11]] (by kernel_rfl) (by kernel_rfl) (by kernel_rfl) (by kernel_rfl) (by kernel_rfl) (by kernel_rfl) (by kernel_rfl) ⟨fun _ _ _ hb h => h.below hb, fun _ _ _ hb h => h.below hb, fun _ _ _ hb h => h.below hb, fun _ _ _ hb h => h.below hb, fun _ _ _ hb h => h.below hb, fun _ _ _ hb h => h.below hb, trivial⟩ ⟨fun _ _ _ hk h => h.keep hk, fun _ _ _ hk h => h.keep hk, fun _ _ _ hk h => h.keep hk (by first | (rw [tkl hi]; omega) | (simp; omega)), fun _ _ _ hk h => h.keep hk (by first | (rw [tkl hi]; omega) | (simp; omega)), fun _ _ _ hk h => h.keep hk, trivial⟩ (fun _ _ hb h => h.base hb.size hb) ?_ ?_
                ·
                  refine DStepsW.cons (by decide) (fun Wd hd => ?_) ?_
                  ·
                    exact (dx_lit0E rfl ty_ap_22 (by decide)).mono (fun v W' h => ⟨h.1, h.2.le hd.size⟩)
                  refine DStepsW.cons (by decide) (fun Wd hd => ?_) ?_
                  ·
                    exact DV.dr (dx_move rfl rfl) ⟨Below.refl _ _, rfl⟩
                  refine DStepsW.cons (by decide) (fun Wd hd => ?_) ?_
                  ·
                    exact DV.dr (dx_move rfl rfl) ⟨Below.refl _ _, rfl⟩
                  refine DStepsW.cons (by decide) (fun Wd hd => ?_) ?_
                  ·
                    exact ((dx_rdH ia rfl ty_slice_22 rfl rfl rfl zh1 (by rw [List.length_map]; exact hi))).mono (fun v W' h => ⟨by rw [← h.1]; exact Below.refl _ _, h.2⟩)
                  refine DStepsW.cons (by decide) (fun Wd hd => ?_) ?_
                  ·
                    intro u10_0 p10_0 u10_3 p10_3
                    exact (dx_apN (base := W27.heap.size) rfl ty_ap_22 rfl rfl p10_0 ((show RdF 3 L W27 u10_3 _ from p10_3).below hd) (tkoc zh2 _) (by rw [tkl hi]; unfold maxLen; omega) (by rw [tkl hi]; omega) hd.size).mono (fun v W' h => ⟨h.1, h.2⟩)
                  refine DStepsW.cons (by decide) (fun Wd hd => ?_) ?_
                  ·
                    exact DV.dr (dx_move rfl rfl) ⟨Below.refl _ _, rfl⟩
                  refine DStepsW.cons (by decide) (fun Wd hd => ?_) ?_
                  ·
                    exact DV.dr (dx_move rfl rfl) ⟨Below.refl _ _, rfl⟩
                  refine DStepsW.cons (by decide) (fun Wd hd => ?_) ?_
                  ·
                    exact DV.dr (dx_build rfl rfl (built_of_O (cs := [.string tok, .string mx, .slice none 0 0]) (by kernel_rfl) (oc_cons rfl (oc_cons rfl oc_nil)))) ⟨Below.refl _ _, rfl⟩
                  refine DStepsW.cons (by decide) (fun Wd hd => ?_) ?_
                  ·
                    exact (dx_lit1 (r := encU (newU tok mx)) rfl ty_ap_22 (by decide) (by decide) rfl rfl rfl).mono (fun v W' h => ⟨h.2.1, NewS.of_own h.1 hd.size (by simp)⟩)
                  refine DStepsW.hit (fun Wd hd => ?_) ?_
                  ·
                    intro u10_4 p10_4 u10_8 p10_8 u10_4 p10_4
                    exact (dx_apR (n := max ia 1) rfl ty_ap_22 rfl rfl p10_4 (p10_8.rd (L := []) (by simp)) (oc_cons rfl (oc_cons rfl (oc_cons rfl oc_nil))) (by rw [tkl hi]; unfold maxLen; omega) (by rw [tkl hi]; omega) hd.size (by rw [tkl hi]; omega) (by rw [tkl hi]; omega)).mono (fun v W' h => ⟨h.1, h.2⟩)
                  refine DStepsW.cons (by decide) (fun Wd hd => ?_) ?_
                  ·
                    exact DV.dr (dx_move rfl rfl) ⟨Below.refl _ _, rfl⟩
                  refine DStepsW.cons (by decide) (fun Wd hd => ?_) ?_
                  ·
                    exact DV.dr (dx_move rfl rfl) ⟨Below.refl _ _, rfl⟩
                  refine DStepsW.cons (by decide) (fun Wd hd => ?_) ?_
                  ·
                    exact ((dx_rdL ia rfl ty_slice_22 rfl rfl rfl zh1 (by rw [List.length_map]; exact hi))).mono (fun v W' h => ⟨by rw [← h.1]; exact Below.refl _ _, h.2⟩)
                  exact trivial
                ·
                  intro W39 b40
                  intro _ _
                  intro u10_3 p10_3
                  intro u10_4 p10_4
                  intro u10_8 p10_8
                  intro u10_9 p10_9
                  intro u10_12 p10_12
                  replace h1 := h1.below b40
                  replace h2 := h2.below b40
                  replace hB := below_then hB b40
                  replace hL := LL.below hL b40
                  refine WL.get (dx_apW (base := W27.heap.size) rfl ty_ap_22 rfl rfl p10_9 ((show RdF 3 L W27 u10_12 _ from p10_12).below b40) (dpoc zh2 _) (by rw [List.length_append, tkl hi, dpl, show [encU (newU tok mx)].length = 1 from rfl]; unfold maxLen; omega) (by rw [List.length_append, tkl hi, dpl, show [encU (newU tok mx)].length = 1 from rfl]; omega) b40.size) rfl rfl ?_
                  rintro x41 W42 ⟨hN, b43⟩
                  have b44 := b40.trans b43
                  replace h1 := zh1.below b44
                  replace h2 := zh2.below b44
                  replace hB := below_then zhB b44
                  replace hL := LL.below zhL b44
                  refine WL.val (dx_assign rfl rfl) rfl rfl ?_
                  refine WL.val (dx_assign rfl rfl) rfl rfl ?_
                  refine WL.nil ?_
                  refine hK38 ?_
                  refine WC.ret fun a_ ha_ => ?_
                  exact hQ (cv_ret2 rfl (.tmp rfl) (.tmp rfl) (by have he : regE xs tok mx = 0 := (by unfold regE; rw [if_pos ⟨by assumption, by assumption, by assumption⟩, if_neg (by rw [hno]; decide), if_neg (by omega)]); have hr : regU xs tok mx = xs.take ia ++ (newU tok mx :: xs.drop ia) := (by unfold regU; rw [if_pos he, hra]); rw [he, hr, ← reg_rows]; rw [List.append_assoc] at hN; exact ⟨_, rfl, hN.rd (fun x hx => zhL x hx), h2.reg tok mx _⟩) hB ha_)
            ·
              replace g30 := of_decide_eq_false g30
              refine WL.off rfl rfl rfl ?_
              refine WL.off rfl rfl rfl ?_
              refine WL.off rfl rfl rfl ?_
              refine WL.off rfl rfl rfl ?_
              refine WL.off rfl rfl rfl ?_
              refine WL.off rfl rfl rfl ?_
              refine WL.off rfl rfl rfl ?_
              refine WL.val (dx_pick rfl rfl rfl) rfl rfl ?_
              refine WL.nil ?_
              refine hK29 ?_
              refine WC.condF rfl ?_
              refine WC.exit ?_
              refine hK25 ?_
              refine WC.seq fun K45 hK45 => ?_
              have zh1 := h1
              have zh2 := h2
              have zhB := hB
              have zhL := hL
              have hrl := right_len (show rightU xs = true by assumption)
              have hno : xs.any (tokP tok) = false := (by rw [any_plc]; exact decide_eq_false (by assumption))
              have hra : regAt xs tok = ia := reg_at hi hno hv (.inl (by omega))
              refine WC.drawW 13 9 (KeepR 3 W27.heap.size (max ia 1)) [(some 50, .by fun u W => NewE 3 W27.heap.size u W), (some 51, .is (sv)), (some 52, .is (.int .i64 (ia : Int))), (some 53, .by fun u W => RdZ 3 L W27 u ((xs.map encU).take ia) W), (some 54, .by fun u W => NewS 3 W27.heap.size ((xs.map encU).take ia) u W), (some 55, .is (.string tok)), (some 56, .is (.string mx)), (some 57, .is (.agg #[.string tok, .string mx, .slice none 0 0])), (some 58, .by fun u W => NewS 3 W27.heap.size [encU (newU tok mx)] u W), (some 59, .by fun u W => NewW 3 W27.heap.size ((xs.map encU).take ia ++ [encU (newU tok mx)]) u W), (some 60, .is (sv)), (some 61, .is (.int .i64 (ia : Int))), (some 62, .by fun u W => RdZ 3 L W27 u ((xs.map encU).drop ia) W)] [[], [], [], [1, 2], [0, 3], [], [], [5, 6], [7], [4, 8, 4], [], [], [10, 11]] (by kernel_rfl) (by kernel_rfl) (by kernel_rfl) (by kernel_rfl) (by kernel_rfl) (by kernel_rfl) (by kernel_rfl) ⟨fun _ _ _ hb h => h.below hb, fun _ _ _ hb h => h.below hb, fun _ _ _ hb h => h.below hb, fun _ _ _ hb h => h.below hb, fun _ _ _ hb h => h.below hb, fun _ _ _ hb h => h.below hb, trivial⟩ ⟨fun _ _ _ hk h => h.keep hk, fun _ _ _ hk h => h.keep hk, fun _ _ _ hk h => h.keep hk (by first | (rw [tkl hi]; omega) | (simp; omega)), fun _ _ _ hk h => h.keep hk (by first | (rw [tkl hi]; omega) | (simp; omega)), fun _ _ _ hk h => h.keep hk, trivial⟩ (fun _ _ hb h => h.base hb.size hb) ?_ ?_
              ·
                refine DStepsW.cons (by decide) (fun Wd hd => ?_) ?_
                ·
                  exact (dx_lit0E rfl ty_ap_22 (by decide)).mono (fun v W' h => ⟨h.1, h.2.le hd.size⟩)
                refine DStepsW.cons (by decide) (fun Wd hd => ?_) ?_
                ·
                  exact DV.dr (dx_move rfl rfl) ⟨Below.refl _ _, rfl⟩
                refine DStepsW.cons (by decide) (fun Wd hd => ?_) ?_
                ·
                  exact DV.dr (dx_move rfl rfl) ⟨Below.refl _ _, rfl⟩
                refine DStepsW.cons (by decide) (fun Wd hd => ?_) ?_
                ·
                  exact ((dx_rdH ia rfl ty_slice_22 rfl rfl rfl zh1 (by rw [List.length_map]; exact hi))).mono (fun v W' h => ⟨by rw [← h.1]; exact Below.refl _ _, h.2⟩)
                refine DStepsW.cons (by decide) (fun Wd hd => ?_) ?_
                ·
                  intro u10_0 p10_0 u10_3 p10_3
                  exact (dx_apN (base := W27.heap.size) rfl ty_ap_22 rfl rfl p10_0 ((show RdF 3 L W27 u10_3 _ from p10_3).below hd) (tkoc zh2 _) (by rw [tkl hi]; unfold maxLen; omega) (by rw [tkl hi]; omega) hd.size).mono (fun v W' h => ⟨h.1, h.2⟩)
                refine DStepsW.cons (by decide) (fun Wd hd => ?_) ?_
                ·
                  exact DV.dr (dx_move rfl rfl) ⟨Below.refl _ _, rfl⟩
                refine DStepsW.cons (by decide) (fun Wd hd => ?_) ?_
                ·
                  exact DV.dr (dx_move rfl rfl) ⟨Below.refl _ _, rfl⟩
                refine DStepsW.cons (by decide) (fun Wd hd => ?_) ?_
                ·
                  exact DV.dr (dx_build rfl rfl (built_of_O (cs := [.string tok, .string mx, .slice none 0 0]) (by kernel_rfl) (oc_cons rfl (oc_cons rfl oc_nil)))) ⟨Below.refl _ _, rfl⟩
                refine DStepsW.cons (by decide) (fun Wd hd => ?_) ?_
                ·
                  exact (dx_lit1 (r := encU (newU tok mx)) rfl ty_ap_22 (by decide) (by decide) rfl rfl rfl).mono (fun v W' h => ⟨h.2.1, NewS.of_own h.1 hd.size (by simp)⟩)
                refine DStepsW.hit (fun Wd hd => ?_) ?_
                ·
                  intro u10_4 p10_4 u10_8 p10_8 u10_4 p10_4
                  exact (dx_apR (n := max ia 1) rfl ty_ap_22 rfl rfl p10_4 (p10_8.rd (L := []) (by simp)) (oc_cons rfl (oc_cons rfl (oc_cons rfl oc_nil))) (by rw [tkl hi]; unfold maxLen; omega) (by rw [tkl hi]; omega) hd.size (by rw [tkl hi]; omega) (by rw [tkl hi]; omega)).mono (fun v W' h => ⟨h.1, h.2⟩)
                refine DStepsW.cons (by decide) (fun Wd hd => ?_) ?_
                ·
                  exact DV.dr (dx_move rfl rfl) ⟨Below.refl _ _, rfl⟩
                refine DStepsW.cons (by decide) (fun Wd hd => ?_) ?_
                ·
                  exact DV.dr (dx_move rfl rfl) ⟨Below.refl _ _, rfl⟩
                refine DStepsW.cons (by decide) (fun Wd hd => ?_) ?_
                ·
                  exact ((dx_rdL ia rfl ty_slice_22 rfl rfl rfl zh1 (by rw [List.length_map]; exact hi))).mono (fun v W' h => ⟨by rw [← h.1]; exact Below.refl _ _, h.2⟩)
                exact trivial
              ·
                intro W46 b47
                intro _ _
                intro u10_3 p10_3
                intro u10_4 p10_4
                intro u10_8 p10_8
                intro u10_9 p10_9
                intro u10_12 p10_12
                replace h1 := h1.below b47
                replace h2 := h2.below b47
                replace hB := below_then hB b47
                replace hL := LL.below hL b47
                refine WL.get (dx_apW (base := W27.heap.size) rfl ty_ap_22 rfl rfl p10_9 ((show RdF 3 L W27 u10_12 _ from p10_12).below b47) (dpoc zh2 _) (by rw [List.length_append, tkl hi, dpl, show [encU (newU tok mx)].length = 1 from rfl]; unfold maxLen; omega) (by rw [List.length_append, tkl hi, dpl, show [encU (newU tok mx)].length = 1 from rfl]; omega) b47.size) rfl rfl ?_
                rintro x48 W49 ⟨hN, b50⟩
                have b51 := b47.trans b50
                replace h1 := zh1.below b51
                replace h2 := zh2.below b51
                replace hB := below_then zhB b51
                replace hL := LL.below zhL b51
                refine WL.val (dx_assign rfl rfl) rfl rfl ?_
                refine WL.val (dx_assign rfl rfl) rfl rfl ?_
                refine WL.nil ?_
                refine hK45 ?_
                refine WC.ret fun a_ ha_ => ?_
                exact hQ (cv_ret2 rfl (.tmp rfl) (.tmp rfl) (by have he : regE xs tok mx = 0 := (by unfold regE; rw [if_pos ⟨by assumption, by assumption, by assumption⟩, if_neg (by rw [hno]; decide), if_neg (by omega)]); have hr : regU xs tok mx = xs.take ia ++ (newU tok mx :: xs.drop ia) := (by unfold regU; rw [if_pos he, hra]); rw [he, hr, ← reg_rows]; rw [List.append_assoc] at hN; exact ⟨_, rfl, hN.rd (fun x hx => zhL x hx), h2.reg tok mx _⟩) hB ha_)

end Go.Proofs.YthefddclefimoaaGreatDoor
namespace Go.Proofs.YthefddclefimoaaGreatDoor
open Go.RowKit
set_option linter.unusedVariables false
set_option linter.unusedSimpArgs false
set_option maxRecDepth 8000

abbrev keyU (u : UserX) : ByteArray × ByteArray × List ByteArray := (u.1, u.2.1, u.2.2.2)
theorem upL_map {α β : Type} (f : α → β) (r : β → β → Bool) : ∀ l : List α, upL r (l.map f) = upL (fun a b => r (f a) (f b)) l
  | [] => rfl
  | [a] => rfl
  | a :: b :: l => by
    have ih := upL_map f r (b :: l)
    simp only [List.map_cons] at ih ⊢
    unfold upL
    rw [ih]
theorem rightL_map {α β : Type} (f : α → β) (n : Nat) (g : β → Bool) (r : β → β → Bool) (l : List α) : rightL n g r (l.map f) = rightL n (fun a => g (f a)) (fun a b => r (f a) (f b)) l := by
  unfold rightL
  rw [List.length_map, upL_map, List.all_map]
  rfl
theorem idxX_map {α β : Type} (f : α → β) (p : β → Bool) : ∀ (l : List α) (i : Int), idxX p (l.map f) i = idxX (fun a => p (f a)) l i
  | [], i => rfl
  | a :: l, i => by
    rw [List.map_cons]
    unfold idxX
    rw [idxX_map f p l]
section
variable {xs ys : List UserX} (h : KeyU ys xs) (tok mx : ByteArray)
include h
theorem right_key : rightU ys = rightU xs := by
  have e : ∀ l : List UserX, rightU l = rightL 16 (fun k : ByteArray × ByteArray × List ByteArray => wordB k.1 && (userB k.2.1 && risingB k.2.2)) (fun a b => sless a.1 b.1) (l.map keyU) := fun l => by rw [rightL_map]; rfl
  rw [e, e]
  exact congrArg _ h
theorem plc_key : idxX (tokP tok) ys 0 = idxX (tokP tok) xs 0 := by
  have e : ∀ l : List UserX, idxX (tokP tok) l 0 = idxX (fun k : ByteArray × ByteArray × List ByteArray => decide (k.1 = tok)) (l.map keyU) 0 := fun l => by rw [idxX_map]
  rw [e, e]
  exact congrArg (fun l => idxX _ l 0) h
theorem gt_key : idxX (gtP tok) ys 0 = idxX (gtP tok) xs 0 := by
  have e : ∀ l : List UserX, idxX (gtP tok) l 0 = idxX (fun k : ByteArray × ByteArray × List ByteArray => !(sless k.1 tok || decide (k.1 = tok))) (l.map keyU) 0 := fun l => by rw [idxX_map]
  rw [e, e]
  exact congrArg (fun l => idxX _ l 0) h
theorem find_key : findU ys tok = findU xs tok := by
  unfold findU
  rw [right_key h, plc_key h tok]
theorem who_key : whoU ys tok = whoU xs tok := by
  have e : ∀ k : Nat, (ys[k]?).map (·.2.1) = (xs[k]?).map (·.2.1) := fun k => by
    have := congrArg (fun l : List (ByteArray × ByteArray × List ByteArray) => (l[k]?).map (·.2.1)) h
    simpa [List.getElem?_map, Option.map_map, Function.comp_def] using this
  unfold whoU
  rw [find_key h tok, e]
theorem any_key : ys.any (tokP tok) = xs.any (tokP tok) := by
  rw [any_plc, any_plc]
  unfold plcU
  rw [plc_key h tok]
theorem regE_key : regE ys tok mx = regE xs tok mx := by
  unfold regE
  rw [right_key h, any_key h tok, h.len]
theorem regAt_key : regAt ys tok = regAt xs tok := by
  unfold regAt
  rw [gt_key h tok, h.len]
theorem KeyU.take (k : Nat) : KeyU (ys.take k) (xs.take k) := by
  unfold KeyU
  rw [List.map_take, List.map_take]
  exact congrArg _ h
theorem KeyU.drop (k : Nat) : KeyU (ys.drop k) (xs.drop k) := by
  unfold KeyU
  rw [List.map_drop, List.map_drop]
  exact congrArg _ h
theorem KeyU.app {xs' ys' : List UserX} (h' : KeyU ys' xs') : KeyU (ys ++ ys') (xs ++ xs') := by
  unfold KeyU at h h' ⊢
  rw [List.map_append, List.map_append, h, h']
theorem KeyU.cons (u : UserX) : KeyU (u :: ys) (u :: xs) := by
  unfold KeyU at h ⊢
  rw [List.map_cons, List.map_cons, h]
theorem regU_key : KeyU (regU ys tok mx) (regU xs tok mx) := by
  unfold regU
  rw [regE_key h, regAt_key h]
  split
  · exact (h.take _).app ((h.drop _).cons _)
  · exact h
theorem logU_key : KeyU (logU ys tok) (logU xs tok) := by
  unfold logU
  rw [find_key h]
  split
  · exact (h.take _).app (h.drop _)
  · exact h
end
def LnU (xs : List UserX) : Prop := ∀ u ∈ xs, u.2.2.2.length ≤ 140737488355328
set_option maxHeartbeats 1000000 in
theorem great2_v (xs : List UserX) (sv : Value) (w : World) (L : List Nat) (hL : LL L w) (h1 : RdF 3 L w sv (xs.map encU)) (h2 : AgU L w xs)  (hlw : LnU xs) : CV Tryz.prog 7 [sv] w fun v W => ∃ b : Bool, v = .bool b ∧ (b = false → xs.length ≤ 200 ∧ ∀ u ∈ xs, u.2.2.2.length ≤ 200) := by
  refine cv_enter (N := 27) (f := [(0, sv)]) Tryz.func7 rfl rfl rfl rfl fun Q hQ hE => ?_
  have hB := Below.refl w.heap.size w
  have h1m : xs.length ≤ maxLen := by have := h1.len; rwa [List.length_map] at this
  unfold maxLen at h1m
  refine WC.seq fun K1 hK1 => ?_
  refine WC.region ?_
  refine WL.val (dx_assign rfl rfl) rfl rfl ?_
  refine WL.nil ?_
  refine hK1 ?_
  refine WC.seq fun K2 hK2 => ?_
  refine WC.region ?_
  refine WL.val (dx_move rfl rfl) rfl rfl ?_
  refine WL.val (dx_lenX rfl ty_slice_22 rfl h1) rfl rfl ?_
  refine WL.val (dx_assign rfl rfl) rfl rfl ?_
  refine WL.nil ?_
  refine hK2 ?_
  refine WC.seq fun K3 hK3 => ?_
  refine WC.seq fun K4 hK4 => ?_
  refine WC.region ?_
  refine WL.val (dx_assign rfl rfl) rfl rfl ?_
  refine WL.nil ?_
  refine hK4 ?_
  refine WC.block ?_
  refine WC.loop2 (fun (i : Nat) (n : Int) => [(0, sv), (4, .int .i64 (i : Int)), (3, .int .i64 n)]) (fun (i : Nat) (n : Int) W => i ≤ xs.length ∧ (xs.length : Int) ≤ n ∧ (∀ k a, k < i → xs[k]? = some a → (a.2.2.2.length : Int) ≤ n) ∧ Below w.heap.size w W ∧ LL (L) W ∧ RdF 3 (L) W sv (xs.map encU) ∧ AgU (L) W xs) (fun (i : Nat) (n : Int) => xs.length - i) 0 (xs.length : Int) (by repeat first | exact trivial | exact And.intro rfl trivial | refine And.intro rfl ?_ | refine And.intro (congrArg (fun z : Int => some (Value.int .i64 z)) (by omega)) ?_) ⟨Nat.zero_le _, Int.le_refl _, (fun k a hk => by omega), hB, hL, h1, h2⟩ ?_
  clear h1 h2 hB hL
  rintro K5 i n W6 ⟨hi, hn1, hn2, hB, hL, h1, h2⟩ hK5
  refine WC.seq fun K7 hK7 => ?_
  refine WC.seq fun K8 hK8 => ?_
  refine WC.region ?_
  refine WL.val (dx_move rfl rfl) rfl rfl ?_
  refine WL.val (dx_move rfl rfl) rfl rfl ?_
  refine WL.val (dx_lenX rfl ty_slice_22 rfl h1) rfl rfl ?_
  refine WL.val (dx_lss rfl rfl rfl) rfl rfl ?_
  refine WL.val (dx_move rfl rfl) rfl rfl ?_
  refine WL.split 11 rfl (fun g9 => ?_) (fun g9 => ?_)
  ·
    replace g9 := of_decide_eq_true g9
    refine WL.val (dx_move rfl rfl) rfl rfl ?_
    refine WL.val (dx_leq rfl rfl rfl) rfl rfl ?_
    refine WL.val (dx_pick rfl rfl rfl) rfl rfl ?_
    refine WL.nil ?_
    refine hK8 ?_
    refine WC.cond rfl (fun c10 => ?_) (fun c10 => ?_)
    ·
      replace c10 := of_decide_eq_true c10
      refine WC.skip ?_
      refine hK7 ?_
      refine WC.seq fun K11 hK11 => ?_
      refine WC.block ?_
      refine WC.region ?_
      refine WL.val (dx_move rfl rfl) rfl rfl ?_
      refine WL.val (dx_move rfl rfl) rfl rfl ?_
      refine WL.val (dx_move rfl rfl) rfl rfl ?_
      obtain ⟨r12, e13⟩ : ∃ x, xs[i]? = some x := ⟨_, List.getElem?_eq_getElem (by omega)⟩
      refine WL.get (dx_idxF i rfl ty_slice_22 rfl rfl h1 (by omega) (at_mapX e13)) rfl rfl ?_
      rintro u14 _ ⟨rfl, p15⟩
      refine WL.get (dx_fldP 1 rfl ty_fld_54_2_2 rfl p15 (cs' := [r12.2.2.1]) rfl (Nat.succ_pos _)) rfl rfl ?_
      rintro u16 _ ⟨rfl, p17⟩
      refine WL.val (dx_loadP rfl ty_one_34 rfl p17) rfl rfl ?_
      refine WL.val (dx_lenX rfl ty_slice_34 rfl (h2 r12 (List.mem_of_getElem? e13))) rfl rfl ?_
      have hlr := hlw r12 (List.mem_of_getElem? e13)
      refine WL.val (dx_add (r := n + (r12.2.2.2.length : Int)) rfl rfl rfl (wrap64_id (by omega))) rfl rfl ?_
      refine WL.val (dx_assign rfl rfl) rfl rfl ?_
      refine WL.nil ?_
      refine hK11 ?_
      refine WC.region ?_
      refine WL.val (dx_move rfl rfl) rfl rfl ?_
      refine WL.val (dx_add (r := (i : Int) + 1) rfl rfl rfl (wrap64_id (by omega))) rfl rfl ?_
      refine WL.val (dx_assign rfl rfl) rfl rfl ?_
      refine WL.nil ?_
      exact hK5 (i + 1) (n + (r12.2.2.2.length : Int)) ⟨(by omega), (by omega), (fun k a hk ha => by rcases Nat.lt_or_ge k i with hl | hl; have := hn2 k a hl ha; omega; obtain rfl : k = i := (by omega); rw [e13] at ha; cases ha; omega), hB, hL, h1, h2⟩ (by omega) (by repeat first | exact trivial | exact And.intro rfl trivial | refine And.intro rfl ?_ | refine And.intro (congrArg (fun z : Int => some (Value.int .i64 z)) (by omega)) ?_)
    ·
      replace c10 := of_decide_eq_false c10
      refine WC.exit ?_
      refine hK3 ?_
      refine WC.seq fun K18 hK18 => ?_
      refine WC.region ?_
      refine WL.val (dx_move rfl rfl) rfl rfl ?_
      refine WL.val (dx_gtr rfl rfl rfl) rfl rfl ?_
      refine WL.val (dx_assign rfl rfl) rfl rfl ?_
      refine WL.nil ?_
      refine hK18 ?_
      refine WC.ret fun a_ ha_ => ?_
      exact hQ (cv_ret1 rfl (.tmp rfl) ⟨_, rfl, fun h => by replace h := of_decide_eq_false h; refine ⟨by omega, fun u hu => ?_⟩; obtain ⟨k, hk, rfl⟩ := List.getElem_of_mem hu; have := hn2 k _ (by omega) (List.getElem?_eq_getElem hk); omega⟩ hB ha_)
  ·
    replace g9 := of_decide_eq_false g9
    refine WL.off rfl rfl rfl ?_
    refine WL.off rfl rfl rfl ?_
    refine WL.val (dx_pick rfl rfl rfl) rfl rfl ?_
    refine WL.nil ?_
    refine hK8 ?_
    refine WC.condF rfl ?_
    refine WC.exit ?_
    refine hK3 ?_
    refine WC.seq fun K19 hK19 => ?_
    refine WC.region ?_
    refine WL.val (dx_move rfl rfl) rfl rfl ?_
    refine WL.val (dx_gtr rfl rfl rfl) rfl rfl ?_
    refine WL.val (dx_assign rfl rfl) rfl rfl ?_
    refine WL.nil ?_
    refine hK19 ?_
    refine WC.ret fun a_ ha_ => ?_
    exact hQ (cv_ret1 rfl (.tmp rfl) ⟨_, rfl, fun h => by replace h := of_decide_eq_false h; refine ⟨by omega, fun u hu => ?_⟩; obtain ⟨k, hk, rfl⟩ := List.getElem_of_mem hu; have := hn2 k _ (by omega) (List.getElem?_eq_getElem hk); omega⟩ hB ha_)

set_option maxHeartbeats 1000000 in
theorem accountUsers_v (xs : List UserX) (tok mx : ByteArray) (sv : Value) (w : World) (L : List Nat) (hL : LL L w) (h1 : RdF 3 L w sv (xs.map encU)) (h2 : AgU L w xs) (hM : MaxL L w)  (hz : SzU xs) (htk : tok.size ≤ 140737488355328) (hlw : LnU xs) : CV Tryz.prog 3 [sv, .string tok, .string mx] w fun v W => v = .bool true := by
  refine cv_enter (N := 109) (f := [(0, sv), (1, .string tok), (2, .string mx)]) Tryz.func3 rfl rfl rfl rfl fun Q hQ hE => ?_
  have hB := Below.refl w.heap.size w
  have h1m : xs.length ≤ maxLen := by have := h1.len; rwa [List.length_map] at this
  unfold maxLen at h1m
  refine WC.seq fun K1 hK1 => ?_
  refine WC.region ?_
  refine WL.val (dx_assign rfl rfl) rfl rfl ?_
  refine WL.nil ?_
  refine hK1 ?_
  refine WC.seq fun K2 hK2 => ?_
  refine WC.seq fun K3 hK3 => ?_
  refine WC.region ?_
  refine WL.get (dx_cv rfl Tryz.func6 rfl rfl rfl (alive17_v w _ hL hM)) rfl rfl ?_
  rintro _ W5 ⟨rfl, b4⟩
  replace h1 := h1.below b4
  replace h2 := h2.below b4
  replace hM := hM.below b4
  replace hB := below_then hB b4
  replace hL := LL.below hL b4
  refine WL.val (dx_not rfl rfl) rfl rfl ?_
  refine WL.nil ?_
  refine hK3 ?_
  refine WC.condF rfl ?_
  refine WC.skip ?_
  refine hK2 ?_
  refine WC.seq fun K6 hK6 => ?_
  refine WC.seq fun K7 hK7 => ?_
  refine WC.region ?_
  refine WL.val (dx_move rfl rfl) rfl rfl ?_
  refine WL.get (dx_cv rfl Tryz.func7 rfl rfl rfl (great2_v xs _ W5 _ hL h1 h2 hlw)) rfl rfl ?_
  rintro _ W10 ⟨⟨gr8, rfl, hgr⟩, b9⟩
  replace h1 := h1.below b9
  replace h2 := h2.below b9
  replace hM := hM.below b9
  replace hB := below_then hB b9
  replace hL := LL.below hL b9
  refine WL.val (dx_move rfl rfl) rfl rfl ?_
  refine WL.split 24 rfl (fun g11 => ?_) (fun g11 => ?_)
  ·
    refine WL.off rfl rfl rfl ?_
    refine WL.off rfl rfl rfl ?_
    refine WL.off rfl rfl rfl ?_
    refine WL.val (dx_pick rfl rfl rfl) rfl rfl ?_
    refine WL.nil ?_
    refine hK7 ?_
    refine WC.condT rfl ?_
    refine WC.seq fun K12 hK12 => ?_
    refine WC.region ?_
    refine WL.val (dx_assign rfl rfl) rfl rfl ?_
    refine WL.nil ?_
    refine hK12 ?_
    refine WC.ret fun a_ ha_ => ?_
    exact hQ (cv_ret1 rfl (.tmp rfl) rfl hB ha_)
  ·
    replace g11 := bvar_f g11
    refine WL.val (dx_move rfl rfl) rfl rfl ?_
    refine WL.val (dx_lenT rfl Tryz.underlying9 rfl) rfl rfl ?_
    refine WL.val (dx_gtr rfl rfl rfl) rfl rfl ?_
    refine WL.val (dx_pick rfl rfl rfl) rfl rfl ?_
    refine WL.nil ?_
    refine hK7 ?_
    refine WC.cond rfl (fun c13 => ?_) (fun c13 => ?_)
    ·
      replace c13 := of_decide_eq_true c13
      refine WC.seq fun K14 hK14 => ?_
      refine WC.region ?_
      refine WL.val (dx_assign rfl rfl) rfl rfl ?_
      refine WL.nil ?_
      refine hK14 ?_
      refine WC.ret fun a_ ha_ => ?_
      exact hQ (cv_ret1 rfl (.tmp rfl) rfl hB ha_)
    ·
      replace c13 := of_decide_eq_false c13
      refine WC.skip ?_
      refine hK6 ?_
      refine WC.seq fun K15 hK15 => ?_
      obtain ⟨hxl, hls⟩ := hgr (by first | assumption | exact Bool.eq_false_iff.2 (by assumption) | simp_all)
      refine WC.region ?_
      refine WL.val (dx_move rfl rfl) rfl rfl ?_
      refine WL.get (dx_cv rfl Tryz.func8 rfl rfl rfl (copy_v xs _ W10 _ hL h1 h2 hxl hls)) rfl rfl ?_
      rintro u16 W18 ⟨⟨ys, hkey, ky1, ky2⟩, b17⟩
      replace h1 := h1.below b17
      replace h2 := h2.below b17
      replace hM := hM.below b17
      replace hB := below_then hB b17
      replace hL := LL.below hL b17
      refine WL.val (dx_assign rfl rfl) rfl rfl ?_
      refine WL.nil ?_
      refine hK15 ?_
      refine WC.seq fun K19 hK19 => ?_
      refine WC.region ?_
      refine WL.val (dx_move rfl rfl) rfl rfl ?_
      refine WL.val (dx_move rfl rfl) rfl rfl ?_
      refine WL.val (dx_move rfl rfl) rfl rfl ?_
      refine WL.get (dx_cv rfl Tryz.func9 rfl rfl rfl ((show CV _ _ _ _ (fun v W => ∃ s2, v = .tuple #[s2, .int .i64 (regE xs tok mx)] ∧ RdF 3 (L) W s2 ((regU ys tok mx).map encU) ∧ AgU (L) W (regU ys tok mx)) from by have := register_v ys tok mx _ W18 _ hL ky1 ky2 hM; rw [regE_key hkey] at this; exact this))) rfl rfl ?_
      rintro _ W24 ⟨⟨u20, rfl, j21, j22⟩, b23⟩
      replace h1 := h1.below b23
      replace h2 := h2.below b23
      replace hM := hM.below b23
      replace ky1 := ky1.below b23
      replace ky2 := ky2.below b23
      replace hB := below_then hB b23
      replace hL := LL.below hL b23
      refine WL.val (dx_move rfl rfl) rfl rfl ?_
      refine WL.val (dx_extract rfl rfl rfl) rfl rfl ?_
      refine WL.val (dx_extract rfl rfl rfl) rfl rfl ?_
      refine WL.val (dx_assign rfl rfl) rfl rfl ?_
      refine WL.val (dx_assign rfl rfl) rfl rfl ?_
      refine WL.nil ?_
      refine hK19 ?_
      refine WC.seq fun K25 hK25 => ?_
      refine WC.region ?_
      refine WL.val (dx_move rfl rfl) rfl rfl ?_
      refine WL.val (dx_move rfl rfl) rfl rfl ?_
      refine WL.val (dx_move rfl rfl) rfl rfl ?_
      refine WL.get (dx_cv rfl Tryz.func10 rfl rfl rfl (refRegister_v xs tok mx _ W24 _ hL h1 h2 hz htk)) rfl rfl ?_
      rintro _ W30 ⟨⟨u26, rfl, j27, j28⟩, b29⟩
      replace h1 := h1.below b29
      replace h2 := h2.below b29
      replace hM := hM.below b29
      replace ky1 := ky1.below b29
      replace ky2 := ky2.below b29
      replace j21 := j21.below b29
      replace j22 := j22.below b29
      replace hB := below_then hB b29
      replace hL := LL.below hL b29
      refine WL.val (dx_move rfl rfl) rfl rfl ?_
      refine WL.val (dx_extract rfl rfl rfl) rfl rfl ?_
      refine WL.val (dx_extract rfl rfl rfl) rfl rfl ?_
      refine WL.val (dx_assign rfl rfl) rfl rfl ?_
      refine WL.val (dx_assign rfl rfl) rfl rfl ?_
      refine WL.nil ?_
      refine hK25 ?_
      refine WC.seq fun K31 hK31 => ?_
      refine WC.region ?_
      refine WL.val (dx_move rfl rfl) rfl rfl ?_
      refine WL.val (dx_move rfl rfl) rfl rfl ?_
      refine WL.get (dx_cv rfl Tryz.func11 rfl rfl rfl ((show CV _ _ _ _ (fun v W => ∃ s2, v = .tuple #[s2, .int .i64 (findU xs tok).2] ∧ RdF 3 (L) W s2 ((logU ys tok).map encU) ∧ AgU (L) W (logU ys tok)) from by have := logout_v ys tok _ W30 _ hL ky1 ky2 hM; rw [find_key hkey] at this; exact this))) rfl rfl ?_
      rintro _ W36 ⟨⟨u32, rfl, j33, j34⟩, b35⟩
      replace h1 := h1.below b35
      replace h2 := h2.below b35
      replace hM := hM.below b35
      replace ky1 := ky1.below b35
      replace ky2 := ky2.below b35
      replace j21 := j21.below b35
      replace j22 := j22.below b35
      replace j27 := j27.below b35
      replace j28 := j28.below b35
      replace hB := below_then hB b35
      replace hL := LL.below hL b35
      refine WL.val (dx_move rfl rfl) rfl rfl ?_
      refine WL.val (dx_extract rfl rfl rfl) rfl rfl ?_
      refine WL.val (dx_extract rfl rfl rfl) rfl rfl ?_
      refine WL.val (dx_assign rfl rfl) rfl rfl ?_
      refine WL.val (dx_assign rfl rfl) rfl rfl ?_
      refine WL.nil ?_
      refine hK31 ?_
      refine WC.seq fun K37 hK37 => ?_
      refine WC.region ?_
      refine WL.val (dx_move rfl rfl) rfl rfl ?_
      refine WL.val (dx_move rfl rfl) rfl rfl ?_
      refine WL.get (dx_cv rfl Tryz.func12 rfl rfl rfl (refLogout_v xs tok _ W36 _ hL h1 h2 hz)) rfl rfl ?_
      rintro _ W42 ⟨⟨u38, rfl, j39, j40⟩, b41⟩
      replace h1 := h1.below b41
      replace h2 := h2.below b41
      replace hM := hM.below b41
      replace ky1 := ky1.below b41
      replace ky2 := ky2.below b41
      replace j21 := j21.below b41
      replace j22 := j22.below b41
      replace j27 := j27.below b41
      replace j28 := j28.below b41
      replace j33 := j33.below b41
      replace j34 := j34.below b41
      replace hB := below_then hB b41
      replace hL := LL.below hL b41
      refine WL.val (dx_move rfl rfl) rfl rfl ?_
      refine WL.val (dx_extract rfl rfl rfl) rfl rfl ?_
      refine WL.val (dx_extract rfl rfl rfl) rfl rfl ?_
      refine WL.val (dx_assign rfl rfl) rfl rfl ?_
      refine WL.val (dx_assign rfl rfl) rfl rfl ?_
      refine WL.nil ?_
      refine hK37 ?_
      refine WC.seq fun K43 hK43 => ?_
      refine WC.region ?_
      refine WL.val (dx_move rfl rfl) rfl rfl ?_
      refine WL.val (dx_move rfl rfl) rfl rfl ?_
      refine WL.get (dx_cv rfl Tryz.func13 rfl rfl rfl ((show CV _ _ _ _ (fun v W => v = .tuple #[.string (whoU xs tok).1, .int .i64 (whoU xs tok).2]) from by have := whose_v ys tok _ W42 _ hL ky1 ky2 hM; rw [who_key hkey] at this; exact this))) rfl rfl ?_
      rintro _ W45 ⟨rfl, b44⟩
      replace h1 := h1.below b44
      replace h2 := h2.below b44
      replace hM := hM.below b44
      replace ky1 := ky1.below b44
      replace ky2 := ky2.below b44
      replace j21 := j21.below b44
      replace j22 := j22.below b44
      replace j27 := j27.below b44
      replace j28 := j28.below b44
      replace j33 := j33.below b44
      replace j34 := j34.below b44
      replace j39 := j39.below b44
      replace j40 := j40.below b44
      replace hB := below_then hB b44
      replace hL := LL.below hL b44
      refine WL.val (dx_move rfl rfl) rfl rfl ?_
      refine WL.val (dx_extract rfl rfl rfl) rfl rfl ?_
      refine WL.val (dx_extract rfl rfl rfl) rfl rfl ?_
      refine WL.val (dx_assign rfl rfl) rfl rfl ?_
      refine WL.val (dx_assign rfl rfl) rfl rfl ?_
      refine WL.nil ?_
      refine hK43 ?_
      refine WC.seq fun K46 hK46 => ?_
      refine WC.region ?_
      refine WL.val (dx_move rfl rfl) rfl rfl ?_
      refine WL.val (dx_move rfl rfl) rfl rfl ?_
      refine WL.get (dx_cv rfl Tryz.func14 rfl rfl rfl (refWhose_v xs tok _ W45 _ hL h1 h2 hz)) rfl rfl ?_
      rintro _ W48 ⟨rfl, b47⟩
      replace h1 := h1.below b47
      replace h2 := h2.below b47
      replace hM := hM.below b47
      replace ky1 := ky1.below b47
      replace ky2 := ky2.below b47
      replace j21 := j21.below b47
      replace j22 := j22.below b47
      replace j27 := j27.below b47
      replace j28 := j28.below b47
      replace j33 := j33.below b47
      replace j34 := j34.below b47
      replace j39 := j39.below b47
      replace j40 := j40.below b47
      replace hB := below_then hB b47
      replace hL := LL.below hL b47
      refine WL.val (dx_move rfl rfl) rfl rfl ?_
      refine WL.val (dx_extract rfl rfl rfl) rfl rfl ?_
      refine WL.val (dx_extract rfl rfl rfl) rfl rfl ?_
      refine WL.val (dx_assign rfl rfl) rfl rfl ?_
      refine WL.val (dx_assign rfl rfl) rfl rfl ?_
      refine WL.nil ?_
      refine hK46 ?_
      refine WC.seq fun K49 hK49 => ?_
      refine WC.region ?_
      refine WL.val (dx_move rfl rfl) rfl rfl ?_
      refine WL.val (dx_move rfl rfl) rfl rfl ?_
      refine WL.get (dx_cv rfl Tryz.func15 rfl rfl rfl (same_v (regU ys tok mx) (regU xs tok mx) _ _ W48 _ hL j21 j22 j27 j28 (regU_key hkey tok mx) (regU_key hkey tok mx).len)) rfl rfl ?_
      rintro _ W51 ⟨rfl, b50⟩
      replace h1 := h1.below b50
      replace h2 := h2.below b50
      replace hM := hM.below b50
      replace ky1 := ky1.below b50
      replace ky2 := ky2.below b50
      replace j21 := j21.below b50
      replace j22 := j22.below b50
      replace j27 := j27.below b50
      replace j28 := j28.below b50
      replace j33 := j33.below b50
      replace j34 := j34.below b50
      replace j39 := j39.below b50
      replace j40 := j40.below b50
      replace hB := below_then hB b50
      replace hL := LL.below hL b50
      refine WL.val (dx_move rfl rfl) rfl rfl ?_
      refine WL.val (dx_move rfl rfl) rfl rfl ?_
      refine WL.val (dx_move rfl rfl) rfl rfl ?_
      refine WL.val (dv_T (dx_eql rfl rfl rfl) rfl) rfl rfl ?_
      refine WL.val (dx_pick rfl rfl rfl) rfl rfl ?_
      refine WL.val (dx_move rfl rfl) rfl rfl ?_
      refine WL.val (dx_move rfl rfl) rfl rfl ?_
      refine WL.val (dx_move rfl rfl) rfl rfl ?_
      refine WL.get (dx_cv rfl Tryz.func15 rfl rfl rfl (same_v (logU ys tok) (logU xs tok) _ _ W51 _ hL j33 j34 j39 j40 (logU_key hkey tok) (logU_key hkey tok).len)) rfl rfl ?_
      rintro _ W53 ⟨rfl, b52⟩
      replace h1 := h1.below b52
      replace h2 := h2.below b52
      replace hM := hM.below b52
      replace ky1 := ky1.below b52
      replace ky2 := ky2.below b52
      replace j21 := j21.below b52
      replace j22 := j22.below b52
      replace j27 := j27.below b52
      replace j28 := j28.below b52
      replace j33 := j33.below b52
      replace j34 := j34.below b52
      replace j39 := j39.below b52
      replace j40 := j40.below b52
      replace hB := below_then hB b52
      replace hL := LL.below hL b52
      refine WL.val (dx_pick rfl rfl rfl) rfl rfl ?_
      refine WL.val (dx_move rfl rfl) rfl rfl ?_
      refine WL.val (dx_move rfl rfl) rfl rfl ?_
      refine WL.val (dx_move rfl rfl) rfl rfl ?_
      refine WL.val (dv_T (dx_eql rfl rfl rfl) rfl) rfl rfl ?_
      refine WL.val (dx_pick rfl rfl rfl) rfl rfl ?_
      refine WL.val (dx_move rfl rfl) rfl rfl ?_
      refine WL.val (dx_move rfl rfl) rfl rfl ?_
      refine WL.val (dx_move rfl rfl) rfl rfl ?_
      refine WL.val (dv_T (dx_eqlT rfl rfl rfl) rfl) rfl rfl ?_
      refine WL.val (dx_pick rfl rfl rfl) rfl rfl ?_
      refine WL.val (dx_move rfl rfl) rfl rfl ?_
      refine WL.val (dx_move rfl rfl) rfl rfl ?_
      refine WL.val (dx_move rfl rfl) rfl rfl ?_
      refine WL.val (dv_T (dx_eql rfl rfl rfl) rfl) rfl rfl ?_
      refine WL.val (dx_pick rfl rfl rfl) rfl rfl ?_
      refine WL.val (dx_move rfl rfl) rfl rfl ?_
      refine WL.val (dx_move rfl rfl) rfl rfl ?_
      refine WL.get (dx_cv rfl Tryz.func16 rfl rfl rfl ((show CV _ _ _ _ (fun v W => v = .bool (rightU xs)) from by have := rightU_v ys _ W53 _ hL ky1 ky2 hM; rw [right_key hkey] at this; exact this))) rfl rfl ?_
      rintro _ W55 ⟨rfl, b54⟩
      replace h1 := h1.below b54
      replace h2 := h2.below b54
      replace hM := hM.below b54
      replace ky1 := ky1.below b54
      replace ky2 := ky2.below b54
      replace j21 := j21.below b54
      replace j22 := j22.below b54
      replace j27 := j27.below b54
      replace j28 := j28.below b54
      replace j33 := j33.below b54
      replace j34 := j34.below b54
      replace j39 := j39.below b54
      replace j40 := j40.below b54
      replace hB := below_then hB b54
      replace hL := LL.below hL b54
      refine WL.val (dx_move rfl rfl) rfl rfl ?_
      refine WL.get (dx_cv rfl Tryz.func17 rfl rfl rfl (refRight_v xs _ W55 _ hL h1 h2 hz)) rfl rfl ?_
      rintro _ W57 ⟨rfl, b56⟩
      replace h1 := h1.below b56
      replace h2 := h2.below b56
      replace hM := hM.below b56
      replace ky1 := ky1.below b56
      replace ky2 := ky2.below b56
      replace j21 := j21.below b56
      replace j22 := j22.below b56
      replace j27 := j27.below b56
      replace j28 := j28.below b56
      replace j33 := j33.below b56
      replace j34 := j34.below b56
      replace j39 := j39.below b56
      replace j40 := j40.below b56
      replace hB := below_then hB b56
      replace hL := LL.below hL b56
      refine WL.val (dv_T (dx_eqB rfl Tryz.underlying4 rfl rfl) rfl) rfl rfl ?_
      refine WL.val (dx_pick rfl rfl rfl) rfl rfl ?_
      refine WL.val (dx_move rfl rfl) rfl rfl ?_
      refine WL.val (dx_move rfl rfl) rfl rfl ?_
      refine WL.val (dx_move rfl rfl) rfl rfl ?_
      refine WL.get (dx_cv rfl Tryz.func15 rfl rfl rfl (same_v ys xs _ _ W57 _ hL ky1 ky2 h1 h2 hkey hkey.len)) rfl rfl ?_
      rintro _ W59 ⟨rfl, b58⟩
      replace h1 := h1.below b58
      replace h2 := h2.below b58
      replace hM := hM.below b58
      replace ky1 := ky1.below b58
      replace ky2 := ky2.below b58
      replace j21 := j21.below b58
      replace j22 := j22.below b58
      replace j27 := j27.below b58
      replace j28 := j28.below b58
      replace j33 := j33.below b58
      replace j34 := j34.below b58
      replace j39 := j39.below b58
      replace j40 := j40.below b58
      replace hB := below_then hB b58
      replace hL := LL.below hL b58
      refine WL.val (dx_pick rfl rfl rfl) rfl rfl ?_
      refine WL.val (dx_assign rfl rfl) rfl rfl ?_
      refine WL.nil ?_
      refine hK49 ?_
      refine WC.ret fun a_ ha_ => ?_
      exact hQ (cv_ret1 rfl (.tmp rfl) rfl hB ha_)

end Go.Proofs.YthefddclefimoaaGreatDoor
namespace Go.Proofs.YthefddclefimoaaGreatDoor
open Go.ChangeShapes Go.WideShapes Go.ChangeAt Go.RowKit
set_option linter.unusedVariables false
section
variable {P : Program} {H : Type} {enc : TypeId × Value → H} {W : World} {base : Nat} {sp : Nat → Bool} {held : Bool}
theorem rd_of_sliceD {α : Type} (en : α → List Value) (good : α → DataW H → Prop) {s : Nat} (hs : 0 < s) {t e : TypeId} {fuel : Nat} {cs : List Value} {x : DataW H × List MemPlace} (ht : P.underlying t = some (.slice e)) (hce : P.cellsOf e = s) (hl : ∀ a d, good a d → (en a).length = s)
    (hel : ∀ n cs x, DataW.trod enc P W base sp held n e cs = some x → ∃ a, cs = en a ∧ good a x.1) (h : DataW.trod enc P W base sp held fuel t cs = some x) : ∃ (v : Value) (xs : List α), cs = [v] ∧ RdF s [] W v (xs.map en) ∧ ∀ a ∈ xs, ∃ es sps d, x.1 = .slice es sps ∧ d ∈ es ∧ good a d := by
  rcases DataW.trod_slice ht h with ⟨rfl, _⟩ | ⟨a, len, cap, elems, rest, n, rfl, rfl, hxe, hb, hlc, hcm, hlen, hx, _⟩
  · exact ⟨_, [], rfl, RdF.nil hs, fun a ha => by cases ha⟩
  · obtain ⟨xs, hxl, hxs⟩ := choose_list (fun i (y : α) => (∃ d, d ∈ elems ∧ good y d.1) ∧ W.cells? base (a.add (i * s)) s = some (en y)) len (fun i hi => by
      have h1 := hx i hi
      rw [hce, List.getElem?_eq_getElem (by omega)] at h1
      obtain ⟨cs', h2, h3⟩ := Option.bind_eq_some_iff.1 h1
      obtain ⟨y, rfl, hg⟩ := hel n cs' _ h3
      exact ⟨y, ⟨_, List.getElem_mem _, hg⟩, h2⟩)
    have hgood : ∀ y ∈ xs, ∃ d, d ∈ elems ∧ good y d.1 := fun y hy => by
      obtain ⟨i, hi⟩ := List.getElem?_of_mem hy
      exact (hxs i y hi).1
    have hrl : ∀ r ∈ xs.map en, r.length = s := fun r hr => by
      obtain ⟨y, hy, rfl⟩ := List.mem_map.1 hr
      obtain ⟨d, _, hd⟩ := hgood y hy
      exact hl y _ hd
    refine ⟨_, xs, rfl, ⟨hs, hrl, some a, cap, by rw [List.length_map, hxl], by rw [List.length_map, hxl]; exact hlc, hcm, (fun e => by cases e), fun hn => ?_⟩, fun a ha => by
      obtain ⟨d, h1, h2⟩ := hgood a ha
      exact ⟨_, _, d.1, by rw [hxe], List.mem_map.2 ⟨d, h1, rfl⟩, h2⟩⟩
    have cellat : ∀ i y, xs[i]? = some y → ∀ j v, (en y)[j]? = some v → W.cell? ((a.add (i * s)).add j) = some v := fun i y hi j v hj => by
      have h2 := (hxs i y hi).2
      unfold World.cells? at h2
      split at h2
      · have hj' : j < s := by have := (List.getElem?_eq_some_iff.1 hj).1; obtain ⟨d, _, hd⟩ := (hxs i y hi).1; rw [hl y _ hd] at this; exact this
        have := mapM_some_get h2 j j (by simp [hj'])
        rw [this]; exact hj
      · cases h2
    have hne : 0 < xs.length := by
      rcases Nat.eq_zero_or_pos xs.length with h0 | h0
      · exact absurd (by rw [List.length_eq_zero_iff.1 h0]; rfl) hn
      · exact h0
    have hx0 : xs[0]? = some xs[0] := List.getElem?_eq_getElem hne
    have hspot : a.spot = none := by
      have hlen0 : 0 < (en xs[0]).length := by obtain ⟨d, _, hd⟩ := (hxs 0 _ hx0).1; rw [hl _ _ hd]; exact hs
      have := cellat 0 _ hx0 0 _ (List.getElem?_eq_getElem hlen0)
      have h3 := World.cell?_spot this
      have e0 : (a.add (0 * s)).add 0 = a := by simp [Addr.add]
      rw [e0] at h3
      exact h3
    obtain ⟨b, off, spot⟩ := a
    simp only at hspot
    subst hspot
    refine ⟨b, off, rfl, by simp, range_flat _ off hrl fun i r hi => ?_⟩
    rw [List.getElem?_map] at hi
    cases hy : xs[i]? with
    | none => rw [hy] at hi; cases hi
    | some y =>
      rw [hy] at hi
      cases hi
      intro j v hj
      have := cellat i y hy j v hj
      rw [addr_at, addr_at] at this
      exact this
theorem weights_all {e : TypeId} {n : Nat} {d : DataW H} : ∀ {es : List (DataW H)}, d ∈ es → n ∈ d.weights P e → n ∈ DataW.weightsAll P e es
  | x :: l, hd, hn => by
    rw [DataW.weightsAll]
    rcases List.mem_cons.1 hd with rfl | hd
    · exact List.mem_append_left _ hn
    · exact List.mem_append_right _ (weights_all hd hn)
theorem weights_slice {t e : TypeId} {n : Nat} {d : DataW H} {es sps : List (DataW H)} (ht : P.underlying t = some (.slice e)) (hd : d ∈ es) (hn : n ∈ d.weights P e) : n ∈ (DataW.slice es sps).weights P t := by
  rw [DataW.weights, ht]
  exact List.mem_cons_of_mem _ (List.mem_append_left _ (weights_all hd hn))
end
end Go.Proofs.YthefddclefimoaaGreatDoor
namespace Go.Proofs.YthefddclefimoaaGreatDoor
open Go.ChangeShapes Go.WideShapes Go.ChangeAt Go.RowKit
set_option linter.unusedVariables false
set_option maxRecDepth 8000
section
variable {H : Type} {enc : TypeId × Value → H} {W : World} {base : Nat} {sp : Nat → Bool} {held : Bool}
theorem el_TD (n : Nat) (cs : List Value) (x : DataW H × List MemPlace) (h : DataW.trod enc Tryz.prog W base sp held n 9 cs = some x) : ∃ s : ByteArray, cs = encT s ∧ s.size ∈ x.1.weights Tryz.prog 9 := by
  obtain ⟨s, es, rfl, _⟩ := DataW.trod_string Tryz.underlying9 h
  exact ⟨s, es, by simp [DataW.weights]⟩
/-- What a slice of texts weighs. -/
theorem open_textsD {m : Nat} {cs : List Value} {x : DataW H × List MemPlace} (h : DataW.trod enc Tryz.prog W base sp held m 34 cs = some x) : ∃ (v : Value) (ts : List ByteArray), cs = [v] ∧ RdF 1 [] W v (ts.map encT) ∧ (∀ t ∈ ts, t.size ∈ x.1.weights Tryz.prog 34) ∧ (ts = [] ∨ ∃ n, n ∈ x.1.weights Tryz.prog 34 ∧ ts.length ≤ n) := by
  obtain ⟨v, ts, hv, hr, hg⟩ := rd_of_sliceD (s := 1) encT (fun t d => t.size ∈ d.weights Tryz.prog 9) (by decide) Tryz.underlying34 cT (fun _ _ _ => rfl) el_TD h
  refine ⟨v, ts, hv, hr, fun t ht => ?_, ?_⟩
  · obtain ⟨es, sps, d, h1, h2, h3⟩ := hg t ht
    rw [h1]
    exact weights_slice Tryz.underlying34 h2 h3
  · have hlv : ∃ a cap, v = .slice a ts.length cap := by
      obtain ⟨_, _, a, cap, e, _⟩ := hr
      rw [List.length_map] at e
      exact ⟨a, cap, e⟩
    obtain ⟨a, cap, ev⟩ := hlv
    rcases DataW.trod_slice Tryz.underlying34 h with ⟨q1, q2⟩ | ⟨a', len, cap', elems, rest, n, _, q1, q2, _, _, _, q3, _⟩
    · rw [hv, ev] at q1
      simp at q1
      exact .inl q1.2.1
    · rw [hv, ev] at q1
      simp at q1
      refine .inr ⟨_, by rw [q2]; simp only [DataW.weights, Tryz.underlying34]; exact .head _, ?_⟩
      rw [show Tryz.prog.bytesOf 9 = 16 by kernel_rfl, List.length_map, q3, ← q1.2.1]
      omega
theorem el_UD (n : Nat) (cs : List Value) (x : DataW H × List MemPlace) (h : DataW.trod enc Tryz.prog W base sp held n 54 cs = some x) : ∃ u : UserX, cs = encU u ∧ (RdF 1 [] W u.2.2.1 (u.2.2.2.map encT) ∧ u.1.size ∈ x.1.weights Tryz.prog 54 ∧ (∀ t ∈ u.2.2.2, t.size ∈ x.1.weights Tryz.prog 54) ∧ (u.2.2.2 = [] ∨ ∃ n, n ∈ x.1.weights Tryz.prog 54 ∧ u.2.2.2.length ≤ n)) := by
  obtain ⟨y0, y1, y2, m, rfl, hl, h0, h1, h2⟩ := Go.Deep.trod_struct3 Tryz.underlying54 h
  rw [cU] at hl
  match cs, hl with
  | [c, d, e], _ =>
    obtain ⟨a, ha, wa⟩ := el_TD m _ _ h0
    obtain ⟨b, hb, _⟩ := el_TD m _ _ h1
    obtain ⟨v, ts, hv, hr, hg, hn⟩ := open_textsD h2
    simp only [cT, cS] at ha hb hv
    simp [encT] at ha hb hv
    have hw : ∀ k, k ∈ y2.1.weights Tryz.prog 34 → k ∈ (DataW.agg [y0.1, y1.1, y2.1]).weights Tryz.prog 54 := fun k hk => by
      simp only [DataW.weights, Tryz.underlying54]
      simp only [DataW.weightsEach, List.map_cons, List.mem_append]
      exact .inr (.inr (.inl hk))
    refine ⟨(a, b, v, ts), by simp [encU, ha, hb, hv], hr, ?_, fun t ht => hw _ (hg t ht), ?_⟩
    · simp only [DataW.weights, Tryz.underlying54]
      simp only [DataW.weightsEach, List.map_cons, List.mem_append]
      exact .inl wa
    · rcases hn with hn | ⟨k, h3, h4⟩
      · exact .inl hn
      · exact .inr ⟨k, hw _ h3, h4⟩
theorem open_usersZ {r : Reach} {b0 : Nat} {v : Value} {d : DataW H} {p : List MemPlace} (hv : Value.okWide Tryz.prog W r b0 22 v) (h : DataW.Trod enc Tryz.prog W base sp held 22 v d p) (hw : ∀ n ∈ d.weights Tryz.prog 22, n ≤ reachBytes) : ∃ xs : List UserX, RdF 3 [] W v (xs.map encU) ∧ AgU [] W xs ∧ SzU xs ∧ LnU xs := by
  obtain ⟨a, len, cap, rfl⟩ := okWide_slice Tryz.underlying22 hv
  obtain ⟨fuel, hf⟩ := h
  obtain ⟨v, xs, e, r, g⟩ := rd_of_sliceD (s := 3) encU (fun u d => RdF 1 [] W u.2.2.1 (u.2.2.2.map encT) ∧ u.1.size ∈ d.weights Tryz.prog 54 ∧ (∀ t ∈ u.2.2.2, t.size ∈ d.weights Tryz.prog 54) ∧ (u.2.2.2 = [] ∨ ∃ n, n ∈ d.weights Tryz.prog 54 ∧ u.2.2.2.length ≤ n)) (by decide) Tryz.underlying22 cU (fun _ _ _ => rfl) el_UD hf
  simp [Value.cells] at e
  subst e
  have hall : ∀ u ∈ xs, ∃ d' : DataW H, (∀ k, k ∈ d'.weights Tryz.prog 54 → k ≤ 140737488355328) ∧ (RdF 1 [] W u.2.2.1 (u.2.2.2.map encT) ∧ u.1.size ∈ d'.weights Tryz.prog 54 ∧ (∀ t ∈ u.2.2.2, t.size ∈ d'.weights Tryz.prog 54) ∧ (u.2.2.2 = [] ∨ ∃ n, n ∈ d'.weights Tryz.prog 54 ∧ u.2.2.2.length ≤ n)) := fun u hu => by
    obtain ⟨es, sps, d', h1, h2, h3⟩ := g u hu
    refine ⟨d', fun k hk => ?_, h3⟩
    have := hw _ (by simp only at h1; rw [h1]; exact weights_slice Tryz.underlying22 h2 hk)
    unfold reachBytes at this
    omega
  refine ⟨xs, r, fun u hu => ?_, fun u hu => ?_, fun u hu => ?_⟩
  · obtain ⟨d', k, h1, _⟩ := hall u hu
    exact h1
  · obtain ⟨d', k, _, h1, h2, _⟩ := hall u hu
    exact ⟨k _ h1, fun t ht => k _ (h2 t ht)⟩
  · obtain ⟨d', k, _, _, _, h1⟩ := hall u hu
    rcases h1 with h1 | ⟨n, h1, h2⟩
    · rw [h1]; simp
    · have := k _ h1; omega
end
end Go.Proofs.YthefddclefimoaaGreatDoor
