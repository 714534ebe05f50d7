/- A region whose order is drawn, of which the last operations wait for all that is ahead of them: those are walked one by one. No program stands here. -/
import Derived.Test.YthefddclefimoaaDoorSxC
namespace Go.Proofs.YthefddclefimoaaDoor
open Go.RowKit
set_option linter.unusedVariables false
set_option linter.unusedSimpArgs false

theorem Oper.wp_weakenN {P : Program} {o : Oper} {a : Act} {w : World} {K : Act → World → Prop} {Q' Q : Exit → Act → World → Prop} (hq : ∀ e a w, e ≠ .normal → Q' e a w → Q e a w) (h : Oper.wp P o a w K Q') : Oper.wp P o a w K Q := by
  unfold Oper.wp at *
  generalize (execOp a.eval o).run P w = r at *
  cases r with
  | ok n w' =>
    cases n <;> simp only [Oper.upon] at h ⊢ <;>
      first
        | exact h
        | exact Calls.mono h (fun e w'' he => by
            cases e with
            | returned u => exact he
            | panicked c => exact hq _ _ _ (by simp) he
            | outgrown => obtain ⟨x, y, hxy⟩ := he; exact ⟨x, y, hq _ _ _ (by simp) hxy⟩)
  | halt x w' =>
    cases x <;> simp only [Oper.upon] at h ⊢
    case panic u => exact hq _ _ _ (by simp) h
/-- What an operation waits for, through others. -/
def reachB (md : Region.Mode) (ops : Array Oper) : Nat → Nat → Nat → Bool
  | 0, _, _ => false
  | n + 1, k, j => (depsAt md ops k).any fun a => a == j || reachB md ops n a j
/-- The first operation behind the first m waits for all of them; each other one for the one ahead of it; guards look ahead. -/
def tailB (md : Region.Mode) (ops : Array Oper) (m : Nat) : Bool :=
  (List.range ops.size).all fun k => (k < m || (if k = m then (List.range m).all fun j => reachB md ops ops.size k j else (depsAt md ops k).contains (k - 1))) && (match (ops[k]?).bind (·.guard) with | some (g, _) => decide (g < k) | none => true)
section
variable {P : Program} {ops pre : Array Oper} {md : Region.Mode} {Q : Exit → Act → World → Prop} {m : Nat}
theorem tailB_ahead (h : tailB md ops m = true) {k : Nat} (hk : k < ops.size) (hm : m < k) : k - 1 ∈ depsAt md ops k := by
  have := List.all_eq_true.1 h k (List.mem_range.2 hk)
  simp only [Bool.and_eq_true, Bool.or_eq_true, decide_eq_true_eq] at this
  rcases this.1 with h1 | h1
  · omega
  · rw [if_neg (by omega)] at h1
    simpa using h1
theorem tailB_all (h : tailB md ops m = true) (hk : m < ops.size) {j : Nat} (hj : j < m) : reachB md ops ops.size m j = true := by
  have := List.all_eq_true.1 h m (List.mem_range.2 hk)
  simp only [Bool.and_eq_true, Bool.or_eq_true, decide_eq_true_eq] at this
  rcases this.1 with h1 | h1
  · omega
  · simp only [if_true] at h1
    exact List.all_eq_true.1 h1 j (List.mem_range.2 hj)
theorem reachB_listed {p : Nat → Prop} (hcl : ∀ a, p a → ∀ b ∈ depsAt md ops a, p b) : ∀ (n k j : Nat), reachB md ops n k j = true → (∀ a ∈ depsAt md ops k, p a) → p j
  | 0, k, j, h, _ => by simp [reachB] at h
  | n + 1, k, j, h, hd => by
    unfold reachB at h
    obtain ⟨a, ha, hor⟩ := List.any_eq_true.1 h
    simp only [Bool.or_eq_true, beq_iff_eq] at hor
    rcases hor with rfl | h'
    · exact hd a ha
    · exact reachB_listed hcl n a j h' (hcl a (hd a ha))
theorem tailB_guard (h : tailB md ops m = true) {k g : Nat} {o : Oper} {b : Bool} (ho : ops[k]? = some o) (hg : o.guard = some (g, b)) : g < k := by
  have := List.all_eq_true.1 h k (List.mem_range.2 (Array.getElem?_eq_some_iff.1 ho).1)
  simp only [Bool.and_eq_true] at this
  have h2 := this.2
  rw [ho] at h2
  simp only [Option.bind_some, hg, decide_eq_true_eq] at h2
  exact h2
theorem ready_deps {k : Nat} {listed : Array Bool} (h : k ∈ Region.ready md ops listed) : ∀ j ∈ depsAt md ops k, listed.getD j false = true := by
  obtain ⟨h0, o, ho, hd⟩ := mem_ready.1 h
  intro j hj
  rw [depsAt_eq ho] at hj
  obtain ⟨e, he, rfl⟩ := List.mem_map.1 hj
  obtain ⟨he1, he2⟩ := List.mem_filter.1 he
  exact hd e (by simpa using he1) he2
theorem listed_iff {listed : Array Bool} {j : Nat} (hj : j < listed.size) : listed.getD j true = listed.getD j false := by
  simp [Array.getD_eq_getD_getElem?, Array.getElem?_eq_getElem hj]
theorem seq_tail (hb : ordB md ops = true) (ht : tailB md ops m = true) : ∀ (t k : Nat), m ≤ k → k + t = ops.size → ∀ (fuel : Nat), t ≤ fuel → ∀ (listed : Array Bool), listed.size = ops.size → (∀ j, listed.getD j false = decide (j < k)) → ∀ a w, wpOps P ops Q (List.range' k t) a w → wpAny P md ops Q fuel listed a w := by
  intro t
  induction t with
  | zero =>
    intro k hm hk fuel hf listed hsz hl a w h
    have hr : Region.ready md ops listed = [] := by
      rw [List.eq_nil_iff_forall_not_mem]
      intro j hj
      obtain ⟨h0, o, ho, _⟩ := mem_ready.1 hj
      have hjs := (Array.getElem?_eq_some_iff.1 ho).1
      rw [listed_iff (by omega), hl] at h0
      have := of_decide_eq_false h0
      omega
    cases fuel with
    | zero => exact ⟨hr, h⟩
    | succ fuel => exact ⟨fun _ => h, fun i hi => (by rw [hr] at hi; cases hi)⟩
  | succ t ih =>
    intro k hm hk fuel hf listed hsz hl a w h
    cases fuel with
    | zero => omega
    | succ fuel =>
      have hks : k < ops.size := by omega
      have hmem : k ∈ Region.ready md ops listed := by
        refine mem_ready.2 ⟨by rw [listed_iff (by omega), hl]; simp, _, Array.getElem?_eq_getElem hks, fun e he hbd => ?_⟩
        rw [hl]
        have hd := (ordB_deps hb (Array.getElem?_eq_getElem hks)).2.1
        have := hd e.on (List.mem_map.2 ⟨e, List.mem_filter.2 ⟨by simpa using he, hbd⟩, rfl⟩)
        simpa using this
      refine ⟨fun hr => (by rw [hr] at hmem; cases hmem), fun i hi => ?_⟩
      have hik : i = k := by
        obtain ⟨h0, o, ho, _⟩ := mem_ready.1 hi
        have his := (Array.getElem?_eq_some_iff.1 ho).1
        rw [listed_iff (by omega), hl] at h0
        have h1 := of_decide_eq_false h0
        rcases Nat.lt_or_ge k i with h2 | h2
        · have := ready_deps hi (i - 1) (tailB_ahead ht his (by omega))
          rw [hl] at this
          have := of_decide_eq_true this
          omega
        · omega
      subst hik
      rw [List.range'_succ, wpOps_cons] at h
      refine wpOp_mono (fun a' w' h' => ih (i + 1) (by omega) (by omega) fuel (by omega) _ (by simp [hsz]) (fun j => ?_) a' w' h') h
      by_cases e : j = i
      · subst e
        simp [Array.getD_eq_getD_getElem?, hsz, hks]
      · rw [getD_set_ne false (fun h => e h.symm), hl]
        simp only [decide_eq_decide]
        omega
def preQ (P : Program) (ops : Array Oper) (Q : Exit → Act → World → Prop) (m t : Nat) : Exit → Act → World → Prop
  | .normal, a, w => wpOps P ops Q (List.range' m t) a w
  | _, _, _ => False
theorem pre_tail (hb : ordB md ops = true) (hbp : ordB md pre = true) {suf : List Oper} (hops : ops.toList = pre.toList ++ suf) (ht : tailB md ops pre.size = true) : ∀ (fuel : Nat) (listed : Array Bool), listed.size = pre.size → (∀ j, listed.getD j false = true → ∀ k ∈ depsAt md pre j, listed.getD k false = true) → ∀ a w, wpAny P md pre (preQ P ops Q pre.size suf.length) fuel listed a w →
    wpAny P md ops Q (fuel + suf.length) (listed ++ Array.replicate suf.length false) a w := by
  have hsize : ops.size = pre.size + suf.length := by rw [← Array.length_toList, hops]; simp
  have hget : ∀ i, i < pre.size → ops[i]? = pre[i]? := fun i hi => by
    rw [← Array.getElem?_toList, hops, List.getElem?_append_left (by simpa using hi), Array.getElem?_toList]
  have hlist : ∀ (listed : Array Bool), listed.size = pre.size → ∀ j, (listed ++ Array.replicate suf.length false).getD j false = listed.getD j false := fun listed hsz j => by
    rw [Array.getD_eq_getD_getElem?, Array.getD_eq_getD_getElem?]
    rcases Nat.lt_or_ge j listed.size with h | h
    · rw [Array.getElem?_append_left h]
    · rw [Array.getElem?_append_right h, Array.getElem?_eq_none h, Array.getElem?_replicate]
      split <;> rfl
  have done : ∀ (listed : Array Bool), listed.size = pre.size → Region.ready md pre listed = [] → ∀ a w, wpOps P ops Q (List.range' pre.size suf.length) a w → ∀ fuel, suf.length ≤ fuel → wpAny P md ops Q fuel (listed ++ Array.replicate suf.length false) a w := by
    intro listed hsz hr a w h fuel hf
    have hall := all_listed hbp hsz hr
    refine seq_tail hb ht suf.length pre.size (Nat.le_refl _) hsize.symm fuel hf _ (by simp [hsz, hsize]) (fun j => ?_) a w h
    rw [hlist listed hsz]
    by_cases hj : j < pre.size
    · rw [hall j hj]; simp [hj]
    · rw [Array.getD_eq_getD_getElem?, Array.getElem?_eq_none (by omega)]
      simp [hj]
  intro fuel
  induction fuel with
  | zero =>
    intro listed hsz hcl a w h
    exact done listed hsz h.1 a w h.2 _ (by omega)
  | succ fuel ih =>
    intro listed hsz hcl a w h
    by_cases hr : Region.ready md pre listed = []
    · exact done listed hsz hr a w (h.1 hr) _ (by omega)
    · obtain ⟨i0, hi0⟩ := List.exists_mem_of_ne_nil _ hr
      have hun : ∃ j, j < pre.size ∧ listed.getD j false = false := by
        obtain ⟨h0, o, ho, _⟩ := mem_ready.1 hi0
        have hjs := (Array.getElem?_eq_some_iff.1 ho).1
        exact ⟨i0, hjs, by rw [← listed_iff (by omega)]; exact h0⟩
      have hsub : ∀ i, i ∈ Region.ready md ops (listed ++ Array.replicate suf.length false) → i < pre.size ∧ i ∈ Region.ready md pre listed := by
        intro i hi
        obtain ⟨h0, o, ho, hd⟩ := mem_ready.1 hi
        have his := (Array.getElem?_eq_some_iff.1 ho).1
        have hip : i < pre.size := by
          rcases Nat.lt_or_ge i pre.size with h | h
          · exact h
          · exfalso
            have hdeps := ready_deps hi
            simp only [hlist listed hsz] at hdeps
            have hout : ∀ j, listed.getD j false = true → j < pre.size := fun j hj => by
              rcases Nat.lt_or_ge j pre.size with h' | h'
              · exact h'
              · simp [Array.getElem?_eq_none (by omega : listed.size ≤ j)] at hj
            rcases Nat.lt_or_ge pre.size i with h' | h'
            · have := hout _ (hdeps (i - 1) (tailB_ahead ht his h'))
              omega
            · have him : i = pre.size := by omega
              subst him
              obtain ⟨j, hj, hlj⟩ := hun
              have := reachB_listed (p := fun j => listed.getD j false = true) (fun b hb' c hc => hcl b hb' c (by
                have : depsAt md pre b = depsAt md ops b := by unfold depsAt; rw [hget b (hout b hb')]
                rw [this]; exact hc)) _ _ _ (tailB_all ht his hj) hdeps
              rw [hlj] at this
              cases this
        refine ⟨hip, mem_ready.2 ⟨?_, o, by rw [← hget i hip]; exact ho, fun e he hbd => by rw [← hlist listed hsz]; exact hd e he hbd⟩⟩
        rw [listed_iff (by omega)]
        rw [listed_iff (by simp [hsz]; omega), hlist listed hsz] at h0
        exact h0
      have hsup : i0 ∈ Region.ready md ops (listed ++ Array.replicate suf.length false) := by
        obtain ⟨h0, o, ho, hd⟩ := mem_ready.1 hi0
        have hip := (Array.getElem?_eq_some_iff.1 ho).1
        refine mem_ready.2 ⟨?_, o, by rw [hget i0 hip]; exact ho, fun e he hbd => by rw [hlist listed hsz]; exact hd e he hbd⟩
        rw [listed_iff (by simp [hsz]; omega), hlist listed hsz, ← listed_iff (by omega)]
        exact h0
      rw [show fuel + 1 + suf.length = (fuel + suf.length) + 1 by omega]
      refine ⟨fun h' => (by rw [h'] at hsup; cases hsup), fun i hi => ?_⟩
      obtain ⟨hip, hir⟩ := hsub i hi
      have hw := h.2 i hir
      have hset : (listed ++ Array.replicate suf.length false).setIfInBounds i true = listed.setIfInBounds i true ++ Array.replicate suf.length false := by
        rw [Array.setIfInBounds_append, if_pos (by omega)]
      rw [hset]
      have hcl' : ∀ j, (listed.setIfInBounds i true).getD j false = true → ∀ k ∈ depsAt md pre j, (listed.setIfInBounds i true).getD k false = true := by
        have hset' : ∀ j, listed.getD j false = true → (listed.setIfInBounds i true).getD j false = true := fun j hj => by
          by_cases e : j = i
          · subst e
            simp [Array.getD_eq_getD_getElem?, hsz, hip]
          · rw [getD_set_ne false (fun h => e h.symm)]; exact hj
        intro j hj k hk
        by_cases e : j = i
        · subst e
          exact hset' k (ready_deps hir k hk)
        · rw [getD_set_ne false (fun h => e h.symm)] at hj
          exact hset' k (hcl j hj k hk)
      unfold wpOp at hw ⊢
      rw [hget i hip]
      cases ho : pre[i]? with
      | none => simp only [ho] at hw ⊢; exact ih _ (by simp [hsz]) hcl' a w hw
      | some o =>
        simp only [ho] at hw ⊢
        have hwant : Region.wanted o (yielded ops a.tmps) = Region.wanted o (yielded pre a.tmps) := by
          unfold Region.wanted
          cases hg : o.guard with
          | none => rfl
          | some p =>
            obtain ⟨g, b⟩ := p
            have hgi := tailB_guard ht (by rw [hget i hip]; exact ho) hg
            simp only
            unfold yielded
            rw [hget g (by omega)]
        rw [hwant]
        split
        · next hw1 =>
          rw [if_pos hw1] at hw
          rcases hw with hw | hw
          · refine .inl (Oper.wp_weakenN (Q' := preQ P ops Q pre.size suf.length) (fun e a w he h => by cases e <;> first | exact absurd rfl he | exact h.elim) (Oper.wp_mono (fun a' w' h' => ih _ (by simp [hsz]) hcl' a' w' h') hw))
          · obtain ⟨_, _, _, hf⟩ := hw
            exact hf.elim
        · next hw1 =>
          rw [if_neg hw1] at hw
          exact ih _ (by simp [hsz]) hcl' _ _ hw
end
section
variable {P : Program} {N : Nat} {sd : List (Option Tmp × VS)} {dl : List (List Nat)}
/-- The quiet operations ahead, in whatever order; then the others, one by one. -/
theorem WC.drawT {id : Nat} {f : Fl} {w : World} {Q : Exit → Act → World → Prop} (pre suf : List Oper) {ops : List Oper} (hops : pre ++ suf = ops) (sd : List (Option Tmp × VS)) (dl : List (List Nat)) (hm : P.follows .mixedOrders = true) (hb : ordB .any ops.toArray = true) (hbp : ordB .any pre.toArray = true) (ht : tailB .any ops.toArray pre.length = true) (hdl : pre.map (depsOf .any) = dl)
    (hds : pre.map (·.dst) = sd.map (·.1)) (hN : inN N sd = true) (hmono : VS.mono sd) (hst : DSteps P pre.toArray N w sd dl f 0 pre)
    (hend : ∀ W, Below w.heap.size w W → DEnd (fun f W => WL P ops.toArray Q N suf f W) W sd f) : WC P N (.region id ops.toArray true) Q f w := fun a ha => by
  subst hops
  have hlen : dl.length = sd.length := by rw [← hdl, List.length_map, ← List.length_map (f := (·.dst)), hds, List.length_map]
  have hpl : pre.length = dl.length := by rw [← hdl, List.length_map]
  refine wp_region_any hm ?_
  have hrep : Array.replicate (pre ++ suf).toArray.size false = Array.replicate pre.toArray.size false ++ Array.replicate suf.length false := by
    simp [Array.replicate_append_replicate]
  rw [hrep]
  have hsz : (pre ++ suf).toArray.size = pre.toArray.size + suf.length := by simp
  rw [hsz]
  refine pre_tail (pre := pre.toArray) (suf := suf) hb hbp (by simp) (by simpa using ht) pre.toArray.size _ (by simp) (fun j hj => by simp [Array.getD_eq_getD_getElem?, Array.getElem?_replicate] at hj; split at hj <;> simp_all) a w.drew ?_
  have hda : ∀ j, depsAt .any pre.toArray j = (dl[j]?).getD [] := by
    intro j
    subst hdl
    simp only [depsAt, List.getElem?_map, List.getElem?_toArray]
  have hF0 : ∀ j, (Array.replicate pre.toArray.size false).getD j false = true → False := fun j hj => by simp [Array.getD_eq_getD_getElem?, Array.getElem?_replicate] at hj; split at hj <;> simp_all
  refine wpAny_facts hbp a (fun _ W => Below w.heap.size w W) (fun j g W => okAt sd j (g j) W) (fun _ _ W W' => Below W.heap.size W W') ?_ ?_ ?_ pre.toArray.size _ (fun _ => undef) a w.drew (by simp) (by
      have := List.countP_le_length (p := fun b => !b) (l := (Array.replicate pre.toArray.size false).toList)
      simpa using this) (fun j hj => (hF0 j hj).elim) (Agrees.start fun j hj => hF0 j hj) (below_draws (Below.refl _ _) 1) (fun j hj => (hF0 j hj).elim)
  · intro i g W W' j g' hB _ h
    unfold okAt at h ⊢
    cases hs : sd[j]? with
    | none => trivial
    | some p =>
      obtain ⟨d, s⟩ := p
      rw [hs] at h
      cases s with
      | is v => exact h
      | «by» p => exact mono_at hmono hs _ W W' hB h
  · intro i o hoi L g W _ _ hG hd
    have key : ∀ (l : List Oper) (k : Nat), DSteps P pre.toArray N w sd dl f k l → ∀ j o, l[j]? = some o → ∀ W, Below w.heap.size w W → DStep P pre.toArray o N W sd (fun v W' => Below W.heap.size W W' ∧ okAt sd (k + j) v W') ((dl[k + j]?).getD []) f := by
      intro l
      induction l with
      | nil => intro k _ j o h; simp at h
      | cons x l ih =>
        intro k hs j o h
        cases j with
        | zero =>
          simp only [List.getElem?_cons_zero, Option.some.injEq] at h
          subst h
          exact hs.1
        | succ j =>
          have := ih (k + 1) hs.2 j o (by simpa using h)
          rw [show k + (j + 1) = k + 1 + j by omega]
          exact this
    have hk := key pre 0 hst i o (by simpa using hoi) W hG
    rw [Nat.zero_add] at hk
    have hdo : depsOf .any o = (dl[i]?).getD [] := by rw [← hda i, depsAt_eq hoi]
    rw [hdo] at hd ⊢
    rw [putL_eq (ds := sd.map (·.1)) (by simpa using hds)]
    have hH : HypL (fun j g w => okAt sd j (g j) w) dl g W ((dl[i]?).getD []) := HypL.of _ fun j hj => by have := hd j hj; rwa [hda j] at this
    refine (DStep.to hN _ f a hk ha hH).mono fun v W' h => ⟨h.1, hG.trans (h.1.mono hG.size), ?_⟩
    simp only [restr_self]
    rw [show upd g i v i = v by simp [upd]]
    exact h.2
  · intro L g W hL hG hd
    rw [putL_eq (ds := sd.map (·.1)) (by simpa using hds)]
    have hH : HypL (fun j g w => okAt sd j (g j) w) dl g W (List.range' 0 sd.length) := HypL.of _ fun j hj => by
      have hj' : j < pre.toArray.size := by
        simp [List.mem_range'] at hj
        simp
        omega
      have := hd j hj'
      rwa [hda j] at this
    have hfin := DEnd.to (Q := fun a W => wpList P (pre ++ suf).toArray Q suf a W) hN (fun f h a ha => h a ha) sd 0 f a (by simp) (hend W hG) ha hH
    show wpOps P (pre ++ suf).toArray Q (List.range' pre.toArray.size suf.length) _ _
    rw [wpOps_eq_wpList suf pre.toArray.size (fun j => by simp [List.getElem?_append_right])]
    rw [List.range_eq_range', show pre.toArray.size = sd.length by simp; omega]
    exact hfin
/-- The same, by the number of the quiet ones. -/
theorem WC.drawM {id : Nat} {f : Fl} {w : World} {Q : Exit → Act → World → Prop} (m : Nat) {ops : List Oper} (sd : List (Option Tmp × VS)) (dl : List (List Nat)) (hm : P.follows .mixedOrders = true) (hb : ordB .any ops.toArray = true) (hbp : ordB .any (ops.take m).toArray = true) (ht : tailB .any ops.toArray (ops.take m).length = true) (hdl : (ops.take m).map (depsOf .any) = dl)
    (hds : (ops.take m).map (·.dst) = sd.map (·.1)) (hN : inN N sd = true) (hmono : VS.mono sd) (hst : DSteps P (ops.take m).toArray N w sd dl f 0 (ops.take m))
    (hend : ∀ W, Below w.heap.size w W → DEnd (fun f W => WL P ops.toArray Q N (ops.drop m) f W) W sd f) : WC P N (.region id ops.toArray true) Q f w :=
  WC.drawT (ops.take m) (ops.drop m) (List.take_append_drop m ops) sd dl hm hb hbp ht hdl hds hN hmono hst hend
theorem DSteps.cons {ops : Array Oper} {w0 : World} {f : Fl} {k : Nat} {o : Oper} {l : List Oper} (h : ∀ W, Below w0.heap.size w0 W → DStep P ops o N W sd (fun v W' => Below W.heap.size W W' ∧ okAt sd k v W') ((dl[k]?).getD []) f) (hl : DSteps P ops N w0 sd dl f (k + 1) l) : DSteps P ops N w0 sd dl f k (o :: l) := ⟨h, hl⟩
/-- An operation that isn't wanted. -/
theorem dv_off {ops : Array Oper} {o : Oper} {f : Fl} {w : World} (hw : wantF ops o f = some false) : DV P ops o N f w undef := fun a ha => Does.off (R := fun v' w' => v' = undef ∧ w' = w) (wantF_of ha hw) ⟨rfl, rfl⟩
end
end Go.Proofs.YthefddclefimoaaDoor
