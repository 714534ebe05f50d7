/- A law of ours on regions whose order is drawn and that make several variables and store into each: each operation is shown once. No program stands here. -/
import Derived.Test.YtohnicmacmkapaaDoorOrdA
namespace Go.Proofs.YtohnicmacmkapaaDoor
open Go.RowKit
set_option linter.unusedVariables false

section
variable {P : Program} {ops : Array Oper} {md : Region.Mode}

/-- The law with one invariant of what has run, what it has yielded, and the world. -/
theorem wpAny_inv {Q : Exit → Act → World → Prop} (hb : ordB md ops = true) (a : Act) (I : (Nat → Bool) → (Nat → Value) → World → Prop)
    (hstep : ∀ i o, ops[i]? = some o → ∀ L f w, L i = false → (∀ j, i ∈ depsAt md ops j → L j = false) → (∀ j ∈ depsOf md o, L j = true) → (∀ j, L j = true → ∀ k ∈ depsAt md ops j, L k = true) → I L f w →
      Does P ops o (putDeps ops f (depsOf md o) a) w fun v w' => I (upd L i true) (upd f i v) w')
    (hend : ∀ L f w, (∀ j, L j = decide (j < ops.size)) → I L f w → Q .normal (putDeps ops f (List.range ops.size) a) w) :
    ∀ (fuel : Nat) (listed : Array Bool) (f : Nat → Value) (a' : Act) (w : World), listed.size = ops.size → (listed.toList.countP (fun b => !b) ≤ fuel) →
      (∀ j, listed.getD j false = true → ∀ k ∈ depsAt md ops j, listed.getD k false = true) →
      Agrees ops (fun j => listed.getD j false = true) f a a' → I (fun j => listed.getD j false) f w → wpAny P md ops Q fuel listed a' w := by
  have ho := ordB_own hb
  have fin : ∀ (listed : Array Bool) (f : Nat → Value) (a' : Act) (w : World), listed.size = ops.size → Region.ready md ops listed = [] →
      Agrees ops (fun j => listed.getD j false = true) f a a' → I (fun j => listed.getD j false) f w → Q .normal a' w := by
    intro listed f a' w hsz hr hag hg
    have hl := all_listed hb hsz hr
    have hout : ∀ j, listed.getD j false = true → j < ops.size := by
      intro j h
      rcases Nat.lt_or_ge j ops.size with h' | h'
      · exact h'
      · simp [Array.getElem?_eq_none (by omega : listed.size ≤ j)] at h
    have e : a' = putDeps ops f (List.range ops.size) a := by
      refine hag.unique ((Agrees.of ho f a (List.range ops.size)).congr (fun j => ?_) (fun _ _ => rfl))
      rw [List.mem_range]
      exact ⟨hl j, hout j⟩
    rw [e]
    refine hend _ f w (fun j => ?_) hg
    by_cases hj : j < ops.size
    · rw [hl j hj]; simp [hj]
    · have : ¬ listed.getD j false = true := fun h => hj (hout j h)
      rw [Bool.not_eq_true] at this
      rw [this]; simp [hj]
  intro fuel
  induction fuel with
  | zero =>
    intro listed f a' w hsz hc hcl hag hg
    have hr : Region.ready md ops listed = [] := by
      rw [List.eq_nil_iff_forall_not_mem]
      intro j hj
      obtain ⟨h0, o, hoj, _⟩ := mem_ready.1 hj
      have hjs : j < ops.size := (Array.getElem?_eq_some_iff.1 hoj).1
      have hc0 : listed.toList.countP (fun b => !b) = 0 := by omega
      rw [List.countP_eq_zero] at hc0
      have h1 := hc0 listed[j] (by simp)
      rw [Array.getD_eq_getD_getElem?, Array.getElem?_eq_getElem (by omega)] at h0
      simp only [Option.getD_some] at h0
      rw [h0] at h1
      exact h1 rfl
    exact ⟨hr, fin listed f a' w hsz hr hag hg⟩
  | succ fuel ih =>
    intro listed f a' w hsz hc hcl hag hg
    refine ⟨fun hr => fin listed f a' w hsz hr hag hg, fun i hi => ?_⟩
    obtain ⟨h0, o, hoi, hdep⟩ := mem_ready.1 hi
    have his : i < ops.size := (Array.getElem?_eq_some_iff.1 hoi).1
    obtain ⟨hsel, hlt, hlook⟩ := ordB_deps hb hoi
    have hdl : ∀ j ∈ depsOf md o, listed.getD j false = true := by
      intro j hj
      obtain ⟨e, he, rfl⟩ := List.mem_map.1 hj
      obtain ⟨he1, he2⟩ := List.mem_filter.1 he
      exact hdep e (by simpa using he1) he2
    have hun : ¬ listed.getD i false = true := by
      intro h
      rw [Array.getD_eq_getD_getElem?, Array.getElem?_eq_getElem (by omega)] at h0 h
      simp only [Option.getD_some] at h0 h
      rw [h0] at h
      cases h
    have hA := Agrees.of ho f a (depsOf md o)
    have hdst : o.dst = dstAt ops i := by simp [dstAt, hoi]
    have hset : ∀ j, (listed.setIfInBounds i true).getD j false = upd (fun j => listed.getD j false) i true j := by
      intro j
      unfold upd
      by_cases e : j = i
      · subst e
        simp [Array.getD_eq_getD_getElem?, hsz, his]
      · rw [getD_set_ne false (fun h => e h.symm), if_neg e]
    refine Does.wpOp hoi hsel (a := putDeps ops f (depsOf md o) a) (by rw [hag.size, hA.size]) (fun t ht => ?_)
      (hstep i o hoi (fun j => listed.getD j false) f w (by simpa using hun) (fun j hj => by
        rw [← Bool.not_eq_true]
        exact fun h => hun (hcl j h i hj)) hdl hcl hg) fun v w' hR => ?_
    · by_cases hts : t < a.tmps.size
      · by_cases e : ∃ j, dstAt ops j = some t
        · obtain ⟨j, hd⟩ := e
          have hj' : j < ops.size := by
            rcases Nat.lt_or_ge j ops.size with h | h
            · exact h
            · simp [dstAt, Array.getElem?_eq_none h] at hd
          have hl := hlook j t hj' hd
          by_cases hjd : j ∈ depsOf md o
          · rw [hag.put j t (hdl j hjd) hd hts, hA.put j t hjd hd hts]
          · have hjl : ¬ listed.getD j false = true := by
              intro hjl
              rcases hl.1 ht with h | h | h
              · exact hun (h ▸ hjl)
              · exact hjd h
              · exact hun (hcl j hjl i h)
            rw [hag.same t (fun k hk hkd => hjl (ho k j t hkd hd ▸ hk)), hA.same t (fun k hk hkd => hjd (ho k j t hkd hd ▸ hk))]
        · have hn : ∀ j, dstAt ops j ≠ some t := fun j hj => e ⟨j, hj⟩
          rw [hag.same t (fun j _ => hn j), hA.same t (fun j _ => hn j)]
      · rw [Array.getElem?_eq_none (by rw [hag.size]; exact Nat.le_of_not_lt hts), Array.getElem?_eq_none (by rw [hA.size]; exact Nat.le_of_not_lt hts)]
    · have hset' : ∀ j, (listed.setIfInBounds i true).getD j false = true ↔ (j = i ∨ listed.getD j false = true) := by
        intro j
        rw [hset j]
        unfold upd
        by_cases e : j = i <;> simp [e]
      rw [hdst]
      refine ih (listed.setIfInBounds i true) (upd f i v) _ w' (by simp [hsz]) ?_ ?_ ?_ (by rw [show (fun j => (listed.setIfInBounds i true).getD j false) = upd (fun j => listed.getD j false) i true from funext hset]; exact hR)
      · have hc2 : (listed.setIfInBounds i true).toList.countP (fun b => !b) + 1 ≤ listed.toList.countP (fun b => !b) := by
          rw [Array.toList_setIfInBounds]
          have hlen : i < listed.toList.length := by simpa [hsz] using his
          have hli : listed.toList[i] = false := by
            rw [Array.getD_eq_getD_getElem?, Array.getElem?_eq_getElem (by omega)] at h0
            simpa using h0
          rw [List.countP_set hlen, hli]
          have : 0 < listed.toList.countP (fun b => !b) := List.countP_pos_iff.2 ⟨false, by rw [← hli]; exact List.getElem_mem _, rfl⟩
          simp only [Bool.not_false, Bool.not_true, if_true, Bool.false_eq_true, if_false]
          omega
        omega
      · intro j hj k hk
        rw [hset'] at hj ⊢
        rcases hj with rfl | hj
        · rw [depsAt_eq hoi] at hk
          exact .inr (hdl k hk)
        · exact .inr (hcl j hj k hk)
      · exact hag.step ho i v hset' (fun j hji _ => by simp [upd, hji]) (by simp [upd])

/-- A variable that the region makes (operation ka) and stores v into (operation ks). -/
structure NItem where
  ka : Nat
  ks : Nat
  K : IntKind
  n : Nat
  v : List Int
/-- What holds of the variables that were made. -/
def NewE (base : Nat) (items : List NItem) (L : Nat → Bool) (f : Nat → Value) (w : World) : Prop :=
  ∃ loc : Nat → Nat, (∀ it ∈ items, L it.ka = true → f it.ka = .pointer (some ⟨loc it.ka, 0, none⟩) ∧ base ≤ loc it.ka ∧ Arr it.K w (loc it.ka) (if L it.ks then it.v else List.replicate it.n 0)) ∧
    (∀ it ∈ items, ∀ it' ∈ items, L it.ka = true → L it'.ka = true → it.ka ≠ it'.ka → loc it.ka ≠ loc it'.ka)
inductive NKind where
  | plain
  | alloc (it : NItem)
  | store (it : NItem)
def nkind (items : List NItem) (k : Nat) : NKind :=
  match items.find? (fun it => it.ka == k) with
  | some it => .alloc it
  | none => match items.find? (fun it => it.ks == k) with
    | some it => .store it
    | none => .plain
/-- No two have one operation; a store waits for the variable's making. -/
def itemsB (dl : List (List Nat)) (items : List NItem) : Bool :=
  items.all fun it => items.all (fun it' => it.ka != it'.ks && (it.ka != it'.ka || (it.ks == it'.ks)) && (it.ks != it'.ks || it.ka == it'.ka)) && ((dl[it.ks]?).getD []).contains it.ka
def ItemsOne (items : List NItem) : Prop := ∀ it ∈ items, ∀ it' ∈ items, it.ka = it'.ka → it = it'
variable {ds : List (Option Tmp)} {dl : List (List Nat)} {G : World → Prop} {F : Facts} {base : Nat} {items : List NItem} {a : Act}
theorem NewE.start {L : Nat → Bool} {f : Nat → Value} {w : World} (h : ∀ j, L j = false) : NewE base items L f w :=
  ⟨fun _ => 0, fun it _ (hl : L it.ka = true) => absurd hl (by rw [h]; decide), fun it _ it' _ (hl : L it.ka = true) => absurd hl (by rw [h]; decide)⟩
theorem NewE.below {L : Nat → Bool} {f : Nat → Value} {w w' : World} (h : NewE base items L f w) (hb : Below w.heap.size w w') : NewE base items L f w' := by
  obtain ⟨loc, h1, h2⟩ := h
  exact ⟨loc, fun it hi hl => ⟨(h1 it hi hl).1, (h1 it hi hl).2.1, (h1 it hi hl).2.2.below hb⟩, h2⟩
theorem NewE.plain {L : Nat → Bool} {f : Nat → Value} {w : World} {k : Nat} {v : Value} (h : NewE base items L f w) (hk : ∀ it ∈ items, it.ka ≠ k ∧ it.ks ≠ k) : NewE base items (upd L k true) (upd f k v) w := by
  obtain ⟨loc, h1, h2⟩ := h
  refine ⟨loc, fun it hi hl => ?_, fun it hi it' hi' hl hl' => ?_⟩
  · have e := hk it hi
    simp only [upd, if_neg e.1, if_neg e.2] at hl ⊢
    exact h1 it hi hl
  · have e := hk it hi
    have e' := hk it' hi'
    simp only [upd, if_neg e.1, if_neg e'.1] at hl hl'
    exact h2 it hi it' hi' hl hl'
theorem NewE.alloc {L : Nat → Bool} {f : Nat → Value} {w w' : World} {it : NItem} (hone : ItemsOne items) (hok : itemsB dl items = true) (hi : it ∈ items) (hks : L it.ks = false) (hb : Below w.heap.size w w') (hbase : base ≤ w.heap.size)
    (hA : Arr it.K w' w.heap.size (List.replicate it.n 0)) (h : NewE base items L f w) : NewE base items (upd L it.ka true) (upd f it.ka (.pointer (some ⟨w.heap.size, 0, none⟩))) w' := by
  obtain ⟨loc, h1, h2⟩ := h
  refine ⟨upd loc it.ka w.heap.size, fun jt hj hl => ?_, fun jt hj jt' hj' hl hl' hne => ?_⟩
  · have hck := (List.all_eq_true.1 hok it hi)
    simp only [Bool.and_eq_true] at hck
    have hck2 := List.all_eq_true.1 hck.1 jt hj
    simp only [Bool.and_eq_true, bne_iff_ne, ne_eq, Bool.or_eq_true, beq_iff_eq] at hck2
    have hks' : jt.ks ≠ it.ka := fun e => hck2.1.1 e.symm
    by_cases e : jt.ka = it.ka
    · obtain rfl := hone jt hj it hi e
      simp only [upd, if_true, if_neg hks', hks]
      exact ⟨trivial, hbase, hA⟩
    · simp only [upd, if_neg e, if_neg hks'] at hl ⊢
      have := h1 jt hj hl
      exact ⟨this.1, this.2.1, this.2.2.below hb⟩
  · by_cases e : jt.ka = it.ka
    · have e' : jt'.ka ≠ it.ka := fun x => hne (e.trans x.symm)
      simp only [upd, e, if_true, if_neg e'] at hl' ⊢
      have := (h1 jt' hj' hl').2.2.lt
      omega
    · simp only [upd, if_neg e] at hl ⊢
      by_cases e' : jt'.ka = it.ka
      · simp only [e', if_true]
        have := (h1 jt hj hl).2.2.lt
        omega
      · simp only [upd, if_neg e'] at hl' ⊢
        exact h2 jt hj jt' hj' hl hl' hne
theorem NewE.store {L : Nat → Bool} {f : Nat → Value} {w w' : World} {it : NItem} {B : Nat} {v : Value} (hone : ItemsOne items) (hok : itemsB dl items = true) (hi : it ∈ items) (hka : L it.ka = true) (hB : f it.ka = .pointer (some ⟨B, 0, none⟩))
    (hw : w' = w.setRow B (it.v.map (Value.int it.K)).toArray) (hA : Arr it.K w' B it.v) (h : NewE base items L f w) : NewE base items (upd L it.ks true) (upd f it.ks v) w' := by
  obtain ⟨loc, h1, h2⟩ := h
  have hl0 : loc it.ka = B := by
    have := (h1 it hi hka).1
    rw [hB] at this
    simpa using this.symm
  have hck := (List.all_eq_true.1 hok it hi)
  simp only [Bool.and_eq_true] at hck
  have hkk : ∀ jt ∈ items, jt.ka ≠ it.ks := fun jt hj e => by
    have h3 := (List.all_eq_true.1 hok jt hj)
    simp only [Bool.and_eq_true] at h3
    have h4 := List.all_eq_true.1 h3.1 it hi
    simp only [Bool.and_eq_true, bne_iff_ne, ne_eq] at h4
    exact h4.1.1 e
  refine ⟨loc, fun jt hj hl => ?_, fun jt hj jt' hj' hl hl' hne => ?_⟩
  · have hjk := hkk jt hj
    simp only [upd, if_neg hjk] at hl ⊢
    have h5 := h1 jt hj hl
    by_cases e : jt.ka = it.ka
    · obtain rfl := hone jt hj it hi e
      simp only [if_true]
      rw [hl0]
      exact ⟨by rw [hB], by rw [← hl0]; exact h5.2.1, hA⟩
    · have hck2 := List.all_eq_true.1 hck.1 jt hj
      simp only [Bool.and_eq_true, bne_iff_ne, ne_eq, Bool.or_eq_true, beq_iff_eq] at hck2
      have hs : jt.ks ≠ it.ks := fun x => by
        rcases hck2.2 with y | y
        · exact y x.symm
        · exact e y.symm
      simp only [if_neg hs]
      refine ⟨h5.1, h5.2.1, ?_⟩
      rw [hw]
      refine h5.2.2.rowOther ?_ _
      rw [← hl0]
      exact h2 jt hj it hi hl hka e
  · simp only [upd, if_neg (hkk jt hj), if_neg (hkk jt' hj')] at hl hl'
    exact h2 jt hj jt' hj' hl hl' hne
/-- Each operation's own step. -/
def StepN (P : Program) (ops : Array Oper) (ds : List (Option Tmp)) (dl : List (List Nat)) (a : Act) (G : World → Prop) (F : Facts) (items : List NItem) : Nat → List Oper → Prop
  | _, [] => True
  | k, o :: l => (match nkind items k with
      | .plain => ∀ f w, G w → HypL F dl f w ((dl[k]?).getD []) → Does P ops o (putL ds f ((dl[k]?).getD []) a) w fun v w' => Below w.heap.size w w' ∧ F k (restr (upd f k v) (k :: (dl[k]?).getD [])) w'
      | .alloc it => (∀ g w, F k g w) ∧ ∀ A w, Does P ops o A w fun v w' => Below w.heap.size w w' ∧ v = .pointer (some ⟨w.heap.size, 0, none⟩) ∧ Arr it.K w' w.heap.size (List.replicate it.n 0)
      | .store it => (∀ g w, F k g w) ∧ ∀ f w B, G w → HypL F dl f w ((dl[k]?).getD []) → f it.ka = .pointer (some ⟨B, 0, none⟩) → Arr it.K w B (List.replicate it.n 0) →
          Does P ops o (putL ds f ((dl[k]?).getD []) a) w fun v w' => w' = w.setRow B (it.v.map (Value.int it.K)).toArray ∧ Arr it.K w' B it.v) ∧ StepN P ops ds dl a G F items (k + 1) l
theorem StepN.at : ∀ (l : List Oper) (k : Nat), StepN P ops ds dl a G F items k l → ∀ i o, l[i]? = some o →
    (match nkind items (k + i) with
      | .plain => ∀ f w, G w → HypL F dl f w ((dl[k + i]?).getD []) → Does P ops o (putL ds f ((dl[k + i]?).getD []) a) w fun v w' => Below w.heap.size w w' ∧ F (k + i) (restr (upd f (k + i) v) ((k + i) :: (dl[k + i]?).getD [])) w'
      | .alloc it => (∀ g w, F (k + i) g w) ∧ ∀ A w, Does P ops o A w fun v w' => Below w.heap.size w w' ∧ v = .pointer (some ⟨w.heap.size, 0, none⟩) ∧ Arr it.K w' w.heap.size (List.replicate it.n 0)
      | .store it => (∀ g w, F (k + i) g w) ∧ ∀ f w B, G w → HypL F dl f w ((dl[k + i]?).getD []) → f it.ka = .pointer (some ⟨B, 0, none⟩) → Arr it.K w B (List.replicate it.n 0) →
          Does P ops o (putL ds f ((dl[k + i]?).getD []) a) w fun v w' => w' = w.setRow B (it.v.map (Value.int it.K)).toArray ∧ Arr it.K w' B it.v)
  | [], k, _, i, o, h => by simp at h
  | x :: l, k, hs, 0, o, h => by
    simp only [List.getElem?_cons_zero, Option.some.injEq] at h
    subst h
    exact hs.1
  | x :: l, k, hs, i + 1, o, h => by
    have := StepN.at l (k + 1) hs.2 i o (by simpa using h)
    rw [show k + (i + 1) = k + 1 + i by omega]
    exact this
/-- The law as it is used: of a region whose order is drawn, and that makes variables and stores into each once. -/
theorem wp_region_new {Q : Exit → Act → World → Prop} {id : Nat} {w : World} (dl : List (List Nat)) (ds : List (Option Tmp)) (base : Nat) (items : List NItem) (G : World → Prop) (F : Facts)
    (hm : P.follows .mixedOrders = true) (hb : ordB .any ops = true) (hdl : ops.toList.map (depsOf .any) = dl) (hds : ops.toList.map (·.dst) = ds) (hok : itemsB dl items = true) (hone : ItemsOne items)
    (hGB : ∀ w w', Below w.heap.size w w' → G w → G w') (hGb : ∀ w, G w → base ≤ w.heap.size) (hGS : ∀ w B cs, base ≤ B → G w → G (w.setRow B cs))
    (hFB : ∀ j g w w', F j g w → F j g w')
    (h0 : G w.drew)
    (hstep : StepN P ops ds dl a G F items 0 ops.toList)
    (hin : ∀ it ∈ items, it.ka < dl.length ∧ it.ks < dl.length)
    (hend : ∀ f w, G w → HypL F dl f w (List.range dl.length) → NewE base items (fun _ => true) f w → Q .normal (putL ds f (List.range dl.length) a) w) :
    (Code.region id ops true).wp P Q a w := by
  have hlen : dl.length = ops.size := by subst hdl; simp
  have hda : ∀ j, depsAt .any ops j = (dl[j]?).getD [] := by
    intro j
    subst hdl
    simp only [depsAt, List.getElem?_map, Array.getElem?_toList]
  have hnone : ∀ j, (Array.replicate ops.size false).getD j false = false := by
    intro j
    simp [Array.getD_eq_getD_getElem?, Array.getElem?_replicate]
    split <;> rfl
  refine wp_region_any hm (wpAny_inv hb a (fun L f w => G w ∧ (∀ j, L j = true → F j (restr f (j :: (dl[j]?).getD [])) w) ∧ NewE base items L f w)
    (fun i o hoi L f w hLi hLd hdeps hcl hI => ?_) (fun L f w hL hI => ?_) ops.size (Array.replicate ops.size false) (fun _ => undef) a w.drew (by simp) (by
      have := List.countP_le_length (p := fun b => !b) (l := (Array.replicate ops.size false).toList)
      simpa using this)
    (fun j hj => absurd hj (by rw [hnone]; decide))
    (Agrees.start fun j hj => absurd hj (by rw [hnone]; decide))
    ⟨h0, fun j (hj : (Array.replicate ops.size false).getD j false = true) => absurd hj (by rw [hnone]; decide), NewE.start hnone⟩)
  · obtain ⟨hg, hf, he⟩ := hI
    have hdo : depsOf .any o = (dl[i]?).getD [] := by rw [← hda i, depsAt_eq hoi]
    have hk := StepN.at ops.toList 0 hstep i o (by simpa using hoi)
    rw [Nat.zero_add] at hk
    rw [hdo] at hdeps ⊢
    rw [putL_eq hds]
    have hH : HypL F dl f w ((dl[i]?).getD []) := HypL.of _ fun j hj => hf j (hdeps j hj)
    have hnext : ∀ v w', (∀ j, L j = true → F j (restr f (j :: (dl[j]?).getD [])) w → F j (restr f (j :: (dl[j]?).getD [])) w') → F i (restr (upd f i v) (i :: (dl[i]?).getD [])) w' →
        ∀ j, upd L i true j = true → F j (restr (upd f i v) (j :: (dl[j]?).getD [])) w' := by
      intro v w' hst hi j hj
      by_cases e : j = i
      · subst e; exact hi
      · simp only [upd, if_neg e] at hj
        have hnc : (j :: (dl[j]?).getD []).contains i = false := by
          rw [← Bool.not_eq_true, List.contains_iff_mem, List.mem_cons]
          rintro (h | h)
          · exact e h.symm
          · have := hLd j (by rw [hda j]; exact h)
            rw [this] at hj
            cases hj
        rw [restr_upd hnc]
        exact hst j hj (hf j hj)
    cases hkind : nkind items i with
    | plain =>
      rw [hkind] at hk
      have hne : ∀ it ∈ items, it.ka ≠ i ∧ it.ks ≠ i := by
        intro it hi
        unfold nkind at hkind
        cases h1 : items.find? (fun it => it.ka == i) with
        | some x => rw [h1] at hkind; cases hkind
        | none =>
          rw [h1] at hkind
          cases h2 : items.find? (fun it => it.ks == i) with
          | some x => rw [h2] at hkind; cases hkind
          | none =>
            have a1 := List.find?_eq_none.1 h1 it hi
            have a2 := List.find?_eq_none.1 h2 it hi
            exact ⟨fun e => a1 (by simp [e]), fun e => a2 (by simp [e])⟩
      refine (hk f w hg hH).mono fun v w' h => ⟨hGB _ _ h.1 hg, hnext v w' (fun j _ hx => hFB j _ w w' hx) h.2, (he.below h.1).plain hne⟩
    | alloc it =>
      rw [hkind] at hk
      obtain ⟨hit, hka⟩ : it ∈ items ∧ it.ka = i := by
        unfold nkind at hkind
        cases h1 : items.find? (fun it => it.ka == i) with
        | some x =>
          rw [h1] at hkind
          obtain rfl : x = it := by simpa using hkind
          exact ⟨List.mem_of_find?_eq_some h1, by have := List.find?_some h1; simpa using this⟩
        | none =>
          rw [h1] at hkind
          cases h2 : items.find? (fun it => it.ks == i) with
          | some x => rw [h2] at hkind; cases hkind
          | none => rw [h2] at hkind; cases hkind
      have hks : L it.ks = false := by
        refine hLd it.ks ?_
        rw [hda]
        have h3 := (List.all_eq_true.1 hok it hit)
        simp only [Bool.and_eq_true] at h3
        rw [← hka]
        exact List.contains_iff_mem.1 h3.2
      refine (hk.2 _ w).mono fun v w' h => ⟨hGB _ _ h.1 hg, hnext v w' (fun j _ hx => hFB j _ w w' hx) (hk.1 _ _), ?_⟩
      rw [h.2.1]
      subst hka
      exact he.alloc hone hok hit hks h.1 (hGb w hg) h.2.2
    | store it =>
      rw [hkind] at hk
      obtain ⟨hit, hks⟩ : it ∈ items ∧ it.ks = i := by
        unfold nkind at hkind
        cases h1 : items.find? (fun it => it.ka == i) with
        | some x => rw [h1] at hkind; cases hkind
        | none =>
          rw [h1] at hkind
          cases h2 : items.find? (fun it => it.ks == i) with
          | some x =>
            rw [h2] at hkind
            obtain rfl : x = it := by simpa using hkind
            exact ⟨List.mem_of_find?_eq_some h2, by have := List.find?_some h2; simpa using this⟩
          | none => rw [h2] at hkind; cases hkind
      subst hks
      have h3 := (List.all_eq_true.1 hok it hit)
      simp only [Bool.and_eq_true] at h3
      have hka : L it.ka = true := hdeps it.ka (List.contains_iff_mem.1 h3.2)
      obtain ⟨loc, h1, h2⟩ := he
      have h4 := h1 it hit hka
      rw [hLi] at h4
      refine (hk.2 f w (loc it.ka) hg hH h4.1 h4.2.2).mono fun v w' h => ⟨by rw [h.1]; exact hGS _ _ _ h4.2.1 hg, hnext v w' (fun j _ hx => hFB j _ w w' hx) (hk.1 _ _), NewE.store hone hok hit hka h4.1 h.1 h.2 ⟨loc, h1, h2⟩⟩
  · obtain ⟨hg, hf, he⟩ := hI
    rw [putL_eq hds, ← hlen]
    refine hend f w hg (HypL.of _ fun j hj => hf j (by rw [hL j, ← hlen]; simpa using hj)) ?_
    obtain ⟨loc, h1, h2⟩ := he
    have hall : ∀ j, j < dl.length → L j = true := fun j hj => by rw [hL j, ← hlen]; simpa using hj
    refine ⟨loc, fun it hi _ => ?_, fun it hi it' hi' _ _ hne => h2 it hi it' hi' (hall _ (hin it hi).1) (hall _ (hin it' hi').1) hne⟩
    have h5 := h1 it hi (hall _ (hin it hi).1)
    rw [hall _ (hin it hi).2] at h5
    exact h5
/-- What the law yields, for two variables. -/
theorem NewE.two {i1 i2 : NItem} {f : Nat → Value} {w : World} (h : NewE base [i1, i2] (fun _ => true) f w) (hne : i1.ka ≠ i2.ka) :
    ∃ B C, f i1.ka = .pointer (some ⟨B, 0, none⟩) ∧ f i2.ka = .pointer (some ⟨C, 0, none⟩) ∧ base ≤ B ∧ base ≤ C ∧ B ≠ C ∧ Arr i1.K w B i1.v ∧ Arr i2.K w C i2.v := by
  obtain ⟨loc, h1, h2⟩ := h
  have a1 := h1 i1 (by simp) rfl
  have a2 := h1 i2 (by simp) rfl
  exact ⟨loc i1.ka, loc i2.ka, a1.1, a2.1, a1.2.1, a2.2.1, h2 i1 (by simp) i2 (by simp) rfl rfl hne, a1.2.2, a2.2.2⟩
theorem StepN.plain {k : Nat} {o : Oper} {l : List Oper} (hk : nkind items k = .plain) (h : ∀ f w, G w → HypL F dl f w ((dl[k]?).getD []) → Does P ops o (putL ds f ((dl[k]?).getD []) a) w fun v w' => Below w.heap.size w w' ∧ F k (restr (upd f k v) (k :: (dl[k]?).getD [])) w')
    (hl : StepN P ops ds dl a G F items (k + 1) l) : StepN P ops ds dl a G F items k (o :: l) := ⟨by rw [hk]; exact h, hl⟩
theorem StepN.alloc {k : Nat} {o : Oper} {l : List Oper} {it : NItem} (hk : nkind items k = .alloc it) (hT : ∀ g w, F k g w) (h : ∀ A w, Does P ops o A w fun v w' => Below w.heap.size w w' ∧ v = .pointer (some ⟨w.heap.size, 0, none⟩) ∧ Arr it.K w' w.heap.size (List.replicate it.n 0))
    (hl : StepN P ops ds dl a G F items (k + 1) l) : StepN P ops ds dl a G F items k (o :: l) := ⟨by rw [hk]; exact ⟨hT, h⟩, hl⟩
theorem StepN.store {k : Nat} {o : Oper} {l : List Oper} {it : NItem} (hk : nkind items k = .store it) (hT : ∀ g w, F k g w) (h : ∀ f w B, G w → HypL F dl f w ((dl[k]?).getD []) → f it.ka = .pointer (some ⟨B, 0, none⟩) → Arr it.K w B (List.replicate it.n 0) →
          Does P ops o (putL ds f ((dl[k]?).getD []) a) w fun v w' => w' = w.setRow B (it.v.map (Value.int it.K)).toArray ∧ Arr it.K w' B it.v)
    (hl : StepN P ops ds dl a G F items (k + 1) l) : StepN P ops ds dl a G F items k (o :: l) := ⟨by rw [hk]; exact ⟨hT, h⟩, hl⟩
end
end Go.Proofs.YtohnicmacmkapaaDoor
