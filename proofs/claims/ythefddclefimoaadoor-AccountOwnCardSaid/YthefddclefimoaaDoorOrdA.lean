/- One operation of a region, kind by kind, for the law on drawn orders. -/
import Derived.Test.YthefddclefimoaaDoorOrd
import Derived.Test.YthefddclefimoaaDoorArr
import Derived.Laws.Tables
import Derived.Laws.CopyRow
namespace Go.Proofs.YthefddclefimoaaDoor
open Go.RowKit
set_option linter.unusedVariables false

/-- Which of these operations has written a slot last. -/
def lookL (ds : List (Option Tmp)) : List Nat → Nat → Option Nat
  | [], _ => none
  | j :: l, t => (lookL ds l t).orElse fun _ => if ds[j]?.join = some t then some j else none
theorem putL_size (ds : List (Option Tmp)) (f : Nat → Value) : ∀ (l : List Nat) (a : Act), (putL ds f l a).tmps.size = a.tmps.size
  | [], a => rfl
  | j :: l, a => by rw [putL, putL_size ds f l, put_size]
theorem putL_defers (ds : List (Option Tmp)) (f : Nat → Value) : ∀ (l : List Nat) (a : Act), (putL ds f l a).defers = a.defers
  | [], a => rfl
  | j :: l, a => by rw [putL, putL_defers ds f l, put_defers]
theorem putL_get (ds : List (Option Tmp)) (f : Nat → Value) (t : Nat) : ∀ (l : List Nat) (a : Act), t < a.tmps.size → (putL ds f l a).tmps[t]? = match lookL ds l t with
    | some j => some (f j)
    | none => a.tmps[t]?
  | [], a, _ => rfl
  | j :: l, a, ht => by
    rw [putL, putL_get ds f t l _ (by rw [put_size]; exact ht), lookL]
    cases lookL ds l t with
    | some i => rfl
    | none =>
      simp only [Option.orElse_none]
      rw [put_get]
      by_cases e : ds[j]?.join = some t
      · rw [if_pos ⟨e, ht⟩, if_pos e]
      · rw [if_neg (fun h => e h.1), if_neg e]
theorem putL_look {ds : List (Option Tmp)} {f : Nat → Value} {t j n : Nat} {l : List Nat} {a : Act} (h : lookL ds l t = some j) (hs : a.tmps.size = n) (ht : decide (t < n) = true) {v : Value} (hv : f j = v) : (putL ds f l a).eval (.tmp t) = v := by
  simp only [Act.eval, Array.getD_eq_getD_getElem?]
  rw [putL_get ds f t l a (by rw [hs]; exact of_decide_eq_true ht), h, ← hv]
  rfl
theorem putL_none {ds : List (Option Tmp)} {f : Nat → Value} {t n : Nat} {l : List Nat} {a : Act} (h : lookL ds l t = none) (hs : a.tmps.size = n) (ht : decide (t < n) = true) {v : Value} (hv : a.eval (.tmp t) = v) : (putL ds f l a).eval (.tmp t) = v := by
  simp only [Act.eval, Array.getD_eq_getD_getElem?] at hv ⊢
  rw [putL_get ds f t l a (by rw [hs]; exact of_decide_eq_true ht), h]
  exact hv
theorem putLl {ds : List (Option Tmp)} {f : Nat → Value} {l : List Nat} {a A : Act} (hA : putL ds f l a = A) (t : Nat) {j : Nat} {v : Value} (hv : f j = v) (h : lookL ds l t = some j) (ht : decide (t < a.tmps.size) = true) : A.eval (.tmp t) = v := hA ▸ putL_look h rfl ht hv
theorem putLn {ds : List (Option Tmp)} {f : Nat → Value} {l : List Nat} {a A : Act} (hA : putL ds f l a = A) (t : Nat) {v : Value} (h : lookL ds l t = none) (ht : decide (t < a.tmps.size) = true) (hv : a.eval (.tmp t) = v) : A.eval (.tmp t) = v := hA ▸ putL_none h rfl ht hv
theorem slot_get {a : Act} {t : Nat} {v : Value} (h : a.eval (.tmp t) = v) : a.tmps[t]?.getD undef = v := by simpa [Act.eval] using h

section
variable {P : Program} {ops : Array Oper} {o : Oper} {a : Act} {w : World} {R : Value → World → Prop}

theorem wp_abs {c : Code} {Q : Exit → Act → World → Prop} (h : ∀ a0, a0 = a → Code.wp P c Q a0 w) : Code.wp P c Q a w := h a rfl
theorem Does.of_wp (hw : Region.wanted o (yielded ops a.tmps) = true) (h : ∀ K : Act → World → Prop, (∀ v w', R v w' → K (a.put o.dst v) w') → Oper.wp P o a w K (fun _ _ _ => False)) : Does P ops o a w R := fun K hK => by
  rw [if_pos hw]; exact h K hK
/-- An operation that yields, and leaves the world alone. -/
theorem Does.pure (hw : Region.wanted o (yielded ops a.tmps) = true) (v : Value) (hx : (execOp a.eval o).run P w = .ok (.value v) w) (hR : R v w) : Does P ops o a w R :=
  Does.of_wp hw fun K hK => by unfold Oper.wp; rw [hx]; exact hK v w hR
/-- A guarded operation that isn't wanted. -/
theorem Does.off (hw : Region.wanted o (yielded ops a.tmps) = false) (hR : R undef w) : Does P ops o a w R := fun K hK => by
  rw [if_neg (by rw [hw]; simp)]; exact hK _ _ hR
/-- A call of a Go function. -/
theorem Does.call (hw : Region.wanted o (yielded ops a.tmps) = true) (f : FuncId) (args : Array Value) (hx : (execOp a.eval o).run P w = .ok (.enter f args) w) (hc : Calls P f args w fun e w' => ∃ v, e = .returned v ∧ R v w') : Does P ops o a w R :=
  Does.of_wp hw fun K hK => by
    unfold Oper.wp
    rw [hx]
    refine Calls.mono hc fun e w' he => ?_
    obtain ⟨v, rfl, hr⟩ := he
    exact hK v w' hr
theorem Does.loadI (hw : Region.wanted o (yielded ops a.tmps) = true) (ty : TypeId) (x : Operand) (ho : o.op = .load ty x) (n : Nat) (e : TypeId) (hu : P.underlying ty = some (.array n e)) (hi : (P.info? ty).map (·.size) = some n)
    (B : Nat) (hx : a.eval x = .pointer (some ⟨B, 0, none⟩)) (K : IntKind) (zs : List Int) (hz : Arr K w B zs) (hn : zs.length = n) (hR : R (aggI K zs) w) : Does P ops o a w R :=
  Does.of_wp hw fun KK hK => by
    obtain ⟨t, hz⟩ := hz
    exact wp_load_row ty x ho B hx t _ _ _ hz hu rfl (by rw [hi]; simp [hn]) (hK _ _ hR)
/-- A struct of numbers of one kind, loaded whole. -/
theorem Does.loadS (hw : Region.wanted o (yielded ops a.tmps) = true) (ty : TypeId) (x : Operand) (ho : o.op = .load ty x) (n : Nat) (fs : Array Field) (hu : P.underlying ty = some (.struct fs)) (hi : (P.info? ty).map (·.size) = some n)
    (B : Nat) (hx : a.eval x = .pointer (some ⟨B, 0, none⟩)) (K : IntKind) (zs : List Int) (hz : Arr K w B zs) (hn : zs.length = n) (hR : R (aggI K zs) w) : Does P ops o a w R :=
  Does.of_wp hw fun KK hK => by
    obtain ⟨t, hz⟩ := hz
    exact wp_load_row ty x ho B hx t _ _ _ hz hu rfl (by rw [hi]; simp [hn]) (hK _ _ hR)
theorem Does.storeI (hw : Region.wanted o (yielded ops a.tmps) = true) (ty : TypeId) (x y : Operand) (ho : o.op = .store ty x y) (n : Nat) (hi : (P.info? ty).map (·.size) = some n)
    (B : Nat) (hx : a.eval x = .pointer (some ⟨B, 0, none⟩)) (K : IntKind) (zs ys : List Int) (hy : a.eval y = aggI K ys) (hz : Arr K w B zs) (hn : zs.length = n) (hm : ys.length = n)
    (hR : Arr K (w.setRow B (ys.map (Value.int K)).toArray) B ys → R undef (w.setRow B (ys.map (Value.int K)).toArray)) : Does P ops o a w R :=
  Does.of_wp hw fun KK hK => by
    have h' := hR (hz.setRow ys)
    obtain ⟨t, hz⟩ := hz
    refine wp_store_row ty x y ho B _ hx hy t _ hz (by rw [hi]; simp [hm]) (by simp [hn, hm]) ?_ (hK _ _ h')
    simp [Value.oneCell']
theorem Does.allocI (hw : Region.wanted o (yielded ops a.tmps) = true) (t : TypeId) (ho : o.op = .alloc t) (K : IntKind) (n : Nat) (hz : (P.info? t).bind (·.zero) = some (.agg (Array.replicate n (Value.int K 0))))
    (hR : ∀ w1, Arr K w1 w.heap.size (List.replicate n 0) → w.heap.size < w1.heap.size → Below w.heap.size w w1 → R (.pointer (some ⟨w.heap.size, 0, none⟩)) w1) : Does P ops o a w R :=
  Does.of_wp hw fun Kq hK => by
    cases hi : P.info? t with
    | none => rw [hi] at hz; cases hz
    | some i =>
      rw [hi] at hz
      have hz' : i.zero = some (.agg (Array.replicate n (Value.int K 0))) := hz
      have hti : (typeInfo t).run P w = .ok i w := by simp [typeInfo, hi]
      unfold Oper.wp execOp
      simp only [ho, Sem.run_bind, Instr.alloc, zeroValue, hti, hz', newVar, newRow, run_newObj_alloc, Sem.run_pure, Result.andThen_ok, Value.cells]
      refine hK _ _ (hR _ ⟨t, ?_⟩ (Array.getElem?_eq_some_iff.1 (heap_alloc_new w _)).1 ((Below.refl _ _).alloc (Nat.le_refl _) _))
      rw [heap_alloc_new]
      simp

theorem run_copyI (t t' ty elem : TypeId) (hu : P.underlying t = some (.slice elem)) (hs : (P.info? elem).map (·.size) = some 1) (B B' c c' : Nat) (K : IntKind) (zs ys : List Int) (hz : Arr K w B zs) (hy : Arr K w B' ys) (hle : ys.length ≤ zs.length) :
    (Builtin.copy_ #[t, t'] ty #[.slice (some ⟨B, 0, none⟩) zs.length c, .slice (some ⟨B', 0, none⟩) ys.length c']).run P w = .ok (goInt ys.length) (w.setRow B ((ys ++ zs.drop ys.length).map (Value.int K)).toArray) := by
  obtain ⟨tz, hz⟩ := hz
  have hcell : ∀ j v, (ys.map (Value.int K))[j]? = some v → w.cell? ((⟨B', 0, none⟩ : Addr).add j) = some v := by
    intro j v hj
    obtain ⟨ty, hy⟩ := hy
    rw [Addr.add_lit]
    simp only [World.cell?, hy, Nat.zero_add]
    simpa using hj
  have h := run_copy_row (P := P) w t t' ty elem B 0 zs.length c ⟨B', 0, none⟩ ys.length c' _ tz (ys.map (Value.int K)) hu hs hz (by simp [Nat.min_eq_left hle]) hcell (by simp; omega) (by simp [Value.oneCell'])
  rw [h]
  simp
theorem Does.copyI (hw : Region.wanted o (yielded ops a.tmps) = true) (d s : Operand) (t t' : TypeId) (ho : o.op = .call { callee := .builtin .copy, args := #[d, s], argTypes := #[t, t'] })
    (elem : TypeId) (hu : P.underlying t = some (.slice elem)) (hsz : (P.info? elem).map (·.size) = some 1) (B B' c c' n m : Nat) (hd : a.eval d = .slice (some ⟨B, 0, none⟩) n c) (hs : a.eval s = .slice (some ⟨B', 0, none⟩) m c') (K : IntKind) (zs ys : List Int)
    (hz : Arr K w B zs) (hy : Arr K w B' ys) (hn : zs.length = n) (hm : ys.length = m) (hle : m ≤ n)
    (hR : Arr K (w.setRow B ((ys ++ zs.drop ys.length).map (Value.int K)).toArray) B (ys ++ zs.drop ys.length) → R (goInt m) (w.setRow B ((ys ++ zs.drop ys.length).map (Value.int K)).toArray)) : Does P ops o a w R := by
  subst hn hm
  refine Does.of_wp hw fun KK hK => ?_
  have hr := run_copyI (P := P) t t' o.type elem hu hsz B B' c c' K zs ys hz hy hle
  unfold Oper.wp execOp
  simp only [ho, resolve, invoke, builtin, Sem.run_bind, Sem.run_pure, Result.andThen_ok, List.map_toArray, List.map_cons, List.map_nil, hd, hs, hr]
  exact hK _ _ (hR (hz.setRow _))

theorem Oper.wp_weaken {K : Act → World → Prop} {Q' Q : Exit → Act → World → Prop} (hq : ∀ e a w, Q' e a w → Q e a w) (h : Oper.wp P o a w K Q') : Oper.wp P o a w K Q := by
  unfold Oper.wp at *
  generalize (execOp a.eval o).run P w = r at *
  cases r with
  | ok n w' =>
    cases n <;> simp only [Oper.upon] at h ⊢ <;>
      first
        | exact h
        | exact Calls.mono h (fun e w'' he => by
            cases e with
            | returned u => exact he
            | panicked c => exact hq _ _ _ he
            | outgrown => obtain ⟨x, y, hxy⟩ := he; exact ⟨x, y, hq _ _ _ hxy⟩)
  | halt x w' =>
    cases x <;> simp only [Oper.upon] at h ⊢
    case panic u => exact hq _ _ _ h
/-- What is shown of one operation, in a region whose order is fixed. -/
theorem wpList_does {rest : List Oper} {Q : Exit → Act → World → Prop} (h : Does P ops o a w R) (hk : ∀ v w', R v w' → wpList P ops Q rest (a.put o.dst v) w') : wpList P ops Q (o :: rest) a w := by
  refine wpList_step fun K hK => ?_
  have h' := h K fun v w' hr => hK _ _ (hk v w' hr)
  split
  · next hw => rw [if_pos hw] at h'; exact Oper.wp_weaken (fun _ _ _ hf => hf.elim) h'
  · next hw => rw [if_neg hw] at h'; exact h'
/-- A guard that is met. -/
theorem wanted_of {g t : Nat} {b : Bool} (hg : o.guard = some (g, b)) (hd : dstAt ops g = some t) (hv : a.eval (.tmp t) = .bool b) : Region.wanted o (yielded ops a.tmps) = true := by
  have h : a.tmps[t]? = some (.bool b) := by
    simp only [Act.eval, Array.getD_eq_getD_getElem?] at hv
    cases hq : a.tmps[t]? with
    | none => rw [hq] at hv; simp [undef] at hv
    | some x => rw [hq] at hv; simp at hv; rw [hv]
  have hy : yielded ops a.tmps g = some b := by
    unfold yielded
    unfold dstAt at hd
    rw [hd]
    simp [h]
  unfold Region.wanted
  simp [hg, hy]
variable {ds : List (Option Tmp)} {dl : List (List Nat)} {s : Nat} {G : Bool → World → Prop} {F : Facts} {S : (Nat → Value) → World → World → Prop}
theorem StepL.other {k : Nat} {o : Oper} {l : List Oper} (hk : decide (k = s) = false) (h : ∀ b f w, (((dl[s]?).getD []).contains k = true → b = false) → G b w → HypL F dl f w ((dl[k]?).getD []) →
    Does P ops o (putL ds f ((dl[k]?).getD []) a) w fun v w' => Below w.heap.size w w' ∧ F k (restr (upd f k v) (k :: (dl[k]?).getD [])) w') (hl : StepL P ops ds dl s a G F S (k + 1) l) : StepL P ops ds dl s a G F S k (o :: l) :=
  ⟨by rw [if_neg (of_decide_eq_false hk)]; exact h, hl⟩
theorem StepL.self {k : Nat} {o : Oper} {l : List Oper} (hk : k = s) (h : ∀ f w, G false w → HypL F dl f w ((dl[k]?).getD []) →
    Does P ops o (putL ds f ((dl[k]?).getD []) a) w fun v w' => S (restr f ((dl[k]?).getD [])) w w' ∧ G true w' ∧ F k (restr (upd f k v) (k :: (dl[k]?).getD [])) w') (hl : StepL P ops ds dl s a G F S (k + 1) l) : StepL P ops ds dl s a G F S k (o :: l) :=
  ⟨by rw [if_pos hk]; exact h, hl⟩
end
end Go.Proofs.YthefddclefimoaaDoor
