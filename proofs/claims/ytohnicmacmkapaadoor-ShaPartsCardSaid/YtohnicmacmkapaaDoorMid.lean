/- Rows of numbers of which a part is loaded or stored; addresses of fields and elements. No program stands here. -/
import Derived.Test.YtohnicmacmkapaaDoorOrdB
import Derived.Test.YtohnicmacmkapaaDoorArrEq
import Derived.Deep.MidRow
import Derived.Lib.SlBuf
import Derived.Laws.CopyRow
namespace Go.Proofs.YtohnicmacmkapaaDoor
open Go.RowKit
set_option linter.unusedVariables false

/-- So many numbers from a place on. -/
def sl (zs : List Int) (o n : Nat) : List Int := (zs.drop o).take n
/-- Numbers with others in the stead of those from a place on. -/
def pt (zs : List Int) (o : Nat) (ys : List Int) : List Int := zs.take o ++ ys ++ zs.drop (o + ys.length)
theorem sl_length {zs : List Int} {o n : Nat} (h : o + n ≤ zs.length) : (sl zs o n).length = n := by simp [sl]; omega
theorem pt_length {zs ys : List Int} {o : Nat} (h : o + ys.length ≤ zs.length) : (pt zs o ys).length = zs.length := by simp [pt]; omega
theorem sl_all {zs : List Int} {n : Nat} (h : zs.length = n) : sl zs 0 n = zs := by simp [sl, ← h]
theorem sl_sl (zs : List Int) (o n a b : Nat) (h : a + b ≤ n) : sl (sl zs o n) a b = sl zs (o + a) b := by
  unfold sl
  rw [List.drop_take, List.drop_drop, List.take_take, Nat.min_eq_left (by omega)]
theorem sl_at (zs : List Int) (o n k : Nat) (h : k < n) : at0 (sl zs o n) k = at0 zs (o + k) := by
  simp [at0, sl, List.getElem?_drop, h]
theorem sl_pt_same {zs ys : List Int} {o n : Nat} (h : o + n ≤ zs.length) (hy : ys.length = n) : sl (pt zs o ys) o n = ys := by
  unfold sl pt
  subst hy
  rw [List.append_assoc, List.drop_append_of_le_length (by simp; omega), show (List.take o zs).drop o = [] by simp, List.nil_append, List.take_append_of_le_length (Nat.le_refl _), List.take_length]
theorem sl_pt_before {zs ys : List Int} {o a b : Nat} (h : o + ys.length ≤ zs.length) (hab : a + b ≤ o) : sl (pt zs o ys) a b = sl zs a b := by
  apply eq_of_all
  · rw [sl_length (by rw [pt_length h]; omega), sl_length (by omega)]
  · intro j hj
    rw [sl_length (by rw [pt_length h]; omega)] at hj
    rw [sl_at _ _ _ _ hj, sl_at _ _ _ _ hj]
    simp only [at0, pt, List.append_assoc]
    rw [List.getElem?_append_left (by simp; omega), List.getElem?_take, if_pos (by omega)]
theorem sl_pt_behind {zs ys : List Int} {o a b : Nat} (h : o + ys.length ≤ zs.length) (hab : o + ys.length ≤ a) (hl : a + b ≤ zs.length) : sl (pt zs o ys) a b = sl zs a b := by
  apply eq_of_all
  · rw [sl_length (by rw [pt_length h]; omega), sl_length (by omega)]
  · intro j hj
    rw [sl_length (by rw [pt_length h]; omega)] at hj
    rw [sl_at _ _ _ _ hj, sl_at _ _ _ _ hj]
    simp only [at0, pt]
    rw [List.getElem?_append_right (by simp; omega), List.getElem?_drop]
    congr 2
    simp
    omega
/-- A struct's field lies so many cells behind its beginning. -/
def fieldB (P : Program) (s : TypeId) (f off : Nat) : Bool := match P.underlying s with
  | some (.struct fs) => match fs[f]? with
    | some fd => fd.offset == off && (match P.info? fd.type with | some i => i.size != 0 | none => false)
    | none => false
  | _ => false
section
variable {P : Program} {ops : Array Oper} {o : Oper} {a : Act} {w : World} {R : Value → World → Prop}
theorem addr_mid (b o j : Nat) : (⟨b, o, none⟩ : Addr).add j = ⟨b, o + j, none⟩ := Go.Addr.add_mid b o j
theorem run_fieldB {s : TypeId} {f off : Nat} (hf : fieldB P s f off = true) (B o0 : Nat) : (Instr.fieldAt s (.pointer (some ⟨B, o0, none⟩)) f).run P w = .ok (.pointer (some ⟨B, o0 + off, none⟩)) w := by
  unfold fieldB at hf
  cases hu : P.underlying s with
  | none => rw [hu] at hf; cases hf
  | some d =>
    rw [hu] at hf
    cases d <;> simp only [Bool.false_eq_true] at hf
    rename_i fs
    cases hfs : fs[f]? with
    | none => rw [hfs] at hf; cases hf
    | some fd =>
      rw [hfs] at hf
      simp only [Bool.and_eq_true, beq_iff_eq] at hf
      obtain ⟨h1, h2⟩ := hf
      subst h1
      cases hi : P.info? fd.type with
      | none => rw [hi] at h2; cases h2
      | some i =>
        rw [hi] at h2
        have hne : i.size ≠ 0 := by simpa using h2
        simp [Instr.fieldAt, fieldPlace, Instr.sureAddr, Sem.run_bind, run_underlying hu w, hfs, sizeOf, typeInfo, hi, hne, addr_mid]
theorem Does.fieldA (hw : Region.wanted o (yielded ops a.tmps) = true) (s : TypeId) (x : Operand) (f : Nat) (ho : o.op = .fieldAddr s x f) {off : Nat} (hf : fieldB P s f off = true) (B o0 : Nat) (hx : a.eval x = .pointer (some ⟨B, o0, none⟩)) {o1 : Nat} (h1 : o0 + off = o1)
    (hR : R (.pointer (some ⟨B, o1, none⟩)) w) : Does P ops o a w R :=
  Does.pure hw _ (by unfold execOp; simp only [ho, hx, Sem.run_bind, run_fieldB hf, Result.andThen_ok, h1]; rfl) hR
theorem run_indexB {t e : TypeId} {n s : Nat} (hu : P.underlying t = some (.array n e)) (hs : (P.info? e).map (·.size) = some s) (B o0 : Nat) (k : IntKind) (i : Int) (h0 : 0 ≤ i) (h1 : i < n) :
    (Instr.indexAt t (.pointer (some ⟨B, o0, none⟩)) (.int k i)).run P w = .ok (.pointer (some ⟨B, o0 + i.toNat * s, none⟩)) w := by
  cases hi : P.info? e with
  | none => rw [hi] at hs; cases hs
  | some q =>
    have hq : q.size = s := by simpa [hi] using hs
    simp [Instr.indexAt, asIntOf, Instr.sureAddr, Sem.run_bind, run_underlying hu w, h0, h1, sizeOf, typeInfo, hi, hq, addr_mid]
theorem Does.indexA (hw : Region.wanted o (yielded ops a.tmps) = true) (t : TypeId) (x y : Operand) (ho : o.op = .indexAddr t x y) {e : TypeId} {n s : Nat} (hu : P.underlying t = some (.array n e)) (hs : (P.info? e).map (·.size) = some s) (B o0 : Nat) (hx : a.eval x = .pointer (some ⟨B, o0, none⟩))
    (k : IntKind) (i : Int) (hy : a.eval y = .int k i) (h0 : 0 ≤ i) (h1 : i < n) {o1 : Nat} (h2 : o0 + i.toNat * s = o1) (hR : R (.pointer (some ⟨B, o1, none⟩)) w) : Does P ops o a w R :=
  Does.pure hw _ (by unfold execOp; simp only [ho, hx, hy, Sem.run_bind, run_indexB hu hs B o0 k i h0 h1, Result.andThen_ok, h2]; rfl) hR
/-- A row that may be read. -/
def Rd (K : IntKind) (w : World) (B : Nat) (zs : List Int) : Prop := ∀ k, k < zs.length → w.cell? ⟨B, k, none⟩ = some (.int K (at0 zs k))
theorem Rd.below {K : IntKind} {w w' : World} {B : Nat} {zs : List Int} (h : Rd K w B zs) (hb : Below w.heap.size w w') : Rd K w' B zs := fun k hk => Go.Lib.Below.cellOf hb (h k hk) (Nat.le_refl _)
theorem Rd.range {K : IntKind} {B : Nat} {zs : List Int} (h : Rd K w B zs) {o0 n : Nat} (hl : o0 + n ≤ zs.length) : w.rangeAt B o0 ((sl zs o0 n).map (Value.int K)) := by
  intro j v hj
  rw [List.getElem?_map] at hj
  cases hq : (sl zs o0 n)[j]? with
  | none => rw [hq] at hj; cases hj
  | some x =>
    rw [hq] at hj
    have hjl : j < n := by
      have := (List.getElem?_eq_some_iff.1 hq).1
      rw [sl_length hl] at this
      exact this
    rw [h (o0 + j) (by omega), ← hj]
    have h2 := sl_at zs o0 n j hjl
    simp only [at0, hq, Option.getD_some] at h2
    rw [h2]
    simp [at0]
theorem Does.loadG (hw : Region.wanted o (yielded ops a.tmps) = true) (ty : TypeId) (x : Operand) (ho : o.op = .load ty x) (n : Nat) (d : TypeDesc) (hu : P.underlying ty = some d) (hd : (match d with | .struct _ | .array _ _ => true | _ => false) = true) (hi : (P.info? ty).map (·.size) = some n)
    (B o0 : Nat) (hx : a.eval x = .pointer (some ⟨B, o0, none⟩)) (K : IntKind) (zs : List Int) (hz : Rd K w B zs) (hl : o0 + n ≤ zs.length) {v : List Int} (hv : sl zs o0 n = v) (hR : R (aggI K v) w) : Does P ops o a w R :=
  Does.of_wp hw fun KK hK => by
    subst hv
    refine wp_load_mid ty x ho B o0 hx _ d (hz.range hl) hu (by cases d <;> simp_all) (by rw [hi]; simp [sl_length hl]) ?_
    exact hK _ _ hR
theorem Arr.range {K : IntKind} {B : Nat} {zs : List Int} (h : Arr K w B zs) {o0 n : Nat} (hl : o0 + n ≤ zs.length) : w.rangeAt B o0 ((sl zs o0 n).map (Value.int K)) := by
  intro j v hj
  rw [List.getElem?_map] at hj
  cases hq : (sl zs o0 n)[j]? with
  | none => rw [hq] at hj; cases hj
  | some x =>
    rw [hq] at hj
    have hjl : j < n := by
      have := (List.getElem?_eq_some_iff.1 hq).1
      rw [sl_length hl] at this
      exact this
    have hc := h.cell (k := o0 + j) (by omega)
    rw [hc, ← hj]
    have h2 := sl_at zs o0 n j hjl
    simp only [at0, hq, Option.getD_some] at h2
    rw [h2]
    simp [at0]
theorem Does.loadM (hw : Region.wanted o (yielded ops a.tmps) = true) (ty : TypeId) (x : Operand) (ho : o.op = .load ty x) (n : Nat) (d : TypeDesc) (hu : P.underlying ty = some d) (hd : (match d with | .struct _ | .array _ _ => true | _ => false) = true) (hi : (P.info? ty).map (·.size) = some n)
    (B o0 : Nat) (hx : a.eval x = .pointer (some ⟨B, o0, none⟩)) (K : IntKind) (zs : List Int) (hz : Arr K w B zs) (hl : o0 + n ≤ zs.length) {v : List Int} (hv : sl zs o0 n = v) (hR : R (aggI K v) w) : Does P ops o a w R :=
  Does.of_wp hw fun KK hK => by
    subst hv
    refine wp_load_mid ty x ho B o0 hx _ d (hz.range hl) hu (by cases d <;> simp_all) (by rw [hi]; simp [sl_length hl]) ?_
    exact hK _ _ hR
theorem Does.loadC (hw : Region.wanted o (yielded ops a.tmps) = true) (ty : TypeId) (x : Operand) (ho : o.op = .load ty x) (d : TypeDesc) (hu : P.underlying ty = some d) (hd : (match d with | .struct _ | .array _ _ => true | _ => false) = false)
    (B o0 : Nat) (hx : a.eval x = .pointer (some ⟨B, o0, none⟩)) (K : IntKind) (zs : List Int) (hz : Arr K w B zs) (hl : o0 < zs.length) {v : Int} (hv : at0 zs o0 = v) (hR : R (.int K v) w) : Does P ops o a w R := by
  refine Does.pure hw _ ?_ hR
  subst hv
  have hc := hz.cell (k := o0) hl
  have hagg : (isAgg ty).run P w = .ok false w := by
    unfold isAgg
    rw [Sem.run_bind, run_underlying hu w]
    cases d <;> simp_all
  unfold execOp
  simp [ho, hx, Sem.run_bind, Instr.loadAt, Instr.sureAddr, loadVar, hagg, hc]
theorem Does.storeM (hw : Region.wanted o (yielded ops a.tmps) = true) (ty : TypeId) (x y : Operand) (ho : o.op = .store ty x y) (n : Nat) (hi : (P.info? ty).map (·.size) = some n)
    (B o0 : Nat) (hx : a.eval x = .pointer (some ⟨B, o0, none⟩)) (K : IntKind) (zs ys : List Int) (hy : a.eval y = aggI K ys) (hz : Arr K w B zs) (hm : ys.length = n) (hl : o0 + n ≤ zs.length)
    (hR : Arr K (w.setRow B ((pt zs o0 ys).map (Value.int K)).toArray) B (pt zs o0 ys) → R undef (w.setRow B ((pt zs o0 ys).map (Value.int K)).toArray)) : Does P ops o a w R :=
  Does.of_wp hw fun KK hK => by
    have h' := hR (hz.setRow _)
    obtain ⟨t, hz⟩ := hz
    have hst := run_storeCells_at P B o0 t (ys.map (Value.int K)) 0 _ w hz (by simp; omega) (fun v hv => by obtain ⟨z, -, rfl⟩ := List.mem_map.1 hv; rfl)
    cases hq : P.info? ty with
    | none => rw [hq] at hi; cases hi
    | some q =>
      have hs : q.size = n := by simpa [hq] using hi
      have e : (List.take (o0 + 0) (zs.map (Value.int K)) ++ ys.map (Value.int K) ++ List.drop (o0 + 0 + (ys.map (Value.int K)).length) (zs.map (Value.int K))) = (pt zs o0 ys).map (Value.int K) := by
        simp [pt, List.map_take, List.map_drop]
      rw [e] at hst
      unfold Oper.wp execOp
      simp [ho, hx, hy, aggI, Sem.run_bind, Instr.storeAt, Instr.sureAddr, storeVar, sizeOf, typeInfo, hq, hs, hm, Value.cells, hst]
      exact hK _ _ h'
theorem wp_world {c : Code} {Q : Exit → Act → World → Prop} (h : ∀ W, W = w → Code.wp P c Q a W) : Code.wp P c Q a w := h w rfl
theorem results_cellM {fn : Func} {p : Tmp} {ty : TypeId} (h : fn.results = #[.cell p ty]) (tmps : Array Value) (n : Nat) (d : TypeDesc) (hu : P.underlying ty = some d) (hd : (match d with | .struct _ | .array _ _ => true | _ => false) = true) (hi : (P.info? ty).map (·.size) = some n)
    (B : Nat) (hp : tmps.getD p undef = .pointer (some ⟨B, 0, none⟩)) (K : IntKind) (zs : List Int) (hz : Arr K w B zs) (hn : zs.length = n) : (results fn tmps).run P w = .ok (aggI K zs) w := by
  obtain ⟨t, hz⟩ := hz
  exact results_cell_row h tmps w B t _ _ _ hp hz hu hd (by rw [hi]; simp [hn])
theorem results_cell_tmpM {fn : Func} {p t1 : Tmp} {ty : TypeId} (h : fn.results = #[.cell p ty, .tmp t1]) (tmps : Array Value) (n : Nat) (d : TypeDesc) (hu : P.underlying ty = some d) (hd : (match d with | .struct _ | .array _ _ => true | _ => false) = true) (hi : (P.info? ty).map (·.size) = some n)
    (B : Nat) (hp : tmps.getD p undef = .pointer (some ⟨B, 0, none⟩)) (K : IntKind) (zs : List Int) (hz : Arr K w B zs) (hn : zs.length = n) : (results fn tmps).run P w = .ok (.tuple #[aggI K zs, tmps.getD t1 undef]) w := by
  obtain ⟨t, hz⟩ := hz
  have hp' : tmps[p]?.getD undef = .pointer (some ⟨B, 0, none⟩) := by simpa using hp
  have hl := run_loadVar_row (P := P) w B t ty _ _ _ hz hu hd (by rw [hi]; simp [hn])
  simp [results, h, hp', asAddr, hl, aggI]
theorem wpList_val' {rest : List Oper} {Q : Exit → Act → World → Prop} {v : Value} (hd : ∀ R : Value → World → Prop, R v w → Does P ops o a w R) (h : wpList P ops Q rest (a.put o.dst v) w) : wpList P ops Q (o :: rest) a w :=
  wpList_does (hd (fun v' w' => v' = v ∧ w' = w) ⟨rfl, rfl⟩) fun v' w' h' => by rw [h'.1, h'.2]; exact h
end
end Go.Proofs.YtohnicmacmkapaaDoor
