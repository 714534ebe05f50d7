/- What slices.Insert needs: parts of slices of one's own that overlap, the room of a slice, an append of zeros. No program stands here. -/
import Derived.Test.YthefddclefimoaaDoorVw
import Derived.Lib.Overlaps
namespace Go.Proofs.YthefddclefimoaaDoor
open Go.RowKit
set_option linter.unusedVariables false
set_option linter.unusedSimpArgs false
theorem flat_inj {s : Nat} : ∀ {xs ys : List (List Value)}, (∀ r ∈ xs, r.length = s) → (∀ r ∈ ys, r.length = s) → xs.length = ys.length → xs.flatten = ys.flatten → xs = ys
  | [], [], _, _, _, _ => rfl
  | [], _ :: _, _, _, hl, _ => by simp at hl
  | _ :: _, [], _, _, hl, _ => by simp at hl
  | x :: xs, y :: ys, hx, hy, hl, he => by
    have h1 : x.length = y.length := by rw [hx x (.head _), hy y (.head _)]
    rw [List.flatten_cons, List.flatten_cons] at he
    obtain ⟨e1, e2⟩ := List.append_inj he h1
    rw [e1, flat_inj (fun r hr => hx r (.tail _ hr)) (fun r hr => hy r (.tail _ hr)) (by simpa using hl) e2]
section
variable {P : Program} {ops : Array Oper} {o : Oper} {N : Nat} {f : Fl} {w : World}
theorem RwB.rd {s : Nat} {w : World} {C : Nat} {vs sp : List (List Value)} (h : RwB s w C (vs ++ sp)) {L : List Nat} (hC : C ∉ L) : RdF s L w (.slice (some ⟨C, 0, none⟩) vs.length (vs ++ sp).length) vs := h.own.rd hC
theorem dx_cap {t : TypeId} {x : Operand} {a : Option Addr} {e : TypeId} {n c : Nat} (ho : o.op = .call { callee := .builtin .cap, args := #[x], argTypes := #[t] }) (ht : P.underlying t = some (.slice e)) (hx : ev f x = some (.slice a n c)) (hw : wantF ops o f = some true := by rfl) : DV P ops o N f w (.int .i64 (c : Int)) := fun k ha => by
  have hx := ha.ev hx
  exact Does.pure (wantF_of ha hw) _ (by unfold execOp; simp [ho, resolve, invoke, builtin, hx, Builtin.cap_, Sem.run_bind, run_underlying ht, goInt]) ⟨rfl, rfl⟩
/-- x[0:] of nil. -/
theorem dx_slN {t s : Nat} {x y : Operand} {K : IntKind} (ho : o.op = .slice t x (some y) none none) (ht : sliceB P t s = true) (hx : ev f x = some (.slice none 0 0)) (hy : ev f y = some (.int K 0)) (hw : wantF ops o f = some true := by rfl) : DV P ops o N f w (.slice none 0 0) := fun a ha => by
  obtain ⟨e, hu, hs⟩ := of_sliceB ht
  have hx := ha.ev hx
  have hy := ha.ev hy
  cases hi : P.info? e with
  | none => rw [hi] at hs; cases hs
  | some q =>
    refine Does.pure (wantF_of ha hw) _ ?_ ⟨rfl, rfl⟩
    unfold execOp
    simp only [ho, Option.map_none, Option.map_some, hx, hy, Instr.sliceAt, Sem.run_bind, run_underlying hu, Result.andThen_ok, Instr.slice, Instr.sliceBounds, Instr.sliceBound, asIntOf, Sem.run_pure, sizeOf, typeInfo, run_program, hi]
    rw [if_pos (by decide)]
    exact rfl
/-- A slice that is none, or has an address. -/
theorem RdF.nil_or {s : Nat} {L : List Nat} {w : World} {v : Value} {rs : List (List Value)} (h : RdF s L w v rs) : (v = .slice none 0 0 ∧ rs = []) ∨ ∃ a n c, v = .slice (some a) n c := by
  obtain ⟨_, _, a, c, rfl, h1, h2, h3, h4⟩ := h
  cases a with
  | none =>
    have hr : rs = [] := Classical.byContradiction fun hn => by obtain ⟨X, o, he, _⟩ := h4 hn; cases he
    subst hr
    exact .inl ⟨by rw [h3 rfl]; rfl, rfl⟩
  | some a => exact .inr ⟨a, _, c, rfl⟩
theorem dx_nilS {t t' : TypeId} {x : Operand} {a : Addr} {n c : Nat} {v : Value} {e : TypeId} (ho : o.op = .binOp .eql t x (.const (.slice none 0 0)) t') (hu : P.underlying t = some (.slice e)) (hx : ev f x = some v) (hv : v = .slice (some a) n c) (hw : wantF ops o f = some true := by rfl) : DV P ops o N f w (.bool false) := fun k ha => by
  subst hv
  have hx := ha.ev hx
  have e1 : binOp .eql t (.slice (some a) n c) (.slice none 0 0) = (do pure (.bool (← Op.equal t (.slice (some a) n c) (.slice none 0 0)))) := rfl
  have e2 : (Op.equal t (.slice (some a) n c) (.slice none 0 0)).run P w = .ok false w := eqIn_nil hu 9999 _ _ _
  exact Does.pure (wantF_of ha hw) _ (by unfold execOp; simp only [ho, hx, eval_c, eqGuard, Sem.run_bind, Sem.run_pure, Result.andThen_ok, e1]; show ((((Sem.run P (Op.equal t (Value.slice (some a) n c) (Value.slice none 0 0)) w).andThen fun a w' => Result.ok (Value.bool a) w').andThen fun a w' => Result.ok (Next.value a) w') = _); rw [e2]; rfl) ⟨rfl, rfl⟩
theorem eqIn_nilT {t : TypeId} {e : TypeId} (hu : P.underlying t = some (.slice e)) (d : Nat) : (Op.equalIn (d + 1) t (.slice none 0 0) (.slice none 0 0)).run P w = .ok true w := by
  simp [Op.equalIn, run_underlying hu]
theorem dx_nilT {t t' : TypeId} {x : Operand} {e : TypeId} (ho : o.op = .binOp .eql t x (.const (.slice none 0 0)) t') (hu : P.underlying t = some (.slice e)) (hx : ev f x = some (.slice none 0 0)) (hw : wantF ops o f = some true := by rfl) : DV P ops o N f w (.bool true) := fun k ha => by
  have hx := ha.ev hx
  have e1 : binOp .eql t (.slice none 0 0) (.slice none 0 0) = (do pure (.bool (← Op.equal t (.slice none 0 0) (.slice none 0 0)))) := rfl
  have e2 : (Op.equal t (.slice none 0 0) (.slice none 0 0)).run P w = .ok true w := eqIn_nilT hu 9999
  exact Does.pure (wantF_of ha hw) _ (by unfold execOp; simp only [ho, hx, eval_c, eqGuard, Sem.run_bind, Sem.run_pure, Result.andThen_ok, e1]; show ((((Sem.run P (Op.equal t (Value.slice none 0 0) (Value.slice none 0 0)) w).andThen fun a w' => Result.ok (Value.bool a) w').andThen fun a w' => Result.ok (Next.value a) w') = _); rw [e2]; rfl) ⟨rfl, rfl⟩
/-- Slices in two blocks of one's own don't overlap. -/
theorem dx_ovl {F : FuncId} {fn : Func} {t tR s B C o0 o1 n c m c' : Nat} {x y : Operand} {ts : Array TypeId} {U V : List (List Value)} (ho : o.op = .call { callee := .value (.func F), args := #[x, y], argTypes := ts }) (hf : P.funcs[F]? = some fn) (hn : (fn.name == "runtime.NumGoroutine") = false) (hb : fn.body.isNone = true) (hnx : Extern.findNext fn = none) (he : Extern.find fn = some (Extern.SlicesOverlaps.overlaps #[t, t] #[tR])) (ht : sliceB P t s = true)
    (hx : ev f x = some (.slice (some ⟨C, o0, none⟩) n c)) (hy : ev f y = some (.slice (some ⟨B, o1, none⟩) m c')) (hC : RwB s w C V) (hB : RwB s w B U) (hne : C ≠ B) (hU : U ≠ []) (hw : wantF ops o f = some true := by rfl) : DV P ops o N f w (.bool false) := fun a ha => by
  have hx := ha.ev hx
  have hy := ha.ev hy
  obtain ⟨e, hu, hs⟩ := of_sliceB ht
  obtain ⟨hc0, hcr, hcm, tc, hcb⟩ := hC
  obtain ⟨hb0, hbr, hbm, tb, hbb⟩ := hB
  cases hi : P.info? e with
  | none => rw [hi] at hs; cases hs
  | some q =>
    have hq : q.size = s := by simpa [hi] using hs
    have hz : ∀ w, (Go.sizeOf e).run P w = .ok s w := fun w => by simp [sizeOf, typeInfo, hi, hq]
    have hkB : U.flatten.toArray.size ≠ 0 := by
      rw [List.size_toArray, flat_len hbr]
      exact Nat.mul_ne_zero (fun h => hU (List.length_eq_zero_iff.1 h)) (by omega)
    have hrun := Lib.run_overlaps_apart (P := P) w t tR e hu s hz ⟨C, o0, none⟩ ⟨B, o1, none⟩ n c m c' hne tc tb V.flatten.toArray.size U.flatten.toArray.size (by simp [World.shape?, hcb]) (by simp [World.shape?, hbb]) hkB (by simp [World.frozen?, hcb]) (by simp [World.frozen?, hcb])
    refine Does.pure (wantF_of ha hw) _ ?_ ⟨rfl, rfl⟩
    have h1 := run_callFunc_extern (P := P) hf hn hb hnx he #[.slice (some ⟨C, o0, none⟩) n c, .slice (some ⟨B, o1, none⟩) m c'] w
    rw [hrun] at h1
    simp only [Result.andThen_ok] at h1
    have hfe : a.eval (.func F) = .func (.func F) #[] #[] := rfl
    unfold execOp
    simp only [ho, resolve, hfe, Deferred.ofValue, Sem.run_bind, Sem.run_pure, Result.andThen_ok, invoke, List.map_toArray, List.map_cons, List.map_nil, hx, hy, Array.empty_append, Array.append_empty]
    rw [h1]
/-- An append of zeros that there is no room for: what comes is new. -/
theorem dx_apZ {t tn s bytes B i : Nat} {K kn : IntKind} {x y : Operand} {j : Int} (m : Nat) {R : List (List Value)} (ho : o.op = .call { callee := .builtin .append, args := #[x, y], argTypes := #[t, tn] }) (ht : apB P t s bytes = true) (htn : P.underlying tn = some (.int kn)) (hx : ev f x = some (.slice (some ⟨B, 0, none⟩) i R.length)) (hy : ev f y = some (.int K j)) (hj : j = (m : Int))
    (hR : RwB s w B R) (hi : i ≤ R.length) (hg : R.length < i + m) (hm : i + m ≤ maxLen) (hby : (i + m) * bytes ≤ 140737488355328) (hw : wantF ops o f = some true := by rfl) :
    DR P ops o N f w fun u W => ∃ Z : List (List Value), u = .slice (some ⟨w.heap.size, 0, none⟩) (i + m) Z.length ∧ i + m ≤ Z.length ∧ Z.take i = R.take i ∧ RwB s W w.heap.size Z ∧ Below w.heap.size w W ∧ w.heap.size < W.heap.size := fun a ha => by
  subst hj
  obtain ⟨e, q, Z, hu, hi', hz, rfl, rfl, hzs⟩ := of_apB ht
  have hx := ha.ev hx
  have hy := ha.ev hy
  obtain ⟨h0, hr, hmR, tt, hb⟩ := hR
  unfold maxLen at hm
  have hrt : ∀ r ∈ R.take i, r.length = q.size := fun r hr' => hr r (List.mem_of_mem_take hr')
  have hfl : (R.take i).flatten.length = i * q.size := by rw [flat_len hrt, List.length_take]; congr 1; omega
  have hfo := run_firstCells_some (P := P) w.drew q.size i ⟨B, 0, none⟩ i R.length (R.take i).flatten hfl (fun k u hk => by
    rw [addr_at, World.cell?_drew]
    refine ((Blk.range ⟨tt, hb⟩ : w.rangeAt B 0 R.flatten)) k u ?_
    rw [← flat_take i hr, List.getElem?_take] at hk
    split at hk
    · exact hk
    · cases hk)
  have hwr : IntKind.i64.wrap (m : Int) = m := by rw [IntKind.wrap_i64]; omega
  have hneg : ¬ ((m : Int) < 0) := by omega
  have hm0 : m ≠ 0 := by omega
  have hns : ¬ (m * q.size = 0) := Nat.mul_ne_zero hm0 (by omega)
  have hbm : m * q.bytes ≤ (i + m) * q.bytes := Nat.mul_le_mul_right _ (by omega)
  have h48i : ¬ (281474976710656 < (m : Int) * (q.bytes : Int)) := by rw [← Int.natCast_mul]; omega
  have hn : ¬ (i + m ≤ R.length) := by omega
  have h63' : ¬ (9223372036854775807 < ((i : Int) + (m : Int))) := by omega
  have hfit := growslice_fits (old := R.length) (by omega) hby
  have h48' : ¬ (281474976710656 < Builtin.nextslicecap (i + m) R.length * q.bytes) := by omega
  have hrun : (Builtin.append_ #[t, tn] o.type #[.slice (some ⟨B, 0, none⟩) i R.length, .int K m]).run P w = .ok (.slice (some ⟨w.heap.size, 0, none⟩) (i + m) (grownCap w (i + m) R.length e)) (w.drew.alloc (.cells ((R.take i).flatten.toArray ++ Builtin.zeroCells Z.cells m ++ Builtin.zeroCells Z.cells (grownCap w (i + m) R.length e - (i + m))) e)) := by
    simp [Builtin.append_, run_underlying hu, run_underlying htn, sizeOf, typeInfo, zeroValue, hi', hz, asInt, asIntOf, hwr, hneg, hns, hn, h63', h48', h48i, Question.forced, hfo, newRow, grownCap]
  have hcl : ((R.take i).flatten.toArray ++ Builtin.zeroCells Z.cells m ++ Builtin.zeroCells Z.cells (grownCap w (i + m) R.length e - (i + m))).toList.length = grownCap w (i + m) R.length e * q.size := by
    have hge : i + m ≤ grownCap w (i + m) R.length e := grownCap_ge _ _ _ _
    rw [Array.length_toList, Array.size_append, Array.size_append, size_zeroCells, size_zeroCells, hzs, List.size_toArray, hfl, ← Nat.add_mul, ← Nat.add_mul]
    congr 1
    omega
  obtain ⟨rows, k1, k2, k3⟩ := rows_of (s := q.size) _ _ hcl
  have hge : i + m ≤ grownCap w (i + m) R.length e := grownCap_ge _ _ _ _
  refine Does.of_wp (wantF_of ha hw) fun K hK => ?_
  unfold Oper.wp execOp
  simp only [ho, resolve, invoke, builtin, Sem.run_bind, Sem.run_pure, Result.andThen_ok, List.map_toArray, List.map_cons, List.map_nil, hx, hy, hrun]
  refine hK _ _ ⟨rows, by rw [k1], by rw [k1]; exact hge, ?_, ⟨h0, k2, by rw [k1]; exact grownCap_le_maxLen _ _ _ _ (by unfold maxLen; omega), e, ?_⟩, below_alloc (below_draws (Below.refl _ _) 1) _, ?_⟩
  · refine flat_inj (s := q.size) (fun r hr' => k2 r (List.mem_of_mem_take hr')) hrt (by rw [List.length_take, List.length_take, k1]; omega) ?_
    rw [← flat_take i k2, k3]
    simp only [Array.toList_append]
    rw [List.append_assoc, List.take_append_of_le_length (by simpa using Nat.le_of_eq hfl.symm), List.take_of_length_le (by simpa using Nat.le_of_eq hfl)]
  · rw [show w.heap.size = w.drew.heap.size from (World.size_drew w).symm, heap_alloc_new, k3]
  · have := (below_alloc (below_draws (Below.refl w.heap.size w) 1) (.cells ((R.take i).flatten.toArray ++ Builtin.zeroCells Z.cells m ++ Builtin.zeroCells Z.cells (grownCap w (i + m) R.length e - (i + m))) e))
    rw [World.size_alloc, World.size_drew]
    omega
end
theorem ins_room {α : Type} {rs sp vs : List α} {i : Nat} (hi : i ≤ rs.length) (hm : rs.length + vs.length ≤ (rs ++ sp).length) :
    let R0 := rs ++ sp
    let R1 := R0.take (i + vs.length) ++ (((R0.drop i).take (rs.length + vs.length - i)).take (rs.length - i) ++ R0.drop (i + vs.length + (rs.length - i)))
    R1.take i ++ (vs ++ R1.drop (i + vs.length)) = (rs.take i ++ (vs ++ rs.drop i)) ++ R0.drop (rs.length + vs.length) := by
  have hl : (rs ++ sp).length = rs.length + sp.length := List.length_append
  have e1 : (((rs ++ sp).drop i).take (rs.length + vs.length - i)).take (rs.length - i) = rs.drop i := by
    rw [List.take_take, show min (rs.length - i) (rs.length + vs.length - i) = rs.length - i by omega, List.drop_append_of_le_length hi, List.take_append_of_le_length (by rw [List.length_drop]; omega), List.take_of_length_le (by rw [List.length_drop]; omega)]
  have l1 : ((rs ++ sp).take (i + vs.length)).length = i + vs.length := by rw [List.length_take]; omega
  simp only [e1]
  rw [List.take_append_of_le_length (by omega), List.take_take, show min i (i + vs.length) = i by omega, List.take_append_of_le_length hi]
  rw [List.drop_append, List.drop_eq_nil_of_le (by omega), List.nil_append, l1, Nat.sub_self, List.drop_zero, show i + vs.length + (rs.length - i) = rs.length + vs.length by omega]
  simp
theorem ins_grow {α : Type} {rs vs R2 : List α} {i : Nat} (hi : i ≤ rs.length) (hm : rs.length + vs.length ≤ R2.length) (ht : R2.take i = rs.take i) :
    let R3 := R2.take i ++ (vs ++ R2.drop (i + vs.length))
    R3.take (i + vs.length) ++ (rs.drop i ++ R3.drop (i + vs.length + (rs.length - i))) = (rs.take i ++ (vs ++ rs.drop i)) ++ R2.drop (rs.length + vs.length) := by
  have l1 : (rs.take i).length = i := by rw [List.length_take]; omega
  have l2 : (rs.take i ++ vs).length = i + vs.length := by rw [List.length_append, l1]
  have e0 : R2.take i ++ (vs ++ R2.drop (i + vs.length)) = (rs.take i ++ vs) ++ R2.drop (i + vs.length) := by rw [ht, List.append_assoc]
  have e1 : ((rs.take i ++ vs) ++ R2.drop (i + vs.length)).take (i + vs.length) = rs.take i ++ vs := by
    rw [List.take_append_of_le_length (by omega), List.take_of_length_le (by omega)]
  have e2 : ((rs.take i ++ vs) ++ R2.drop (i + vs.length)).drop (i + vs.length + (rs.length - i)) = R2.drop (rs.length + vs.length) := by
    have e3 : (rs.take i ++ vs).drop (i + vs.length + (rs.length - i)) = [] := List.drop_eq_nil_of_le (by omega)
    rw [List.drop_append, e3, List.nil_append, l2, List.drop_drop, show i + vs.length + (i + vs.length + (rs.length - i) - (i + vs.length)) = rs.length + vs.length by omega]
  intro R3
  rw [show R3 = (rs.take i ++ vs) ++ R2.drop (i + vs.length) from e0, e1, e2]
  simp
end Go.Proofs.YthefddclefimoaaDoor
