/- Appends of drawn regions: a literal of nothing, what is appended to it. What the program says of its types: sizes, fields, zero values. A region whose order is drawn, of which one operation ahead of the last ones writes to what the region itself has made. No program stands here. Views of a slice of one's own: parts of it, appends and clears in place. No program stands here. slices.Delete on rows of cells. What slices.Insert needs: parts of slices of one's own that overlap, the room of a slice, an append of zeros. No program stands here. slices.Insert on rows of cells: some rows, of a block of their own, into a slice of one's own. What slices.Clone leaves: nothing, or a slice of one's own; and that changes behind a base are none ahead of it. No program stands here. slices.Clone on rows of cells, and Insert and Delete on what it leaves. Operations on texts. No program stands here. Package plain; the order of addresses. Layer 5 (ids): the document's words over lists of bytes, as numbers; and what the library's words are in these. No program stands here. -/
import Derived.Lib.Overlaps
import Derived.Lib.CutLaws
import Derived.Lib.SlTrimSet
import Derived.Test.YthefddclefimoaaGreatDoorVA
namespace Go.Proofs.YthefddclefimoaaGreatDoor
open Go.RowKit
set_option linter.unusedVariables false
set_option linter.unusedSimpArgs false
/-- A literal of nothing: it has no room. -/
def NewE (s base : Nat) (u : Value) (w : World) : Prop := ∃ B, base ≤ B ∧ u = .slice (some ⟨B, 0, none⟩) 0 0 ∧ OwS s w u [] B
/-- A slice of the call's own, behind the world of the base. -/
def NewQ (s base : Nat) (rs : List (List Value)) (u : Value) (w : World) : Prop := ∃ B, base ≤ B ∧ OwS s w u rs B
theorem NewE.below {s base : Nat} {u : Value} {w w' : World} (h : NewE s base u w) (hb : Below w.heap.size w w') : NewE s base u w' := by
  obtain ⟨B, h1, h2, h3⟩ := h
  exact ⟨B, h1, h2, h3.below hb⟩
theorem NewE.le {s base n : Nat} {u : Value} {w : World} (h : NewE s base u w) (hn : n ≤ base) : NewE s n u w := by
  obtain ⟨B, h1, h2, h3⟩ := h
  exact ⟨B, Nat.le_trans hn h1, h2, h3⟩
theorem NewQ.below {s base : Nat} {rs : List (List Value)} {u : Value} {w w' : World} (h : NewQ s base rs u w) (hb : Below w.heap.size w w') : NewQ s base rs u w' := by
  obtain ⟨B, h1, h3⟩ := h
  exact ⟨B, h1, h3.below hb⟩
theorem NewQ.le {s base n : Nat} {rs : List (List Value)} {u : Value} {w : World} (h : NewQ s base rs u w) (hn : n ≤ base) : NewQ s n rs u w := by
  obtain ⟨B, h1, h3⟩ := h
  exact ⟨B, Nat.le_trans hn h1, h3⟩
section
variable {P : Program} {ops : Array Oper} {o : Oper} {N : Nat} {f : Fl} {w : World}
theorem dv_T {p : Prop} [Decidable p] (h : DV P ops o N f w (.bool (decide p))) (hp : p) : DV P ops o N f w (.bool true) := by rwa [decide_eq_true hp] at h
theorem dx_lit0E {t s bytes : Nat} (ho : o.op = .buildSlice t 0 #[]) (ht : apB P t s bytes = true) (h0 : 0 < s) (hw : wantF ops o f = some true := by rfl) : DR P ops o N f w (fun u W => Below w.heap.size w W ∧ NewE s w.heap.size u W) := fun a ha => by
  obtain ⟨e, i, Z, hu, hi, hZ, rfl, rfl, hzs⟩ := of_apB ht
  have hrun := run_buildSlice (P := P) (w := w) hu hi hZ 0 #[] (by omega) (cs := #[]) (by simp [Instr.fill])
  exact Does.of_wp (wantF_of ha hw) fun K hK => by
    unfold Oper.wp execOp
    simp only [ho, Sem.run_bind, List.map_toArray, List.map_nil, hrun, Sem.run_pure, Result.andThen_ok]
    obtain ⟨n1, n2, n3⟩ := newB_row w e []
    exact hK _ _ ⟨n2, _, Nat.le_refl _, rfl, h0, (fun r hr => by cases hr), 0, [], rfl, Nat.le_refl _, Nat.zero_le _, by simp, by simpa using n1⟩
theorem dx_apO' {t s bytes B : Nat} {x y : Operand} {v v2 : Value} {rs news : List (List Value)} {L : List Nat} (ho : o.op = .call { callee := .builtin .append, args := #[x, y], argTypes := #[t, t] }) (ht : apB P t s bytes = true) (hx : ev f x = some v) (hy : ev f y = some v2)
    (h : OwS s w v rs B) (h2 : RdF s L w v2 news) (h1 : ∀ r ∈ news, ∀ u ∈ r, u.oneCell' = true) (hm : rs.length + news.length ≤ maxLen) (hby : (rs.length + news.length) * bytes ≤ 140737488355328) (hw : wantF ops o f = some true := by rfl) : DR P ops o N f w (GrO s B w (rs ++ news)) := fun a ha => by
  obtain ⟨e, i, Z, hu, hi, hz, rfl, rfl, hzs⟩ := of_apB ht
  have hx := ha.ev hx
  have hy := ha.ev hy
  obtain ⟨v', w', B', hr, h3, h4⟩ := run_apO (w := w) (t := t) (ty := o.type) hu hi hz hzs h h2 h1 hm hby
  exact Does.of_wp (wantF_of ha hw) fun K hK => by
    unfold Oper.wp execOp
    simp only [ho, resolve, invoke, builtin, Sem.run_bind, Sem.run_pure, Result.andThen_ok, List.map_toArray, List.map_cons, List.map_nil, hx, hy, hr]
    exact hK _ _ ⟨B', h3, h4⟩
/-- An append to a literal of nothing: nothing changes, or what comes is new. -/
theorem dx_apE {t s bytes base : Nat} {x y : Operand} {u v2 : Value} {news : List (List Value)} {L : List Nat} (ho : o.op = .call { callee := .builtin .append, args := #[x, y], argTypes := #[t, t] }) (ht : apB P t s bytes = true) (hx : ev f x = some u) (hy : ev f y = some v2)
    (h : NewE s base u w) (h2 : RdF s L w v2 news) (hm : news.length ≤ maxLen) (hby : news.length * bytes ≤ 140737488355328) (hb : base ≤ w.heap.size) (hw : wantF ops o f = some true := by rfl) : DR P ops o N f w (fun u W => Below w.heap.size w W ∧ NewQ s base news u W) := fun a ha => by
  obtain ⟨B, h3, rfl, h4⟩ := h
  by_cases hn : news = []
  · subst hn
    have ht0 := ht
    obtain ⟨e, i, Z, hu, hi, hz, rfl, rfl, hzs⟩ := of_apB ht
    have hx := ha.ev hx
    have hy := ha.ev hy
    obtain ⟨_, _, a2, cap2, rfl, hd1, hd2, hd3, hd4⟩ := h2
    have hr : (Builtin.append_ #[t, t] o.type #[.slice (some ⟨B, 0, none⟩) 0 0, .slice a2 0 cap2]).run P w = .ok (.slice (some ⟨B, 0, none⟩) 0 0) w := by
      cases a2 with
      | none => simp [Builtin.append_, run_underlying hu, sizeOf, typeInfo, hi, Builtin.lenOf, Builtin.firstCells, storeCells]
      | some a2 => simp [Builtin.append_, run_underlying hu, sizeOf, typeInfo, hi, Builtin.lenOf, Builtin.firstCells, loadCells, loadCellsFrom, storeCells]
    exact Does.of_wp (wantF_of ha hw) fun K hK => by
      unfold Oper.wp execOp
      simp only [List.length_nil] at hy
      simp only [ho, resolve, invoke, builtin, Sem.run_bind, Sem.run_pure, Result.andThen_ok, List.map_toArray, List.map_cons, List.map_nil, hx, hy, hr]
      exact hK _ _ ⟨Below.refl _ _, B, h3, h4⟩
  · have hrd : RdF s [] w (.slice (some ⟨B, 0, none⟩) ([] : List (List Value)).length ([] : List (List Value)).length) [] := h4.rd (by simp)
    have := dx_apF (N := N) (f := f) (P := P) (ops := ops) (o := o) (w := w) (s := s) (rs := []) (news := news) (L := []) ho ht hx hy hrd (h2.less (by simp)) hn (by simpa using hm) (by simpa using hby) hw
    exact (this.mono fun v W' h => ⟨h.2.1, _, hb, by simpa using h.1⟩) a ha
end
end Go.Proofs.YthefddclefimoaaGreatDoor
namespace Go.Proofs.YthefddclefimoaaGreatDoor
set_option linter.unusedVariables false
set_option maxRecDepth 8000
theorem ty_one_1 : oneB Tryz.prog 1 = true := by kernel_rfl
theorem ty_size_1_1 : sizeB Tryz.prog 1 1 = true := by kernel_rfl
theorem ty_one_2 : oneB Tryz.prog 2 = true := by kernel_rfl
theorem ty_size_2_1 : sizeB Tryz.prog 2 1 = true := by kernel_rfl
theorem ty_zero_2 : (Tryz.prog.info? 2).bind (·.zero) = some (.int .i64 0) := by kernel_rfl
theorem ty_one_3 : oneB Tryz.prog 3 = true := by kernel_rfl
theorem ty_size_3_1 : sizeB Tryz.prog 3 1 = true := by kernel_rfl
theorem ty_zero_3 : (Tryz.prog.info? 3).bind (·.zero) = some (.int .i64 0) := by kernel_rfl
theorem ty_one_4 : oneB Tryz.prog 4 = true := by kernel_rfl
theorem ty_size_4_1 : sizeB Tryz.prog 4 1 = true := by kernel_rfl
theorem ty_zero_4 : (Tryz.prog.info? 4).bind (·.zero) = some (.bool false) := by kernel_rfl
theorem ty_one_5 : oneB Tryz.prog 5 = true := by kernel_rfl
theorem ty_size_5_1 : sizeB Tryz.prog 5 1 = true := by kernel_rfl
theorem ty_zero_5 : (Tryz.prog.info? 5).bind (·.zero) = some (.int .u8 0) := by kernel_rfl
theorem ty_one_6 : oneB Tryz.prog 6 = true := by kernel_rfl
theorem ty_size_6_1 : sizeB Tryz.prog 6 1 = true := by kernel_rfl
theorem ty_zero_6 : (Tryz.prog.info? 6).bind (·.zero) = some (.int .u8 0) := by kernel_rfl
theorem ty_agg_7_4 : aggB Tryz.prog 7 4 = true := by kernel_rfl
theorem ty_size_7_4 : sizeB Tryz.prog 7 4 = true := by kernel_rfl
theorem ty_fld_7_0_0 : fldB Tryz.prog 7 0 0 = true := by kernel_rfl
theorem ty_fld_7_1_1 : fldB Tryz.prog 7 1 1 = true := by kernel_rfl
theorem ty_fld_7_2_2 : fldB Tryz.prog 7 2 2 = true := by kernel_rfl
theorem ty_fld_7_3_3 : fldB Tryz.prog 7 3 3 = true := by kernel_rfl
theorem ty_zero_7 : (Tryz.prog.info? 7).bind (·.zero) = some (.agg #[.int .i64 0, .int .i64 0, .bool false, .int .u8 0]) := by kernel_rfl
theorem ty_agg_8_4 : aggB Tryz.prog 8 4 = true := by kernel_rfl
theorem ty_size_8_4 : sizeB Tryz.prog 8 4 = true := by kernel_rfl
theorem ty_fld_8_0_0 : fldB Tryz.prog 8 0 0 = true := by kernel_rfl
theorem ty_fld_8_1_1 : fldB Tryz.prog 8 1 1 = true := by kernel_rfl
theorem ty_fld_8_2_2 : fldB Tryz.prog 8 2 2 = true := by kernel_rfl
theorem ty_fld_8_3_3 : fldB Tryz.prog 8 3 3 = true := by kernel_rfl
theorem ty_zero_8 : (Tryz.prog.info? 8).bind (·.zero) = some (.agg #[.int .i64 0, .int .i64 0, .bool false, .int .u8 0]) := by kernel_rfl
theorem ty_one_9 : oneB Tryz.prog 9 = true := by kernel_rfl
theorem ty_size_9_1 : sizeB Tryz.prog 9 1 = true := by kernel_rfl
theorem ty_zero_9 : (Tryz.prog.info? 9).bind (·.zero) = some (.string ⟨#[]⟩) := by kernel_rfl
theorem ty_one_10 : oneB Tryz.prog 10 = true := by kernel_rfl
theorem ty_size_10_1 : sizeB Tryz.prog 10 1 = true := by kernel_rfl
theorem ty_zero_10 : (Tryz.prog.info? 10).bind (·.zero) = some (.string ⟨#[]⟩) := by kernel_rfl
theorem ty_one_11 : oneB Tryz.prog 11 = true := by kernel_rfl
theorem ty_size_11_1 : sizeB Tryz.prog 11 1 = true := by kernel_rfl
theorem ty_zero_11 : (Tryz.prog.info? 11).bind (·.zero) = some (.string ⟨#[]⟩) := by kernel_rfl
theorem ty_one_12 : oneB Tryz.prog 12 = true := by kernel_rfl
theorem ty_size_12_1 : sizeB Tryz.prog 12 1 = true := by kernel_rfl
theorem ty_zero_12 : (Tryz.prog.info? 12).bind (·.zero) = some (.int .u64 0) := by kernel_rfl
theorem ty_agg_13_2 : aggB Tryz.prog 13 2 = true := by kernel_rfl
theorem ty_size_13_2 : sizeB Tryz.prog 13 2 = true := by kernel_rfl
theorem ty_fld_13_0_0 : fldB Tryz.prog 13 0 0 = true := by kernel_rfl
theorem ty_fld_13_1_1 : fldB Tryz.prog 13 1 1 = true := by kernel_rfl
theorem ty_zero_13 : (Tryz.prog.info? 13).bind (·.zero) = some (.agg #[.string ⟨#[]⟩, .int .u64 0]) := by kernel_rfl
theorem ty_agg_14_2 : aggB Tryz.prog 14 2 = true := by kernel_rfl
theorem ty_size_14_2 : sizeB Tryz.prog 14 2 = true := by kernel_rfl
theorem ty_fld_14_0_0 : fldB Tryz.prog 14 0 0 = true := by kernel_rfl
theorem ty_fld_14_1_1 : fldB Tryz.prog 14 1 1 = true := by kernel_rfl
theorem ty_zero_14 : (Tryz.prog.info? 14).bind (·.zero) = some (.agg #[.string ⟨#[]⟩, .int .u64 0]) := by kernel_rfl
theorem ty_one_21 : oneB Tryz.prog 21 = true := by kernel_rfl
theorem ty_size_21_1 : sizeB Tryz.prog 21 1 = true := by kernel_rfl
theorem ty_zero_21 : (Tryz.prog.info? 21).bind (·.zero) = some (.int .i32 0) := by kernel_rfl
theorem ty_one_22 : oneB Tryz.prog 22 = true := by kernel_rfl
theorem ty_size_22_1 : sizeB Tryz.prog 22 1 = true := by kernel_rfl
theorem ty_slice_22 : sliceB Tryz.prog 22 3 = true := by kernel_rfl
theorem ty_ap_22 : apB Tryz.prog 22 3 56 = true := by kernel_rfl
theorem ty_zero_22 : (Tryz.prog.info? 22).bind (·.zero) = some (.slice none 0 0) := by kernel_rfl
theorem ty_one_23 : oneB Tryz.prog 23 = true := by kernel_rfl
theorem ty_size_23_1 : sizeB Tryz.prog 23 1 = true := by kernel_rfl
theorem ty_one_24 : oneB Tryz.prog 24 = true := by kernel_rfl
theorem ty_size_24_1 : sizeB Tryz.prog 24 1 = true := by kernel_rfl
theorem ty_one_25 : oneB Tryz.prog 25 = true := by kernel_rfl
theorem ty_size_25_1 : sizeB Tryz.prog 25 1 = true := by kernel_rfl
theorem ty_one_26 : oneB Tryz.prog 26 = true := by kernel_rfl
theorem ty_size_26_1 : sizeB Tryz.prog 26 1 = true := by kernel_rfl
theorem ty_zero_26 : (Tryz.prog.info? 26).bind (·.zero) = some (.int .i64 0) := by kernel_rfl
theorem ty_one_28 : oneB Tryz.prog 28 = true := by kernel_rfl
theorem ty_size_28_1 : sizeB Tryz.prog 28 1 = true := by kernel_rfl
theorem ty_one_29 : oneB Tryz.prog 29 = true := by kernel_rfl
theorem ty_size_29_1 : sizeB Tryz.prog 29 1 = true := by kernel_rfl
theorem ty_one_31 : oneB Tryz.prog 31 = true := by kernel_rfl
theorem ty_size_31_1 : sizeB Tryz.prog 31 1 = true := by kernel_rfl
theorem ty_one_32 : oneB Tryz.prog 32 = true := by kernel_rfl
theorem ty_size_32_1 : sizeB Tryz.prog 32 1 = true := by kernel_rfl
theorem ty_one_33 : oneB Tryz.prog 33 = true := by kernel_rfl
theorem ty_size_33_1 : sizeB Tryz.prog 33 1 = true := by kernel_rfl
theorem ty_one_34 : oneB Tryz.prog 34 = true := by kernel_rfl
theorem ty_size_34_1 : sizeB Tryz.prog 34 1 = true := by kernel_rfl
theorem ty_slice_34 : sliceB Tryz.prog 34 1 = true := by kernel_rfl
theorem ty_ap_34 : apB Tryz.prog 34 1 16 = true := by kernel_rfl
theorem ty_zero_34 : (Tryz.prog.info? 34).bind (·.zero) = some (.slice none 0 0) := by kernel_rfl
theorem ty_one_35 : oneB Tryz.prog 35 = true := by kernel_rfl
theorem ty_size_35_1 : sizeB Tryz.prog 35 1 = true := by kernel_rfl
theorem ty_one_36 : oneB Tryz.prog 36 = true := by kernel_rfl
theorem ty_size_36_1 : sizeB Tryz.prog 36 1 = true := by kernel_rfl
theorem ty_one_37 : oneB Tryz.prog 37 = true := by kernel_rfl
theorem ty_size_37_1 : sizeB Tryz.prog 37 1 = true := by kernel_rfl
theorem ty_one_38 : oneB Tryz.prog 38 = true := by kernel_rfl
theorem ty_size_38_1 : sizeB Tryz.prog 38 1 = true := by kernel_rfl
theorem ty_slice_38 : sliceB Tryz.prog 38 4 = true := by kernel_rfl
theorem ty_ap_38 : apB Tryz.prog 38 4 56 = true := by kernel_rfl
theorem ty_zero_38 : (Tryz.prog.info? 38).bind (·.zero) = some (.slice none 0 0) := by kernel_rfl
theorem ty_agg_39_2 : aggB Tryz.prog 39 2 = true := by kernel_rfl
theorem ty_size_39_2 : sizeB Tryz.prog 39 2 = true := by kernel_rfl
theorem ty_fld_39_0_0 : fldB Tryz.prog 39 0 0 = true := by kernel_rfl
theorem ty_fld_39_1_1 : fldB Tryz.prog 39 1 1 = true := by kernel_rfl
theorem ty_zero_39 : (Tryz.prog.info? 39).bind (·.zero) = some (.agg #[.string ⟨#[]⟩, .string ⟨#[]⟩]) := by kernel_rfl
theorem ty_agg_40_2 : aggB Tryz.prog 40 2 = true := by kernel_rfl
theorem ty_size_40_2 : sizeB Tryz.prog 40 2 = true := by kernel_rfl
theorem ty_fld_40_0_0 : fldB Tryz.prog 40 0 0 = true := by kernel_rfl
theorem ty_fld_40_1_1 : fldB Tryz.prog 40 1 1 = true := by kernel_rfl
theorem ty_zero_40 : (Tryz.prog.info? 40).bind (·.zero) = some (.agg #[.string ⟨#[]⟩, .string ⟨#[]⟩]) := by kernel_rfl
theorem ty_agg_41_4 : aggB Tryz.prog 41 4 = true := by kernel_rfl
theorem ty_size_41_4 : sizeB Tryz.prog 41 4 = true := by kernel_rfl
theorem ty_fld_41_0_0 : fldB Tryz.prog 41 0 0 = true := by kernel_rfl
theorem ty_fld_41_1_2 : fldB Tryz.prog 41 1 2 = true := by kernel_rfl
theorem ty_fld_41_2_3 : fldB Tryz.prog 41 2 3 = true := by kernel_rfl
theorem ty_zero_41 : (Tryz.prog.info? 41).bind (·.zero) = some (.agg #[.string ⟨#[]⟩, .string ⟨#[]⟩, .string ⟨#[]⟩, .int .i64 0]) := by kernel_rfl
theorem ty_agg_42_4 : aggB Tryz.prog 42 4 = true := by kernel_rfl
theorem ty_size_42_4 : sizeB Tryz.prog 42 4 = true := by kernel_rfl
theorem ty_fld_42_0_0 : fldB Tryz.prog 42 0 0 = true := by kernel_rfl
theorem ty_fld_42_1_2 : fldB Tryz.prog 42 1 2 = true := by kernel_rfl
theorem ty_fld_42_2_3 : fldB Tryz.prog 42 2 3 = true := by kernel_rfl
theorem ty_zero_42 : (Tryz.prog.info? 42).bind (·.zero) = some (.agg #[.string ⟨#[]⟩, .string ⟨#[]⟩, .string ⟨#[]⟩, .int .i64 0]) := by kernel_rfl
theorem ty_one_43 : oneB Tryz.prog 43 = true := by kernel_rfl
theorem ty_size_43_1 : sizeB Tryz.prog 43 1 = true := by kernel_rfl
theorem ty_one_45 : oneB Tryz.prog 45 = true := by kernel_rfl
theorem ty_size_45_1 : sizeB Tryz.prog 45 1 = true := by kernel_rfl
theorem ty_one_47 : oneB Tryz.prog 47 = true := by kernel_rfl
theorem ty_size_47_1 : sizeB Tryz.prog 47 1 = true := by kernel_rfl
theorem ty_one_48 : oneB Tryz.prog 48 = true := by kernel_rfl
theorem ty_size_48_1 : sizeB Tryz.prog 48 1 = true := by kernel_rfl
theorem ty_one_49 : oneB Tryz.prog 49 = true := by kernel_rfl
theorem ty_size_49_1 : sizeB Tryz.prog 49 1 = true := by kernel_rfl
theorem ty_one_50 : oneB Tryz.prog 50 = true := by kernel_rfl
theorem ty_size_50_1 : sizeB Tryz.prog 50 1 = true := by kernel_rfl
theorem ty_slice_50 : sliceB Tryz.prog 50 2 = true := by kernel_rfl
theorem ty_ap_50 : apB Tryz.prog 50 2 32 = true := by kernel_rfl
theorem ty_zero_50 : (Tryz.prog.info? 50).bind (·.zero) = some (.slice none 0 0) := by kernel_rfl
theorem ty_one_51 : oneB Tryz.prog 51 = true := by kernel_rfl
theorem ty_size_51_1 : sizeB Tryz.prog 51 1 = true := by kernel_rfl
theorem ty_one_52 : oneB Tryz.prog 52 = true := by kernel_rfl
theorem ty_size_52_1 : sizeB Tryz.prog 52 1 = true := by kernel_rfl
theorem ty_agg_53_3 : aggB Tryz.prog 53 3 = true := by kernel_rfl
theorem ty_size_53_3 : sizeB Tryz.prog 53 3 = true := by kernel_rfl
theorem ty_fld_53_0_0 : fldB Tryz.prog 53 0 0 = true := by kernel_rfl
theorem ty_fld_53_1_1 : fldB Tryz.prog 53 1 1 = true := by kernel_rfl
theorem ty_fld_53_2_2 : fldB Tryz.prog 53 2 2 = true := by kernel_rfl
theorem ty_zero_53 : (Tryz.prog.info? 53).bind (·.zero) = some (.agg #[.string ⟨#[]⟩, .string ⟨#[]⟩, .slice none 0 0]) := by kernel_rfl
theorem ty_agg_54_3 : aggB Tryz.prog 54 3 = true := by kernel_rfl
theorem ty_size_54_3 : sizeB Tryz.prog 54 3 = true := by kernel_rfl
theorem ty_fld_54_0_0 : fldB Tryz.prog 54 0 0 = true := by kernel_rfl
theorem ty_fld_54_1_1 : fldB Tryz.prog 54 1 1 = true := by kernel_rfl
theorem ty_fld_54_2_2 : fldB Tryz.prog 54 2 2 = true := by kernel_rfl
theorem ty_zero_54 : (Tryz.prog.info? 54).bind (·.zero) = some (.agg #[.string ⟨#[]⟩, .string ⟨#[]⟩, .slice none 0 0]) := by kernel_rfl
theorem ty_one_55 : oneB Tryz.prog 55 = true := by kernel_rfl
theorem ty_size_55_1 : sizeB Tryz.prog 55 1 = true := by kernel_rfl
theorem ty_one_56 : oneB Tryz.prog 56 = true := by kernel_rfl
theorem ty_size_56_1 : sizeB Tryz.prog 56 1 = true := by kernel_rfl
theorem ty_one_57 : oneB Tryz.prog 57 = true := by kernel_rfl
theorem ty_size_57_1 : sizeB Tryz.prog 57 1 = true := by kernel_rfl
theorem ty_one_58 : oneB Tryz.prog 58 = true := by kernel_rfl
theorem ty_size_58_1 : sizeB Tryz.prog 58 1 = true := by kernel_rfl
theorem ty_one_59 : oneB Tryz.prog 59 = true := by kernel_rfl
theorem ty_size_59_1 : sizeB Tryz.prog 59 1 = true := by kernel_rfl
theorem ty_one_60 : oneB Tryz.prog 60 = true := by kernel_rfl
theorem ty_size_60_1 : sizeB Tryz.prog 60 1 = true := by kernel_rfl
theorem ty_one_61 : oneB Tryz.prog 61 = true := by kernel_rfl
theorem ty_size_61_1 : sizeB Tryz.prog 61 1 = true := by kernel_rfl
theorem ty_one_63 : oneB Tryz.prog 63 = true := by kernel_rfl
theorem ty_size_63_1 : sizeB Tryz.prog 63 1 = true := by kernel_rfl
theorem ty_one_64 : oneB Tryz.prog 64 = true := by kernel_rfl
theorem ty_size_64_1 : sizeB Tryz.prog 64 1 = true := by kernel_rfl
theorem ty_one_65 : oneB Tryz.prog 65 = true := by kernel_rfl
theorem ty_size_65_1 : sizeB Tryz.prog 65 1 = true := by kernel_rfl
theorem ty_one_66 : oneB Tryz.prog 66 = true := by kernel_rfl
theorem ty_size_66_1 : sizeB Tryz.prog 66 1 = true := by kernel_rfl
theorem ty_one_67 : oneB Tryz.prog 67 = true := by kernel_rfl
theorem ty_size_67_1 : sizeB Tryz.prog 67 1 = true := by kernel_rfl
theorem ty_one_68 : oneB Tryz.prog 68 = true := by kernel_rfl
theorem ty_size_68_1 : sizeB Tryz.prog 68 1 = true := by kernel_rfl
theorem ty_one_69 : oneB Tryz.prog 69 = true := by kernel_rfl
theorem ty_size_69_1 : sizeB Tryz.prog 69 1 = true := by kernel_rfl
theorem ty_one_70 : oneB Tryz.prog 70 = true := by kernel_rfl
theorem ty_size_70_1 : sizeB Tryz.prog 70 1 = true := by kernel_rfl
theorem ty_one_71 : oneB Tryz.prog 71 = true := by kernel_rfl
theorem ty_size_71_1 : sizeB Tryz.prog 71 1 = true := by kernel_rfl
theorem ty_one_72 : oneB Tryz.prog 72 = true := by kernel_rfl
theorem ty_size_72_1 : sizeB Tryz.prog 72 1 = true := by kernel_rfl
theorem ty_one_73 : oneB Tryz.prog 73 = true := by kernel_rfl
theorem ty_size_73_1 : sizeB Tryz.prog 73 1 = true := by kernel_rfl
theorem ty_one_75 : oneB Tryz.prog 75 = true := by kernel_rfl
theorem ty_size_75_1 : sizeB Tryz.prog 75 1 = true := by kernel_rfl
theorem ty_one_76 : oneB Tryz.prog 76 = true := by kernel_rfl
theorem ty_size_76_1 : sizeB Tryz.prog 76 1 = true := by kernel_rfl
theorem ty_one_77 : oneB Tryz.prog 77 = true := by kernel_rfl
theorem ty_size_77_1 : sizeB Tryz.prog 77 1 = true := by kernel_rfl
theorem ty_one_78 : oneB Tryz.prog 78 = true := by kernel_rfl
theorem ty_size_78_1 : sizeB Tryz.prog 78 1 = true := by kernel_rfl
theorem ty_one_79 : oneB Tryz.prog 79 = true := by kernel_rfl
theorem ty_size_79_1 : sizeB Tryz.prog 79 1 = true := by kernel_rfl
theorem ty_one_80 : oneB Tryz.prog 80 = true := by kernel_rfl
theorem ty_size_80_1 : sizeB Tryz.prog 80 1 = true := by kernel_rfl
theorem ty_one_81 : oneB Tryz.prog 81 = true := by kernel_rfl
theorem ty_size_81_1 : sizeB Tryz.prog 81 1 = true := by kernel_rfl
theorem ty_one_82 : oneB Tryz.prog 82 = true := by kernel_rfl
theorem ty_size_82_1 : sizeB Tryz.prog 82 1 = true := by kernel_rfl
theorem ty_one_83 : oneB Tryz.prog 83 = true := by kernel_rfl
theorem ty_size_83_1 : sizeB Tryz.prog 83 1 = true := by kernel_rfl
theorem ty_one_85 : oneB Tryz.prog 85 = true := by kernel_rfl
theorem ty_size_85_1 : sizeB Tryz.prog 85 1 = true := by kernel_rfl
theorem ty_one_86 : oneB Tryz.prog 86 = true := by kernel_rfl
theorem ty_size_86_1 : sizeB Tryz.prog 86 1 = true := by kernel_rfl
theorem ty_slice_86 : sliceB Tryz.prog 86 1 = true := by kernel_rfl
theorem ty_ap_86 : apB Tryz.prog 86 1 24 = true := by kernel_rfl
theorem ty_zero_86 : (Tryz.prog.info? 86).bind (·.zero) = some (.slice none 0 0) := by kernel_rfl
theorem ty_one_87 : oneB Tryz.prog 87 = true := by kernel_rfl
theorem ty_size_87_1 : sizeB Tryz.prog 87 1 = true := by kernel_rfl
theorem ty_one_88 : oneB Tryz.prog 88 = true := by kernel_rfl
theorem ty_size_88_1 : sizeB Tryz.prog 88 1 = true := by kernel_rfl
theorem ty_one_89 : oneB Tryz.prog 89 = true := by kernel_rfl
theorem ty_size_89_1 : sizeB Tryz.prog 89 1 = true := by kernel_rfl
theorem ty_one_90 : oneB Tryz.prog 90 = true := by kernel_rfl
theorem ty_size_90_1 : sizeB Tryz.prog 90 1 = true := by kernel_rfl
theorem ty_zero_90 : (Tryz.prog.info? 90).bind (·.zero) = some (.int .u64 0) := by kernel_rfl
theorem ty_one_91 : oneB Tryz.prog 91 = true := by kernel_rfl
theorem ty_size_91_1 : sizeB Tryz.prog 91 1 = true := by kernel_rfl
theorem ty_one_92 : oneB Tryz.prog 92 = true := by kernel_rfl
theorem ty_size_92_1 : sizeB Tryz.prog 92 1 = true := by kernel_rfl
theorem ty_one_93 : oneB Tryz.prog 93 = true := by kernel_rfl
theorem ty_size_93_1 : sizeB Tryz.prog 93 1 = true := by kernel_rfl
theorem ty_one_94 : oneB Tryz.prog 94 = true := by kernel_rfl
theorem ty_size_94_1 : sizeB Tryz.prog 94 1 = true := by kernel_rfl
theorem ty_one_95 : oneB Tryz.prog 95 = true := by kernel_rfl
theorem ty_size_95_1 : sizeB Tryz.prog 95 1 = true := by kernel_rfl
theorem ty_one_96 : oneB Tryz.prog 96 = true := by kernel_rfl
theorem ty_size_96_1 : sizeB Tryz.prog 96 1 = true := by kernel_rfl
theorem ty_one_97 : oneB Tryz.prog 97 = true := by kernel_rfl
theorem ty_size_97_1 : sizeB Tryz.prog 97 1 = true := by kernel_rfl
theorem ty_one_98 : oneB Tryz.prog 98 = true := by kernel_rfl
theorem ty_size_98_1 : sizeB Tryz.prog 98 1 = true := by kernel_rfl
theorem ty_one_99 : oneB Tryz.prog 99 = true := by kernel_rfl
theorem ty_size_99_1 : sizeB Tryz.prog 99 1 = true := by kernel_rfl
theorem ty_one_100 : oneB Tryz.prog 100 = true := by kernel_rfl
theorem ty_size_100_1 : sizeB Tryz.prog 100 1 = true := by kernel_rfl
theorem ty_one_101 : oneB Tryz.prog 101 = true := by kernel_rfl
theorem ty_size_101_1 : sizeB Tryz.prog 101 1 = true := by kernel_rfl
theorem ty_one_102 : oneB Tryz.prog 102 = true := by kernel_rfl
theorem ty_size_102_1 : sizeB Tryz.prog 102 1 = true := by kernel_rfl
theorem ty_zero_102 : (Tryz.prog.info? 102).bind (·.zero) = some (.int .i64 0) := by kernel_rfl
theorem ty_one_104 : oneB Tryz.prog 104 = true := by kernel_rfl
theorem ty_size_104_1 : sizeB Tryz.prog 104 1 = true := by kernel_rfl
theorem ty_one_105 : oneB Tryz.prog 105 = true := by kernel_rfl
theorem ty_size_105_1 : sizeB Tryz.prog 105 1 = true := by kernel_rfl
theorem ty_one_106 : oneB Tryz.prog 106 = true := by kernel_rfl
theorem ty_size_106_1 : sizeB Tryz.prog 106 1 = true := by kernel_rfl
theorem ty_one_107 : oneB Tryz.prog 107 = true := by kernel_rfl
theorem ty_size_107_1 : sizeB Tryz.prog 107 1 = true := by kernel_rfl
theorem ty_one_108 : oneB Tryz.prog 108 = true := by kernel_rfl
theorem ty_size_108_1 : sizeB Tryz.prog 108 1 = true := by kernel_rfl
theorem ty_one_109 : oneB Tryz.prog 109 = true := by kernel_rfl
theorem ty_size_109_1 : sizeB Tryz.prog 109 1 = true := by kernel_rfl
theorem ty_one_110 : oneB Tryz.prog 110 = true := by kernel_rfl
theorem ty_size_110_1 : sizeB Tryz.prog 110 1 = true := by kernel_rfl
theorem ty_zero_110 : (Tryz.prog.info? 110).bind (·.zero) = some (.int .u32 0) := by kernel_rfl
theorem ty_one_111 : oneB Tryz.prog 111 = true := by kernel_rfl
theorem ty_size_111_1 : sizeB Tryz.prog 111 1 = true := by kernel_rfl
theorem ty_one_112 : oneB Tryz.prog 112 = true := by kernel_rfl
theorem ty_size_112_1 : sizeB Tryz.prog 112 1 = true := by kernel_rfl
theorem ty_zero_112 : (Tryz.prog.info? 112).bind (·.zero) = some (.int .u64 0) := by kernel_rfl
theorem ty_one_114 : oneB Tryz.prog 114 = true := by kernel_rfl
theorem ty_size_114_1 : sizeB Tryz.prog 114 1 = true := by kernel_rfl
theorem ty_one_115 : oneB Tryz.prog 115 = true := by kernel_rfl
theorem ty_size_115_1 : sizeB Tryz.prog 115 1 = true := by kernel_rfl
theorem ty_one_116 : oneB Tryz.prog 116 = true := by kernel_rfl
theorem ty_size_116_1 : sizeB Tryz.prog 116 1 = true := by kernel_rfl
theorem ty_zero_116 : (Tryz.prog.info? 116).bind (·.zero) = some (.int .u64 0) := by kernel_rfl
theorem ty_one_117 : oneB Tryz.prog 117 = true := by kernel_rfl
theorem ty_size_117_1 : sizeB Tryz.prog 117 1 = true := by kernel_rfl
theorem ty_one_118 : oneB Tryz.prog 118 = true := by kernel_rfl
theorem ty_size_118_1 : sizeB Tryz.prog 118 1 = true := by kernel_rfl
theorem ty_one_119 : oneB Tryz.prog 119 = true := by kernel_rfl
theorem ty_size_119_1 : sizeB Tryz.prog 119 1 = true := by kernel_rfl
theorem ty_one_121 : oneB Tryz.prog 121 = true := by kernel_rfl
theorem ty_size_121_1 : sizeB Tryz.prog 121 1 = true := by kernel_rfl
theorem ty_one_122 : oneB Tryz.prog 122 = true := by kernel_rfl
theorem ty_size_122_1 : sizeB Tryz.prog 122 1 = true := by kernel_rfl
theorem ty_one_123 : oneB Tryz.prog 123 = true := by kernel_rfl
theorem ty_size_123_1 : sizeB Tryz.prog 123 1 = true := by kernel_rfl
theorem ty_one_124 : oneB Tryz.prog 124 = true := by kernel_rfl
theorem ty_size_124_1 : sizeB Tryz.prog 124 1 = true := by kernel_rfl
theorem ty_one_125 : oneB Tryz.prog 125 = true := by kernel_rfl
theorem ty_size_125_1 : sizeB Tryz.prog 125 1 = true := by kernel_rfl
theorem ty_one_126 : oneB Tryz.prog 126 = true := by kernel_rfl
theorem ty_size_126_1 : sizeB Tryz.prog 126 1 = true := by kernel_rfl
theorem ty_one_129 : oneB Tryz.prog 129 = true := by kernel_rfl
theorem ty_size_129_1 : sizeB Tryz.prog 129 1 = true := by kernel_rfl
theorem ty_one_130 : oneB Tryz.prog 130 = true := by kernel_rfl
theorem ty_size_130_1 : sizeB Tryz.prog 130 1 = true := by kernel_rfl
theorem ty_agg_131_2 : aggB Tryz.prog 131 2 = true := by kernel_rfl
theorem ty_size_131_2 : sizeB Tryz.prog 131 2 = true := by kernel_rfl
theorem ty_fld_131_0_0 : fldB Tryz.prog 131 0 0 = true := by kernel_rfl
theorem ty_fld_131_1_1 : fldB Tryz.prog 131 1 1 = true := by kernel_rfl
theorem ty_zero_131 : (Tryz.prog.info? 131).bind (·.zero) = some (.agg #[.string ⟨#[]⟩, .string ⟨#[]⟩]) := by kernel_rfl
theorem ty_agg_132_2 : aggB Tryz.prog 132 2 = true := by kernel_rfl
theorem ty_size_132_2 : sizeB Tryz.prog 132 2 = true := by kernel_rfl
theorem ty_fld_132_0_0 : fldB Tryz.prog 132 0 0 = true := by kernel_rfl
theorem ty_fld_132_1_1 : fldB Tryz.prog 132 1 1 = true := by kernel_rfl
theorem ty_zero_132 : (Tryz.prog.info? 132).bind (·.zero) = some (.agg #[.string ⟨#[]⟩, .string ⟨#[]⟩]) := by kernel_rfl
theorem ty_one_135 : oneB Tryz.prog 135 = true := by kernel_rfl
theorem ty_size_135_1 : sizeB Tryz.prog 135 1 = true := by kernel_rfl
theorem ty_one_137 : oneB Tryz.prog 137 = true := by kernel_rfl
theorem ty_size_137_1 : sizeB Tryz.prog 137 1 = true := by kernel_rfl
theorem ty_one_138 : oneB Tryz.prog 138 = true := by kernel_rfl
theorem ty_size_138_1 : sizeB Tryz.prog 138 1 = true := by kernel_rfl
theorem ty_one_140 : oneB Tryz.prog 140 = true := by kernel_rfl
theorem ty_size_140_1 : sizeB Tryz.prog 140 1 = true := by kernel_rfl
theorem ty_one_141 : oneB Tryz.prog 141 = true := by kernel_rfl
theorem ty_size_141_1 : sizeB Tryz.prog 141 1 = true := by kernel_rfl
theorem ty_one_142 : oneB Tryz.prog 142 = true := by kernel_rfl
theorem ty_size_142_1 : sizeB Tryz.prog 142 1 = true := by kernel_rfl
theorem ty_agg_143_256 : aggB Tryz.prog 143 256 = true := by kernel_rfl
theorem ty_size_143_256 : sizeB Tryz.prog 143 256 = true := by kernel_rfl
theorem ty_agg_144_256 : aggB Tryz.prog 144 256 = true := by kernel_rfl
theorem ty_size_144_256 : sizeB Tryz.prog 144 256 = true := by kernel_rfl
theorem ty_one_146 : oneB Tryz.prog 146 = true := by kernel_rfl
theorem ty_size_146_1 : sizeB Tryz.prog 146 1 = true := by kernel_rfl
theorem ty_one_147 : oneB Tryz.prog 147 = true := by kernel_rfl
theorem ty_size_147_1 : sizeB Tryz.prog 147 1 = true := by kernel_rfl
theorem ty_one_149 : oneB Tryz.prog 149 = true := by kernel_rfl
theorem ty_size_149_1 : sizeB Tryz.prog 149 1 = true := by kernel_rfl
theorem ty_slice_149 : sliceB Tryz.prog 149 1 = true := by kernel_rfl
theorem ty_ap_149 : apB Tryz.prog 149 1 1 = true := by kernel_rfl
theorem ty_zero_149 : (Tryz.prog.info? 149).bind (·.zero) = some (.slice none 0 0) := by kernel_rfl
theorem ty_one_151 : oneB Tryz.prog 151 = true := by kernel_rfl
theorem ty_size_151_1 : sizeB Tryz.prog 151 1 = true := by kernel_rfl
theorem ty_one_153 : oneB Tryz.prog 153 = true := by kernel_rfl
theorem ty_size_153_1 : sizeB Tryz.prog 153 1 = true := by kernel_rfl
theorem ty_one_154 : oneB Tryz.prog 154 = true := by kernel_rfl
theorem ty_size_154_1 : sizeB Tryz.prog 154 1 = true := by kernel_rfl
theorem ty_one_155 : oneB Tryz.prog 155 = true := by kernel_rfl
theorem ty_size_155_1 : sizeB Tryz.prog 155 1 = true := by kernel_rfl
theorem ty_agg_156_256 : aggB Tryz.prog 156 256 = true := by kernel_rfl
theorem ty_size_156_256 : sizeB Tryz.prog 156 256 = true := by kernel_rfl
theorem ty_zero_156 : (Tryz.prog.info? 156).bind (·.zero) = some (.agg (Array.replicate 256 (.int .u8 0))) := by kernel_rfl
theorem ty_agg_157_2 : aggB Tryz.prog 157 2 = true := by kernel_rfl
theorem ty_size_157_2 : sizeB Tryz.prog 157 2 = true := by kernel_rfl
theorem ty_fld_157_0_0 : fldB Tryz.prog 157 0 0 = true := by kernel_rfl
theorem ty_fld_157_1_1 : fldB Tryz.prog 157 1 1 = true := by kernel_rfl
theorem ty_zero_157 : (Tryz.prog.info? 157).bind (·.zero) = some (.agg #[.int .u8 0, .int .u8 0]) := by kernel_rfl
theorem ty_agg_158_2 : aggB Tryz.prog 158 2 = true := by kernel_rfl
theorem ty_size_158_2 : sizeB Tryz.prog 158 2 = true := by kernel_rfl
theorem ty_fld_158_0_0 : fldB Tryz.prog 158 0 0 = true := by kernel_rfl
theorem ty_fld_158_1_1 : fldB Tryz.prog 158 1 1 = true := by kernel_rfl
theorem ty_zero_158 : (Tryz.prog.info? 158).bind (·.zero) = some (.agg #[.int .u8 0, .int .u8 0]) := by kernel_rfl
theorem ty_agg_159_32 : aggB Tryz.prog 159 32 = true := by kernel_rfl
theorem ty_size_159_32 : sizeB Tryz.prog 159 32 = true := by kernel_rfl
theorem ty_zero_159 : (Tryz.prog.info? 159).bind (·.zero) = some (.agg #[.int .u8 0, .int .u8 0, .int .u8 0, .int .u8 0, .int .u8 0, .int .u8 0, .int .u8 0, .int .u8 0, .int .u8 0, .int .u8 0, .int .u8 0, .int .u8 0, .int .u8 0, .int .u8 0, .int .u8 0, .int .u8 0, .int .u8 0, .int .u8 0, .int .u8 0, .int .u8 0, .int .u8 0, .int .u8 0, .int .u8 0, .int .u8 0, .int .u8 0, .int .u8 0, .int .u8 0, .int .u8 0, .int .u8 0, .int .u8 0, .int .u8 0, .int .u8 0]) := by kernel_rfl
theorem ty_one_160 : oneB Tryz.prog 160 = true := by kernel_rfl
theorem ty_size_160_1 : sizeB Tryz.prog 160 1 = true := by kernel_rfl
theorem ty_one_161 : oneB Tryz.prog 161 = true := by kernel_rfl
theorem ty_size_161_1 : sizeB Tryz.prog 161 1 = true := by kernel_rfl
theorem ty_one_167 : oneB Tryz.prog 167 = true := by kernel_rfl
theorem ty_size_167_1 : sizeB Tryz.prog 167 1 = true := by kernel_rfl
theorem ty_one_168 : oneB Tryz.prog 168 = true := by kernel_rfl
theorem ty_size_168_1 : sizeB Tryz.prog 168 1 = true := by kernel_rfl
theorem ty_zero_168 : (Tryz.prog.info? 168).bind (·.zero) = some (.int .u8 0) := by kernel_rfl
theorem ty_one_169 : oneB Tryz.prog 169 = true := by kernel_rfl
theorem ty_size_169_1 : sizeB Tryz.prog 169 1 = true := by kernel_rfl
theorem ty_zero_169 : (Tryz.prog.info? 169).bind (·.zero) = some (.int .u8 0) := by kernel_rfl
theorem ty_one_170 : oneB Tryz.prog 170 = true := by kernel_rfl
theorem ty_size_170_1 : sizeB Tryz.prog 170 1 = true := by kernel_rfl
theorem ty_one_172 : oneB Tryz.prog 172 = true := by kernel_rfl
theorem ty_size_172_1 : sizeB Tryz.prog 172 1 = true := by kernel_rfl
theorem ty_zero_172 : (Tryz.prog.info? 172).bind (·.zero) = some (.int .i32 0) := by kernel_rfl
theorem ty_one_173 : oneB Tryz.prog 173 = true := by kernel_rfl
theorem ty_size_173_1 : sizeB Tryz.prog 173 1 = true := by kernel_rfl
theorem ty_zero_173 : (Tryz.prog.info? 173).bind (·.zero) = some (.int .i32 0) := by kernel_rfl
end Go.Proofs.YthefddclefimoaaGreatDoor
namespace Go.Proofs.YthefddclefimoaaGreatDoor
open Go.RowKit
set_option linter.unusedVariables false
set_option linter.unusedSimpArgs false
/-- What the facts keep when the writer runs. -/
def VS.monoR (rel : World → World → Prop) : List (Option Tmp × VS) → Prop
  | [] => True
  | (_, .is _) :: l => VS.monoR rel l
  | (_, .by p) :: l => (∀ u W W', rel W W' → p u W → p u W') ∧ VS.monoR rel l
theorem monoR_at {rel : World → World → Prop} : ∀ {sd : List (Option Tmp × VS)}, VS.monoR rel sd → ∀ {j : Nat} {d : Option Tmp} {p : Value → World → Prop}, sd[j]? = some (d, .by p) → ∀ u W W', rel W W' → p u W → p u W'
  | [], _, j, d, p, h => by simp at h
  | (d', .is v) :: l, hm, j, d, p, h => by
    cases j with
    | zero => simp at h
    | succ j => exact monoR_at (sd := l) hm (by simpa using h)
  | (d', .by q) :: l, hm, j, d, p, h => by
    cases j with
    | zero =>
      simp only [List.getElem?_cons_zero, Option.some.injEq, Prod.mk.injEq, VS.by.injEq] at h
      rw [← h.2]
      exact hm.1
    | succ j => exact monoR_at (sd := l) hm.2 (by simpa using h)
/-- The steps, of which the one with number s writes to what the one with number t has made. -/
def DStepsR (P : Program) (ops : Array Oper) (N : Nat) (w0 : World) (sd : List (Option Tmp × VS)) (dl : List (List Nat)) (f : Fl) (s t dt : Nat) (pt q : Value → World → Prop) (rel : World → World → Prop) : Nat → List Oper → Prop
  | _, [] => True
  | k, o :: l => (if k = s then ∀ W, Below w0.heap.size w0 W → ∀ ut, pt ut W → DStep P ops o N W (sd.set t (some dt, .is ut)) (fun v W' => rel W W' ∧ q ut W') ((dl[k]?).getD []) f
      else ∀ W, Below w0.heap.size w0 W → DStep P ops o N W sd (fun v W' => Below W.heap.size W W' ∧ okAt sd k v W') ((dl[k]?).getD []) f) ∧ DStepsR P ops N w0 sd dl f s t dt pt q rel (k + 1) l
section
variable {P : Program} {N : Nat} {sd : List (Option Tmp × VS)} {dl : List (List Nat)}
theorem DStepsR.cons {ops : Array Oper} {w0 : World} {f : Fl} {k s t dt : Nat} {pt q : Value → World → Prop} {rel : World → World → Prop} {o : Oper} {l : List Oper} (hk : k ≠ s) (h : ∀ W, Below w0.heap.size w0 W → DStep P ops o N W sd (fun v W' => Below W.heap.size W W' ∧ okAt sd k v W') ((dl[k]?).getD []) f) (hl : DStepsR P ops N w0 sd dl f s t dt pt q rel (k + 1) l) : DStepsR P ops N w0 sd dl f s t dt pt q rel k (o :: l) := ⟨by rw [if_neg hk]; exact h, hl⟩
theorem DStepsR.hit {ops : Array Oper} {w0 : World} {f : Fl} {s t dt : Nat} {pt q : Value → World → Prop} {rel : World → World → Prop} {o : Oper} {l : List Oper} (h : ∀ W, Below w0.heap.size w0 W → ∀ ut, pt ut W → DStep P ops o N W (sd.set t (some dt, .is ut)) (fun v W' => rel W W' ∧ q ut W') ((dl[s]?).getD []) f) (hl : DStepsR P ops N w0 sd dl f s t dt pt q rel (s + 1) l) : DStepsR P ops N w0 sd dl f s t dt pt q rel s (o :: l) := ⟨by rw [if_pos rfl]; exact h, hl⟩
theorem okAt_set {t dt : Nat} {u : Value} {j : Nat} (hj : j ≠ t) (v : Value) (W : World) : okAt (sd.set t (some dt, .is u)) j v W = okAt sd j v W := by
  unfold okAt
  rw [List.getElem?_set_ne (fun e => hj e.symm)]
theorem okAt_hit {t dt : Nat} {u : Value} (ht : t < sd.length) (W : World) : okAt (sd.set t (some dt, .is u)) t u W := by
  unfold okAt
  rw [List.getElem?_set_self ht]
  rfl
theorem map_set {t dt : Nat} {s s' : VS} (ht : sd[t]? = some (some dt, s)) : (sd.set t (some dt, s')).map (·.1) = sd.map (·.1) := by
  apply List.ext_getElem?
  intro i
  rw [List.getElem?_map, List.getElem?_map]
  by_cases e : i = t
  · subst e
    rw [ht, List.getElem?_set_self (List.getElem?_eq_some_iff.1 ht).1]
    rfl
  · rw [List.getElem?_set_ne (fun h => e h.symm)]
theorem inN_set {t dt : Nat} {s s' : VS} (ht : sd[t]? = some (some dt, s)) (h : inN N sd = true) : inN N (sd.set t (some dt, s')) = true := by
  have key : ∀ (l : List (Option Tmp × VS)), inN N l = (l.map (·.1)).all fun p => match p with | some d => decide (d < N) | none => true := fun l => by
    unfold inN
    rw [List.all_map]
    rfl
  rw [key, map_set ht, ← key]
  exact h
/-- The rule. -/
theorem WC.drawR {id : Nat} {f : Fl} {w : World} {Q : Exit → Act → World → Prop} (m s t dt : Nat) (pt q : Value → World → Prop) (rel : World → World → Prop) {ops : List Oper} (sd : List (Option Tmp × VS)) (dl : List (List Nat)) (hm : P.follows .mixedOrders = true) (hb : ordB .any ops.toArray = true) (hbp : ordB .any (ops.take m).toArray = true) (htl : tailB .any ops.toArray (ops.take m).length = true) (hdl : (ops.take m).map (depsOf .any) = dl)
    (hds : (ops.take m).map (·.dst) = sd.map (·.1)) (hN : inN N sd = true) (hmono : VS.mono sd)
    (ht : sd[t]? = some (some dt, .by pt)) (hs : sd[s]? = some (none, .by fun _ _ => True)) (hts : ((dl[s]?).getD []).contains t = true) (hst' : s ≠ t) (hsm : s < m) (hrel : VS.monoR rel sd) (hq : ∀ u W W', Below W.heap.size W W' → q u W → q u W') (hbr : ∀ W W', Below w.heap.size w W → rel W W' → Below w.heap.size w W')
    (hst : DStepsR P (ops.take m).toArray N w sd dl f s t dt pt q rel 0 (ops.take m))
    (hend : ∀ W, Below w.heap.size w W → ∀ ut, pt ut W → q ut W → DEnd (fun f W => WL P ops.toArray Q N (ops.drop m) f W) W (sd.set t (some dt, .is ut)) f) : WC P N (.region id ops.toArray true) Q f w := fun a ha => by
  obtain ⟨pre, hpre⟩ : ∃ pre, pre = ops.take m := ⟨_, rfl⟩
  obtain ⟨suf, hsuf⟩ : ∃ suf, suf = ops.drop m := ⟨_, rfl⟩
  have hops : pre ++ suf = ops := by rw [hpre, hsuf]; exact List.take_append_drop m ops
  rw [← hpre] at hbp htl hdl hds hst
  rw [← hsuf] at hend
  clear hpre hsuf
  subst hops
  have hlen : dl.length = sd.length := by rw [← hdl, List.length_map, ← List.length_map (f := (·.dst)), hds, List.length_map]
  have hpl : pre.length = dl.length := by rw [← hdl, List.length_map]
  have htlt : t < sd.length := (List.getElem?_eq_some_iff.1 ht).1
  have hslt : s < sd.length := (List.getElem?_eq_some_iff.1 hs).1
  refine wp_region_any hm ?_
  have hrep : Array.replicate (pre ++ suf).toArray.size false = Array.replicate pre.toArray.size false ++ Array.replicate suf.length false := by
    simp [Array.replicate_append_replicate]
  rw [hrep]
  have hsz : (pre ++ suf).toArray.size = pre.toArray.size + suf.length := by simp
  rw [hsz]
  refine pre_tail (pre := pre.toArray) (suf := suf) hb hbp (by simp) (by simpa using htl) pre.toArray.size _ (by simp) (fun j hj => by simp [Array.getD_eq_getD_getElem?, Array.getElem?_replicate] at hj; split at hj <;> simp_all) a w.drew ?_
  have hda : ∀ j, depsAt .any pre.toArray j = (dl[j]?).getD [] := by
    intro j
    subst hdl
    simp only [depsAt, List.getElem?_map, List.getElem?_toArray]
  have hF0 : ∀ j, (Array.replicate pre.toArray.size false).getD j false = true → False := fun j hj => by simp [Array.getD_eq_getD_getElem?, Array.getElem?_replicate] at hj; split at hj <;> simp_all
  have hmemt : t ∈ (dl[s]?).getD [] := by simpa using hts
  refine wpAny_facts hbp a (fun _ W => Below w.heap.size w W) (fun j g W => okAt sd j (g j) W ∧ (j = s → q (g t) W)) (fun i _ W W' => if i = s then rel W W' else Below W.heap.size W W') ?_ ?_ ?_ pre.toArray.size _ (fun _ => undef) a w.drew (by simp) (by
      have := List.countP_le_length (p := fun b => !b) (l := (Array.replicate pre.toArray.size false).toList)
      simpa using this) (fun j hj => (hF0 j hj).elim) (Agrees.start fun j hj => hF0 j hj) (below_draws (Below.refl _ _) 1) (fun j hj => (hF0 j hj).elim)
  · intro i g W W' j g' hB hne ⟨h, hqj⟩
    by_cases hi : i = s
    · rw [if_pos hi] at hB
      refine ⟨?_, fun hj => absurd (hj.trans hi.symm) hne⟩
      unfold okAt at h ⊢
      cases hsj : sd[j]? with
      | none => trivial
      | some p =>
        obtain ⟨d, s'⟩ := p
        rw [hsj] at h
        cases s' with
        | is v => exact h
        | «by» p => exact monoR_at hrel hsj _ W W' hB h
    · rw [if_neg hi] at hB
      refine ⟨?_, fun hj => hq _ _ _ hB (hqj hj)⟩
      unfold okAt at h ⊢
      cases hsj : sd[j]? with
      | none => trivial
      | some p =>
        obtain ⟨d, s'⟩ := p
        rw [hsj] at h
        cases s' with
        | is v => exact h
        | «by» p => exact mono_at hmono hsj _ W W' hB h
  · intro i o hoi L g W _ _ hG hd
    have key : ∀ (l : List Oper) (k : Nat), DStepsR P pre.toArray N w sd dl f s t dt pt q rel k l → ∀ j o, l[j]? = some o →
        (if k + j = s then ∀ W, Below w.heap.size w W → ∀ ut, pt ut W → DStep P pre.toArray o N W (sd.set t (some dt, .is ut)) (fun v W' => rel W W' ∧ q ut W') ((dl[k + j]?).getD []) f
          else ∀ W, Below w.heap.size w W → DStep P pre.toArray o N W sd (fun v W' => Below W.heap.size W W' ∧ okAt sd (k + j) v W') ((dl[k + j]?).getD []) f) := by
      intro l
      induction l with
      | nil => intro k _ j o h; simp at h
      | cons x l ih =>
        intro k hs j o h
        cases j with
        | zero =>
          simp only [List.getElem?_cons_zero, Option.some.injEq] at h
          subst h
          exact hs.1
        | succ j =>
          have := ih (k + 1) hs.2 j o (by simpa using h)
          rw [show k + (j + 1) = k + 1 + j by omega]
          exact this
    have hk := key pre 0 hst i o (by simpa using hoi)
    rw [Nat.zero_add] at hk
    have hdo : depsOf .any o = (dl[i]?).getD [] := by rw [← hda i, depsAt_eq hoi]
    rw [hdo] at hd ⊢
    rw [putL_eq (ds := sd.map (·.1)) (by simpa using hds)]
    by_cases hi : i = s
    · rw [if_pos hi] at hk
      subst hi
      have hpt : pt (g t) W := by
        have := (hd t hmemt).1
        rw [restr_self] at this
        unfold okAt at this
        rw [ht] at this
        exact this
      obtain ⟨ut, hut⟩ : ∃ ut, ut = g t := ⟨_, rfl⟩
      have hH : HypL (fun j g w => okAt (sd.set t (some dt, .is ut)) j (g j) w) dl g W ((dl[i]?).getD []) := HypL.of _ fun j hj => by
        have h1 := (hd j hj).1
        rw [hda j] at h1
        show okAt _ j (restr g (j :: _) j) W
        rw [restr_self] at h1 ⊢
        by_cases e : j = t
        · subst e
          rw [← hut]
          exact okAt_hit htlt W
        · rw [okAt_set e]
          exact h1
      have hfin := DStep.to (inN_set ht hN) _ f a (hk W hG ut (by rw [hut]; exact hpt)) ha hH
      rw [map_set ht] at hfin
      refine hfin.mono fun v W' h => ⟨by rw [if_pos rfl]; exact h.1, hbr _ _ hG h.1, ?_, fun _ => ?_⟩
      · unfold okAt
        rw [hs]
        trivial
      · have e : restr (upd g i v) (i :: (dl[i]?).getD []) t = g t := by
          unfold restr upd
          rw [if_pos (by simp [hmemt]), if_neg (fun h => hst' h.symm)]
        rw [e, ← hut]
        exact h.2
    · rw [if_neg hi] at hk
      have hH : HypL (fun j g w => okAt sd j (g j) w) dl g W ((dl[i]?).getD []) := HypL.of _ fun j hj => by have := (hd j hj).1; rwa [hda j] at this
      refine (DStep.to hN _ f a (hk W hG) ha hH).mono fun v W' h => ⟨by rw [if_neg hi]; exact h.1, hG.trans (h.1.mono hG.size), ?_, fun e => absurd e hi⟩
      simp only [restr_self]
      rw [show upd g i v i = v by simp [upd]]
      exact h.2
  · intro L g W hL hG hd
    rw [putL_eq (ds := sd.map (·.1)) (by simpa using hds)]
    have hsize : pre.toArray.size = sd.length := by simp; omega
    have hpt : pt (g t) W := by
      have := (hd t (by omega)).1
      rw [restr_self] at this
      unfold okAt at this
      rw [ht] at this
      exact this
    have hqt : q (g t) W := by
      have := (hd s (by omega)).2 rfl
      have e : restr g (s :: depsAt .any pre.toArray s) t = g t := by
        rw [hda s]
        unfold restr
        rw [if_pos (by simp [hmemt])]
      rwa [e] at this
    obtain ⟨ut, hut⟩ : ∃ ut, ut = g t := ⟨_, rfl⟩
    have hH : HypL (fun j g w => okAt (sd.set t (some dt, .is ut)) j (g j) w) dl g W (List.range' 0 sd.length) := HypL.of _ fun j hj => by
      have hj' : j < pre.toArray.size := by
        simp [List.mem_range'] at hj
        simp
        omega
      have h1 := (hd j hj').1
      rw [hda j] at h1
      show okAt _ j (restr g (j :: _) j) W
      rw [restr_self] at h1 ⊢
      by_cases e : j = t
      · subst e
        rw [← hut]
        exact okAt_hit htlt W
      · rw [okAt_set e]
        exact h1
    have hfin := DEnd.to (Q := fun a W => wpList P (pre ++ suf).toArray Q suf a W) (inN_set (s' := .is ut) ht hN) (fun f h a ha => h a ha) (sd.set t (some dt, .is ut)) 0 f a (by simp) (hend W hG ut (by rw [hut]; exact hpt) (by rw [hut]; exact hqt)) ha (by rw [List.length_set]; exact hH)
    rw [List.length_set, map_set ht] at hfin
    show wpOps P (pre ++ suf).toArray Q (List.range' pre.toArray.size suf.length) _ _
    rw [wpOps_eq_wpList suf pre.toArray.size (fun j => by simp [List.getElem?_append_right])]
    rw [List.range_eq_range', hsize]
    exact hfin
end
/-- A pointer to what lies behind the world of the base. -/
def PtB (base : Nat) (L : List Nat) (w : World) (u : Value) (cs : List Value) : Prop := 0 < cs.length ∧ ∃ X o, u = .pointer (some ⟨X, o, none⟩) ∧ X < base ∧ X ∉ L ∧ w.rangeAt X o cs
theorem PtB.ptr {base : Nat} {L : List Nat} {w : World} {u : Value} {cs : List Value} (h : PtB base L w u cs) : PtR L w u cs := by
  obtain ⟨h0, X, o, h1, _, h2, h3⟩ := h
  exact ⟨h0, X, o, h1, h2, h3⟩
theorem PtB.below {base : Nat} {L : List Nat} {w w' : World} {u : Value} {cs : List Value} (h : PtB base L w u cs) (hb : Below w.heap.size w w') : PtB base L w' u cs := by
  obtain ⟨h0, X, o, h1, hx, h2, h3⟩ := h
  exact ⟨h0, X, o, h1, hx, h2, range_agree h3 (Agree.of_below (L := L) hb) h2⟩
/-- A variable that is newly made, of a type, whatever it holds. -/
def NewT (base t n : Nat) (u : Value) (w : World) : Prop := ∃ B cs, u = .pointer (some ⟨B, 0, none⟩) ∧ base ≤ B ∧ BlkT w B t cs ∧ cs.length = n
theorem NewT.below {base t n : Nat} {u : Value} {w w' : World} (h : NewT base t n u w) (hb : Below w.heap.size w w') : NewT base t n u w' := by
  obtain ⟨B, cs, h1, h2, h3, h4⟩ := h
  exact ⟨B, cs, h1, h2, by unfold BlkT; rw [hb.block B h3.blk.lt]; exact h3, h4⟩
theorem NewP.newT {base t n : Nat} {cs : List Value} {u : Value} {w : World} (h : NewP base t cs u w) (hn : cs.length = n) : NewT base t n u w := by
  obtain ⟨B, h1, h2, h3⟩ := h
  exact ⟨B, cs, h1, h2, h3, hn⟩
/-- A write to a new variable of this type. -/
def WrT (base t n : Nat) (w w' : World) : Prop := ∃ C cs cs', base ≤ C ∧ BlkT w C t cs ∧ BlkT w' C t cs' ∧ cs.length = n ∧ cs'.length = n ∧ Only C w w'
theorem WrT.below {base t n : Nat} {w0 w w' : World} (h : WrT base t n w w') (hb : Below base w0 w) : Below base w0 w' := by
  obtain ⟨C, cs, cs', h1, h2, h3, _, h4, h5⟩ := h
  exact h5.below hb h1
theorem NewT.wr {base t n : Nat} {u : Value} {w w' : World} (h : NewT base t n u w) (hw : WrT base t n w w') : NewT base t n u w' := by
  obtain ⟨B, cs, h1, h2, h3, h4⟩ := h
  obtain ⟨C, c1, c2, k1, k2, k3, k0, k4, k5⟩ := hw
  by_cases e : B = C
  · subst e
    exact ⟨B, c2, h1, h2, k3, k4⟩
  · exact ⟨B, cs, h1, h2, by unfold BlkT; rw [k5.block B e]; exact h3, h4⟩
theorem NewP.wr {base t t' n : Nat} {cs : List Value} {u : Value} {w w' : World} (h : NewP base t' cs u w) (hw : WrT base t n w w') (hn : (t' == t) = false) : NewP base t' cs u w' := by
  obtain ⟨B, h1, h2, h3⟩ := h
  obtain ⟨C, c1, c2, k1, k2, k3, k0, k4, k5⟩ := hw
  exact ⟨B, h1, h2, by unfold BlkT; rw [k5.block B (h3.ne k2 hn)]; exact h3⟩
theorem PtB.wr {base t n : Nat} {L : List Nat} {w w' : World} {u : Value} {cs : List Value} (h : PtB base L w u cs) (hw : WrT base t n w w') : PtB base L w' u cs := by
  obtain ⟨h0, X, o, h1, hx, h2, h3⟩ := h
  obtain ⟨C, c1, c2, k1, k2, k3, k0, k4, k5⟩ := hw
  exact ⟨h0, X, o, h1, hx, h2, range_agree h3 (Agree.of_only (L := [C]) k5 (.head _)) (by simp; omega)⟩
/-- Rows that are longer than a whole block do not lie in it. -/
theorem RdF.offB {s : Nat} {L : List Nat} {w : World} {v : Value} {rs : List (List Value)} {B : Nat} {cs : List Value} (h : RdF s L w v rs) (hk : Blk w B cs) (hl : cs.length < s) : RdF s (B :: L) w v rs := by
  obtain ⟨h0, hr, a, cap, h1, h2, h3, h4, h5⟩ := h
  refine ⟨h0, hr, a, cap, h1, h2, h3, h4, fun hn => ?_⟩
  obtain ⟨X, o, e, hX, hc⟩ := h5 hn
  refine ⟨X, o, e, ?_, hc⟩
  have hlen : s ≤ rs.flatten.length := by
    rw [flat_len hr]
    exact Nat.le_mul_of_pos_left s (List.length_pos_iff.2 hn)
  have hne : X ≠ B := fun e => by
    subst e
    obtain ⟨t, ht⟩ := hk
    have := hc (s - 1) _ (List.getElem?_eq_getElem (by omega))
    simp [World.cell?, ht] at this
    obtain ⟨h', _⟩ := List.getElem?_eq_some_iff.1 this
    omega
  simp [hne, hX]
theorem RdF.wr {s base t n : Nat} {L : List Nat} {w w' : World} {v : Value} {rs : List (List Value)} (h : RdF s L w v rs) (hw : WrT base t n w w') (hn : n < s) : RdF s L w' v rs := by
  obtain ⟨C, c1, c2, k1, k2, k3, k0, k4, k5⟩ := hw
  exact ((h.offB k2.blk (by omega)).only k5 (.head _)).less (fun x hx => .tail _ hx)
section
variable {P : Program} {ops : Array Oper} {o : Oper} {N : Nat} {f : Fl} {w : World}
theorem dx_fldB {t : TypeId} {x : Operand} {k off base : Nat} {L : List Nat} {u : Value} {cs cs' : List Value} (n : Nat) (ho : o.op = .fieldAddr t x k) (hf : fldB P t k off = true) (hx : ev f x = some u) (hp : PtB base L w u cs) (hr : (cs.drop off).take n = cs') (hn : 0 < cs'.length) (hw : wantF ops o f = some true := by rfl) : DR P ops o N f w fun u' W => w = W ∧ PtB base L w u' cs' := fun a ha => by
  obtain ⟨_, X, o0, rfl, hb, hX, hc⟩ := hp
  have hx := ha.ev hx
  refine Does.pure (wantF_of ha hw) _ (by unfold execOp; simp only [ho, hx, Sem.run_bind, run_fldB hf, Result.andThen_ok]; rfl) ⟨rfl, hn, X, _, rfl, hb, hX, ?_⟩
  have := range_part hc off n
  rwa [hr] at this
theorem dx_idxB {t s : Nat} {L : List Nat} {w0 : World} {x y : Operand} {v : Value} {rs : List (List Value)} {K : IntKind} {i : Int} {r : List Value} (k : Nat) (ho : o.op = .indexAddr t x y) (ht : sliceB P t s = true) (hx : ev f x = some v) (hy : ev f y = some (.int K i)) (hr : RdF s L w0 v rs) (hd : Below w0.heap.size w0 w) (hk : i = (k : Int)) (hi : rs[k]? = some r) (hw : wantF ops o f = some true := by rfl) :
    DR P ops o N f w fun u W => w = W ∧ PtB w0.heap.size L w u r := fun a ha => by
  have hr' := hr.below hd
  obtain ⟨h0, hl, ad, cap, rfl, h2, h3, h4, h5⟩ := hr'
  obtain ⟨e, hu, hs⟩ := of_sliceB ht
  have hx := ha.ev hx
  have hy := ha.ev hy
  subst hk
  have hlt := (List.getElem?_eq_some_iff.1 hi).1
  have hne : rs ≠ [] := by intro e; subst e; simp at hlt
  obtain ⟨X, o0, rfl, hX, hc⟩ := h5 hne
  have hrun := run_idxS (w := w) (n := rs.length) (c := cap) hu hs X o0 K (k : Int) (by omega) (by omega)
  refine Does.pure (wantF_of ha hw) (.pointer (some ⟨X, o0 + k * s, none⟩)) (by unfold execOp; simp only [ho, hx, hy, Sem.run_bind, hrun, Result.andThen_ok]; rfl) ⟨rfl, by rw [hl r (List.mem_of_getElem? hi)]; exact h0, X, _, rfl, rdf_lt hr rfl hne, hX, ?_⟩
  have := range_part hc (k * s) s
  rw [flat_row hl hi] at this
  simpa using this
/-- A store of the whole of a new variable. -/
theorem dx_storeT {t t' base n : Nat} {x y : Operand} {u V : Value} {vs : List Value} (ho : o.op = .store t x y) (ht : sizeB P t n = true) (hx : ev f x = some u) (hp : NewT base t' n u w) (hy : ev f y = some V) (hv : V.cells.toList = vs) (h1 : ∀ v ∈ vs, v.oneCell' = true) (hn : vs.length = n) (hw : wantF ops o f = some true := by rfl) : DR P ops o N f w fun _ W => WrT base t' n w W ∧ NewP base t' vs u W := fun a ha => by
  obtain ⟨B, cs, rfl, hB, hb, hc⟩ := hp
  obtain ⟨i, hi, hs⟩ := of_sizeB ht
  have hx := ha.ev hx
  have hy := ha.ev hy
  exact Does.of_wp (wantF_of ha hw) fun K hK => by
    have hst := run_storeCells_at P B 0 t' vs 0 _ w hb (by simp; omega) h1
    simp only [Nat.add_zero] at hst
    have hcs : (cs.toArray.toList.take 0 ++ vs ++ cs.toArray.toList.drop (0 + vs.length)) = vs := by
      rw [List.drop_eq_nil_of_le (by simp; omega)]
      simp
    rw [hcs] at hst
    have hsz : V.cells.size = i.size := by rw [← Array.length_toList, hv, hn, hs]
    unfold Oper.wp execOp
    simp only [ho, hx, hy, Instr.storeAt, Instr.sureAddr, storeVar, sizeOf, typeInfo, Sem.run_bind, Sem.run_pure, Result.andThen_ok, run_program, hi, hsz, hv, ne_eq, not_true_eq_false, if_false, hst]
    have e : (w.setRow B vs.toArray).heap[B]? = some (.cells vs.toArray t' (0, 0)) := setRow_heap w B _ _ t' _ hb
    exact hK _ _ ⟨⟨B, cs, vs, hB, hb, e, hc, hn, only_setRow w B _⟩, B, rfl, hB, e⟩
end
end Go.Proofs.YthefddclefimoaaGreatDoor
namespace Go.Proofs.YthefddclefimoaaGreatDoor
open Go.RowKit
set_option linter.unusedVariables false
set_option linter.unusedSimpArgs false
/-- A block of one's own as rows, all that there is room for. -/
def RwB (s : Nat) (w : World) (B : Nat) (R : List (List Value)) : Prop := 0 < s ∧ (∀ r ∈ R, r.length = s) ∧ R.length ≤ maxLen ∧ Blk w B R.flatten
theorem RwB.lt {s : Nat} {w : World} {B : Nat} {R : List (List Value)} (h : RwB s w B R) : B < w.heap.size := h.2.2.2.lt
theorem RwB.below {s : Nat} {w w' : World} {B : Nat} {R : List (List Value)} (h : RwB s w B R) (hb : Below w.heap.size w w') : RwB s w' B R := ⟨h.1, h.2.1, h.2.2.1, h.2.2.2.below hb⟩
theorem RwB.other {s : Nat} {w w' : World} {B C : Nat} {R : List (List Value)} (h : RwB s w B R) (ho : Only C w w') (hn : B ≠ C) : RwB s w' B R := ⟨h.1, h.2.1, h.2.2.1, h.2.2.2.other ho hn⟩
theorem rows_of {s : Nat} : ∀ (n : Nat) (l : List Value), l.length = n * s → ∃ rows : List (List Value), rows.length = n ∧ (∀ r ∈ rows, r.length = s) ∧ rows.flatten = l
  | 0, l, h => ⟨[], rfl, fun r hr => (by cases hr), (by rw [Nat.zero_mul] at h; rw [List.length_eq_zero_iff.1 h]; rfl)⟩
  | n + 1, l, h => by
    rw [Nat.succ_mul] at h
    obtain ⟨rows, h1, h2, h3⟩ := rows_of (s := s) n (l.drop s) (by rw [List.length_drop]; omega)
    refine ⟨l.take s :: rows, by simp [h1], fun r hr => ?_, by rw [List.flatten_cons, h3, List.take_append_drop]⟩
    rcases List.mem_cons.1 hr with rfl | hr
    · rw [List.length_take]; omega
    · exact h2 r hr
theorem OwS.open {s : Nat} {w : World} {v : Value} {rs : List (List Value)} {B : Nat} (h : OwS s w v rs B) : ∃ sp, v = .slice (some ⟨B, 0, none⟩) rs.length (rs ++ sp).length ∧ RwB s w B (rs ++ sp) := by
  obtain ⟨h0, hr, cap, sp, rfl, h2, h3, h4, h5⟩ := h
  obtain ⟨rows, k1, k2, rfl⟩ := rows_of (cap - rs.length) sp h4
  have e : (rs ++ rows).length = cap := by rw [List.length_append, k1]; omega
  refine ⟨rows, by rw [e], h0, fun r hr' => ?_, by rw [e]; exact h3, by rw [List.flatten_append]; exact h5⟩
  rcases List.mem_append.1 hr' with h | h
  · exact hr r h
  · exact k2 r h
theorem RwB.own {s : Nat} {w : World} {B : Nat} {rs sp : List (List Value)} (h : RwB s w B (rs ++ sp)) : OwS s w (.slice (some ⟨B, 0, none⟩) rs.length (rs ++ sp).length) rs B := by
  obtain ⟨h0, hr, hm, hb⟩ := h
  have hsp : ∀ r ∈ sp, r.length = s := fun r hr' => hr r (List.mem_append.2 (.inr hr'))
  refine ⟨h0, fun r hr' => hr r (List.mem_append.2 (.inl hr')), _, sp.flatten, rfl, by simp, hm, ?_, by rw [← List.flatten_append]; exact hb⟩
  rw [flat_len hsp, List.length_append, Nat.add_sub_cancel_left]
/-- Where a part begins: a part with no room begins where the whole does. -/
def offV (c l o0 s : Nat) : Nat := if c = l then o0 else o0 + l * s
theorem offV_eq {c l s B o0 : Nat} : (if c = l then some (⟨B, o0, none⟩ : Addr) else some (if l * s = 0 then ⟨B, o0, none⟩ else ⟨B, o0 + l * s, none⟩)) = some ⟨B, offV c l o0 s, none⟩ := by
  unfold offV
  split
  · rfl
  · split
    · rename_i h; rw [h]; rfl
    · rfl
theorem offV_in {c l o0 s n : Nat} (hn : n ≠ 0) (h : l + n ≤ c) : offV c l o0 s = o0 + l * s := by
  unfold offV
  rw [if_neg (by omega)]
/-- What a part of it reads. -/
theorem RwB.part {s : Nat} {w : World} {B : Nat} {R : List (List Value)} (h : RwB s w B R) {L : List Nat} (hB : B ∉ L) {lo n c o1 : Nat} (ho : n ≠ 0 → o1 = lo * s) (hn : n ≤ c) (hc : lo + c ≤ R.length) : RdF s L w (.slice (some ⟨B, o1, none⟩) n c) ((R.drop lo).take n) := by
  obtain ⟨h0, hr, hm, hb⟩ := h
  have hl : ((R.drop lo).take n).length = n := by rw [List.length_take, List.length_drop]; omega
  refine ⟨h0, fun r hr' => hr r (List.mem_of_mem_drop (List.mem_of_mem_take hr')), _, c, by rw [hl], by rw [hl]; exact hn, by omega, fun h => (by cases h), fun hne => ⟨B, o1, rfl, hB, ?_⟩⟩
  rw [ho (fun e => hne (by rw [e, List.take_zero]))]
  have := range_part hb.range (lo * s) (n * s)
  rw [flat_drop lo hr, flat_take n (fun r hr' => hr r (List.mem_of_mem_drop hr')), Nat.zero_add] at this
  exact this
section
variable {P : Program} {ops : Array Oper} {o : Oper} {N : Nat} {f : Fl} {w : World}
/-- x[l:], x[:h], x[l:h], x[l:h:m] of a slice that isn't nil. -/
theorem dx_slL {t s B o0 n c : Nat} {x y : Operand} {K : IntKind} (l : Nat) {i : Int} (ho : o.op = .slice t x (some y) none none) (ht : sliceB P t s = true) (hx : ev f x = some (.slice (some ⟨B, o0, none⟩) n c)) (hy : ev f y = some (.int K i)) (hi : i = (l : Int)) (hl : l ≤ n) (hn : n ≤ c) (hw : wantF ops o f = some true := by rfl) :
    DV P ops o N f w (.slice (some ⟨B, offV c l o0 s, none⟩) (n - l) (c - l)) := fun a ha => by
  subst hi
  obtain ⟨e, hu, hs⟩ := of_sliceB ht
  have hx := ha.ev hx
  have hy := ha.ev hy
  cases hi : P.info? e with
  | none => rw [hi] at hs; cases hs
  | some q =>
    have hq : q.size = s := by simpa [hi] using hs
    refine Does.pure (wantF_of ha hw) _ ?_ ⟨rfl, rfl⟩
    have h1 : ((l : Int) ≤ (n : Int)) := by omega
    have h2 : ((n : Int) ≤ (c : Int)) := by omega
    have h3 : (0 : Int) ≤ (l : Int) := by omega
    unfold execOp
    simp only [ho, Option.map_none, Option.map_some, hx, hy, Instr.sliceAt, Sem.run_bind, run_underlying hu, Result.andThen_ok, Instr.slice, Instr.sliceBounds, Instr.sliceBound, asIntOf, Sem.run_pure, sizeOf, typeInfo, run_program, hi]
    simp [h1, h2, h3, hq, addr_at, Addr.add, hl]
    exact offV_eq
theorem dx_slH {t s B o0 n c : Nat} {x y : Operand} {K : IntKind} (h : Nat) {i : Int} (ho : o.op = .slice t x none (some y) none) (ht : sliceB P t s = true) (hx : ev f x = some (.slice (some ⟨B, o0, none⟩) n c)) (hy : ev f y = some (.int K i)) (hi : i = (h : Int)) (hl : h ≤ c) (hw : wantF ops o f = some true := by rfl) :
    DV P ops o N f w (.slice (some ⟨B, o0, none⟩) h c) := fun a ha => by
  subst hi
  obtain ⟨e, hu, hs⟩ := of_sliceB ht
  have hx := ha.ev hx
  have hy := ha.ev hy
  cases hi : P.info? e with
  | none => rw [hi] at hs; cases hs
  | some q =>
    have hq : q.size = s := by simpa [hi] using hs
    refine Does.pure (wantF_of ha hw) _ ?_ ⟨rfl, rfl⟩
    have h1 : ((h : Int) ≤ (c : Int)) := by omega
    have h3 : (0 : Int) ≤ (h : Int) := by omega
    unfold execOp
    simp only [ho, Option.map_none, Option.map_some, hx, hy, Instr.sliceAt, Sem.run_bind, run_underlying hu, Result.andThen_ok, Instr.slice, Instr.sliceBounds, Instr.sliceBound, asIntOf, Sem.run_pure, sizeOf, typeInfo, run_program, hi]
    simp [h1, h3, hq, addr_at, Addr.add]
theorem dx_slLH {t s B o0 n c : Nat} {x y z : Operand} {K K' : IntKind} (l h : Nat) {i j : Int} (ho : o.op = .slice t x (some y) (some z) none) (ht : sliceB P t s = true) (hx : ev f x = some (.slice (some ⟨B, o0, none⟩) n c)) (hy : ev f y = some (.int K i)) (hz : ev f z = some (.int K' j)) (hi : i = (l : Int)) (hj : j = (h : Int)) (hl : l ≤ h) (hc : h ≤ c) (hw : wantF ops o f = some true := by rfl) :
    DV P ops o N f w (.slice (some ⟨B, offV c l o0 s, none⟩) (h - l) (c - l)) := fun a ha => by
  subst hi hj
  obtain ⟨e, hu, hs⟩ := of_sliceB ht
  have hx := ha.ev hx
  have hy := ha.ev hy
  have hz := ha.ev hz
  cases hi : P.info? e with
  | none => rw [hi] at hs; cases hs
  | some q =>
    have hq : q.size = s := by simpa [hi] using hs
    refine Does.pure (wantF_of ha hw) _ ?_ ⟨rfl, rfl⟩
    have h1 : ((l : Int) ≤ (h : Int)) := by omega
    have h2 : ((h : Int) ≤ (c : Int)) := by omega
    have h3 : (0 : Int) ≤ (l : Int) := by omega
    have h4 : (0 : Int) ≤ (h : Int) := by omega
    unfold execOp
    simp only [ho, Option.map_none, Option.map_some, hx, hy, hz, Instr.sliceAt, Sem.run_bind, run_underlying hu, Result.andThen_ok, Instr.slice, Instr.sliceBounds, Instr.sliceBound, asIntOf, Sem.run_pure, sizeOf, typeInfo, run_program, hi]
    simp [h1, h2, h3, h4, hq, addr_at, Addr.add, hl, hc]
    exact offV_eq
theorem dx_slLHM {t s B o0 n c : Nat} {x y z u : Operand} {K K' K2 : IntKind} (l h m : Nat) {i j k : Int} (ho : o.op = .slice t x (some y) (some z) (some u)) (ht : sliceB P t s = true) (hx : ev f x = some (.slice (some ⟨B, o0, none⟩) n c)) (hy : ev f y = some (.int K i)) (hz : ev f z = some (.int K' j)) (hu' : ev f u = some (.int K2 k)) (hi : i = (l : Int)) (hj : j = (h : Int)) (hk : k = (m : Int)) (hl : l ≤ h) (hm : h ≤ m) (hc : m ≤ c) (hw : wantF ops o f = some true := by rfl) :
    DV P ops o N f w (.slice (some ⟨B, offV m l o0 s, none⟩) (h - l) (m - l)) := fun a ha => by
  subst hi hj hk
  obtain ⟨e, hu, hs⟩ := of_sliceB ht
  have hx := ha.ev hx
  have hy := ha.ev hy
  have hz := ha.ev hz
  have hu' := ha.ev hu'
  cases hi : P.info? e with
  | none => rw [hi] at hs; cases hs
  | some q =>
    have hq : q.size = s := by simpa [hi] using hs
    refine Does.pure (wantF_of ha hw) _ ?_ ⟨rfl, rfl⟩
    have h1 : ((l : Int) ≤ (h : Int)) := by omega
    have h2 : ((h : Int) ≤ (m : Int)) := by omega
    have h3 : (0 : Int) ≤ (l : Int) := by omega
    have h4 : (0 : Int) ≤ (h : Int) := by omega
    have h5 : ((m : Int) ≤ (c : Int)) := by omega
    have h6 : (0 : Int) ≤ (m : Int) := by omega
    unfold execOp
    simp only [ho, Option.map_none, Option.map_some, hx, hy, hz, hu', Instr.sliceAt, Sem.run_bind, run_underlying hu, Result.andThen_ok, Instr.slice, Instr.sliceBounds, Instr.sliceBound, asIntOf, Sem.run_pure, sizeOf, typeInfo, run_program, hi]
    simp [h1, h2, h3, h4, h5, h6, hq, addr_at, Addr.add, hl, hm, hc]
    exact offV_eq
/-- An append where there is room. -/
theorem dx_apV {t s bytes B i : Nat} {x y : Operand} {v2 : Value} {R news : List (List Value)} {L : List Nat} (ho : o.op = .call { callee := .builtin .append, args := #[x, y], argTypes := #[t, t] }) (ht : apB P t s bytes = true) (hx : ev f x = some (.slice (some ⟨B, 0, none⟩) i R.length)) (hy : ev f y = some v2)
    (hR : RwB s w B R) (h2 : RdF s L w v2 news) (h1 : ∀ r ∈ news, ∀ u ∈ r, u.oneCell' = true) {m : Nat} (hm' : news.length = m) (hroom : i + m ≤ R.length) (hw : wantF ops o f = some true := by rfl) :
    DR P ops o N f w fun u W => u = .slice (some ⟨B, 0, none⟩) (i + m) R.length ∧ RwB s W B (R.take i ++ (news ++ R.drop (i + m))) ∧ Only B w W := fun a ha => by
  subst hm'
  obtain ⟨e, q, Z, hu, hi, hz, rfl, rfl, hzs⟩ := of_apB ht
  have hx := ha.ev hx
  have hy := ha.ev hy
  obtain ⟨h0, hr, hm, tt, hb⟩ := hR
  obtain ⟨_, hl2, a2, cap2, rfl, hd1, hd2, hd3, hd4⟩ := h2
  refine Does.of_wp (wantF_of ha hw) fun K hK => ?_
  by_cases hn : news = []
  · subst hn
    have hr0 : (Builtin.append_ #[t, t] o.type #[.slice (some ⟨B, 0, none⟩) i R.length, .slice a2 0 cap2]).run P w = .ok (.slice (some ⟨B, 0, none⟩) i R.length) w := by
      have hle : i ≤ R.length := by simpa using hroom
      cases a2 with
      | none => simp [Builtin.append_, run_underlying hu, sizeOf, typeInfo, hi, Builtin.lenOf, hle, Builtin.firstCells, storeCells]
      | some a2 => simp [Builtin.append_, run_underlying hu, sizeOf, typeInfo, hi, Builtin.lenOf, hle, Builtin.firstCells, loadCells, loadCellsFrom, storeCells]
    unfold Oper.wp execOp
    simp only [List.length_nil] at hy
    simp only [ho, resolve, invoke, builtin, Sem.run_bind, Sem.run_pure, Result.andThen_ok, List.map_toArray, List.map_cons, List.map_nil, hx, hy, hr0]
    refine hK _ _ ⟨rfl, ⟨h0, by simpa using hr, by simpa using hm, tt, by simpa using hb⟩, ⟨rfl, rfl, rfl, rfl, fun _ _ => rfl⟩⟩
  · obtain ⟨X, o0, rfl, hX, hc⟩ := hd4 hn
    have hnews : ∀ j u, news.flatten[j]? = some u → w.cell? ((⟨X, o0, none⟩ : Addr).add j) = some u := fun j u hj => by rw [addr_at]; exact hc j u hj
    have hflat : news.flatten.length = news.length * q.size := flat_len hl2
    have h1' : ∀ u ∈ news.flatten, u.oneCell' = true := fun u hu => by
      obtain ⟨r, hr, hur⟩ := List.mem_flatten.1 hu
      exact h1 r hr u hur
    have hfit : i * q.size + news.flatten.length ≤ R.flatten.toArray.size := by
      rw [List.size_toArray, flat_len hr, hflat, ← Nat.add_mul]
      exact Nat.mul_le_mul_right _ hroom
    have hrun := run_ap_room (P := P) (w := w) (t := t) (ty := o.type) hu hi B i R.length _ hb ⟨X, o0, none⟩ news.length cap2 news.flatten hflat hnews h1' hroom hfit
    have hcs : R.flatten.toArray.toList.take (i * q.size) ++ news.flatten ++ R.flatten.toArray.toList.drop (i * q.size + news.flatten.length) = (R.take i ++ (news ++ R.drop (i + news.length))).flatten := by
      rw [hflat, ← Nat.add_mul, flat_take i hr, flat_drop (i + news.length) hr]
      simp
    rw [hcs] at hrun
    unfold Oper.wp execOp
    simp only [ho, resolve, invoke, builtin, Sem.run_bind, Sem.run_pure, Result.andThen_ok, List.map_toArray, List.map_cons, List.map_nil, hx, hy, hrun]
    refine hK _ _ ⟨rfl, ⟨h0, fun r hr' => ?_, ?_, tt, setRow_heap w B _ _ tt _ hb⟩, only_setRow w B _⟩
    · rcases List.mem_append.1 hr' with h | h
      · exact hr r (List.mem_of_mem_take h)
      · rcases List.mem_append.1 h with h | h
        · exact hl2 r h
        · exact hr r (List.mem_of_mem_drop h)
    · rw [List.length_append, List.length_append, List.length_take, List.length_drop]
      omega
/-- A type whose zero value has cells of one cell each. -/
def clB (P : Program) (t s : Nat) : Bool := match P.underlying t with
  | some (.slice e) => match P.info? e with
    | some i => i.size == s && (match i.zero with | some z => z.cells.size == s && z.cells.toList.all (·.oneCell') | none => false)
    | none => false
  | _ => false
theorem of_clB {t s : Nat} (h : clB P t s = true) : ∃ e i Z, P.underlying t = some (.slice e) ∧ P.info? e = some i ∧ i.zero = some Z ∧ i.size = s ∧ Z.cells.size = s ∧ ∀ u ∈ Z.cells.toList, u.oneCell' = true := by
  unfold clB at h
  split at h
  · rename_i e hu
    split at h
    · rename_i i hi
      simp only [Bool.and_eq_true, beq_iff_eq] at h
      obtain ⟨h1, h3⟩ := h
      split at h3
      · rename_i z hz
        simp only [Bool.and_eq_true, beq_iff_eq, List.all_eq_true] at h3
        exact ⟨e, i, z, hu, hi, hz, h1, h3.1, h3.2⟩
      · cases h3
    · cases h
  · cases h
theorem dx_clV {t s B lo n c o1 : Nat} {x : Operand} {R : List (List Value)} (ho : o.op = .call { callee := .builtin .clear, args := #[x], argTypes := #[t] }) (ht : clB P t s = true) (hx : ev f x = some (.slice (some ⟨B, o1, none⟩) n c)) (h1 : n ≠ 0 → o1 = lo * s) (hR : RwB s w B R) (hn : lo + n ≤ R.length) (hw : wantF ops o f = some true := by rfl) :
    DR P ops o N f w fun _ W => ∃ zs : List (List Value), zs.length = n ∧ RwB s W B (R.take lo ++ (zs ++ R.drop (lo + n))) ∧ Only B w W := fun a ha => by
  obtain ⟨e, q, Z, hu, hi, hz, rfl, hzs, hone⟩ := of_clB ht
  have hx := ha.ev hx
  obtain ⟨h0, hr, hm, tt, hb⟩ := hR
  refine Does.of_wp (wantF_of ha hw) fun K hK => ?_
  by_cases hn0 : n = 0
  · subst hn0
    have hrun : (Builtin.clear_ #[t] o.type #[.slice (some ⟨B, o1, none⟩) 0 c]).run P w = .ok (.tuple #[]) w := by simp [Builtin.clear_, run_underlying hu]
    unfold Oper.wp execOp
    simp only [ho, resolve, invoke, builtin, Sem.run_bind, Sem.run_pure, Result.andThen_ok, List.map_toArray, List.map_cons, List.map_nil, hx, hrun]
    exact hK _ _ ⟨[], rfl, ⟨h0, by simpa using hr, by simpa using hm, tt, by simpa using hb⟩, ⟨rfl, rfl, rfl, rfl, fun _ _ => rfl⟩⟩
  · obtain rfl := h1 hn0
    have hlen : (Builtin.zeroCells Z.cells n).toList.length = n * q.size := by rw [Array.length_toList, size_zeroCells, hzs]
    have hones : ∀ u ∈ (Builtin.zeroCells Z.cells n).toList, u.oneCell' = true := fun u hu => by
      unfold Builtin.zeroCells at hu
      simp only [Array.toList_map, List.mem_map] at hu
      obtain ⟨k, hk, rfl⟩ := hu
      refine hone _ ?_
      have hlt : k % Z.cells.size < Z.cells.size := Nat.mod_lt _ (by omega)
      rw [getElem!_pos Z.cells _ hlt]
      exact Array.getElem_mem_toList hlt
    obtain ⟨zs, z1, z2, z3⟩ := rows_of (s := q.size) n _ hlen
    have hst := run_storeCells_at P B (lo * q.size) tt (Builtin.zeroCells Z.cells n).toList 0 _ w hb (by rw [List.size_toArray, flat_len hr, hlen, Nat.add_zero, ← Nat.add_mul]; exact Nat.mul_le_mul_right _ hn) hones
    simp only [Nat.add_zero] at hst
    have hcs : R.flatten.toArray.toList.take (lo * q.size) ++ (Builtin.zeroCells Z.cells n).toList ++ R.flatten.toArray.toList.drop (lo * q.size + (Builtin.zeroCells Z.cells n).toList.length) = (R.take lo ++ (zs ++ R.drop (lo + n))).flatten := by
      rw [hlen, ← Nat.add_mul, flat_take lo hr, flat_drop (lo + n) hr, ← z3]
      simp
    rw [hcs] at hst
    have hrun : (Builtin.clear_ #[t] o.type #[.slice (some ⟨B, lo * q.size, none⟩) n c]).run P w = .ok (.tuple #[]) (w.setRow B (R.take lo ++ (zs ++ R.drop (lo + n))).flatten.toArray) := by
      cases n with
      | zero => exact absurd rfl hn0
      | succ n => simp [Builtin.clear_, run_underlying hu, zeroValue, typeInfo, hi, hz, hst]
    unfold Oper.wp execOp
    simp only [ho, resolve, invoke, builtin, Sem.run_bind, Sem.run_pure, Result.andThen_ok, List.map_toArray, List.map_cons, List.map_nil, hx, hrun]
    refine hK _ _ ⟨zs, z1, ⟨h0, fun r hr' => ?_, ?_, tt, setRow_heap w B _ _ tt _ hb⟩, only_setRow w B _⟩
    · rcases List.mem_append.1 hr' with h | h
      · exact hr r (List.mem_of_mem_take h)
      · rcases List.mem_append.1 h with h | h
        · exact z2 r h
        · exact hr r (List.mem_of_mem_drop h)
    · rw [List.length_append, List.length_append, List.length_take, List.length_drop, z1]
      omega
/-- A copy into a part. -/
theorem dx_cpV {t t' s B lo n c o1 : Nat} {x y : Operand} {v2 : Value} {R news : List (List Value)} {L : List Nat} (ho : o.op = .call { callee := .builtin .copy, args := #[x, y], argTypes := #[t, t'] }) (ht : sliceB P t s = true) (hx : ev f x = some (.slice (some ⟨B, o1, none⟩) n c)) (h1 : n ≠ 0 → o1 = lo * s) (hy : ev f y = some v2) (hR : RwB s w B R) (h2 : RdF s L w v2 news) (hone : ∀ r ∈ news.take n, ∀ u ∈ r, u.oneCell' = true) (hn : lo + n ≤ R.length) (hw : wantF ops o f = some true := by rfl) :
    DR P ops o N f w fun u W => u = .int .i64 (min news.length n : Nat) ∧ RwB s W B (R.take lo ++ (news.take n ++ R.drop (lo + min news.length n))) ∧ Only B w W := fun a ha => by
  obtain ⟨e, hu, hs⟩ := of_sliceB ht
  have hx := ha.ev hx
  have hy := ha.ev hy
  obtain ⟨h0, hr, hm, tt, hb⟩ := hR
  obtain ⟨_, hl2, a2, cap2, rfl, hd1, hd2, hd3, hd4⟩ := h2
  cases hi : P.info? e with
  | none => rw [hi] at hs; cases hs
  | some q =>
    have hq : q.size = s := by simpa [hi] using hs
    subst hq
    refine Does.of_wp (wantF_of ha hw) fun K hK => ?_
    have hl3 : ∀ r ∈ news.take n, r.length = q.size := fun r hr' => hl2 r (List.mem_of_mem_take hr')
    have hlen : (news.take n).flatten.length = min news.length n * q.size := by rw [flat_len hl3, List.length_take, Nat.min_comm]
    have hk : Nat.min news.length n = min news.length n := rfl
    by_cases hz : min news.length n = 0
    · have hnil : news.take n = [] := by
        rcases Nat.eq_zero_or_pos n with h | h
        · rw [h]; rfl
        · have : news.length = 0 := by omega
          rw [List.length_eq_zero_iff.1 this, List.take_nil]
      have hf : (Builtin.firstCells q.size 0 (.slice a2 news.length cap2)).run P w = .ok #[] w := by
        cases a2 with
        | none => simp [Builtin.firstCells]
        | some b => exact run_firstCells_some (P := P) w q.size 0 b news.length cap2 [] (by simp) (fun j u hj => by simp at hj)
      unfold Oper.wp execOp
      simp only [ho, resolve, invoke, builtin, Sem.run_bind, Sem.run_pure, Result.andThen_ok, List.map_toArray, List.map_cons, List.map_nil, hx, hy, Builtin.copy_, run_underlying hu, List.getElem?_toArray, List.getElem?_cons_zero, List.getElem?_cons_succ, Builtin.lenOf, hk, hz, sizeOf, typeInfo, run_program, hi, hf, storeCells]
      refine hK _ _ ⟨by rw [hz]; rfl, ⟨h0, by rw [hnil, hz]; simpa using hr, by rw [hnil, hz]; simpa using hm, tt, by rw [hnil, hz]; simpa using hb⟩, ⟨rfl, rfl, rfl, rfl, fun _ _ => rfl⟩⟩
    · have hne : news ≠ [] := fun e => hz (by rw [e]; simp)
      obtain rfl := h1 (by omega)
      obtain ⟨X, o0, rfl, hX, hc⟩ := hd4 hne
      have hf := run_firstCells_some (P := P) w q.size (min news.length n) ⟨X, o0, none⟩ news.length cap2 (news.take n).flatten hlen (fun j u hj => by
        rw [addr_at]
        refine hc j u ?_
        rw [← flat_take n hl2, List.getElem?_take] at hj
        split at hj
        · exact hj
        · cases hj)
      have hst := run_storeCells_at P B (lo * q.size) tt (news.take n).flatten 0 _ w hb (by rw [List.size_toArray, flat_len hr, hlen, Nat.add_zero, ← Nat.add_mul]; exact Nat.mul_le_mul_right _ (by omega)) (fun u hu' => by
        obtain ⟨r, hr', hur⟩ := List.mem_flatten.1 hu'
        exact hone r hr' u hur)
      simp only [Nat.add_zero] at hst
      have hcs : R.flatten.toArray.toList.take (lo * q.size) ++ (news.take n).flatten ++ R.flatten.toArray.toList.drop (lo * q.size + (news.take n).flatten.length) = (R.take lo ++ (news.take n ++ R.drop (lo + min news.length n))).flatten := by
        rw [hlen, ← Nat.add_mul, flat_take lo hr, flat_drop (lo + min news.length n) hr]
        simp
      rw [hcs] at hst
      unfold Oper.wp execOp
      simp only [ho, resolve, invoke, builtin, Sem.run_bind, Sem.run_pure, Result.andThen_ok, List.map_toArray, List.map_cons, List.map_nil, hx, hy, Builtin.copy_, run_underlying hu, List.getElem?_toArray, List.getElem?_cons_zero, List.getElem?_cons_succ, Builtin.lenOf, hk, sizeOf, typeInfo, run_program, hi, hf, hst]
      refine hK _ _ ⟨rfl, ⟨h0, fun r hr' => ?_, ?_, tt, setRow_heap w B _ _ tt _ hb⟩, only_setRow w B _⟩
      · rcases List.mem_append.1 hr' with h | h
        · exact hr r (List.mem_of_mem_take h)
        · rcases List.mem_append.1 h with h | h
          · exact hl3 r h
          · exact hr r (List.mem_of_mem_drop h)
      · rw [List.length_append, List.length_append, List.length_take, List.length_drop, List.length_take]
        omega
end
-- contracts of what writes to a block that it is given
/-- Of what was there just this block may have changed. -/
structure Chg (B : Nat) (w w' : World) : Prop where
  os : w'.os = w.os
  tape : w'.tape = w.tape
  output : w'.output = w.output
  size : w.heap.size ≤ w'.heap.size
  block : ∀ k, k < w.heap.size → k ≠ B → w'.heap[k]? = w.heap[k]?
theorem Chg.refl (B : Nat) (w : World) : Chg B w w := ⟨rfl, rfl, rfl, Nat.le_refl _, fun _ _ _ => rfl⟩
theorem Chg.thenB {B : Nat} {w W W' : World} (h : Chg B w W) (b : Below W.heap.size W W') : Chg B w W' :=
  ⟨by rw [b.os, h.os], by rw [b.tape, h.tape], by rw [b.output, h.output], Nat.le_trans h.size b.size, fun k hk hn => by rw [b.block k (Nat.lt_of_lt_of_le hk h.size), h.block k hk hn]⟩
theorem Chg.only {B C : Nat} {w W W' : World} (h : Chg B w W) (o : Only C W W') (hC : C = B ∨ w.heap.size ≤ C) : Chg B w W' :=
  ⟨by rw [o.os, h.os], by rw [o.tape, h.tape], by rw [o.output, h.output], by rw [o.size]; exact h.size, fun k hk hn => by rw [o.block k (by omega), h.block k hk hn]⟩
theorem Chg.grow {B C C' : Nat} {w W W' : World} (h : Chg B w W) (g : GrowB C C' W W') (hC : C = B ∨ w.heap.size ≤ C) : Chg B w W' :=
  ⟨by rw [g.os, h.os], by rw [g.tape, h.tape], by rw [g.output, h.output], Nat.le_trans h.size g.size, fun k hk hn => by rw [g.block k (Nat.lt_of_lt_of_le hk h.size) (by omega), h.block k hk hn]⟩
theorem Chg.growB {B B' : Nat} {w w' : World} (h : Chg B w w') (hB : B' = B ∨ w.heap.size ≤ B') : GrowB B B' w w' := ⟨h.os, h.tape, h.output, h.size, h.block, hB⟩
/-- The call returns, with this; of what was there just this block may have changed. -/
def CW (P : Program) (F : FuncId) (args : List Value) (w : World) (B : Nat) (R : Value → World → Prop) : Prop := Calls P F args.toArray w fun e w' => ∃ v, e = .returned v ∧ R v w' ∧ Chg B w w'
def finW (P : Program) (fn : Func) (R : Value → World → Prop) (B : Nat) (w0 : World) (a : Act) (w : World) : Prop := a.defers = [] ∧ ∃ v, (results fn a.tmps).run P w = .ok v w ∧ R v w ∧ Chg B w0 w
theorem CW.mono {P : Program} {F : FuncId} {args : List Value} {w : World} {B : Nat} {R R' : Value → World → Prop} (h : CW P F args w B R) (hr : ∀ v w', Chg B w w' → R v w' → R' v w') : CW P F args w B R' :=
  Calls.mono h fun e w' ⟨v, he, hR, hb⟩ => ⟨v, he, hr v w' hb hR, hb⟩
theorem cw_enter {P : Program} {F : FuncId} {fn : Func} {body : Code} {w : World} {B : Nat} {R : Value → World → Prop} {N : Nat} {vs : List Value} (hf : P.funcs[F]? = some fn) (hb : fn.body = some body) (hn : fn.ntmps = N) (hN : decide (vs.length ≤ N) = true) {f : Fl}
    (hfr : (vs.zipIdx.map fun p => (p.2, p.1)) = f) (h : ∀ Q : Exit → Act → World → Prop, (∀ {a W}, finW P fn R B w a W → Q .ret a W) → (∀ {a W}, finW P fn R B w a W → Q .normal a W) → WC P N body Q f w) : CW P F vs w B R :=
  calls_sx vs f hf hb hn hN hfr.symm (h _ (fun {a W} ⟨h1, v, h2, h3, h4⟩ => ⟨h1, v, h2, v, rfl, h3, h4⟩) (fun {a W} ⟨h1, v, h2, h3, h4⟩ => ⟨h1, v, h2, v, rfl, h3, h4⟩))
section
variable {P : Program} {ops : Array Oper} {o : Oper} {N : Nat} {f : Fl} {w : World} {R : Value → World → Prop} {fn : Func}
theorem cw_ret1 {B : Nat} {w0 : World} {r0 : ResultVar} {v0 : Value} (h : fn.results = #[r0]) (h0 : RV P f w r0 v0) (hR : R v0 w) (hb : Chg B w0 w) {a : Act} (ha : Fr N a f) : finW P fn R B w0 a w := by
  obtain ⟨x, v, hv, v', he, h1, h2⟩ := fn1 (Rr := fun e w' => ∃ v, e = .returned v ∧ R v w' ∧ Chg B w0 w') h h0 ⟨_, rfl, hR, hb⟩ ha
  cases he
  exact ⟨x, _, hv, h1, h2⟩
/-- A call of such a one, that gives a slice of one's own again. -/
theorem dx_cwO {s B : Nat} {rs : List (List Value)} {F : FuncId} {fn : Func} {xs : List Operand} {ts : Array TypeId} {vs : List Value} (ho : o.op = .call { callee := .value (.func F), args := xs.toArray, argTypes := ts }) (hf : P.funcs[F]? = some fn) (hn : (fn.name == "runtime.NumGoroutine") = false) (hb : fn.body.isNone = false)
    (hx : evl f xs = some vs) (hc : CW P F vs w B fun v W => ∃ B', OwS s W v rs B' ∧ (B' = B ∨ w.heap.size ≤ B')) (hw : wantF ops o f = some true := by rfl) : DR P ops o N f w (GrO s B w rs) :=
  dx_call (cap := #[]) ho rfl hf hn hb hx (by rw [Array.append_empty]; exact Calls.mono hc fun e w' ⟨v, he, ⟨B', h1, h2⟩, h3⟩ => ⟨v, he, B', h1, h3.growB h2⟩) hw
theorem mem_tail {α : Type} {rs sp : List α} {j : Nat} {r : α} (hj : j ≤ rs.length) (h : r ∈ ((rs ++ sp).drop j).take (rs.length - j)) : r ∈ rs := by
  rw [List.drop_append_of_le_length hj, List.take_append_of_le_length (by rw [List.length_drop]; omega)] at h
  exact List.mem_of_mem_drop (List.mem_of_mem_take h)
theorem mem_tail2 {α : Type} {rs sp : List α} {j a b : Nat} {r : α} (hj : j ≤ rs.length) (hb : b = rs.length - j) (hab : b ≤ a) (h : r ∈ (((rs ++ sp).drop j).take a).take b) : r ∈ rs := by
  rw [List.take_take, show min b a = rs.length - j by omega] at h
  exact mem_tail hj h
/-- What is left of rows when some are deleted. -/
theorem del_rows {rs sp zs : List (List Value)} {i j : Nat} (hij : i ≤ j) (hj : j ≤ rs.length) (hz : zs.length = j - i) :
    let R1 := (rs ++ sp).take i ++ ((((rs ++ sp).drop j).take (rs.length - j)) ++ (rs ++ sp).drop (i + (rs.length - j)))
    R1.take (i + (rs.length - j)) ++ (zs ++ R1.drop (i + (rs.length - j) + (j - i))) = (rs.take i ++ rs.drop j) ++ (zs ++ sp) := by
  have e1 : (rs ++ sp).take i = rs.take i := List.take_append_of_le_length (by omega)
  have e2 : ((rs ++ sp).drop j).take (rs.length - j) = rs.drop j := by
    rw [List.drop_append_of_le_length hj, List.take_append_of_le_length (by rw [List.length_drop]; omega), List.take_of_length_le (by rw [List.length_drop]; omega)]
  have l1 : (rs.take i).length = i := by rw [List.length_take]; omega
  have l2 : (rs.drop j).length = rs.length - j := List.length_drop
  simp only [e1, e2]
  have l3 : (rs.take i ++ rs.drop j).length = i + (rs.length - j) := by rw [List.length_append, l1, l2]
  have e3 : rs.take i ++ (rs.drop j ++ (rs ++ sp).drop (i + (rs.length - j))) = (rs.take i ++ rs.drop j) ++ (rs ++ sp).drop (i + (rs.length - j)) := (List.append_assoc _ _ _).symm
  have e4 : ((rs.take i ++ rs.drop j) ++ (rs ++ sp).drop (i + (rs.length - j))).take (i + (rs.length - j)) = rs.take i ++ rs.drop j := by
    rw [List.take_append_of_le_length (by omega), List.take_of_length_le (by omega)]
  have e5 : ((rs.take i ++ rs.drop j) ++ (rs ++ sp).drop (i + (rs.length - j))).drop (i + (rs.length - j) + (j - i)) = sp := by
    rw [List.drop_append, List.drop_eq_nil_of_le (by omega), List.nil_append, l3, List.drop_drop, show i + (rs.length - j) + (i + (rs.length - j) + (j - i) - (i + (rs.length - j))) = rs.length by omega]
    exact List.drop_left
  rw [e3, e4, e5]
end
end Go.Proofs.YthefddclefimoaaGreatDoor
namespace Go.Proofs.YthefddclefimoaaGreatDoor
open Go.RowKit
set_option linter.unusedVariables false
set_option linter.unusedSimpArgs false
set_option maxRecDepth 8000

theorem cl_Bond : clB Tryz.prog 38 4 = true := by kernel_rfl
set_option maxHeartbeats 1000000 in
theorem deleteBond_v (rs sp : List (List Value)) (i j : Nat) (B : Nat) (w : World) (L : List Nat) (hL : LL (B :: L) w) (hO : RwB 4 w B (rs ++ sp)) (hij : i ≤ j) (hj : j ≤ rs.length) (hone : ∀ r ∈ rs, ∀ u ∈ r, u.oneCell' = true) : CW Tryz.prog 65 [.slice (some ⟨B, 0, none⟩) rs.length ((rs ++ sp).length), .int .i64 (i : Int), .int .i64 (j : Int)] w B fun v W => ∃ B', OwS 4 W v (rs.take i ++ rs.drop j) B' ∧ (B' = B ∨ w.heap.size ≤ B') := by
  refine cw_enter (N := 33) (f := [(0, .slice (some ⟨B, 0, none⟩) rs.length ((rs ++ sp).length)), (1, .int .i64 (i : Int)), (2, .int .i64 (j : Int))]) Tryz.func65 rfl rfl rfl rfl fun Q hQ hE => ?_
  have hB := Chg.refl B w
  have hlen : (rs ++ sp).length = rs.length + sp.length := List.length_append
  refine WC.seq fun K1 hK1 => ?_
  refine WC.region ?_
  refine WL.val (dx_assign rfl rfl) rfl rfl ?_
  refine WL.nil ?_
  refine hK1 ?_
  refine WC.seq fun K2 hK2 => ?_
  refine WC.region ?_
  refine WL.val (dx_move rfl rfl) rfl rfl ?_
  refine WL.val (dx_move rfl rfl) rfl rfl ?_
  refine WL.val (dx_move rfl rfl) rfl rfl ?_
  refine WL.val (dx_move rfl rfl) rfl rfl ?_
  refine WL.val (dx_len rfl Tryz.underlying38 rfl) rfl rfl ?_
  refine WL.val (dx_slLHM i j rs.length rfl ty_slice_38 rfl rfl rfl rfl rfl rfl rfl (by omega) (by omega) (by omega)) rfl rfl ?_
  refine WL.nil ?_
  refine hK2 ?_
  refine WC.seq fun K3 hK3 => ?_
  refine WC.seq fun K4 hK4 => ?_
  refine WC.region ?_
  refine WL.val (dx_move rfl rfl) rfl rfl ?_
  refine WL.val (dx_move rfl rfl) rfl rfl ?_
  refine WL.val (dx_eql rfl rfl rfl) rfl rfl ?_
  refine WL.nil ?_
  refine hK4 ?_
  refine WC.cond rfl (fun c5 => ?_) (fun c5 => ?_)
  ·
    replace c5 := of_decide_eq_true c5
    refine WC.seq fun K6 hK6 => ?_
    refine WC.region ?_
    refine WL.val (dx_move rfl rfl) rfl rfl ?_
    refine WL.val (dx_assign rfl rfl) rfl rfl ?_
    refine WL.nil ?_
    refine hK6 ?_
    refine WC.ret fun a_ ha_ => ?_
    exact hQ (cw_ret1 rfl (.tmp rfl) ⟨B, (by have hij2 : i = j := (by omega); subst hij2; rw [List.take_append_drop]; exact hO.own), .inl rfl⟩ hB ha_)
  ·
    replace c5 := of_decide_eq_false c5
    refine WC.skip ?_
    refine hK3 ?_
    refine WC.seq fun K7 hK7 => ?_
    refine WC.region ?_
    refine WL.val (dx_move rfl rfl) rfl rfl ?_
    refine WL.val (dx_len rfl Tryz.underlying38 rfl) rfl rfl ?_
    refine WL.val (dx_assign rfl rfl) rfl rfl ?_
    refine WL.nil ?_
    refine hK7 ?_
    refine WC.seq fun K8 hK8 => ?_
    refine WC.drawM 6 [(some 20, .is (.slice (some ⟨B, 0, none⟩) rs.length ((rs ++ sp).length))), (some 21, .is (.int .i64 (i : Int))), (some 22, .is (.slice (some ⟨B, 0, none⟩) i ((rs ++ sp).length))), (some 23, .is (.slice (some ⟨B, 0, none⟩) rs.length ((rs ++ sp).length))), (some 24, .is (.int .i64 (j : Int))), (some 25, .is (.slice (some ⟨B, (offV ((rs ++ sp).length) j 0 4), none⟩) (rs.length - j) ((rs ++ sp).length - j)))] [[], [], [0, 1], [], [], [3, 4]] (by kernel_rfl) (by kernel_rfl) (by kernel_rfl) (by kernel_rfl) (by kernel_rfl) (by kernel_rfl) (by kernel_rfl) (by exact trivial) ?_ ?_
    ·
      refine DSteps.cons (fun Wd hd => ?_) ?_
      ·
        exact DV.dr (dx_move rfl rfl) ⟨Below.refl _ _, rfl⟩
      refine DSteps.cons (fun Wd hd => ?_) ?_
      ·
        exact DV.dr (dx_move rfl rfl) ⟨Below.refl _ _, rfl⟩
      refine DSteps.cons (fun Wd hd => ?_) ?_
      ·
        exact DV.dr (dx_slH i rfl ty_slice_38 rfl rfl rfl (by omega)) ⟨Below.refl _ _, rfl⟩
      refine DSteps.cons (fun Wd hd => ?_) ?_
      ·
        exact DV.dr (dx_move rfl rfl) ⟨Below.refl _ _, rfl⟩
      refine DSteps.cons (fun Wd hd => ?_) ?_
      ·
        exact DV.dr (dx_move rfl rfl) ⟨Below.refl _ _, rfl⟩
      refine DSteps.cons (fun Wd hd => ?_) ?_
      ·
        exact DV.dr (dx_slL j rfl ty_slice_38 rfl rfl rfl (by omega) (by omega)) ⟨Below.refl _ _, rfl⟩
      exact trivial
    ·
      intro W9 b10
      replace hO := hO.below b10
      replace hB := hB.thenB b10
      replace hL := LL.below hL b10
      refine WL.get (dx_apV (R := (rs ++ sp)) (news := ((rs ++ sp).drop j).take (rs.length - j)) rfl ty_ap_38 rfl rfl hO (hO.part (L := []) (lo := j) (by simp) (fun hn => by rw [offV_in hn (by rw [hlen]; omega)]; simp) (by rw [hlen]; omega) (by rw [hlen]; omega)) (fun r hr => hone r (mem_tail hj hr)) (m := rs.length - j) (by rw [List.length_take, List.length_drop, List.length_append]; omega) (by simp; omega)) rfl rfl ?_
      rintro _ W11 ⟨rfl, k12, o13⟩
      replace hB := hB.only o13 (.inl rfl)
      replace hL := LL.only hL o13
      have hR1 : (((rs ++ sp).take i) ++ (((rs ++ sp).drop j).take (rs.length - j) ++ (rs ++ sp).drop (i + (rs.length - j)))).length = (rs ++ sp).length := (by simp; omega)
      refine WL.val (dx_assign rfl rfl) rfl rfl ?_
      refine WL.nil ?_
      refine hK8 ?_
      refine WC.seq fun K14 hK14 => ?_
      refine WC.region ?_
      refine WL.val (dx_move rfl rfl) rfl rfl ?_
      refine WL.val (dx_move rfl rfl) rfl rfl ?_
      refine WL.val (dx_len rfl Tryz.underlying38 rfl) rfl rfl ?_
      refine WL.val (dx_move rfl rfl) rfl rfl ?_
      refine WL.val (dx_slLH (i + (rs.length - j)) rs.length rfl ty_slice_38 rfl rfl rfl rfl rfl (by omega) (by omega)) rfl rfl ?_
      refine WL.do (dx_clV (R := (((rs ++ sp).take i) ++ (((rs ++ sp).drop j).take (rs.length - j) ++ (rs ++ sp).drop (i + (rs.length - j))))) (lo := i + (rs.length - j)) (n := j - i) rfl cl_Bond (by rw [show j - i = rs.length - (i + (rs.length - j)) by omega]; rfl) (fun hn => by rw [offV_in (n := j - i) hn (by simp; omega)]; simp) k12 (by rw [hR1]; simp; omega)) rfl ?_
      rintro _ W15 ⟨zs, hz, k16, o17⟩
      have hd := del_rows (rs := rs) (sp := sp) (zs := zs) hij hj hz
      simp only at hd
      rw [hd] at k16
      replace hB := hB.only o17 (.inl rfl)
      replace hL := LL.only hL o17
      refine WL.nil ?_
      refine hK14 ?_
      refine WC.seq fun K18 hK18 => ?_
      refine WC.region ?_
      refine WL.val (dx_move rfl rfl) rfl rfl ?_
      refine WL.val (dx_assign rfl rfl) rfl rfl ?_
      refine WL.nil ?_
      refine hK18 ?_
      refine WC.ret fun a_ ha_ => ?_
      exact hQ (cw_ret1 rfl (.tmp rfl) ⟨B, (by have := k16.own; have e1 : (rs.take i ++ rs.drop j).length = i + (rs.length - j) := (by simp; omega); have e2 : ((rs.take i ++ rs.drop j) ++ (zs ++ sp)).length = (rs ++ sp).length := (by simp; omega); rw [e1, e2] at this; exact this), .inl rfl⟩ hB ha_)

theorem cl_User : clB Tryz.prog 22 3 = true := by kernel_rfl
set_option maxHeartbeats 1000000 in
theorem deleteUser_v (rs sp : List (List Value)) (i j : Nat) (B : Nat) (w : World) (L : List Nat) (hL : LL (B :: L) w) (hO : RwB 3 w B (rs ++ sp)) (hij : i ≤ j) (hj : j ≤ rs.length) (hone : ∀ r ∈ rs, ∀ u ∈ r, u.oneCell' = true) : CW Tryz.prog 48 [.slice (some ⟨B, 0, none⟩) rs.length ((rs ++ sp).length), .int .i64 (i : Int), .int .i64 (j : Int)] w B fun v W => ∃ B', OwS 3 W v (rs.take i ++ rs.drop j) B' ∧ (B' = B ∨ w.heap.size ≤ B') := by
  refine cw_enter (N := 33) (f := [(0, .slice (some ⟨B, 0, none⟩) rs.length ((rs ++ sp).length)), (1, .int .i64 (i : Int)), (2, .int .i64 (j : Int))]) Tryz.func48 rfl rfl rfl rfl fun Q hQ hE => ?_
  have hB := Chg.refl B w
  have hlen : (rs ++ sp).length = rs.length + sp.length := List.length_append
  refine WC.seq fun K1 hK1 => ?_
  refine WC.region ?_
  refine WL.val (dx_assign rfl rfl) rfl rfl ?_
  refine WL.nil ?_
  refine hK1 ?_
  refine WC.seq fun K2 hK2 => ?_
  refine WC.region ?_
  refine WL.val (dx_move rfl rfl) rfl rfl ?_
  refine WL.val (dx_move rfl rfl) rfl rfl ?_
  refine WL.val (dx_move rfl rfl) rfl rfl ?_
  refine WL.val (dx_move rfl rfl) rfl rfl ?_
  refine WL.val (dx_len rfl Tryz.underlying22 rfl) rfl rfl ?_
  refine WL.val (dx_slLHM i j rs.length rfl ty_slice_22 rfl rfl rfl rfl rfl rfl rfl (by omega) (by omega) (by omega)) rfl rfl ?_
  refine WL.nil ?_
  refine hK2 ?_
  refine WC.seq fun K3 hK3 => ?_
  refine WC.seq fun K4 hK4 => ?_
  refine WC.region ?_
  refine WL.val (dx_move rfl rfl) rfl rfl ?_
  refine WL.val (dx_move rfl rfl) rfl rfl ?_
  refine WL.val (dx_eql rfl rfl rfl) rfl rfl ?_
  refine WL.nil ?_
  refine hK4 ?_
  refine WC.cond rfl (fun c5 => ?_) (fun c5 => ?_)
  ·
    replace c5 := of_decide_eq_true c5
    refine WC.seq fun K6 hK6 => ?_
    refine WC.region ?_
    refine WL.val (dx_move rfl rfl) rfl rfl ?_
    refine WL.val (dx_assign rfl rfl) rfl rfl ?_
    refine WL.nil ?_
    refine hK6 ?_
    refine WC.ret fun a_ ha_ => ?_
    exact hQ (cw_ret1 rfl (.tmp rfl) ⟨B, (by have hij2 : i = j := (by omega); subst hij2; rw [List.take_append_drop]; exact hO.own), .inl rfl⟩ hB ha_)
  ·
    replace c5 := of_decide_eq_false c5
    refine WC.skip ?_
    refine hK3 ?_
    refine WC.seq fun K7 hK7 => ?_
    refine WC.region ?_
    refine WL.val (dx_move rfl rfl) rfl rfl ?_
    refine WL.val (dx_len rfl Tryz.underlying22 rfl) rfl rfl ?_
    refine WL.val (dx_assign rfl rfl) rfl rfl ?_
    refine WL.nil ?_
    refine hK7 ?_
    refine WC.seq fun K8 hK8 => ?_
    refine WC.drawM 6 [(some 20, .is (.slice (some ⟨B, 0, none⟩) rs.length ((rs ++ sp).length))), (some 21, .is (.int .i64 (i : Int))), (some 22, .is (.slice (some ⟨B, 0, none⟩) i ((rs ++ sp).length))), (some 23, .is (.slice (some ⟨B, 0, none⟩) rs.length ((rs ++ sp).length))), (some 24, .is (.int .i64 (j : Int))), (some 25, .is (.slice (some ⟨B, (offV ((rs ++ sp).length) j 0 3), none⟩) (rs.length - j) ((rs ++ sp).length - j)))] [[], [], [0, 1], [], [], [3, 4]] (by kernel_rfl) (by kernel_rfl) (by kernel_rfl) (by kernel_rfl) (by kernel_rfl) (by kernel_rfl) (by kernel_rfl) (by exact trivial) ?_ ?_
    ·
      refine DSteps.cons (fun Wd hd => ?_) ?_
      ·
        exact DV.dr (dx_move rfl rfl) ⟨Below.refl _ _, rfl⟩
      refine DSteps.cons (fun Wd hd => ?_) ?_
      ·
        exact DV.dr (dx_move rfl rfl) ⟨Below.refl _ _, rfl⟩
      refine DSteps.cons (fun Wd hd => ?_) ?_
      ·
        exact DV.dr (dx_slH i rfl ty_slice_22 rfl rfl rfl (by omega)) ⟨Below.refl _ _, rfl⟩
      refine DSteps.cons (fun Wd hd => ?_) ?_
      ·
        exact DV.dr (dx_move rfl rfl) ⟨Below.refl _ _, rfl⟩
      refine DSteps.cons (fun Wd hd => ?_) ?_
      ·
        exact DV.dr (dx_move rfl rfl) ⟨Below.refl _ _, rfl⟩
      refine DSteps.cons (fun Wd hd => ?_) ?_
      ·
        exact DV.dr (dx_slL j rfl ty_slice_22 rfl rfl rfl (by omega) (by omega)) ⟨Below.refl _ _, rfl⟩
      exact trivial
    ·
      intro W9 b10
      replace hO := hO.below b10
      replace hB := hB.thenB b10
      replace hL := LL.below hL b10
      refine WL.get (dx_apV (R := (rs ++ sp)) (news := ((rs ++ sp).drop j).take (rs.length - j)) rfl ty_ap_22 rfl rfl hO (hO.part (L := []) (lo := j) (by simp) (fun hn => by rw [offV_in hn (by rw [hlen]; omega)]; simp) (by rw [hlen]; omega) (by rw [hlen]; omega)) (fun r hr => hone r (mem_tail hj hr)) (m := rs.length - j) (by rw [List.length_take, List.length_drop, List.length_append]; omega) (by simp; omega)) rfl rfl ?_
      rintro _ W11 ⟨rfl, k12, o13⟩
      replace hB := hB.only o13 (.inl rfl)
      replace hL := LL.only hL o13
      have hR1 : (((rs ++ sp).take i) ++ (((rs ++ sp).drop j).take (rs.length - j) ++ (rs ++ sp).drop (i + (rs.length - j)))).length = (rs ++ sp).length := (by simp; omega)
      refine WL.val (dx_assign rfl rfl) rfl rfl ?_
      refine WL.nil ?_
      refine hK8 ?_
      refine WC.seq fun K14 hK14 => ?_
      refine WC.region ?_
      refine WL.val (dx_move rfl rfl) rfl rfl ?_
      refine WL.val (dx_move rfl rfl) rfl rfl ?_
      refine WL.val (dx_len rfl Tryz.underlying22 rfl) rfl rfl ?_
      refine WL.val (dx_move rfl rfl) rfl rfl ?_
      refine WL.val (dx_slLH (i + (rs.length - j)) rs.length rfl ty_slice_22 rfl rfl rfl rfl rfl (by omega) (by omega)) rfl rfl ?_
      refine WL.do (dx_clV (R := (((rs ++ sp).take i) ++ (((rs ++ sp).drop j).take (rs.length - j) ++ (rs ++ sp).drop (i + (rs.length - j))))) (lo := i + (rs.length - j)) (n := j - i) rfl cl_User (by rw [show j - i = rs.length - (i + (rs.length - j)) by omega]; rfl) (fun hn => by rw [offV_in (n := j - i) hn (by simp; omega)]; simp) k12 (by rw [hR1]; simp; omega)) rfl ?_
      rintro _ W15 ⟨zs, hz, k16, o17⟩
      have hd := del_rows (rs := rs) (sp := sp) (zs := zs) hij hj hz
      simp only at hd
      rw [hd] at k16
      replace hB := hB.only o17 (.inl rfl)
      replace hL := LL.only hL o17
      refine WL.nil ?_
      refine hK14 ?_
      refine WC.seq fun K18 hK18 => ?_
      refine WC.region ?_
      refine WL.val (dx_move rfl rfl) rfl rfl ?_
      refine WL.val (dx_assign rfl rfl) rfl rfl ?_
      refine WL.nil ?_
      refine hK18 ?_
      refine WC.ret fun a_ ha_ => ?_
      exact hQ (cw_ret1 rfl (.tmp rfl) ⟨B, (by have := k16.own; have e1 : (rs.take i ++ rs.drop j).length = i + (rs.length - j) := (by simp; omega); have e2 : ((rs.take i ++ rs.drop j) ++ (zs ++ sp)).length = (rs ++ sp).length := (by simp; omega); rw [e1, e2] at this; exact this), .inl rfl⟩ hB ha_)

end Go.Proofs.YthefddclefimoaaGreatDoor
namespace Go.Proofs.YthefddclefimoaaGreatDoor
open Go.RowKit
set_option linter.unusedVariables false
set_option linter.unusedSimpArgs false
theorem flat_inj {s : Nat} : ∀ {xs ys : List (List Value)}, (∀ r ∈ xs, r.length = s) → (∀ r ∈ ys, r.length = s) → xs.length = ys.length → xs.flatten = ys.flatten → xs = ys
  | [], [], _, _, _, _ => rfl
  | [], _ :: _, _, _, hl, _ => by simp at hl
  | _ :: _, [], _, _, hl, _ => by simp at hl
  | x :: xs, y :: ys, hx, hy, hl, he => by
    have h1 : x.length = y.length := by rw [hx x (.head _), hy y (.head _)]
    rw [List.flatten_cons, List.flatten_cons] at he
    obtain ⟨e1, e2⟩ := List.append_inj he h1
    rw [e1, flat_inj (fun r hr => hx r (.tail _ hr)) (fun r hr => hy r (.tail _ hr)) (by simpa using hl) e2]
section
variable {P : Program} {ops : Array Oper} {o : Oper} {N : Nat} {f : Fl} {w : World}
theorem RwB.rd {s : Nat} {w : World} {C : Nat} {vs sp : List (List Value)} (h : RwB s w C (vs ++ sp)) {L : List Nat} (hC : C ∉ L) : RdF s L w (.slice (some ⟨C, 0, none⟩) vs.length (vs ++ sp).length) vs := h.own.rd hC
theorem dx_cap {t : TypeId} {x : Operand} {a : Option Addr} {e : TypeId} {n c : Nat} (ho : o.op = .call { callee := .builtin .cap, args := #[x], argTypes := #[t] }) (ht : P.underlying t = some (.slice e)) (hx : ev f x = some (.slice a n c)) (hw : wantF ops o f = some true := by rfl) : DV P ops o N f w (.int .i64 (c : Int)) := fun k ha => by
  have hx := ha.ev hx
  exact Does.pure (wantF_of ha hw) _ (by unfold execOp; simp [ho, resolve, invoke, builtin, hx, Builtin.cap_, Sem.run_bind, run_underlying ht, goInt]) ⟨rfl, rfl⟩
/-- x[0:] of nil. -/
theorem dx_slN {t s : Nat} {x y : Operand} {K : IntKind} (ho : o.op = .slice t x (some y) none none) (ht : sliceB P t s = true) (hx : ev f x = some (.slice none 0 0)) (hy : ev f y = some (.int K 0)) (hw : wantF ops o f = some true := by rfl) : DV P ops o N f w (.slice none 0 0) := fun a ha => by
  obtain ⟨e, hu, hs⟩ := of_sliceB ht
  have hx := ha.ev hx
  have hy := ha.ev hy
  cases hi : P.info? e with
  | none => rw [hi] at hs; cases hs
  | some q =>
    refine Does.pure (wantF_of ha hw) _ ?_ ⟨rfl, rfl⟩
    unfold execOp
    simp only [ho, Option.map_none, Option.map_some, hx, hy, Instr.sliceAt, Sem.run_bind, run_underlying hu, Result.andThen_ok, Instr.slice, Instr.sliceBounds, Instr.sliceBound, asIntOf, Sem.run_pure, sizeOf, typeInfo, run_program, hi]
    rw [if_pos (by decide)]
    exact rfl
/-- A slice that is none, or has an address. -/
theorem RdF.nil_or {s : Nat} {L : List Nat} {w : World} {v : Value} {rs : List (List Value)} (h : RdF s L w v rs) : (v = .slice none 0 0 ∧ rs = []) ∨ ∃ a n c, v = .slice (some a) n c := by
  obtain ⟨_, _, a, c, rfl, h1, h2, h3, h4⟩ := h
  cases a with
  | none =>
    have hr : rs = [] := Classical.byContradiction fun hn => by obtain ⟨X, o, he, _⟩ := h4 hn; cases he
    subst hr
    exact .inl ⟨by rw [h3 rfl]; rfl, rfl⟩
  | some a => exact .inr ⟨a, _, c, rfl⟩
theorem dx_nilS {t t' : TypeId} {x : Operand} {a : Addr} {n c : Nat} {v : Value} {e : TypeId} (ho : o.op = .binOp .eql t x (.const (.slice none 0 0)) t') (hu : P.underlying t = some (.slice e)) (hx : ev f x = some v) (hv : v = .slice (some a) n c) (hw : wantF ops o f = some true := by rfl) : DV P ops o N f w (.bool false) := fun k ha => by
  subst hv
  have hx := ha.ev hx
  have e1 : binOp .eql t (.slice (some a) n c) (.slice none 0 0) = (do pure (.bool (← Op.equal t (.slice (some a) n c) (.slice none 0 0)))) := rfl
  have e2 : (Op.equal t (.slice (some a) n c) (.slice none 0 0)).run P w = .ok false w := eqIn_nil hu 9999 _ _ _
  exact Does.pure (wantF_of ha hw) _ (by unfold execOp; simp only [ho, hx, eval_c, eqGuard, Sem.run_bind, Sem.run_pure, Result.andThen_ok, e1]; show ((((Sem.run P (Op.equal t (Value.slice (some a) n c) (Value.slice none 0 0)) w).andThen fun a w' => Result.ok (Value.bool a) w').andThen fun a w' => Result.ok (Next.value a) w') = _); rw [e2]; rfl) ⟨rfl, rfl⟩
theorem eqIn_nilT {t : TypeId} {e : TypeId} (hu : P.underlying t = some (.slice e)) (d : Nat) : (Op.equalIn (d + 1) t (.slice none 0 0) (.slice none 0 0)).run P w = .ok true w := by
  simp [Op.equalIn, run_underlying hu]
theorem dx_nilT {t t' : TypeId} {x : Operand} {e : TypeId} (ho : o.op = .binOp .eql t x (.const (.slice none 0 0)) t') (hu : P.underlying t = some (.slice e)) (hx : ev f x = some (.slice none 0 0)) (hw : wantF ops o f = some true := by rfl) : DV P ops o N f w (.bool true) := fun k ha => by
  have hx := ha.ev hx
  have e1 : binOp .eql t (.slice none 0 0) (.slice none 0 0) = (do pure (.bool (← Op.equal t (.slice none 0 0) (.slice none 0 0)))) := rfl
  have e2 : (Op.equal t (.slice none 0 0) (.slice none 0 0)).run P w = .ok true w := eqIn_nilT hu 9999
  exact Does.pure (wantF_of ha hw) _ (by unfold execOp; simp only [ho, hx, eval_c, eqGuard, Sem.run_bind, Sem.run_pure, Result.andThen_ok, e1]; show ((((Sem.run P (Op.equal t (Value.slice none 0 0) (Value.slice none 0 0)) w).andThen fun a w' => Result.ok (Value.bool a) w').andThen fun a w' => Result.ok (Next.value a) w') = _); rw [e2]; rfl) ⟨rfl, rfl⟩
/-- Slices in two blocks of one's own don't overlap. -/
theorem dx_ovl {F : FuncId} {fn : Func} {t tR s B C o0 o1 n c m c' : Nat} {x y : Operand} {ts : Array TypeId} {U V : List (List Value)} (ho : o.op = .call { callee := .value (.func F), args := #[x, y], argTypes := ts }) (hf : P.funcs[F]? = some fn) (hn : (fn.name == "runtime.NumGoroutine") = false) (hb : fn.body.isNone = true) (hnx : Extern.findNext fn = none) (he : Extern.find fn = some (Extern.SlicesOverlaps.overlaps #[t, t] #[tR])) (ht : sliceB P t s = true)
    (hx : ev f x = some (.slice (some ⟨C, o0, none⟩) n c)) (hy : ev f y = some (.slice (some ⟨B, o1, none⟩) m c')) (hC : RwB s w C V) (hB : RwB s w B U) (hne : C ≠ B) (hU : U ≠ []) (hw : wantF ops o f = some true := by rfl) : DV P ops o N f w (.bool false) := fun a ha => by
  have hx := ha.ev hx
  have hy := ha.ev hy
  obtain ⟨e, hu, hs⟩ := of_sliceB ht
  obtain ⟨hc0, hcr, hcm, tc, hcb⟩ := hC
  obtain ⟨hb0, hbr, hbm, tb, hbb⟩ := hB
  cases hi : P.info? e with
  | none => rw [hi] at hs; cases hs
  | some q =>
    have hq : q.size = s := by simpa [hi] using hs
    have hz : ∀ w, (Go.sizeOf e).run P w = .ok s w := fun w => by simp [sizeOf, typeInfo, hi, hq]
    have hkB : U.flatten.toArray.size ≠ 0 := by
      rw [List.size_toArray, flat_len hbr]
      exact Nat.mul_ne_zero (fun h => hU (List.length_eq_zero_iff.1 h)) (by omega)
    have hrun := Lib.run_overlaps_apart (P := P) w t tR e hu s hz ⟨C, o0, none⟩ ⟨B, o1, none⟩ n c m c' hne tc tb V.flatten.toArray.size U.flatten.toArray.size (by simp [World.shape?, hcb]) (by simp [World.shape?, hbb]) hkB (by simp [World.frozen?, hcb]) (by simp [World.frozen?, hcb])
    refine Does.pure (wantF_of ha hw) _ ?_ ⟨rfl, rfl⟩
    have h1 := run_callFunc_extern (P := P) hf hn hb hnx he #[.slice (some ⟨C, o0, none⟩) n c, .slice (some ⟨B, o1, none⟩) m c'] w
    rw [hrun] at h1
    simp only [Result.andThen_ok] at h1
    have hfe : a.eval (.func F) = .func (.func F) #[] #[] := rfl
    unfold execOp
    simp only [ho, resolve, hfe, Deferred.ofValue, Sem.run_bind, Sem.run_pure, Result.andThen_ok, invoke, List.map_toArray, List.map_cons, List.map_nil, hx, hy, Array.empty_append, Array.append_empty]
    rw [h1]
/-- An append of zeros that there is no room for: what comes is new. -/
theorem dx_apZ {t tn s bytes B i : Nat} {K kn : IntKind} {x y : Operand} {j : Int} (m : Nat) {R : List (List Value)} (ho : o.op = .call { callee := .builtin .append, args := #[x, y], argTypes := #[t, tn] }) (ht : apB P t s bytes = true) (htn : P.underlying tn = some (.int kn)) (hx : ev f x = some (.slice (some ⟨B, 0, none⟩) i R.length)) (hy : ev f y = some (.int K j)) (hj : j = (m : Int))
    (hR : RwB s w B R) (hi : i ≤ R.length) (hg : R.length < i + m) (hm : i + m ≤ maxLen) (hby : (i + m) * bytes ≤ 140737488355328) (hw : wantF ops o f = some true := by rfl) :
    DR P ops o N f w fun u W => ∃ Z : List (List Value), u = .slice (some ⟨w.heap.size, 0, none⟩) (i + m) Z.length ∧ i + m ≤ Z.length ∧ Z.take i = R.take i ∧ RwB s W w.heap.size Z ∧ Below w.heap.size w W ∧ w.heap.size < W.heap.size := fun a ha => by
  subst hj
  obtain ⟨e, q, Z, hu, hi', hz, rfl, rfl, hzs⟩ := of_apB ht
  have hx := ha.ev hx
  have hy := ha.ev hy
  obtain ⟨h0, hr, hmR, tt, hb⟩ := hR
  unfold maxLen at hm
  have hrt : ∀ r ∈ R.take i, r.length = q.size := fun r hr' => hr r (List.mem_of_mem_take hr')
  have hfl : (R.take i).flatten.length = i * q.size := by rw [flat_len hrt, List.length_take]; congr 1; omega
  have hfo := run_firstCells_some (P := P) w.drew q.size i ⟨B, 0, none⟩ i R.length (R.take i).flatten hfl (fun k u hk => by
    rw [addr_at, World.cell?_drew]
    refine ((Blk.range ⟨tt, hb⟩ : w.rangeAt B 0 R.flatten)) k u ?_
    rw [← flat_take i hr, List.getElem?_take] at hk
    split at hk
    · exact hk
    · cases hk)
  have hwr : IntKind.i64.wrap (m : Int) = m := by rw [IntKind.wrap_i64]; omega
  have hneg : ¬ ((m : Int) < 0) := by omega
  have hm0 : m ≠ 0 := by omega
  have hns : ¬ (m * q.size = 0) := Nat.mul_ne_zero hm0 (by omega)
  have hbm : m * q.bytes ≤ (i + m) * q.bytes := Nat.mul_le_mul_right _ (by omega)
  have h48i : ¬ (281474976710656 < (m : Int) * (q.bytes : Int)) := by rw [← Int.natCast_mul]; omega
  have hn : ¬ (i + m ≤ R.length) := by omega
  have h63' : ¬ (9223372036854775807 < ((i : Int) + (m : Int))) := by omega
  have hfit := growslice_fits (old := R.length) (by omega) hby
  have h48' : ¬ (281474976710656 < Builtin.nextslicecap (i + m) R.length * q.bytes) := by omega
  have hrun : (Builtin.append_ #[t, tn] o.type #[.slice (some ⟨B, 0, none⟩) i R.length, .int K m]).run P w = .ok (.slice (some ⟨w.heap.size, 0, none⟩) (i + m) (grownCap w (i + m) R.length e)) (w.drew.alloc (.cells ((R.take i).flatten.toArray ++ Builtin.zeroCells Z.cells m ++ Builtin.zeroCells Z.cells (grownCap w (i + m) R.length e - (i + m))) e)) := by
    simp [Builtin.append_, run_underlying hu, run_underlying htn, sizeOf, typeInfo, zeroValue, hi', hz, asInt, asIntOf, hwr, hneg, hns, hn, h63', h48', h48i, Question.forced, hfo, newRow, grownCap]
  have hcl : ((R.take i).flatten.toArray ++ Builtin.zeroCells Z.cells m ++ Builtin.zeroCells Z.cells (grownCap w (i + m) R.length e - (i + m))).toList.length = grownCap w (i + m) R.length e * q.size := by
    have hge : i + m ≤ grownCap w (i + m) R.length e := grownCap_ge _ _ _ _
    rw [Array.length_toList, Array.size_append, Array.size_append, size_zeroCells, size_zeroCells, hzs, List.size_toArray, hfl, ← Nat.add_mul, ← Nat.add_mul]
    congr 1
    omega
  obtain ⟨rows, k1, k2, k3⟩ := rows_of (s := q.size) _ _ hcl
  have hge : i + m ≤ grownCap w (i + m) R.length e := grownCap_ge _ _ _ _
  refine Does.of_wp (wantF_of ha hw) fun K hK => ?_
  unfold Oper.wp execOp
  simp only [ho, resolve, invoke, builtin, Sem.run_bind, Sem.run_pure, Result.andThen_ok, List.map_toArray, List.map_cons, List.map_nil, hx, hy, hrun]
  refine hK _ _ ⟨rows, by rw [k1], by rw [k1]; exact hge, ?_, ⟨h0, k2, by rw [k1]; exact grownCap_le_maxLen _ _ _ _ (by unfold maxLen; omega), e, ?_⟩, below_alloc (below_draws (Below.refl _ _) 1) _, ?_⟩
  · refine flat_inj (s := q.size) (fun r hr' => k2 r (List.mem_of_mem_take hr')) hrt (by rw [List.length_take, List.length_take, k1]; omega) ?_
    rw [← flat_take i k2, k3]
    simp only [Array.toList_append]
    rw [List.append_assoc, List.take_append_of_le_length (by simpa using Nat.le_of_eq hfl.symm), List.take_of_length_le (by simpa using Nat.le_of_eq hfl)]
  · rw [show w.heap.size = w.drew.heap.size from (World.size_drew w).symm, heap_alloc_new, k3]
  · have := (below_alloc (below_draws (Below.refl w.heap.size w) 1) (.cells ((R.take i).flatten.toArray ++ Builtin.zeroCells Z.cells m ++ Builtin.zeroCells Z.cells (grownCap w (i + m) R.length e - (i + m))) e))
    rw [World.size_alloc, World.size_drew]
    omega
end
theorem ins_room {α : Type} {rs sp vs : List α} {i : Nat} (hi : i ≤ rs.length) (hm : rs.length + vs.length ≤ (rs ++ sp).length) :
    let R0 := rs ++ sp
    let R1 := R0.take (i + vs.length) ++ (((R0.drop i).take (rs.length + vs.length - i)).take (rs.length - i) ++ R0.drop (i + vs.length + (rs.length - i)))
    R1.take i ++ (vs ++ R1.drop (i + vs.length)) = (rs.take i ++ (vs ++ rs.drop i)) ++ R0.drop (rs.length + vs.length) := by
  have hl : (rs ++ sp).length = rs.length + sp.length := List.length_append
  have e1 : (((rs ++ sp).drop i).take (rs.length + vs.length - i)).take (rs.length - i) = rs.drop i := by
    rw [List.take_take, show min (rs.length - i) (rs.length + vs.length - i) = rs.length - i by omega, List.drop_append_of_le_length hi, List.take_append_of_le_length (by rw [List.length_drop]; omega), List.take_of_length_le (by rw [List.length_drop]; omega)]
  have l1 : ((rs ++ sp).take (i + vs.length)).length = i + vs.length := by rw [List.length_take]; omega
  simp only [e1]
  rw [List.take_append_of_le_length (by omega), List.take_take, show min i (i + vs.length) = i by omega, List.take_append_of_le_length hi]
  rw [List.drop_append, List.drop_eq_nil_of_le (by omega), List.nil_append, l1, Nat.sub_self, List.drop_zero, show i + vs.length + (rs.length - i) = rs.length + vs.length by omega]
  simp
theorem ins_grow {α : Type} {rs vs R2 : List α} {i : Nat} (hi : i ≤ rs.length) (hm : rs.length + vs.length ≤ R2.length) (ht : R2.take i = rs.take i) :
    let R3 := R2.take i ++ (vs ++ R2.drop (i + vs.length))
    R3.take (i + vs.length) ++ (rs.drop i ++ R3.drop (i + vs.length + (rs.length - i))) = (rs.take i ++ (vs ++ rs.drop i)) ++ R2.drop (rs.length + vs.length) := by
  have l1 : (rs.take i).length = i := by rw [List.length_take]; omega
  have l2 : (rs.take i ++ vs).length = i + vs.length := by rw [List.length_append, l1]
  have e0 : R2.take i ++ (vs ++ R2.drop (i + vs.length)) = (rs.take i ++ vs) ++ R2.drop (i + vs.length) := by rw [ht, List.append_assoc]
  have e1 : ((rs.take i ++ vs) ++ R2.drop (i + vs.length)).take (i + vs.length) = rs.take i ++ vs := by
    rw [List.take_append_of_le_length (by omega), List.take_of_length_le (by omega)]
  have e2 : ((rs.take i ++ vs) ++ R2.drop (i + vs.length)).drop (i + vs.length + (rs.length - i)) = R2.drop (rs.length + vs.length) := by
    have e3 : (rs.take i ++ vs).drop (i + vs.length + (rs.length - i)) = [] := List.drop_eq_nil_of_le (by omega)
    rw [List.drop_append, e3, List.nil_append, l2, List.drop_drop, show i + vs.length + (i + vs.length + (rs.length - i) - (i + vs.length)) = rs.length + vs.length by omega]
  intro R3
  rw [show R3 = (rs.take i ++ vs) ++ R2.drop (i + vs.length) from e0, e1, e2]
  simp
end Go.Proofs.YthefddclefimoaaGreatDoor
namespace Go.Proofs.YthefddclefimoaaGreatDoor
open Go.RowKit
set_option linter.unusedVariables false
set_option linter.unusedSimpArgs false
set_option maxRecDepth 8000

theorem del_tail {α : Type} {rs sp : List α} {i : Nat} (hi : i ≤ rs.length) : ((rs ++ sp).drop i).take (rs.length - i) = rs.drop i := by
  rw [List.drop_append_of_le_length hi, List.take_append_of_le_length (by rw [List.length_drop]; omega), List.take_of_length_le (by rw [List.length_drop]; omega)]
theorem ins_own_eq {s : Nat} {w : World} {rs vs tl : List (List Value)} {B i n c : Nat} (h : OwS s w (.slice (some ⟨B, 0, none⟩) (rs.take i ++ (vs ++ rs.drop i)).length ((rs.take i ++ (vs ++ rs.drop i)) ++ tl).length) (rs.take i ++ (vs ++ rs.drop i)) B) (hi : i ≤ rs.length) (hn : rs.length + vs.length = n) (hc : ((rs.take i ++ (vs ++ rs.drop i)) ++ tl).length = c) : OwS s w (.slice (some ⟨B, 0, none⟩) n c) (rs.take i ++ (vs ++ rs.drop i)) B := by
  have e : (rs.take i ++ (vs ++ rs.drop i)).length = n := by simp; omega
  rw [e, hc] at h
  exact h
theorem GrowB.new_or {B B' : Nat} {w w' : World} (h : GrowB B B' w w') : B' = B ∨ w.heap.size ≤ B' := h.new
set_option maxHeartbeats 1000000 in
theorem insertBond_v (rs sp vs vp : List (List Value)) (i : Nat) (B C : Nat) (w : World) (L : List Nat) (hL : LL (B :: L) w) (hO : RwB 4 w B (rs ++ sp)) (hV : RwB 4 w C (vs ++ vp)) (hCB : C ≠ B) (hi : i ≤ rs.length) (hvs : vs ≠ []) (hsm : (rs.length + vs.length) * 56 ≤ 140737488355328) (hone : ∀ r ∈ rs, ∀ u ∈ r, u.oneCell' = true) (hvone : ∀ r ∈ vs, ∀ u ∈ r, u.oneCell' = true) : CW Tryz.prog 61 [.slice (some ⟨B, 0, none⟩) rs.length ((rs ++ sp).length), .int .i64 (i : Int), .slice (some ⟨C, 0, none⟩) vs.length ((vs ++ vp).length)] w B fun v W => ∃ B', OwS 4 W v (rs.take i ++ (vs ++ rs.drop i)) B' ∧ (B' = B ∨ w.heap.size ≤ B') := by
  refine cw_enter (N := 95) (f := [(0, .slice (some ⟨B, 0, none⟩) rs.length ((rs ++ sp).length)), (1, .int .i64 (i : Int)), (2, .slice (some ⟨C, 0, none⟩) vs.length ((vs ++ vp).length))]) Tryz.func61 rfl rfl rfl rfl fun Q hQ hE => ?_
  have hB := Chg.refl B w
  have hlen : (rs ++ sp).length = rs.length + sp.length := List.length_append
  have hm0 := List.length_pos_iff.2 hvs
  refine WC.seq fun K1 hK1 => ?_
  refine WC.region ?_
  refine WL.val (dx_assign rfl rfl) rfl rfl ?_
  refine WL.nil ?_
  refine hK1 ?_
  refine WC.seq fun K2 hK2 => ?_
  refine WC.region ?_
  refine WL.val (dx_move rfl rfl) rfl rfl ?_
  refine WL.val (dx_move rfl rfl) rfl rfl ?_
  refine WL.val (dx_slL i rfl ty_slice_38 rfl rfl rfl (by omega) (by omega)) rfl rfl ?_
  refine WL.nil ?_
  refine hK2 ?_
  refine WC.seq fun K3 hK3 => ?_
  refine WC.region ?_
  refine WL.val (dx_move rfl rfl) rfl rfl ?_
  refine WL.val (dx_len rfl Tryz.underlying38 rfl) rfl rfl ?_
  refine WL.val (dx_assign rfl rfl) rfl rfl ?_
  refine WL.nil ?_
  refine hK3 ?_
  refine WC.seq fun K4 hK4 => ?_
  refine WC.seq fun K5 hK5 => ?_
  refine WC.region ?_
  refine WL.val (dx_move rfl rfl) rfl rfl ?_
  refine WL.val (dx_eql rfl rfl rfl) rfl rfl ?_
  refine WL.nil ?_
  refine hK5 ?_
  refine WC.cond rfl (fun c6 => ?_) (fun c6 => ?_)
  ·
    replace c6 := of_decide_eq_true c6
    exfalso; omega
  ·
    replace c6 := of_decide_eq_false c6
    refine WC.skip ?_
    refine hK4 ?_
    refine WC.seq fun K7 hK7 => ?_
    refine WC.region ?_
    refine WL.val (dx_move rfl rfl) rfl rfl ?_
    refine WL.val (dx_len rfl Tryz.underlying38 rfl) rfl rfl ?_
    refine WL.val (dx_assign rfl rfl) rfl rfl ?_
    refine WL.nil ?_
    refine hK7 ?_
    refine WC.seq fun K8 hK8 => ?_
    refine WC.seq fun K9 hK9 => ?_
    refine WC.region ?_
    refine WL.val (dx_move rfl rfl) rfl rfl ?_
    refine WL.val (dx_move rfl rfl) rfl rfl ?_
    refine WL.val (dx_eql rfl rfl rfl) rfl rfl ?_
    refine WL.nil ?_
    refine hK9 ?_
    refine WC.cond rfl (fun c10 => ?_) (fun c10 => ?_)
    ·
      replace c10 := of_decide_eq_true c10
      refine WC.seq fun K11 hK11 => ?_
      refine WC.region ?_
      refine WL.val (dx_move rfl rfl) rfl rfl ?_
      refine WL.val (dx_move rfl rfl) rfl rfl ?_
      refine WL.get (dx_apO' (rs := rs) (news := vs) rfl ty_ap_38 rfl rfl hO.own (hV.rd (L := []) (by simp)) hvone (by unfold maxLen; omega) (by omega)) rfl rfl ?_
      rintro u16 W12 ⟨B13, k14, g15⟩
      replace hB := hB.grow g15 (.inl rfl)
      refine WL.val (dx_assign rfl rfl) rfl rfl ?_
      refine WL.nil ?_
      refine hK11 ?_
      refine WC.ret fun a_ ha_ => ?_
      exact hQ (cw_ret1 rfl (.tmp rfl) ⟨B13, (by have e : i = rs.length := (by omega); rw [e, List.take_length, List.drop_length, List.append_nil]; exact k14), g15.new_or⟩ hB ha_)
    ·
      replace c10 := of_decide_eq_false c10
      refine WC.skip ?_
      refine hK8 ?_
      refine WC.seq fun K17 hK17 => ?_
      refine WC.seq fun K18 hK18 => ?_
      refine WC.region ?_
      refine WL.val (dx_move rfl rfl) rfl rfl ?_
      refine WL.val (dx_move rfl rfl) rfl rfl ?_
      refine WL.val (dx_add (r := ((rs.length + vs.length : Nat) : Int)) rfl rfl rfl (by rw [wrap64_id (by omega)]; omega)) rfl rfl ?_
      refine WL.val (dx_move rfl rfl) rfl rfl ?_
      refine WL.val (dx_cap rfl Tryz.underlying38 rfl) rfl rfl ?_
      refine WL.val (dx_gtr rfl rfl rfl) rfl rfl ?_
      refine WL.nil ?_
      refine hK18 ?_
      refine WC.cond rfl (fun c19 => ?_) (fun c19 => ?_)
      ·
        replace c19 := of_decide_eq_true c19
        refine WC.seq fun K20 hK20 => ?_
        refine WC.region ?_
        refine WL.val (dx_move rfl rfl) rfl rfl ?_
        refine WL.val (dx_move rfl rfl) rfl rfl ?_
        refine WL.val (dx_slH i rfl ty_slice_38 rfl rfl rfl (by omega)) rfl rfl ?_
        refine WL.val (dx_move rfl rfl) rfl rfl ?_
        refine WL.val (dx_move rfl rfl) rfl rfl ?_
        refine WL.val (dx_add (r := ((rs.length + vs.length : Nat) : Int)) rfl rfl rfl (by rw [wrap64_id (by omega)]; omega)) rfl rfl ?_
        refine WL.val (dx_move rfl rfl) rfl rfl ?_
        refine WL.val (dx_sub (r := ((rs.length + vs.length - i : Nat) : Int)) rfl rfl rfl (by rw [wrap64_id (by omega)]; omega)) rfl rfl ?_
        refine WL.get (dx_apZ (rs.length + vs.length - i) (R := (rs ++ sp)) rfl ty_ap_38 Tryz.underlying3 rfl rfl rfl hO (by omega) (by omega) (by unfold maxLen; omega) (by omega)) rfl rfl ?_
        rintro _ W1 ⟨Z, rfl, hz1, hz2, kZ, bZ, zZ⟩
        have nB : B ≠ w.heap.size := Nat.ne_of_lt hO.lt
        have nC : C ≠ w.heap.size := Nat.ne_of_lt hV.lt
        replace hO := hO.below bZ
        replace hV := hV.below bZ
        replace hB := hB.thenB bZ
        replace hL := LL.more hL zZ
        have hz3 : Z.take i = rs.take i := (by rw [hz2]; exact List.take_append_of_le_length hi)
        have ez : i + (rs.length + vs.length - i) = rs.length + vs.length := (by omega)
        rw [ez] at hz1
        refine WL.val (dx_assign rfl rfl) rfl rfl ?_
        refine WL.nil ?_
        refine hK20 ?_
        refine WC.seq fun K21 hK21 => ?_
        refine WC.region ?_
        refine WL.val (dx_move rfl rfl) rfl rfl ?_
        refine WL.val (dx_move rfl rfl) rfl rfl ?_
        refine WL.val (dx_slL i rfl ty_slice_38 rfl rfl rfl (by omega) (by omega)) rfl rfl ?_
        refine WL.val (dx_move rfl rfl) rfl rfl ?_
        refine WL.get (dx_cpV (B := w.heap.size) (R := Z) (news := vs) (lo := i) (n := (i + (rs.length + vs.length - i) - i)) rfl ty_slice_38 rfl (fun hn => by rw [offV_in (n := (i + (rs.length + vs.length - i) - i)) hn (by omega)]; simp) rfl kZ (hV.rd (L := []) (by simp)) (fun r hr => hvone r (List.mem_of_mem_take hr)) (by omega)) rfl rfl ?_
        rintro _ W22 ⟨rfl, k23, o24⟩
        replace hB := hB.only o24 (.inr (Nat.le_refl _))
        replace hL := LL.only hL o24
        replace hO := hO.other o24 nB
        replace hV := hV.other o24 nC
        rw [List.take_of_length_le (l := vs) (by omega), show min vs.length (i + (rs.length + vs.length - i) - i) = vs.length by omega] at k23
        have l3 : (Z.take i ++ (vs ++ Z.drop (i + vs.length))).length = Z.length := (by simp; omega)
        have hg := ins_grow (vs := vs) hi hz1 hz3
        simp only at hg
        refine WL.nil ?_
        refine hK21 ?_
        refine WC.seq fun K25 hK25 => ?_
        refine WC.drawM 8 [(some 46, .is (.slice (some ⟨w.heap.size, 0, none⟩) (i + (rs.length + vs.length - i)) Z.length)), (some 47, .is (.int .i64 (i : Int))), (some 48, .is (.int .i64 (vs.length : Int))), (some 49, .is (.int .i64 ((i + vs.length : Nat) : Int))), (some 50, .is (.slice (some ⟨w.heap.size, (offV Z.length (i + vs.length) 0 4), none⟩) ((i + (rs.length + vs.length - i)) - (i + vs.length)) (Z.length - (i + vs.length)))), (some 51, .is (.slice (some ⟨B, 0, none⟩) rs.length ((rs ++ sp).length))), (some 52, .is (.int .i64 (i : Int))), (some 53, .is (.slice (some ⟨B, (offV ((rs ++ sp).length) i 0 4), none⟩) (rs.length - i) ((rs ++ sp).length - i)))] [[], [], [], [1, 2], [0, 3], [], [], [5, 6]] (by kernel_rfl) (by kernel_rfl) (by kernel_rfl) (by kernel_rfl) (by kernel_rfl) (by kernel_rfl) (by kernel_rfl) (by exact trivial) ?_ ?_
        ·
          refine DSteps.cons (fun Wd hd => ?_) ?_
          ·
            exact DV.dr (dx_move rfl rfl) ⟨Below.refl _ _, rfl⟩
          refine DSteps.cons (fun Wd hd => ?_) ?_
          ·
            exact DV.dr (dx_move rfl rfl) ⟨Below.refl _ _, rfl⟩
          refine DSteps.cons (fun Wd hd => ?_) ?_
          ·
            exact DV.dr (dx_move rfl rfl) ⟨Below.refl _ _, rfl⟩
          refine DSteps.cons (fun Wd hd => ?_) ?_
          ·
            exact DV.dr (dx_add (r := ((i + vs.length : Nat) : Int)) rfl rfl rfl (by rw [wrap64_id (by omega)]; omega)) ⟨Below.refl _ _, rfl⟩
          refine DSteps.cons (fun Wd hd => ?_) ?_
          ·
            exact DV.dr (dx_slL (i + vs.length) rfl ty_slice_38 rfl rfl rfl (by omega) (by omega)) ⟨Below.refl _ _, rfl⟩
          refine DSteps.cons (fun Wd hd => ?_) ?_
          ·
            exact DV.dr (dx_move rfl rfl) ⟨Below.refl _ _, rfl⟩
          refine DSteps.cons (fun Wd hd => ?_) ?_
          ·
            exact DV.dr (dx_move rfl rfl) ⟨Below.refl _ _, rfl⟩
          refine DSteps.cons (fun Wd hd => ?_) ?_
          ·
            exact DV.dr (dx_slL i rfl ty_slice_38 rfl rfl rfl (by omega) (by omega)) ⟨Below.refl _ _, rfl⟩
          exact trivial
        ·
          intro W26 b27
          replace hO := hO.below b27
          replace hV := hV.below b27
          replace k23 := k23.below b27
          replace hB := hB.thenB b27
          replace hL := LL.below hL b27
          refine WL.get (dx_cpV (B := w.heap.size) (R := (Z.take i ++ (vs ++ Z.drop (i + vs.length)))) (news := (((rs ++ sp).drop i).take (rs.length - i))) (lo := (i + vs.length)) (n := (i + (rs.length + vs.length - i) - (i + vs.length))) rfl ty_slice_38 rfl (fun hn => by rw [offV_in (n := (i + (rs.length + vs.length - i) - (i + vs.length))) hn (by omega)]; simp) rfl k23 (hO.part (L := []) (lo := i) (n := rs.length - i) (by simp) (fun hn => by rw [offV_in (n := rs.length - i) hn (by rw [hlen]; omega)]; simp) (by rw [hlen]; omega) (by rw [hlen]; omega)) (fun r hr => hone r (mem_tail hi (List.mem_of_mem_take hr))) (by omega)) rfl rfl ?_
          rintro _ W28 ⟨rfl, k29, o30⟩
          replace hB := hB.only o30 (.inr (Nat.le_refl _))
          replace hL := LL.only hL o30
          replace hO := hO.other o30 nB
          replace hV := hV.other o30 nC
          rw [show ((rs ++ sp).drop i).take (rs.length - i) = rs.drop i from del_tail hi] at k29
          rw [List.take_of_length_le (l := rs.drop i) (by rw [List.length_drop]; omega), List.length_drop, show min (rs.length - i) (i + (rs.length + vs.length - i) - (i + vs.length)) = rs.length - i by omega, hg] at k29
          have hown := k29.own
          refine WL.nil ?_
          refine hK25 ?_
          refine WC.seq fun K31 hK31 => ?_
          refine WC.region ?_
          refine WL.val (dx_move rfl rfl) rfl rfl ?_
          refine WL.val (dx_assign rfl rfl) rfl rfl ?_
          refine WL.nil ?_
          refine hK31 ?_
          refine WC.ret fun a_ ha_ => ?_
          exact hQ (cw_ret1 rfl (.tmp rfl) ⟨w.heap.size, ins_own_eq hown hi ez.symm (by simp; omega), .inr (Nat.le_refl _)⟩ hB ha_)
      ·
        replace c19 := of_decide_eq_false c19
        refine WC.skip ?_
        refine hK17 ?_
        refine WC.seq fun K32 hK32 => ?_
        refine WC.region ?_
        refine WL.val (dx_move rfl rfl) rfl rfl ?_
        refine WL.val (dx_move rfl rfl) rfl rfl ?_
        refine WL.val (dx_move rfl rfl) rfl rfl ?_
        refine WL.val (dx_add (r := ((rs.length + vs.length : Nat) : Int)) rfl rfl rfl (by rw [wrap64_id (by omega)]; omega)) rfl rfl ?_
        refine WL.val (dx_slH (rs.length + vs.length) rfl ty_slice_38 rfl rfl rfl (by omega)) rfl rfl ?_
        refine WL.val (dx_assign rfl rfl) rfl rfl ?_
        refine WL.nil ?_
        refine hK32 ?_
        refine WC.seq fun K33 hK33 => ?_
        refine WC.seq fun K34 hK34 => ?_
        refine WC.region ?_
        refine WL.val (dx_move rfl rfl) rfl rfl ?_
        refine WL.val (dx_move rfl rfl) rfl rfl ?_
        refine WL.val (dx_move rfl rfl) rfl rfl ?_
        refine WL.val (dx_move rfl rfl) rfl rfl ?_
        refine WL.val (dx_add (r := ((i + vs.length : Nat) : Int)) rfl rfl rfl (by rw [wrap64_id (by omega)]; omega)) rfl rfl ?_
        refine WL.val (dx_slL (i + vs.length) rfl ty_slice_38 rfl rfl rfl (by omega) (by omega)) rfl rfl ?_
        refine WL.val (dx_ovl (U := (rs ++ sp)) (V := (vs ++ vp)) (s := 4) (tR := 4) rfl Tryz.func84 (by kernel_rfl) (by kernel_rfl) (by kernel_rfl) (by kernel_rfl) ty_slice_38 rfl rfl hV hO hCB (by intro e; rw [e] at hlen; simp only [List.length_nil] at hlen; omega)) rfl rfl ?_
        refine WL.val (dx_not rfl rfl) rfl rfl ?_
        refine WL.nil ?_
        refine hK34 ?_
        refine WC.condT rfl ?_
        refine WC.seq fun K35 hK35 => ?_
        refine WC.drawM 8 [(some 69, .is (.slice (some ⟨B, 0, none⟩) (rs.length + vs.length) ((rs ++ sp).length))), (some 70, .is (.int .i64 (i : Int))), (some 71, .is (.int .i64 (vs.length : Int))), (some 72, .is (.int .i64 ((i + vs.length : Nat) : Int))), (some 73, .is (.slice (some ⟨B, (offV ((rs ++ sp).length) (i + vs.length) 0 4), none⟩) ((rs.length + vs.length) - (i + vs.length)) ((rs ++ sp).length - (i + vs.length)))), (some 74, .is (.slice (some ⟨B, 0, none⟩) (rs.length + vs.length) ((rs ++ sp).length))), (some 75, .is (.int .i64 (i : Int))), (some 76, .is (.slice (some ⟨B, (offV ((rs ++ sp).length) i 0 4), none⟩) ((rs.length + vs.length) - i) ((rs ++ sp).length - i)))] [[], [], [], [1, 2], [0, 3], [], [], [5, 6]] (by kernel_rfl) (by kernel_rfl) (by kernel_rfl) (by kernel_rfl) (by kernel_rfl) (by kernel_rfl) (by kernel_rfl) (by exact trivial) ?_ ?_
        ·
          refine DSteps.cons (fun Wd hd => ?_) ?_
          ·
            exact DV.dr (dx_move rfl rfl) ⟨Below.refl _ _, rfl⟩
          refine DSteps.cons (fun Wd hd => ?_) ?_
          ·
            exact DV.dr (dx_move rfl rfl) ⟨Below.refl _ _, rfl⟩
          refine DSteps.cons (fun Wd hd => ?_) ?_
          ·
            exact DV.dr (dx_move rfl rfl) ⟨Below.refl _ _, rfl⟩
          refine DSteps.cons (fun Wd hd => ?_) ?_
          ·
            exact DV.dr (dx_add (r := ((i + vs.length : Nat) : Int)) rfl rfl rfl (by rw [wrap64_id (by omega)]; omega)) ⟨Below.refl _ _, rfl⟩
          refine DSteps.cons (fun Wd hd => ?_) ?_
          ·
            exact DV.dr (dx_slL (i + vs.length) rfl ty_slice_38 rfl rfl rfl (by omega) (by omega)) ⟨Below.refl _ _, rfl⟩
          refine DSteps.cons (fun Wd hd => ?_) ?_
          ·
            exact DV.dr (dx_move rfl rfl) ⟨Below.refl _ _, rfl⟩
          refine DSteps.cons (fun Wd hd => ?_) ?_
          ·
            exact DV.dr (dx_move rfl rfl) ⟨Below.refl _ _, rfl⟩
          refine DSteps.cons (fun Wd hd => ?_) ?_
          ·
            exact DV.dr (dx_slL i rfl ty_slice_38 rfl rfl rfl (by omega) (by omega)) ⟨Below.refl _ _, rfl⟩
          exact trivial
        ·
          intro W36 b37
          replace hO := hO.below b37
          replace hV := hV.below b37
          replace hB := hB.thenB b37
          replace hL := LL.below hL b37
          refine WL.get (dx_cpV (B := B) (R := (rs ++ sp)) (news := (((rs ++ sp).drop i).take (rs.length + vs.length - i))) (lo := (i + vs.length)) (n := (rs.length + vs.length - (i + vs.length))) rfl ty_slice_38 rfl (fun hn => by rw [offV_in (n := (rs.length + vs.length - (i + vs.length))) hn (by omega)]; simp) rfl hO (hO.part (L := []) (lo := i) (n := rs.length + vs.length - i) (by simp) (fun hn => by rw [offV_in (n := rs.length + vs.length - i) hn (by omega)]; simp) (by omega) (by omega)) (fun r hr => hone r (mem_tail2 hi (by omega) (by omega) hr)) (by omega)) rfl rfl ?_
          rintro _ W38 ⟨rfl, k39, o40⟩
          replace hB := hB.only o40 (.inl rfl)
          replace hL := LL.only hL o40
          replace hV := hV.other o40 hCB
          have ll : (((rs ++ sp).drop i).take (rs.length + vs.length - i)).length = rs.length + vs.length - i := (by rw [List.length_take, List.length_drop]; omega)
          rw [ll, show min (rs.length + vs.length - i) (rs.length + vs.length - (i + vs.length)) = rs.length - i by omega, show rs.length + vs.length - (i + vs.length) = rs.length - i by omega] at k39
          have l3 : ((rs ++ sp).take (i + vs.length) ++ ((((rs ++ sp).drop i).take (rs.length + vs.length - i)).take (rs.length - i) ++ (rs ++ sp).drop (i + vs.length + (rs.length - i)))).length = (rs ++ sp).length := (by simp; omega)
          have hg := ins_room (vs := vs) (sp := sp) hi (by omega)
          simp only at hg
          refine WL.nil ?_
          refine hK35 ?_
          refine WC.seq fun K41 hK41 => ?_
          refine WC.region ?_
          refine WL.val (dx_move rfl rfl) rfl rfl ?_
          refine WL.val (dx_move rfl rfl) rfl rfl ?_
          refine WL.val (dx_slL i rfl ty_slice_38 rfl rfl rfl (by omega) (by omega)) rfl rfl ?_
          refine WL.val (dx_move rfl rfl) rfl rfl ?_
          refine WL.get (dx_cpV (B := B) (R := ((rs ++ sp).take (i + vs.length) ++ ((((rs ++ sp).drop i).take (rs.length + vs.length - i)).take (rs.length - i) ++ (rs ++ sp).drop (i + vs.length + (rs.length - i))))) (news := vs) (lo := i) (n := (rs.length + vs.length - i)) rfl ty_slice_38 rfl (fun hn => by rw [offV_in (n := (rs.length + vs.length - i)) hn (by omega)]; simp) rfl k39 (hV.rd (L := []) (by simp)) (fun r hr => hvone r (List.mem_of_mem_take hr)) (by omega)) rfl rfl ?_
          rintro _ W42 ⟨rfl, k43, o44⟩
          replace hB := hB.only o44 (.inl rfl)
          replace hL := LL.only hL o44
          replace hV := hV.other o44 hCB
          rw [List.take_of_length_le (l := vs) (by omega), show min vs.length (rs.length + vs.length - i) = vs.length by omega, hg] at k43
          have hown := k43.own
          refine WL.nil ?_
          refine hK41 ?_
          refine WC.seq fun K45 hK45 => ?_
          refine WC.region ?_
          refine WL.val (dx_move rfl rfl) rfl rfl ?_
          refine WL.val (dx_assign rfl rfl) rfl rfl ?_
          refine WL.nil ?_
          refine hK45 ?_
          refine WC.ret fun a_ ha_ => ?_
          exact hQ (cw_ret1 rfl (.tmp rfl) ⟨B, ins_own_eq hown hi rfl (by simp; omega), .inl rfl⟩ hB ha_)

set_option maxHeartbeats 1000000 in
theorem insertNBond_v (vs vp : List (List Value)) (C : Nat) (w : World) (L : List Nat) (hL : LL L w)   (hV : RwB 4 w C (vs ++ vp)) (hvs : vs ≠ []) (hsm : vs.length * 56 ≤ 140737488355328) : CV Tryz.prog 61 [.slice none 0 0, .int .i64 0, .slice (some ⟨C, 0, none⟩) vs.length ((vs ++ vp).length)] w fun v W => ∃ B, w.heap.size ≤ B ∧ OwS 4 W v vs B := by
  refine cv_enter (N := 95) (f := [(0, .slice none 0 0), (1, .int .i64 0), (2, .slice (some ⟨C, 0, none⟩) vs.length ((vs ++ vp).length))]) Tryz.func61 rfl rfl rfl rfl fun Q hQ hE => ?_
  have hB := Below.refl w.heap.size w
  have hm0 := List.length_pos_iff.2 hvs
  refine WC.seq fun K1 hK1 => ?_
  refine WC.region ?_
  refine WL.val (dx_assign rfl rfl) rfl rfl ?_
  refine WL.nil ?_
  refine hK1 ?_
  refine WC.seq fun K2 hK2 => ?_
  refine WC.region ?_
  refine WL.val (dx_move rfl rfl) rfl rfl ?_
  refine WL.val (dx_move rfl rfl) rfl rfl ?_
  refine WL.val (dx_slN rfl ty_slice_38 rfl rfl) rfl rfl ?_
  refine WL.nil ?_
  refine hK2 ?_
  refine WC.seq fun K3 hK3 => ?_
  refine WC.region ?_
  refine WL.val (dx_move rfl rfl) rfl rfl ?_
  refine WL.val (dx_len rfl Tryz.underlying38 rfl) rfl rfl ?_
  refine WL.val (dx_assign rfl rfl) rfl rfl ?_
  refine WL.nil ?_
  refine hK3 ?_
  refine WC.seq fun K4 hK4 => ?_
  refine WC.seq fun K5 hK5 => ?_
  refine WC.region ?_
  refine WL.val (dx_move rfl rfl) rfl rfl ?_
  refine WL.val (dx_eql rfl rfl rfl) rfl rfl ?_
  refine WL.nil ?_
  refine hK5 ?_
  refine WC.cond rfl (fun c6 => ?_) (fun c6 => ?_)
  ·
    replace c6 := of_decide_eq_true c6
    exfalso; omega
  ·
    replace c6 := of_decide_eq_false c6
    refine WC.skip ?_
    refine hK4 ?_
    refine WC.seq fun K7 hK7 => ?_
    refine WC.region ?_
    refine WL.val (dx_move rfl rfl) rfl rfl ?_
    refine WL.val (dx_len rfl Tryz.underlying38 rfl) rfl rfl ?_
    refine WL.val (dx_assign rfl rfl) rfl rfl ?_
    refine WL.nil ?_
    refine hK7 ?_
    refine WC.seq fun K8 hK8 => ?_
    refine WC.seq fun K9 hK9 => ?_
    refine WC.region ?_
    refine WL.val (dx_move rfl rfl) rfl rfl ?_
    refine WL.val (dx_move rfl rfl) rfl rfl ?_
    refine WL.val (dx_eql rfl rfl rfl) rfl rfl ?_
    refine WL.nil ?_
    refine hK9 ?_
    refine WC.cond rfl (fun c10 => ?_) (fun c10 => ?_)
    ·
      replace c10 := of_decide_eq_true c10
      refine WC.seq fun K11 hK11 => ?_
      refine WC.region ?_
      refine WL.val (dx_move rfl rfl) rfl rfl ?_
      refine WL.val (dx_move rfl rfl) rfl rfl ?_
      refine WL.get (dx_apF (rs := []) (news := vs) rfl ty_ap_38 rfl rfl (RdF.nil (L := []) (by decide)) (hV.rd (L := []) (by simp)) hvs (by simp; unfold maxLen; omega) (by simp; omega)) rfl rfl ?_
      rintro u16 W12 ⟨k13, b14, z15⟩
      replace hB := below_then hB b14
      refine WL.val (dx_assign rfl rfl) rfl rfl ?_
      refine WL.nil ?_
      refine hK11 ?_
      refine WC.ret fun a_ ha_ => ?_
      exact hQ (cv_ret1 rfl (.tmp rfl) ⟨w.heap.size, Nat.le_refl _, k13⟩ hB ha_)
    ·
      replace c10 := of_decide_eq_false c10
      exact absurd rfl c10

set_option maxHeartbeats 1000000 in
theorem insertUser_v (rs sp vs vp : List (List Value)) (i : Nat) (B C : Nat) (w : World) (L : List Nat) (hL : LL (B :: L) w) (hO : RwB 3 w B (rs ++ sp)) (hV : RwB 3 w C (vs ++ vp)) (hCB : C ≠ B) (hi : i ≤ rs.length) (hvs : vs ≠ []) (hsm : (rs.length + vs.length) * 56 ≤ 140737488355328) (hone : ∀ r ∈ rs, ∀ u ∈ r, u.oneCell' = true) (hvone : ∀ r ∈ vs, ∀ u ∈ r, u.oneCell' = true) : CW Tryz.prog 42 [.slice (some ⟨B, 0, none⟩) rs.length ((rs ++ sp).length), .int .i64 (i : Int), .slice (some ⟨C, 0, none⟩) vs.length ((vs ++ vp).length)] w B fun v W => ∃ B', OwS 3 W v (rs.take i ++ (vs ++ rs.drop i)) B' ∧ (B' = B ∨ w.heap.size ≤ B') := by
  refine cw_enter (N := 95) (f := [(0, .slice (some ⟨B, 0, none⟩) rs.length ((rs ++ sp).length)), (1, .int .i64 (i : Int)), (2, .slice (some ⟨C, 0, none⟩) vs.length ((vs ++ vp).length))]) Tryz.func42 rfl rfl rfl rfl fun Q hQ hE => ?_
  have hB := Chg.refl B w
  have hlen : (rs ++ sp).length = rs.length + sp.length := List.length_append
  have hm0 := List.length_pos_iff.2 hvs
  refine WC.seq fun K1 hK1 => ?_
  refine WC.region ?_
  refine WL.val (dx_assign rfl rfl) rfl rfl ?_
  refine WL.nil ?_
  refine hK1 ?_
  refine WC.seq fun K2 hK2 => ?_
  refine WC.region ?_
  refine WL.val (dx_move rfl rfl) rfl rfl ?_
  refine WL.val (dx_move rfl rfl) rfl rfl ?_
  refine WL.val (dx_slL i rfl ty_slice_22 rfl rfl rfl (by omega) (by omega)) rfl rfl ?_
  refine WL.nil ?_
  refine hK2 ?_
  refine WC.seq fun K3 hK3 => ?_
  refine WC.region ?_
  refine WL.val (dx_move rfl rfl) rfl rfl ?_
  refine WL.val (dx_len rfl Tryz.underlying22 rfl) rfl rfl ?_
  refine WL.val (dx_assign rfl rfl) rfl rfl ?_
  refine WL.nil ?_
  refine hK3 ?_
  refine WC.seq fun K4 hK4 => ?_
  refine WC.seq fun K5 hK5 => ?_
  refine WC.region ?_
  refine WL.val (dx_move rfl rfl) rfl rfl ?_
  refine WL.val (dx_eql rfl rfl rfl) rfl rfl ?_
  refine WL.nil ?_
  refine hK5 ?_
  refine WC.cond rfl (fun c6 => ?_) (fun c6 => ?_)
  ·
    replace c6 := of_decide_eq_true c6
    exfalso; omega
  ·
    replace c6 := of_decide_eq_false c6
    refine WC.skip ?_
    refine hK4 ?_
    refine WC.seq fun K7 hK7 => ?_
    refine WC.region ?_
    refine WL.val (dx_move rfl rfl) rfl rfl ?_
    refine WL.val (dx_len rfl Tryz.underlying22 rfl) rfl rfl ?_
    refine WL.val (dx_assign rfl rfl) rfl rfl ?_
    refine WL.nil ?_
    refine hK7 ?_
    refine WC.seq fun K8 hK8 => ?_
    refine WC.seq fun K9 hK9 => ?_
    refine WC.region ?_
    refine WL.val (dx_move rfl rfl) rfl rfl ?_
    refine WL.val (dx_move rfl rfl) rfl rfl ?_
    refine WL.val (dx_eql rfl rfl rfl) rfl rfl ?_
    refine WL.nil ?_
    refine hK9 ?_
    refine WC.cond rfl (fun c10 => ?_) (fun c10 => ?_)
    ·
      replace c10 := of_decide_eq_true c10
      refine WC.seq fun K11 hK11 => ?_
      refine WC.region ?_
      refine WL.val (dx_move rfl rfl) rfl rfl ?_
      refine WL.val (dx_move rfl rfl) rfl rfl ?_
      refine WL.get (dx_apO' (rs := rs) (news := vs) rfl ty_ap_22 rfl rfl hO.own (hV.rd (L := []) (by simp)) hvone (by unfold maxLen; omega) (by omega)) rfl rfl ?_
      rintro u16 W12 ⟨B13, k14, g15⟩
      replace hB := hB.grow g15 (.inl rfl)
      refine WL.val (dx_assign rfl rfl) rfl rfl ?_
      refine WL.nil ?_
      refine hK11 ?_
      refine WC.ret fun a_ ha_ => ?_
      exact hQ (cw_ret1 rfl (.tmp rfl) ⟨B13, (by have e : i = rs.length := (by omega); rw [e, List.take_length, List.drop_length, List.append_nil]; exact k14), g15.new_or⟩ hB ha_)
    ·
      replace c10 := of_decide_eq_false c10
      refine WC.skip ?_
      refine hK8 ?_
      refine WC.seq fun K17 hK17 => ?_
      refine WC.seq fun K18 hK18 => ?_
      refine WC.region ?_
      refine WL.val (dx_move rfl rfl) rfl rfl ?_
      refine WL.val (dx_move rfl rfl) rfl rfl ?_
      refine WL.val (dx_add (r := ((rs.length + vs.length : Nat) : Int)) rfl rfl rfl (by rw [wrap64_id (by omega)]; omega)) rfl rfl ?_
      refine WL.val (dx_move rfl rfl) rfl rfl ?_
      refine WL.val (dx_cap rfl Tryz.underlying22 rfl) rfl rfl ?_
      refine WL.val (dx_gtr rfl rfl rfl) rfl rfl ?_
      refine WL.nil ?_
      refine hK18 ?_
      refine WC.cond rfl (fun c19 => ?_) (fun c19 => ?_)
      ·
        replace c19 := of_decide_eq_true c19
        refine WC.seq fun K20 hK20 => ?_
        refine WC.region ?_
        refine WL.val (dx_move rfl rfl) rfl rfl ?_
        refine WL.val (dx_move rfl rfl) rfl rfl ?_
        refine WL.val (dx_slH i rfl ty_slice_22 rfl rfl rfl (by omega)) rfl rfl ?_
        refine WL.val (dx_move rfl rfl) rfl rfl ?_
        refine WL.val (dx_move rfl rfl) rfl rfl ?_
        refine WL.val (dx_add (r := ((rs.length + vs.length : Nat) : Int)) rfl rfl rfl (by rw [wrap64_id (by omega)]; omega)) rfl rfl ?_
        refine WL.val (dx_move rfl rfl) rfl rfl ?_
        refine WL.val (dx_sub (r := ((rs.length + vs.length - i : Nat) : Int)) rfl rfl rfl (by rw [wrap64_id (by omega)]; omega)) rfl rfl ?_
        refine WL.get (dx_apZ (rs.length + vs.length - i) (R := (rs ++ sp)) rfl ty_ap_22 Tryz.underlying3 rfl rfl rfl hO (by omega) (by omega) (by unfold maxLen; omega) (by omega)) rfl rfl ?_
        rintro _ W1 ⟨Z, rfl, hz1, hz2, kZ, bZ, zZ⟩
        have nB : B ≠ w.heap.size := Nat.ne_of_lt hO.lt
        have nC : C ≠ w.heap.size := Nat.ne_of_lt hV.lt
        replace hO := hO.below bZ
        replace hV := hV.below bZ
        replace hB := hB.thenB bZ
        replace hL := LL.more hL zZ
        have hz3 : Z.take i = rs.take i := (by rw [hz2]; exact List.take_append_of_le_length hi)
        have ez : i + (rs.length + vs.length - i) = rs.length + vs.length := (by omega)
        rw [ez] at hz1
        refine WL.val (dx_assign rfl rfl) rfl rfl ?_
        refine WL.nil ?_
        refine hK20 ?_
        refine WC.seq fun K21 hK21 => ?_
        refine WC.region ?_
        refine WL.val (dx_move rfl rfl) rfl rfl ?_
        refine WL.val (dx_move rfl rfl) rfl rfl ?_
        refine WL.val (dx_slL i rfl ty_slice_22 rfl rfl rfl (by omega) (by omega)) rfl rfl ?_
        refine WL.val (dx_move rfl rfl) rfl rfl ?_
        refine WL.get (dx_cpV (B := w.heap.size) (R := Z) (news := vs) (lo := i) (n := (i + (rs.length + vs.length - i) - i)) rfl ty_slice_22 rfl (fun hn => by rw [offV_in (n := (i + (rs.length + vs.length - i) - i)) hn (by omega)]; simp) rfl kZ (hV.rd (L := []) (by simp)) (fun r hr => hvone r (List.mem_of_mem_take hr)) (by omega)) rfl rfl ?_
        rintro _ W22 ⟨rfl, k23, o24⟩
        replace hB := hB.only o24 (.inr (Nat.le_refl _))
        replace hL := LL.only hL o24
        replace hO := hO.other o24 nB
        replace hV := hV.other o24 nC
        rw [List.take_of_length_le (l := vs) (by omega), show min vs.length (i + (rs.length + vs.length - i) - i) = vs.length by omega] at k23
        have l3 : (Z.take i ++ (vs ++ Z.drop (i + vs.length))).length = Z.length := (by simp; omega)
        have hg := ins_grow (vs := vs) hi hz1 hz3
        simp only at hg
        refine WL.nil ?_
        refine hK21 ?_
        refine WC.seq fun K25 hK25 => ?_
        refine WC.drawM 8 [(some 46, .is (.slice (some ⟨w.heap.size, 0, none⟩) (i + (rs.length + vs.length - i)) Z.length)), (some 47, .is (.int .i64 (i : Int))), (some 48, .is (.int .i64 (vs.length : Int))), (some 49, .is (.int .i64 ((i + vs.length : Nat) : Int))), (some 50, .is (.slice (some ⟨w.heap.size, (offV Z.length (i + vs.length) 0 3), none⟩) ((i + (rs.length + vs.length - i)) - (i + vs.length)) (Z.length - (i + vs.length)))), (some 51, .is (.slice (some ⟨B, 0, none⟩) rs.length ((rs ++ sp).length))), (some 52, .is (.int .i64 (i : Int))), (some 53, .is (.slice (some ⟨B, (offV ((rs ++ sp).length) i 0 3), none⟩) (rs.length - i) ((rs ++ sp).length - i)))] [[], [], [], [1, 2], [0, 3], [], [], [5, 6]] (by kernel_rfl) (by kernel_rfl) (by kernel_rfl) (by kernel_rfl) (by kernel_rfl) (by kernel_rfl) (by kernel_rfl) (by exact trivial) ?_ ?_
        ·
          refine DSteps.cons (fun Wd hd => ?_) ?_
          ·
            exact DV.dr (dx_move rfl rfl) ⟨Below.refl _ _, rfl⟩
          refine DSteps.cons (fun Wd hd => ?_) ?_
          ·
            exact DV.dr (dx_move rfl rfl) ⟨Below.refl _ _, rfl⟩
          refine DSteps.cons (fun Wd hd => ?_) ?_
          ·
            exact DV.dr (dx_move rfl rfl) ⟨Below.refl _ _, rfl⟩
          refine DSteps.cons (fun Wd hd => ?_) ?_
          ·
            exact DV.dr (dx_add (r := ((i + vs.length : Nat) : Int)) rfl rfl rfl (by rw [wrap64_id (by omega)]; omega)) ⟨Below.refl _ _, rfl⟩
          refine DSteps.cons (fun Wd hd => ?_) ?_
          ·
            exact DV.dr (dx_slL (i + vs.length) rfl ty_slice_22 rfl rfl rfl (by omega) (by omega)) ⟨Below.refl _ _, rfl⟩
          refine DSteps.cons (fun Wd hd => ?_) ?_
          ·
            exact DV.dr (dx_move rfl rfl) ⟨Below.refl _ _, rfl⟩
          refine DSteps.cons (fun Wd hd => ?_) ?_
          ·
            exact DV.dr (dx_move rfl rfl) ⟨Below.refl _ _, rfl⟩
          refine DSteps.cons (fun Wd hd => ?_) ?_
          ·
            exact DV.dr (dx_slL i rfl ty_slice_22 rfl rfl rfl (by omega) (by omega)) ⟨Below.refl _ _, rfl⟩
          exact trivial
        ·
          intro W26 b27
          replace hO := hO.below b27
          replace hV := hV.below b27
          replace k23 := k23.below b27
          replace hB := hB.thenB b27
          replace hL := LL.below hL b27
          refine WL.get (dx_cpV (B := w.heap.size) (R := (Z.take i ++ (vs ++ Z.drop (i + vs.length)))) (news := (((rs ++ sp).drop i).take (rs.length - i))) (lo := (i + vs.length)) (n := (i + (rs.length + vs.length - i) - (i + vs.length))) rfl ty_slice_22 rfl (fun hn => by rw [offV_in (n := (i + (rs.length + vs.length - i) - (i + vs.length))) hn (by omega)]; simp) rfl k23 (hO.part (L := []) (lo := i) (n := rs.length - i) (by simp) (fun hn => by rw [offV_in (n := rs.length - i) hn (by rw [hlen]; omega)]; simp) (by rw [hlen]; omega) (by rw [hlen]; omega)) (fun r hr => hone r (mem_tail hi (List.mem_of_mem_take hr))) (by omega)) rfl rfl ?_
          rintro _ W28 ⟨rfl, k29, o30⟩
          replace hB := hB.only o30 (.inr (Nat.le_refl _))
          replace hL := LL.only hL o30
          replace hO := hO.other o30 nB
          replace hV := hV.other o30 nC
          rw [show ((rs ++ sp).drop i).take (rs.length - i) = rs.drop i from del_tail hi] at k29
          rw [List.take_of_length_le (l := rs.drop i) (by rw [List.length_drop]; omega), List.length_drop, show min (rs.length - i) (i + (rs.length + vs.length - i) - (i + vs.length)) = rs.length - i by omega, hg] at k29
          have hown := k29.own
          refine WL.nil ?_
          refine hK25 ?_
          refine WC.seq fun K31 hK31 => ?_
          refine WC.region ?_
          refine WL.val (dx_move rfl rfl) rfl rfl ?_
          refine WL.val (dx_assign rfl rfl) rfl rfl ?_
          refine WL.nil ?_
          refine hK31 ?_
          refine WC.ret fun a_ ha_ => ?_
          exact hQ (cw_ret1 rfl (.tmp rfl) ⟨w.heap.size, ins_own_eq hown hi ez.symm (by simp; omega), .inr (Nat.le_refl _)⟩ hB ha_)
      ·
        replace c19 := of_decide_eq_false c19
        refine WC.skip ?_
        refine hK17 ?_
        refine WC.seq fun K32 hK32 => ?_
        refine WC.region ?_
        refine WL.val (dx_move rfl rfl) rfl rfl ?_
        refine WL.val (dx_move rfl rfl) rfl rfl ?_
        refine WL.val (dx_move rfl rfl) rfl rfl ?_
        refine WL.val (dx_add (r := ((rs.length + vs.length : Nat) : Int)) rfl rfl rfl (by rw [wrap64_id (by omega)]; omega)) rfl rfl ?_
        refine WL.val (dx_slH (rs.length + vs.length) rfl ty_slice_22 rfl rfl rfl (by omega)) rfl rfl ?_
        refine WL.val (dx_assign rfl rfl) rfl rfl ?_
        refine WL.nil ?_
        refine hK32 ?_
        refine WC.seq fun K33 hK33 => ?_
        refine WC.seq fun K34 hK34 => ?_
        refine WC.region ?_
        refine WL.val (dx_move rfl rfl) rfl rfl ?_
        refine WL.val (dx_move rfl rfl) rfl rfl ?_
        refine WL.val (dx_move rfl rfl) rfl rfl ?_
        refine WL.val (dx_move rfl rfl) rfl rfl ?_
        refine WL.val (dx_add (r := ((i + vs.length : Nat) : Int)) rfl rfl rfl (by rw [wrap64_id (by omega)]; omega)) rfl rfl ?_
        refine WL.val (dx_slL (i + vs.length) rfl ty_slice_22 rfl rfl rfl (by omega) (by omega)) rfl rfl ?_
        refine WL.val (dx_ovl (U := (rs ++ sp)) (V := (vs ++ vp)) (s := 3) (tR := 4) rfl Tryz.func70 (by kernel_rfl) (by kernel_rfl) (by kernel_rfl) (by kernel_rfl) ty_slice_22 rfl rfl hV hO hCB (by intro e; rw [e] at hlen; simp only [List.length_nil] at hlen; omega)) rfl rfl ?_
        refine WL.val (dx_not rfl rfl) rfl rfl ?_
        refine WL.nil ?_
        refine hK34 ?_
        refine WC.condT rfl ?_
        refine WC.seq fun K35 hK35 => ?_
        refine WC.drawM 8 [(some 69, .is (.slice (some ⟨B, 0, none⟩) (rs.length + vs.length) ((rs ++ sp).length))), (some 70, .is (.int .i64 (i : Int))), (some 71, .is (.int .i64 (vs.length : Int))), (some 72, .is (.int .i64 ((i + vs.length : Nat) : Int))), (some 73, .is (.slice (some ⟨B, (offV ((rs ++ sp).length) (i + vs.length) 0 3), none⟩) ((rs.length + vs.length) - (i + vs.length)) ((rs ++ sp).length - (i + vs.length)))), (some 74, .is (.slice (some ⟨B, 0, none⟩) (rs.length + vs.length) ((rs ++ sp).length))), (some 75, .is (.int .i64 (i : Int))), (some 76, .is (.slice (some ⟨B, (offV ((rs ++ sp).length) i 0 3), none⟩) ((rs.length + vs.length) - i) ((rs ++ sp).length - i)))] [[], [], [], [1, 2], [0, 3], [], [], [5, 6]] (by kernel_rfl) (by kernel_rfl) (by kernel_rfl) (by kernel_rfl) (by kernel_rfl) (by kernel_rfl) (by kernel_rfl) (by exact trivial) ?_ ?_
        ·
          refine DSteps.cons (fun Wd hd => ?_) ?_
          ·
            exact DV.dr (dx_move rfl rfl) ⟨Below.refl _ _, rfl⟩
          refine DSteps.cons (fun Wd hd => ?_) ?_
          ·
            exact DV.dr (dx_move rfl rfl) ⟨Below.refl _ _, rfl⟩
          refine DSteps.cons (fun Wd hd => ?_) ?_
          ·
            exact DV.dr (dx_move rfl rfl) ⟨Below.refl _ _, rfl⟩
          refine DSteps.cons (fun Wd hd => ?_) ?_
          ·
            exact DV.dr (dx_add (r := ((i + vs.length : Nat) : Int)) rfl rfl rfl (by rw [wrap64_id (by omega)]; omega)) ⟨Below.refl _ _, rfl⟩
          refine DSteps.cons (fun Wd hd => ?_) ?_
          ·
            exact DV.dr (dx_slL (i + vs.length) rfl ty_slice_22 rfl rfl rfl (by omega) (by omega)) ⟨Below.refl _ _, rfl⟩
          refine DSteps.cons (fun Wd hd => ?_) ?_
          ·
            exact DV.dr (dx_move rfl rfl) ⟨Below.refl _ _, rfl⟩
          refine DSteps.cons (fun Wd hd => ?_) ?_
          ·
            exact DV.dr (dx_move rfl rfl) ⟨Below.refl _ _, rfl⟩
          refine DSteps.cons (fun Wd hd => ?_) ?_
          ·
            exact DV.dr (dx_slL i rfl ty_slice_22 rfl rfl rfl (by omega) (by omega)) ⟨Below.refl _ _, rfl⟩
          exact trivial
        ·
          intro W36 b37
          replace hO := hO.below b37
          replace hV := hV.below b37
          replace hB := hB.thenB b37
          replace hL := LL.below hL b37
          refine WL.get (dx_cpV (B := B) (R := (rs ++ sp)) (news := (((rs ++ sp).drop i).take (rs.length + vs.length - i))) (lo := (i + vs.length)) (n := (rs.length + vs.length - (i + vs.length))) rfl ty_slice_22 rfl (fun hn => by rw [offV_in (n := (rs.length + vs.length - (i + vs.length))) hn (by omega)]; simp) rfl hO (hO.part (L := []) (lo := i) (n := rs.length + vs.length - i) (by simp) (fun hn => by rw [offV_in (n := rs.length + vs.length - i) hn (by omega)]; simp) (by omega) (by omega)) (fun r hr => hone r (mem_tail2 hi (by omega) (by omega) hr)) (by omega)) rfl rfl ?_
          rintro _ W38 ⟨rfl, k39, o40⟩
          replace hB := hB.only o40 (.inl rfl)
          replace hL := LL.only hL o40
          replace hV := hV.other o40 hCB
          have ll : (((rs ++ sp).drop i).take (rs.length + vs.length - i)).length = rs.length + vs.length - i := (by rw [List.length_take, List.length_drop]; omega)
          rw [ll, show min (rs.length + vs.length - i) (rs.length + vs.length - (i + vs.length)) = rs.length - i by omega, show rs.length + vs.length - (i + vs.length) = rs.length - i by omega] at k39
          have l3 : ((rs ++ sp).take (i + vs.length) ++ ((((rs ++ sp).drop i).take (rs.length + vs.length - i)).take (rs.length - i) ++ (rs ++ sp).drop (i + vs.length + (rs.length - i)))).length = (rs ++ sp).length := (by simp; omega)
          have hg := ins_room (vs := vs) (sp := sp) hi (by omega)
          simp only at hg
          refine WL.nil ?_
          refine hK35 ?_
          refine WC.seq fun K41 hK41 => ?_
          refine WC.region ?_
          refine WL.val (dx_move rfl rfl) rfl rfl ?_
          refine WL.val (dx_move rfl rfl) rfl rfl ?_
          refine WL.val (dx_slL i rfl ty_slice_22 rfl rfl rfl (by omega) (by omega)) rfl rfl ?_
          refine WL.val (dx_move rfl rfl) rfl rfl ?_
          refine WL.get (dx_cpV (B := B) (R := ((rs ++ sp).take (i + vs.length) ++ ((((rs ++ sp).drop i).take (rs.length + vs.length - i)).take (rs.length - i) ++ (rs ++ sp).drop (i + vs.length + (rs.length - i))))) (news := vs) (lo := i) (n := (rs.length + vs.length - i)) rfl ty_slice_22 rfl (fun hn => by rw [offV_in (n := (rs.length + vs.length - i)) hn (by omega)]; simp) rfl k39 (hV.rd (L := []) (by simp)) (fun r hr => hvone r (List.mem_of_mem_take hr)) (by omega)) rfl rfl ?_
          rintro _ W42 ⟨rfl, k43, o44⟩
          replace hB := hB.only o44 (.inl rfl)
          replace hL := LL.only hL o44
          replace hV := hV.other o44 hCB
          rw [List.take_of_length_le (l := vs) (by omega), show min vs.length (rs.length + vs.length - i) = vs.length by omega, hg] at k43
          have hown := k43.own
          refine WL.nil ?_
          refine hK41 ?_
          refine WC.seq fun K45 hK45 => ?_
          refine WC.region ?_
          refine WL.val (dx_move rfl rfl) rfl rfl ?_
          refine WL.val (dx_assign rfl rfl) rfl rfl ?_
          refine WL.nil ?_
          refine hK45 ?_
          refine WC.ret fun a_ ha_ => ?_
          exact hQ (cw_ret1 rfl (.tmp rfl) ⟨B, ins_own_eq hown hi rfl (by simp; omega), .inl rfl⟩ hB ha_)

set_option maxHeartbeats 1000000 in
theorem insertNUser_v (vs vp : List (List Value)) (C : Nat) (w : World) (L : List Nat) (hL : LL L w)   (hV : RwB 3 w C (vs ++ vp)) (hvs : vs ≠ []) (hsm : vs.length * 56 ≤ 140737488355328) : CV Tryz.prog 42 [.slice none 0 0, .int .i64 0, .slice (some ⟨C, 0, none⟩) vs.length ((vs ++ vp).length)] w fun v W => ∃ B, w.heap.size ≤ B ∧ OwS 3 W v vs B := by
  refine cv_enter (N := 95) (f := [(0, .slice none 0 0), (1, .int .i64 0), (2, .slice (some ⟨C, 0, none⟩) vs.length ((vs ++ vp).length))]) Tryz.func42 rfl rfl rfl rfl fun Q hQ hE => ?_
  have hB := Below.refl w.heap.size w
  have hm0 := List.length_pos_iff.2 hvs
  refine WC.seq fun K1 hK1 => ?_
  refine WC.region ?_
  refine WL.val (dx_assign rfl rfl) rfl rfl ?_
  refine WL.nil ?_
  refine hK1 ?_
  refine WC.seq fun K2 hK2 => ?_
  refine WC.region ?_
  refine WL.val (dx_move rfl rfl) rfl rfl ?_
  refine WL.val (dx_move rfl rfl) rfl rfl ?_
  refine WL.val (dx_slN rfl ty_slice_22 rfl rfl) rfl rfl ?_
  refine WL.nil ?_
  refine hK2 ?_
  refine WC.seq fun K3 hK3 => ?_
  refine WC.region ?_
  refine WL.val (dx_move rfl rfl) rfl rfl ?_
  refine WL.val (dx_len rfl Tryz.underlying22 rfl) rfl rfl ?_
  refine WL.val (dx_assign rfl rfl) rfl rfl ?_
  refine WL.nil ?_
  refine hK3 ?_
  refine WC.seq fun K4 hK4 => ?_
  refine WC.seq fun K5 hK5 => ?_
  refine WC.region ?_
  refine WL.val (dx_move rfl rfl) rfl rfl ?_
  refine WL.val (dx_eql rfl rfl rfl) rfl rfl ?_
  refine WL.nil ?_
  refine hK5 ?_
  refine WC.cond rfl (fun c6 => ?_) (fun c6 => ?_)
  ·
    replace c6 := of_decide_eq_true c6
    exfalso; omega
  ·
    replace c6 := of_decide_eq_false c6
    refine WC.skip ?_
    refine hK4 ?_
    refine WC.seq fun K7 hK7 => ?_
    refine WC.region ?_
    refine WL.val (dx_move rfl rfl) rfl rfl ?_
    refine WL.val (dx_len rfl Tryz.underlying22 rfl) rfl rfl ?_
    refine WL.val (dx_assign rfl rfl) rfl rfl ?_
    refine WL.nil ?_
    refine hK7 ?_
    refine WC.seq fun K8 hK8 => ?_
    refine WC.seq fun K9 hK9 => ?_
    refine WC.region ?_
    refine WL.val (dx_move rfl rfl) rfl rfl ?_
    refine WL.val (dx_move rfl rfl) rfl rfl ?_
    refine WL.val (dx_eql rfl rfl rfl) rfl rfl ?_
    refine WL.nil ?_
    refine hK9 ?_
    refine WC.cond rfl (fun c10 => ?_) (fun c10 => ?_)
    ·
      replace c10 := of_decide_eq_true c10
      refine WC.seq fun K11 hK11 => ?_
      refine WC.region ?_
      refine WL.val (dx_move rfl rfl) rfl rfl ?_
      refine WL.val (dx_move rfl rfl) rfl rfl ?_
      refine WL.get (dx_apF (rs := []) (news := vs) rfl ty_ap_22 rfl rfl (RdF.nil (L := []) (by decide)) (hV.rd (L := []) (by simp)) hvs (by simp; unfold maxLen; omega) (by simp; omega)) rfl rfl ?_
      rintro u16 W12 ⟨k13, b14, z15⟩
      replace hB := below_then hB b14
      refine WL.val (dx_assign rfl rfl) rfl rfl ?_
      refine WL.nil ?_
      refine hK11 ?_
      refine WC.ret fun a_ ha_ => ?_
      exact hQ (cv_ret1 rfl (.tmp rfl) ⟨w.heap.size, Nat.le_refl _, k13⟩ hB ha_)
    ·
      replace c10 := of_decide_eq_false c10
      exact absurd rfl c10

end Go.Proofs.YthefddclefimoaaGreatDoor
namespace Go.Proofs.YthefddclefimoaaGreatDoor
open Go.RowKit
set_option linter.unusedVariables false
set_option linter.unusedSimpArgs false
/-- Nil, or new since the base: a block of its own. -/
def NewS (s base : Nat) (rs : List (List Value)) (u : Value) (w : World) : Prop := (u = .slice none 0 0 ∧ rs = [] ∧ 0 < s) ∨ ∃ B sp, base ≤ B ∧ u = .slice (some ⟨B, 0, none⟩) rs.length (rs ++ sp).length ∧ RwB s w B (rs ++ sp) ∧ (rs = [] → sp = [])
theorem NewS.below {s base : Nat} {rs : List (List Value)} {u : Value} {w w' : World} (h : NewS s base rs u w) (hb : Below w.heap.size w w') : NewS s base rs u w' := by
  rcases h with h | ⟨B, sp, h1, h2, h3, h4⟩
  · exact .inl h
  · exact .inr ⟨B, sp, h1, h2, h3.below hb, h4⟩
theorem NewS.le {s base n : Nat} {rs : List (List Value)} {u : Value} {w : World} (h : NewS s base rs u w) (hn : n ≤ base) : NewS s n rs u w := by
  rcases h with h | ⟨B, sp, h1, h2⟩
  · exact .inl h
  · exact .inr ⟨B, sp, Nat.le_trans hn h1, h2⟩
theorem NewS.of_own {s base B : Nat} {rs : List (List Value)} {u : Value} {w : World} (h : OwS s w u rs B) (hb : base ≤ B) (hn : rs ≠ []) : NewS s base rs u w := by
  obtain ⟨sp, h1, h2⟩ := h.open
  exact .inr ⟨B, sp, hb, h1, h2, fun e => absurd e hn⟩
theorem NewS.of_lit {s base : Nat} {u : Value} {w : World} (h : NewE s base u w) : NewS s base [] u w := by
  obtain ⟨B, hb, rfl, ho⟩ := h
  obtain ⟨sp, h1, h2⟩ := ho.open
  have e : sp = [] := by
    have := congrArg (fun v : Value => match v with | .slice _ _ c => c | _ => 0) h1
    simp at this
    exact List.length_eq_zero_iff.1 this.symm
  subst e
  exact .inr ⟨B, [], hb, rfl, h2, fun _ => rfl⟩
theorem NewS.rd {s base : Nat} {rs : List (List Value)} {u : Value} {w : World} (h : NewS s base rs u w) {L : List Nat} (hL : ∀ x ∈ L, x < base) : RdF s L w u rs := by
  rcases h with ⟨rfl, rfl, h0⟩ | ⟨B, sp, h1, rfl, h3, h4⟩
  · exact RdF.nil h0
  · exact h3.rd (fun hx => by have := hL B hx; omega)
theorem rwb_ne {s : Nat} {w : World} {B C : Nat} {rs sp vp : List (List Value)} {row : List Value} (h : RwB s w B (rs ++ sp)) (hc : RwB s w C (row :: vp)) (he : rs = [] → sp = []) (hn : ∀ r ∈ rs, r ≠ row) : C ≠ B := fun e => by
  subst e
  obtain ⟨h0, hr, _, t, hb⟩ := h
  obtain ⟨_, hr', _, t', hb'⟩ := hc
  rw [hb] at hb'
  have e1 : (rs ++ sp).flatten = (row :: vp).flatten := by
    have := (Obj.cells.inj (Option.some.inj hb')).1
    simpa using this
  cases rs with
  | nil =>
    rw [he rfl] at e1
    have := congrArg List.length e1
    rw [List.flatten_cons, List.length_append, hr' row (.head _)] at this
    simp at this
    omega
  | cons r rs =>
    refine hn r (.head _) ?_
    rw [List.cons_append, List.flatten_cons, List.flatten_cons] at e1
    exact (List.append_inj e1 (by rw [hr r (.head _), hr' row (.head _)])).1
theorem Chg.from_base {B base : Nat} {w w' : World} (h : Chg B w w') (hB : base ≤ B) (hs : base ≤ w.heap.size) : Below base w w' := ⟨h.os, h.tape, h.output, h.size, fun k hk => h.block k (by omega) (by omega)⟩
section
variable {P : Program} {ops : Array Oper} {o : Oper} {N : Nat} {f : Fl} {w : World} {R : Value → World → Prop}
/-- An append to a literal of nothing. -/
theorem dx_apN {t s bytes base : Nat} {x y : Operand} {u v2 : Value} {news : List (List Value)} {L : List Nat} (ho : o.op = .call { callee := .builtin .append, args := #[x, y], argTypes := #[t, t] }) (ht : apB P t s bytes = true) (hx : ev f x = some u) (hy : ev f y = some v2)
    (h : NewE s base u w) (h2 : RdF s L w v2 news) (h1 : ∀ r ∈ news, ∀ u ∈ r, u.oneCell' = true) (hm : news.length ≤ maxLen) (hby : news.length * bytes ≤ 140737488355328) (hb : base ≤ w.heap.size) (hw : wantF ops o f = some true := by rfl) : DR P ops o N f w fun u W => Below w.heap.size w W ∧ NewS s base news u W := fun a ha => by
  by_cases hn : news = []
  · subst hn
    obtain ⟨e, q, Z, hu, hi, hz, rfl, rfl, hzs⟩ := of_apB ht
    have hx := ha.ev hx
    have hy := ha.ev hy
    have hN := NewS.of_lit h
    obtain ⟨B, hB, rfl, ho'⟩ := h
    obtain ⟨_, hl2, a2, cap2, rfl, hd1, hd2, hd3, hd4⟩ := h2
    have hr0 : (Builtin.append_ #[t, t] o.type #[.slice (some ⟨B, 0, none⟩) 0 0, .slice a2 0 cap2]).run P w = .ok (.slice (some ⟨B, 0, none⟩) 0 0) w := by
      cases a2 with
      | none => simp [Builtin.append_, run_underlying hu, sizeOf, typeInfo, hi, Builtin.lenOf, Builtin.firstCells, storeCells]
      | some a2 => simp [Builtin.append_, run_underlying hu, sizeOf, typeInfo, hi, Builtin.lenOf, Builtin.firstCells, loadCells, loadCellsFrom, storeCells]
    refine Does.of_wp (wantF_of ha hw) fun K hK => ?_
    unfold Oper.wp execOp
    simp only [List.length_nil] at hy
    simp only [ho, resolve, invoke, builtin, Sem.run_bind, Sem.run_pure, Result.andThen_ok, List.map_toArray, List.map_cons, List.map_nil, hx, hy, hr0]
    exact hK _ _ ⟨Below.refl _ _, hN⟩
  · exact Does.mono (dx_apE ho ht hx hy h h2 hm hby hb hw a ha) fun v W ⟨hb', B, hB, hO⟩ => ⟨hb', NewS.of_own hO hB hn⟩
/-- A call, by what it gives. -/
theorem dx_callA {F : FuncId} {fn : Func} {xs : List Operand} {ts : Array TypeId} {vs : List Value} (ho : o.op = .call { callee := .value (.func F), args := xs.toArray, argTypes := ts }) (hf : P.funcs[F]? = some fn) (hn : (fn.name == "runtime.NumGoroutine") = false) (hb : fn.body.isNone = false)
    (hx : evl f xs = some vs) (hc : Calls P F vs.toArray w fun e w' => ∃ v, e = .returned v ∧ R v w') (hw : wantF ops o f = some true := by rfl) : DR P ops o N f w R :=
  dx_call (cap := #[]) ho rfl hf hn hb hx (by rw [Array.append_empty]; exact hc) hw
end
/-- What was there at a base is as it was, behind what changed only what is newer. -/
theorem Below.then_base {base : Nat} {w0 w w' : World} (h : Below base w0 w) (k : Below base w w') : Below base w0 w' := h.trans k
end Go.Proofs.YthefddclefimoaaGreatDoor
namespace Go.Proofs.YthefddclefimoaaGreatDoor
open Go.RowKit
set_option linter.unusedVariables false
set_option linter.unusedSimpArgs false
set_option maxRecDepth 8000

set_option maxHeartbeats 1000000 in
theorem cloneNUser_v  (w : World) (L : List Nat) (hL : LL L w)  : CV Tryz.prog 43 [.slice none 0 0] w fun v W => v = .slice none 0 0 := by
  refine cv_enter (N := 8) (f := [(0, .slice none 0 0)]) Tryz.func43 rfl rfl rfl rfl fun Q hQ hE => ?_
  have hB := Below.refl w.heap.size w
  refine WC.seq fun K1 hK1 => ?_
  refine WC.region ?_
  refine WL.val (dx_assign rfl rfl) rfl rfl ?_
  refine WL.nil ?_
  refine hK1 ?_
  refine WC.seq fun K2 hK2 => ?_
  refine WC.seq fun K3 hK3 => ?_
  refine WC.region ?_
  refine WL.val (dx_move rfl rfl) rfl rfl ?_
  refine WL.val (dx_nilT rfl Tryz.underlying22 rfl) rfl rfl ?_
  refine WL.nil ?_
  refine hK3 ?_
  refine WC.condT rfl ?_
  refine WC.seq fun K4 hK4 => ?_
  refine WC.region ?_
  refine WL.val (dx_assign rfl rfl) rfl rfl ?_
  refine WL.nil ?_
  refine hK4 ?_
  refine WC.ret fun a_ ha_ => ?_
  exact hQ (cv_ret1 rfl (.tmp rfl) rfl hB ha_)

set_option maxHeartbeats 1000000 in
theorem cloneEUser_v (rs : List (List Value)) (sv : Value) (a : Addr) (n c : Nat) (w : World) (L : List Nat) (hL : LL L w) (h1 : RdF 3 L w sv rs)  (hs : sv = .slice (some a) n c) (hone : ∀ r ∈ rs, ∀ u ∈ r, u.oneCell' = true) (hsm : rs.length * 56 ≤ 140737488355328) : CV Tryz.prog 43 [sv] w fun v W => NewS 3 w.heap.size rs v W := by
  refine cv_enter (N := 8) (f := [(0, sv)]) Tryz.func43 rfl rfl rfl rfl fun Q hQ hE => ?_
  have hB := Below.refl w.heap.size w
  refine WC.seq fun K1 hK1 => ?_
  refine WC.region ?_
  refine WL.val (dx_assign rfl rfl) rfl rfl ?_
  refine WL.nil ?_
  refine hK1 ?_
  refine WC.seq fun K2 hK2 => ?_
  refine WC.seq fun K3 hK3 => ?_
  refine WC.region ?_
  refine WL.val (dx_move rfl rfl) rfl rfl ?_
  refine WL.val (dx_nilS rfl Tryz.underlying22 rfl hs) rfl rfl ?_
  refine WL.nil ?_
  refine hK3 ?_
  refine WC.condF rfl ?_
  refine WC.skip ?_
  refine hK2 ?_
  refine WC.seq fun K4 hK4 => ?_
  refine WC.region ?_
  refine WL.get (dx_lit0E rfl ty_ap_22 (by decide)) rfl rfl ?_
  rintro u5 W6 ⟨b7, e8⟩
  replace h1 := h1.below b7
  replace hB := below_then hB b7
  replace hL := LL.below hL b7
  refine WL.val (dx_move rfl rfl) rfl rfl ?_
  refine WL.get (dx_apN rfl ty_ap_22 rfl rfl e8 h1 hone (by unfold maxLen; omega) (by omega) hB.size) rfl rfl ?_
  rintro u9 W10 ⟨b11, e12⟩
  replace h1 := h1.below b11
  replace hB := below_then hB b11
  replace hL := LL.below hL b11
  refine WL.val (dx_assign rfl rfl) rfl rfl ?_
  refine WL.nil ?_
  refine hK4 ?_
  refine WC.ret fun a_ ha_ => ?_
  exact hQ (cv_ret1 rfl (.tmp rfl) e12 hB ha_)

theorem cloneSUser_v (rs : List (List Value)) (sv : Value) (w : World) (L : List Nat) (hL : LL L w) (h1 : RdF 3 L w sv rs) (hone : ∀ r ∈ rs, ∀ u ∈ r, u.oneCell' = true) (hsm : rs.length * 56 ≤ 140737488355328) : CV Tryz.prog 43 [sv] w fun v W => NewS 3 w.heap.size rs v W := by
  rcases h1.nil_or with ⟨rfl, rfl⟩ | ⟨a, n, c, hs⟩
  · exact (cloneNUser_v w L hL).mono fun v W _ h => .inl ⟨h, rfl, by decide⟩
  · exact cloneEUser_v rs sv a n c w L hL h1 hs hone hsm
/-- An insert of one behind a clone. -/
theorem insertSUser_v (rs : List (List Value)) (row : List Value) (i base : Nat) (j : Int) (u v : Value) (w : World) (hj : j = (i : Int)) (hu : NewS 3 base rs u w) (hv : NewS 3 base [row] v w) (hb : base ≤ w.heap.size) (hi : i ≤ rs.length) (hsm : (rs.length + 1) * 56 ≤ 140737488355328) (hone : ∀ r ∈ rs, ∀ u ∈ r, u.oneCell' = true) (hrow : ∀ u ∈ row, u.oneCell' = true) (hne : ∀ r ∈ rs, r ≠ row) :
    Calls Tryz.prog 42 [u, .int .i64 j, v].toArray w fun e w' => ∃ x, e = .returned x ∧ (∃ B, base ≤ B ∧ OwS 3 w' x (rs.take i ++ ([row] ++ rs.drop i)) B) ∧ Below base w w' := by
  subst hj
  have hrow' : ∀ r ∈ [row], ∀ u ∈ r, u.oneCell' = true := fun r hr => by rw [List.mem_singleton.1 hr]; exact hrow
  rcases hv with ⟨_, h, _⟩ | ⟨C, vp, hC, rfl, hV, _⟩
  · cases h
  rcases hu with ⟨rfl, rfl, _⟩ | ⟨B, sp, hB, rfl, hO, he⟩
  · have hi0 : i = 0 := by simpa using hi
    subst hi0
    refine Calls.mono (insertNUser_v [row] vp C w [] (LL.nil _) hV (by simp) (by simp)) fun e w' ⟨x, h1, ⟨B, h2, h3⟩, h4⟩ => ⟨x, h1, ⟨B, Nat.le_trans hb h2, by simpa using h3⟩, h4.mono hb⟩
  · have hCB : C ≠ B := rwb_ne hO hV he hne
    refine Calls.mono (insertUser_v rs sp [row] vp i B C w [] (fun x hx => by rw [List.mem_singleton.1 hx]; exact hO.lt) hO hV hCB hi (by simp) (by simpa using hsm) hone hrow') fun e w' ⟨x, h1, ⟨B', h2, h3⟩, h4⟩ => ⟨x, h1, ⟨B', ?_, h2⟩, h4.from_base hB hb⟩
    rcases h3 with rfl | h3
    · exact hB
    · exact Nat.le_trans hb h3
/-- A delete of one behind a clone. -/
theorem deleteSUser_v (rs : List (List Value)) (i base : Nat) (j j' : Int) (u : Value) (w : World) (hj : j = (i : Int)) (hj' : j' = (i : Int) + 1) (hu : NewS 3 base rs u w) (hb : base ≤ w.heap.size) (hi : i < rs.length) (hone : ∀ r ∈ rs, ∀ u ∈ r, u.oneCell' = true) :
    Calls Tryz.prog 48 [u, .int .i64 j, .int .i64 j'].toArray w fun e w' => ∃ x, e = .returned x ∧ (∃ B, base ≤ B ∧ OwS 3 w' x (rs.take i ++ rs.drop (i + 1)) B) ∧ Below base w w' := by
  subst hj hj'
  rcases hu with ⟨rfl, rfl, _⟩ | ⟨B, sp, hB, rfl, hO, he⟩
  · simp at hi
  · refine Calls.mono (deleteUser_v rs sp i (i + 1) B w [] (fun x hx => by rw [List.mem_singleton.1 hx]; exact hO.lt) hO (by omega) (by omega) hone) fun e w' ⟨x, h1, ⟨B', h2, h3⟩, h4⟩ => ⟨x, h1, ⟨B', ?_, h2⟩, h4.from_base hB hb⟩
    rcases h3 with rfl | h3
    · exact hB
    · exact Nat.le_trans hb h3
set_option maxHeartbeats 1000000 in
theorem cloneNBond_v  (w : World) (L : List Nat) (hL : LL L w)  : CV Tryz.prog 60 [.slice none 0 0] w fun v W => v = .slice none 0 0 := by
  refine cv_enter (N := 8) (f := [(0, .slice none 0 0)]) Tryz.func60 rfl rfl rfl rfl fun Q hQ hE => ?_
  have hB := Below.refl w.heap.size w
  refine WC.seq fun K1 hK1 => ?_
  refine WC.region ?_
  refine WL.val (dx_assign rfl rfl) rfl rfl ?_
  refine WL.nil ?_
  refine hK1 ?_
  refine WC.seq fun K2 hK2 => ?_
  refine WC.seq fun K3 hK3 => ?_
  refine WC.region ?_
  refine WL.val (dx_move rfl rfl) rfl rfl ?_
  refine WL.val (dx_nilT rfl Tryz.underlying38 rfl) rfl rfl ?_
  refine WL.nil ?_
  refine hK3 ?_
  refine WC.condT rfl ?_
  refine WC.seq fun K4 hK4 => ?_
  refine WC.region ?_
  refine WL.val (dx_assign rfl rfl) rfl rfl ?_
  refine WL.nil ?_
  refine hK4 ?_
  refine WC.ret fun a_ ha_ => ?_
  exact hQ (cv_ret1 rfl (.tmp rfl) rfl hB ha_)

set_option maxHeartbeats 1000000 in
theorem cloneEBond_v (rs : List (List Value)) (sv : Value) (a : Addr) (n c : Nat) (w : World) (L : List Nat) (hL : LL L w) (h1 : RdF 4 L w sv rs)  (hs : sv = .slice (some a) n c) (hone : ∀ r ∈ rs, ∀ u ∈ r, u.oneCell' = true) (hsm : rs.length * 56 ≤ 140737488355328) : CV Tryz.prog 60 [sv] w fun v W => NewS 4 w.heap.size rs v W := by
  refine cv_enter (N := 8) (f := [(0, sv)]) Tryz.func60 rfl rfl rfl rfl fun Q hQ hE => ?_
  have hB := Below.refl w.heap.size w
  refine WC.seq fun K1 hK1 => ?_
  refine WC.region ?_
  refine WL.val (dx_assign rfl rfl) rfl rfl ?_
  refine WL.nil ?_
  refine hK1 ?_
  refine WC.seq fun K2 hK2 => ?_
  refine WC.seq fun K3 hK3 => ?_
  refine WC.region ?_
  refine WL.val (dx_move rfl rfl) rfl rfl ?_
  refine WL.val (dx_nilS rfl Tryz.underlying38 rfl hs) rfl rfl ?_
  refine WL.nil ?_
  refine hK3 ?_
  refine WC.condF rfl ?_
  refine WC.skip ?_
  refine hK2 ?_
  refine WC.seq fun K4 hK4 => ?_
  refine WC.region ?_
  refine WL.get (dx_lit0E rfl ty_ap_38 (by decide)) rfl rfl ?_
  rintro u5 W6 ⟨b7, e8⟩
  replace h1 := h1.below b7
  replace hB := below_then hB b7
  replace hL := LL.below hL b7
  refine WL.val (dx_move rfl rfl) rfl rfl ?_
  refine WL.get (dx_apN rfl ty_ap_38 rfl rfl e8 h1 hone (by unfold maxLen; omega) (by omega) hB.size) rfl rfl ?_
  rintro u9 W10 ⟨b11, e12⟩
  replace h1 := h1.below b11
  replace hB := below_then hB b11
  replace hL := LL.below hL b11
  refine WL.val (dx_assign rfl rfl) rfl rfl ?_
  refine WL.nil ?_
  refine hK4 ?_
  refine WC.ret fun a_ ha_ => ?_
  exact hQ (cv_ret1 rfl (.tmp rfl) e12 hB ha_)

theorem cloneSBond_v (rs : List (List Value)) (sv : Value) (w : World) (L : List Nat) (hL : LL L w) (h1 : RdF 4 L w sv rs) (hone : ∀ r ∈ rs, ∀ u ∈ r, u.oneCell' = true) (hsm : rs.length * 56 ≤ 140737488355328) : CV Tryz.prog 60 [sv] w fun v W => NewS 4 w.heap.size rs v W := by
  rcases h1.nil_or with ⟨rfl, rfl⟩ | ⟨a, n, c, hs⟩
  · exact (cloneNBond_v w L hL).mono fun v W _ h => .inl ⟨h, rfl, by decide⟩
  · exact cloneEBond_v rs sv a n c w L hL h1 hs hone hsm
/-- An insert of one behind a clone. -/
theorem insertSBond_v (rs : List (List Value)) (row : List Value) (i base : Nat) (j : Int) (u v : Value) (w : World) (hj : j = (i : Int)) (hu : NewS 4 base rs u w) (hv : NewS 4 base [row] v w) (hb : base ≤ w.heap.size) (hi : i ≤ rs.length) (hsm : (rs.length + 1) * 56 ≤ 140737488355328) (hone : ∀ r ∈ rs, ∀ u ∈ r, u.oneCell' = true) (hrow : ∀ u ∈ row, u.oneCell' = true) (hne : ∀ r ∈ rs, r ≠ row) :
    Calls Tryz.prog 61 [u, .int .i64 j, v].toArray w fun e w' => ∃ x, e = .returned x ∧ (∃ B, base ≤ B ∧ OwS 4 w' x (rs.take i ++ ([row] ++ rs.drop i)) B) ∧ Below base w w' := by
  subst hj
  have hrow' : ∀ r ∈ [row], ∀ u ∈ r, u.oneCell' = true := fun r hr => by rw [List.mem_singleton.1 hr]; exact hrow
  rcases hv with ⟨_, h, _⟩ | ⟨C, vp, hC, rfl, hV, _⟩
  · cases h
  rcases hu with ⟨rfl, rfl, _⟩ | ⟨B, sp, hB, rfl, hO, he⟩
  · have hi0 : i = 0 := by simpa using hi
    subst hi0
    refine Calls.mono (insertNBond_v [row] vp C w [] (LL.nil _) hV (by simp) (by simp)) fun e w' ⟨x, h1, ⟨B, h2, h3⟩, h4⟩ => ⟨x, h1, ⟨B, Nat.le_trans hb h2, by simpa using h3⟩, h4.mono hb⟩
  · have hCB : C ≠ B := rwb_ne hO hV he hne
    refine Calls.mono (insertBond_v rs sp [row] vp i B C w [] (fun x hx => by rw [List.mem_singleton.1 hx]; exact hO.lt) hO hV hCB hi (by simp) (by simpa using hsm) hone hrow') fun e w' ⟨x, h1, ⟨B', h2, h3⟩, h4⟩ => ⟨x, h1, ⟨B', ?_, h2⟩, h4.from_base hB hb⟩
    rcases h3 with rfl | h3
    · exact hB
    · exact Nat.le_trans hb h3
/-- A delete of one behind a clone. -/
theorem deleteSBond_v (rs : List (List Value)) (i base : Nat) (j j' : Int) (u : Value) (w : World) (hj : j = (i : Int)) (hj' : j' = (i : Int) + 1) (hu : NewS 4 base rs u w) (hb : base ≤ w.heap.size) (hi : i < rs.length) (hone : ∀ r ∈ rs, ∀ u ∈ r, u.oneCell' = true) :
    Calls Tryz.prog 65 [u, .int .i64 j, .int .i64 j'].toArray w fun e w' => ∃ x, e = .returned x ∧ (∃ B, base ≤ B ∧ OwS 4 w' x (rs.take i ++ rs.drop (i + 1)) B) ∧ Below base w w' := by
  subst hj hj'
  rcases hu with ⟨rfl, rfl, _⟩ | ⟨B, sp, hB, rfl, hO, he⟩
  · simp at hi
  · refine Calls.mono (deleteBond_v rs sp i (i + 1) B w [] (fun x hx => by rw [List.mem_singleton.1 hx]; exact hO.lt) hO (by omega) (by omega) hone) fun e w' ⟨x, h1, ⟨B', h2, h3⟩, h4⟩ => ⟨x, h1, ⟨B', ?_, h2⟩, h4.from_base hB hb⟩
    rcases h3 with rfl | h3
    · exact hB
    · exact Nat.le_trans hb h3
end Go.Proofs.YthefddclefimoaaGreatDoor
namespace Go.Proofs.YthefddclefimoaaGreatDoor
open Go.RowKit
set_option linter.unusedVariables false
set_option linter.unusedSimpArgs false
/-- A text's byte. -/
def atS (s : ByteArray) (k : Nat) : Int := (s.data[k]?.getD 0).toNat
theorem atS_lo (s : ByteArray) (k : Nat) : 0 ≤ atS s k ∧ atS s k ≤ 255 := by
  unfold atS
  have := (s.data[k]?.getD 0).toNat_lt
  omega
-- rows that encode
theorem oc_rowsX {α : Type} {enc : α → List Value} (h : ∀ x, ∀ u ∈ enc x, u.oneCell' = true) (xs : List α) : ∀ r ∈ xs.map enc, ∀ u ∈ r, u.oneCell' = true := fun r hr => by
  obtain ⟨x, _, rfl⟩ := List.mem_map.1 hr
  exact h x
theorem at_mapX {α : Type} {enc : α → List Value} {xs : List α} {i : Nat} {x : α} (h : xs[i]? = some x) : (xs.map enc)[i]? = some (enc x) := by rw [List.getElem?_map, h]; rfl
/-- The first place of one of this kind. -/
def idxX {α : Type} (p : α → Bool) : List α → Int → Int
  | [], _ => -1
  | x :: l, i => if p x then i else idxX p l (i + 1)
theorem idxX_step {α : Type} {p : α → Bool} {xs : List α} {i : Nat} {x : α} (h : xs[i]? = some x) (hx : p x = false) : idxX p (xs.drop i) i = idxX p (xs.drop (i + 1)) ((i + 1 : Nat) : Int) := by
  obtain ⟨hl, he⟩ := List.getElem?_eq_some_iff.1 h
  rw [List.drop_eq_getElem_cons hl, he, idxX, hx]
  simp
theorem idxX_here {α : Type} {p : α → Bool} {xs : List α} {i : Nat} {x : α} (h : xs[i]? = some x) (hx : p x = true) : idxX p (xs.drop i) i = i := by
  obtain ⟨hl, he⟩ := List.getElem?_eq_some_iff.1 h
  rw [List.drop_eq_getElem_cons hl, he, idxX, hx]
  simp
theorem idxX_end {α : Type} {p : α → Bool} {xs : List α} {i : Nat} (h : ¬ (i : Int) < xs.length) : idxX p (xs.drop i) i = -1 := by
  rw [List.drop_eq_nil_of_le (by omega)]; rfl
theorem idxX_any {α : Type} {p : α → Bool} : ∀ (xs : List α) (i : Int), 0 ≤ i → decide (0 ≤ idxX p xs i) = xs.any p
  | [], i, _ => by simp [idxX]
  | x :: l, i, h => by
    unfold idxX
    cases hx : p x with
    | true => simp [hx, h]
    | false => simp [hx]; have := idxX_any (p := p) l (i + 1) (by omega); simpa using this
section
variable {P : Program} {ops : Array Oper} {o : Oper} {N : Nat} {f : Fl} {w : World}
theorem dx_lenX {α : Type} {enc : α → List Value} {xs : List α} {t s s' : Nat} {L : List Nat} {x : Operand} {v : Value} (ho : o.op = .call { callee := .builtin .len, args := #[x], argTypes := #[t] }) (ht : sliceB P t s' = true) (hx : ev f x = some v) (hr : RdF s L w v (xs.map enc)) (hw : wantF ops o f = some true := by rfl) : DV P ops o N f w (.int .i64 (xs.length : Int)) := by
  have := dx_lenF (N := N) ho ht hx hr hw
  rwa [List.length_map] at this
theorem dx_at {t : TypeId} {x y : Operand} {s : ByteArray} {K : IntKind} {i : Int} (k : Nat) (ho : o.op = .index t x y) (ht : P.underlying t = some .string) (hx : ev f x = some (.string s)) (hy : ev f y = some (.int K i)) (hi : i = (k : Int)) (hk : k < s.size) (hw : wantF ops o f = some true := by rfl) : DV P ops o N f w (.int .u8 (atS s k)) := fun a ha => by
  subst hi
  have hx := ha.ev hx
  have hy := ha.ev hy
  have hk' : k < s.data.size := hk
  have e : s[k]? = some (s.data[k]?.getD 0) := by
    rw [getElem?_pos s k hk, Array.getElem?_eq_getElem hk']
    rfl
  refine Does.pure (wantF_of ha hw) _ ?_ ⟨rfl, rfl⟩
  unfold execOp
  simp only [ho, hx, hy, Instr.index, asIntOf, Sem.run_bind, Sem.run_pure, Result.andThen_ok, run_underlying ht]
  have h0 : (0 : Int) ≤ (k : Int) := by omega
  simp [h0, e, atS]
end
end Go.Proofs.YthefddclefimoaaGreatDoor
namespace Go.Proofs.YthefddclefimoaaGreatDoor
open Go.RowKit
set_option linter.unusedVariables false
set_option linter.unusedSimpArgs false
set_option maxRecDepth 8000

/-- 1 to 64 bytes from 33 to 126? -/
def okB (s : ByteArray) (k : Nat) : Bool := decide (33 ≤ atS s k) && decide (atS s k ≤ 126)
def wordB (s : ByteArray) : Bool := decide (1 ≤ s.size) && decide (s.size ≤ 64) && (List.range s.size).all (okB s)
theorem word_t {s : ByteArray} (h1 : 1 ≤ s.size) (h2 : s.size ≤ 64) (h : ∀ k, k < s.size → okB s k = true) : wordB s = true := by
  unfold wordB
  simp [h1, h2]
  exact h
theorem word_f {s : ByteArray} (h : s.size < 1 ∨ 64 < s.size ∨ ∃ k, k < s.size ∧ okB s k = false) : wordB s = false := by
  rcases h with h | h | ⟨k, hk, h⟩
  · have : ¬ 1 ≤ s.size := by omega
    simp [wordB, this]
  · have : ¬ s.size ≤ 64 := by omega
    simp [wordB, this]
  · unfold wordB
    rw [Bool.and_eq_false_iff]
    refine .inr (List.all_eq_false.2 ⟨k, List.mem_range.2 hk, by simp [h]⟩)
set_option maxHeartbeats 1000000 in
theorem word_v (s : ByteArray) (w : World) (L : List Nat) (hL : LL L w)  : CV Tryz.prog 36 [.string s] w fun v W => v = .bool (wordB s) := by
  refine cv_enter (N := 28) (f := [(0, .string s)]) Tryz.func36 rfl rfl rfl rfl fun Q hQ hE => ?_
  have hB := Below.refl w.heap.size w
  refine WC.seq fun K1 hK1 => ?_
  refine WC.region ?_
  refine WL.val (dx_assign rfl rfl) rfl rfl ?_
  refine WL.nil ?_
  refine hK1 ?_
  refine WC.seq fun K2 hK2 => ?_
  refine WC.seq fun K3 hK3 => ?_
  refine WC.region ?_
  refine WL.val (dx_move rfl rfl) rfl rfl ?_
  refine WL.val (dx_lenT rfl Tryz.underlying9 rfl) rfl rfl ?_
  refine WL.val (dx_lss rfl rfl rfl) rfl rfl ?_
  refine WL.val (dx_move rfl rfl) rfl rfl ?_
  refine WL.split 7 rfl (fun g4 => ?_) (fun g4 => ?_)
  ·
    replace g4 := of_decide_eq_true g4
    refine WL.off rfl rfl rfl ?_
    refine WL.off rfl rfl rfl ?_
    refine WL.off rfl rfl rfl ?_
    refine WL.val (dx_pick rfl rfl rfl) rfl rfl ?_
    refine WL.nil ?_
    refine hK3 ?_
    refine WC.condT rfl ?_
    refine WC.seq fun K5 hK5 => ?_
    refine WC.region ?_
    refine WL.val (dx_assign rfl rfl) rfl rfl ?_
    refine WL.nil ?_
    refine hK5 ?_
    refine WC.ret fun a_ ha_ => ?_
    exact hQ (cv_ret1 rfl (.tmp rfl) (by rw [word_f (by first | (refine .inl ?_; omega) | (refine .inr (.inl ?_); omega) | exact .inr (.inr ⟨i, by omega, by unfold okB; rw [Bool.and_eq_false_iff, decide_eq_false_iff_not, decide_eq_false_iff_not]; omega⟩))]) hB ha_)
  ·
    replace g4 := of_decide_eq_false g4
    refine WL.val (dx_move rfl rfl) rfl rfl ?_
    refine WL.val (dx_lenT rfl Tryz.underlying9 rfl) rfl rfl ?_
    refine WL.val (dx_gtr rfl rfl rfl) rfl rfl ?_
    refine WL.val (dx_pick rfl rfl rfl) rfl rfl ?_
    refine WL.nil ?_
    refine hK3 ?_
    refine WC.cond rfl (fun c6 => ?_) (fun c6 => ?_)
    ·
      replace c6 := of_decide_eq_true c6
      refine WC.seq fun K7 hK7 => ?_
      refine WC.region ?_
      refine WL.val (dx_assign rfl rfl) rfl rfl ?_
      refine WL.nil ?_
      refine hK7 ?_
      refine WC.ret fun a_ ha_ => ?_
      exact hQ (cv_ret1 rfl (.tmp rfl) (by rw [word_f (by first | (refine .inl ?_; omega) | (refine .inr (.inl ?_); omega) | exact .inr (.inr ⟨i, by omega, by unfold okB; rw [Bool.and_eq_false_iff, decide_eq_false_iff_not, decide_eq_false_iff_not]; omega⟩))]) hB ha_)
    ·
      replace c6 := of_decide_eq_false c6
      refine WC.skip ?_
      refine hK2 ?_
      refine WC.seq fun K8 hK8 => ?_
      refine WC.seq fun K9 hK9 => ?_
      refine WC.region ?_
      refine WL.val (dx_move rfl rfl) rfl rfl ?_
      refine WL.val (dx_lenT rfl Tryz.underlying9 rfl) rfl rfl ?_
      refine WL.val (dx_move rfl rfl) rfl rfl ?_
      refine WL.nil ?_
      refine hK9 ?_
      refine WC.block ?_
      refine WC.loop (fun (i : Nat) => [(0, .string s), (13, .int .i64 (s.size : Int)), (14, .int .i64 (i : Int))]) (fun (i : Nat) W => i ≤ s.size ∧ (∀ k, k < i → okB s k = true) ∧ Below w.heap.size w W ∧ LL (L) W) (fun (i : Nat) => s.size - i) 0 (by repeat first | exact trivial | exact And.intro rfl trivial | refine And.intro rfl ?_ | refine And.intro (congrArg (fun z : Int => some (Value.int .i64 z)) (by omega)) ?_) ⟨Nat.zero_le _, (fun k hk => by omega), hB, hL⟩ ?_
      clear hB hL
      rintro K10 i W11 ⟨hi, hv, hB, hL⟩ hK10
      refine WC.seq fun K12 hK12 => ?_
      refine WC.region ?_
      refine WL.val (dx_lss rfl rfl rfl) rfl rfl ?_
      refine WL.nil ?_
      refine hK12 ?_
      refine WC.seq fun K13 hK13 => ?_
      refine WC.cond rfl (fun c14 => ?_) (fun c14 => ?_)
      ·
        replace c14 := of_decide_eq_true c14
        refine WC.skip ?_
        refine hK13 ?_
        refine WC.seq fun K15 hK15 => ?_
        refine WC.block ?_
        refine WC.seq fun K16 hK16 => ?_
        refine WC.region ?_
        refine WL.val (dx_move rfl rfl) rfl rfl ?_
        refine WL.val (dx_assign rfl rfl) rfl rfl ?_
        refine WL.nil ?_
        refine hK16 ?_
        refine WC.seq fun K17 hK17 => ?_
        refine WC.region ?_
        refine WL.val (dx_move rfl rfl) rfl rfl ?_
        refine WL.val (dx_move rfl rfl) rfl rfl ?_
        refine WL.val (dx_at i rfl Tryz.underlying9 rfl rfl (by omega) (by omega)) rfl rfl ?_
        refine WL.val (dx_lss rfl rfl rfl) rfl rfl ?_
        refine WL.val (dx_move rfl rfl) rfl rfl ?_
        refine WL.split 21 rfl (fun g18 => ?_) (fun g18 => ?_)
        ·
          replace g18 := of_decide_eq_true g18
          refine WL.off rfl rfl rfl ?_
          refine WL.off rfl rfl rfl ?_
          refine WL.off rfl rfl rfl ?_
          refine WL.off rfl rfl rfl ?_
          refine WL.val (dx_pick rfl rfl rfl) rfl rfl ?_
          refine WL.nil ?_
          refine hK17 ?_
          refine WC.condT rfl ?_
          refine WC.seq fun K19 hK19 => ?_
          refine WC.region ?_
          refine WL.val (dx_assign rfl rfl) rfl rfl ?_
          refine WL.nil ?_
          refine hK19 ?_
          refine WC.ret fun a_ ha_ => ?_
          exact hQ (cv_ret1 rfl (.tmp rfl) (by rw [word_f (by first | (refine .inl ?_; omega) | (refine .inr (.inl ?_); omega) | exact .inr (.inr ⟨i, by omega, by unfold okB; rw [Bool.and_eq_false_iff, decide_eq_false_iff_not, decide_eq_false_iff_not]; omega⟩))]) hB ha_)
        ·
          replace g18 := of_decide_eq_false g18
          refine WL.val (dx_move rfl rfl) rfl rfl ?_
          refine WL.val (dx_move rfl rfl) rfl rfl ?_
          refine WL.val (dx_at i rfl Tryz.underlying9 rfl rfl (by omega) (by omega)) rfl rfl ?_
          refine WL.val (dx_gtr rfl rfl rfl) rfl rfl ?_
          refine WL.val (dx_pick rfl rfl rfl) rfl rfl ?_
          refine WL.nil ?_
          refine hK17 ?_
          refine WC.cond rfl (fun c20 => ?_) (fun c20 => ?_)
          ·
            replace c20 := of_decide_eq_true c20
            refine WC.seq fun K21 hK21 => ?_
            refine WC.region ?_
            refine WL.val (dx_assign rfl rfl) rfl rfl ?_
            refine WL.nil ?_
            refine hK21 ?_
            refine WC.ret fun a_ ha_ => ?_
            exact hQ (cv_ret1 rfl (.tmp rfl) (by rw [word_f (by first | (refine .inl ?_; omega) | (refine .inr (.inl ?_); omega) | exact .inr (.inr ⟨i, by omega, by unfold okB; rw [Bool.and_eq_false_iff, decide_eq_false_iff_not, decide_eq_false_iff_not]; omega⟩))]) hB ha_)
          ·
            replace c20 := of_decide_eq_false c20
            refine WC.skip ?_
            refine hK15 ?_
            refine WC.region ?_
            refine WL.val (dx_add (r := (i : Int) + 1) rfl rfl rfl (wrap64_id (by omega))) rfl rfl ?_
            refine WL.val (dx_move rfl rfl) rfl rfl ?_
            refine WL.nil ?_
            exact hK10 (i + 1) ⟨(by omega), (fun k hk => by rcases Nat.lt_or_ge k i with h | h; exact hv k h; have e : k = i := (by omega); subst e; unfold okB; simp; omega), hB, hL⟩ (by omega) (by repeat first | exact trivial | exact And.intro rfl trivial | refine And.intro rfl ?_ | refine And.intro (congrArg (fun z : Int => some (Value.int .i64 z)) (by omega)) ?_)
      ·
        replace c14 := of_decide_eq_false c14
        refine WC.exit ?_
        refine hK8 ?_
        refine WC.seq fun K22 hK22 => ?_
        refine WC.region ?_
        refine WL.val (dx_assign rfl rfl) rfl rfl ?_
        refine WL.nil ?_
        refine hK22 ?_
        refine WC.ret fun a_ ha_ => ?_
        exact hQ (cv_ret1 rfl (.tmp rfl) (by rw [word_t (by omega) (by omega) (fun k hk => hv k (by omega))]) hB ha_)

set_option maxHeartbeats 1000000 in
theorem number_v (n l : Int) (w : World) (L : List Nat) (hL : LL L w)  : CV Tryz.prog 81 [.int .i64 n, .int .i64 l] w fun v W => v = .bool (decide (l ≤ n) && decide (n ≤ 1099511627776)) := by
  refine cv_enter (N := 12) (f := [(0, .int .i64 n), (1, .int .i64 l)]) Tryz.func81 rfl rfl rfl rfl fun Q hQ hE => ?_
  have hB := Below.refl w.heap.size w
  refine WC.seq fun K1 hK1 => ?_
  refine WC.region ?_
  refine WL.val (dx_assign rfl rfl) rfl rfl ?_
  refine WL.nil ?_
  refine hK1 ?_
  refine WC.seq fun K2 hK2 => ?_
  refine WC.region ?_
  refine WL.val (dx_move rfl rfl) rfl rfl ?_
  refine WL.val (dx_move rfl rfl) rfl rfl ?_
  refine WL.val (dx_geq rfl rfl rfl) rfl rfl ?_
  refine WL.val (dx_move rfl rfl) rfl rfl ?_
  refine WL.split 8 rfl (fun g3 => ?_) (fun g3 => ?_)
  ·
    replace g3 := of_decide_eq_true g3
    refine WL.val (dx_move rfl rfl) rfl rfl ?_
    refine WL.val (dx_leq rfl rfl rfl) rfl rfl ?_
    refine WL.val (dx_pick rfl rfl rfl) rfl rfl ?_
    refine WL.val (dx_assign rfl rfl) rfl rfl ?_
    refine WL.nil ?_
    refine hK2 ?_
    refine WC.ret fun a_ ha_ => ?_
    exact hQ (cv_ret1 rfl (.tmp rfl) (by simp [*]) hB ha_)
  ·
    replace g3 := of_decide_eq_false g3
    refine WL.off rfl rfl rfl ?_
    refine WL.off rfl rfl rfl ?_
    refine WL.val (dx_pick rfl rfl rfl) rfl rfl ?_
    refine WL.val (dx_assign rfl rfl) rfl rfl ?_
    refine WL.nil ?_
    refine hK2 ?_
    refine WC.ret fun a_ ha_ => ?_
    exact hQ (cv_ret1 rfl (.tmp rfl) (by simp [*]) hB ha_)

/-- An address: medium and where; the order of two. -/
def lessA (a b : ByteArray × ByteArray) : Bool := if a.1 = b.1 then sless a.2 b.2 else sless a.1 b.1
set_option maxHeartbeats 1000000 in
theorem lessA_v (m1 w1 m2 w2 : ByteArray) (w : World) (L : List Nat) (hL : LL L w)  : CV Tryz.prog 66 [.agg #[.string m1, .string w1], .agg #[.string m2, .string w2]] w fun v W => v = .bool (lessA (m1, w1) (m2, w2)) := by
  refine cv_enter (N := 20) (f := [(0, .agg #[.string m1, .string w1]), (1, .agg #[.string m2, .string w2])]) Tryz.func66 rfl rfl rfl rfl fun Q hQ hE => ?_
  have hB := Below.refl w.heap.size w
  refine WC.seq fun K1 hK1 => ?_
  refine WC.region ?_
  refine WL.get (dx_box rfl rfl rfl) rfl rfl ?_
  rintro _ W2 ⟨rfl, k3, b4, z5⟩
  have l6 := hB.size
  replace hB := below_then hB b4
  replace hL := LL.more hL z5
  refine WL.get (dx_box rfl rfl rfl) rfl rfl ?_
  rintro _ W7 ⟨rfl, k8, b9, z10⟩
  have n11 : w.heap.size ≠ W2.heap.size := Nat.ne_of_lt k3.lt
  have l12 := hB.size
  replace k3 := k3.below b9
  replace hB := below_then hB b9
  replace hL := LL.more hL z10
  refine WL.val (dx_assign rfl rfl) rfl rfl ?_
  refine WL.nil ?_
  refine hK1 ?_
  refine WC.seq fun K13 hK13 => ?_
  refine WC.seq fun K14 hK14 => ?_
  refine WC.region ?_
  refine WL.val (dx_fld (o1 := 0) rfl ty_fld_40_0_0 rfl rfl) rfl rfl ?_
  refine WL.val (dx_load rfl ty_one_9 rfl (k3.cell (k := 0) rfl)) rfl rfl ?_
  refine WL.val (dx_fld (o1 := 0) rfl ty_fld_40_0_0 rfl rfl) rfl rfl ?_
  refine WL.val (dx_load rfl ty_one_9 rfl (k8.cell (k := 0) rfl)) rfl rfl ?_
  refine WL.val (dx_neqT rfl rfl rfl) rfl rfl ?_
  refine WL.nil ?_
  refine hK14 ?_
  refine WC.cond rfl (fun c15 => ?_) (fun c15 => ?_)
  ·
    replace c15 := bnot_t c15
    replace c15 := of_decide_eq_false c15
    refine WC.seq fun K16 hK16 => ?_
    refine WC.region ?_
    refine WL.val (dx_fld (o1 := 0) rfl ty_fld_40_0_0 rfl rfl) rfl rfl ?_
    refine WL.val (dx_load rfl ty_one_9 rfl (k3.cell (k := 0) rfl)) rfl rfl ?_
    refine WL.val (dx_fld (o1 := 0) rfl ty_fld_40_0_0 rfl rfl) rfl rfl ?_
    refine WL.val (dx_load rfl ty_one_9 rfl (k8.cell (k := 0) rfl)) rfl rfl ?_
    refine WL.val (dx_lssT rfl rfl rfl) rfl rfl ?_
    refine WL.val (dx_assign rfl rfl) rfl rfl ?_
    refine WL.nil ?_
    refine hK16 ?_
    refine WC.ret fun a_ ha_ => ?_
    exact hQ (cv_ret1 rfl (.tmp rfl) (by unfold lessA; simp [*]) hB ha_)
  ·
    replace c15 := bnot_f c15
    replace c15 := of_decide_eq_true c15
    refine WC.skip ?_
    refine hK13 ?_
    refine WC.seq fun K17 hK17 => ?_
    refine WC.region ?_
    refine WL.val (dx_fld (o1 := 1) rfl ty_fld_40_1_1 rfl rfl) rfl rfl ?_
    refine WL.val (dx_load rfl ty_one_9 rfl (k3.cell (k := 1) rfl)) rfl rfl ?_
    refine WL.val (dx_fld (o1 := 1) rfl ty_fld_40_1_1 rfl rfl) rfl rfl ?_
    refine WL.val (dx_load rfl ty_one_9 rfl (k8.cell (k := 1) rfl)) rfl rfl ?_
    refine WL.val (dx_lssT rfl rfl rfl) rfl rfl ?_
    refine WL.val (dx_assign rfl rfl) rfl rfl ?_
    refine WL.nil ?_
    refine hK17 ?_
    refine WC.ret fun a_ ha_ => ?_
    exact hQ (cv_ret1 rfl (.tmp rfl) (by unfold lessA; simp [*]) hB ha_)

end Go.Proofs.YthefddclefimoaaGreatDoor
namespace Go.Proofs.YthefddclefimoaaGreatDoor
open Go.RowKit
set_option linter.unusedVariables false

def digI (c : Int) : Bool := decide (48 ≤ c) && decide (c ≤ 57)
def smlI (c : Int) : Bool := decide (97 ≤ c) && decide (c ≤ 122)
def grtI (c : Int) : Bool := decide (65 ≤ c) && decide (c ≤ 90)
def hostI (c : Int) : Bool := smlI c || grtI c || digI c || c == 46 || c == 45
def userI (c : Int) : Bool := smlI c || digI c || c == 46 || c == 95 || c == 61 || c == 47 || c == 43 || c == 45
def roomI (c : Int) : Bool := smlI c || grtI c || digI c
def signI (c : Int) : Bool := c == 46 || c == 45

/-- From 1 to so many, all of a kind. -/
def madeI (l : List Int) (most : Int) (K : Int → Bool) : Bool := decide (1 ≤ l.length) && (decide ((l.length : Int) ≤ most) && l.all K)
/-- Two points side by side. -/
def dotsI : List Int → Bool
  | [] => false
  | x :: r => (x == 46 && r.head? == some 46) || dotsI r
/-- Neither end is a sign. -/
def edgesI (l : List Int) : Bool := !(l.head?.any signI) && !(l.getLast?.any signI)
def hostL (l : List Int) : Bool := madeI l 230 hostI && (!dotsI l && edgesI l)
/-- The place of the first colon; the length, where there is none. -/
def colI (l : List Int) : Nat := l.findIdx (· == 58)
def serverL (l : List Int) : Bool := (decide (l.length ≤ colI l) || madeI (l.drop (colI l + 1)) 5 digI) && hostL (l.take (colI l))
def namedL (l : List Int) (sigil most : Int) (K : Int → Bool) : Bool :=
  decide (l.length ≤ 255) && (l.head? == some sigil && (madeI ((l.drop 1).take (colI (l.drop 1))) most K && serverL ((l.drop 1).drop (colI (l.drop 1) + 1))))
def userL (l : List Int) : Bool := namedL l 64 200 userI
def roomL (l : List Int) : Bool := namedL l 33 64 roomI

theorem sb_mk (l : List UInt8) : sb ⟨l.toArray⟩ = l.map fun c => (c.toNat : Int) := by simp [sb]
theorem toNat_beq (x c : UInt8) : ((x.toNat : Int) == (c.toNat : Int)) = (x == c) := by
  rw [Bool.eq_iff_iff, beq_iff_eq, beq_iff_eq]
  constructor
  · intro h
    exact UInt8.toNat_inj.1 (by omega)
  · rintro rfl; rfl

/-- Where the first instance of a byte is. -/
theorem index_one (l : List UInt8) (c : UInt8) : Lib.index l [c] = if l.findIdx (· == c) < l.length then (l.findIdx (· == c) : Int) else -1 := by
  induction l with
  | nil => simp [Lib.index]
  | cons b l ih =>
    have e : ([c] : List UInt8).isPrefixOf (b :: l) = (b == c) := by
      simp [List.isPrefixOf]
      exact Bool.beq_comm
    rw [Lib.index, e, ih, List.findIdx_cons]
    cases hb : (b == c)
    · by_cases hlt : l.findIdx (· == c) < l.length
      · rw [if_pos hlt]
        have h1 : ((l.findIdx (· == c) : Nat) : Int) ≠ -1 := by omega
        have h2 : l.findIdx (· == c) + 1 < (b :: l).length := by rw [List.length_cons]; omega
        simp only [Bool.false_eq_true, if_false, beq_iff_eq, h1, if_pos h2, cond_false]
        omega
      · rw [if_neg hlt]
        have h2 : ¬ l.findIdx (· == c) + 1 < (b :: l).length := by rw [List.length_cons]; omega
        simp only [Bool.false_eq_true, if_false, beq_self_eq_true, if_true, if_neg h2, cond_false]
    · simp
theorem findIdx_sb (l : List UInt8) (c : UInt8) : (l.map fun c => (c.toNat : Int)).findIdx (· == (c.toNat : Int)) = l.findIdx (· == c) := by
  induction l with
  | nil => rfl
  | cons b l ih => rw [List.map_cons, List.findIdx_cons, List.findIdx_cons, ih, toNat_beq]
/-- A cut around the first colon. -/
theorem cut_col (s : ByteArray) : sb ⟨(Lib.cut s.data.toList [58]).1.toArray⟩ = (sb s).take (colI (sb s)) ∧ sb ⟨(Lib.cut s.data.toList [58]).2.1.toArray⟩ = (sb s).drop (colI (sb s) + 1) ∧ (Lib.cut s.data.toList [58]).2.2 = decide (colI (sb s) < (sb s).length) := by
  have hc : colI (sb s) = s.data.toList.findIdx (· == 58) := findIdx_sb s.data.toList 58
  have hl : (sb s).length = s.data.toList.length := by simp [sb]
  rw [sb_mk (Lib.cut s.data.toList [58]).1, sb_mk (Lib.cut s.data.toList [58]).2.1, hc, hl, Lib.cut, index_one]
  by_cases hlt : s.data.toList.findIdx (· == 58) < s.data.toList.length
  · rw [if_pos hlt, if_pos (by omega)]
    refine ⟨?_, ?_, ?_⟩
    · simp [sb, List.map_take]
    · simp [sb, List.map_drop]
    · simp only [decide_eq_true hlt]
  · rw [if_neg hlt, if_neg (by omega)]
    refine ⟨?_, ?_, ?_⟩
    · rw [List.take_of_length_le (by rw [hl]; omega)]; simp [sb]
    · rw [List.drop_of_length_le (by rw [hl]; omega)]; rfl
    · simp only [decide_eq_false hlt]
theorem dots_lib (l : List UInt8) : Lib.contains l [46, 46] = dotsI (l.map fun c => (c.toNat : Int)) := by
  rw [Lib.contains]
  induction l with
  | nil => rfl
  | cons b l ih =>
    have hge := Lib.index_ge l [46, 46]
    rw [List.map_cons, dotsI, ← ih, Lib.index]
    have e : ([46, 46] : List UInt8).isPrefixOf (b :: l) = ((b.toNat : Int) == 46 && (l.map fun c => (c.toNat : Int)).head? == some 46) := by
      have h46 : ∀ x : UInt8, (46 == x) = ((x.toNat : Int) == 46) := fun x => by rw [show (46 : Int) = ((46 : UInt8).toNat : Int) from rfl, toNat_beq]; exact Bool.beq_comm
      cases l with
      | nil => simp [List.isPrefixOf]
      | cons d l => simp [List.isPrefixOf, h46]
    rw [← e]
    cases ([46, 46] : List UInt8).isPrefixOf (b :: l)
    · by_cases h : Lib.index l [46, 46] = -1
      · simp [h]
      · have : 0 ≤ Lib.index l [46, 46] + 1 := by omega
        have h0 : 0 ≤ Lib.index l [46, 46] := by omega
        simp [h, this, h0]
    · simp
theorem dropWhile_len {α : Type} (p : α → Bool) (l : List α) : (l.dropWhile p).length ≤ l.length := by
  induction l with
  | nil => simp
  | cons x l ih => rw [List.dropWhile_cons]; split <;> simp <;> omega
theorem dropWhile_same {α : Type} (p : α → Bool) (l : List α) : (l.dropWhile p = l ∧ l.head?.any p = false) ∨ ((l.dropWhile p).length < l.length ∧ l.head?.any p = true) := by
  cases l with
  | nil => left; simp
  | cons x l =>
    rw [List.dropWhile_cons]
    cases h : p x
    · left; simp [h]
    · right
      have := dropWhile_len p l
      simp [h]; omega
theorem sign_cut (c : UInt8) : ([46, 45] : List UInt8).contains c = signI (c.toNat : Int) := by
  have h46 : ∀ x : UInt8, (x == 46) = ((x.toNat : Int) == 46) := fun x => by rw [show (46 : Int) = ((46 : UInt8).toNat : Int) from rfl, toNat_beq]
  have h45 : ∀ x : UInt8, (x == 45) = ((x.toNat : Int) == 45) := fun x => by rw [show (45 : Int) = ((45 : UInt8).toNat : Int) from rfl, toNat_beq]
  simp only [List.contains, List.elem, signI, ← h46, ← h45]
  cases (c == 46) <;> cases (c == 45) <;> rfl
theorem any_sign (o : Option UInt8) : (o.map fun c => (c.toNat : Int)).any signI = o.any fun c => ([46, 45] : List UInt8).contains c := by
  cases o with
  | none => rfl
  | some c => exact (sign_cut c).symm
theorem trimS_edges (l : List UInt8) : (Lib.trimS l [46, 45] = l) ↔ edgesI (l.map fun c => (c.toNat : Int)) = true := by
  have hh : (l.map fun c => (c.toNat : Int)).head?.any signI = l.head?.any fun c => ([46, 45] : List UInt8).contains c := by rw [List.head?_map, any_sign]
  have hg : (l.map fun c => (c.toNat : Int)).getLast?.any signI = l.getLast?.any fun c => ([46, 45] : List UInt8).contains c := by rw [List.getLast?_map, any_sign]
  rw [edgesI, hh, hg]
  have hr := dropWhile_same (fun c => ([46, 45] : List UInt8).contains c) l.reverse
  rw [List.head?_reverse] at hr
  unfold Lib.trimS Lib.trimLeftS Lib.trimRightS
  generalize (fun c => ([46, 45] : List UInt8).contains c) = p at *
  rcases hr with ⟨h1, h2⟩ | ⟨h1, h2⟩
  · rw [h1, List.reverse_reverse, h2]
    rcases dropWhile_same p l with ⟨h3, h4⟩ | ⟨h3, h4⟩
    · rw [h4, h3]; simp
    · rw [h4]
      refine ⟨fun e => ?_, fun e => by cases e⟩
      rw [e] at h3
      omega
  · rw [h2]
    refine ⟨fun e => ?_, fun e => by simp at e⟩
    have := dropWhile_len p (l.reverse.dropWhile p).reverse
    rw [e, List.length_reverse] at this
    rw [List.length_reverse] at h1
    omega
end Go.Proofs.YthefddclefimoaaGreatDoor
