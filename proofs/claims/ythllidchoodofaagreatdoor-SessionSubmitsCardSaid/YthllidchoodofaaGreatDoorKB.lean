/- Appends of drawn regions: a literal of nothing, what is appended to it. What the program says of its types: sizes, fields, zero values. A region whose order is drawn, of which one operation ahead of the last ones writes to what the region itself has made. No program stands here. Views of a slice of one's own: parts of it, appends and clears in place. No program stands here. slices.Delete on rows of cells. Operations on texts. No program stands here. Package plain; the order of addresses. slices of bonds and of users. Lists that are right: so many at most, each of them good, in order. No program stands here. bond.place. Layer 5 (ids): the document's words over lists of bytes, as numbers; and what the library's words are in these. No program stands here. DERIVED: THE SHELF's CONTRACTS AT THIS DUMP, IN PLAIN WORDS (tools/lay-plain.mjs out of 'YthllidchoodofaaGreatDoorShelf.lean', which tools/lay-shelf.mjs wrote): THE SAME DECLARATIONS UNDER THE SAME NAMES: 'import', 'namespace', 'open', 'def', 'theorem' AND NOTHING ELSE: no command of the shelf's: FOR A HAND-IN. Each laying: the table of numbers ('.._ren') and one theorem, a field a fact of the dump's own or the kernel's comparison; each contract: ONE APPLICATION. Layer 5 (ids): what the program's small functions do, and which texts are names. Layer 5 (ids): servers' names, users', rooms'. The library's variable stays. No program stands here. Lower and Printable of both packages. Layer 6 (address): the document's words over list -/
import Derived.Lib.CutLaws
import Derived.Lib.SlTrimSet
import Derived.Shelf.Strings.Trim
import Derived.Shelf.Small.Utf8
import Derived.Shelf.Small.Strs
import Derived.Shelf.Strings.Search1
import Derived.Shelf.Strings.Search2
import Derived.Shelf.Strings.Search3
import Derived.Shelf.Strings.Cut
import Derived.Shelf.LaysM
import Derived.Shelf.Strings.Shaped
import Derived.Shelf.Strings.Prefix
import Derived.Shelf.Strings.Runes
import Derived.Shelf.Strings.AsciiSet
import Derived.Shelf.Unicode.DecodeSlow
import Derived.Test.YthllidchoodofaaGreatDoorProg
import Derived.Shelf.Strings.SlTrimAscii
import Derived.Lib.IndexMore
import Derived.Lib.IndexBytes
import Derived.Lib.IndexLaws
import Derived.MapFrom
import Derived.IntWalk
import Derived.Test.YthllidchoodofaaGreatDoorKA
namespace Go.Proofs.YthllidchoodofaaGreatDoor
open Go.RowKit
set_option linter.unusedVariables false
set_option linter.unusedSimpArgs false
/-- A literal of nothing: it has no room. -/
def NewE (s base : Nat) (u : Value) (w : World) : Prop := ∃ B, base ≤ B ∧ u = .slice (some ⟨B, 0, none⟩) 0 0 ∧ OwS s w u [] B
/-- A slice of the call's own, behind the world of the base. -/
def NewQ (s base : Nat) (rs : List (List Value)) (u : Value) (w : World) : Prop := ∃ B, base ≤ B ∧ OwS s w u rs B
theorem NewE.below {s base : Nat} {u : Value} {w w' : World} (h : NewE s base u w) (hb : Below w.heap.size w w') : NewE s base u w' := by
  obtain ⟨B, h1, h2, h3⟩ := h
  exact ⟨B, h1, h2, h3.below hb⟩
theorem NewE.le {s base n : Nat} {u : Value} {w : World} (h : NewE s base u w) (hn : n ≤ base) : NewE s n u w := by
  obtain ⟨B, h1, h2, h3⟩ := h
  exact ⟨B, Nat.le_trans hn h1, h2, h3⟩
theorem NewQ.below {s base : Nat} {rs : List (List Value)} {u : Value} {w w' : World} (h : NewQ s base rs u w) (hb : Below w.heap.size w w') : NewQ s base rs u w' := by
  obtain ⟨B, h1, h3⟩ := h
  exact ⟨B, h1, h3.below hb⟩
theorem NewQ.le {s base n : Nat} {rs : List (List Value)} {u : Value} {w : World} (h : NewQ s base rs u w) (hn : n ≤ base) : NewQ s n rs u w := by
  obtain ⟨B, h1, h3⟩ := h
  exact ⟨B, Nat.le_trans hn h1, h3⟩
section
variable {P : Program} {ops : Array Oper} {o : Oper} {N : Nat} {f : Fl} {w : World}
theorem dv_T {p : Prop} [Decidable p] (h : DV P ops o N f w (.bool (decide p))) (hp : p) : DV P ops o N f w (.bool true) := by rwa [decide_eq_true hp] at h
theorem dx_lit0E {t s bytes : Nat} (ho : o.op = .buildSlice t 0 #[]) (ht : apB P t s bytes = true) (h0 : 0 < s) (hw : wantF ops o f = some true := by rfl) : DR P ops o N f w (fun u W => Below w.heap.size w W ∧ NewE s w.heap.size u W) := fun a ha => by
  obtain ⟨e, i, Z, hu, hi, hZ, rfl, rfl, hzs⟩ := of_apB ht
  have hrun := run_buildSlice (P := P) (w := w) hu hi hZ 0 #[] (by omega) (cs := #[]) (by simp [Instr.fill])
  exact Does.of_wp (wantF_of ha hw) fun K hK => by
    unfold Oper.wp execOp
    simp only [ho, Sem.run_bind, List.map_toArray, List.map_nil, hrun, Sem.run_pure, Result.andThen_ok]
    obtain ⟨n1, n2, n3⟩ := newB_row w e []
    exact hK _ _ ⟨n2, _, Nat.le_refl _, rfl, h0, (fun r hr => by cases hr), 0, [], rfl, Nat.le_refl _, Nat.zero_le _, by simp, by simpa using n1⟩
theorem dx_apO' {t s bytes B : Nat} {x y : Operand} {v v2 : Value} {rs news : List (List Value)} {L : List Nat} (ho : o.op = .call { callee := .builtin .append, args := #[x, y], argTypes := #[t, t] }) (ht : apB P t s bytes = true) (hx : ev f x = some v) (hy : ev f y = some v2)
    (h : OwS s w v rs B) (h2 : RdF s L w v2 news) (h1 : ∀ r ∈ news, ∀ u ∈ r, u.oneCell' = true) (hm : rs.length + news.length ≤ maxLen) (hby : (rs.length + news.length) * bytes ≤ 140737488355328) (hw : wantF ops o f = some true := by rfl) : DR P ops o N f w (GrO s B w (rs ++ news)) := fun a ha => by
  obtain ⟨e, i, Z, hu, hi, hz, rfl, rfl, hzs⟩ := of_apB ht
  have hx := ha.ev hx
  have hy := ha.ev hy
  obtain ⟨v', w', B', hr, h3, h4⟩ := run_apO (w := w) (t := t) (ty := o.type) hu hi hz hzs h h2 h1 hm hby
  exact Does.of_wp (wantF_of ha hw) fun K hK => by
    unfold Oper.wp execOp
    simp only [ho, resolve, invoke, builtin, Sem.run_bind, Sem.run_pure, Result.andThen_ok, List.map_toArray, List.map_cons, List.map_nil, hx, hy, hr]
    exact hK _ _ ⟨B', h3, h4⟩
/-- An append to a literal of nothing: nothing changes, or what comes is new. -/
theorem dx_apE {t s bytes base : Nat} {x y : Operand} {u v2 : Value} {news : List (List Value)} {L : List Nat} (ho : o.op = .call { callee := .builtin .append, args := #[x, y], argTypes := #[t, t] }) (ht : apB P t s bytes = true) (hx : ev f x = some u) (hy : ev f y = some v2)
    (h : NewE s base u w) (h2 : RdF s L w v2 news) (hm : news.length ≤ maxLen) (hby : news.length * bytes ≤ 140737488355328) (hb : base ≤ w.heap.size) (hw : wantF ops o f = some true := by rfl) : DR P ops o N f w (fun u W => Below w.heap.size w W ∧ NewQ s base news u W) := fun a ha => by
  obtain ⟨B, h3, rfl, h4⟩ := h
  by_cases hn : news = []
  · subst hn
    have ht0 := ht
    obtain ⟨e, i, Z, hu, hi, hz, rfl, rfl, hzs⟩ := of_apB ht
    have hx := ha.ev hx
    have hy := ha.ev hy
    obtain ⟨_, _, a2, cap2, rfl, hd1, hd2, hd3, hd4⟩ := h2
    have hr : (Builtin.append_ #[t, t] o.type #[.slice (some ⟨B, 0, none⟩) 0 0, .slice a2 0 cap2]).run P w = .ok (.slice (some ⟨B, 0, none⟩) 0 0) w := by
      cases a2 with
      | none => simp [Builtin.append_, run_underlying hu, sizeOf, typeInfo, hi, Builtin.lenOf, Builtin.firstCells, storeCells]
      | some a2 => simp [Builtin.append_, run_underlying hu, sizeOf, typeInfo, hi, Builtin.lenOf, Builtin.firstCells, loadCells, loadCellsFrom, storeCells]
    exact Does.of_wp (wantF_of ha hw) fun K hK => by
      unfold Oper.wp execOp
      simp only [List.length_nil] at hy
      simp only [ho, resolve, invoke, builtin, Sem.run_bind, Sem.run_pure, Result.andThen_ok, List.map_toArray, List.map_cons, List.map_nil, hx, hy, hr]
      exact hK _ _ ⟨Below.refl _ _, B, h3, h4⟩
  · have hrd : RdF s [] w (.slice (some ⟨B, 0, none⟩) ([] : List (List Value)).length ([] : List (List Value)).length) [] := h4.rd (by simp)
    have := dx_apF (N := N) (f := f) (P := P) (ops := ops) (o := o) (w := w) (s := s) (rs := []) (news := news) (L := []) ho ht hx hy hrd (h2.less (by simp)) hn (by simpa using hm) (by simpa using hby) hw
    exact (this.mono fun v W' h => ⟨h.2.1, _, hb, by simpa using h.1⟩) a ha
end
end Go.Proofs.YthllidchoodofaaGreatDoor
namespace Go.Proofs.YthllidchoodofaaGreatDoor
set_option linter.unusedVariables false
set_option maxRecDepth 8000
theorem ty_one_1 : oneB Tryz.prog 1 = true := by kernel_rfl
theorem ty_size_1_1 : sizeB Tryz.prog 1 1 = true := by kernel_rfl
theorem ty_one_2 : oneB Tryz.prog 2 = true := by kernel_rfl
theorem ty_size_2_1 : sizeB Tryz.prog 2 1 = true := by kernel_rfl
theorem ty_zero_2 : (Tryz.prog.info? 2).bind (·.zero) = some (.int .i64 0) := by kernel_rfl
theorem ty_one_3 : oneB Tryz.prog 3 = true := by kernel_rfl
theorem ty_size_3_1 : sizeB Tryz.prog 3 1 = true := by kernel_rfl
theorem ty_zero_3 : (Tryz.prog.info? 3).bind (·.zero) = some (.int .i64 0) := by kernel_rfl
theorem ty_one_4 : oneB Tryz.prog 4 = true := by kernel_rfl
theorem ty_size_4_1 : sizeB Tryz.prog 4 1 = true := by kernel_rfl
theorem ty_zero_4 : (Tryz.prog.info? 4).bind (·.zero) = some (.bool false) := by kernel_rfl
theorem ty_one_5 : oneB Tryz.prog 5 = true := by kernel_rfl
theorem ty_size_5_1 : sizeB Tryz.prog 5 1 = true := by kernel_rfl
theorem ty_zero_5 : (Tryz.prog.info? 5).bind (·.zero) = some (.int .u8 0) := by kernel_rfl
theorem ty_one_6 : oneB Tryz.prog 6 = true := by kernel_rfl
theorem ty_size_6_1 : sizeB Tryz.prog 6 1 = true := by kernel_rfl
theorem ty_zero_6 : (Tryz.prog.info? 6).bind (·.zero) = some (.int .u8 0) := by kernel_rfl
theorem ty_agg_7_4 : aggB Tryz.prog 7 4 = true := by kernel_rfl
theorem ty_size_7_4 : sizeB Tryz.prog 7 4 = true := by kernel_rfl
theorem ty_fld_7_0_0 : fldB Tryz.prog 7 0 0 = true := by kernel_rfl
theorem ty_fld_7_1_1 : fldB Tryz.prog 7 1 1 = true := by kernel_rfl
theorem ty_fld_7_2_2 : fldB Tryz.prog 7 2 2 = true := by kernel_rfl
theorem ty_fld_7_3_3 : fldB Tryz.prog 7 3 3 = true := by kernel_rfl
theorem ty_zero_7 : (Tryz.prog.info? 7).bind (·.zero) = some (.agg #[.int .i64 0, .int .i64 0, .bool false, .int .u8 0]) := by kernel_rfl
theorem ty_agg_8_4 : aggB Tryz.prog 8 4 = true := by kernel_rfl
theorem ty_size_8_4 : sizeB Tryz.prog 8 4 = true := by kernel_rfl
theorem ty_fld_8_0_0 : fldB Tryz.prog 8 0 0 = true := by kernel_rfl
theorem ty_fld_8_1_1 : fldB Tryz.prog 8 1 1 = true := by kernel_rfl
theorem ty_fld_8_2_2 : fldB Tryz.prog 8 2 2 = true := by kernel_rfl
theorem ty_fld_8_3_3 : fldB Tryz.prog 8 3 3 = true := by kernel_rfl
theorem ty_zero_8 : (Tryz.prog.info? 8).bind (·.zero) = some (.agg #[.int .i64 0, .int .i64 0, .bool false, .int .u8 0]) := by kernel_rfl
theorem ty_one_9 : oneB Tryz.prog 9 = true := by kernel_rfl
theorem ty_size_9_1 : sizeB Tryz.prog 9 1 = true := by kernel_rfl
theorem ty_zero_9 : (Tryz.prog.info? 9).bind (·.zero) = some (.string ⟨#[]⟩) := by kernel_rfl
theorem ty_one_10 : oneB Tryz.prog 10 = true := by kernel_rfl
theorem ty_size_10_1 : sizeB Tryz.prog 10 1 = true := by kernel_rfl
theorem ty_zero_10 : (Tryz.prog.info? 10).bind (·.zero) = some (.string ⟨#[]⟩) := by kernel_rfl
theorem ty_one_11 : oneB Tryz.prog 11 = true := by kernel_rfl
theorem ty_size_11_1 : sizeB Tryz.prog 11 1 = true := by kernel_rfl
theorem ty_zero_11 : (Tryz.prog.info? 11).bind (·.zero) = some (.string ⟨#[]⟩) := by kernel_rfl
theorem ty_one_12 : oneB Tryz.prog 12 = true := by kernel_rfl
theorem ty_size_12_1 : sizeB Tryz.prog 12 1 = true := by kernel_rfl
theorem ty_zero_12 : (Tryz.prog.info? 12).bind (·.zero) = some (.int .u64 0) := by kernel_rfl
theorem ty_agg_13_2 : aggB Tryz.prog 13 2 = true := by kernel_rfl
theorem ty_size_13_2 : sizeB Tryz.prog 13 2 = true := by kernel_rfl
theorem ty_fld_13_0_0 : fldB Tryz.prog 13 0 0 = true := by kernel_rfl
theorem ty_fld_13_1_1 : fldB Tryz.prog 13 1 1 = true := by kernel_rfl
theorem ty_zero_13 : (Tryz.prog.info? 13).bind (·.zero) = some (.agg #[.string ⟨#[]⟩, .int .u64 0]) := by kernel_rfl
theorem ty_agg_14_2 : aggB Tryz.prog 14 2 = true := by kernel_rfl
theorem ty_size_14_2 : sizeB Tryz.prog 14 2 = true := by kernel_rfl
theorem ty_fld_14_0_0 : fldB Tryz.prog 14 0 0 = true := by kernel_rfl
theorem ty_fld_14_1_1 : fldB Tryz.prog 14 1 1 = true := by kernel_rfl
theorem ty_zero_14 : (Tryz.prog.info? 14).bind (·.zero) = some (.agg #[.string ⟨#[]⟩, .int .u64 0]) := by kernel_rfl
theorem ty_one_21 : oneB Tryz.prog 21 = true := by kernel_rfl
theorem ty_size_21_1 : sizeB Tryz.prog 21 1 = true := by kernel_rfl
theorem ty_zero_21 : (Tryz.prog.info? 21).bind (·.zero) = some (.int .i32 0) := by kernel_rfl
theorem ty_one_22 : oneB Tryz.prog 22 = true := by kernel_rfl
theorem ty_size_22_1 : sizeB Tryz.prog 22 1 = true := by kernel_rfl
theorem ty_slice_22 : sliceB Tryz.prog 22 10 = true := by kernel_rfl
theorem ty_ap_22 : apB Tryz.prog 22 10 112 = true := by kernel_rfl
theorem ty_zero_22 : (Tryz.prog.info? 22).bind (·.zero) = some (.slice none 0 0) := by kernel_rfl
theorem ty_agg_23_2 : aggB Tryz.prog 23 2 = true := by kernel_rfl
theorem ty_size_23_2 : sizeB Tryz.prog 23 2 = true := by kernel_rfl
theorem ty_fld_23_0_0 : fldB Tryz.prog 23 0 0 = true := by kernel_rfl
theorem ty_fld_23_1_1 : fldB Tryz.prog 23 1 1 = true := by kernel_rfl
theorem ty_zero_23 : (Tryz.prog.info? 23).bind (·.zero) = some (.agg #[.string ⟨#[]⟩, .string ⟨#[]⟩]) := by kernel_rfl
theorem ty_agg_24_2 : aggB Tryz.prog 24 2 = true := by kernel_rfl
theorem ty_size_24_2 : sizeB Tryz.prog 24 2 = true := by kernel_rfl
theorem ty_fld_24_0_0 : fldB Tryz.prog 24 0 0 = true := by kernel_rfl
theorem ty_fld_24_1_1 : fldB Tryz.prog 24 1 1 = true := by kernel_rfl
theorem ty_zero_24 : (Tryz.prog.info? 24).bind (·.zero) = some (.agg #[.string ⟨#[]⟩, .string ⟨#[]⟩]) := by kernel_rfl
theorem ty_agg_25_10 : aggB Tryz.prog 25 10 = true := by kernel_rfl
theorem ty_size_25_10 : sizeB Tryz.prog 25 10 = true := by kernel_rfl
theorem ty_fld_25_0_0 : fldB Tryz.prog 25 0 0 = true := by kernel_rfl
theorem ty_fld_25_1_1 : fldB Tryz.prog 25 1 1 = true := by kernel_rfl
theorem ty_fld_25_2_2 : fldB Tryz.prog 25 2 2 = true := by kernel_rfl
theorem ty_fld_25_3_4 : fldB Tryz.prog 25 3 4 = true := by kernel_rfl
theorem ty_fld_25_4_5 : fldB Tryz.prog 25 4 5 = true := by kernel_rfl
theorem ty_fld_25_5_6 : fldB Tryz.prog 25 5 6 = true := by kernel_rfl
theorem ty_fld_25_6_7 : fldB Tryz.prog 25 6 7 = true := by kernel_rfl
theorem ty_fld_25_7_8 : fldB Tryz.prog 25 7 8 = true := by kernel_rfl
theorem ty_fld_25_8_9 : fldB Tryz.prog 25 8 9 = true := by kernel_rfl
theorem ty_zero_25 : (Tryz.prog.info? 25).bind (·.zero) = some (.agg #[.int .i64 0, .string ⟨#[]⟩, .string ⟨#[]⟩, .string ⟨#[]⟩, .string ⟨#[]⟩, .int .i64 0, .int .i64 0, .int .i64 0, .bool false, .int .i64 0]) := by kernel_rfl
theorem ty_agg_26_10 : aggB Tryz.prog 26 10 = true := by kernel_rfl
theorem ty_size_26_10 : sizeB Tryz.prog 26 10 = true := by kernel_rfl
theorem ty_fld_26_0_0 : fldB Tryz.prog 26 0 0 = true := by kernel_rfl
theorem ty_fld_26_1_1 : fldB Tryz.prog 26 1 1 = true := by kernel_rfl
theorem ty_fld_26_2_2 : fldB Tryz.prog 26 2 2 = true := by kernel_rfl
theorem ty_fld_26_3_4 : fldB Tryz.prog 26 3 4 = true := by kernel_rfl
theorem ty_fld_26_4_5 : fldB Tryz.prog 26 4 5 = true := by kernel_rfl
theorem ty_fld_26_5_6 : fldB Tryz.prog 26 5 6 = true := by kernel_rfl
theorem ty_fld_26_6_7 : fldB Tryz.prog 26 6 7 = true := by kernel_rfl
theorem ty_fld_26_7_8 : fldB Tryz.prog 26 7 8 = true := by kernel_rfl
theorem ty_fld_26_8_9 : fldB Tryz.prog 26 8 9 = true := by kernel_rfl
theorem ty_zero_26 : (Tryz.prog.info? 26).bind (·.zero) = some (.agg #[.int .i64 0, .string ⟨#[]⟩, .string ⟨#[]⟩, .string ⟨#[]⟩, .string ⟨#[]⟩, .int .i64 0, .int .i64 0, .int .i64 0, .bool false, .int .i64 0]) := by kernel_rfl
theorem ty_one_27 : oneB Tryz.prog 27 = true := by kernel_rfl
theorem ty_size_27_1 : sizeB Tryz.prog 27 1 = true := by kernel_rfl
theorem ty_one_28 : oneB Tryz.prog 28 = true := by kernel_rfl
theorem ty_size_28_1 : sizeB Tryz.prog 28 1 = true := by kernel_rfl
theorem ty_one_29 : oneB Tryz.prog 29 = true := by kernel_rfl
theorem ty_size_29_1 : sizeB Tryz.prog 29 1 = true := by kernel_rfl
theorem ty_zero_29 : (Tryz.prog.info? 29).bind (·.zero) = some (.int .i64 0) := by kernel_rfl
theorem ty_one_31 : oneB Tryz.prog 31 = true := by kernel_rfl
theorem ty_size_31_1 : sizeB Tryz.prog 31 1 = true := by kernel_rfl
theorem ty_one_33 : oneB Tryz.prog 33 = true := by kernel_rfl
theorem ty_size_33_1 : sizeB Tryz.prog 33 1 = true := by kernel_rfl
theorem ty_one_35 : oneB Tryz.prog 35 = true := by kernel_rfl
theorem ty_size_35_1 : sizeB Tryz.prog 35 1 = true := by kernel_rfl
theorem ty_one_36 : oneB Tryz.prog 36 = true := by kernel_rfl
theorem ty_size_36_1 : sizeB Tryz.prog 36 1 = true := by kernel_rfl
theorem ty_one_37 : oneB Tryz.prog 37 = true := by kernel_rfl
theorem ty_size_37_1 : sizeB Tryz.prog 37 1 = true := by kernel_rfl
theorem ty_one_38 : oneB Tryz.prog 38 = true := by kernel_rfl
theorem ty_size_38_1 : sizeB Tryz.prog 38 1 = true := by kernel_rfl
theorem ty_one_40 : oneB Tryz.prog 40 = true := by kernel_rfl
theorem ty_size_40_1 : sizeB Tryz.prog 40 1 = true := by kernel_rfl
theorem ty_one_41 : oneB Tryz.prog 41 = true := by kernel_rfl
theorem ty_size_41_1 : sizeB Tryz.prog 41 1 = true := by kernel_rfl
theorem ty_one_43 : oneB Tryz.prog 43 = true := by kernel_rfl
theorem ty_size_43_1 : sizeB Tryz.prog 43 1 = true := by kernel_rfl
theorem ty_one_44 : oneB Tryz.prog 44 = true := by kernel_rfl
theorem ty_size_44_1 : sizeB Tryz.prog 44 1 = true := by kernel_rfl
theorem ty_one_46 : oneB Tryz.prog 46 = true := by kernel_rfl
theorem ty_size_46_1 : sizeB Tryz.prog 46 1 = true := by kernel_rfl
theorem ty_one_47 : oneB Tryz.prog 47 = true := by kernel_rfl
theorem ty_size_47_1 : sizeB Tryz.prog 47 1 = true := by kernel_rfl
theorem ty_one_48 : oneB Tryz.prog 48 = true := by kernel_rfl
theorem ty_size_48_1 : sizeB Tryz.prog 48 1 = true := by kernel_rfl
theorem ty_one_49 : oneB Tryz.prog 49 = true := by kernel_rfl
theorem ty_size_49_1 : sizeB Tryz.prog 49 1 = true := by kernel_rfl
theorem ty_one_50 : oneB Tryz.prog 50 = true := by kernel_rfl
theorem ty_size_50_1 : sizeB Tryz.prog 50 1 = true := by kernel_rfl
theorem ty_one_51 : oneB Tryz.prog 51 = true := by kernel_rfl
theorem ty_size_51_1 : sizeB Tryz.prog 51 1 = true := by kernel_rfl
theorem ty_one_52 : oneB Tryz.prog 52 = true := by kernel_rfl
theorem ty_size_52_1 : sizeB Tryz.prog 52 1 = true := by kernel_rfl
theorem ty_one_53 : oneB Tryz.prog 53 = true := by kernel_rfl
theorem ty_size_53_1 : sizeB Tryz.prog 53 1 = true := by kernel_rfl
theorem ty_one_54 : oneB Tryz.prog 54 = true := by kernel_rfl
theorem ty_size_54_1 : sizeB Tryz.prog 54 1 = true := by kernel_rfl
theorem ty_one_55 : oneB Tryz.prog 55 = true := by kernel_rfl
theorem ty_size_55_1 : sizeB Tryz.prog 55 1 = true := by kernel_rfl
theorem ty_one_56 : oneB Tryz.prog 56 = true := by kernel_rfl
theorem ty_size_56_1 : sizeB Tryz.prog 56 1 = true := by kernel_rfl
theorem ty_one_57 : oneB Tryz.prog 57 = true := by kernel_rfl
theorem ty_size_57_1 : sizeB Tryz.prog 57 1 = true := by kernel_rfl
theorem ty_one_58 : oneB Tryz.prog 58 = true := by kernel_rfl
theorem ty_size_58_1 : sizeB Tryz.prog 58 1 = true := by kernel_rfl
theorem ty_one_59 : oneB Tryz.prog 59 = true := by kernel_rfl
theorem ty_size_59_1 : sizeB Tryz.prog 59 1 = true := by kernel_rfl
theorem ty_one_61 : oneB Tryz.prog 61 = true := by kernel_rfl
theorem ty_size_61_1 : sizeB Tryz.prog 61 1 = true := by kernel_rfl
theorem ty_one_62 : oneB Tryz.prog 62 = true := by kernel_rfl
theorem ty_size_62_1 : sizeB Tryz.prog 62 1 = true := by kernel_rfl
theorem ty_one_63 : oneB Tryz.prog 63 = true := by kernel_rfl
theorem ty_size_63_1 : sizeB Tryz.prog 63 1 = true := by kernel_rfl
theorem ty_one_64 : oneB Tryz.prog 64 = true := by kernel_rfl
theorem ty_size_64_1 : sizeB Tryz.prog 64 1 = true := by kernel_rfl
theorem ty_one_66 : oneB Tryz.prog 66 = true := by kernel_rfl
theorem ty_size_66_1 : sizeB Tryz.prog 66 1 = true := by kernel_rfl
theorem ty_one_67 : oneB Tryz.prog 67 = true := by kernel_rfl
theorem ty_size_67_1 : sizeB Tryz.prog 67 1 = true := by kernel_rfl
theorem ty_agg_68_2 : aggB Tryz.prog 68 2 = true := by kernel_rfl
theorem ty_size_68_2 : sizeB Tryz.prog 68 2 = true := by kernel_rfl
theorem ty_fld_68_0_0 : fldB Tryz.prog 68 0 0 = true := by kernel_rfl
theorem ty_fld_68_1_1 : fldB Tryz.prog 68 1 1 = true := by kernel_rfl
theorem ty_zero_68 : (Tryz.prog.info? 68).bind (·.zero) = some (.agg #[.string ⟨#[]⟩, .string ⟨#[]⟩]) := by kernel_rfl
theorem ty_agg_69_2 : aggB Tryz.prog 69 2 = true := by kernel_rfl
theorem ty_size_69_2 : sizeB Tryz.prog 69 2 = true := by kernel_rfl
theorem ty_fld_69_0_0 : fldB Tryz.prog 69 0 0 = true := by kernel_rfl
theorem ty_fld_69_1_1 : fldB Tryz.prog 69 1 1 = true := by kernel_rfl
theorem ty_zero_69 : (Tryz.prog.info? 69).bind (·.zero) = some (.agg #[.string ⟨#[]⟩, .string ⟨#[]⟩]) := by kernel_rfl
theorem ty_one_72 : oneB Tryz.prog 72 = true := by kernel_rfl
theorem ty_size_72_1 : sizeB Tryz.prog 72 1 = true := by kernel_rfl
theorem ty_one_74 : oneB Tryz.prog 74 = true := by kernel_rfl
theorem ty_size_74_1 : sizeB Tryz.prog 74 1 = true := by kernel_rfl
theorem ty_one_75 : oneB Tryz.prog 75 = true := by kernel_rfl
theorem ty_size_75_1 : sizeB Tryz.prog 75 1 = true := by kernel_rfl
theorem ty_one_77 : oneB Tryz.prog 77 = true := by kernel_rfl
theorem ty_size_77_1 : sizeB Tryz.prog 77 1 = true := by kernel_rfl
theorem ty_one_78 : oneB Tryz.prog 78 = true := by kernel_rfl
theorem ty_size_78_1 : sizeB Tryz.prog 78 1 = true := by kernel_rfl
theorem ty_agg_79_256 : aggB Tryz.prog 79 256 = true := by kernel_rfl
theorem ty_size_79_256 : sizeB Tryz.prog 79 256 = true := by kernel_rfl
theorem ty_agg_80_256 : aggB Tryz.prog 80 256 = true := by kernel_rfl
theorem ty_size_80_256 : sizeB Tryz.prog 80 256 = true := by kernel_rfl
theorem ty_one_82 : oneB Tryz.prog 82 = true := by kernel_rfl
theorem ty_size_82_1 : sizeB Tryz.prog 82 1 = true := by kernel_rfl
theorem ty_one_83 : oneB Tryz.prog 83 = true := by kernel_rfl
theorem ty_size_83_1 : sizeB Tryz.prog 83 1 = true := by kernel_rfl
theorem ty_one_85 : oneB Tryz.prog 85 = true := by kernel_rfl
theorem ty_size_85_1 : sizeB Tryz.prog 85 1 = true := by kernel_rfl
theorem ty_one_86 : oneB Tryz.prog 86 = true := by kernel_rfl
theorem ty_size_86_1 : sizeB Tryz.prog 86 1 = true := by kernel_rfl
theorem ty_one_87 : oneB Tryz.prog 87 = true := by kernel_rfl
theorem ty_size_87_1 : sizeB Tryz.prog 87 1 = true := by kernel_rfl
theorem ty_slice_87 : sliceB Tryz.prog 87 1 = true := by kernel_rfl
theorem ty_ap_87 : apB Tryz.prog 87 1 1 = true := by kernel_rfl
theorem ty_zero_87 : (Tryz.prog.info? 87).bind (·.zero) = some (.slice none 0 0) := by kernel_rfl
theorem ty_one_88 : oneB Tryz.prog 88 = true := by kernel_rfl
theorem ty_size_88_1 : sizeB Tryz.prog 88 1 = true := by kernel_rfl
theorem ty_one_90 : oneB Tryz.prog 90 = true := by kernel_rfl
theorem ty_size_90_1 : sizeB Tryz.prog 90 1 = true := by kernel_rfl
theorem ty_one_91 : oneB Tryz.prog 91 = true := by kernel_rfl
theorem ty_size_91_1 : sizeB Tryz.prog 91 1 = true := by kernel_rfl
theorem ty_one_92 : oneB Tryz.prog 92 = true := by kernel_rfl
theorem ty_size_92_1 : sizeB Tryz.prog 92 1 = true := by kernel_rfl
theorem ty_one_93 : oneB Tryz.prog 93 = true := by kernel_rfl
theorem ty_size_93_1 : sizeB Tryz.prog 93 1 = true := by kernel_rfl
theorem ty_one_94 : oneB Tryz.prog 94 = true := by kernel_rfl
theorem ty_size_94_1 : sizeB Tryz.prog 94 1 = true := by kernel_rfl
theorem ty_one_95 : oneB Tryz.prog 95 = true := by kernel_rfl
theorem ty_size_95_1 : sizeB Tryz.prog 95 1 = true := by kernel_rfl
theorem ty_one_96 : oneB Tryz.prog 96 = true := by kernel_rfl
theorem ty_size_96_1 : sizeB Tryz.prog 96 1 = true := by kernel_rfl
theorem ty_zero_96 : (Tryz.prog.info? 96).bind (·.zero) = some (.int .u64 0) := by kernel_rfl
theorem ty_agg_97_256 : aggB Tryz.prog 97 256 = true := by kernel_rfl
theorem ty_size_97_256 : sizeB Tryz.prog 97 256 = true := by kernel_rfl
theorem ty_zero_97 : (Tryz.prog.info? 97).bind (·.zero) = some (.agg (Array.replicate 256 (.int .u8 0))) := by kernel_rfl
theorem ty_agg_98_2 : aggB Tryz.prog 98 2 = true := by kernel_rfl
theorem ty_size_98_2 : sizeB Tryz.prog 98 2 = true := by kernel_rfl
theorem ty_fld_98_0_0 : fldB Tryz.prog 98 0 0 = true := by kernel_rfl
theorem ty_fld_98_1_1 : fldB Tryz.prog 98 1 1 = true := by kernel_rfl
theorem ty_zero_98 : (Tryz.prog.info? 98).bind (·.zero) = some (.agg #[.int .u8 0, .int .u8 0]) := by kernel_rfl
theorem ty_agg_99_2 : aggB Tryz.prog 99 2 = true := by kernel_rfl
theorem ty_size_99_2 : sizeB Tryz.prog 99 2 = true := by kernel_rfl
theorem ty_fld_99_0_0 : fldB Tryz.prog 99 0 0 = true := by kernel_rfl
theorem ty_fld_99_1_1 : fldB Tryz.prog 99 1 1 = true := by kernel_rfl
theorem ty_zero_99 : (Tryz.prog.info? 99).bind (·.zero) = some (.agg #[.int .u8 0, .int .u8 0]) := by kernel_rfl
theorem ty_agg_100_32 : aggB Tryz.prog 100 32 = true := by kernel_rfl
theorem ty_size_100_32 : sizeB Tryz.prog 100 32 = true := by kernel_rfl
theorem ty_zero_100 : (Tryz.prog.info? 100).bind (·.zero) = some (.agg #[.int .u8 0, .int .u8 0, .int .u8 0, .int .u8 0, .int .u8 0, .int .u8 0, .int .u8 0, .int .u8 0, .int .u8 0, .int .u8 0, .int .u8 0, .int .u8 0, .int .u8 0, .int .u8 0, .int .u8 0, .int .u8 0, .int .u8 0, .int .u8 0, .int .u8 0, .int .u8 0, .int .u8 0, .int .u8 0, .int .u8 0, .int .u8 0, .int .u8 0, .int .u8 0, .int .u8 0, .int .u8 0, .int .u8 0, .int .u8 0, .int .u8 0, .int .u8 0]) := by kernel_rfl
theorem ty_one_101 : oneB Tryz.prog 101 = true := by kernel_rfl
theorem ty_size_101_1 : sizeB Tryz.prog 101 1 = true := by kernel_rfl
theorem ty_one_102 : oneB Tryz.prog 102 = true := by kernel_rfl
theorem ty_size_102_1 : sizeB Tryz.prog 102 1 = true := by kernel_rfl
theorem ty_zero_102 : (Tryz.prog.info? 102).bind (·.zero) = some (.int .u32 0) := by kernel_rfl
theorem ty_one_104 : oneB Tryz.prog 104 = true := by kernel_rfl
theorem ty_size_104_1 : sizeB Tryz.prog 104 1 = true := by kernel_rfl
theorem ty_one_105 : oneB Tryz.prog 105 = true := by kernel_rfl
theorem ty_size_105_1 : sizeB Tryz.prog 105 1 = true := by kernel_rfl
theorem ty_one_111 : oneB Tryz.prog 111 = true := by kernel_rfl
theorem ty_size_111_1 : sizeB Tryz.prog 111 1 = true := by kernel_rfl
theorem ty_one_112 : oneB Tryz.prog 112 = true := by kernel_rfl
theorem ty_size_112_1 : sizeB Tryz.prog 112 1 = true := by kernel_rfl
theorem ty_zero_112 : (Tryz.prog.info? 112).bind (·.zero) = some (.int .u8 0) := by kernel_rfl
theorem ty_one_113 : oneB Tryz.prog 113 = true := by kernel_rfl
theorem ty_size_113_1 : sizeB Tryz.prog 113 1 = true := by kernel_rfl
theorem ty_zero_113 : (Tryz.prog.info? 113).bind (·.zero) = some (.int .u8 0) := by kernel_rfl
theorem ty_one_114 : oneB Tryz.prog 114 = true := by kernel_rfl
theorem ty_size_114_1 : sizeB Tryz.prog 114 1 = true := by kernel_rfl
theorem ty_one_116 : oneB Tryz.prog 116 = true := by kernel_rfl
theorem ty_size_116_1 : sizeB Tryz.prog 116 1 = true := by kernel_rfl
theorem ty_zero_116 : (Tryz.prog.info? 116).bind (·.zero) = some (.int .i32 0) := by kernel_rfl
theorem ty_one_117 : oneB Tryz.prog 117 = true := by kernel_rfl
theorem ty_size_117_1 : sizeB Tryz.prog 117 1 = true := by kernel_rfl
theorem ty_zero_117 : (Tryz.prog.info? 117).bind (·.zero) = some (.int .i32 0) := by kernel_rfl
end Go.Proofs.YthllidchoodofaaGreatDoor
namespace Go.Proofs.YthllidchoodofaaGreatDoor
open Go.RowKit
set_option linter.unusedVariables false
set_option linter.unusedSimpArgs false
/-- What the facts keep when the writer runs. -/
def VS.monoR (rel : World → World → Prop) : List (Option Tmp × VS) → Prop
  | [] => True
  | (_, .is _) :: l => VS.monoR rel l
  | (_, .by p) :: l => (∀ u W W', rel W W' → p u W → p u W') ∧ VS.monoR rel l
theorem monoR_at {rel : World → World → Prop} : ∀ {sd : List (Option Tmp × VS)}, VS.monoR rel sd → ∀ {j : Nat} {d : Option Tmp} {p : Value → World → Prop}, sd[j]? = some (d, .by p) → ∀ u W W', rel W W' → p u W → p u W'
  | [], _, j, d, p, h => by simp at h
  | (d', .is v) :: l, hm, j, d, p, h => by
    cases j with
    | zero => simp at h
    | succ j => exact monoR_at (sd := l) hm (by simpa using h)
  | (d', .by q) :: l, hm, j, d, p, h => by
    cases j with
    | zero =>
      simp only [List.getElem?_cons_zero, Option.some.injEq, Prod.mk.injEq, VS.by.injEq] at h
      rw [← h.2]
      exact hm.1
    | succ j => exact monoR_at (sd := l) hm.2 (by simpa using h)
/-- The steps, of which the one with number s writes to what the one with number t has made. -/
def DStepsR (P : Program) (ops : Array Oper) (N : Nat) (w0 : World) (sd : List (Option Tmp × VS)) (dl : List (List Nat)) (f : Fl) (s t dt : Nat) (pt q : Value → World → Prop) (rel : World → World → Prop) : Nat → List Oper → Prop
  | _, [] => True
  | k, o :: l => (if k = s then ∀ W, Below w0.heap.size w0 W → ∀ ut, pt ut W → DStep P ops o N W (sd.set t (some dt, .is ut)) (fun v W' => rel W W' ∧ q ut W') ((dl[k]?).getD []) f
      else ∀ W, Below w0.heap.size w0 W → DStep P ops o N W sd (fun v W' => Below W.heap.size W W' ∧ okAt sd k v W') ((dl[k]?).getD []) f) ∧ DStepsR P ops N w0 sd dl f s t dt pt q rel (k + 1) l
section
variable {P : Program} {N : Nat} {sd : List (Option Tmp × VS)} {dl : List (List Nat)}
theorem DStepsR.cons {ops : Array Oper} {w0 : World} {f : Fl} {k s t dt : Nat} {pt q : Value → World → Prop} {rel : World → World → Prop} {o : Oper} {l : List Oper} (hk : k ≠ s) (h : ∀ W, Below w0.heap.size w0 W → DStep P ops o N W sd (fun v W' => Below W.heap.size W W' ∧ okAt sd k v W') ((dl[k]?).getD []) f) (hl : DStepsR P ops N w0 sd dl f s t dt pt q rel (k + 1) l) : DStepsR P ops N w0 sd dl f s t dt pt q rel k (o :: l) := ⟨by rw [if_neg hk]; exact h, hl⟩
theorem DStepsR.hit {ops : Array Oper} {w0 : World} {f : Fl} {s t dt : Nat} {pt q : Value → World → Prop} {rel : World → World → Prop} {o : Oper} {l : List Oper} (h : ∀ W, Below w0.heap.size w0 W → ∀ ut, pt ut W → DStep P ops o N W (sd.set t (some dt, .is ut)) (fun v W' => rel W W' ∧ q ut W') ((dl[s]?).getD []) f) (hl : DStepsR P ops N w0 sd dl f s t dt pt q rel (s + 1) l) : DStepsR P ops N w0 sd dl f s t dt pt q rel s (o :: l) := ⟨by rw [if_pos rfl]; exact h, hl⟩
theorem okAt_set {t dt : Nat} {u : Value} {j : Nat} (hj : j ≠ t) (v : Value) (W : World) : okAt (sd.set t (some dt, .is u)) j v W = okAt sd j v W := by
  unfold okAt
  rw [List.getElem?_set_ne (fun e => hj e.symm)]
theorem okAt_hit {t dt : Nat} {u : Value} (ht : t < sd.length) (W : World) : okAt (sd.set t (some dt, .is u)) t u W := by
  unfold okAt
  rw [List.getElem?_set_self ht]
  rfl
theorem map_set {t dt : Nat} {s s' : VS} (ht : sd[t]? = some (some dt, s)) : (sd.set t (some dt, s')).map (·.1) = sd.map (·.1) := by
  apply List.ext_getElem?
  intro i
  rw [List.getElem?_map, List.getElem?_map]
  by_cases e : i = t
  · subst e
    rw [ht, List.getElem?_set_self (List.getElem?_eq_some_iff.1 ht).1]
    rfl
  · rw [List.getElem?_set_ne (fun h => e h.symm)]
theorem inN_set {t dt : Nat} {s s' : VS} (ht : sd[t]? = some (some dt, s)) (h : inN N sd = true) : inN N (sd.set t (some dt, s')) = true := by
  have key : ∀ (l : List (Option Tmp × VS)), inN N l = (l.map (·.1)).all fun p => match p with | some d => decide (d < N) | none => true := fun l => by
    unfold inN
    rw [List.all_map]
    rfl
  rw [key, map_set ht, ← key]
  exact h
/-- The rule. -/
theorem WC.drawR {id : Nat} {f : Fl} {w : World} {Q : Exit → Act → World → Prop} (m s t dt : Nat) (pt q : Value → World → Prop) (rel : World → World → Prop) {ops : List Oper} (sd : List (Option Tmp × VS)) (dl : List (List Nat)) (hm : P.follows .mixedOrders = true) (hb : ordB .any ops.toArray = true) (hbp : ordB .any (ops.take m).toArray = true) (htl : tailB .any ops.toArray (ops.take m).length = true) (hdl : (ops.take m).map (depsOf .any) = dl)
    (hds : (ops.take m).map (·.dst) = sd.map (·.1)) (hN : inN N sd = true) (hmono : VS.mono sd)
    (ht : sd[t]? = some (some dt, .by pt)) (hs : sd[s]? = some (none, .by fun _ _ => True)) (hts : ((dl[s]?).getD []).contains t = true) (hst' : s ≠ t) (hsm : s < m) (hrel : VS.monoR rel sd) (hq : ∀ u W W', Below W.heap.size W W' → q u W → q u W') (hbr : ∀ W W', Below w.heap.size w W → rel W W' → Below w.heap.size w W')
    (hst : DStepsR P (ops.take m).toArray N w sd dl f s t dt pt q rel 0 (ops.take m))
    (hend : ∀ W, Below w.heap.size w W → ∀ ut, pt ut W → q ut W → DEnd (fun f W => WL P ops.toArray Q N (ops.drop m) f W) W (sd.set t (some dt, .is ut)) f) : WC P N (.region id ops.toArray true) Q f w := fun a ha => by
  obtain ⟨pre, hpre⟩ : ∃ pre, pre = ops.take m := ⟨_, rfl⟩
  obtain ⟨suf, hsuf⟩ : ∃ suf, suf = ops.drop m := ⟨_, rfl⟩
  have hops : pre ++ suf = ops := by rw [hpre, hsuf]; exact List.take_append_drop m ops
  rw [← hpre] at hbp htl hdl hds hst
  rw [← hsuf] at hend
  clear hpre hsuf
  subst hops
  have hlen : dl.length = sd.length := by rw [← hdl, List.length_map, ← List.length_map (f := (·.dst)), hds, List.length_map]
  have hpl : pre.length = dl.length := by rw [← hdl, List.length_map]
  have htlt : t < sd.length := (List.getElem?_eq_some_iff.1 ht).1
  have hslt : s < sd.length := (List.getElem?_eq_some_iff.1 hs).1
  refine wp_region_any hm ?_
  have hrep : Array.replicate (pre ++ suf).toArray.size false = Array.replicate pre.toArray.size false ++ Array.replicate suf.length false := by
    simp [Array.replicate_append_replicate]
  rw [hrep]
  have hsz : (pre ++ suf).toArray.size = pre.toArray.size + suf.length := by simp
  rw [hsz]
  refine pre_tail (pre := pre.toArray) (suf := suf) hb hbp (by simp) (by simpa using htl) pre.toArray.size _ (by simp) (fun j hj => by simp [Array.getD_eq_getD_getElem?, Array.getElem?_replicate] at hj; split at hj <;> simp_all) a w.drew ?_
  have hda : ∀ j, depsAt .any pre.toArray j = (dl[j]?).getD [] := by
    intro j
    subst hdl
    simp only [depsAt, List.getElem?_map, List.getElem?_toArray]
  have hF0 : ∀ j, (Array.replicate pre.toArray.size false).getD j false = true → False := fun j hj => by simp [Array.getD_eq_getD_getElem?, Array.getElem?_replicate] at hj; split at hj <;> simp_all
  have hmemt : t ∈ (dl[s]?).getD [] := by simpa using hts
  refine wpAny_facts hbp a (fun _ W => Below w.heap.size w W) (fun j g W => okAt sd j (g j) W ∧ (j = s → q (g t) W)) (fun i _ W W' => if i = s then rel W W' else Below W.heap.size W W') ?_ ?_ ?_ pre.toArray.size _ (fun _ => undef) a w.drew (by simp) (by
      have := List.countP_le_length (p := fun b => !b) (l := (Array.replicate pre.toArray.size false).toList)
      simpa using this) (fun j hj => (hF0 j hj).elim) (Agrees.start fun j hj => hF0 j hj) (below_draws (Below.refl _ _) 1) (fun j hj => (hF0 j hj).elim)
  · intro i g W W' j g' hB hne ⟨h, hqj⟩
    by_cases hi : i = s
    · rw [if_pos hi] at hB
      refine ⟨?_, fun hj => absurd (hj.trans hi.symm) hne⟩
      unfold okAt at h ⊢
      cases hsj : sd[j]? with
      | none => trivial
      | some p =>
        obtain ⟨d, s'⟩ := p
        rw [hsj] at h
        cases s' with
        | is v => exact h
        | «by» p => exact monoR_at hrel hsj _ W W' hB h
    · rw [if_neg hi] at hB
      refine ⟨?_, fun hj => hq _ _ _ hB (hqj hj)⟩
      unfold okAt at h ⊢
      cases hsj : sd[j]? with
      | none => trivial
      | some p =>
        obtain ⟨d, s'⟩ := p
        rw [hsj] at h
        cases s' with
        | is v => exact h
        | «by» p => exact mono_at hmono hsj _ W W' hB h
  · intro i o hoi L g W _ _ hG hd
    have key : ∀ (l : List Oper) (k : Nat), DStepsR P pre.toArray N w sd dl f s t dt pt q rel k l → ∀ j o, l[j]? = some o →
        (if k + j = s then ∀ W, Below w.heap.size w W → ∀ ut, pt ut W → DStep P pre.toArray o N W (sd.set t (some dt, .is ut)) (fun v W' => rel W W' ∧ q ut W') ((dl[k + j]?).getD []) f
          else ∀ W, Below w.heap.size w W → DStep P pre.toArray o N W sd (fun v W' => Below W.heap.size W W' ∧ okAt sd (k + j) v W') ((dl[k + j]?).getD []) f) := by
      intro l
      induction l with
      | nil => intro k _ j o h; simp at h
      | cons x l ih =>
        intro k hs j o h
        cases j with
        | zero =>
          simp only [List.getElem?_cons_zero, Option.some.injEq] at h
          subst h
          exact hs.1
        | succ j =>
          have := ih (k + 1) hs.2 j o (by simpa using h)
          rw [show k + (j + 1) = k + 1 + j by omega]
          exact this
    have hk := key pre 0 hst i o (by simpa using hoi)
    rw [Nat.zero_add] at hk
    have hdo : depsOf .any o = (dl[i]?).getD [] := by rw [← hda i, depsAt_eq hoi]
    rw [hdo] at hd ⊢
    rw [putL_eq (ds := sd.map (·.1)) (by simpa using hds)]
    by_cases hi : i = s
    · rw [if_pos hi] at hk
      subst hi
      have hpt : pt (g t) W := by
        have := (hd t hmemt).1
        rw [restr_self] at this
        unfold okAt at this
        rw [ht] at this
        exact this
      obtain ⟨ut, hut⟩ : ∃ ut, ut = g t := ⟨_, rfl⟩
      have hH : HypL (fun j g w => okAt (sd.set t (some dt, .is ut)) j (g j) w) dl g W ((dl[i]?).getD []) := HypL.of _ fun j hj => by
        have h1 := (hd j hj).1
        rw [hda j] at h1
        show okAt _ j (restr g (j :: _) j) W
        rw [restr_self] at h1 ⊢
        by_cases e : j = t
        · subst e
          rw [← hut]
          exact okAt_hit htlt W
        · rw [okAt_set e]
          exact h1
      have hfin := DStep.to (inN_set ht hN) _ f a (hk W hG ut (by rw [hut]; exact hpt)) ha hH
      rw [map_set ht] at hfin
      refine hfin.mono fun v W' h => ⟨by rw [if_pos rfl]; exact h.1, hbr _ _ hG h.1, ?_, fun _ => ?_⟩
      · unfold okAt
        rw [hs]
        trivial
      · have e : restr (upd g i v) (i :: (dl[i]?).getD []) t = g t := by
          unfold restr upd
          rw [if_pos (by simp [hmemt]), if_neg (fun h => hst' h.symm)]
        rw [e, ← hut]
        exact h.2
    · rw [if_neg hi] at hk
      have hH : HypL (fun j g w => okAt sd j (g j) w) dl g W ((dl[i]?).getD []) := HypL.of _ fun j hj => by have := (hd j hj).1; rwa [hda j] at this
      refine (DStep.to hN _ f a (hk W hG) ha hH).mono fun v W' h => ⟨by rw [if_neg hi]; exact h.1, hG.trans (h.1.mono hG.size), ?_, fun e => absurd e hi⟩
      simp only [restr_self]
      rw [show upd g i v i = v by simp [upd]]
      exact h.2
  · intro L g W hL hG hd
    rw [putL_eq (ds := sd.map (·.1)) (by simpa using hds)]
    have hsize : pre.toArray.size = sd.length := by simp; omega
    have hpt : pt (g t) W := by
      have := (hd t (by omega)).1
      rw [restr_self] at this
      unfold okAt at this
      rw [ht] at this
      exact this
    have hqt : q (g t) W := by
      have := (hd s (by omega)).2 rfl
      have e : restr g (s :: depsAt .any pre.toArray s) t = g t := by
        rw [hda s]
        unfold restr
        rw [if_pos (by simp [hmemt])]
      rwa [e] at this
    obtain ⟨ut, hut⟩ : ∃ ut, ut = g t := ⟨_, rfl⟩
    have hH : HypL (fun j g w => okAt (sd.set t (some dt, .is ut)) j (g j) w) dl g W (List.range' 0 sd.length) := HypL.of _ fun j hj => by
      have hj' : j < pre.toArray.size := by
        simp [List.mem_range'] at hj
        simp
        omega
      have h1 := (hd j hj').1
      rw [hda j] at h1
      show okAt _ j (restr g (j :: _) j) W
      rw [restr_self] at h1 ⊢
      by_cases e : j = t
      · subst e
        rw [← hut]
        exact okAt_hit htlt W
      · rw [okAt_set e]
        exact h1
    have hfin := DEnd.to (Q := fun a W => wpList P (pre ++ suf).toArray Q suf a W) (inN_set (s' := .is ut) ht hN) (fun f h a ha => h a ha) (sd.set t (some dt, .is ut)) 0 f a (by simp) (hend W hG ut (by rw [hut]; exact hpt) (by rw [hut]; exact hqt)) ha (by rw [List.length_set]; exact hH)
    rw [List.length_set, map_set ht] at hfin
    show wpOps P (pre ++ suf).toArray Q (List.range' pre.toArray.size suf.length) _ _
    rw [wpOps_eq_wpList suf pre.toArray.size (fun j => by simp [List.getElem?_append_right])]
    rw [List.range_eq_range', hsize]
    exact hfin
end
/-- A pointer to what lies behind the world of the base. -/
def PtB (base : Nat) (L : List Nat) (w : World) (u : Value) (cs : List Value) : Prop := 0 < cs.length ∧ ∃ X o, u = .pointer (some ⟨X, o, none⟩) ∧ X < base ∧ X ∉ L ∧ w.rangeAt X o cs
theorem PtB.ptr {base : Nat} {L : List Nat} {w : World} {u : Value} {cs : List Value} (h : PtB base L w u cs) : PtR L w u cs := by
  obtain ⟨h0, X, o, h1, _, h2, h3⟩ := h
  exact ⟨h0, X, o, h1, h2, h3⟩
theorem PtB.below {base : Nat} {L : List Nat} {w w' : World} {u : Value} {cs : List Value} (h : PtB base L w u cs) (hb : Below w.heap.size w w') : PtB base L w' u cs := by
  obtain ⟨h0, X, o, h1, hx, h2, h3⟩ := h
  exact ⟨h0, X, o, h1, hx, h2, range_agree h3 (Agree.of_below (L := L) hb) h2⟩
/-- A variable that is newly made, of a type, whatever it holds. -/
def NewT (base t n : Nat) (u : Value) (w : World) : Prop := ∃ B cs, u = .pointer (some ⟨B, 0, none⟩) ∧ base ≤ B ∧ BlkT w B t cs ∧ cs.length = n
theorem NewT.below {base t n : Nat} {u : Value} {w w' : World} (h : NewT base t n u w) (hb : Below w.heap.size w w') : NewT base t n u w' := by
  obtain ⟨B, cs, h1, h2, h3, h4⟩ := h
  exact ⟨B, cs, h1, h2, by unfold BlkT; rw [hb.block B h3.blk.lt]; exact h3, h4⟩
theorem NewP.newT {base t n : Nat} {cs : List Value} {u : Value} {w : World} (h : NewP base t cs u w) (hn : cs.length = n) : NewT base t n u w := by
  obtain ⟨B, h1, h2, h3⟩ := h
  exact ⟨B, cs, h1, h2, h3, hn⟩
/-- A write to a new variable of this type. -/
def WrT (base t n : Nat) (w w' : World) : Prop := ∃ C cs cs', base ≤ C ∧ BlkT w C t cs ∧ BlkT w' C t cs' ∧ cs.length = n ∧ cs'.length = n ∧ Only C w w'
theorem WrT.below {base t n : Nat} {w0 w w' : World} (h : WrT base t n w w') (hb : Below base w0 w) : Below base w0 w' := by
  obtain ⟨C, cs, cs', h1, h2, h3, _, h4, h5⟩ := h
  exact h5.below hb h1
theorem NewT.wr {base t n : Nat} {u : Value} {w w' : World} (h : NewT base t n u w) (hw : WrT base t n w w') : NewT base t n u w' := by
  obtain ⟨B, cs, h1, h2, h3, h4⟩ := h
  obtain ⟨C, c1, c2, k1, k2, k3, k0, k4, k5⟩ := hw
  by_cases e : B = C
  · subst e
    exact ⟨B, c2, h1, h2, k3, k4⟩
  · exact ⟨B, cs, h1, h2, by unfold BlkT; rw [k5.block B e]; exact h3, h4⟩
theorem NewP.wr {base t t' n : Nat} {cs : List Value} {u : Value} {w w' : World} (h : NewP base t' cs u w) (hw : WrT base t n w w') (hn : (t' == t) = false) : NewP base t' cs u w' := by
  obtain ⟨B, h1, h2, h3⟩ := h
  obtain ⟨C, c1, c2, k1, k2, k3, k0, k4, k5⟩ := hw
  exact ⟨B, h1, h2, by unfold BlkT; rw [k5.block B (h3.ne k2 hn)]; exact h3⟩
theorem PtB.wr {base t n : Nat} {L : List Nat} {w w' : World} {u : Value} {cs : List Value} (h : PtB base L w u cs) (hw : WrT base t n w w') : PtB base L w' u cs := by
  obtain ⟨h0, X, o, h1, hx, h2, h3⟩ := h
  obtain ⟨C, c1, c2, k1, k2, k3, k0, k4, k5⟩ := hw
  exact ⟨h0, X, o, h1, hx, h2, range_agree h3 (Agree.of_only (L := [C]) k5 (.head _)) (by simp; omega)⟩
/-- Rows that are longer than a whole block do not lie in it. -/
theorem RdF.offB {s : Nat} {L : List Nat} {w : World} {v : Value} {rs : List (List Value)} {B : Nat} {cs : List Value} (h : RdF s L w v rs) (hk : Blk w B cs) (hl : cs.length < s) : RdF s (B :: L) w v rs := by
  obtain ⟨h0, hr, a, cap, h1, h2, h3, h4, h5⟩ := h
  refine ⟨h0, hr, a, cap, h1, h2, h3, h4, fun hn => ?_⟩
  obtain ⟨X, o, e, hX, hc⟩ := h5 hn
  refine ⟨X, o, e, ?_, hc⟩
  have hlen : s ≤ rs.flatten.length := by
    rw [flat_len hr]
    exact Nat.le_mul_of_pos_left s (List.length_pos_iff.2 hn)
  have hne : X ≠ B := fun e => by
    subst e
    obtain ⟨t, ht⟩ := hk
    have := hc (s - 1) _ (List.getElem?_eq_getElem (by omega))
    simp [World.cell?, ht] at this
    obtain ⟨h', _⟩ := List.getElem?_eq_some_iff.1 this
    omega
  simp [hne, hX]
theorem RdF.wr {s base t n : Nat} {L : List Nat} {w w' : World} {v : Value} {rs : List (List Value)} (h : RdF s L w v rs) (hw : WrT base t n w w') (hn : n < s) : RdF s L w' v rs := by
  obtain ⟨C, c1, c2, k1, k2, k3, k0, k4, k5⟩ := hw
  exact ((h.offB k2.blk (by omega)).only k5 (.head _)).less (fun x hx => .tail _ hx)
section
variable {P : Program} {ops : Array Oper} {o : Oper} {N : Nat} {f : Fl} {w : World}
theorem dx_fldB {t : TypeId} {x : Operand} {k off base : Nat} {L : List Nat} {u : Value} {cs cs' : List Value} (n : Nat) (ho : o.op = .fieldAddr t x k) (hf : fldB P t k off = true) (hx : ev f x = some u) (hp : PtB base L w u cs) (hr : (cs.drop off).take n = cs') (hn : 0 < cs'.length) (hw : wantF ops o f = some true := by rfl) : DR P ops o N f w fun u' W => w = W ∧ PtB base L w u' cs' := fun a ha => by
  obtain ⟨_, X, o0, rfl, hb, hX, hc⟩ := hp
  have hx := ha.ev hx
  refine Does.pure (wantF_of ha hw) _ (by unfold execOp; simp only [ho, hx, Sem.run_bind, run_fldB hf, Result.andThen_ok]; rfl) ⟨rfl, hn, X, _, rfl, hb, hX, ?_⟩
  have := range_part hc off n
  rwa [hr] at this
theorem dx_idxB {t s : Nat} {L : List Nat} {w0 : World} {x y : Operand} {v : Value} {rs : List (List Value)} {K : IntKind} {i : Int} {r : List Value} (k : Nat) (ho : o.op = .indexAddr t x y) (ht : sliceB P t s = true) (hx : ev f x = some v) (hy : ev f y = some (.int K i)) (hr : RdF s L w0 v rs) (hd : Below w0.heap.size w0 w) (hk : i = (k : Int)) (hi : rs[k]? = some r) (hw : wantF ops o f = some true := by rfl) :
    DR P ops o N f w fun u W => w = W ∧ PtB w0.heap.size L w u r := fun a ha => by
  have hr' := hr.below hd
  obtain ⟨h0, hl, ad, cap, rfl, h2, h3, h4, h5⟩ := hr'
  obtain ⟨e, hu, hs⟩ := of_sliceB ht
  have hx := ha.ev hx
  have hy := ha.ev hy
  subst hk
  have hlt := (List.getElem?_eq_some_iff.1 hi).1
  have hne : rs ≠ [] := by intro e; subst e; simp at hlt
  obtain ⟨X, o0, rfl, hX, hc⟩ := h5 hne
  have hrun := run_idxS (w := w) (n := rs.length) (c := cap) hu hs X o0 K (k : Int) (by omega) (by omega)
  refine Does.pure (wantF_of ha hw) (.pointer (some ⟨X, o0 + k * s, none⟩)) (by unfold execOp; simp only [ho, hx, hy, Sem.run_bind, hrun, Result.andThen_ok]; rfl) ⟨rfl, by rw [hl r (List.mem_of_getElem? hi)]; exact h0, X, _, rfl, rdf_lt hr rfl hne, hX, ?_⟩
  have := range_part hc (k * s) s
  rw [flat_row hl hi] at this
  simpa using this
/-- A store of the whole of a new variable. -/
theorem dx_storeT {t t' base n : Nat} {x y : Operand} {u V : Value} {vs : List Value} (ho : o.op = .store t x y) (ht : sizeB P t n = true) (hx : ev f x = some u) (hp : NewT base t' n u w) (hy : ev f y = some V) (hv : V.cells.toList = vs) (h1 : ∀ v ∈ vs, v.oneCell' = true) (hn : vs.length = n) (hw : wantF ops o f = some true := by rfl) : DR P ops o N f w fun _ W => WrT base t' n w W ∧ NewP base t' vs u W := fun a ha => by
  obtain ⟨B, cs, rfl, hB, hb, hc⟩ := hp
  obtain ⟨i, hi, hs⟩ := of_sizeB ht
  have hx := ha.ev hx
  have hy := ha.ev hy
  exact Does.of_wp (wantF_of ha hw) fun K hK => by
    have hst := run_storeCells_at P B 0 t' vs 0 _ w hb (by simp; omega) h1
    simp only [Nat.add_zero] at hst
    have hcs : (cs.toArray.toList.take 0 ++ vs ++ cs.toArray.toList.drop (0 + vs.length)) = vs := by
      rw [List.drop_eq_nil_of_le (by simp; omega)]
      simp
    rw [hcs] at hst
    have hsz : V.cells.size = i.size := by rw [← Array.length_toList, hv, hn, hs]
    unfold Oper.wp execOp
    simp only [ho, hx, hy, Instr.storeAt, Instr.sureAddr, storeVar, sizeOf, typeInfo, Sem.run_bind, Sem.run_pure, Result.andThen_ok, run_program, hi, hsz, hv, ne_eq, not_true_eq_false, if_false, hst]
    have e : (w.setRow B vs.toArray).heap[B]? = some (.cells vs.toArray t' (0, 0)) := setRow_heap w B _ _ t' _ hb
    exact hK _ _ ⟨⟨B, cs, vs, hB, hb, e, hc, hn, only_setRow w B _⟩, B, rfl, hB, e⟩
end
end Go.Proofs.YthllidchoodofaaGreatDoor
namespace Go.Proofs.YthllidchoodofaaGreatDoor
open Go.RowKit
set_option linter.unusedVariables false
set_option linter.unusedSimpArgs false
/-- A block of one's own as rows, all that there is room for. -/
def RwB (s : Nat) (w : World) (B : Nat) (R : List (List Value)) : Prop := 0 < s ∧ (∀ r ∈ R, r.length = s) ∧ R.length ≤ maxLen ∧ Blk w B R.flatten
theorem RwB.lt {s : Nat} {w : World} {B : Nat} {R : List (List Value)} (h : RwB s w B R) : B < w.heap.size := h.2.2.2.lt
theorem RwB.below {s : Nat} {w w' : World} {B : Nat} {R : List (List Value)} (h : RwB s w B R) (hb : Below w.heap.size w w') : RwB s w' B R := ⟨h.1, h.2.1, h.2.2.1, h.2.2.2.below hb⟩
theorem RwB.other {s : Nat} {w w' : World} {B C : Nat} {R : List (List Value)} (h : RwB s w B R) (ho : Only C w w') (hn : B ≠ C) : RwB s w' B R := ⟨h.1, h.2.1, h.2.2.1, h.2.2.2.other ho hn⟩
theorem rows_of {s : Nat} : ∀ (n : Nat) (l : List Value), l.length = n * s → ∃ rows : List (List Value), rows.length = n ∧ (∀ r ∈ rows, r.length = s) ∧ rows.flatten = l
  | 0, l, h => ⟨[], rfl, fun r hr => (by cases hr), (by rw [Nat.zero_mul] at h; rw [List.length_eq_zero_iff.1 h]; rfl)⟩
  | n + 1, l, h => by
    rw [Nat.succ_mul] at h
    obtain ⟨rows, h1, h2, h3⟩ := rows_of (s := s) n (l.drop s) (by rw [List.length_drop]; omega)
    refine ⟨l.take s :: rows, by simp [h1], fun r hr => ?_, by rw [List.flatten_cons, h3, List.take_append_drop]⟩
    rcases List.mem_cons.1 hr with rfl | hr
    · rw [List.length_take]; omega
    · exact h2 r hr
theorem OwS.open {s : Nat} {w : World} {v : Value} {rs : List (List Value)} {B : Nat} (h : OwS s w v rs B) : ∃ sp, v = .slice (some ⟨B, 0, none⟩) rs.length (rs ++ sp).length ∧ RwB s w B (rs ++ sp) := by
  obtain ⟨h0, hr, cap, sp, rfl, h2, h3, h4, h5⟩ := h
  obtain ⟨rows, k1, k2, rfl⟩ := rows_of (cap - rs.length) sp h4
  have e : (rs ++ rows).length = cap := by rw [List.length_append, k1]; omega
  refine ⟨rows, by rw [e], h0, fun r hr' => ?_, by rw [e]; exact h3, by rw [List.flatten_append]; exact h5⟩
  rcases List.mem_append.1 hr' with h | h
  · exact hr r h
  · exact k2 r h
theorem RwB.own {s : Nat} {w : World} {B : Nat} {rs sp : List (List Value)} (h : RwB s w B (rs ++ sp)) : OwS s w (.slice (some ⟨B, 0, none⟩) rs.length (rs ++ sp).length) rs B := by
  obtain ⟨h0, hr, hm, hb⟩ := h
  have hsp : ∀ r ∈ sp, r.length = s := fun r hr' => hr r (List.mem_append.2 (.inr hr'))
  refine ⟨h0, fun r hr' => hr r (List.mem_append.2 (.inl hr')), _, sp.flatten, rfl, by simp, hm, ?_, by rw [← List.flatten_append]; exact hb⟩
  rw [flat_len hsp, List.length_append, Nat.add_sub_cancel_left]
/-- Where a part begins: a part with no room begins where the whole does. -/
def offV (c l o0 s : Nat) : Nat := if c = l then o0 else o0 + l * s
theorem offV_eq {c l s B o0 : Nat} : (if c = l then some (⟨B, o0, none⟩ : Addr) else some (if l * s = 0 then ⟨B, o0, none⟩ else ⟨B, o0 + l * s, none⟩)) = some ⟨B, offV c l o0 s, none⟩ := by
  unfold offV
  split
  · rfl
  · split
    · rename_i h; rw [h]; rfl
    · rfl
theorem offV_in {c l o0 s n : Nat} (hn : n ≠ 0) (h : l + n ≤ c) : offV c l o0 s = o0 + l * s := by
  unfold offV
  rw [if_neg (by omega)]
/-- What a part of it reads. -/
theorem RwB.part {s : Nat} {w : World} {B : Nat} {R : List (List Value)} (h : RwB s w B R) {L : List Nat} (hB : B ∉ L) {lo n c o1 : Nat} (ho : n ≠ 0 → o1 = lo * s) (hn : n ≤ c) (hc : lo + c ≤ R.length) : RdF s L w (.slice (some ⟨B, o1, none⟩) n c) ((R.drop lo).take n) := by
  obtain ⟨h0, hr, hm, hb⟩ := h
  have hl : ((R.drop lo).take n).length = n := by rw [List.length_take, List.length_drop]; omega
  refine ⟨h0, fun r hr' => hr r (List.mem_of_mem_drop (List.mem_of_mem_take hr')), _, c, by rw [hl], by rw [hl]; exact hn, by omega, fun h => (by cases h), fun hne => ⟨B, o1, rfl, hB, ?_⟩⟩
  rw [ho (fun e => hne (by rw [e, List.take_zero]))]
  have := range_part hb.range (lo * s) (n * s)
  rw [flat_drop lo hr, flat_take n (fun r hr' => hr r (List.mem_of_mem_drop hr')), Nat.zero_add] at this
  exact this
section
variable {P : Program} {ops : Array Oper} {o : Oper} {N : Nat} {f : Fl} {w : World}
/-- x[l:], x[:h], x[l:h], x[l:h:m] of a slice that isn't nil. -/
theorem dx_slL {t s B o0 n c : Nat} {x y : Operand} {K : IntKind} (l : Nat) {i : Int} (ho : o.op = .slice t x (some y) none none) (ht : sliceB P t s = true) (hx : ev f x = some (.slice (some ⟨B, o0, none⟩) n c)) (hy : ev f y = some (.int K i)) (hi : i = (l : Int)) (hl : l ≤ n) (hn : n ≤ c) (hw : wantF ops o f = some true := by rfl) :
    DV P ops o N f w (.slice (some ⟨B, offV c l o0 s, none⟩) (n - l) (c - l)) := fun a ha => by
  subst hi
  obtain ⟨e, hu, hs⟩ := of_sliceB ht
  have hx := ha.ev hx
  have hy := ha.ev hy
  cases hi : P.info? e with
  | none => rw [hi] at hs; cases hs
  | some q =>
    have hq : q.size = s := by simpa [hi] using hs
    refine Does.pure (wantF_of ha hw) _ ?_ ⟨rfl, rfl⟩
    have h1 : ((l : Int) ≤ (n : Int)) := by omega
    have h2 : ((n : Int) ≤ (c : Int)) := by omega
    have h3 : (0 : Int) ≤ (l : Int) := by omega
    unfold execOp
    simp only [ho, Option.map_none, Option.map_some, hx, hy, Instr.sliceAt, Sem.run_bind, run_underlying hu, Result.andThen_ok, Instr.slice, Instr.sliceBounds, Instr.sliceBound, asIntOf, Sem.run_pure, sizeOf, typeInfo, run_program, hi]
    simp [h1, h2, h3, hq, addr_at, Addr.add, hl]
    exact offV_eq
theorem dx_slH {t s B o0 n c : Nat} {x y : Operand} {K : IntKind} (h : Nat) {i : Int} (ho : o.op = .slice t x none (some y) none) (ht : sliceB P t s = true) (hx : ev f x = some (.slice (some ⟨B, o0, none⟩) n c)) (hy : ev f y = some (.int K i)) (hi : i = (h : Int)) (hl : h ≤ c) (hw : wantF ops o f = some true := by rfl) :
    DV P ops o N f w (.slice (some ⟨B, o0, none⟩) h c) := fun a ha => by
  subst hi
  obtain ⟨e, hu, hs⟩ := of_sliceB ht
  have hx := ha.ev hx
  have hy := ha.ev hy
  cases hi : P.info? e with
  | none => rw [hi] at hs; cases hs
  | some q =>
    have hq : q.size = s := by simpa [hi] using hs
    refine Does.pure (wantF_of ha hw) _ ?_ ⟨rfl, rfl⟩
    have h1 : ((h : Int) ≤ (c : Int)) := by omega
    have h3 : (0 : Int) ≤ (h : Int) := by omega
    unfold execOp
    simp only [ho, Option.map_none, Option.map_some, hx, hy, Instr.sliceAt, Sem.run_bind, run_underlying hu, Result.andThen_ok, Instr.slice, Instr.sliceBounds, Instr.sliceBound, asIntOf, Sem.run_pure, sizeOf, typeInfo, run_program, hi]
    simp [h1, h3, hq, addr_at, Addr.add]
theorem dx_slLH {t s B o0 n c : Nat} {x y z : Operand} {K K' : IntKind} (l h : Nat) {i j : Int} (ho : o.op = .slice t x (some y) (some z) none) (ht : sliceB P t s = true) (hx : ev f x = some (.slice (some ⟨B, o0, none⟩) n c)) (hy : ev f y = some (.int K i)) (hz : ev f z = some (.int K' j)) (hi : i = (l : Int)) (hj : j = (h : Int)) (hl : l ≤ h) (hc : h ≤ c) (hw : wantF ops o f = some true := by rfl) :
    DV P ops o N f w (.slice (some ⟨B, offV c l o0 s, none⟩) (h - l) (c - l)) := fun a ha => by
  subst hi hj
  obtain ⟨e, hu, hs⟩ := of_sliceB ht
  have hx := ha.ev hx
  have hy := ha.ev hy
  have hz := ha.ev hz
  cases hi : P.info? e with
  | none => rw [hi] at hs; cases hs
  | some q =>
    have hq : q.size = s := by simpa [hi] using hs
    refine Does.pure (wantF_of ha hw) _ ?_ ⟨rfl, rfl⟩
    have h1 : ((l : Int) ≤ (h : Int)) := by omega
    have h2 : ((h : Int) ≤ (c : Int)) := by omega
    have h3 : (0 : Int) ≤ (l : Int) := by omega
    have h4 : (0 : Int) ≤ (h : Int) := by omega
    unfold execOp
    simp only [ho, Option.map_none, Option.map_some, hx, hy, hz, Instr.sliceAt, Sem.run_bind, run_underlying hu, Result.andThen_ok, Instr.slice, Instr.sliceBounds, Instr.sliceBound, asIntOf, Sem.run_pure, sizeOf, typeInfo, run_program, hi]
    simp [h1, h2, h3, h4, hq, addr_at, Addr.add, hl, hc]
    exact offV_eq
theorem dx_slLHM {t s B o0 n c : Nat} {x y z u : Operand} {K K' K2 : IntKind} (l h m : Nat) {i j k : Int} (ho : o.op = .slice t x (some y) (some z) (some u)) (ht : sliceB P t s = true) (hx : ev f x = some (.slice (some ⟨B, o0, none⟩) n c)) (hy : ev f y = some (.int K i)) (hz : ev f z = some (.int K' j)) (hu' : ev f u = some (.int K2 k)) (hi : i = (l : Int)) (hj : j = (h : Int)) (hk : k = (m : Int)) (hl : l ≤ h) (hm : h ≤ m) (hc : m ≤ c) (hw : wantF ops o f = some true := by rfl) :
    DV P ops o N f w (.slice (some ⟨B, offV m l o0 s, none⟩) (h - l) (m - l)) := fun a ha => by
  subst hi hj hk
  obtain ⟨e, hu, hs⟩ := of_sliceB ht
  have hx := ha.ev hx
  have hy := ha.ev hy
  have hz := ha.ev hz
  have hu' := ha.ev hu'
  cases hi : P.info? e with
  | none => rw [hi] at hs; cases hs
  | some q =>
    have hq : q.size = s := by simpa [hi] using hs
    refine Does.pure (wantF_of ha hw) _ ?_ ⟨rfl, rfl⟩
    have h1 : ((l : Int) ≤ (h : Int)) := by omega
    have h2 : ((h : Int) ≤ (m : Int)) := by omega
    have h3 : (0 : Int) ≤ (l : Int) := by omega
    have h4 : (0 : Int) ≤ (h : Int) := by omega
    have h5 : ((m : Int) ≤ (c : Int)) := by omega
    have h6 : (0 : Int) ≤ (m : Int) := by omega
    unfold execOp
    simp only [ho, Option.map_none, Option.map_some, hx, hy, hz, hu', Instr.sliceAt, Sem.run_bind, run_underlying hu, Result.andThen_ok, Instr.slice, Instr.sliceBounds, Instr.sliceBound, asIntOf, Sem.run_pure, sizeOf, typeInfo, run_program, hi]
    simp [h1, h2, h3, h4, h5, h6, hq, addr_at, Addr.add, hl, hm, hc]
    exact offV_eq
/-- An append where there is room. -/
theorem dx_apV {t s bytes B i : Nat} {x y : Operand} {v2 : Value} {R news : List (List Value)} {L : List Nat} (ho : o.op = .call { callee := .builtin .append, args := #[x, y], argTypes := #[t, t] }) (ht : apB P t s bytes = true) (hx : ev f x = some (.slice (some ⟨B, 0, none⟩) i R.length)) (hy : ev f y = some v2)
    (hR : RwB s w B R) (h2 : RdF s L w v2 news) (h1 : ∀ r ∈ news, ∀ u ∈ r, u.oneCell' = true) {m : Nat} (hm' : news.length = m) (hroom : i + m ≤ R.length) (hw : wantF ops o f = some true := by rfl) :
    DR P ops o N f w fun u W => u = .slice (some ⟨B, 0, none⟩) (i + m) R.length ∧ RwB s W B (R.take i ++ (news ++ R.drop (i + m))) ∧ Only B w W := fun a ha => by
  subst hm'
  obtain ⟨e, q, Z, hu, hi, hz, rfl, rfl, hzs⟩ := of_apB ht
  have hx := ha.ev hx
  have hy := ha.ev hy
  obtain ⟨h0, hr, hm, tt, hb⟩ := hR
  obtain ⟨_, hl2, a2, cap2, rfl, hd1, hd2, hd3, hd4⟩ := h2
  refine Does.of_wp (wantF_of ha hw) fun K hK => ?_
  by_cases hn : news = []
  · subst hn
    have hr0 : (Builtin.append_ #[t, t] o.type #[.slice (some ⟨B, 0, none⟩) i R.length, .slice a2 0 cap2]).run P w = .ok (.slice (some ⟨B, 0, none⟩) i R.length) w := by
      have hle : i ≤ R.length := by simpa using hroom
      cases a2 with
      | none => simp [Builtin.append_, run_underlying hu, sizeOf, typeInfo, hi, Builtin.lenOf, hle, Builtin.firstCells, storeCells]
      | some a2 => simp [Builtin.append_, run_underlying hu, sizeOf, typeInfo, hi, Builtin.lenOf, hle, Builtin.firstCells, loadCells, loadCellsFrom, storeCells]
    unfold Oper.wp execOp
    simp only [List.length_nil] at hy
    simp only [ho, resolve, invoke, builtin, Sem.run_bind, Sem.run_pure, Result.andThen_ok, List.map_toArray, List.map_cons, List.map_nil, hx, hy, hr0]
    refine hK _ _ ⟨rfl, ⟨h0, by simpa using hr, by simpa using hm, tt, by simpa using hb⟩, ⟨rfl, rfl, rfl, rfl, fun _ _ => rfl⟩⟩
  · obtain ⟨X, o0, rfl, hX, hc⟩ := hd4 hn
    have hnews : ∀ j u, news.flatten[j]? = some u → w.cell? ((⟨X, o0, none⟩ : Addr).add j) = some u := fun j u hj => by rw [addr_at]; exact hc j u hj
    have hflat : news.flatten.length = news.length * q.size := flat_len hl2
    have h1' : ∀ u ∈ news.flatten, u.oneCell' = true := fun u hu => by
      obtain ⟨r, hr, hur⟩ := List.mem_flatten.1 hu
      exact h1 r hr u hur
    have hfit : i * q.size + news.flatten.length ≤ R.flatten.toArray.size := by
      rw [List.size_toArray, flat_len hr, hflat, ← Nat.add_mul]
      exact Nat.mul_le_mul_right _ hroom
    have hrun := run_ap_room (P := P) (w := w) (t := t) (ty := o.type) hu hi B i R.length _ hb ⟨X, o0, none⟩ news.length cap2 news.flatten hflat hnews h1' hroom hfit
    have hcs : R.flatten.toArray.toList.take (i * q.size) ++ news.flatten ++ R.flatten.toArray.toList.drop (i * q.size + news.flatten.length) = (R.take i ++ (news ++ R.drop (i + news.length))).flatten := by
      rw [hflat, ← Nat.add_mul, flat_take i hr, flat_drop (i + news.length) hr]
      simp
    rw [hcs] at hrun
    unfold Oper.wp execOp
    simp only [ho, resolve, invoke, builtin, Sem.run_bind, Sem.run_pure, Result.andThen_ok, List.map_toArray, List.map_cons, List.map_nil, hx, hy, hrun]
    refine hK _ _ ⟨rfl, ⟨h0, fun r hr' => ?_, ?_, tt, setRow_heap w B _ _ tt _ hb⟩, only_setRow w B _⟩
    · rcases List.mem_append.1 hr' with h | h
      · exact hr r (List.mem_of_mem_take h)
      · rcases List.mem_append.1 h with h | h
        · exact hl2 r h
        · exact hr r (List.mem_of_mem_drop h)
    · rw [List.length_append, List.length_append, List.length_take, List.length_drop]
      omega
/-- A type whose zero value has cells of one cell each. -/
def clB (P : Program) (t s : Nat) : Bool := match P.underlying t with
  | some (.slice e) => match P.info? e with
    | some i => i.size == s && (match i.zero with | some z => z.cells.size == s && z.cells.toList.all (·.oneCell') | none => false)
    | none => false
  | _ => false
theorem of_clB {t s : Nat} (h : clB P t s = true) : ∃ e i Z, P.underlying t = some (.slice e) ∧ P.info? e = some i ∧ i.zero = some Z ∧ i.size = s ∧ Z.cells.size = s ∧ ∀ u ∈ Z.cells.toList, u.oneCell' = true := by
  unfold clB at h
  split at h
  · rename_i e hu
    split at h
    · rename_i i hi
      simp only [Bool.and_eq_true, beq_iff_eq] at h
      obtain ⟨h1, h3⟩ := h
      split at h3
      · rename_i z hz
        simp only [Bool.and_eq_true, beq_iff_eq, List.all_eq_true] at h3
        exact ⟨e, i, z, hu, hi, hz, h1, h3.1, h3.2⟩
      · cases h3
    · cases h
  · cases h
theorem dx_clV {t s B lo n c o1 : Nat} {x : Operand} {R : List (List Value)} (ho : o.op = .call { callee := .builtin .clear, args := #[x], argTypes := #[t] }) (ht : clB P t s = true) (hx : ev f x = some (.slice (some ⟨B, o1, none⟩) n c)) (h1 : n ≠ 0 → o1 = lo * s) (hR : RwB s w B R) (hn : lo + n ≤ R.length) (hw : wantF ops o f = some true := by rfl) :
    DR P ops o N f w fun _ W => ∃ zs : List (List Value), zs.length = n ∧ RwB s W B (R.take lo ++ (zs ++ R.drop (lo + n))) ∧ Only B w W := fun a ha => by
  obtain ⟨e, q, Z, hu, hi, hz, rfl, hzs, hone⟩ := of_clB ht
  have hx := ha.ev hx
  obtain ⟨h0, hr, hm, tt, hb⟩ := hR
  refine Does.of_wp (wantF_of ha hw) fun K hK => ?_
  by_cases hn0 : n = 0
  · subst hn0
    have hrun : (Builtin.clear_ #[t] o.type #[.slice (some ⟨B, o1, none⟩) 0 c]).run P w = .ok (.tuple #[]) w := by simp [Builtin.clear_, run_underlying hu]
    unfold Oper.wp execOp
    simp only [ho, resolve, invoke, builtin, Sem.run_bind, Sem.run_pure, Result.andThen_ok, List.map_toArray, List.map_cons, List.map_nil, hx, hrun]
    exact hK _ _ ⟨[], rfl, ⟨h0, by simpa using hr, by simpa using hm, tt, by simpa using hb⟩, ⟨rfl, rfl, rfl, rfl, fun _ _ => rfl⟩⟩
  · obtain rfl := h1 hn0
    have hlen : (Builtin.zeroCells Z.cells n).toList.length = n * q.size := by rw [Array.length_toList, size_zeroCells, hzs]
    have hones : ∀ u ∈ (Builtin.zeroCells Z.cells n).toList, u.oneCell' = true := fun u hu => by
      unfold Builtin.zeroCells at hu
      simp only [Array.toList_map, List.mem_map] at hu
      obtain ⟨k, hk, rfl⟩ := hu
      refine hone _ ?_
      have hlt : k % Z.cells.size < Z.cells.size := Nat.mod_lt _ (by omega)
      rw [getElem!_pos Z.cells _ hlt]
      exact Array.getElem_mem_toList hlt
    obtain ⟨zs, z1, z2, z3⟩ := rows_of (s := q.size) n _ hlen
    have hst := run_storeCells_at P B (lo * q.size) tt (Builtin.zeroCells Z.cells n).toList 0 _ w hb (by rw [List.size_toArray, flat_len hr, hlen, Nat.add_zero, ← Nat.add_mul]; exact Nat.mul_le_mul_right _ hn) hones
    simp only [Nat.add_zero] at hst
    have hcs : R.flatten.toArray.toList.take (lo * q.size) ++ (Builtin.zeroCells Z.cells n).toList ++ R.flatten.toArray.toList.drop (lo * q.size + (Builtin.zeroCells Z.cells n).toList.length) = (R.take lo ++ (zs ++ R.drop (lo + n))).flatten := by
      rw [hlen, ← Nat.add_mul, flat_take lo hr, flat_drop (lo + n) hr, ← z3]
      simp
    rw [hcs] at hst
    have hrun : (Builtin.clear_ #[t] o.type #[.slice (some ⟨B, lo * q.size, none⟩) n c]).run P w = .ok (.tuple #[]) (w.setRow B (R.take lo ++ (zs ++ R.drop (lo + n))).flatten.toArray) := by
      cases n with
      | zero => exact absurd rfl hn0
      | succ n => simp [Builtin.clear_, run_underlying hu, zeroValue, typeInfo, hi, hz, hst]
    unfold Oper.wp execOp
    simp only [ho, resolve, invoke, builtin, Sem.run_bind, Sem.run_pure, Result.andThen_ok, List.map_toArray, List.map_cons, List.map_nil, hx, hrun]
    refine hK _ _ ⟨zs, z1, ⟨h0, fun r hr' => ?_, ?_, tt, setRow_heap w B _ _ tt _ hb⟩, only_setRow w B _⟩
    · rcases List.mem_append.1 hr' with h | h
      · exact hr r (List.mem_of_mem_take h)
      · rcases List.mem_append.1 h with h | h
        · exact z2 r h
        · exact hr r (List.mem_of_mem_drop h)
    · rw [List.length_append, List.length_append, List.length_take, List.length_drop, z1]
      omega
/-- A copy into a part. -/
theorem dx_cpV {t t' s B lo n c o1 : Nat} {x y : Operand} {v2 : Value} {R news : List (List Value)} {L : List Nat} (ho : o.op = .call { callee := .builtin .copy, args := #[x, y], argTypes := #[t, t'] }) (ht : sliceB P t s = true) (hx : ev f x = some (.slice (some ⟨B, o1, none⟩) n c)) (h1 : n ≠ 0 → o1 = lo * s) (hy : ev f y = some v2) (hR : RwB s w B R) (h2 : RdF s L w v2 news) (hone : ∀ r ∈ news.take n, ∀ u ∈ r, u.oneCell' = true) (hn : lo + n ≤ R.length) (hw : wantF ops o f = some true := by rfl) :
    DR P ops o N f w fun u W => u = .int .i64 (min news.length n : Nat) ∧ RwB s W B (R.take lo ++ (news.take n ++ R.drop (lo + min news.length n))) ∧ Only B w W := fun a ha => by
  obtain ⟨e, hu, hs⟩ := of_sliceB ht
  have hx := ha.ev hx
  have hy := ha.ev hy
  obtain ⟨h0, hr, hm, tt, hb⟩ := hR
  obtain ⟨_, hl2, a2, cap2, rfl, hd1, hd2, hd3, hd4⟩ := h2
  cases hi : P.info? e with
  | none => rw [hi] at hs; cases hs
  | some q =>
    have hq : q.size = s := by simpa [hi] using hs
    subst hq
    refine Does.of_wp (wantF_of ha hw) fun K hK => ?_
    have hl3 : ∀ r ∈ news.take n, r.length = q.size := fun r hr' => hl2 r (List.mem_of_mem_take hr')
    have hlen : (news.take n).flatten.length = min news.length n * q.size := by rw [flat_len hl3, List.length_take, Nat.min_comm]
    have hk : Nat.min news.length n = min news.length n := rfl
    by_cases hz : min news.length n = 0
    · have hnil : news.take n = [] := by
        rcases Nat.eq_zero_or_pos n with h | h
        · rw [h]; rfl
        · have : news.length = 0 := by omega
          rw [List.length_eq_zero_iff.1 this, List.take_nil]
      have hf : (Builtin.firstCells q.size 0 (.slice a2 news.length cap2)).run P w = .ok #[] w := by
        cases a2 with
        | none => simp [Builtin.firstCells]
        | some b => exact run_firstCells_some (P := P) w q.size 0 b news.length cap2 [] (by simp) (fun j u hj => by simp at hj)
      unfold Oper.wp execOp
      simp only [ho, resolve, invoke, builtin, Sem.run_bind, Sem.run_pure, Result.andThen_ok, List.map_toArray, List.map_cons, List.map_nil, hx, hy, Builtin.copy_, run_underlying hu, List.getElem?_toArray, List.getElem?_cons_zero, List.getElem?_cons_succ, Builtin.lenOf, hk, hz, sizeOf, typeInfo, run_program, hi, hf, storeCells]
      refine hK _ _ ⟨by rw [hz]; rfl, ⟨h0, by rw [hnil, hz]; simpa using hr, by rw [hnil, hz]; simpa using hm, tt, by rw [hnil, hz]; simpa using hb⟩, ⟨rfl, rfl, rfl, rfl, fun _ _ => rfl⟩⟩
    · have hne : news ≠ [] := fun e => hz (by rw [e]; simp)
      obtain rfl := h1 (by omega)
      obtain ⟨X, o0, rfl, hX, hc⟩ := hd4 hne
      have hf := run_firstCells_some (P := P) w q.size (min news.length n) ⟨X, o0, none⟩ news.length cap2 (news.take n).flatten hlen (fun j u hj => by
        rw [addr_at]
        refine hc j u ?_
        rw [← flat_take n hl2, List.getElem?_take] at hj
        split at hj
        · exact hj
        · cases hj)
      have hst := run_storeCells_at P B (lo * q.size) tt (news.take n).flatten 0 _ w hb (by rw [List.size_toArray, flat_len hr, hlen, Nat.add_zero, ← Nat.add_mul]; exact Nat.mul_le_mul_right _ (by omega)) (fun u hu' => by
        obtain ⟨r, hr', hur⟩ := List.mem_flatten.1 hu'
        exact hone r hr' u hur)
      simp only [Nat.add_zero] at hst
      have hcs : R.flatten.toArray.toList.take (lo * q.size) ++ (news.take n).flatten ++ R.flatten.toArray.toList.drop (lo * q.size + (news.take n).flatten.length) = (R.take lo ++ (news.take n ++ R.drop (lo + min news.length n))).flatten := by
        rw [hlen, ← Nat.add_mul, flat_take lo hr, flat_drop (lo + min news.length n) hr]
        simp
      rw [hcs] at hst
      unfold Oper.wp execOp
      simp only [ho, resolve, invoke, builtin, Sem.run_bind, Sem.run_pure, Result.andThen_ok, List.map_toArray, List.map_cons, List.map_nil, hx, hy, Builtin.copy_, run_underlying hu, List.getElem?_toArray, List.getElem?_cons_zero, List.getElem?_cons_succ, Builtin.lenOf, hk, sizeOf, typeInfo, run_program, hi, hf, hst]
      refine hK _ _ ⟨rfl, ⟨h0, fun r hr' => ?_, ?_, tt, setRow_heap w B _ _ tt _ hb⟩, only_setRow w B _⟩
      · rcases List.mem_append.1 hr' with h | h
        · exact hr r (List.mem_of_mem_take h)
        · rcases List.mem_append.1 h with h | h
          · exact hl3 r h
          · exact hr r (List.mem_of_mem_drop h)
      · rw [List.length_append, List.length_append, List.length_take, List.length_drop, List.length_take]
        omega
end
-- contracts of what writes to a block that it is given
/-- Of what was there just this block may have changed. -/
structure Chg (B : Nat) (w w' : World) : Prop where
  os : w'.os = w.os
  tape : w'.tape = w.tape
  output : w'.output = w.output
  size : w.heap.size ≤ w'.heap.size
  block : ∀ k, k < w.heap.size → k ≠ B → w'.heap[k]? = w.heap[k]?
theorem Chg.refl (B : Nat) (w : World) : Chg B w w := ⟨rfl, rfl, rfl, Nat.le_refl _, fun _ _ _ => rfl⟩
theorem Chg.thenB {B : Nat} {w W W' : World} (h : Chg B w W) (b : Below W.heap.size W W') : Chg B w W' :=
  ⟨by rw [b.os, h.os], by rw [b.tape, h.tape], by rw [b.output, h.output], Nat.le_trans h.size b.size, fun k hk hn => by rw [b.block k (Nat.lt_of_lt_of_le hk h.size), h.block k hk hn]⟩
theorem Chg.only {B C : Nat} {w W W' : World} (h : Chg B w W) (o : Only C W W') (hC : C = B ∨ w.heap.size ≤ C) : Chg B w W' :=
  ⟨by rw [o.os, h.os], by rw [o.tape, h.tape], by rw [o.output, h.output], by rw [o.size]; exact h.size, fun k hk hn => by rw [o.block k (by omega), h.block k hk hn]⟩
theorem Chg.grow {B C C' : Nat} {w W W' : World} (h : Chg B w W) (g : GrowB C C' W W') (hC : C = B ∨ w.heap.size ≤ C) : Chg B w W' :=
  ⟨by rw [g.os, h.os], by rw [g.tape, h.tape], by rw [g.output, h.output], Nat.le_trans h.size g.size, fun k hk hn => by rw [g.block k (Nat.lt_of_lt_of_le hk h.size) (by omega), h.block k hk hn]⟩
theorem Chg.growB {B B' : Nat} {w w' : World} (h : Chg B w w') (hB : B' = B ∨ w.heap.size ≤ B') : GrowB B B' w w' := ⟨h.os, h.tape, h.output, h.size, h.block, hB⟩
/-- The call returns, with this; of what was there just this block may have changed. -/
def CW (P : Program) (F : FuncId) (args : List Value) (w : World) (B : Nat) (R : Value → World → Prop) : Prop := Calls P F args.toArray w fun e w' => ∃ v, e = .returned v ∧ R v w' ∧ Chg B w w'
def finW (P : Program) (fn : Func) (R : Value → World → Prop) (B : Nat) (w0 : World) (a : Act) (w : World) : Prop := a.defers = [] ∧ ∃ v, (results fn a.tmps).run P w = .ok v w ∧ R v w ∧ Chg B w0 w
theorem CW.mono {P : Program} {F : FuncId} {args : List Value} {w : World} {B : Nat} {R R' : Value → World → Prop} (h : CW P F args w B R) (hr : ∀ v w', Chg B w w' → R v w' → R' v w') : CW P F args w B R' :=
  Calls.mono h fun e w' ⟨v, he, hR, hb⟩ => ⟨v, he, hr v w' hb hR, hb⟩
theorem cw_enter {P : Program} {F : FuncId} {fn : Func} {body : Code} {w : World} {B : Nat} {R : Value → World → Prop} {N : Nat} {vs : List Value} (hf : P.funcs[F]? = some fn) (hb : fn.body = some body) (hn : fn.ntmps = N) (hN : decide (vs.length ≤ N) = true) {f : Fl}
    (hfr : (vs.zipIdx.map fun p => (p.2, p.1)) = f) (h : ∀ Q : Exit → Act → World → Prop, (∀ {a W}, finW P fn R B w a W → Q .ret a W) → (∀ {a W}, finW P fn R B w a W → Q .normal a W) → WC P N body Q f w) : CW P F vs w B R :=
  calls_sx vs f hf hb hn hN hfr.symm (h _ (fun {a W} ⟨h1, v, h2, h3, h4⟩ => ⟨h1, v, h2, v, rfl, h3, h4⟩) (fun {a W} ⟨h1, v, h2, h3, h4⟩ => ⟨h1, v, h2, v, rfl, h3, h4⟩))
section
variable {P : Program} {ops : Array Oper} {o : Oper} {N : Nat} {f : Fl} {w : World} {R : Value → World → Prop} {fn : Func}
theorem cw_ret1 {B : Nat} {w0 : World} {r0 : ResultVar} {v0 : Value} (h : fn.results = #[r0]) (h0 : RV P f w r0 v0) (hR : R v0 w) (hb : Chg B w0 w) {a : Act} (ha : Fr N a f) : finW P fn R B w0 a w := by
  obtain ⟨x, v, hv, v', he, h1, h2⟩ := fn1 (Rr := fun e w' => ∃ v, e = .returned v ∧ R v w' ∧ Chg B w0 w') h h0 ⟨_, rfl, hR, hb⟩ ha
  cases he
  exact ⟨x, _, hv, h1, h2⟩
/-- A call of such a one, that gives a slice of one's own again. -/
theorem dx_cwO {s B : Nat} {rs : List (List Value)} {F : FuncId} {fn : Func} {xs : List Operand} {ts : Array TypeId} {vs : List Value} (ho : o.op = .call { callee := .value (.func F), args := xs.toArray, argTypes := ts }) (hf : P.funcs[F]? = some fn) (hn : (fn.name == "runtime.NumGoroutine") = false) (hb : fn.body.isNone = false)
    (hx : evl f xs = some vs) (hc : CW P F vs w B fun v W => ∃ B', OwS s W v rs B' ∧ (B' = B ∨ w.heap.size ≤ B')) (hw : wantF ops o f = some true := by rfl) : DR P ops o N f w (GrO s B w rs) :=
  dx_call (cap := #[]) ho rfl hf hn hb hx (by rw [Array.append_empty]; exact Calls.mono hc fun e w' ⟨v, he, ⟨B', h1, h2⟩, h3⟩ => ⟨v, he, B', h1, h3.growB h2⟩) hw
theorem mem_tail {α : Type} {rs sp : List α} {j : Nat} {r : α} (hj : j ≤ rs.length) (h : r ∈ ((rs ++ sp).drop j).take (rs.length - j)) : r ∈ rs := by
  rw [List.drop_append_of_le_length hj, List.take_append_of_le_length (by rw [List.length_drop]; omega)] at h
  exact List.mem_of_mem_drop (List.mem_of_mem_take h)
theorem mem_tail2 {α : Type} {rs sp : List α} {j a b : Nat} {r : α} (hj : j ≤ rs.length) (hb : b = rs.length - j) (hab : b ≤ a) (h : r ∈ (((rs ++ sp).drop j).take a).take b) : r ∈ rs := by
  rw [List.take_take, show min b a = rs.length - j by omega] at h
  exact mem_tail hj h
/-- What is left of rows when some are deleted. -/
theorem del_rows {rs sp zs : List (List Value)} {i j : Nat} (hij : i ≤ j) (hj : j ≤ rs.length) (hz : zs.length = j - i) :
    let R1 := (rs ++ sp).take i ++ ((((rs ++ sp).drop j).take (rs.length - j)) ++ (rs ++ sp).drop (i + (rs.length - j)))
    R1.take (i + (rs.length - j)) ++ (zs ++ R1.drop (i + (rs.length - j) + (j - i))) = (rs.take i ++ rs.drop j) ++ (zs ++ sp) := by
  have e1 : (rs ++ sp).take i = rs.take i := List.take_append_of_le_length (by omega)
  have e2 : ((rs ++ sp).drop j).take (rs.length - j) = rs.drop j := by
    rw [List.drop_append_of_le_length hj, List.take_append_of_le_length (by rw [List.length_drop]; omega), List.take_of_length_le (by rw [List.length_drop]; omega)]
  have l1 : (rs.take i).length = i := by rw [List.length_take]; omega
  have l2 : (rs.drop j).length = rs.length - j := List.length_drop
  simp only [e1, e2]
  have l3 : (rs.take i ++ rs.drop j).length = i + (rs.length - j) := by rw [List.length_append, l1, l2]
  have e3 : rs.take i ++ (rs.drop j ++ (rs ++ sp).drop (i + (rs.length - j))) = (rs.take i ++ rs.drop j) ++ (rs ++ sp).drop (i + (rs.length - j)) := (List.append_assoc _ _ _).symm
  have e4 : ((rs.take i ++ rs.drop j) ++ (rs ++ sp).drop (i + (rs.length - j))).take (i + (rs.length - j)) = rs.take i ++ rs.drop j := by
    rw [List.take_append_of_le_length (by omega), List.take_of_length_le (by omega)]
  have e5 : ((rs.take i ++ rs.drop j) ++ (rs ++ sp).drop (i + (rs.length - j))).drop (i + (rs.length - j) + (j - i)) = sp := by
    rw [List.drop_append, List.drop_eq_nil_of_le (by omega), List.nil_append, l3, List.drop_drop, show i + (rs.length - j) + (i + (rs.length - j) + (j - i) - (i + (rs.length - j))) = rs.length by omega]
    exact List.drop_left
  rw [e3, e4, e5]
end
end Go.Proofs.YthllidchoodofaaGreatDoor
namespace Go.Proofs.YthllidchoodofaaGreatDoor
open Go.RowKit
set_option linter.unusedVariables false
set_option linter.unusedSimpArgs false
set_option maxRecDepth 8000

end Go.Proofs.YthllidchoodofaaGreatDoor
namespace Go.Proofs.YthllidchoodofaaGreatDoor
open Go.RowKit
set_option linter.unusedVariables false
set_option linter.unusedSimpArgs false
/-- A text's byte. -/
def atS (s : ByteArray) (k : Nat) : Int := (s.data[k]?.getD 0).toNat
theorem atS_lo (s : ByteArray) (k : Nat) : 0 ≤ atS s k ∧ atS s k ≤ 255 := by
  unfold atS
  have := (s.data[k]?.getD 0).toNat_lt
  omega
-- rows that encode
theorem oc_rowsX {α : Type} {enc : α → List Value} (h : ∀ x, ∀ u ∈ enc x, u.oneCell' = true) (xs : List α) : ∀ r ∈ xs.map enc, ∀ u ∈ r, u.oneCell' = true := fun r hr => by
  obtain ⟨x, _, rfl⟩ := List.mem_map.1 hr
  exact h x
theorem at_mapX {α : Type} {enc : α → List Value} {xs : List α} {i : Nat} {x : α} (h : xs[i]? = some x) : (xs.map enc)[i]? = some (enc x) := by rw [List.getElem?_map, h]; rfl
/-- The first place of one of this kind. -/
def idxX {α : Type} (p : α → Bool) : List α → Int → Int
  | [], _ => -1
  | x :: l, i => if p x then i else idxX p l (i + 1)
theorem idxX_step {α : Type} {p : α → Bool} {xs : List α} {i : Nat} {x : α} (h : xs[i]? = some x) (hx : p x = false) : idxX p (xs.drop i) i = idxX p (xs.drop (i + 1)) ((i + 1 : Nat) : Int) := by
  obtain ⟨hl, he⟩ := List.getElem?_eq_some_iff.1 h
  rw [List.drop_eq_getElem_cons hl, he, idxX, hx]
  simp
theorem idxX_here {α : Type} {p : α → Bool} {xs : List α} {i : Nat} {x : α} (h : xs[i]? = some x) (hx : p x = true) : idxX p (xs.drop i) i = i := by
  obtain ⟨hl, he⟩ := List.getElem?_eq_some_iff.1 h
  rw [List.drop_eq_getElem_cons hl, he, idxX, hx]
  simp
theorem idxX_end {α : Type} {p : α → Bool} {xs : List α} {i : Nat} (h : ¬ (i : Int) < xs.length) : idxX p (xs.drop i) i = -1 := by
  rw [List.drop_eq_nil_of_le (by omega)]; rfl
theorem idxX_any {α : Type} {p : α → Bool} : ∀ (xs : List α) (i : Int), 0 ≤ i → decide (0 ≤ idxX p xs i) = xs.any p
  | [], i, _ => by simp [idxX]
  | x :: l, i, h => by
    unfold idxX
    cases hx : p x with
    | true => simp [hx, h]
    | false => simp [hx]; have := idxX_any (p := p) l (i + 1) (by omega); simpa using this
section
variable {P : Program} {ops : Array Oper} {o : Oper} {N : Nat} {f : Fl} {w : World}
theorem dx_lenX {α : Type} {enc : α → List Value} {xs : List α} {t s s' : Nat} {L : List Nat} {x : Operand} {v : Value} (ho : o.op = .call { callee := .builtin .len, args := #[x], argTypes := #[t] }) (ht : sliceB P t s' = true) (hx : ev f x = some v) (hr : RdF s L w v (xs.map enc)) (hw : wantF ops o f = some true := by rfl) : DV P ops o N f w (.int .i64 (xs.length : Int)) := by
  have := dx_lenF (N := N) ho ht hx hr hw
  rwa [List.length_map] at this
theorem dx_at {t : TypeId} {x y : Operand} {s : ByteArray} {K : IntKind} {i : Int} (k : Nat) (ho : o.op = .index t x y) (ht : P.underlying t = some .string) (hx : ev f x = some (.string s)) (hy : ev f y = some (.int K i)) (hi : i = (k : Int)) (hk : k < s.size) (hw : wantF ops o f = some true := by rfl) : DV P ops o N f w (.int .u8 (atS s k)) := fun a ha => by
  subst hi
  have hx := ha.ev hx
  have hy := ha.ev hy
  have hk' : k < s.data.size := hk
  have e : s[k]? = some (s.data[k]?.getD 0) := by
    rw [getElem?_pos s k hk, Array.getElem?_eq_getElem hk']
    rfl
  refine Does.pure (wantF_of ha hw) _ ?_ ⟨rfl, rfl⟩
  unfold execOp
  simp only [ho, hx, hy, Instr.index, asIntOf, Sem.run_bind, Sem.run_pure, Result.andThen_ok, run_underlying ht]
  have h0 : (0 : Int) ≤ (k : Int) := by omega
  simp [h0, e, atS]
end
end Go.Proofs.YthllidchoodofaaGreatDoor
namespace Go.Proofs.YthllidchoodofaaGreatDoor
open Go.RowKit
set_option linter.unusedVariables false
set_option linter.unusedSimpArgs false
set_option maxRecDepth 8000

/-- 1 to 64 bytes from 33 to 126? -/
def okB (s : ByteArray) (k : Nat) : Bool := decide (33 ≤ atS s k) && decide (atS s k ≤ 126)
def wordB (s : ByteArray) : Bool := decide (1 ≤ s.size) && decide (s.size ≤ 64) && (List.range s.size).all (okB s)
theorem word_t {s : ByteArray} (h1 : 1 ≤ s.size) (h2 : s.size ≤ 64) (h : ∀ k, k < s.size → okB s k = true) : wordB s = true := by
  unfold wordB
  simp [h1, h2]
  exact h
theorem word_f {s : ByteArray} (h : s.size < 1 ∨ 64 < s.size ∨ ∃ k, k < s.size ∧ okB s k = false) : wordB s = false := by
  rcases h with h | h | ⟨k, hk, h⟩
  · have : ¬ 1 ≤ s.size := by omega
    simp [wordB, this]
  · have : ¬ s.size ≤ 64 := by omega
    simp [wordB, this]
  · unfold wordB
    rw [Bool.and_eq_false_iff]
    refine .inr (List.all_eq_false.2 ⟨k, List.mem_range.2 hk, by simp [h]⟩)
set_option maxHeartbeats 1000000 in
theorem word_v (s : ByteArray) (w : World) (L : List Nat) (hL : LL L w)  : CV Tryz.prog 39 [.string s] w fun v W => v = .bool (wordB s) := by
  refine cv_enter (N := 28) (f := [(0, .string s)]) Tryz.func39 rfl rfl rfl rfl fun Q hQ hE => ?_
  have hB := Below.refl w.heap.size w
  refine WC.seq fun K1 hK1 => ?_
  refine WC.region ?_
  refine WL.val (dx_assign rfl rfl) rfl rfl ?_
  refine WL.nil ?_
  refine hK1 ?_
  refine WC.seq fun K2 hK2 => ?_
  refine WC.seq fun K3 hK3 => ?_
  refine WC.region ?_
  refine WL.val (dx_move rfl rfl) rfl rfl ?_
  refine WL.val (dx_lenT rfl Tryz.underlying9 rfl) rfl rfl ?_
  refine WL.val (dx_lss rfl rfl rfl) rfl rfl ?_
  refine WL.val (dx_move rfl rfl) rfl rfl ?_
  refine WL.split 7 rfl (fun g4 => ?_) (fun g4 => ?_)
  ·
    replace g4 := of_decide_eq_true g4
    refine WL.off rfl rfl rfl ?_
    refine WL.off rfl rfl rfl ?_
    refine WL.off rfl rfl rfl ?_
    refine WL.val (dx_pick rfl rfl rfl) rfl rfl ?_
    refine WL.nil ?_
    refine hK3 ?_
    refine WC.condT rfl ?_
    refine WC.seq fun K5 hK5 => ?_
    refine WC.region ?_
    refine WL.val (dx_assign rfl rfl) rfl rfl ?_
    refine WL.nil ?_
    refine hK5 ?_
    refine WC.ret fun a_ ha_ => ?_
    exact hQ (cv_ret1 rfl (.tmp rfl) (by rw [word_f (by first | (refine .inl ?_; omega) | (refine .inr (.inl ?_); omega) | exact .inr (.inr ⟨i, by omega, by unfold okB; rw [Bool.and_eq_false_iff, decide_eq_false_iff_not, decide_eq_false_iff_not]; omega⟩))]) hB ha_)
  ·
    replace g4 := of_decide_eq_false g4
    refine WL.val (dx_move rfl rfl) rfl rfl ?_
    refine WL.val (dx_lenT rfl Tryz.underlying9 rfl) rfl rfl ?_
    refine WL.val (dx_gtr rfl rfl rfl) rfl rfl ?_
    refine WL.val (dx_pick rfl rfl rfl) rfl rfl ?_
    refine WL.nil ?_
    refine hK3 ?_
    refine WC.cond rfl (fun c6 => ?_) (fun c6 => ?_)
    ·
      replace c6 := of_decide_eq_true c6
      refine WC.seq fun K7 hK7 => ?_
      refine WC.region ?_
      refine WL.val (dx_assign rfl rfl) rfl rfl ?_
      refine WL.nil ?_
      refine hK7 ?_
      refine WC.ret fun a_ ha_ => ?_
      exact hQ (cv_ret1 rfl (.tmp rfl) (by rw [word_f (by first | (refine .inl ?_; omega) | (refine .inr (.inl ?_); omega) | exact .inr (.inr ⟨i, by omega, by unfold okB; rw [Bool.and_eq_false_iff, decide_eq_false_iff_not, decide_eq_false_iff_not]; omega⟩))]) hB ha_)
    ·
      replace c6 := of_decide_eq_false c6
      refine WC.skip ?_
      refine hK2 ?_
      refine WC.seq fun K8 hK8 => ?_
      refine WC.seq fun K9 hK9 => ?_
      refine WC.region ?_
      refine WL.val (dx_move rfl rfl) rfl rfl ?_
      refine WL.val (dx_lenT rfl Tryz.underlying9 rfl) rfl rfl ?_
      refine WL.val (dx_move rfl rfl) rfl rfl ?_
      refine WL.nil ?_
      refine hK9 ?_
      refine WC.block ?_
      refine WC.loop (fun (i : Nat) => [(0, .string s), (13, .int .i64 (s.size : Int)), (14, .int .i64 (i : Int))]) (fun (i : Nat) W => i ≤ s.size ∧ (∀ k, k < i → okB s k = true) ∧ Below w.heap.size w W ∧ LL (L) W) (fun (i : Nat) => s.size - i) 0 (by repeat first | exact trivial | exact And.intro rfl trivial | refine And.intro rfl ?_ | refine And.intro (congrArg (fun z : Int => some (Value.int .i64 z)) (by omega)) ?_) ⟨Nat.zero_le _, (fun k hk => by omega), hB, hL⟩ ?_
      clear hB hL
      rintro K10 i W11 ⟨hi, hv, hB, hL⟩ hK10
      refine WC.seq fun K12 hK12 => ?_
      refine WC.region ?_
      refine WL.val (dx_lss rfl rfl rfl) rfl rfl ?_
      refine WL.nil ?_
      refine hK12 ?_
      refine WC.seq fun K13 hK13 => ?_
      refine WC.cond rfl (fun c14 => ?_) (fun c14 => ?_)
      ·
        replace c14 := of_decide_eq_true c14
        refine WC.skip ?_
        refine hK13 ?_
        refine WC.seq fun K15 hK15 => ?_
        refine WC.block ?_
        refine WC.seq fun K16 hK16 => ?_
        refine WC.region ?_
        refine WL.val (dx_move rfl rfl) rfl rfl ?_
        refine WL.val (dx_assign rfl rfl) rfl rfl ?_
        refine WL.nil ?_
        refine hK16 ?_
        refine WC.seq fun K17 hK17 => ?_
        refine WC.region ?_
        refine WL.val (dx_move rfl rfl) rfl rfl ?_
        refine WL.val (dx_move rfl rfl) rfl rfl ?_
        refine WL.val (dx_at i rfl Tryz.underlying9 rfl rfl (by omega) (by omega)) rfl rfl ?_
        refine WL.val (dx_lss rfl rfl rfl) rfl rfl ?_
        refine WL.val (dx_move rfl rfl) rfl rfl ?_
        refine WL.split 21 rfl (fun g18 => ?_) (fun g18 => ?_)
        ·
          replace g18 := of_decide_eq_true g18
          refine WL.off rfl rfl rfl ?_
          refine WL.off rfl rfl rfl ?_
          refine WL.off rfl rfl rfl ?_
          refine WL.off rfl rfl rfl ?_
          refine WL.val (dx_pick rfl rfl rfl) rfl rfl ?_
          refine WL.nil ?_
          refine hK17 ?_
          refine WC.condT rfl ?_
          refine WC.seq fun K19 hK19 => ?_
          refine WC.region ?_
          refine WL.val (dx_assign rfl rfl) rfl rfl ?_
          refine WL.nil ?_
          refine hK19 ?_
          refine WC.ret fun a_ ha_ => ?_
          exact hQ (cv_ret1 rfl (.tmp rfl) (by rw [word_f (by first | (refine .inl ?_; omega) | (refine .inr (.inl ?_); omega) | exact .inr (.inr ⟨i, by omega, by unfold okB; rw [Bool.and_eq_false_iff, decide_eq_false_iff_not, decide_eq_false_iff_not]; omega⟩))]) hB ha_)
        ·
          replace g18 := of_decide_eq_false g18
          refine WL.val (dx_move rfl rfl) rfl rfl ?_
          refine WL.val (dx_move rfl rfl) rfl rfl ?_
          refine WL.val (dx_at i rfl Tryz.underlying9 rfl rfl (by omega) (by omega)) rfl rfl ?_
          refine WL.val (dx_gtr rfl rfl rfl) rfl rfl ?_
          refine WL.val (dx_pick rfl rfl rfl) rfl rfl ?_
          refine WL.nil ?_
          refine hK17 ?_
          refine WC.cond rfl (fun c20 => ?_) (fun c20 => ?_)
          ·
            replace c20 := of_decide_eq_true c20
            refine WC.seq fun K21 hK21 => ?_
            refine WC.region ?_
            refine WL.val (dx_assign rfl rfl) rfl rfl ?_
            refine WL.nil ?_
            refine hK21 ?_
            refine WC.ret fun a_ ha_ => ?_
            exact hQ (cv_ret1 rfl (.tmp rfl) (by rw [word_f (by first | (refine .inl ?_; omega) | (refine .inr (.inl ?_); omega) | exact .inr (.inr ⟨i, by omega, by unfold okB; rw [Bool.and_eq_false_iff, decide_eq_false_iff_not, decide_eq_false_iff_not]; omega⟩))]) hB ha_)
          ·
            replace c20 := of_decide_eq_false c20
            refine WC.skip ?_
            refine hK15 ?_
            refine WC.region ?_
            refine WL.val (dx_add (r := (i : Int) + 1) rfl rfl rfl (wrap64_id (by omega))) rfl rfl ?_
            refine WL.val (dx_move rfl rfl) rfl rfl ?_
            refine WL.nil ?_
            exact hK10 (i + 1) ⟨(by omega), (fun k hk => by rcases Nat.lt_or_ge k i with h | h; exact hv k h; have e : k = i := (by omega); subst e; unfold okB; simp; omega), hB, hL⟩ (by omega) (by repeat first | exact trivial | exact And.intro rfl trivial | refine And.intro rfl ?_ | refine And.intro (congrArg (fun z : Int => some (Value.int .i64 z)) (by omega)) ?_)
      ·
        replace c14 := of_decide_eq_false c14
        refine WC.exit ?_
        refine hK8 ?_
        refine WC.seq fun K22 hK22 => ?_
        refine WC.region ?_
        refine WL.val (dx_assign rfl rfl) rfl rfl ?_
        refine WL.nil ?_
        refine hK22 ?_
        refine WC.ret fun a_ ha_ => ?_
        exact hQ (cv_ret1 rfl (.tmp rfl) (by rw [word_t (by omega) (by omega) (fun k hk => hv k (by omega))]) hB ha_)

set_option maxHeartbeats 1000000 in
theorem number_v (n l : Int) (w : World) (L : List Nat) (hL : LL L w)  : CV Tryz.prog 25 [.int .i64 n, .int .i64 l] w fun v W => v = .bool (decide (l ≤ n) && decide (n ≤ 1099511627776)) := by
  refine cv_enter (N := 12) (f := [(0, .int .i64 n), (1, .int .i64 l)]) Tryz.func25 rfl rfl rfl rfl fun Q hQ hE => ?_
  have hB := Below.refl w.heap.size w
  refine WC.seq fun K1 hK1 => ?_
  refine WC.region ?_
  refine WL.val (dx_assign rfl rfl) rfl rfl ?_
  refine WL.nil ?_
  refine hK1 ?_
  refine WC.seq fun K2 hK2 => ?_
  refine WC.region ?_
  refine WL.val (dx_move rfl rfl) rfl rfl ?_
  refine WL.val (dx_move rfl rfl) rfl rfl ?_
  refine WL.val (dx_geq rfl rfl rfl) rfl rfl ?_
  refine WL.val (dx_move rfl rfl) rfl rfl ?_
  refine WL.split 8 rfl (fun g3 => ?_) (fun g3 => ?_)
  ·
    replace g3 := of_decide_eq_true g3
    refine WL.val (dx_move rfl rfl) rfl rfl ?_
    refine WL.val (dx_leq rfl rfl rfl) rfl rfl ?_
    refine WL.val (dx_pick rfl rfl rfl) rfl rfl ?_
    refine WL.val (dx_assign rfl rfl) rfl rfl ?_
    refine WL.nil ?_
    refine hK2 ?_
    refine WC.ret fun a_ ha_ => ?_
    exact hQ (cv_ret1 rfl (.tmp rfl) (by simp [*]) hB ha_)
  ·
    replace g3 := of_decide_eq_false g3
    refine WL.off rfl rfl rfl ?_
    refine WL.off rfl rfl rfl ?_
    refine WL.val (dx_pick rfl rfl rfl) rfl rfl ?_
    refine WL.val (dx_assign rfl rfl) rfl rfl ?_
    refine WL.nil ?_
    refine hK2 ?_
    refine WC.ret fun a_ ha_ => ?_
    exact hQ (cv_ret1 rfl (.tmp rfl) (by simp [*]) hB ha_)

/-- An address: medium and where; the order of two. -/
def lessA (a b : ByteArray × ByteArray) : Bool := if a.1 = b.1 then sless a.2 b.2 else sless a.1 b.1
end Go.Proofs.YthllidchoodofaaGreatDoor
namespace Go.Proofs.YthllidchoodofaaGreatDoor
open Go.RowKit
set_option linter.unusedVariables false
set_option linter.unusedSimpArgs false
set_option maxRecDepth 8000

/-- A bond: who (medium, where), whose, since. -/
abbrev BondX := (ByteArray × ByteArray) × ByteArray × Int
def encB (p : BondX) : List Value := [.string p.1.1, .string p.1.2, .string p.2.1, .int .i64 p.2.2]
theorem oc_B (p : BondX) : ∀ u ∈ encB p, u.oneCell' = true := oc_cons rfl (oc_cons rfl (oc_cons rfl (oc_cons rfl oc_nil)))
end Go.Proofs.YthllidchoodofaaGreatDoor
namespace Go.Proofs.YthllidchoodofaaGreatDoor
open Go.RowKit
set_option linter.unusedVariables false
section
variable {α : Type} {g : α → Bool} {r : α → α → Bool} {n : Nat}
def upL (r : α → α → Bool) : List α → Bool
  | a :: b :: l => r a b && upL r (b :: l)
  | _ => true
def rightL (n : Nat) (g : α → Bool) (r : α → α → Bool) (xs : List α) : Bool := decide (xs.length ≤ n) && (xs.all g && upL r xs)
theorem upL_t : ∀ (xs : List α), (∀ k a b, k + 1 < xs.length → xs[k]? = some a → xs[k + 1]? = some b → r a b = true) → upL r xs = true
  | [], _ => rfl
  | [a], _ => rfl
  | a :: b :: l, h => by
    unfold upL
    rw [h 0 a b (by simp) rfl rfl, Bool.true_and]
    exact upL_t (b :: l) fun k x y hk hx hy => h (k + 1) x y (by simpa using hk) (by simpa using hx) (by simpa using hy)
theorem upL_f : ∀ (xs : List α) (k : Nat) (a b : α), xs[k]? = some a → xs[k + 1]? = some b → r a b = false → upL r xs = false
  | [], k, a, b, h, _, _ => by simp at h
  | [x], k, a, b, _, h, _ => by simp at h
  | x :: y :: l, 0, a, b, h1, h2, h => by
    simp at h1 h2
    subst h1 h2
    simp [upL, h]
  | x :: y :: l, k + 1, a, b, h1, h2, h => by
    unfold upL
    rw [upL_f (y :: l) k a b (by simpa using h1) (by simpa using h2) h, Bool.and_false]
theorem right_t {xs : List α} (h : xs.length ≤ n) (hv : ∀ k a, k < xs.length → xs[k]? = some a → g a = true) (hu : ∀ k a b, k + 1 < xs.length → xs[k]? = some a → xs[k + 1]? = some b → r a b = true) : rightL n g r xs = true := by
  unfold rightL
  rw [decide_eq_true h, upL_t xs hu, Bool.and_true, Bool.true_and, List.all_eq_true]
  intro x hx
  obtain ⟨k, hk, rfl⟩ := List.getElem_of_mem hx
  exact hv k _ hk (List.getElem?_eq_getElem hk)
theorem right_f1 {xs : List α} (h : n < xs.length) : rightL n g r xs = false := by
  unfold rightL
  rw [decide_eq_false (by omega), Bool.false_and]
theorem right_f2 {xs : List α} {k : Nat} {a : α} (h : xs[k]? = some a) (ha : g a = false) : rightL n g r xs = false := by
  have : xs.all g = false := List.all_eq_false.2 ⟨a, List.mem_of_getElem? h, by simp [ha]⟩
  unfold rightL
  rw [this, Bool.false_and, Bool.and_false]
theorem right_f3 {xs : List α} {k i : Nat} {a b : α} (hk : xs[k]? = some a) (hi : xs[i]? = some b) (e : k + 1 = i) (h : r a b = false) : rightL n g r xs = false := by
  subst e
  unfold rightL
  rw [upL_f xs k a b hk hi h, Bool.and_false, Bool.and_false]
/-- The loop's facts, one step on. -/
theorem good_step {xs : List α} {i : Nat} {a : α} (h : ∀ k a, k < i → xs[k]? = some a → g a = true) (hi : xs[i]? = some a) (ha : g a = true) : ∀ k b, k < i + 1 → xs[k]? = some b → g b = true := fun k b hk hb => by
  rcases Nat.lt_or_ge k i with hl | hl
  · exact h k b hl hb
  · obtain rfl : k = i := by omega
    rw [hi] at hb
    cases hb
    exact ha
theorem up_step0 {xs : List α} {i : Nat} (hi : ¬ 0 < i) : ∀ k a b, k + 1 < i + 1 → xs[k]? = some a → xs[k + 1]? = some b → r a b = true := fun k a b hk _ _ => by omega
theorem up_step {xs : List α} {i j : Nat} {a b : α} (h : ∀ k a b, k + 1 < i → xs[k]? = some a → xs[k + 1]? = some b → r a b = true) (hj : xs[j]? = some a) (hi : xs[i]? = some b) (e : j + 1 = i) (hab : r a b = true) : ∀ k a b, k + 1 < i + 1 → xs[k]? = some a → xs[k + 1]? = some b → r a b = true := fun k x y hk hx hy => by
  rcases Nat.lt_or_ge (k + 1) i with hl | hl
  · exact h k x y hl hx hy
  · obtain rfl : k = j := by omega
    subst e
    rw [hj] at hx
    rw [hi] at hy
    cases hx
    cases hy
    exact hab
-- what a drawn test says: c: not good; d: there is one ahead
theorem not3 {a b c x y z : Bool} (h1 : a = !x) (h2 : b = (a || !y)) (h3 : c = (b || !z)) : c = !(x && (y && z)) := by
  subst h1 h2 h3
  cases x <;> cases y <;> cases z <;> rfl
theorem stepD {xs : List α} {i : Nat} {x y : α} {c d : Bool} (hv : ∀ k a, k < i → xs[k]? = some a → g a = true) (hu : ∀ k a b, k + 1 < i → xs[k]? = some a → xs[k + 1]? = some b → r a b = true) (hj : xs[i - 1]? = some y) (hi : xs[i]? = some x) (hc : c = !g x) (hd : d = (!c && decide (0 < (i : Int)))) (h1 : c = false) (h2 : (d && !r y x) = false) :
    (∀ k a, k < i + 1 → xs[k]? = some a → g a = true) ∧ (∀ k a b, k + 1 < i + 1 → xs[k]? = some a → xs[k + 1]? = some b → r a b = true) := by
  have hg : g x = true := by rw [h1] at hc; cases hx : g x <;> simp_all
  refine ⟨good_step hv hi hg, ?_⟩
  by_cases h0 : 0 < i
  · refine up_step hu hj hi (by omega) ?_
    have hd1 : d = true := by rw [hd, h1, decide_eq_true (by omega)]; rfl
    rw [hd1] at h2
    simpa using h2
  · exact up_step0 h0
theorem right_fD {xs : List α} {i : Nat} {x y : α} {c d : Bool} (hj : xs[i - 1]? = some y) (hi : xs[i]? = some x) (hc : c = !g x) (hd : d = (!c && decide (0 < (i : Int)))) (h : (c || (d && !r y x)) = true) : rightL n g r xs = false := by
  cases hx : g x with
  | false => exact right_f2 hi hx
  | true =>
    rw [hx] at hc
    subst hc
    simp only [Bool.not_true, Bool.not_false, Bool.true_and] at hd
    subst hd
    simp only [Bool.not_true, Bool.false_or, Bool.and_eq_true, decide_eq_true_eq, Bool.not_eq_true'] at h
    exact right_f3 hj hi (by omega) h.2
-- what it means
theorem right_iff {xs : List α} (ht : ∀ a b c, r a b = true → r b c = true → r a c = true) : rightL n g r xs = true ↔ xs.length ≤ n ∧ (∀ x ∈ xs, g x = true) ∧ xs.Pairwise (fun a b => r a b = true) := by
  have key : ∀ l : List α, upL r l = true ↔ l.Pairwise (fun a b => r a b = true) := by
    intro l
    induction l with
    | nil => simp [upL]
    | cons a l ih =>
      cases l with
      | nil => simp [upL]
      | cons b l =>
        rw [upL, Bool.and_eq_true, ih]
        constructor
        · rintro ⟨h1, h2⟩
          refine List.pairwise_cons.2 ⟨fun x hx => ?_, h2⟩
          rcases List.mem_cons.1 hx with rfl | hx
          · exact h1
          · exact ht _ _ _ h1 ((List.pairwise_cons.1 h2).1 x hx)
        · intro h
          exact ⟨(List.pairwise_cons.1 h).1 b (.head _), (List.pairwise_cons.1 h).2⟩
  unfold rightL
  rw [Bool.and_eq_true, Bool.and_eq_true, decide_eq_true_iff, List.all_eq_true, key]
end
theorem right_len {α : Type} {n : Nat} {g : α → Bool} {r : α → α → Bool} {xs : List α} (h : rightL n g r xs = true) : xs.length ≤ n := by
  unfold rightL at h
  simp only [Bool.and_eq_true, decide_eq_true_eq] at h
  exact h.1
-- the first place
theorem idxX_lt {α : Type} {p : α → Bool} : ∀ (xs : List α) (i : Int), idxX p xs i = -1 ∨ (i ≤ idxX p xs i ∧ idxX p xs i < i + xs.length)
  | [], i => .inl rfl
  | x :: l, i => by
    unfold idxX
    split
    · refine .inr ⟨by omega, by simp; omega⟩
    · rcases idxX_lt l (i + 1) with h | ⟨h1, h2⟩
      · exact .inl h
      · refine .inr ⟨by omega, by simp only [List.length_cons]; omega⟩
theorem idxX_is {α : Type} {p : α → Bool} : ∀ (xs : List α) (i : Int), 0 ≤ i → 0 ≤ idxX p xs i → ∃ k a, idxX p xs i = i + (k : Nat) ∧ xs[k]? = some a ∧ p a = true ∧ ∀ j b, j < k → xs[j]? = some b → p b = false
  | [], i, _, h => by simp [idxX] at h
  | x :: l, i, hi, h => by
    unfold idxX at h ⊢
    cases hx : p x with
    | true =>
      simp only [if_pos]
      exact ⟨0, x, by simp, rfl, hx, fun j b hj => absurd hj (by omega)⟩
    | false =>
      rw [hx] at h
      simp only [Bool.false_eq_true, if_false] at h ⊢
      obtain ⟨k, a, h1, h2, h3, h4⟩ := idxX_is l (i + 1) (by omega) h
      refine ⟨k + 1, a, by rw [h1]; omega, by simpa using h2, h3, fun j b hj hb => ?_⟩
      cases j with
      | zero => simp at hb; subst hb; exact hx
      | succ j => exact h4 j b (by omega) (by simpa using hb)
theorem idxX_no {α : Type} {p : α → Bool} : ∀ (xs : List α) (i : Int), 0 ≤ i → idxX p xs i < 0 → ∀ a ∈ xs, p a = false
  | [], i, _, _, a, ha => by cases ha
  | x :: l, i, hi, h, a, ha => by
    unfold idxX at h
    cases hx : p x with
    | true => rw [hx] at h; simp at h; omega
    | false =>
      rw [hx] at h
      simp only [Bool.false_eq_true, if_false] at h
      rcases List.mem_cons.1 ha with rfl | ha
      · exact hx
      · exact idxX_no l (i + 1) (by omega) h a ha
end Go.Proofs.YthllidchoodofaaGreatDoor
namespace Go.Proofs.YthllidchoodofaaGreatDoor
open Go.RowKit
set_option linter.unusedVariables false
set_option linter.unusedSimpArgs false
set_option maxRecDepth 8000

theorem two_mapX {α β : Type} {g : α → β} {l : List α} {x y : β} (h : l.map g = [x, y]) : ∃ a b, l = [a, b] ∧ g a = x ∧ g b = y := by
  match l, h with
  | [a, b], h => simp at h; exact ⟨a, b, rfl, h.1, h.2⟩
section
variable {ops : Array Oper} {o : Oper} {N : Nat} {f : Fl} {w : World}
theorem run_partAd (a b : ByteArray) : (part 9 #[.string a, .string b] 0).run Tryz.prog w = .ok (.string a) w ∧ (part 9 #[.string a, .string b] 1).run Tryz.prog w = .ok (.string b) w := by
  have hagg : (isAgg 9).run Tryz.prog w = .ok false w := by
    unfold isAgg
    rw [Sem.run_bind, run_underlying Tryz.underlying9 w]; rfl
  constructor <;> simp [part, Sem.run_bind, hagg]
theorem fieldsAd : (Tryz.prog.fieldsOf 24).toList.map (fun f => (f.name == "_", f.type, f.offset)) = [(false, 9, 0), (false, 9, 1)] := by kernel_rfl
theorem run_eqAd (a b c d : ByteArray) : (Op.equalIn 10000 24 (.agg #[.string a, .string b]) (.agg #[.string c, .string d])).run Tryz.prog w = .ok (decide (a = c ∧ b = d)) w := by
  rw [show (10000 : Nat) = 9999 + 1 from rfl, run_equalIn_struct w 9999 24 _ _ (by kernel_rfl) (by kernel_rfl)]
  obtain ⟨f0, f1, hfs, h0, h1⟩ := two_mapX fieldsAd
  rw [hfs]
  simp only [Prod.mk.injEq] at h0 h1
  obtain ⟨n0, t0, o0⟩ := h0
  obtain ⟨n1, t1, o1⟩ := h1
  have m0 : f0.name ≠ "_" := by simpa using n0
  have m1 : f1.name ≠ "_" := by simpa using n1
  have e0 := run_equalIn_string (P := Tryz.prog) (w := w) 9998 9 a c Tryz.underlying9
  have e1 := run_equalIn_string (P := Tryz.prog) (w := w) 9998 9 b d Tryz.underlying9
  have k0 : (a.toList == c.toList) = decide (a = c) := str_beq a c
  have k1 : (b.toList == d.toList) = decide (b = d) := str_beq b d
  rw [k0] at e0
  rw [k1] at e1
  simp only [Op.eqFields, if_pos m0, if_pos m1, t0, o0, t1, o1, Sem.run_bind, (run_partAd a b).1, (run_partAd c d).1, Result.andThen_ok]
  rw [show (9999 : Nat) = 9998 + 1 from rfl, e0]
  simp only [Result.andThen_ok]
  by_cases h : a = c
  · have hb : (!decide (a = c)) = false := by simp [h]
    simp only [hb, Bool.false_eq_true, if_false, Sem.run_bind, (run_partAd a b).2, (run_partAd c d).2, Result.andThen_ok]
    rw [e1]
    simp only [Result.andThen_ok]
    by_cases h2 : b = d
    · simp [h2, h]
    · simp [h2, h]
  · have hb : (!decide (a = c)) = true := by simp [h]
    simp only [hb, if_true]
    simp [h]
theorem dx_eqAd {t' : TypeId} {x y : Operand} {a b c d : ByteArray} (ho : o.op = .binOp .eql 24 x y t') (hx : ev f x = some (.agg #[.string a, .string b])) (hy : ev f y = some (.agg #[.string c, .string d])) (hw : wantF ops o f = some true := by rfl) : DV Tryz.prog ops o N f w (.bool (decide (a = c ∧ b = d))) := fun k ha => by
  have hx := ha.ev hx
  have hy := ha.ev hy
  have hg : Tryz.prog.eqGuardType Tryz.prog.depth 24 = false := by kernel_rfl
  have hgd : (eqGuard .eql 24 x y (.agg #[.string a, .string b]) (.agg #[.string c, .string d])).run Tryz.prog w = .ok () w := by
    simp [eqGuard, Sem.run_bind, hg]
  have e1 : binOp .eql 24 (.agg #[.string a, .string b]) (.agg #[.string c, .string d]) = (do pure (.bool (← Op.equal 24 (.agg #[.string a, .string b]) (.agg #[.string c, .string d])))) := rfl
  have e2 : (Op.equal 24 (.agg #[.string a, .string b]) (.agg #[.string c, .string d])).run Tryz.prog w = .ok (decide (a = c ∧ b = d)) w := run_eqAd a b c d
  exact Does.pure (wantF_of ha hw) _ (by unfold execOp; simp only [ho, hx, hy, Sem.run_bind, hgd, Result.andThen_ok, e1, e2, Sem.run_pure]) ⟨rfl, rfl⟩
end
/-- Where an address stands, or would, and whether it does. -/
def geA (m x : ByteArray) (p : BondX) : Bool := !lessA (p.1.1, p.1.2) (m, x)
def placeB (xs : List BondX) (m x : ByteArray) : Int × Bool := if idxX (geA m x) xs 0 < 0 then ((xs.length : Int), false) else (idxX (geA m x) xs 0, match xs[(idxX (geA m x) xs 0).toNat]? with
  | some r => decide (r.1.1 = m ∧ r.1.2 = x)
  | none => false)
end Go.Proofs.YthllidchoodofaaGreatDoor
namespace Go.Proofs.YthllidchoodofaaGreatDoor
open Go.RowKit
set_option linter.unusedVariables false

def digI (c : Int) : Bool := decide (48 ≤ c) && decide (c ≤ 57)
def smlI (c : Int) : Bool := decide (97 ≤ c) && decide (c ≤ 122)
def grtI (c : Int) : Bool := decide (65 ≤ c) && decide (c ≤ 90)
def hostI (c : Int) : Bool := smlI c || grtI c || digI c || c == 46 || c == 45
def userI (c : Int) : Bool := smlI c || digI c || c == 46 || c == 95 || c == 61 || c == 47 || c == 43 || c == 45
def roomI (c : Int) : Bool := smlI c || grtI c || digI c
def signI (c : Int) : Bool := c == 46 || c == 45

/-- From 1 to so many, all of a kind. -/
def madeI (l : List Int) (most : Int) (K : Int → Bool) : Bool := decide (1 ≤ l.length) && (decide ((l.length : Int) ≤ most) && l.all K)
/-- Two points side by side. -/
def dotsI : List Int → Bool
  | [] => false
  | x :: r => (x == 46 && r.head? == some 46) || dotsI r
/-- Neither end is a sign. -/
def edgesI (l : List Int) : Bool := !(l.head?.any signI) && !(l.getLast?.any signI)
def hostL (l : List Int) : Bool := madeI l 230 hostI && (!dotsI l && edgesI l)
/-- The place of the first colon; the length, where there is none. -/
def colI (l : List Int) : Nat := l.findIdx (· == 58)
def serverL (l : List Int) : Bool := (decide (l.length ≤ colI l) || madeI (l.drop (colI l + 1)) 5 digI) && hostL (l.take (colI l))
def namedL (l : List Int) (sigil most : Int) (K : Int → Bool) : Bool :=
  decide (l.length ≤ 255) && (l.head? == some sigil && (madeI ((l.drop 1).take (colI (l.drop 1))) most K && serverL ((l.drop 1).drop (colI (l.drop 1) + 1))))
def userL (l : List Int) : Bool := namedL l 64 200 userI
def roomL (l : List Int) : Bool := namedL l 33 64 roomI

theorem sb_mk (l : List UInt8) : sb ⟨l.toArray⟩ = l.map fun c => (c.toNat : Int) := by simp [sb]
theorem toNat_beq (x c : UInt8) : ((x.toNat : Int) == (c.toNat : Int)) = (x == c) := by
  rw [Bool.eq_iff_iff, beq_iff_eq, beq_iff_eq]
  constructor
  · intro h
    exact UInt8.toNat_inj.1 (by omega)
  · rintro rfl; rfl

/-- Where the first instance of a byte is. -/
theorem index_one (l : List UInt8) (c : UInt8) : Lib.index l [c] = if l.findIdx (· == c) < l.length then (l.findIdx (· == c) : Int) else -1 := by
  induction l with
  | nil => simp [Lib.index]
  | cons b l ih =>
    have e : ([c] : List UInt8).isPrefixOf (b :: l) = (b == c) := by
      simp [List.isPrefixOf]
      exact Bool.beq_comm
    rw [Lib.index, e, ih, List.findIdx_cons]
    cases hb : (b == c)
    · by_cases hlt : l.findIdx (· == c) < l.length
      · rw [if_pos hlt]
        have h1 : ((l.findIdx (· == c) : Nat) : Int) ≠ -1 := by omega
        have h2 : l.findIdx (· == c) + 1 < (b :: l).length := by rw [List.length_cons]; omega
        simp only [Bool.false_eq_true, if_false, beq_iff_eq, h1, if_pos h2, cond_false]
        omega
      · rw [if_neg hlt]
        have h2 : ¬ l.findIdx (· == c) + 1 < (b :: l).length := by rw [List.length_cons]; omega
        simp only [Bool.false_eq_true, if_false, beq_self_eq_true, if_true, if_neg h2, cond_false]
    · simp
theorem findIdx_sb (l : List UInt8) (c : UInt8) : (l.map fun c => (c.toNat : Int)).findIdx (· == (c.toNat : Int)) = l.findIdx (· == c) := by
  induction l with
  | nil => rfl
  | cons b l ih => rw [List.map_cons, List.findIdx_cons, List.findIdx_cons, ih, toNat_beq]
/-- A cut around the first colon. -/
theorem cut_col (s : ByteArray) : sb ⟨(Lib.cut s.data.toList [58]).1.toArray⟩ = (sb s).take (colI (sb s)) ∧ sb ⟨(Lib.cut s.data.toList [58]).2.1.toArray⟩ = (sb s).drop (colI (sb s) + 1) ∧ (Lib.cut s.data.toList [58]).2.2 = decide (colI (sb s) < (sb s).length) := by
  have hc : colI (sb s) = s.data.toList.findIdx (· == 58) := findIdx_sb s.data.toList 58
  have hl : (sb s).length = s.data.toList.length := by simp [sb]
  rw [sb_mk (Lib.cut s.data.toList [58]).1, sb_mk (Lib.cut s.data.toList [58]).2.1, hc, hl, Lib.cut, index_one]
  by_cases hlt : s.data.toList.findIdx (· == 58) < s.data.toList.length
  · rw [if_pos hlt, if_pos (by omega)]
    refine ⟨?_, ?_, ?_⟩
    · simp [sb, List.map_take]
    · simp [sb, List.map_drop]
    · simp only [decide_eq_true hlt]
  · rw [if_neg hlt, if_neg (by omega)]
    refine ⟨?_, ?_, ?_⟩
    · rw [List.take_of_length_le (by rw [hl]; omega)]; simp [sb]
    · rw [List.drop_of_length_le (by rw [hl]; omega)]; rfl
    · simp only [decide_eq_false hlt]
theorem dots_lib (l : List UInt8) : Lib.contains l [46, 46] = dotsI (l.map fun c => (c.toNat : Int)) := by
  rw [Lib.contains]
  induction l with
  | nil => rfl
  | cons b l ih =>
    have hge := Lib.index_ge l [46, 46]
    rw [List.map_cons, dotsI, ← ih, Lib.index]
    have e : ([46, 46] : List UInt8).isPrefixOf (b :: l) = ((b.toNat : Int) == 46 && (l.map fun c => (c.toNat : Int)).head? == some 46) := by
      have h46 : ∀ x : UInt8, (46 == x) = ((x.toNat : Int) == 46) := fun x => by rw [show (46 : Int) = ((46 : UInt8).toNat : Int) from rfl, toNat_beq]; exact Bool.beq_comm
      cases l with
      | nil => simp [List.isPrefixOf]
      | cons d l => simp [List.isPrefixOf, h46]
    rw [← e]
    cases ([46, 46] : List UInt8).isPrefixOf (b :: l)
    · by_cases h : Lib.index l [46, 46] = -1
      · simp [h]
      · have : 0 ≤ Lib.index l [46, 46] + 1 := by omega
        have h0 : 0 ≤ Lib.index l [46, 46] := by omega
        simp [h, this, h0]
    · simp
theorem dropWhile_len {α : Type} (p : α → Bool) (l : List α) : (l.dropWhile p).length ≤ l.length := by
  induction l with
  | nil => simp
  | cons x l ih => rw [List.dropWhile_cons]; split <;> simp <;> omega
theorem dropWhile_same {α : Type} (p : α → Bool) (l : List α) : (l.dropWhile p = l ∧ l.head?.any p = false) ∨ ((l.dropWhile p).length < l.length ∧ l.head?.any p = true) := by
  cases l with
  | nil => left; simp
  | cons x l =>
    rw [List.dropWhile_cons]
    cases h : p x
    · left; simp [h]
    · right
      have := dropWhile_len p l
      simp [h]; omega
theorem sign_cut (c : UInt8) : ([46, 45] : List UInt8).contains c = signI (c.toNat : Int) := by
  have h46 : ∀ x : UInt8, (x == 46) = ((x.toNat : Int) == 46) := fun x => by rw [show (46 : Int) = ((46 : UInt8).toNat : Int) from rfl, toNat_beq]
  have h45 : ∀ x : UInt8, (x == 45) = ((x.toNat : Int) == 45) := fun x => by rw [show (45 : Int) = ((45 : UInt8).toNat : Int) from rfl, toNat_beq]
  simp only [List.contains, List.elem, signI, ← h46, ← h45]
  cases (c == 46) <;> cases (c == 45) <;> rfl
theorem any_sign (o : Option UInt8) : (o.map fun c => (c.toNat : Int)).any signI = o.any fun c => ([46, 45] : List UInt8).contains c := by
  cases o with
  | none => rfl
  | some c => exact (sign_cut c).symm
theorem trimS_edges (l : List UInt8) : (Lib.trimS l [46, 45] = l) ↔ edgesI (l.map fun c => (c.toNat : Int)) = true := by
  have hh : (l.map fun c => (c.toNat : Int)).head?.any signI = l.head?.any fun c => ([46, 45] : List UInt8).contains c := by rw [List.head?_map, any_sign]
  have hg : (l.map fun c => (c.toNat : Int)).getLast?.any signI = l.getLast?.any fun c => ([46, 45] : List UInt8).contains c := by rw [List.getLast?_map, any_sign]
  rw [edgesI, hh, hg]
  have hr := dropWhile_same (fun c => ([46, 45] : List UInt8).contains c) l.reverse
  rw [List.head?_reverse] at hr
  unfold Lib.trimS Lib.trimLeftS Lib.trimRightS
  generalize (fun c => ([46, 45] : List UInt8).contains c) = p at *
  rcases hr with ⟨h1, h2⟩ | ⟨h1, h2⟩
  · rw [h1, List.reverse_reverse, h2]
    rcases dropWhile_same p l with ⟨h3, h4⟩ | ⟨h3, h4⟩
    · rw [h4, h3]; simp
    · rw [h4]
      refine ⟨fun e => ?_, fun e => by cases e⟩
      rw [e] at h3
      omega
  · rw [h2]
    refine ⟨fun e => ?_, fun e => by simp at e⟩
    have := dropWhile_len p (l.reverse.dropWhile p).reverse
    rw [e, List.length_reverse] at this
    rw [List.length_reverse] at h1
    omega
end Go.Proofs.YthllidchoodofaaGreatDoor
namespace Go.Proofs
open Go.Shelf
def Tryz.lays231_ren : Go.Shelf.Ren := ⟨fun | 231 => 66 | n => n, fun | 9 => 9 | 5 => 5 | 3 => 3 | 4 => 4 | n => n, fun | n => n⟩
theorem Tryz.lays231 : Go.Proofs.Lays.n231 Tryz.prog Tryz.lays231_ren := {
  mixed := by kernel_rfl
  f231 := Tryz.func66.trans (congrArg some (by kernel_rfl))
  t3 := Tryz.underlying3
  a3 := Tryz.isAgg3
  z3 := Tryz.sizeOf3
  v3 := Tryz.zeroValue3
  t4 := Tryz.underlying4
  a4 := Tryz.isAgg4
  z4 := Tryz.sizeOf4
  v4 := Tryz.zeroValue4
  t5 := Tryz.underlying5
  a5 := Tryz.isAgg5
  z5 := Tryz.sizeOf5
  v5 := Tryz.zeroValue5
  t9 := Tryz.underlying9
  a9 := Tryz.isAgg9
  z9 := Tryz.sizeOf9
  v9 := Tryz.zeroValue9 }
open Go.RowKit in
/-- strings.trimLeftByte (no doc; what TrimLeft and Trim call at a cutset of one ASCII byte): the leading bytes that are c are cut off. The world is as it was. (LAID: no walk: one application.) -/
theorem Tryz.strings_trimLeftByte (s : ByteArray) (c : UInt8) (w : World) :
    Calls Tryz.prog 66 #[.string s, .int .u8 c.toNat] w fun e w' => e = .returned (.string ⟨(Lib.trimLeftB s.data.toList c).toArray⟩) ∧ w' = w := Any.strings_trimLeftByte Tryz.lays231 s c w
def Tryz.lays232_ren : Go.Shelf.Ren := ⟨fun | 232 => 67 | n => n, fun | 9 => 9 | 5 => 5 | 3 => 3 | 4 => 4 | n => n, fun | n => n⟩
theorem Tryz.lays232 : Go.Proofs.Lays.n232 Tryz.prog Tryz.lays232_ren := {
  mixed := by kernel_rfl
  f232 := Tryz.func67.trans (congrArg some (by kernel_rfl))
  t3 := Tryz.underlying3
  a3 := Tryz.isAgg3
  z3 := Tryz.sizeOf3
  v3 := Tryz.zeroValue3
  t4 := Tryz.underlying4
  a4 := Tryz.isAgg4
  z4 := Tryz.sizeOf4
  v4 := Tryz.zeroValue4
  t5 := Tryz.underlying5
  a5 := Tryz.isAgg5
  z5 := Tryz.sizeOf5
  v5 := Tryz.zeroValue5
  t9 := Tryz.underlying9
  a9 := Tryz.isAgg9
  z9 := Tryz.sizeOf9
  v9 := Tryz.zeroValue9 }
open Go.RowKit in
/-- strings.trimRightByte (no doc; what TrimRight and Trim call at a cutset of one ASCII byte): the trailing bytes that are c are cut off. The world is as it was. ('hs': a string's length is a number that an int holds.) (LAID: no walk: one application.) -/
theorem Tryz.strings_trimRightByte (s : ByteArray) (c : UInt8) (w : World) (hs : s.size ≤ 9223372036854775807) :
    Calls Tryz.prog 67 #[.string s, .int .u8 c.toNat] w fun e w' => e = .returned (.string ⟨(Lib.trimRightB s.data.toList c).toArray⟩) ∧ w' = w := Any.strings_trimRightByte Tryz.lays232 s c w hs
def Tryz.lays160_ren : Go.Shelf.Ren := ⟨fun | 160 => 53 | 232 => 67 | 231 => 66 | 227 => 68 | 234 => 70 | 233 => 69 | 236 => 72 | 235 => 71 | 228 => 83 | 271 => 86 | 151 => 85 | 197 => 84 | 120 => 96 | 152 => 95 | 260 => 94 | 137 => 78 | 119 => 102 | 224 => 98 | 225 => 97 | 217 => 92 | 266 => 101 | n => n, fun | 9 => 9 | 4 => 4 | 3 => 3 | 5 => 5 | 117 => 81 | 116 => 80 | 0 => 0 | 124 => 84 | 21 => 21 | 105 => 89 | 46 => 96 | 119 => 97 | 139 => 100 | 138 => 99 | n => n, fun | 3 => 1 | 4 => 2 | n => n⟩
theorem Tryz.lays160 : Go.Proofs.Lays.n160 Tryz.prog Tryz.lays160_ren := {
  mixed := by kernel_rfl
  f119 := Tryz.func102.trans (congrArg some (by kernel_rfl))
  f120 := Tryz.func96.trans (congrArg some (by kernel_rfl))
  f137 := Tryz.func78.trans (congrArg some (by kernel_rfl))
  f151 := Tryz.func85.trans (congrArg some (by kernel_rfl))
  f152 := Tryz.func95.trans (congrArg some (by kernel_rfl))
  f160 := Tryz.func53.trans (congrArg some (by kernel_rfl))
  f197 := Tryz.func84.trans (congrArg some (by kernel_rfl))
  f217 := Tryz.func92.trans (congrArg some (by kernel_rfl))
  f224 := Tryz.func98.trans (congrArg some (by kernel_rfl))
  f225 := Tryz.func97.trans (congrArg some (by kernel_rfl))
  f227 := Tryz.func68.trans (congrArg some (by kernel_rfl))
  f228 := Tryz.func83.trans (congrArg some (by kernel_rfl))
  f231 := Tryz.func66.trans (congrArg some (by kernel_rfl))
  f232 := Tryz.func67.trans (congrArg some (by kernel_rfl))
  f233 := Tryz.func69.trans (congrArg some (by kernel_rfl))
  f234 := Tryz.func70.trans (congrArg some (by kernel_rfl))
  f235 := Tryz.func71.trans (congrArg some (by kernel_rfl))
  f236 := Tryz.func72.trans (congrArg some (by kernel_rfl))
  f260 := Tryz.func94.trans (congrArg some (by kernel_rfl))
  f266 := Tryz.func101.trans (congrArg some (by kernel_rfl))
  f271 := Tryz.func86.trans (congrArg some (by kernel_rfl))
  t0 := Tryz.underlying0
  a0 := Tryz.isAgg0
  z0 := Tryz.sizeOf0
  v0 := Tryz.zeroValue0
  t3 := Tryz.underlying3
  a3 := Tryz.isAgg3
  z3 := Tryz.sizeOf3
  v3 := Tryz.zeroValue3
  t4 := Tryz.underlying4
  a4 := Tryz.isAgg4
  z4 := Tryz.sizeOf4
  v4 := Tryz.zeroValue4
  t5 := Tryz.underlying5
  a5 := Tryz.isAgg5
  z5 := Tryz.sizeOf5
  v5 := Tryz.zeroValue5
  t9 := Tryz.underlying9
  a9 := Tryz.isAgg9
  z9 := Tryz.sizeOf9
  v9 := Tryz.zeroValue9
  t21 := Tryz.underlying21
  a21 := Tryz.isAgg21
  z21 := Tryz.sizeOf21
  v21 := Tryz.zeroValue21
  t46 := Tryz.underlying96
  a46 := Tryz.isAgg96
  z46 := Tryz.sizeOf96
  v46 := Tryz.zeroValue96
  t105 := Tryz.underlying89
  a105 := Tryz.isAgg89
  z105 := Tryz.sizeOf89
  v105 := Tryz.zeroValue89
  t116 := Tryz.underlying80
  a116 := Tryz.isAgg80
  z116 := Tryz.sizeOf80
  t117 := Tryz.underlying81
  a117 := Tryz.isAgg81
  z117 := Tryz.sizeOf81
  v117 := Tryz.zeroValue81
  t119 := Tryz.underlying97
  a119 := Tryz.isAgg97
  z119 := Tryz.sizeOf97
  t124 := Tryz.underlying84
  a124 := Tryz.isAgg84
  z124 := Tryz.sizeOf84
  v124 := Tryz.zeroValue84
  t138 := Tryz.underlying99
  a138 := Tryz.isAgg99
  z138 := Tryz.sizeOf99
  v138 := Tryz.zeroValue99
  t139 := Tryz.underlying100
  a139 := Tryz.isAgg100
  z139 := Tryz.sizeOf100
  v139 := Tryz.zeroValue100
  g3 := by kernel_rfl
  g4 := by kernel_rfl }
open Go.RowKit in
/-- strings.Trim: "Trim returns a slice of the string s with all leading and trailing Unicode code points contained in cutset removed.": AT A cutset OF ONE ASCII BYTE. THE WORLD BEHIND IT: as it was, or (where s is not empty) with ONE DRAW MORE off the tape: the statement 'return trimLeftByte(trimRightByte(s, c), c)' draws its order of evaluation. (LAID: no walk: one application.) -/
theorem Tryz.strings_Trim_one (s : ByteArray) (c : UInt8) (hc : c.toNat < 128) (w : World) (hs : s.size ≤ 9223372036854775807) :
    Calls Tryz.prog 53 #[.string s, .string ⟨#[c]⟩] w fun e w' => e = .returned (.string ⟨(Lib.trimB s.data.toList c).toArray⟩) ∧ (w' = w ∨ w' = w.drew) := Any.strings_Trim_one Tryz.lays160 s c hc w hs
def Tryz.lays119_ren : Go.Shelf.Ren := ⟨fun | 119 => 102 | n => n, fun | 21 => 21 | 4 => 4 | n => n, fun | n => n⟩
theorem Tryz.lays119 : Go.Proofs.Lays.n119 Tryz.prog Tryz.lays119_ren := {
  mixed := by kernel_rfl
  f119 := Tryz.func102.trans (congrArg some (by kernel_rfl))
  t4 := Tryz.underlying4
  a4 := Tryz.isAgg4
  z4 := Tryz.sizeOf4
  v4 := Tryz.zeroValue4
  t21 := Tryz.underlying21
  a21 := Tryz.isAgg21
  z21 := Tryz.sizeOf21
  v21 := Tryz.zeroValue21 }
/-- utf8.ValidRune: "ValidRune reports whether r can be legally encoded as UTF-8. Code points that are out of range or a surrogate half are illegal.": IT RETURNS 'Lib.validRune r'; the world is as it was. (LAID: no walk: one application.) -/
theorem Tryz.utf8_ValidRune (r : Int) (w : World) :
    Calls Tryz.prog 102 #[.int .i32 r] w fun e w' => e = .returned (.bool (Lib.validRune r)) ∧ w' = w := Any.utf8_ValidRune Tryz.lays119 r w
def Tryz.lays120_ren : Go.Shelf.Ren := ⟨fun | 120 => 96 | n => n, fun | 5 => 5 | 4 => 4 | n => n, fun | n => n⟩
theorem Tryz.lays120 : Go.Proofs.Lays.n120 Tryz.prog Tryz.lays120_ren := {
  mixed := by kernel_rfl
  f120 := Tryz.func96.trans (congrArg some (by kernel_rfl))
  t4 := Tryz.underlying4
  a4 := Tryz.isAgg4
  z4 := Tryz.sizeOf4
  v4 := Tryz.zeroValue4
  t5 := Tryz.underlying5
  a5 := Tryz.isAgg5
  z5 := Tryz.sizeOf5
  v5 := Tryz.zeroValue5 }
/-- utf8.RuneStart: "RuneStart reports whether the byte could be the first byte of an encoded, possibly invalid rune. Second and subsequent bytes always have the top two bits set to 10.": IT RETURNS 'Lib.runeStart b'; the world is as it was. ('h0', 'h1': b is a byte: a caller has it of every byte that it was handed.) (LAID: no walk: one application.) -/
theorem Tryz.utf8_RuneStart (b : Int) (w : World) (h0 : 0 ≤ b) (h1 : b < 256) :
    Calls Tryz.prog 96 #[.int .u8 b] w fun e w' => e = .returned (.bool (Lib.runeStart b)) ∧ w' = w := Any.utf8_RuneStart Tryz.lays120 b w h0 h1
def Tryz.lays137_ren : Go.Shelf.Ren := ⟨fun | 137 => 78 | 217 => 92 | 266 => 101 | n => n, fun | 9 => 9 | 5 => 5 | 3 => 3 | n => n, fun | n => n⟩
theorem Tryz.lays137 : Go.Proofs.Lays.n137 Tryz.prog Tryz.lays137_ren := {
  mixed := by kernel_rfl
  f137 := Tryz.func78.trans (congrArg some (by kernel_rfl))
  f217 := Tryz.func92.trans (congrArg some (by kernel_rfl))
  f266 := Tryz.func101.trans (congrArg some (by kernel_rfl))
  t3 := Tryz.underlying3
  a3 := Tryz.isAgg3
  z3 := Tryz.sizeOf3
  v3 := Tryz.zeroValue3
  t5 := Tryz.underlying5
  a5 := Tryz.isAgg5
  z5 := Tryz.sizeOf5
  v5 := Tryz.zeroValue5
  t9 := Tryz.underlying9
  a9 := Tryz.isAgg9
  z9 := Tryz.sizeOf9
  v9 := Tryz.zeroValue9 }
open Go.RowKit in
/-- strings.IndexByte: "IndexByte returns the index of the first instance of c in s, or -1 if c is not present in s.": IT RETURNS 'Lib.indexByte s c'; the world is as it was. (LAID: no walk: one application.) -/
theorem Tryz.strings_IndexByte (s : ByteArray) (c : Int) (w : World) :
    Calls Tryz.prog 78 #[.string s, .int .u8 c] w fun e w' => e = .returned (.int .i64 (Lib.indexByte s.data.toList c.toNat.toUInt8)) ∧ w' = w := Any.strings_IndexByte Tryz.lays137 s c w
def Tryz.lays217_ren : Go.Shelf.Ren := ⟨fun | 217 => 92 | 266 => 101 | n => n, fun | 9 => 9 | 5 => 5 | 3 => 3 | n => n, fun | n => n⟩
theorem Tryz.lays217 : Go.Proofs.Lays.n217 Tryz.prog Tryz.lays217_ren := {
  mixed := by kernel_rfl
  f217 := Tryz.func92.trans (congrArg some (by kernel_rfl))
  f266 := Tryz.func101.trans (congrArg some (by kernel_rfl))
  t3 := Tryz.underlying3
  a3 := Tryz.isAgg3
  z3 := Tryz.sizeOf3
  v3 := Tryz.zeroValue3
  t5 := Tryz.underlying5
  a5 := Tryz.isAgg5
  z5 := Tryz.sizeOf5
  v5 := Tryz.zeroValue5
  t9 := Tryz.underlying9
  a9 := Tryz.isAgg9
  z9 := Tryz.sizeOf9
  v9 := Tryz.zeroValue9 }
open Go.RowKit Go.Lib in
/-- internal/stringslite.IndexByte (what strings.IndexByte calls): IT RETURNS 'Lib.indexByte s c'; the world is as it was. (LAID: no walk: one application.) -/
theorem Tryz.stringslite_IndexByte (s : ByteArray) (c : Int) (w : World) :
    Calls Tryz.prog 92 #[.string s, .int .u8 c] w fun e w' => e = .returned (.int .i64 (Lib.indexByte s.data.toList c.toNat.toUInt8)) ∧ w' = w := Any.stringslite_IndexByte Tryz.lays217 s c w
def Tryz.lays224_ren : Go.Shelf.Ren := ⟨fun | 224 => 98 | n => n, fun | 3 => 3 | n => n, fun | n => n⟩
theorem Tryz.lays224 : Go.Proofs.Lays.n224 Tryz.prog Tryz.lays224_ren := {
  mixed := by kernel_rfl
  f224 := Tryz.func98.trans (congrArg some (by kernel_rfl))
  t3 := Tryz.underlying3
  a3 := Tryz.isAgg3
  z3 := Tryz.sizeOf3
  v3 := Tryz.zeroValue3 }
open Go.RowKit Go.Lib in
/-- internal/bytealg.Cutover: "Cutover reports the number of failures of IndexByte we should tolerate before switching over to Index. n is the number of bytes processed so far.": on amd64: (n + 16) / 8. (LAID: no walk: one application.) -/
theorem Tryz.bytealg_Cutover (n : Int) (h0 : 0 ≤ n) (h1 : n < 4611686018427387904) (w : World) :
    Calls Tryz.prog 98 #[.int .i64 n] w fun e w' => e = .returned (.int .i64 ((n + 16) / 8)) ∧ w' = w := Any.bytealg_Cutover Tryz.lays224 n h0 h1 w
def Tryz.lays314_ren : Go.Shelf.Ren := ⟨fun | 314 => 103 | n => n, fun | 9 => 9 | 51 => 102 | 3 => 3 | 4 => 4 | 5 => 5 | 46 => 96 | n => n, fun | n => n⟩
theorem Tryz.lays314 : Go.Proofs.Lays.n314 Tryz.prog Tryz.lays314_ren := {
  mixed := by kernel_rfl
  f314 := Tryz.func103.trans (congrArg some (by kernel_rfl))
  t3 := Tryz.underlying3
  a3 := Tryz.isAgg3
  z3 := Tryz.sizeOf3
  v3 := Tryz.zeroValue3
  t4 := Tryz.underlying4
  a4 := Tryz.isAgg4
  z4 := Tryz.sizeOf4
  v4 := Tryz.zeroValue4
  t5 := Tryz.underlying5
  a5 := Tryz.isAgg5
  z5 := Tryz.sizeOf5
  v5 := Tryz.zeroValue5
  t9 := Tryz.underlying9
  a9 := Tryz.isAgg9
  z9 := Tryz.sizeOf9
  v9 := Tryz.zeroValue9
  t46 := Tryz.underlying96
  a46 := Tryz.isAgg96
  z46 := Tryz.sizeOf96
  v46 := Tryz.zeroValue96
  t51 := Tryz.underlying102
  a51 := Tryz.isAgg102
  z51 := Tryz.sizeOf102
  v51 := Tryz.zeroValue102 }
open Go.RowKit Go.Lib in
/-- hashStr: "returns the hash and the appropriate multiplicative factor for use in Rabin-Karp algorithm": THE HASH OF ALL OF sep, AND 16777619 ^ len(sep), both in uint32. (LAID: no walk: one application.) -/
theorem Tryz.bytealg_hashStr (sep : ByteArray) (hs : sep.size < 4294967281) (w : World) :
    Calls Tryz.prog 103 #[.string sep] w fun e w' => e = .returned (.tuple #[.int .u32 (RK.H sep.data.toList % 4294967296), .int .u32 (16777619 ^ sep.size % 4294967296)]) ∧ w' = w := Any.bytealg_hashStr Tryz.lays314 sep hs w
def Tryz.lays267_ren : Go.Shelf.Ren := ⟨fun | 267 => 99 | 314 => 103 | n => n, fun | 9 => 9 | 3 => 3 | 146 => 103 | 51 => 102 | 4 => 4 | 5 => 5 | 46 => 96 | n => n, fun | n => n⟩
theorem Tryz.lays267 : Go.Proofs.Lays.n267 Tryz.prog Tryz.lays267_ren := {
  mixed := by kernel_rfl
  f267 := Tryz.func99.trans (congrArg some (by kernel_rfl))
  f314 := Tryz.func103.trans (congrArg some (by kernel_rfl))
  t3 := Tryz.underlying3
  a3 := Tryz.isAgg3
  z3 := Tryz.sizeOf3
  v3 := Tryz.zeroValue3
  t4 := Tryz.underlying4
  a4 := Tryz.isAgg4
  z4 := Tryz.sizeOf4
  v4 := Tryz.zeroValue4
  t5 := Tryz.underlying5
  a5 := Tryz.isAgg5
  z5 := Tryz.sizeOf5
  v5 := Tryz.zeroValue5
  t9 := Tryz.underlying9
  a9 := Tryz.isAgg9
  z9 := Tryz.sizeOf9
  v9 := Tryz.zeroValue9
  t46 := Tryz.underlying96
  a46 := Tryz.isAgg96
  z46 := Tryz.sizeOf96
  v46 := Tryz.zeroValue96
  t51 := Tryz.underlying102
  a51 := Tryz.isAgg102
  z51 := Tryz.sizeOf102
  v51 := Tryz.zeroValue102
  t146 := Tryz.underlying103
  a146 := Tryz.isAgg103
  z146 := Tryz.sizeOf103
  v146 := Tryz.zeroValue103 }
open Go.RowKit Go.Lib in
theorem Tryz.bytealg_IndexRabinKarp (s sep : ByteArray) (h1 : 1 ≤ sep.size) (h2 : sep.size ≤ s.size) (hs : s.size < 4294967281) (w : World) :
    Calls Tryz.prog 99 #[.string s, .string sep] w fun e w' => e = .returned (.int .i64 (Lib.index s.data.toList sep.data.toList)) ∧ w' = w := Any.bytealg_IndexRabinKarp Tryz.lays267 s sep h1 h2 hs w
def Tryz.lays219_ren : Go.Shelf.Ren := ⟨fun | 219 => 87 | 217 => 92 | 225 => 97 | 224 => 98 | 267 => 99 | 266 => 101 | 314 => 103 | n => n, fun | 9 => 9 | 3 => 3 | 4 => 4 | 5 => 5 | 46 => 96 | 146 => 103 | 51 => 102 | n => n, fun | 1 => 0 | n => n⟩
theorem Tryz.lays219 : Go.Proofs.Lays.n219 Tryz.prog Tryz.lays219_ren := {
  mixed := by kernel_rfl
  f217 := Tryz.func92.trans (congrArg some (by kernel_rfl))
  f219 := Tryz.func87.trans (congrArg some (by kernel_rfl))
  f224 := Tryz.func98.trans (congrArg some (by kernel_rfl))
  f225 := Tryz.func97.trans (congrArg some (by kernel_rfl))
  f266 := Tryz.func101.trans (congrArg some (by kernel_rfl))
  f267 := Tryz.func99.trans (congrArg some (by kernel_rfl))
  f314 := Tryz.func103.trans (congrArg some (by kernel_rfl))
  t3 := Tryz.underlying3
  a3 := Tryz.isAgg3
  z3 := Tryz.sizeOf3
  v3 := Tryz.zeroValue3
  t4 := Tryz.underlying4
  a4 := Tryz.isAgg4
  z4 := Tryz.sizeOf4
  v4 := Tryz.zeroValue4
  t5 := Tryz.underlying5
  a5 := Tryz.isAgg5
  z5 := Tryz.sizeOf5
  v5 := Tryz.zeroValue5
  t9 := Tryz.underlying9
  a9 := Tryz.isAgg9
  z9 := Tryz.sizeOf9
  v9 := Tryz.zeroValue9
  t46 := Tryz.underlying96
  a46 := Tryz.isAgg96
  z46 := Tryz.sizeOf96
  v46 := Tryz.zeroValue96
  t51 := Tryz.underlying102
  a51 := Tryz.isAgg102
  z51 := Tryz.sizeOf102
  v51 := Tryz.zeroValue102
  t146 := Tryz.underlying103
  a146 := Tryz.isAgg103
  z146 := Tryz.sizeOf103
  v146 := Tryz.zeroValue103
  g1 := by kernel_rfl }
open Go.RowKit Go.Lib in
/-- internal/stringslite.Index (what strings.Index calls) AT A substr OF ONE BYTE c: IT RETURNS 'Lib.indexByte s c'; the world is as it was. (LAID: no walk: one application.) -/
theorem Tryz.stringslite_Index_one (s : ByteArray) (c : UInt8) (w : World) :
    Calls Tryz.prog 87 #[.string s, .string ⟨#[c]⟩] w fun e w' => e = .returned (.int .i64 (Lib.indexByte s.data.toList c)) ∧ w' = w := Any.stringslite_Index_one Tryz.lays219 s c w
open Go.RowKit Go.Lib in
/-- internal/stringslite.Index (what strings.Index calls) AT A substr OF WHATEVER LENGTH: IT RETURNS 'Lib.index s substr'; the world is as it was. 'm': what internal/bytealg.MaxLen holds: whatever. (LAID: no walk: one application.) -/
theorem Tryz.stringslite_Index (s sub : ByteArray) (m : Int) (w : World) (hs : s.size < 4294967281) (hm : w.cell? ⟨0, 0, none⟩ = some (.int .i64 m)) :
    Calls Tryz.prog 87 #[.string s, .string sub] w fun e w' => e = .returned (.int .i64 (Lib.index s.data.toList sub.data.toList)) ∧ w' = w := Any.stringslite_Index Tryz.lays219 s sub m w hs hm
def Tryz.lays143_ren : Go.Shelf.Ren := ⟨fun | 143 => 88 | 219 => 87 | 217 => 92 | 225 => 97 | 224 => 98 | 267 => 99 | 266 => 101 | 314 => 103 | n => n, fun | 9 => 9 | 3 => 3 | 4 => 4 | 5 => 5 | 46 => 96 | 146 => 103 | 51 => 102 | n => n, fun | 1 => 0 | n => n⟩
theorem Tryz.lays143 : Go.Proofs.Lays.n143 Tryz.prog Tryz.lays143_ren := {
  mixed := by kernel_rfl
  f143 := Tryz.func88.trans (congrArg some (by kernel_rfl))
  f217 := Tryz.func92.trans (congrArg some (by kernel_rfl))
  f219 := Tryz.func87.trans (congrArg some (by kernel_rfl))
  f224 := Tryz.func98.trans (congrArg some (by kernel_rfl))
  f225 := Tryz.func97.trans (congrArg some (by kernel_rfl))
  f266 := Tryz.func101.trans (congrArg some (by kernel_rfl))
  f267 := Tryz.func99.trans (congrArg some (by kernel_rfl))
  f314 := Tryz.func103.trans (congrArg some (by kernel_rfl))
  t3 := Tryz.underlying3
  a3 := Tryz.isAgg3
  z3 := Tryz.sizeOf3
  v3 := Tryz.zeroValue3
  t4 := Tryz.underlying4
  a4 := Tryz.isAgg4
  z4 := Tryz.sizeOf4
  v4 := Tryz.zeroValue4
  t5 := Tryz.underlying5
  a5 := Tryz.isAgg5
  z5 := Tryz.sizeOf5
  v5 := Tryz.zeroValue5
  t9 := Tryz.underlying9
  a9 := Tryz.isAgg9
  z9 := Tryz.sizeOf9
  v9 := Tryz.zeroValue9
  t46 := Tryz.underlying96
  a46 := Tryz.isAgg96
  z46 := Tryz.sizeOf96
  v46 := Tryz.zeroValue96
  t51 := Tryz.underlying102
  a51 := Tryz.isAgg102
  z51 := Tryz.sizeOf102
  v51 := Tryz.zeroValue102
  t146 := Tryz.underlying103
  a146 := Tryz.isAgg103
  z146 := Tryz.sizeOf103
  v146 := Tryz.zeroValue103
  g1 := by kernel_rfl }
open Go.RowKit Go.Lib in
/-- strings.Index: "Index returns the index of the first instance of substr in s, or -1 if substr is not present in s.": AT A substr OF ONE BYTE c: IT RETURNS 'Lib.indexByte s c'; the world is as it was. (LAID: no walk: one application.) -/
theorem Tryz.strings_Index_one (s : ByteArray) (c : UInt8) (w : World) :
    Calls Tryz.prog 88 #[.string s, .string ⟨#[c]⟩] w fun e w' => e = .returned (.int .i64 (Lib.indexByte s.data.toList c)) ∧ w' = w := Any.strings_Index_one Tryz.lays143 s c w
open Go.RowKit Go.Lib in
/-- strings.Index: "Index returns the index of the first instance of substr in s, or -1 if substr is not present in s.": IT RETURNS 'Lib.index s substr'; the world is as it was. (LAID: no walk: one application.) -/
theorem Tryz.strings_Index (s sub : ByteArray) (m : Int) (w : World) (hs : s.size < 4294967281) (hm : w.cell? ⟨0, 0, none⟩ = some (.int .i64 m)) :
    Calls Tryz.prog 88 #[.string s, .string sub] w fun e w' => e = .returned (.int .i64 (Lib.index s.data.toList sub.data.toList)) ∧ w' = w := Any.strings_Index Tryz.lays143 s sub m w hs hm
def Tryz.lays144_ren : Go.Shelf.Ren := ⟨fun | 144 => 74 | 143 => 88 | 219 => 87 | 217 => 92 | 225 => 97 | 224 => 98 | 267 => 99 | 266 => 101 | 314 => 103 | n => n, fun | 9 => 9 | 4 => 4 | 3 => 3 | 5 => 5 | 46 => 96 | 146 => 103 | 51 => 102 | n => n, fun | 1 => 0 | n => n⟩
theorem Tryz.lays144 : Go.Proofs.Lays.n144 Tryz.prog Tryz.lays144_ren := {
  mixed := by kernel_rfl
  f143 := Tryz.func88.trans (congrArg some (by kernel_rfl))
  f144 := Tryz.func74.trans (congrArg some (by kernel_rfl))
  f217 := Tryz.func92.trans (congrArg some (by kernel_rfl))
  f219 := Tryz.func87.trans (congrArg some (by kernel_rfl))
  f224 := Tryz.func98.trans (congrArg some (by kernel_rfl))
  f225 := Tryz.func97.trans (congrArg some (by kernel_rfl))
  f266 := Tryz.func101.trans (congrArg some (by kernel_rfl))
  f267 := Tryz.func99.trans (congrArg some (by kernel_rfl))
  f314 := Tryz.func103.trans (congrArg some (by kernel_rfl))
  t3 := Tryz.underlying3
  a3 := Tryz.isAgg3
  z3 := Tryz.sizeOf3
  v3 := Tryz.zeroValue3
  t4 := Tryz.underlying4
  a4 := Tryz.isAgg4
  z4 := Tryz.sizeOf4
  v4 := Tryz.zeroValue4
  t5 := Tryz.underlying5
  a5 := Tryz.isAgg5
  z5 := Tryz.sizeOf5
  v5 := Tryz.zeroValue5
  t9 := Tryz.underlying9
  a9 := Tryz.isAgg9
  z9 := Tryz.sizeOf9
  v9 := Tryz.zeroValue9
  t46 := Tryz.underlying96
  a46 := Tryz.isAgg96
  z46 := Tryz.sizeOf96
  v46 := Tryz.zeroValue96
  t51 := Tryz.underlying102
  a51 := Tryz.isAgg102
  z51 := Tryz.sizeOf102
  v51 := Tryz.zeroValue102
  t146 := Tryz.underlying103
  a146 := Tryz.isAgg103
  z146 := Tryz.sizeOf103
  v146 := Tryz.zeroValue103
  g1 := by kernel_rfl }
open Go.RowKit Go.Lib in
/-- strings.Contains: "Contains reports whether substr is within s.": AT A substr OF ONE BYTE c: IT RETURNS 'decide (0 ≤ Lib.indexByte s c)'; the world is as it was. (LAID: no walk: one application.) -/
theorem Tryz.strings_Contains_one (s : ByteArray) (c : UInt8) (w : World) :
    Calls Tryz.prog 74 #[.string s, .string ⟨#[c]⟩] w fun e w' => e = .returned (.bool (decide (0 ≤ Lib.indexByte s.data.toList c))) ∧ w' = w := Any.strings_Contains_one Tryz.lays144 s c w
open Go.RowKit Go.Lib in
/-- strings.Contains: "Contains reports whether substr is within s.": IT RETURNS 'Lib.contains s substr'; the world is as it was. (LAID: no walk: one application.) -/
theorem Tryz.strings_Contains (s sub : ByteArray) (m : Int) (w : World) (hs : s.size < 4294967281) (hm : w.cell? ⟨0, 0, none⟩ = some (.int .i64 m)) :
    Calls Tryz.prog 74 #[.string s, .string sub] w fun e w' => e = .returned (.bool (Lib.contains s.data.toList sub.data.toList)) ∧ w' = w := Any.strings_Contains Tryz.lays144 s sub m w hs hm
def Tryz.lays220_ren : Go.Shelf.Ren := ⟨fun | 220 => 73 | 219 => 87 | 217 => 92 | 225 => 97 | 224 => 98 | 267 => 99 | 266 => 101 | 314 => 103 | n => n, fun | 9 => 9 | 4 => 4 | 3 => 3 | 5 => 5 | 46 => 96 | 146 => 103 | 51 => 102 | n => n, fun | 1 => 0 | n => n⟩
theorem Tryz.lays220 : Go.Proofs.Lays.n220 Tryz.prog Tryz.lays220_ren := {
  mixed := by kernel_rfl
  f217 := Tryz.func92.trans (congrArg some (by kernel_rfl))
  f219 := Tryz.func87.trans (congrArg some (by kernel_rfl))
  f220 := Tryz.func73.trans (congrArg some (by kernel_rfl))
  f224 := Tryz.func98.trans (congrArg some (by kernel_rfl))
  f225 := Tryz.func97.trans (congrArg some (by kernel_rfl))
  f266 := Tryz.func101.trans (congrArg some (by kernel_rfl))
  f267 := Tryz.func99.trans (congrArg some (by kernel_rfl))
  f314 := Tryz.func103.trans (congrArg some (by kernel_rfl))
  t3 := Tryz.underlying3
  a3 := Tryz.isAgg3
  z3 := Tryz.sizeOf3
  v3 := Tryz.zeroValue3
  t4 := Tryz.underlying4
  a4 := Tryz.isAgg4
  z4 := Tryz.sizeOf4
  v4 := Tryz.zeroValue4
  t5 := Tryz.underlying5
  a5 := Tryz.isAgg5
  z5 := Tryz.sizeOf5
  v5 := Tryz.zeroValue5
  t9 := Tryz.underlying9
  a9 := Tryz.isAgg9
  z9 := Tryz.sizeOf9
  v9 := Tryz.zeroValue9
  t46 := Tryz.underlying96
  a46 := Tryz.isAgg96
  z46 := Tryz.sizeOf96
  v46 := Tryz.zeroValue96
  t51 := Tryz.underlying102
  a51 := Tryz.isAgg102
  z51 := Tryz.sizeOf102
  v51 := Tryz.zeroValue102
  t146 := Tryz.underlying103
  a146 := Tryz.isAgg103
  z146 := Tryz.sizeOf103
  v146 := Tryz.zeroValue103
  g1 := by kernel_rfl }
open Go.RowKit Go.Lib in
/-- internal/stringslite.Cut (what strings.Cut calls): IT RETURNS 'Lib.cut s sep'; the world is as it was but for the count of draws. (LAID: no walk: one application.) -/
theorem Tryz.stringslite_Cut (s sep : ByteArray) (m : Int) (w : World) (hs : s.size < 4294967281) (hm : w.cell? ⟨0, 0, none⟩ = some (.int .i64 m)) :
    Calls Tryz.prog 73 #[.string s, .string sep] w fun e w' => e = .returned (.tuple #[.string ⟨(Lib.cut s.data.toList sep.data.toList).1.toArray⟩, .string ⟨(Lib.cut s.data.toList sep.data.toList).2.1.toArray⟩, .bool (Lib.cut s.data.toList sep.data.toList).2.2]) ∧ ∃ n, w' = w.drewN n := Any.stringslite_Cut Tryz.lays220 s sep m w hs hm
def Tryz.lays145_ren : Go.Shelf.Ren := ⟨fun | 145 => 54 | 220 => 73 | 219 => 87 | 217 => 92 | 225 => 97 | 224 => 98 | 267 => 99 | 266 => 101 | 314 => 103 | n => n, fun | 9 => 9 | 4 => 4 | 59 => 65 | 3 => 3 | 5 => 5 | 46 => 96 | 146 => 103 | 51 => 102 | n => n, fun | 1 => 0 | n => n⟩
theorem Tryz.lays145 : Go.Proofs.Lays.n145 Tryz.prog Tryz.lays145_ren := {
  mixed := by kernel_rfl
  f145 := Tryz.func54.trans (congrArg some (by kernel_rfl))
  f217 := Tryz.func92.trans (congrArg some (by kernel_rfl))
  f219 := Tryz.func87.trans (congrArg some (by kernel_rfl))
  f220 := Tryz.func73.trans (congrArg some (by kernel_rfl))
  f224 := Tryz.func98.trans (congrArg some (by kernel_rfl))
  f225 := Tryz.func97.trans (congrArg some (by kernel_rfl))
  f266 := Tryz.func101.trans (congrArg some (by kernel_rfl))
  f267 := Tryz.func99.trans (congrArg some (by kernel_rfl))
  f314 := Tryz.func103.trans (congrArg some (by kernel_rfl))
  t3 := Tryz.underlying3
  a3 := Tryz.isAgg3
  z3 := Tryz.sizeOf3
  v3 := Tryz.zeroValue3
  t4 := Tryz.underlying4
  a4 := Tryz.isAgg4
  z4 := Tryz.sizeOf4
  v4 := Tryz.zeroValue4
  t5 := Tryz.underlying5
  a5 := Tryz.isAgg5
  z5 := Tryz.sizeOf5
  v5 := Tryz.zeroValue5
  t9 := Tryz.underlying9
  a9 := Tryz.isAgg9
  z9 := Tryz.sizeOf9
  v9 := Tryz.zeroValue9
  t46 := Tryz.underlying96
  a46 := Tryz.isAgg96
  z46 := Tryz.sizeOf96
  v46 := Tryz.zeroValue96
  t51 := Tryz.underlying102
  a51 := Tryz.isAgg102
  z51 := Tryz.sizeOf102
  v51 := Tryz.zeroValue102
  t59 := Tryz.underlying65
  a59 := Tryz.isAgg65
  z59 := Tryz.sizeOf65
  v59 := Tryz.zeroValue65
  t146 := Tryz.underlying103
  a146 := Tryz.isAgg103
  z146 := Tryz.sizeOf103
  v146 := Tryz.zeroValue103
  g1 := by kernel_rfl }
open Go.RowKit Go.Lib in
/-- strings.Cut: "Cut slices s around the first instance of sep, returning the text before and after sep. The found result reports whether sep appears in s. If sep does not appear in s, cut returns s, "", false.": IT RETURNS 'Lib.cut s sep'; the world is as it was but for the count of draws. (LAID: no walk: one application.) -/
theorem Tryz.strings_Cut (s sep : ByteArray) (m : Int) (w : World) (hs : s.size < 4294967281) (hm : w.cell? ⟨0, 0, none⟩ = some (.int .i64 m)) :
    Calls Tryz.prog 54 #[.string s, .string sep] w fun e w' => e = .returned (.tuple #[.string ⟨(Lib.cut s.data.toList sep.data.toList).1.toArray⟩, .string ⟨(Lib.cut s.data.toList sep.data.toList).2.1.toArray⟩, .bool (Lib.cut s.data.toList sep.data.toList).2.2]) ∧ ∃ n, w' = w.drewN n := Any.strings_Cut Tryz.lays145 s sep m w hs hm
def Tryz.laysM219_ren : Go.Shelf.Ren := ⟨fun | 219 => 87 | 217 => 92 | 225 => 97 | 224 => 98 | 267 => 99 | 266 => 101 | 314 => 103 | n => n, fun | 9 => 9 | 3 => 3 | 4 => 4 | 5 => 5 | 46 => 96 | 146 => 103 | 51 => 102 | n => n, fun | 1 => 0 | n => n⟩
theorem Tryz.laysM219 : Go.Proofs.LaysM.n219 Tryz.prog Tryz.laysM219_ren := {
  mixed := by kernel_rfl
  f217 := Tryz.func92.trans (congrArg some (by kernel_rfl))
  f219 := Tryz.func87.trans (congrArg some (by kernel_rfl))
  f224 := Tryz.func98.trans (congrArg some (by kernel_rfl))
  f225 := Tryz.func97.trans (congrArg some (by kernel_rfl))
  f266 := Tryz.func101.trans (congrArg some (by kernel_rfl))
  f267 := Tryz.func99.trans (congrArg some (by kernel_rfl))
  f314 := Tryz.func103.trans (congrArg some (by kernel_rfl))
  t3 := Tryz.underlying3
  a3 := Tryz.isAgg3
  z3 := Tryz.sizeOf3
  v3 := Tryz.zeroValue3
  t4 := Tryz.underlying4
  a4 := Tryz.isAgg4
  z4 := Tryz.sizeOf4
  v4 := Tryz.zeroValue4
  t5 := Tryz.underlying5
  a5 := Tryz.isAgg5
  z5 := Tryz.sizeOf5
  v5 := Tryz.zeroValue5
  t9 := Tryz.underlying9
  a9 := Tryz.isAgg9
  z9 := Tryz.sizeOf9
  v9 := Tryz.zeroValue9
  t46 := Tryz.underlying96
  a46 := Tryz.isAgg96
  z46 := Tryz.sizeOf96
  v46 := Tryz.zeroValue96
  t51 := Tryz.underlying102
  a51 := Tryz.isAgg102
  z51 := Tryz.sizeOf102
  v51 := Tryz.zeroValue102
  t146 := Tryz.underlying103
  a146 := Tryz.isAgg103
  z146 := Tryz.sizeOf103
  v146 := Tryz.zeroValue103
  g1 := by kernel_rfl
  i3 := by kernel_rfl
  i4 := by kernel_rfl
  i5 := by kernel_rfl
  i9 := by kernel_rfl
  i46 := by kernel_rfl
  i51 := by kernel_rfl
  i146 := by kernel_rfl
  m1 := by kernel_rfl
  s1_3 := fun w h => Go.Proofs.cell_of_shapedOpen_int (zero := #[.int .i64 0]) (t := 3) h (of_decide_eq_true (by kernel_rfl)) (by kernel_rfl) rfl (by kernel_rfl) (by kernel_rfl) Tryz.underlying3 }
open Go.RowKit Go.Lib in
theorem Tryz.stringslite_Index_shaped (s sub : ByteArray) (w : World) (h : w.ShapedOpen Tryz.prog) (hs : s.size < 4294967281) :
    Calls Tryz.prog 87 #[.string s, .string sub] w fun e w' => e = .returned (.int .i64 (Lib.index s.data.toList sub.data.toList)) ∧ w' = w := Any.stringslite_Index_shaped Tryz.laysM219 s sub w h hs
def Tryz.laysM143_ren : Go.Shelf.Ren := ⟨fun | 143 => 88 | 219 => 87 | 217 => 92 | 225 => 97 | 224 => 98 | 267 => 99 | 266 => 101 | 314 => 103 | n => n, fun | 9 => 9 | 3 => 3 | 4 => 4 | 5 => 5 | 46 => 96 | 146 => 103 | 51 => 102 | n => n, fun | 1 => 0 | n => n⟩
theorem Tryz.laysM143 : Go.Proofs.LaysM.n143 Tryz.prog Tryz.laysM143_ren := {
  mixed := by kernel_rfl
  f143 := Tryz.func88.trans (congrArg some (by kernel_rfl))
  f217 := Tryz.func92.trans (congrArg some (by kernel_rfl))
  f219 := Tryz.func87.trans (congrArg some (by kernel_rfl))
  f224 := Tryz.func98.trans (congrArg some (by kernel_rfl))
  f225 := Tryz.func97.trans (congrArg some (by kernel_rfl))
  f266 := Tryz.func101.trans (congrArg some (by kernel_rfl))
  f267 := Tryz.func99.trans (congrArg some (by kernel_rfl))
  f314 := Tryz.func103.trans (congrArg some (by kernel_rfl))
  t3 := Tryz.underlying3
  a3 := Tryz.isAgg3
  z3 := Tryz.sizeOf3
  v3 := Tryz.zeroValue3
  t4 := Tryz.underlying4
  a4 := Tryz.isAgg4
  z4 := Tryz.sizeOf4
  v4 := Tryz.zeroValue4
  t5 := Tryz.underlying5
  a5 := Tryz.isAgg5
  z5 := Tryz.sizeOf5
  v5 := Tryz.zeroValue5
  t9 := Tryz.underlying9
  a9 := Tryz.isAgg9
  z9 := Tryz.sizeOf9
  v9 := Tryz.zeroValue9
  t46 := Tryz.underlying96
  a46 := Tryz.isAgg96
  z46 := Tryz.sizeOf96
  v46 := Tryz.zeroValue96
  t51 := Tryz.underlying102
  a51 := Tryz.isAgg102
  z51 := Tryz.sizeOf102
  v51 := Tryz.zeroValue102
  t146 := Tryz.underlying103
  a146 := Tryz.isAgg103
  z146 := Tryz.sizeOf103
  v146 := Tryz.zeroValue103
  g1 := by kernel_rfl
  i3 := by kernel_rfl
  i4 := by kernel_rfl
  i5 := by kernel_rfl
  i9 := by kernel_rfl
  i46 := by kernel_rfl
  i51 := by kernel_rfl
  i146 := by kernel_rfl
  m1 := by kernel_rfl
  s1_3 := fun w h => Go.Proofs.cell_of_shapedOpen_int (zero := #[.int .i64 0]) (t := 3) h (of_decide_eq_true (by kernel_rfl)) (by kernel_rfl) rfl (by kernel_rfl) (by kernel_rfl) Tryz.underlying3 }
open Go.RowKit Go.Lib in
theorem Tryz.strings_Index_shaped (s sub : ByteArray) (w : World) (h : w.ShapedOpen Tryz.prog) (hs : s.size < 4294967281) :
    Calls Tryz.prog 88 #[.string s, .string sub] w fun e w' => e = .returned (.int .i64 (Lib.index s.data.toList sub.data.toList)) ∧ w' = w := Any.strings_Index_shaped Tryz.laysM143 s sub w h hs
def Tryz.laysM144_ren : Go.Shelf.Ren := ⟨fun | 144 => 74 | 143 => 88 | 219 => 87 | 217 => 92 | 225 => 97 | 224 => 98 | 267 => 99 | 266 => 101 | 314 => 103 | n => n, fun | 9 => 9 | 4 => 4 | 3 => 3 | 5 => 5 | 46 => 96 | 146 => 103 | 51 => 102 | n => n, fun | 1 => 0 | n => n⟩
theorem Tryz.laysM144 : Go.Proofs.LaysM.n144 Tryz.prog Tryz.laysM144_ren := {
  mixed := by kernel_rfl
  f143 := Tryz.func88.trans (congrArg some (by kernel_rfl))
  f144 := Tryz.func74.trans (congrArg some (by kernel_rfl))
  f217 := Tryz.func92.trans (congrArg some (by kernel_rfl))
  f219 := Tryz.func87.trans (congrArg some (by kernel_rfl))
  f224 := Tryz.func98.trans (congrArg some (by kernel_rfl))
  f225 := Tryz.func97.trans (congrArg some (by kernel_rfl))
  f266 := Tryz.func101.trans (congrArg some (by kernel_rfl))
  f267 := Tryz.func99.trans (congrArg some (by kernel_rfl))
  f314 := Tryz.func103.trans (congrArg some (by kernel_rfl))
  t3 := Tryz.underlying3
  a3 := Tryz.isAgg3
  z3 := Tryz.sizeOf3
  v3 := Tryz.zeroValue3
  t4 := Tryz.underlying4
  a4 := Tryz.isAgg4
  z4 := Tryz.sizeOf4
  v4 := Tryz.zeroValue4
  t5 := Tryz.underlying5
  a5 := Tryz.isAgg5
  z5 := Tryz.sizeOf5
  v5 := Tryz.zeroValue5
  t9 := Tryz.underlying9
  a9 := Tryz.isAgg9
  z9 := Tryz.sizeOf9
  v9 := Tryz.zeroValue9
  t46 := Tryz.underlying96
  a46 := Tryz.isAgg96
  z46 := Tryz.sizeOf96
  v46 := Tryz.zeroValue96
  t51 := Tryz.underlying102
  a51 := Tryz.isAgg102
  z51 := Tryz.sizeOf102
  v51 := Tryz.zeroValue102
  t146 := Tryz.underlying103
  a146 := Tryz.isAgg103
  z146 := Tryz.sizeOf103
  v146 := Tryz.zeroValue103
  g1 := by kernel_rfl
  i3 := by kernel_rfl
  i4 := by kernel_rfl
  i5 := by kernel_rfl
  i9 := by kernel_rfl
  i46 := by kernel_rfl
  i51 := by kernel_rfl
  i146 := by kernel_rfl
  m1 := by kernel_rfl
  s1_3 := fun w h => Go.Proofs.cell_of_shapedOpen_int (zero := #[.int .i64 0]) (t := 3) h (of_decide_eq_true (by kernel_rfl)) (by kernel_rfl) rfl (by kernel_rfl) (by kernel_rfl) Tryz.underlying3 }
open Go.RowKit Go.Lib in
theorem Tryz.strings_Contains_shaped (s sub : ByteArray) (w : World) (h : w.ShapedOpen Tryz.prog) (hs : s.size < 4294967281) :
    Calls Tryz.prog 74 #[.string s, .string sub] w fun e w' => e = .returned (.bool (Lib.contains s.data.toList sub.data.toList)) ∧ w' = w := Any.strings_Contains_shaped Tryz.laysM144 s sub w h hs
def Tryz.laysM220_ren : Go.Shelf.Ren := ⟨fun | 220 => 73 | 219 => 87 | 217 => 92 | 225 => 97 | 224 => 98 | 267 => 99 | 266 => 101 | 314 => 103 | n => n, fun | 9 => 9 | 4 => 4 | 3 => 3 | 5 => 5 | 46 => 96 | 146 => 103 | 51 => 102 | n => n, fun | 1 => 0 | n => n⟩
theorem Tryz.laysM220 : Go.Proofs.LaysM.n220 Tryz.prog Tryz.laysM220_ren := {
  mixed := by kernel_rfl
  f217 := Tryz.func92.trans (congrArg some (by kernel_rfl))
  f219 := Tryz.func87.trans (congrArg some (by kernel_rfl))
  f220 := Tryz.func73.trans (congrArg some (by kernel_rfl))
  f224 := Tryz.func98.trans (congrArg some (by kernel_rfl))
  f225 := Tryz.func97.trans (congrArg some (by kernel_rfl))
  f266 := Tryz.func101.trans (congrArg some (by kernel_rfl))
  f267 := Tryz.func99.trans (congrArg some (by kernel_rfl))
  f314 := Tryz.func103.trans (congrArg some (by kernel_rfl))
  t3 := Tryz.underlying3
  a3 := Tryz.isAgg3
  z3 := Tryz.sizeOf3
  v3 := Tryz.zeroValue3
  t4 := Tryz.underlying4
  a4 := Tryz.isAgg4
  z4 := Tryz.sizeOf4
  v4 := Tryz.zeroValue4
  t5 := Tryz.underlying5
  a5 := Tryz.isAgg5
  z5 := Tryz.sizeOf5
  v5 := Tryz.zeroValue5
  t9 := Tryz.underlying9
  a9 := Tryz.isAgg9
  z9 := Tryz.sizeOf9
  v9 := Tryz.zeroValue9
  t46 := Tryz.underlying96
  a46 := Tryz.isAgg96
  z46 := Tryz.sizeOf96
  v46 := Tryz.zeroValue96
  t51 := Tryz.underlying102
  a51 := Tryz.isAgg102
  z51 := Tryz.sizeOf102
  v51 := Tryz.zeroValue102
  t146 := Tryz.underlying103
  a146 := Tryz.isAgg103
  z146 := Tryz.sizeOf103
  v146 := Tryz.zeroValue103
  g1 := by kernel_rfl
  i3 := by kernel_rfl
  i4 := by kernel_rfl
  i5 := by kernel_rfl
  i9 := by kernel_rfl
  i46 := by kernel_rfl
  i51 := by kernel_rfl
  i146 := by kernel_rfl
  m1 := by kernel_rfl
  s1_3 := fun w h => Go.Proofs.cell_of_shapedOpen_int (zero := #[.int .i64 0]) (t := 3) h (of_decide_eq_true (by kernel_rfl)) (by kernel_rfl) rfl (by kernel_rfl) (by kernel_rfl) Tryz.underlying3 }
open Go.RowKit Go.Lib in
theorem Tryz.stringslite_Cut_shaped (s sep : ByteArray) (w : World) (h : w.ShapedOpen Tryz.prog) (hs : s.size < 4294967281) :
    Calls Tryz.prog 73 #[.string s, .string sep] w fun e w' => e = .returned (.tuple #[.string ⟨(Lib.cut s.data.toList sep.data.toList).1.toArray⟩, .string ⟨(Lib.cut s.data.toList sep.data.toList).2.1.toArray⟩, .bool (Lib.cut s.data.toList sep.data.toList).2.2]) ∧ ∃ n, w' = w.drewN n := Any.stringslite_Cut_shaped Tryz.laysM220 s sep w h hs
def Tryz.laysM145_ren : Go.Shelf.Ren := ⟨fun | 145 => 54 | 220 => 73 | 219 => 87 | 217 => 92 | 225 => 97 | 224 => 98 | 267 => 99 | 266 => 101 | 314 => 103 | n => n, fun | 9 => 9 | 4 => 4 | 59 => 65 | 3 => 3 | 5 => 5 | 46 => 96 | 146 => 103 | 51 => 102 | n => n, fun | 1 => 0 | n => n⟩
theorem Tryz.laysM145 : Go.Proofs.LaysM.n145 Tryz.prog Tryz.laysM145_ren := {
  mixed := by kernel_rfl
  f145 := Tryz.func54.trans (congrArg some (by kernel_rfl))
  f217 := Tryz.func92.trans (congrArg some (by kernel_rfl))
  f219 := Tryz.func87.trans (congrArg some (by kernel_rfl))
  f220 := Tryz.func73.trans (congrArg some (by kernel_rfl))
  f224 := Tryz.func98.trans (congrArg some (by kernel_rfl))
  f225 := Tryz.func97.trans (congrArg some (by kernel_rfl))
  f266 := Tryz.func101.trans (congrArg some (by kernel_rfl))
  f267 := Tryz.func99.trans (congrArg some (by kernel_rfl))
  f314 := Tryz.func103.trans (congrArg some (by kernel_rfl))
  t3 := Tryz.underlying3
  a3 := Tryz.isAgg3
  z3 := Tryz.sizeOf3
  v3 := Tryz.zeroValue3
  t4 := Tryz.underlying4
  a4 := Tryz.isAgg4
  z4 := Tryz.sizeOf4
  v4 := Tryz.zeroValue4
  t5 := Tryz.underlying5
  a5 := Tryz.isAgg5
  z5 := Tryz.sizeOf5
  v5 := Tryz.zeroValue5
  t9 := Tryz.underlying9
  a9 := Tryz.isAgg9
  z9 := Tryz.sizeOf9
  v9 := Tryz.zeroValue9
  t46 := Tryz.underlying96
  a46 := Tryz.isAgg96
  z46 := Tryz.sizeOf96
  v46 := Tryz.zeroValue96
  t51 := Tryz.underlying102
  a51 := Tryz.isAgg102
  z51 := Tryz.sizeOf102
  v51 := Tryz.zeroValue102
  t59 := Tryz.underlying65
  a59 := Tryz.isAgg65
  z59 := Tryz.sizeOf65
  v59 := Tryz.zeroValue65
  t146 := Tryz.underlying103
  a146 := Tryz.isAgg103
  z146 := Tryz.sizeOf103
  v146 := Tryz.zeroValue103
  g1 := by kernel_rfl
  i3 := by kernel_rfl
  i4 := by kernel_rfl
  i5 := by kernel_rfl
  i9 := by kernel_rfl
  i46 := by kernel_rfl
  i51 := by kernel_rfl
  i59 := by kernel_rfl
  i146 := by kernel_rfl
  m1 := by kernel_rfl
  s1_3 := fun w h => Go.Proofs.cell_of_shapedOpen_int (zero := #[.int .i64 0]) (t := 3) h (of_decide_eq_true (by kernel_rfl)) (by kernel_rfl) rfl (by kernel_rfl) (by kernel_rfl) Tryz.underlying3 }
open Go.RowKit Go.Lib in
theorem Tryz.strings_Cut_shaped (s sep : ByteArray) (w : World) (h : w.ShapedOpen Tryz.prog) (hs : s.size < 4294967281) :
    Calls Tryz.prog 54 #[.string s, .string sep] w fun e w' => e = .returned (.tuple #[.string ⟨(Lib.cut s.data.toList sep.data.toList).1.toArray⟩, .string ⟨(Lib.cut s.data.toList sep.data.toList).2.1.toArray⟩, .bool (Lib.cut s.data.toList sep.data.toList).2.2]) ∧ ∃ n, w' = w.drewN n := Any.strings_Cut_shaped Tryz.laysM145 s sep w h hs
def Tryz.lays206_ren : Go.Shelf.Ren := ⟨fun | 206 => 93 | n => n, fun | 9 => 9 | 4 => 4 | 3 => 3 | n => n, fun | n => n⟩
theorem Tryz.lays206 : Go.Proofs.Lays.n206 Tryz.prog Tryz.lays206_ren := {
  mixed := by kernel_rfl
  f206 := Tryz.func93.trans (congrArg some (by kernel_rfl))
  t3 := Tryz.underlying3
  a3 := Tryz.isAgg3
  z3 := Tryz.sizeOf3
  v3 := Tryz.zeroValue3
  t4 := Tryz.underlying4
  a4 := Tryz.isAgg4
  z4 := Tryz.sizeOf4
  v4 := Tryz.zeroValue4
  t9 := Tryz.underlying9
  a9 := Tryz.isAgg9
  z9 := Tryz.sizeOf9
  v9 := Tryz.zeroValue9 }
open Go.RowKit Go.Lib in
/-- internal/stringslite.HasPrefix (what strings.HasPrefix calls). (LAID: no walk: one application.) -/
theorem Tryz.stringslite_HasPrefix (s p : ByteArray) (w : World) :
    Calls Tryz.prog 93 #[.string s, .string p] w fun e w' => e = .returned (.bool (Lib.hasPrefix s.data.toList p.data.toList)) ∧ w' = w := Any.stringslite_HasPrefix Tryz.lays206 s p w
def Tryz.lays208_ren : Go.Shelf.Ren := ⟨fun | 208 => 79 | 206 => 93 | n => n, fun | 9 => 9 | 4 => 4 | 3 => 3 | n => n, fun | n => n⟩
theorem Tryz.lays208 : Go.Proofs.Lays.n208 Tryz.prog Tryz.lays208_ren := {
  mixed := by kernel_rfl
  f206 := Tryz.func93.trans (congrArg some (by kernel_rfl))
  f208 := Tryz.func79.trans (congrArg some (by kernel_rfl))
  t3 := Tryz.underlying3
  a3 := Tryz.isAgg3
  z3 := Tryz.sizeOf3
  v3 := Tryz.zeroValue3
  t4 := Tryz.underlying4
  a4 := Tryz.isAgg4
  z4 := Tryz.sizeOf4
  v4 := Tryz.zeroValue4
  t9 := Tryz.underlying9
  a9 := Tryz.isAgg9
  z9 := Tryz.sizeOf9
  v9 := Tryz.zeroValue9 }
open Go.RowKit Go.Lib in
/-- internal/stringslite.TrimPrefix (what strings.TrimPrefix calls). (LAID: no walk: one application.) -/
theorem Tryz.stringslite_TrimPrefix (s p : ByteArray) (w : World) :
    Calls Tryz.prog 79 #[.string s, .string p] w fun e w' => e = .returned (.string ⟨(Lib.trimPrefix s.data.toList p.data.toList).toArray⟩) ∧ w' = w := Any.stringslite_TrimPrefix Tryz.lays208 s p w
def Tryz.lays101_ren : Go.Shelf.Ren := ⟨fun | 101 => 60 | 208 => 79 | 206 => 93 | n => n, fun | 9 => 9 | 4 => 4 | 3 => 3 | n => n, fun | n => n⟩
theorem Tryz.lays101 : Go.Proofs.Lays.n101 Tryz.prog Tryz.lays101_ren := {
  mixed := by kernel_rfl
  f101 := Tryz.func60.trans (congrArg some (by kernel_rfl))
  f206 := Tryz.func93.trans (congrArg some (by kernel_rfl))
  f208 := Tryz.func79.trans (congrArg some (by kernel_rfl))
  t3 := Tryz.underlying3
  a3 := Tryz.isAgg3
  z3 := Tryz.sizeOf3
  v3 := Tryz.zeroValue3
  t4 := Tryz.underlying4
  a4 := Tryz.isAgg4
  z4 := Tryz.sizeOf4
  v4 := Tryz.zeroValue4
  t9 := Tryz.underlying9
  a9 := Tryz.isAgg9
  z9 := Tryz.sizeOf9
  v9 := Tryz.zeroValue9 }
open Go.RowKit Go.Lib in
/-- strings.TrimPrefix: "TrimPrefix returns s without the provided leading prefix string. If s doesn't start with prefix, s is returned unchanged.": IT RETURNS 'Lib.trimPrefix s prefix'; the world is as it was. (LAID: no walk: one application.) -/
theorem Tryz.strings_TrimPrefix (s p : ByteArray) (w : World) :
    Calls Tryz.prog 60 #[.string s, .string p] w fun e w' => e = .returned (.string ⟨(Lib.trimPrefix s.data.toList p.data.toList).toArray⟩) ∧ w' = w := Any.strings_TrimPrefix Tryz.lays101 s p w
def Tryz.lays152_ren : Go.Shelf.Ren := ⟨fun | 152 => 95 | 137 => 78 | 119 => 102 | 224 => 98 | 225 => 97 | 217 => 92 | 266 => 101 | n => n, fun | 9 => 9 | 21 => 21 | 3 => 3 | 4 => 4 | 5 => 5 | 0 => 0 | 46 => 96 | n => n, fun | n => n⟩
theorem Tryz.lays152 : Go.Proofs.Lays.n152 Tryz.prog Tryz.lays152_ren := {
  mixed := by kernel_rfl
  f119 := Tryz.func102.trans (congrArg some (by kernel_rfl))
  f137 := Tryz.func78.trans (congrArg some (by kernel_rfl))
  f152 := Tryz.func95.trans (congrArg some (by kernel_rfl))
  f217 := Tryz.func92.trans (congrArg some (by kernel_rfl))
  f224 := Tryz.func98.trans (congrArg some (by kernel_rfl))
  f225 := Tryz.func97.trans (congrArg some (by kernel_rfl))
  f266 := Tryz.func101.trans (congrArg some (by kernel_rfl))
  t0 := Tryz.underlying0
  a0 := Tryz.isAgg0
  z0 := Tryz.sizeOf0
  v0 := Tryz.zeroValue0
  t3 := Tryz.underlying3
  a3 := Tryz.isAgg3
  z3 := Tryz.sizeOf3
  v3 := Tryz.zeroValue3
  t4 := Tryz.underlying4
  a4 := Tryz.isAgg4
  z4 := Tryz.sizeOf4
  v4 := Tryz.zeroValue4
  t5 := Tryz.underlying5
  a5 := Tryz.isAgg5
  z5 := Tryz.sizeOf5
  v5 := Tryz.zeroValue5
  t9 := Tryz.underlying9
  a9 := Tryz.isAgg9
  z9 := Tryz.sizeOf9
  v9 := Tryz.zeroValue9
  t21 := Tryz.underlying21
  a21 := Tryz.isAgg21
  z21 := Tryz.sizeOf21
  v21 := Tryz.zeroValue21
  t46 := Tryz.underlying96
  a46 := Tryz.isAgg96
  z46 := Tryz.sizeOf96
  v46 := Tryz.zeroValue96 }
open Go.RowKit Go.Lib in
theorem Tryz.strings_IndexRune_ascii (s : ByteArray) (r : Int) (w : World) (h0 : 0 ≤ r) (h1 : r < 128) :
    Calls Tryz.prog 95 #[.string s, .int .i32 r] w fun e w' => e = .returned (.int .i64 (Lib.indexByte s.data.toList r.toNat.toUInt8)) ∧ w' = w := Any.strings_IndexRune_ascii Tryz.lays152 s r w h0 h1
def Tryz.lays151_ren : Go.Shelf.Ren := ⟨fun | 151 => 85 | 152 => 95 | 137 => 78 | 119 => 102 | 224 => 98 | 225 => 97 | 217 => 92 | 266 => 101 | n => n, fun | 9 => 9 | 21 => 21 | 4 => 4 | 3 => 3 | 5 => 5 | 0 => 0 | 46 => 96 | n => n, fun | n => n⟩
theorem Tryz.lays151 : Go.Proofs.Lays.n151 Tryz.prog Tryz.lays151_ren := {
  mixed := by kernel_rfl
  f119 := Tryz.func102.trans (congrArg some (by kernel_rfl))
  f137 := Tryz.func78.trans (congrArg some (by kernel_rfl))
  f151 := Tryz.func85.trans (congrArg some (by kernel_rfl))
  f152 := Tryz.func95.trans (congrArg some (by kernel_rfl))
  f217 := Tryz.func92.trans (congrArg some (by kernel_rfl))
  f224 := Tryz.func98.trans (congrArg some (by kernel_rfl))
  f225 := Tryz.func97.trans (congrArg some (by kernel_rfl))
  f266 := Tryz.func101.trans (congrArg some (by kernel_rfl))
  t0 := Tryz.underlying0
  a0 := Tryz.isAgg0
  z0 := Tryz.sizeOf0
  v0 := Tryz.zeroValue0
  t3 := Tryz.underlying3
  a3 := Tryz.isAgg3
  z3 := Tryz.sizeOf3
  v3 := Tryz.zeroValue3
  t4 := Tryz.underlying4
  a4 := Tryz.isAgg4
  z4 := Tryz.sizeOf4
  v4 := Tryz.zeroValue4
  t5 := Tryz.underlying5
  a5 := Tryz.isAgg5
  z5 := Tryz.sizeOf5
  v5 := Tryz.zeroValue5
  t9 := Tryz.underlying9
  a9 := Tryz.isAgg9
  z9 := Tryz.sizeOf9
  v9 := Tryz.zeroValue9
  t21 := Tryz.underlying21
  a21 := Tryz.isAgg21
  z21 := Tryz.sizeOf21
  v21 := Tryz.zeroValue21
  t46 := Tryz.underlying96
  a46 := Tryz.isAgg96
  z46 := Tryz.sizeOf96
  v46 := Tryz.zeroValue96 }
open Go.RowKit Go.Lib in
theorem Tryz.strings_ContainsRune_ascii (s : ByteArray) (r : Int) (w : World) (h0 : 0 ≤ r) (h1 : r < 128) :
    Calls Tryz.prog 85 #[.string s, .int .i32 r] w fun e w' => e = .returned (.bool (decide (0 ≤ Lib.indexByte s.data.toList r.toNat.toUInt8))) ∧ w' = w := Any.strings_ContainsRune_ascii Tryz.lays151 s r w h0 h1
def Tryz.lays227_ren : Go.Shelf.Ren := ⟨fun | 227 => 68 | n => n, fun | 9 => 9 | 116 => 80 | 4 => 4 | 0 => 0 | 3 => 3 | 5 => 5 | n => n, fun | n => n⟩
theorem Tryz.lays227 : Go.Proofs.Lays.n227 Tryz.prog Tryz.lays227_ren := {
  mixed := by kernel_rfl
  f227 := Tryz.func68.trans (congrArg some (by kernel_rfl))
  t0 := Tryz.underlying0
  a0 := Tryz.isAgg0
  z0 := Tryz.sizeOf0
  v0 := Tryz.zeroValue0
  t3 := Tryz.underlying3
  a3 := Tryz.isAgg3
  z3 := Tryz.sizeOf3
  v3 := Tryz.zeroValue3
  t4 := Tryz.underlying4
  a4 := Tryz.isAgg4
  z4 := Tryz.sizeOf4
  v4 := Tryz.zeroValue4
  t5 := Tryz.underlying5
  a5 := Tryz.isAgg5
  z5 := Tryz.sizeOf5
  v5 := Tryz.zeroValue5
  t9 := Tryz.underlying9
  a9 := Tryz.isAgg9
  z9 := Tryz.sizeOf9
  v9 := Tryz.zeroValue9
  t116 := Tryz.underlying80
  a116 := Tryz.isAgg80
  z116 := Tryz.sizeOf80 }
open Go.RowKit Go.Lib in
theorem Tryz.strings_makeASCIISet (hv116 : ∀ w, (zeroValue 80).run Tryz.prog w = .ok (.agg (Array.replicate 256 (.bool false))) w) (chars : ByteArray) (w : World) (hs : chars.size < 4294967281) (hascii : ∀ (j : Nat) b, chars.data.toList[j]? = some b → b.toNat < 128) :
    Calls Tryz.prog 68 #[.string chars] w fun e w' => e = .returned (.tuple #[.agg (Lib.setCells chars.data.toList), .bool true]) ∧ w' = w.alloc (.cells (Lib.setCells chars.data.toList) 80) := Any.strings_makeASCIISet Tryz.lays227 hv116 (by kernel_rfl) chars w hs hascii
def Tryz.lays228_ren : Go.Shelf.Ren := ⟨fun | 228 => 83 | n => n, fun | 124 => 84 | 5 => 5 | 4 => 4 | 0 => 0 | 116 => 80 | n => n, fun | n => n⟩
theorem Tryz.lays228 : Go.Proofs.Lays.n228 Tryz.prog Tryz.lays228_ren := {
  mixed := by kernel_rfl
  f228 := Tryz.func83.trans (congrArg some (by kernel_rfl))
  t0 := Tryz.underlying0
  a0 := Tryz.isAgg0
  z0 := Tryz.sizeOf0
  v0 := Tryz.zeroValue0
  t4 := Tryz.underlying4
  a4 := Tryz.isAgg4
  z4 := Tryz.sizeOf4
  v4 := Tryz.zeroValue4
  t5 := Tryz.underlying5
  a5 := Tryz.isAgg5
  z5 := Tryz.sizeOf5
  v5 := Tryz.zeroValue5
  t116 := Tryz.underlying80
  a116 := Tryz.isAgg80
  z116 := Tryz.sizeOf80
  t124 := Tryz.underlying84
  a124 := Tryz.isAgg84
  z124 := Tryz.sizeOf84
  v124 := Tryz.zeroValue84 }
open Go.RowKit Go.Lib in
/-- '(as *asciiSet) contains(c)': 'as[c]': the set lies at block b, whole. (LAID: no walk: one application.) -/
theorem Tryz.asciiSet_contains (b : Nat) (x : UInt8) (v : Bool) (w : World) (hc : w.cell? ⟨b, x.toNat, none⟩ = some (.bool v)) :
    Calls Tryz.prog 83 #[.pointer (some ⟨b, 0, none⟩), .int .u8 x.toNat] w fun e w' => e = .returned (.bool v) ∧ w' = w := Any.asciiSet_contains Tryz.lays228 b x v w hc
def Tryz.lays260_ren : Go.Shelf.Ren := ⟨fun | 260 => 94 | n => n, fun | 9 => 9 | 21 => 21 | 3 => 3 | 4 => 4 | 5 => 5 | 119 => 97 | 0 => 0 | 46 => 96 | 139 => 100 | 138 => 99 | n => n, fun | 3 => 1 | 4 => 2 | n => n⟩
theorem Tryz.lays260 : Go.Proofs.Lays.n260 Tryz.prog Tryz.lays260_ren := {
  mixed := by kernel_rfl
  f260 := Tryz.func94.trans (congrArg some (by kernel_rfl))
  t0 := Tryz.underlying0
  a0 := Tryz.isAgg0
  z0 := Tryz.sizeOf0
  v0 := Tryz.zeroValue0
  t3 := Tryz.underlying3
  a3 := Tryz.isAgg3
  z3 := Tryz.sizeOf3
  v3 := Tryz.zeroValue3
  t4 := Tryz.underlying4
  a4 := Tryz.isAgg4
  z4 := Tryz.sizeOf4
  v4 := Tryz.zeroValue4
  t5 := Tryz.underlying5
  a5 := Tryz.isAgg5
  z5 := Tryz.sizeOf5
  v5 := Tryz.zeroValue5
  t9 := Tryz.underlying9
  a9 := Tryz.isAgg9
  z9 := Tryz.sizeOf9
  v9 := Tryz.zeroValue9
  t21 := Tryz.underlying21
  a21 := Tryz.isAgg21
  z21 := Tryz.sizeOf21
  v21 := Tryz.zeroValue21
  t46 := Tryz.underlying96
  a46 := Tryz.isAgg96
  z46 := Tryz.sizeOf96
  v46 := Tryz.zeroValue96
  t119 := Tryz.underlying97
  a119 := Tryz.isAgg97
  z119 := Tryz.sizeOf97
  t138 := Tryz.underlying99
  a138 := Tryz.isAgg99
  z138 := Tryz.sizeOf99
  v138 := Tryz.zeroValue99
  t139 := Tryz.underlying100
  a139 := Tryz.isAgg100
  z139 := Tryz.sizeOf100
  v139 := Tryz.zeroValue100
  g3 := by kernel_rfl
  g4 := by kernel_rfl }
open Go.RowKit Go.Lib in
theorem Tryz.utf8_decodeRuneInStringSlow (s : ByteArray) (w : World) (hT : Lib.Utf8Tabs 1 2 w) :
    Calls Tryz.prog 94 #[.string s] w fun e w' => e = .returned (.tuple #[.int .i32 (Lib.decodeGo s).1, .int .i64 (Lib.decodeGo s).2]) ∧ Below w.heap.size w w' := Any.utf8_decodeRuneInStringSlow Tryz.lays260 s w hT
end Go.Proofs
namespace Go.Proofs.YthllidchoodofaaGreatDoor
open Go.RowKit
set_option linter.unusedVariables false

set_option maxHeartbeats 400000 in
theorem isDigit_any (c : Int) (w : World) : Calls Tryz.prog 90 #[.int .u8 c] w fun e w' => e = .returned (.bool (digI c)) ∧ w = w' := by
  go_enter Tryz.func90, Tryz.ntmps90
  go_wp2
  all_goals go_ret
  all_goals exact ⟨by simp [digI, *]; try omega, rfl⟩
set_option maxHeartbeats 400000 in
theorem isSmall_any (c : Int) (w : World) : Calls Tryz.prog 104 #[.int .u8 c] w fun e w' => e = .returned (.bool (smlI c)) ∧ w = w' := by
  go_enter Tryz.func104, Tryz.ntmps104
  go_wp2
  all_goals go_ret
  all_goals exact ⟨by simp [smlI, *]; try omega, rfl⟩
set_option maxHeartbeats 400000 in
theorem isGreat_any (c : Int) (w : World) : Calls Tryz.prog 105 #[.int .u8 c] w fun e w' => e = .returned (.bool (grtI c)) ∧ w = w' := by
  go_enter Tryz.func105, Tryz.ntmps105
  go_wp2
  all_goals go_ret
  all_goals exact ⟨by simp [grtI, *]; try omega, rfl⟩
set_option maxHeartbeats 400000 in
theorem ofHost_any (c : Int) (w : World) : Calls Tryz.prog 100 #[.int .u8 c] w fun e w' => e = .returned (.bool (hostI c)) ∧ w = w' := by
  go_enter Tryz.func100, Tryz.ntmps100
  go_wp2_with (first | (go_at_call 104; refine (isSmall_any _ _).mono ?_; rintro e w' ⟨rfl, rfl⟩) | (go_at_call 105; refine (isGreat_any _ _).mono ?_; rintro e w' ⟨rfl, rfl⟩) | (go_at_call 90; refine (isDigit_any _ _).mono ?_; rintro e w' ⟨rfl, rfl⟩))
  all_goals go_ret
  all_goals exact ⟨by simp [hostI, *], rfl⟩
theorem signs_user (c : Int) (h0 : 0 ≤ c) (h1 : c ≤ 255) : decide (0 ≤ Lib.indexByte [46, 95, 61, 47, 43, 45] c.toNat.toUInt8) = (c == 46 || c == 95 || c == 61 || c == 47 || c == 43 || c == 45) := by
  have key : ∀ n : Fin 256, decide (0 ≤ Lib.indexByte [46, 95, 61, 47, 43, 45] n.val.toUInt8) = ((n.val : Int) == 46 || (n.val : Int) == 95 || (n.val : Int) == 61 || (n.val : Int) == 47 || (n.val : Int) == 43 || (n.val : Int) == 45) := by decide +kernel
  have := key ⟨c.toNat, by omega⟩
  simpa only [Int.toNat_of_nonneg h0] using this
/-- What a kind of bytes is, as the program's functions of it tell. -/
def Kind (g : Nat) (K : Int → Bool) : Prop := ∀ (c : Int) (w : World), 0 ≤ c → c ≤ 255 → Calls Tryz.prog g #[.int .u8 c] w fun e w' => e = .returned (.bool (K c)) ∧ w = w'
theorem kind_digit : Kind 90 digI := fun c w _ _ => isDigit_any c w
theorem kind_host : Kind 100 hostI := fun c w _ _ => ofHost_any c w
theorem made_no (l : List Int) (most : Int) (K : Int → Bool) (h : l.length < 1 ∨ most < (l.length : Int)) : madeI l most K = false := by
  unfold madeI
  rcases h with h | h
  · rw [decide_eq_false (by omega)]; rfl
  · rw [decide_eq_false (p := (l.length : Int) ≤ most) (by omega)]; simp
theorem made_yes (l : List Int) (most : Int) (K : Int → Bool) (h1 : 1 ≤ l.length) (h2 : (l.length : Int) ≤ most) : madeI l most K = l.all K := by
  unfold madeI
  rw [decide_eq_true h1, decide_eq_true h2]; rfl
set_option maxHeartbeats 400000 in
theorem made_digit (s : ByteArray) (most : Int) (w : World) (hs : s.size ≤ maxLen) :
    Calls Tryz.prog 89 #[.string s, .int .i64 most, .func (.func 90) #[] #[]] w fun e w' => e = .returned (.bool (madeI (sb s) most digI)) ∧ w = w' := by
  have hl := sb_length s
  unfold maxLen at hs
  have HL := Lib.hid hl; clear hl
  by_cases h1 : (s.size : Int) < 1
  · have HM := Lib.hid (made_no (sb s) most digI (by have := HL.out; omega))
    go_enter Tryz.func89, Tryz.ntmps89
    go_wp2
    go_ret
    exact ⟨by rw [HM.out]; rfl, rfl⟩
  by_cases h2 : most < (s.size : Int)
  · have HM := Lib.hid (made_no (sb s) most digI (by have := HL.out; omega))
    go_enter Tryz.func89, Tryz.ntmps89
    go_wp2
    go_ret
    exact ⟨by rw [HM.out]; rfl, rfl⟩
  have HM := Lib.hid (made_yes (sb s) most digI (by have := HL.out; omega) (by have := HL.out; omega))
  go_enter Tryz.func89, Tryz.ntmps89
  go_wp2
  go_loop [7, 19] (fun _ i => ∃ k : Nat, k ≤ s.size ∧ i = .int .i64 k ∧ ((sb s).take k).all digI = true) (fun _ i => s.size - (intOf i).toNat)
  case atStart => exact ⟨0, Nat.zero_le _, rfl, rfl⟩
  case round =>
    obtain ⟨k, hk, rfl, hall⟩ := hrel
    have H := Lib.hid hall; clear hall
    by_cases hlt : k < s.size
    · have hat := at0_sb s k hlt
      have HA := Lib.hid hat; clear hat
      have hlk : k < (sb s).length := by have := HL.out; omega
      go_wp2_with fail
      have hb := (s[k]'hlt).toNat_lt
      refine (kind_digit _ _ (by omega) (by omega)).mono ?_
      rintro e w' ⟨rfl, rfl⟩
      rw [← HA.out]
      go_wp2
      · go_ret
        refine ⟨?_, rfl⟩
        have : (sb s).all digI = false := by
          rw [List.all_eq_false]
          exact ⟨_, at0_mem hlk, by simpa using ‹(!digI (at0 (sb s) k)) = true›⟩
        rw [HM.out, this]; rfl
      · go_round
        case rel =>
          refine ⟨k + 1, by omega, by go_num, ?_⟩
          rw [List.take_add_one, List.getElem?_eq_getElem hlk, List.all_append, H.out, Option.toList_some, ← at0_lt hlk]
          have h9 : (!digI (at0 (sb s) k)) = false := by assumption
          simpa using h9
        case measure => simp [intOf]; omega
    · go_wp2
      go_ret
      refine ⟨?_, rfl⟩
      have h := H.out
      rw [List.take_of_length_le (by have := HL.out; omega)] at h
      rw [HM.out, h]; rfl

set_option maxHeartbeats 400000 in
theorem made_host (s : ByteArray) (most : Int) (w : World) (hs : s.size ≤ maxLen) :
    Calls Tryz.prog 89 #[.string s, .int .i64 most, .func (.func 100) #[] #[]] w fun e w' => e = .returned (.bool (madeI (sb s) most hostI)) ∧ w = w' := by
  have hl := sb_length s
  unfold maxLen at hs
  have HL := Lib.hid hl; clear hl
  by_cases h1 : (s.size : Int) < 1
  · have HM := Lib.hid (made_no (sb s) most hostI (by have := HL.out; omega))
    go_enter Tryz.func89, Tryz.ntmps89
    go_wp2
    go_ret
    exact ⟨by rw [HM.out]; rfl, rfl⟩
  by_cases h2 : most < (s.size : Int)
  · have HM := Lib.hid (made_no (sb s) most hostI (by have := HL.out; omega))
    go_enter Tryz.func89, Tryz.ntmps89
    go_wp2
    go_ret
    exact ⟨by rw [HM.out]; rfl, rfl⟩
  have HM := Lib.hid (made_yes (sb s) most hostI (by have := HL.out; omega) (by have := HL.out; omega))
  go_enter Tryz.func89, Tryz.ntmps89
  go_wp2
  go_loop [7, 19] (fun _ i => ∃ k : Nat, k ≤ s.size ∧ i = .int .i64 k ∧ ((sb s).take k).all hostI = true) (fun _ i => s.size - (intOf i).toNat)
  case atStart => exact ⟨0, Nat.zero_le _, rfl, rfl⟩
  case round =>
    obtain ⟨k, hk, rfl, hall⟩ := hrel
    have H := Lib.hid hall; clear hall
    by_cases hlt : k < s.size
    · have hat := at0_sb s k hlt
      have HA := Lib.hid hat; clear hat
      have hlk : k < (sb s).length := by have := HL.out; omega
      go_wp2_with fail
      have hb := (s[k]'hlt).toNat_lt
      refine (kind_host _ _ (by omega) (by omega)).mono ?_
      rintro e w' ⟨rfl, rfl⟩
      rw [← HA.out]
      go_wp2
      · go_ret
        refine ⟨?_, rfl⟩
        have : (sb s).all hostI = false := by
          rw [List.all_eq_false]
          exact ⟨_, at0_mem hlk, by simpa using ‹(!hostI (at0 (sb s) k)) = true›⟩
        rw [HM.out, this]; rfl
      · go_round
        case rel =>
          refine ⟨k + 1, by omega, by go_num, ?_⟩
          rw [List.take_add_one, List.getElem?_eq_getElem hlk, List.all_append, H.out, Option.toList_some, ← at0_lt hlk]
          have h9 : (!hostI (at0 (sb s) k)) = false := by assumption
          simpa using h9
        case measure => simp [intOf]; omega
    · go_wp2
      go_ret
      refine ⟨?_, rfl⟩
      have h := H.out
      rw [List.take_of_length_le (by have := HL.out; omega)] at h
      rw [HM.out, h]; rfl

/-- The library's variable holds some int. -/
def MaxC (w : World) : Prop := ∃ m, w.cell? ⟨0, 0, none⟩ = some (.int .i64 m)
theorem MaxC.below {w w' : World} (h : MaxC w) (hb : Below w.heap.size w w') : MaxC w' := by
  obtain ⟨m, h⟩ := h
  exact ⟨m, by rw [hb.cell (World.block_lt_of_cell? w _ h)]; exact h⟩
theorem cut_any (s : ByteArray) (w : World) (hm : MaxC w) (hs : s.size ≤ 1000000) :
    Calls Tryz.prog 54 #[.string s, .string ⟨#[58]⟩] w fun e w' => ∃ a b : ByteArray, (sb a = (sb s).take (colI (sb s)) ∧ sb b = (sb s).drop (colI (sb s) + 1)) ∧ e = .returned (.tuple #[.string a, .string b, .bool (decide (colI (sb s) < (sb s).length))]) ∧ Below w.heap.size w w' := by
  obtain ⟨m, hm⟩ := hm
  obtain ⟨h1, h2, h3⟩ := cut_col s
  refine (Tryz.strings_Cut s ⟨#[58]⟩ m w (by omega) hm).mono ?_
  rintro e w' ⟨rfl, n, rfl⟩
  exact ⟨_, _, ⟨h1, h2⟩, by rw [← h3], below_drewN (Below.refl _ _) n⟩
theorem cut_yes (s : ByteArray) (w : World) (hm : MaxC w) (hs : s.size ≤ 1000000) (hc : colI (sb s) < (sb s).length) :
    Calls Tryz.prog 54 #[.string s, .string ⟨#[58]⟩] w fun e w' => ∃ a b : ByteArray, (sb a = (sb s).take (colI (sb s)) ∧ sb b = (sb s).drop (colI (sb s) + 1)) ∧ e = .returned (.tuple #[.string a, .string b, .bool true]) ∧ Below w.heap.size w w' := by
  have := cut_any s w hm hs
  rwa [decide_eq_true hc] at this
theorem cut_no (s : ByteArray) (w : World) (hm : MaxC w) (hs : s.size ≤ 1000000) (hc : ¬ colI (sb s) < (sb s).length) :
    Calls Tryz.prog 54 #[.string s, .string ⟨#[58]⟩] w fun e w' => ∃ a b : ByteArray, (sb a = (sb s).take (colI (sb s)) ∧ sb b = (sb s).drop (colI (sb s) + 1)) ∧ e = .returned (.tuple #[.string a, .string b, .bool false]) ∧ Below w.heap.size w w' := by
  have := cut_any s w hm hs
  rwa [decide_eq_false hc] at this
theorem dots_any (s : ByteArray) (w : World) (hm : MaxC w) (hs : s.size ≤ 1000000) (b : Bool) (hb : dotsI (sb s) = b) :
    Calls Tryz.prog 74 #[.string s, .string ⟨#[46, 46]⟩] w fun e w' => e = .returned (.bool b) ∧ w = w' := by
  obtain ⟨m, hm⟩ := hm
  refine (Tryz.strings_Contains s ⟨#[46, 46]⟩ m w (by omega) hm).mono ?_
  rintro e w' ⟨rfl, rfl⟩
  exact ⟨by rw [← hb, dots_lib]; rfl, rfl⟩
theorem trim_any (s : ByteArray) (w : World) (hs : s.size ≤ 1000000) :
    Calls Tryz.prog 53 #[.string s, .string ⟨#[46, 45]⟩] w fun e w' => ∃ t : ByteArray, (t = s ↔ edgesI (sb s) = true) ∧ e = .returned (.string t) ∧ Below w.heap.size w w' := by
  refine (Any.strings_Trim_laid Tryz.lays160 (by kernel_rfl) s ⟨#[46, 45]⟩ w (by omega) (by decide) (ascii_of_all (by decide))).mono ?_
  rintro e w' ⟨rfl, hb⟩
  refine ⟨_, ?_, rfl, hb⟩
  rw [sb, ← trimS_edges]
  constructor
  · intro h
    have := congrArg (fun t : ByteArray => t.data.toList) h
    simpa using this
  · intro h
    show (⟨(Lib.trimS s.data.toList [46, 45]).toArray⟩ : ByteArray) = s
    rw [h]
set_option maxHeartbeats 400000 in
theorem host_any (s : ByteArray) (w : World) (hm : MaxC w) (hs : s.size ≤ 1000000) :
    Calls Tryz.prog 91 #[.string s] w fun e w' => e = .returned (.bool (hostL (sb s))) ∧ Below w.heap.size w w' := by
  have hs' : s.size ≤ maxLen := by unfold maxLen; omega
  have HM := made_host s 230
  cases h1 : madeI (sb s) 230 hostI
  · have HF := Lib.hid (show hostL (sb s) = false by rw [hostL, h1]; rfl)
    rw [h1] at HM
    clear h1
    go_enter Tryz.func91, Tryz.ntmps91
    go_wp2_with fail
    refine (HM _ hs').mono ?_
    rintro e w' ⟨rfl, rfl⟩
    go_wp2
    go_ret
    exact ⟨by rw [HF.out]; rfl, Below.refl _ _⟩
  rw [h1] at HM
  cases h2 : dotsI (sb s)
  · have HD := dots_any s w hm hs false h2
    have HF := Lib.hid (show hostL (sb s) = edgesI (sb s) by rw [hostL, h1, h2]; rfl)
    have HT := trim_any s w hs
    clear h1 h2
    go_enter Tryz.func91, Tryz.ntmps91
    go_wp2_with fail
    refine (HM _ hs').mono ?_
    rintro e w' ⟨rfl, rfl⟩
    go_wp2_with fail
    refine HD.mono ?_
    rintro e w' ⟨rfl, rfl⟩
    go_wp2_with fail
    refine HT.mono ?_
    rintro e w1 ⟨t, ht, rfl, hb⟩
    go_wp2
    go_ret
    refine ⟨?_, hb⟩
    rw [HF.out]
    show Ending.returned (.bool (t.toList == s.toList)) = _
    by_cases hts : t = s
    · rw [str_eq_yes hts, ht.1 hts]
    · rw [str_eq_no hts]
      cases he : edgesI (sb s)
      · rfl
      · exact (hts (ht.2 he)).elim
  · have HD := dots_any s w hm hs true h2
    have HF := Lib.hid (show hostL (sb s) = false by rw [hostL, h1, h2]; rfl)
    clear h1 h2
    go_enter Tryz.func91, Tryz.ntmps91
    go_wp2_with fail
    refine (HM _ hs').mono ?_
    rintro e w' ⟨rfl, rfl⟩
    go_wp2_with fail
    refine HD.mono ?_
    rintro e w' ⟨rfl, rfl⟩
    go_wp2
    go_ret
    exact ⟨by rw [HF.out]; rfl, Below.refl _ _⟩
end Go.Proofs.YthllidchoodofaaGreatDoor
namespace Go.Proofs.YthllidchoodofaaGreatDoor
open Go.RowKit
set_option linter.unusedVariables false

theorem sb_extract (s : ByteArray) (i j : Nat) : sb (s.extract i j) = ((sb s).take j).drop i := by
  rw [Lib.extract_eq]
  simp [sb, List.map_take, List.map_drop, List.drop_take]
theorem sb_tail (s : ByteArray) (i : Nat) : sb (s.extract i s.size) = (sb s).drop i := by
  rw [sb_extract, List.take_of_length_le (by rw [sb_length]; omega)]
theorem size_of_sb {a : ByteArray} {l : List Int} {n : Nat} (h : sb a = l) (hl : l.length ≤ n) : a.size ≤ n := by
  rw [← sb_length, h]; exact hl
set_option maxHeartbeats 400000 in
theorem server_any (s : ByteArray) (w : World) (hm : MaxC w) (hs : s.size ≤ 1000000) :
    Calls Tryz.prog 76 #[.string s] w fun e w' => e = .returned (.bool (serverL (sb s))) ∧ Below w.heap.size w w' := by
  have hL := sb_length s
  by_cases hc : colI (sb s) < (sb s).length
  · have HC := cut_yes s w hm hs hc
    have HD := Lib.hid (show decide ((sb s).length ≤ colI (sb s)) = false by simp; omega)
    have HL := Lib.hid hL; clear hL hc
    go_enter Tryz.func76, Tryz.ntmps76
    go_wp2_with fail
    refine HC.mono ?_
    rintro e w1 ⟨a, b, hab, rfl, hb⟩
    have sa := size_of_sb (n := 1000000) hab.1 (by have := HL.out; rw [List.length_take]; omega)
    have sb' := size_of_sb (n := 1000000) hab.2 (by have := HL.out; rw [List.length_drop]; omega)
    have HAB := Lib.hid hab; clear hab HC
    have hm1 := hm.below hb
    go_wp2_with fail
    refine (made_digit b 5 _ (by unfold maxLen; omega)).mono ?_
    rintro e w' ⟨rfl, rfl⟩
    go_wp2_with (go_at_call 91; refine (host_any a _ hm1 sa).mono ?_; rintro e w2 ⟨rfl, hb2⟩)
    · go_ret
      refine ⟨?_, hb⟩
      have h1 : (!madeI (sb b) 5 digI) = true := by assumption
      have h2 : madeI (sb b) 5 digI = false := by simpa using h1
      rw [HAB.out.2] at h2
      rw [serverL, HD.out, h2]; rfl
    · go_ret
      refine ⟨?_, below_then hb hb2⟩
      have h1 : (!madeI (sb b) 5 digI) = false := by assumption
      have h2 : madeI (sb b) 5 digI = true := by simpa using h1
      rw [HAB.out.2] at h2
      rw [serverL, HD.out, h2, ← HAB.out.1]; rfl
  · have HC := cut_no s w hm hs hc
    have HD := Lib.hid (show decide ((sb s).length ≤ colI (sb s)) = true by simp; omega)
    have HL := Lib.hid hL; clear hL hc
    go_enter Tryz.func76, Tryz.ntmps76
    go_wp2_with fail
    refine HC.mono ?_
    rintro e w1 ⟨a, b, hab, rfl, hb⟩
    have sa := size_of_sb (n := 1000000) hab.1 (by have := HL.out; rw [List.length_take]; omega)
    have HAB := Lib.hid hab; clear hab HC
    have hm1 := hm.below hb
    go_wp2_with (go_at_call 91; refine (host_any a _ hm1 sa).mono ?_; rintro e w2 ⟨rfl, hb2⟩)
    go_ret
    refine ⟨?_, below_then hb hb2⟩
    rw [serverL, HD.out, ← HAB.out.1]; rfl
theorem head_at (l : List Int) (h : 0 < l.length) : l.head? = some (at0 l 0) := by
  cases l with
  | nil => simp at h
  | cons x l => rfl
end Go.Proofs.YthllidchoodofaaGreatDoor
namespace Go.Proofs.YthllidchoodofaaGreatDoor
open Go.RowKit
set_option linter.unusedVariables false
/-- The library's variable, and that no block of one's own is its. -/
def MaxL (L : List Nat) (w : World) : Prop := MaxC w ∧ 0 ∉ L
theorem MaxC.lt {w : World} (h : MaxC w) : 0 < w.heap.size := by
  obtain ⟨m, h⟩ := h
  exact World.block_lt_of_cell? w _ h
theorem MaxL.below {L : List Nat} {w w' : World} (h : MaxL L w) (hb : Below w.heap.size w w') : MaxL L w' := ⟨h.1.below hb, h.2⟩
theorem MaxL.more {L : List Nat} {w w' : World} (h : MaxL L w) (hb : Below w.heap.size w w') {B : Nat} (hB : w.heap.size ≤ B) : MaxL (B :: L) w' := ⟨h.1.below hb, fun hx => by
  have := h.1.lt
  rcases List.mem_cons.1 hx with e | e
  · omega
  · exact h.2 e⟩
theorem MaxC.at {w w' : World} (h : MaxC w) (he : w'.heap[0]? = w.heap[0]?) : MaxC w' := by
  obtain ⟨m, h⟩ := h
  exact ⟨m, by unfold World.cell? at h ⊢; simp only [he]; exact h⟩
theorem MaxL.only {L : List Nat} {w w' : World} (h : MaxL L w) {B : Nat} (ho : Only B w w') (hB : B ∈ L) : MaxL L w' := ⟨h.1.at (ho.block 0 (fun e => h.2 (e ▸ hB))), h.2⟩
theorem MaxL.grow' {L : List Nat} {B B' : Nat} {w w' : World} (h : MaxL L w) (hg : GrowB B B' w w') (hB : B ∈ L) : MaxL (B' :: L) w' := ⟨h.1.at (hg.block 0 h.1.lt (fun e => h.2 (e ▸ hB))), fun hx => by
  have := h.1.lt
  rcases List.mem_cons.1 hx with e | e
  · rcases hg.new with n | n
    · exact h.2 (by rw [e, n]; exact hB)
    · omega
  · exact h.2 e⟩
theorem MaxL.less {L L' : List Nat} {w : World} (h : MaxL L w) (hl : ∀ x, x ∈ L' → x ∈ L) : MaxL L' w := ⟨h.1, fun hx => h.2 (hl _ hx)⟩
theorem MaxL.nil {L : List Nat} {w : World} (h : MaxL L w) : MaxL [] w := ⟨h.1, by simp⟩
end Go.Proofs.YthllidchoodofaaGreatDoor
--@optional
namespace Go.Proofs.YthllidchoodofaaGreatDoor
open Go.RowKit
set_option linter.unusedVariables false

def lowI (x : Int) : Int := if 65 ≤ x ∧ x ≤ 90 then x + 32 else x
theorem low_bytes {l : List Int} (h : Bytes l) : Bytes (l.map lowI) := by
  intro x hx
  obtain ⟨y, hy, rfl⟩ := List.mem_map.1 hx
  have := h y hy
  unfold lowI
  split <;> omega
/-- A text with small letters. -/
def lowS (s : ByteArray) : ByteArray := strOfNums ((sb s).map lowI)
def okI (x : Int) : Bool := decide (32 ≤ x) && decide (x ≤ 126)
def printS (s : ByteArray) : Bool := (sb s).all okI

/-- The first k are small. -/
def lowTo (l : List Int) (k : Nat) : List Int := (l.take k).map lowI ++ l.drop k
theorem lowTo_length (l : List Int) (k : Nat) (hk : k ≤ l.length) : (lowTo l k).length = l.length := by simp [lowTo]; omega
theorem lowTo_zero (l : List Int) : lowTo l 0 = l := by simp [lowTo]
theorem lowTo_all (l : List Int) : lowTo l l.length = l.map lowI := by simp [lowTo]
theorem at0_lowTo (l : List Int) (k : Nat) (hk : k < l.length) : at0 (lowTo l k) k = at0 l k := by
  simp only [at0, lowTo]
  rw [List.getElem?_append_right (by simp; omega)]
  simp only [List.length_map, List.length_take, List.getElem?_drop]
  congr 2
  omega
theorem lowTo_succ (l : List Int) (k : Nat) (hk : k < l.length) : lowTo l (k + 1) = (lowTo l k).set k (lowI (at0 l k)) := by
  apply List.ext_getElem
  · rw [lowTo_length _ _ (by omega), List.length_set, lowTo_length _ _ (by omega)]
  intro i h1 h2
  rw [lowTo_length _ _ (by omega)] at h1
  rw [List.getElem_set]
  simp only [lowTo, List.getElem_append, List.length_map, List.length_take]
  by_cases hik : i = k
  · subst hik
    have a1 : i < min (i + 1) l.length := by omega
    simp [at0, hk, a1]
  · by_cases hlt : i < k
    · have a1 : i < min (k + 1) l.length := by omega
      have a2 : i < min k l.length := by omega
      simp [a1, a2, show ¬ k = i by omega]
    · have a1 : ¬ i < min (k + 1) l.length := by omega
      have a2 : ¬ i < min k l.length := by omega
      simp [a1, a2, show ¬ k = i by omega]
      congr 1
      omega
theorem lowTo_same (l : List Int) (k : Nat) (hk : k < l.length) (h : lowI (at0 l k) = at0 l k) : lowTo l (k + 1) = lowTo l k := by
  rw [lowTo_succ l k hk, h, ← at0_lowTo l k hk]
  have hl : k < (lowTo l k).length := by rw [lowTo_length _ _ (by omega)]; exact hk
  rw [at0_lt hl]
  exact List.set_getElem_self hl

set_option maxHeartbeats 1000000 in
theorem lower_any (s : ByteArray) (w : World) (hs : s.size ≤ maxLen) :
    Calls Tryz.prog 57 #[.string s] w fun e w' => e = .returned (.string (lowS s)) ∧ Below w.heap.size w w' := by
  have hs0 := hs
  unfold maxLen at hs
  go_enter Tryz.func57, Tryz.ntmps57
  go_wp2_with (with_reducible refine wpList_conv_sb rfl _ _ _ 5 rfl Tryz.underlying9 Tryz.underlying87 Tryz.underlying5 s rfl hs0 ?_; intro w1 cap hc1 hc2 hrow hbel)
  go_loopw [4, 9] (fun _ i wr => ∃ k : Nat, k ≤ s.size ∧ i = .int .i64 k ∧ BRow .u8 wr w.heap.size (lowTo (sb s) k) ∧ Below w.heap.size w wr) (fun _ i _ => s.size - (intOf i).toNat)
  case atStart => exact ⟨0, Nat.zero_le _, rfl, by rw [lowTo_zero]; exact hrow, hbel⟩
  case round =>
    obtain ⟨k, hk, rfl, hr, hb⟩ := hrel
    clear hrow hbel
    by_cases hlt : k < s.size
    · have hl : k < (sb s).length := by rw [sb_length]; exact hlt
      have hl2 : k < (lowTo (sb s) k).length := by rw [lowTo_length _ _ (by omega)]; exact hl
      have hcell := hr.cell hl2
      rw [at0_lowTo _ _ hl] at hcell
      have hfr := hr.free hl2
      obtain ⟨z0, z1⟩ := (sb_bytes s).at k
      have HR := Lib.hid hr; clear hr
      go_wp2
      · refine ⟨⟨k + 1, by omega, by go_num, ?_, hb.setCell (Nat.le_refl _) _⟩, by simp [intOf]; omega⟩
        rw [lowTo_succ _ _ hl, show lowI (at0 (sb s) k) = at0 (sb s) k + 32 from if_pos ⟨by assumption, by assumption⟩]
        exact HR.out.set hl2 _
      · refine ⟨⟨k + 1, by omega, by go_num, ?_, hb⟩, by simp [intOf]; omega⟩
        rw [lowTo_same _ _ hl (if_neg (by omega))]
        exact HR.out
      · refine ⟨⟨k + 1, by omega, by go_num, ?_, hb⟩, by simp [intOf]; omega⟩
        rw [lowTo_same _ _ hl (if_neg (by omega))]
        exact HR.out
    · have hks : k = s.size := by omega
      have hrd : RdI .u8 wr (.slice (some ⟨w.heap.size, 0, none⟩) s.size cap) ((sb s).map lowI) := by
        rw [hks, ← sb_length s, lowTo_all] at hr
        have := hr.rd (cap := cap) (by simp [sb_length]; exact hc1) hc2
        simpa [sb_length] using this
      clear hks hr
      have hcv := run_conv_bs (P := Tryz.prog) 87 9 5 Tryz.underlying87 Tryz.underlying9 Tryz.underlying5 _ _ hrd
      go_wp2
      go_ret
      exact ⟨rfl, hb⟩
set_option maxHeartbeats 1000000 in
theorem ref_lower_any (s : ByteArray) (w : World) (hs : s.size ≤ maxLen) :
    Calls Tryz.prog 64 #[.string s] w fun e w' => e = .returned (.string (lowS s)) ∧ Below w.heap.size w w' := by
  have hs0 := hs
  unfold maxLen at hs
  go_enter Tryz.func64, Tryz.ntmps64
  go_wp2_with (with_reducible refine wpList_conv_sb rfl _ _ _ 5 rfl Tryz.underlying9 Tryz.underlying87 Tryz.underlying5 s rfl hs0 ?_; intro w1 cap hc1 hc2 hrow hbel)
  go_loopw [4] (fun i wr => ∃ k : Nat, k ≤ s.size ∧ i = .int .i64 k ∧ BRow .u8 wr w.heap.size (lowTo (sb s) k) ∧ Below w.heap.size w wr) (fun i _ => s.size - (intOf i).toNat)
  case atStart => exact ⟨0, Nat.zero_le _, rfl, by rw [lowTo_zero]; exact hrow, hbel⟩
  case round =>
    obtain ⟨k, hk, rfl, hr, hb⟩ := hrel
    clear hrow hbel
    by_cases hlt : k < s.size
    · have hl : k < (sb s).length := by rw [sb_length]; exact hlt
      have hl2 : k < (lowTo (sb s) k).length := by rw [lowTo_length _ _ (by omega)]; exact hl
      have hcell := hr.cell hl2
      rw [at0_lowTo _ _ hl] at hcell
      have hfr := hr.free hl2
      obtain ⟨z0, z1⟩ := (sb_bytes s).at k
      have HR := Lib.hid hr; clear hr
      go_wp2
      · refine ⟨⟨k + 1, by omega, by go_num, ?_, hb.setCell (Nat.le_refl _) _⟩, by simp [intOf]; omega⟩
        rw [lowTo_succ _ _ hl, show lowI (at0 (sb s) k) = at0 (sb s) k + 32 from if_pos ⟨by assumption, by assumption⟩]
        exact HR.out.set hl2 _
      · refine ⟨⟨k + 1, by omega, by go_num, ?_, hb⟩, by simp [intOf]; omega⟩
        rw [lowTo_same _ _ hl (if_neg (by omega))]
        exact HR.out
      · refine ⟨⟨k + 1, by omega, by go_num, ?_, hb⟩, by simp [intOf]; omega⟩
        rw [lowTo_same _ _ hl (if_neg (by omega))]
        exact HR.out
    · have hks : k = s.size := by omega
      have hrd : RdI .u8 wr (.slice (some ⟨w.heap.size, 0, none⟩) s.size cap) ((sb s).map lowI) := by
        rw [hks, ← sb_length s, lowTo_all] at hr
        have := hr.rd (cap := cap) (by simp [sb_length]; exact hc1) hc2
        simpa [sb_length] using this
      clear hks hr
      have hcv := run_conv_bs (P := Tryz.prog) 87 9 5 Tryz.underlying87 Tryz.underlying9 Tryz.underlying5 _ _ hrd
      go_wp2
      go_ret
      exact ⟨rfl, hb⟩
end Go.Proofs.YthllidchoodofaaGreatDoor
namespace Go.Proofs.YthllidchoodofaaGreatDoor
open Go.RowKit
set_option linter.unusedVariables false

def lsgI (c : Int) : Bool := [46, 33, 35, 36, 37, 38, 39, 42, 43, 47, 61, 63, 94, 95, 96, 123, 124, 125, 126, 45].contains c
def locI (c : Int) : Bool := digI c || smlI c || grtI c || lsgI c
def dotI (c : Int) : Bool := c == 46
/-- Neither end is a point. -/
def pedgesI (l : List Int) : Bool := !(l.head?.any dotI) && !(l.getLast?.any dotI)
def localL (l : List Int) : Bool := madeI l 64 locI && (!dotsI l && pedgesI l)
def domainL (l : List Int) : Bool := hostL l && l.contains 46
def spI (c : Int) : Bool := c == 32
/-- Without blanks at both ends. -/
def trimI (l : List Int) : List Int := ((l.reverse.dropWhile spI).reverse).dropWhile spI
def atI (l : List Int) : Nat := l.findIdx (· == 64)
def mailB (t : List Int) : Bool := decide (atI t < t.length) && (decide (t.length ≤ 254) && (localL (t.take (atI t)) && domainL (t.drop (atI t + 1))))

theorem signs_local (c : Int) (h0 : 0 ≤ c) (h1 : c ≤ 255) : decide (0 ≤ Lib.indexByte [46, 33, 35, 36, 37, 38, 39, 42, 43, 47, 61, 63, 94, 95, 96, 123, 124, 125, 126, 45] c.toNat.toUInt8) = lsgI c := by
  have key : ∀ n : Fin 256, decide (0 ≤ Lib.indexByte [46, 33, 35, 36, 37, 38, 39, 42, 43, 47, 61, 63, 94, 95, 96, 123, 124, 125, 126, 45] n.val.toUInt8) = lsgI (n.val : Int) := by decide +kernel
  have := key ⟨c.toNat, by omega⟩
  simpa only [Int.toNat_of_nonneg h0] using this
theorem cut_gen (s : ByteArray) (c : UInt8) : sb ⟨(Lib.cut s.data.toList [c]).1.toArray⟩ = (sb s).take ((sb s).findIdx (· == (c.toNat : Int))) ∧ sb ⟨(Lib.cut s.data.toList [c]).2.1.toArray⟩ = (sb s).drop ((sb s).findIdx (· == (c.toNat : Int)) + 1) ∧ (Lib.cut s.data.toList [c]).2.2 = decide ((sb s).findIdx (· == (c.toNat : Int)) < (sb s).length) := by
  have hc : (sb s).findIdx (· == (c.toNat : Int)) = s.data.toList.findIdx (· == c) := findIdx_sb s.data.toList c
  have hl : (sb s).length = s.data.toList.length := by simp [sb]
  rw [sb_mk (Lib.cut s.data.toList [c]).1, sb_mk (Lib.cut s.data.toList [c]).2.1, hc, hl, Lib.cut, index_one]
  by_cases hlt : s.data.toList.findIdx (· == c) < s.data.toList.length
  · rw [if_pos hlt, if_pos (by omega)]
    refine ⟨?_, ?_, ?_⟩
    · simp [sb, List.map_take]
    · simp [sb, List.map_drop]
    · simp only [decide_eq_true hlt]
  · rw [if_neg hlt, if_neg (by omega)]
    refine ⟨?_, ?_, ?_⟩
    · rw [List.take_of_length_le (by rw [hl]; omega)]; simp [sb]
    · rw [List.drop_of_length_le (by rw [hl]; omega)]; rfl
    · simp only [decide_eq_false hlt]
theorem dropWhile_map (p : Int → Bool) (q : UInt8 → Bool) (h : ∀ c, q c = p (c.toNat : Int)) (l : List UInt8) : (l.dropWhile q).map (fun c => (c.toNat : Int)) = (l.map fun c => (c.toNat : Int)).dropWhile p := by
  induction l with
  | nil => rfl
  | cons x r ih =>
    rw [List.dropWhile_cons, List.map_cons, List.dropWhile_cons, h x]
    split
    · exact ih
    · rfl
theorem beq_num (x c : UInt8) : (x == c) = ((x.toNat : Int) == (c.toNat : Int)) := (toNat_beq x c).symm
theorem trim_sp (l : List UInt8) : (Lib.trimB l 32).map (fun c => (c.toNat : Int)) = trimI (l.map fun c => (c.toNat : Int)) := by
  have hq : ∀ c : UInt8, (c == 32) = spI (c.toNat : Int) := fun c => beq_num c 32
  unfold Lib.trimB Lib.trimLeftB Lib.trimRightB trimI
  rw [dropWhile_map spI (fun c => c == 32) hq, List.map_reverse, dropWhile_map spI (fun c => c == 32) hq, List.map_reverse]
theorem any_dot (o : Option UInt8) : (o.map fun c => (c.toNat : Int)).any dotI = o.any fun c => ([46] : List UInt8).contains c := by
  cases o with
  | none => rfl
  | some c =>
    show dotI (c.toNat : Int) = ([46] : List UInt8).contains c
    rw [Lib.contains_one]; exact (beq_num c 46).symm
theorem trimS_pedges (l : List UInt8) : (Lib.trimS l [46] = l) ↔ pedgesI (l.map fun c => (c.toNat : Int)) = true := by
  have hh : (l.map fun c => (c.toNat : Int)).head?.any dotI = l.head?.any fun c => ([46] : List UInt8).contains c := by rw [List.head?_map, any_dot]
  have hg : (l.map fun c => (c.toNat : Int)).getLast?.any dotI = l.getLast?.any fun c => ([46] : List UInt8).contains c := by rw [List.getLast?_map, any_dot]
  rw [pedgesI, hh, hg]
  have hr := dropWhile_same (fun c => ([46] : List UInt8).contains c) l.reverse
  rw [List.head?_reverse] at hr
  unfold Lib.trimS Lib.trimLeftS Lib.trimRightS
  generalize (fun c => ([46] : List UInt8).contains c) = p at *
  rcases hr with ⟨h1, h2⟩ | ⟨h1, h2⟩
  · rw [h1, List.reverse_reverse, h2]
    rcases dropWhile_same p l with ⟨h3, h4⟩ | ⟨h3, h4⟩
    · rw [h4, h3]; simp
    · rw [h4]
      refine ⟨fun e => ?_, fun e => by cases e⟩
      rw [e] at h3
      omega
  · rw [h2]
    refine ⟨fun e => ?_, fun e => by simp at e⟩
    have := dropWhile_len p (l.reverse.dropWhile p).reverse
    rw [e, List.length_reverse] at this
    rw [List.length_reverse] at h1
    omega
theorem made_len {l : List Int} {most : Int} {K : Int → Bool} (h : madeI l most K = true) : 1 ≤ l.length ∧ (l.length : Int) ≤ most ∧ l.all K = true := by
  simp only [madeI, Bool.and_eq_true, decide_eq_true_eq] at h
  exact ⟨h.1, h.2.1, h.2.2⟩
theorem host_no_colon {l : List Int} (h : hostL l = true) : colI l = l.length := by
  simp only [hostL, Bool.and_eq_true] at h
  obtain ⟨-, -, ha⟩ := made_len h.1
  unfold colI
  rw [List.findIdx_eq_length]
  intro x hx
  have := List.all_eq_true.1 ha x hx
  cases hq : (x == 58)
  · rfl
  · rw [beq_iff_eq.1 hq] at this; cases this
theorem domain_server (l : List Int) : (serverL l && (l.contains 46 && !l.contains 58)) = domainL l := by
  unfold domainL
  cases hc : l.contains 58
  · have e : colI l = l.length := by
      unfold colI
      rw [List.findIdx_eq_length]
      intro x hx
      cases hq : (x == 58)
      · rfl
      · rw [beq_iff_eq.1 hq] at hx
        have : l.contains 58 = true := by simpa using hx
        rw [hc] at this; cases this
    have e2 : serverL l = hostL l := by rw [serverL, e, List.take_length, decide_eq_true (Nat.le_refl _)]; rfl
    rw [e2]; simp
  · cases hh : hostL l
    · simp
    · have := host_no_colon hh
      unfold colI at this
      rw [List.findIdx_eq_length] at this
      have h58 : (58 : Int) ∈ l := by simpa using hc
      have := this 58 h58
      cases this
end Go.Proofs.YthllidchoodofaaGreatDoor
namespace Go.Proofs.YthllidchoodofaaGreatDoor
open Go.RowKit
set_option linter.unusedVariables false

set_option maxHeartbeats 400000 in
theorem server_is (s : ByteArray) (b : Bool) (w : World) (hm : MaxC w) (hs : s.size ≤ 1000000) (hb : serverL (sb s) = b) : Calls Tryz.prog 76 #[.string s] w fun e w' => e = .returned (.bool b) ∧ Below w.heap.size w w' := by rw [← hb]; exact server_any s w hm hs
theorem adigit_any (c : Int) (w : World) : Calls Tryz.prog 77 #[.int .u8 c] w fun e w' => e = .returned (.bool (digI c)) ∧ w = w' := by
  go_enter Tryz.func77, Tryz.ntmps77
  go_wp2
  all_goals go_ret
  all_goals exact ⟨by simp [digI, *]; try omega, rfl⟩
theorem adigit_is (c : Int) (b : Bool) (w : World) (h : digI c = b) : Calls Tryz.prog 77 #[.int .u8 c] w fun e w' => e = .returned (.bool b) ∧ w = w' := by rw [← h]; exact adigit_any c w
theorem idxLocal_any (c : Int) (b : Bool) (w : World) (h0 : 0 ≤ c) (h1 : c ≤ 255) (h : lsgI c = b) :
    Calls Tryz.prog 78 #[.string ⟨#[46, 33, 35, 36, 37, 38, 39, 42, 43, 47, 61, 63, 94, 95, 96, 123, 124, 125, 126, 45]⟩, .int .u8 c] w fun e w' => (∃ k : Int, decide (0 ≤ k) = b ∧ e = .returned (.int .i64 k)) ∧ w = w' := by
  refine (Tryz.strings_IndexByte ⟨#[46, 33, 35, 36, 37, 38, 39, 42, 43, 47, 61, 63, 94, 95, 96, 123, 124, 125, 126, 45]⟩ c w).mono ?_
  rintro e w' ⟨rfl, rfl⟩
  exact ⟨⟨_, by rw [← h, ← signs_local c h0 h1], rfl⟩, rfl⟩
set_option maxHeartbeats 400000 in
theorem ofLocal_any (c : Int) (w : World) (h0 : 0 ≤ c) (h1 : c ≤ 255) : Calls Tryz.prog 75 #[.int .u8 c] w fun e w' => e = .returned (.bool (locI c)) ∧ w = w' := by
  have HI := fun w' => idxLocal_any c (lsgI c) w' h0 h1 rfl
  have HD := adigit_any c
  go_enter Tryz.func75, Tryz.ntmps75
  go_wp2_with (first | (go_at_call 77; refine (HD _).mono ?_; rintro e w' ⟨rfl, rfl⟩) | (go_at_call 78; refine (HI _).mono ?_; rintro e w' ⟨⟨k, hk, rfl⟩, rfl⟩; have HK := Lib.hid hk; clear hk))
  all_goals go_ret
  all_goals refine ⟨?_, rfl⟩
  · have h : digI c = true := by assumption
    show Ending.returned (.bool true) = _
    rw [locI, h]; rfl
  · have h : digI c = false := by simpa using ‹¬digI c = true›
    show Ending.returned (.bool (decide (0 ≤ k))) = _
    rw [HK.out, locI, h, smlI, grtI, decide_eq_false (show ¬ c ≤ 122 by omega), decide_eq_false (show ¬ c ≤ 90 by omega)]; simp
  · show Ending.returned (.bool true) = _
    rw [locI, smlI, decide_eq_true (show 97 ≤ c by assumption), decide_eq_true (show c ≤ 122 by assumption)]; simp
  · show Ending.returned (.bool true) = _
    rw [locI, grtI, decide_eq_true (show 65 ≤ c by assumption), decide_eq_true (show c ≤ 90 by assumption)]; simp
  · have h : digI c = false := by simpa using ‹¬digI c = true›
    show Ending.returned (.bool (decide (0 ≤ k))) = _
    rw [HK.out, locI, h, smlI, grtI, decide_eq_false (show ¬ 97 ≤ c by omega), decide_eq_false (show ¬ c ≤ 90 by omega)]; simp
  · have h : digI c = false := by simpa using ‹¬digI c = true›
    show Ending.returned (.bool (decide (0 ≤ k))) = _
    rw [HK.out, locI, h, smlI, grtI, decide_eq_false (show ¬ 97 ≤ c by omega), decide_eq_false (show ¬ 65 ≤ c by omega)]; simp
theorem ofLocal_is (c : Int) (b : Bool) (w : World) (h0 : 0 ≤ c) (h1 : c ≤ 255) (h : locI c = b) : Calls Tryz.prog 75 #[.int .u8 c] w fun e w' => e = .returned (.bool b) ∧ w = w' := by rw [← h]; exact ofLocal_any c w h0 h1
theorem trim1_any (s : ByteArray) (w : World) (hs : s.size ≤ 1000000) :
    Calls Tryz.prog 53 #[.string s, .string ⟨#[46]⟩] w fun e w' => ∃ t : ByteArray, (t = s ↔ pedgesI (sb s) = true) ∧ e = .returned (.string t) ∧ Below w.heap.size w w' := by
  refine (Tryz.strings_Trim_one s 46 (by decide) w (by omega)).mono ?_
  rintro e w' ⟨rfl, hw⟩
  refine ⟨_, ?_, rfl, ?_⟩
  · rw [sb, ← trimS_pedges, Lib.trimS_one]
    constructor
    · intro h
      have := congrArg (fun t : ByteArray => t.data.toList) h
      simpa using this
    · intro h
      show (⟨(Lib.trimB s.data.toList 46).toArray⟩ : ByteArray) = s
      rw [h]
  · rcases hw with rfl | rfl
    · exact Below.refl _ _
    · exact (Below.refl _ _).drew
theorem trimsp_any (s : ByteArray) (w : World) (hs : s.size ≤ 140737488355328) :
    Calls Tryz.prog 53 #[.string s, .string ⟨#[32]⟩] w fun e w' => ∃ t : ByteArray, sb t = trimI (sb s) ∧ e = .returned (.string t) ∧ Below w.heap.size w w' := by
  refine (Tryz.strings_Trim_one s 32 (by decide) w (by omega)).mono ?_
  rintro e w' ⟨rfl, hw⟩
  refine ⟨_, ?_, rfl, ?_⟩
  · rw [sb_mk, trim_sp]; rfl
  · rcases hw with rfl | rfl
    · exact Below.refl _ _
    · exact (Below.refl _ _).drew
set_option maxHeartbeats 1000000 in
theorem local_any (s : ByteArray) (w : World) (hm : MaxC w) (hs : s.size ≤ 1000000) :
    Calls Tryz.prog 55 #[.string s] w fun e w' => e = .returned (.bool (localL (sb s))) ∧ Below w.heap.size w w' := by
  have hl := sb_length s
  by_cases h1 : (s.size : Int) < 1
  · have HF := Lib.hid (show localL (sb s) = false by rw [localL, made_no _ _ _ (by omega)]; rfl)
    clear hl
    go_enter Tryz.func55, Tryz.ntmps55
    go_wp2
    go_ret
    exact ⟨by rw [HF.out]; rfl, Below.refl _ _⟩
  by_cases h2 : (64 : Int) < s.size
  · have HF := Lib.hid (show localL (sb s) = false by rw [localL, made_no _ _ _ (by omega)]; rfl)
    clear hl
    go_enter Tryz.func55, Tryz.ntmps55
    go_wp2
    go_ret
    exact ⟨by rw [HF.out]; rfl, Below.refl _ _⟩
  have hlv : localL (sb s) = ((sb s).all locI && (!dotsI (sb s) && pedgesI (sb s))) := by rw [localL, made_yes _ _ _ (by omega) (by omega)]
  have h1' : (1 : Int) ≤ s.size := by omega
  have h2' : (s.size : Int) ≤ 64 := by omega
  have HL := Lib.hid hl; clear hl
  cases hd : dotsI (sb s)
  rotate_left
  · have HF := Lib.hid (show localL (sb s) = false by rw [hlv, hd]; simp)
    have HD := dots_any s w hm hs true hd
    clear hd hlv
    go_enter Tryz.func55, Tryz.ntmps55
    go_wp2_with fail
    refine HD.mono ?_
    rintro e w' ⟨rfl, rfl⟩
    go_wp2
    go_ret
    exact ⟨by rw [HF.out]; rfl, Below.refl _ _⟩
  have HD := dots_any s w hm hs false hd
  have HT := trim1_any s w hs
  cases he : pedgesI (sb s)
  · have HF := Lib.hid (show localL (sb s) = false by rw [hlv, hd, he]; simp)
    rw [he] at HT
    clear hd he hlv
    go_enter Tryz.func55, Tryz.ntmps55
    go_wp2_with fail
    refine HD.mono ?_
    rintro e w' ⟨rfl, rfl⟩
    go_wp2_with fail
    refine HT.mono ?_
    rintro e w1 ⟨t, ht, rfl, hb1⟩
    have hne := str_eq_no (show ¬ t = s by simpa using ht)
    have hne2 : (t.toList != s.toList) = true := by rw [bne, hne]; rfl
    clear ht
    go_wp2
    go_ret
    exact ⟨by rw [HF.out]; rfl, hb1⟩
  have HF := Lib.hid (show localL (sb s) = (sb s).all locI by rw [hlv, hd, he]; simp)
  rw [he] at HT
  clear hd he hlv
  go_enter Tryz.func55, Tryz.ntmps55
  go_wp2_with fail
  refine HD.mono ?_
  rintro e w' ⟨rfl, rfl⟩
  go_wp2_with fail
  refine HT.mono ?_
  rintro e w1 ⟨t, ht, rfl, hb1⟩
  obtain rfl : t = s := by simpa using ht
  have hne := str_eq_yes (rfl : t = t)
  have hne2 : (t.toList != t.toList) = false := by rw [bne, hne]; rfl
  clear ht HT HD
  go_wp2
  go_loop [3, 24] (fun _ i => ∃ j : Nat, j ≤ t.size ∧ i = .int .i64 j ∧ ((sb t).take j).all locI = true) (fun _ i => t.size - (intOf i).toNat)
  case atStart => exact ⟨0, Nat.zero_le _, rfl, rfl⟩
  case round =>
    obtain ⟨j, hj, rfl, hall⟩ := hrel
    have H := Lib.hid hall; clear hall
    by_cases hlt : j < t.size
    · have hlj : j < (sb t).length := by have := HL.out; omega
      have hat := at0_sb t j hlt
      have HAt := Lib.hid hat; clear hat
      have c0 := (t[j]'hlt).toNat_lt
      cases hd : locI (at0 (sb t) j)
      · have HDc := Lib.hid (show locI ((t[j]'hlt).toNat : Int) = false by rw [← HAt.out]; exact hd)
        have HN := Lib.hid (show (sb t).all locI = false by rw [List.all_eq_false]; exact ⟨_, at0_mem hlj, by rw [hd]; decide⟩)
        clear hd
        go_wp2_with (go_at_call 75; refine (ofLocal_is _ _ _ (by omega) (by omega) HDc.out).mono ?_; rintro e w' ⟨rfl, rfl⟩)
        go_ret
        refine ⟨?_, hb1⟩
        rw [HF.out, HN.out]; rfl
      · have HDc := Lib.hid (show locI ((t[j]'hlt).toNat : Int) = true by rw [← HAt.out]; exact hd)
        have HDD := Lib.hid hd; clear hd
        go_wp2_with (go_at_call 75; refine (ofLocal_is _ _ _ (by omega) (by omega) HDc.out).mono ?_; rintro e w' ⟨rfl, rfl⟩)
        refine ⟨⟨j + 1, by omega, by go_num, ?_⟩, by simp [intOf]; omega⟩
        rw [List.take_add_one, List.getElem?_eq_getElem hlj, List.all_append, H.out, Option.toList_some, ← at0_lt hlj]
        simp [HDD.out]
    · go_wp2
      go_ret
      refine ⟨?_, hb1⟩
      have h := H.out
      rw [List.take_of_length_le (by have := HL.out; omega)] at h
      rw [HF.out, h]; rfl
theorem local_is (s : ByteArray) (b : Bool) (w : World) (hm : MaxC w) (hs : s.size ≤ 1000000) (h : localL (sb s) = b) :
    Calls Tryz.prog 55 #[.string s] w fun e w' => e = .returned (.bool b) ∧ Below w.heap.size w w' := by rw [← h]; exact local_any s w hm hs
theorem has_lib (l : List UInt8) (c : UInt8) : decide (0 ≤ Lib.indexByte l c) = (l.map fun c => (c.toNat : Int)).contains (c.toNat : Int) := by
  induction l with
  | nil => rfl
  | cons b r ih =>
    have hge := Lib.indexByte_ge r c
    rw [List.map_cons, List.contains_cons, ← ih, Lib.indexByte, beq_num b c]
    have e : ((c.toNat : Int) == (b.toNat : Int)) = ((b.toNat : Int) == (c.toNat : Int)) := Bool.beq_comm
    rw [e]
    cases ((b.toNat : Int) == (c.toNat : Int))
    · by_cases h : Lib.indexByte r c = -1
      · simp [h]
      · have h0 : 0 ≤ Lib.indexByte r c := by omega
        have h1 : 0 ≤ Lib.indexByte r c + 1 := by omega
        simp [h, h0, h1]
    · simp
theorem has_any (s : ByteArray) (c : UInt8) (b : Bool) (w : World) (h : (sb s).contains (c.toNat : Int) = b) :
    Calls Tryz.prog 74 #[.string s, .string ⟨#[c]⟩] w fun e w' => e = .returned (.bool b) ∧ w = w' := by
  refine (Tryz.strings_Contains_one s c w).mono ?_
  rintro e w' ⟨rfl, rfl⟩
  exact ⟨by rw [← h, has_lib]; rfl, rfl⟩
set_option maxHeartbeats 400000 in
theorem domain_any (s : ByteArray) (w : World) (hm : MaxC w) (hs : s.size ≤ 1000000) :
    Calls Tryz.prog 56 #[.string s] w fun e w' => e = .returned (.bool (domainL (sb s))) ∧ Below w.heap.size w w' := by
  have hd := domain_server (sb s)
  cases h1 : serverL (sb s)
  · have HF := Lib.hid (show domainL (sb s) = false by rw [← hd, h1]; rfl)
    have HS := server_is s false w hm hs h1
    clear hd h1
    go_enter Tryz.func56, Tryz.ntmps56
    go_wp2_with fail
    refine HS.mono ?_
    rintro e w1 ⟨rfl, hb1⟩
    go_wp2
    go_ret
    exact ⟨by rw [HF.out]; rfl, hb1⟩
  have HS := server_is s true w hm hs h1
  cases h2 : (sb s).contains 46
  · have HF := Lib.hid (show domainL (sb s) = false by rw [← hd, h2]; simp)
    have H2 := fun w' => has_any s 46 false w' h2
    clear hd h1 h2
    go_enter Tryz.func56, Tryz.ntmps56
    go_wp2_with fail
    refine HS.mono ?_
    rintro e w1 ⟨rfl, hb1⟩
    go_wp2_with fail
    refine (H2 _).mono ?_
    rintro e w' ⟨rfl, rfl⟩
    go_wp2
    go_ret
    exact ⟨by rw [HF.out]; rfl, hb1⟩
  have H2 := fun w' => has_any s 46 true w' h2
  cases h3 : (sb s).contains 58
  · have HF := Lib.hid (show domainL (sb s) = true by rw [← hd, h1, h2, h3]; rfl)
    have H3 := fun w' => has_any s 58 false w' h3
    clear hd h1 h2 h3
    go_enter Tryz.func56, Tryz.ntmps56
    go_wp2_with fail
    refine HS.mono ?_
    rintro e w1 ⟨rfl, hb1⟩
    go_wp2_with fail
    refine (H2 _).mono ?_
    rintro e w' ⟨rfl, rfl⟩
    go_wp2_with fail
    refine (H3 _).mono ?_
    rintro e w' ⟨rfl, rfl⟩
    go_wp2
    go_ret
    exact ⟨by rw [HF.out]; rfl, hb1⟩
  · have HF := Lib.hid (show domainL (sb s) = false by rw [← hd, h3]; simp)
    have H3 := fun w' => has_any s 58 true w' h3
    clear hd h1 h2 h3
    go_enter Tryz.func56, Tryz.ntmps56
    go_wp2_with fail
    refine HS.mono ?_
    rintro e w1 ⟨rfl, hb1⟩
    go_wp2_with fail
    refine (H2 _).mono ?_
    rintro e w' ⟨rfl, rfl⟩
    go_wp2_with fail
    refine (H3 _).mono ?_
    rintro e w' ⟨rfl, rfl⟩
    go_wp2
    go_ret
    exact ⟨by rw [HF.out]; rfl, hb1⟩
theorem domain_is (s : ByteArray) (b : Bool) (w : World) (hm : MaxC w) (hs : s.size ≤ 1000000) (h : domainL (sb s) = b) :
    Calls Tryz.prog 56 #[.string s] w fun e w' => e = .returned (.bool b) ∧ Below w.heap.size w w' := by rw [← h]; exact domain_any s w hm hs
end Go.Proofs.YthllidchoodofaaGreatDoor
namespace Go.Proofs.YthllidchoodofaaGreatDoor
open Go.RowKit
set_option linter.unusedVariables false
set_option linter.unusedSimpArgs false
section
variable {P : Program} {ops : Array Oper} {o : Oper} {N : Nat} {f : Fl} {w : World}
theorem dx_slTH {t : TypeId} {x y : Operand} {s : ByteArray} {K : IntKind} {i : Int} (h : Nat) (ho : o.op = .slice t x none (some y) none) (ht : P.underlying t = some .string) (hx : ev f x = some (.string s)) (hy : ev f y = some (.int K i)) (hi : i = (h : Int)) (hl : h ≤ s.size) (hw : wantF ops o f = some true := by rfl) : DV P ops o N f w (.string (s.extract 0 h)) := fun a ha => by
  subst hi
  have hx := ha.ev hx
  have hy := ha.ev hy
  refine Does.pure (wantF_of ha hw) _ ?_ ⟨rfl, rfl⟩
  have h1 : ((h : Int) ≤ (s.size : Int)) := by omega
  have h3 : (0 : Int) ≤ (h : Int) := by omega
  unfold execOp
  simp only [ho, Option.map_none, Option.map_some, hx, hy, Instr.sliceAt, Sem.run_bind, run_underlying ht, Result.andThen_ok, Instr.slice, Instr.sliceBounds, Instr.sliceBound, asIntOf, Sem.run_pure]
  simp [h1, h3]
  intro hh
  omega
theorem dx_slTL {t : TypeId} {x y : Operand} {s : ByteArray} {K : IntKind} {i : Int} (l : Nat) (ho : o.op = .slice t x (some y) none none) (ht : P.underlying t = some .string) (hx : ev f x = some (.string s)) (hy : ev f y = some (.int K i)) (hi : i = (l : Int)) (hl : l ≤ s.size) (hw : wantF ops o f = some true := by rfl) : DV P ops o N f w (.string (s.extract l s.size)) := fun a ha => by
  subst hi
  have hx := ha.ev hx
  have hy := ha.ev hy
  refine Does.pure (wantF_of ha hw) _ ?_ ⟨rfl, rfl⟩
  have h1 : ((l : Int) ≤ (s.size : Int)) := by omega
  have h3 : (0 : Int) ≤ (l : Int) := by omega
  unfold execOp
  simp only [ho, Option.map_none, Option.map_some, hx, hy, Instr.sliceAt, Sem.run_bind, run_underlying ht, Result.andThen_ok, Instr.slice, Instr.sliceBounds, Instr.sliceBound, asIntOf, Sem.run_pure]
  simp [h1, h3]
  intro hh
  omega
end
theorem ext_take (s : ByteArray) (n : Nat) : s.extract 0 n = ⟨(s.data.toList.take n).toArray⟩ := by
  apply ByteArray.ext
  apply Array.ext'
  rw [ByteArray.data_extract]
  simp
theorem ext_drop (s : ByteArray) (n : Nat) : s.extract n s.size = ⟨(s.data.toList.drop n).toArray⟩ := by
  apply ByteArray.ext
  apply Array.ext'
  rw [ByteArray.data_extract, Array.toList_extract, List.extract_eq_take_drop]
  exact List.take_of_length_le (by rw [List.length_drop, Array.length_toList]; show s.data.size - n ≤ s.data.size - n; exact Nat.le_refl _)
theorem indexByte_lt {l : List UInt8} {c : UInt8} (h : 0 ≤ Lib.indexByte l c) : ∃ k : Nat, Lib.indexByte l c = (k : Int) ∧ k < l.length := by
  obtain ⟨k, hk⟩ := Int.eq_ofNat_of_zero_le h
  exact ⟨k, hk, (List.getElem?_eq_some_iff.1 (Lib.indexByte_some hk).1).1⟩
end Go.Proofs.YthllidchoodofaaGreatDoor
namespace Go.Proofs.YthllidchoodofaaGreatDoor
open Go.RowKit
set_option linter.unusedVariables false
set_option linter.unusedSimpArgs false
set_option maxRecDepth 8000

theorem CV.of_same {P : Program} {F : FuncId} {args : List Value} {w : World} {v : Value} (h : Calls P F args.toArray w fun e w' => e = .returned v ∧ w' = w) : CV P F args w fun u _ => u = v := h.mono fun e w' ⟨h1, h2⟩ => ⟨_, h1, rfl, by rw [h2]; exact Below.refl _ _⟩
theorem cut_one_yes {s : ByteArray} {c : UInt8} (h : 0 ≤ Lib.indexByte s.data.toList c) : Lib.cut s.data.toList [c] = (s.data.toList.take (Lib.indexByte s.data.toList c).toNat, s.data.toList.drop ((Lib.indexByte s.data.toList c).toNat + 1), true) := by
  unfold Lib.cut
  rw [Lib.index_one, if_pos h]
  rfl
theorem cut_one_no {s : ByteArray} {c : UInt8} (h : ¬ 0 ≤ Lib.indexByte s.data.toList c) : Lib.cut s.data.toList [c] = (s.data.toList, [], false) := by
  unfold Lib.cut
  rw [Lib.index_one, if_neg h]
set_option maxHeartbeats 1000000 in
theorem cutA_v (s : ByteArray) (c : UInt8) (w : World) (L : List Nat) (hL : LL L w)   (hs : s.size ≤ 140737488355328) : CV Tryz.prog 73 [.string s, .string (⟨#[c]⟩ : ByteArray)] w fun v W => v = .tuple #[.string ⟨(Lib.cut s.data.toList [c]).1.toArray⟩, .string ⟨(Lib.cut s.data.toList [c]).2.1.toArray⟩, .bool (Lib.cut s.data.toList [c]).2.2] := by
  refine cv_enter (N := 23) (f := [(0, .string s), (1, .string (⟨#[c]⟩ : ByteArray))]) Tryz.func73 rfl rfl rfl rfl fun Q hQ hE => ?_
  have hB := Below.refl w.heap.size w
  refine WC.seq fun K1 hK1 => ?_
  refine WC.region ?_
  refine WL.val (dx_assign rfl rfl) rfl rfl ?_
  refine WL.val (dx_assign rfl rfl) rfl rfl ?_
  refine WL.val (dx_assign rfl rfl) rfl rfl ?_
  refine WL.nil ?_
  refine hK1 ?_
  refine WC.seq fun K2 hK2 => ?_
  refine WC.seq fun K3 hK3 => ?_
  refine WC.region ?_
  refine WL.val (dx_move rfl rfl) rfl rfl ?_
  refine WL.val (dx_move rfl rfl) rfl rfl ?_
  refine WL.get (dx_cv rfl Tryz.func87 rfl rfl rfl ((CV.of_same (Tryz.stringslite_Index_one s c w)))) rfl rfl ?_
  rintro _ W5 ⟨rfl, b4⟩
  replace hB := below_then hB b4
  replace hL := LL.below hL b4
  refine WL.val (dx_assign rfl rfl) rfl rfl ?_
  refine WL.nil ?_
  refine hK3 ?_
  refine WC.seq fun K6 hK6 => ?_
  refine WC.region ?_
  refine WL.val (dx_move rfl rfl) rfl rfl ?_
  refine WL.val (dx_geq rfl rfl rfl) rfl rfl ?_
  refine WL.nil ?_
  refine hK6 ?_
  refine WC.cond rfl (fun c7 => ?_) (fun c7 => ?_)
  ·
    replace c7 := of_decide_eq_true c7
    refine WC.seq fun K8 hK8 => ?_
    obtain ⟨k0, hk0, hkl⟩ := indexByte_lt (by assumption)
    have hsz : s.data.toList.length = s.size := Array.length_toList
    refine WC.drawM 10 [(some 13, .is (.string s)), (some 14, .is (.int .i64 (Lib.indexByte s.data.toList c))), (some 15, .is (.string (s.extract 0 k0))), (some 16, .is (.string s)), (some 17, .is (.int .i64 (Lib.indexByte s.data.toList c))), (some 18, .is (.string (⟨#[c]⟩ : ByteArray))), (some 19, .is (.int .i64 (((⟨#[c]⟩ : ByteArray)).size : Int))), (some 20, .is (.int .i64 ((k0 + 1 : Nat) : Int))), (some 21, .is (.string (s.extract (k0 + 1) s.size))), (some 4, .is (.string (s.extract 0 k0)))] [[], [], [0, 1], [], [], [], [5], [4, 6], [3, 7], [2, 0, 1, 2]] (by kernel_rfl) (by kernel_rfl) (by kernel_rfl) (by kernel_rfl) (by kernel_rfl) (by kernel_rfl) (by kernel_rfl) (by exact trivial) ?_ ?_
    ·
      refine DSteps.cons (fun Wd hd => ?_) ?_
      ·
        exact DV.dr (dx_move rfl rfl) ⟨Below.refl _ _, rfl⟩
      refine DSteps.cons (fun Wd hd => ?_) ?_
      ·
        exact DV.dr (dx_move rfl rfl) ⟨Below.refl _ _, rfl⟩
      refine DSteps.cons (fun Wd hd => ?_) ?_
      ·
        exact DV.dr (dx_slTH k0 rfl Tryz.underlying9 rfl rfl (by omega) (by omega)) ⟨Below.refl _ _, rfl⟩
      refine DSteps.cons (fun Wd hd => ?_) ?_
      ·
        exact DV.dr (dx_move rfl rfl) ⟨Below.refl _ _, rfl⟩
      refine DSteps.cons (fun Wd hd => ?_) ?_
      ·
        exact DV.dr (dx_move rfl rfl) ⟨Below.refl _ _, rfl⟩
      refine DSteps.cons (fun Wd hd => ?_) ?_
      ·
        exact DV.dr (dx_move rfl rfl) ⟨Below.refl _ _, rfl⟩
      refine DSteps.cons (fun Wd hd => ?_) ?_
      ·
        exact DV.dr (dx_lenT rfl Tryz.underlying9 rfl) ⟨Below.refl _ _, rfl⟩
      refine DSteps.cons (fun Wd hd => ?_) ?_
      ·
        exact DV.dr (dx_add (r := ((k0 + 1 : Nat) : Int)) rfl rfl rfl (by have h1 : ((⟨#[c]⟩ : ByteArray).size : Int) = 1 := rfl; rw [hk0, h1, wrap64_id (by omega)]; omega)) ⟨Below.refl _ _, rfl⟩
      refine DSteps.cons (fun Wd hd => ?_) ?_
      ·
        exact DV.dr (dx_slTL (k0 + 1) rfl Tryz.underlying9 rfl rfl (by omega) (by omega)) ⟨Below.refl _ _, rfl⟩
      refine DSteps.cons (fun Wd hd => ?_) ?_
      ·
        exact DV.dr (dx_assign rfl rfl) ⟨Below.refl _ _, rfl⟩
      exact trivial
    ·
      intro W9 b10
      replace hB := below_then hB b10
      replace hL := LL.below hL b10
      refine WL.val (dx_assign rfl rfl) rfl rfl ?_
      refine WL.val (dx_assign rfl rfl) rfl rfl ?_
      refine WL.nil ?_
      refine hK8 ?_
      refine WC.ret fun a_ ha_ => ?_
      exact hQ (cv_ret3 rfl (.tmp rfl) (.tmp rfl) (.tmp rfl) (by rw [cut_one_yes (by assumption), hk0, Int.toNat_natCast, ext_take, ext_drop]) hB ha_)
  ·
    replace c7 := of_decide_eq_false c7
    refine WC.skip ?_
    refine hK2 ?_
    refine WC.seq fun K11 hK11 => ?_
    refine WC.region ?_
    refine WL.val (dx_move rfl rfl) rfl rfl ?_
    refine WL.val (dx_assign rfl rfl) rfl rfl ?_
    refine WL.val (dx_assign rfl rfl) rfl rfl ?_
    refine WL.val (dx_assign rfl rfl) rfl rfl ?_
    refine WL.nil ?_
    refine hK11 ?_
    refine WC.ret fun a_ ha_ => ?_
    exact hQ (cv_ret3 rfl (.tmp rfl) (.tmp rfl) (.tmp rfl) (by rw [cut_one_no (by assumption)]) hB ha_)

set_option maxHeartbeats 1000000 in
theorem cut1_v (s : ByteArray) (c : UInt8) (w : World) (L : List Nat) (hL : LL L w)   (hs : s.size ≤ 140737488355328) : CV Tryz.prog 54 [.string s, .string (⟨#[c]⟩ : ByteArray)] w fun v W => v = .tuple #[.string ⟨(Lib.cut s.data.toList [c]).1.toArray⟩, .string ⟨(Lib.cut s.data.toList [c]).2.1.toArray⟩, .bool (Lib.cut s.data.toList [c]).2.2] := by
  refine cv_enter (N := 13) (f := [(0, .string s), (1, .string (⟨#[c]⟩ : ByteArray))]) Tryz.func54 rfl rfl rfl rfl fun Q hQ hE => ?_
  have hB := Below.refl w.heap.size w
  refine WC.seq fun K1 hK1 => ?_
  refine WC.region ?_
  refine WL.val (dx_assign rfl rfl) rfl rfl ?_
  refine WL.val (dx_assign rfl rfl) rfl rfl ?_
  refine WL.val (dx_assign rfl rfl) rfl rfl ?_
  refine WL.nil ?_
  refine hK1 ?_
  refine WC.seq fun K2 hK2 => ?_
  refine WC.region ?_
  refine WL.val (dx_move rfl rfl) rfl rfl ?_
  refine WL.val (dx_move rfl rfl) rfl rfl ?_
  refine WL.get (dx_cv rfl Tryz.func73 rfl rfl rfl (cutA_v s c w [] (LL.nil _) hs)) rfl rfl ?_
  rintro _ W4 ⟨rfl, b3⟩
  replace hB := below_then hB b3
  replace hL := LL.below hL b3
  refine WL.val (dx_extract rfl rfl rfl) rfl rfl ?_
  refine WL.val (dx_extract rfl rfl rfl) rfl rfl ?_
  refine WL.val (dx_extract rfl rfl rfl) rfl rfl ?_
  refine WL.val (dx_assign rfl rfl) rfl rfl ?_
  refine WL.val (dx_assign rfl rfl) rfl rfl ?_
  refine WL.val (dx_assign rfl rfl) rfl rfl ?_
  refine WL.nil ?_
  refine hK2 ?_
  refine WC.ret fun a_ ha_ => ?_
  exact hQ (cv_ret3 rfl (.tmp rfl) (.tmp rfl) (.tmp rfl) rfl hB ha_)

end Go.Proofs.YthllidchoodofaaGreatDoor
namespace Go.Proofs.YthllidchoodofaaGreatDoor
open Go.RowKit
set_option linter.unusedVariables false

theorem trimI_mem {l : List Int} {x : Int} (h : x ∈ trimI l) : x ∈ l := by
  unfold trimI at h
  have h1 := (List.dropWhile_sublist _).subset h
  rw [List.mem_reverse] at h1
  have h2 := (List.dropWhile_sublist _).subset h1
  rwa [List.mem_reverse] at h2
theorem trimI_len (l : List Int) : (trimI l).length ≤ l.length := by
  unfold trimI
  have h1 := dropWhile_len spI ((l.reverse.dropWhile spI).reverse)
  have h2 := dropWhile_len spI l.reverse
  rw [List.length_reverse] at h1 h2
  omega
/-- A text without blanks at both ends. -/
def trB (s : ByteArray) : ByteArray := strOfNums (trimI (sb s))
theorem sb_trB (s : ByteArray) : sb (trB s) = trimI (sb s) := sb_strOf fun x hx => sb_bytes s x (trimI_mem hx)
theorem trB_size (s : ByteArray) : (trB s).size ≤ s.size := by
  rw [← sb_length, sb_trB, ← sb_length s]; exact trimI_len _
theorem trimsp_is (s : ByteArray) (w : World) (hs : s.size ≤ 140737488355328) :
    Calls Tryz.prog 53 #[.string s, .string ⟨#[32]⟩] w fun e w' => e = .returned (.string (trB s)) ∧ Below w.heap.size w w' := by
  refine (trimsp_any s w hs).mono ?_
  rintro e w1 ⟨t, ht, rfl, hb⟩
  rw [sb_inj (ht.trans (sb_trB s).symm)]
  exact ⟨rfl, hb⟩
theorem cutat_any (s : ByteArray) (w : World) (hm : MaxC w) (hs : s.size ≤ 140737488355328) (q : Bool) (hq : decide (atI (sb s) < (sb s).length) = q) :
    Calls Tryz.prog 54 #[.string s, .string ⟨#[64]⟩] w fun e w' => ∃ a b : ByteArray, (sb a = (sb s).take (atI (sb s)) ∧ sb b = (sb s).drop (atI (sb s) + 1)) ∧ e = .returned (.tuple #[.string a, .string b, .bool q]) ∧ Below w.heap.size w w' := by
  obtain ⟨m, hm⟩ := hm
  obtain ⟨h1, h2, h3⟩ := cut_gen s 64
  refine Calls.mono (cut1_v s 64 w [] (LL.nil _) hs) fun e w' ⟨v, he, hv, hb⟩ => ?_
  subst he
  subst hv
  exact ⟨_, _, ⟨h1, h2⟩, by rw [← hq, ← show _ = decide (atI (sb s) < (sb s).length) from h3], hb⟩
set_option maxHeartbeats 1000000 in
theorem email_no (s : ByteArray) (w : World) (hm : MaxC w) (hs : s.size ≤ 140737488355328) (h : mailB (trimI (sb s)) = false) :
    Calls Tryz.prog 48 #[.string s] w fun e w' => e = .returned (.tuple #[.string ⟨#[]⟩, .int .i64 2]) ∧ Below w.heap.size w w' := by
  have HT := trimsp_is s w hs
  have hts := trB_size s
  have hl := sb_length (trB s)
  rw [← sb_trB] at h
  generalize trB s = t at *
  cases hc : decide (atI (sb t) < (sb t).length)
  · have HC := fun w' (hm : MaxC w') => cutat_any t w' hm (by omega) false hc
    clear hc h hl
    go_enter Tryz.func48, Tryz.ntmps48
    go_wp2_with fail
    refine HT.mono ?_
    rintro e w1 ⟨rfl, hb1⟩
    have hm1 := hm.below hb1
    go_wp2_with fail
    refine (HC _ hm1).mono ?_
    rintro e w2 ⟨a, b, -, rfl, hb2⟩
    go_wp2
    go_ret2
    exact ⟨rfl, below_then hb1 hb2⟩
  have HC := fun w' (hm : MaxC w') => cutat_any t w' hm (by omega) true hc
  by_cases h254 : 254 < t.size
  · clear hc h hl
    go_enter Tryz.func48, Tryz.ntmps48
    go_wp2_with fail
    refine HT.mono ?_
    rintro e w1 ⟨rfl, hb1⟩
    have hm1 := hm.below hb1
    go_wp2_with fail
    refine (HC _ hm1).mono ?_
    rintro e w2 ⟨a, b, -, rfl, hb2⟩
    go_wp2
    go_ret2
    exact ⟨rfl, below_then hb1 hb2⟩
  have h' : localL ((sb t).take (atI (sb t))) = false ∨ domainL ((sb t).drop (atI (sb t) + 1)) = false := by
    rw [mailB, hc, decide_eq_true (show (sb t).length ≤ 254 by omega)] at h
    cases hx : localL ((sb t).take (atI (sb t)))
    · left; rfl
    · right; rw [hx] at h; simpa using h
  have h254' : (t.size : Int) ≤ 254 := by omega
  have HX := Lib.hid h'
  have HL := Lib.hid hl
  clear hc h hl h'
  go_enter Tryz.func48, Tryz.ntmps48
  go_wp2_with fail
  refine HT.mono ?_
  rintro e w1 ⟨rfl, hb1⟩
  have hm1 := hm.below hb1
  go_wp2_with fail
  refine (HC _ hm1).mono ?_
  rintro e w2 ⟨a, b, hab, rfl, hb2⟩
  have hm2 := hm1.below hb2
  have hx := HX.out
  have sa := size_of_sb (n := 1000000) hab.1 (by have := HL.out; rw [List.length_take]; omega)
  have sb' := size_of_sb (n := 1000000) hab.2 (by have := HL.out; rw [List.length_drop]; omega)
  rw [← hab.1, ← hab.2] at hx
  clear hab
  cases ha : localL (sb a)
  · have HA := local_is a false w2 hm2 sa ha
    clear ha hx
    go_wp2_with fail
    refine HA.mono ?_
    rintro e w3 ⟨rfl, hb3⟩
    go_wp2
    go_ret2
    exact ⟨rfl, below_then (below_then hb1 hb2) hb3⟩
  · have HA := local_is a true w2 hm2 sa ha
    have hb : domainL (sb b) = false := by
      rcases hx with h | h
      · rw [ha] at h; cases h
      · exact h
    have HB := fun w' (hm : MaxC w') => domain_is b false w' hm sb' hb
    clear ha hx hb
    go_wp2_with fail
    refine HA.mono ?_
    rintro e w3 ⟨rfl, hb3⟩
    have hm3 := hm2.below hb3
    go_wp2_with fail
    refine (HB _ hm3).mono ?_
    rintro e w4 ⟨rfl, hb4⟩
    go_wp2
    go_ret2
    exact ⟨rfl, below_then (below_then (below_then hb1 hb2) hb3) hb4⟩
set_option maxHeartbeats 1000000 in
theorem email_yes (s : ByteArray) (w : World) (hm : MaxC w) (hs : s.size ≤ 140737488355328) (h : mailB (trimI (sb s)) = true) :
    Calls Tryz.prog 48 #[.string s] w fun e w' => e = .returned (.tuple #[.string (lowS (trB s)), .int .i64 0]) ∧ Below w.heap.size w w' := by
  have HT := trimsp_is s w hs
  have hts := trB_size s
  have hl := sb_length (trB s)
  rw [← sb_trB] at h
  generalize trB s = t at *
  simp only [mailB, Bool.and_eq_true, decide_eq_true_eq] at h
  obtain ⟨h1, h2, h3, h4⟩ := h
  have HC := fun w' (hm : MaxC w') => cutat_any t w' hm (by omega) true (decide_eq_true h1)
  have h254' : (t.size : Int) ≤ 254 := by omega
  have HX := Lib.hid (And.intro h3 h4)
  have HL := Lib.hid hl
  clear h1 h2 h3 h4 hl
  go_enter Tryz.func48, Tryz.ntmps48
  go_wp2_with fail
  refine HT.mono ?_
  rintro e w1 ⟨rfl, hb1⟩
  have hm1 := hm.below hb1
  go_wp2_with fail
  refine (HC _ hm1).mono ?_
  rintro e w2 ⟨a, b, hab, rfl, hb2⟩
  have hm2 := hm1.below hb2
  have hx := HX.out
  have sa := size_of_sb (n := 1000000) hab.1 (by have := HL.out; rw [List.length_take]; omega)
  have sb' := size_of_sb (n := 1000000) hab.2 (by have := HL.out; rw [List.length_drop]; omega)
  rw [← hab.1, ← hab.2] at hx
  clear hab
  have HA := local_is a true w2 hm2 sa hx.1
  have HB := fun w' (hm : MaxC w') => domain_is b true w' hm sb' hx.2
  have HLo := fun w' => lower_any t w' (by unfold maxLen; omega)
  clear hx
  go_wp2_with fail
  refine HA.mono ?_
  rintro e w3 ⟨rfl, hb3⟩
  have hm3 := hm2.below hb3
  go_wp2_with fail
  refine (HB _ hm3).mono ?_
  rintro e w4 ⟨rfl, hb4⟩
  go_wp2_with fail
  refine (HLo _).mono ?_
  rintro e w5 ⟨rfl, hb5⟩
  go_wp2
  go_ret2
  exact ⟨rfl, below_then (below_then (below_then (below_then hb1 hb2) hb3) hb4) hb5⟩
end Go.Proofs.YthllidchoodofaaGreatDoor
--@optional
namespace Go.Proofs.YthllidchoodofaaGreatDoor
open Go.RowKit
set_option linter.unusedVariables false

theorem info_i32 : (Tryz.prog.info? 21).map (fun i => (i.zero, i.size, i.bytes)) = some (some (.int .i32 0), 1, 4) := by kernel_rfl
theorem info_u8 : (Tryz.prog.info? 5).map (fun i => (i.zero, i.size, i.bytes)) = some (some (.int .u8 0), 1, 1) := by kernel_rfl

end Go.Proofs.YthllidchoodofaaGreatDoor
namespace Go.Proofs.YthllidchoodofaaGreatDoor
open Go.RowKit
set_option linter.unusedVariables false

def sepI (c : Int) : Bool := [32, 45, 46, 40, 41].contains c
/-- One sign more: the digits so far, and whether a + stood ahead. -/
def dialStep (st : Option (List Int × Bool)) (c : Int) : Option (List Int × Bool) :=
  match st with
  | none => none
  | some (d, p) => if digI c then some (d ++ [c], p) else if c == 43 then (if p || !d.isEmpty then none else some (d, true)) else if sepI c then some (d, p) else none
def dialS (l : List Int) : Option (List Int × Bool) := l.foldl dialStep (some ([], false))
theorem dial_none (l : List Int) : l.foldl dialStep none = none := by
  induction l with
  | nil => rfl
  | cons x r ih => exact ih
theorem dial_succ (l : List Int) (k : Nat) (hk : k < l.length) : dialS (l.take (k + 1)) = dialStep (dialS (l.take k)) (at0 l k) := by
  rw [List.take_add_one, List.getElem?_eq_getElem hk, dialS, List.foldl_append, Option.toList_some, ← at0_lt hk]; rfl
theorem dial_stop (l : List Int) (k : Nat) (hk : k < l.length) (h : dialStep (dialS (l.take k)) (at0 l k) = none) : dialS l = none := by
  have h1 : l = l.take (k + 1) ++ l.drop (k + 1) := (List.take_append_drop _ _).symm
  rw [dialS, h1, List.foldl_append, ← dialS, dial_succ l k hk, h, dial_none]
theorem dial_digits {l : List Int} {d : List Int} {p : Bool} (h : dialS l = some (d, p)) : d.length ≤ l.length ∧ d.all digI = true := by
  have key : ∀ (l : List Int) (d0 : List Int) (p0 : Bool), d0.all digI = true → ∀ d p, l.foldl dialStep (some (d0, p0)) = some (d, p) → d.length ≤ d0.length + l.length ∧ d.all digI = true := by
    intro l
    induction l with
    | nil => intro d0 p0 h0 d p h; simp only [List.foldl_nil, Option.some.injEq, Prod.mk.injEq] at h; obtain ⟨rfl, rfl⟩ := h; exact ⟨by simp, h0⟩
    | cons x r ih =>
      intro d0 p0 h0 d p h
      rw [List.foldl_cons] at h
      have e9 : dialStep (some (d0, p0)) x = if digI x then some (d0 ++ [x], p0) else if x == 43 then (if p0 || !d0.isEmpty then none else some (d0, true)) else if sepI x then some (d0, p0) else none := rfl
      rw [e9] at h
      by_cases h1 : digI x = true
      · simp only [h1, if_true] at h
        have := ih (d0 ++ [x]) p0 (by rw [List.all_append, h0]; simp [h1]) d p h
        simp at this ⊢; exact ⟨by omega, this.2⟩
      · simp only [h1] at h
        by_cases h2 : (x == 43) = true
        · simp only [h2, if_true, Bool.false_eq_true, if_false] at h
          by_cases h3 : (p0 || !d0.isEmpty) = true
          · rw [if_pos h3] at h; rw [dial_none] at h; cases h
          · rw [if_neg h3] at h
            have := ih d0 true h0 d p h
            exact ⟨by simp; omega, this.2⟩
        · simp only [h2, Bool.false_eq_true, if_false] at h
          by_cases h3 : sepI x = true
          · simp only [h3, if_true] at h
            have := ih d0 p0 h0 d p h
            exact ⟨by simp; omega, this.2⟩
          · simp only [h3] at h
            rw [if_neg (by simp), dial_none] at h; cases h
  have := key l [] false rfl d p h
  simpa using this
theorem signs_sep (c : Int) (h0 : 0 ≤ c) (h1 : c ≤ 255) : decide (0 ≤ Lib.indexByte [32, 45, 46, 40, 41] c.toNat.toUInt8) = sepI c := by
  have key : ∀ n : Fin 256, decide (0 ≤ Lib.indexByte [32, 45, 46, 40, 41] n.val.toUInt8) = sepI (n.val : Int) := by decide +kernel
  have := key ⟨c.toNat, by omega⟩
  simpa only [Int.toNat_of_nonneg h0] using this
theorem idxSep_yes (c : Int) (w : World) (h0 : 0 ≤ c) (h1 : c ≤ 255) (h : sepI c = true) :
    Calls Tryz.prog 78 #[.string ⟨#[32, 45, 46, 40, 41]⟩, .int .u8 c] w fun e w' => (∃ k : Int, 0 ≤ k ∧ e = .returned (.int .i64 k)) ∧ w = w' := by
  refine (Tryz.strings_IndexByte ⟨#[32, 45, 46, 40, 41]⟩ c w).mono ?_
  rintro e w' ⟨rfl, rfl⟩
  exact ⟨⟨_, of_decide_eq_true ((signs_sep c h0 h1).trans h), rfl⟩, rfl⟩
theorem idxSep_no (c : Int) (w : World) (h0 : 0 ≤ c) (h1 : c ≤ 255) (h : sepI c = false) :
    Calls Tryz.prog 78 #[.string ⟨#[32, 45, 46, 40, 41]⟩, .int .u8 c] w fun e w' => (∃ k : Int, k < 0 ∧ e = .returned (.int .i64 k)) ∧ w = w' := by
  refine (Tryz.strings_IndexByte ⟨#[32, 45, 46, 40, 41]⟩ c w).mono ?_
  rintro e w' ⟨rfl, rfl⟩
  refine ⟨⟨_, ?_, rfl⟩, rfl⟩
  have := of_decide_eq_false ((signs_sep c h0 h1).trans h)
  exact Int.lt_of_not_ge this
/-- What is told of a number. -/
def DialPost (l : List Int) (B : Nat) (w : World) (e : Ending) (w' : World) : Prop :=
  (∃ d p, dialS l = some (d, p) ∧ e = .returned (.tuple #[.string (strOfNums d), .bool p, .int .i64 0]) ∧ Below B w w') ∨
  (dialS l = none ∧ e = .returned (.tuple #[.string ⟨#[]⟩, .bool false, .int .i64 2]) ∧ Below B w w')
set_option maxRecDepth 100000 in
set_option maxHeartbeats 1000000 in
theorem dialled_any (s : ByteArray) (w : World) (hs : s.size ≤ 140737488355328) :
    Calls Tryz.prog 59 #[.string s] w (DialPost (sb s) w.heap.size w) := by
  obtain ⟨j0, hj, hy0, hy1, hy2⟩ := info_parts info_u8
  have HL := Lib.hid (sb_length s)
  go_enter Tryz.func59, Tryz.ntmps59
  go_wp2
  go_loopw [3, 5, 6, 7, 10] (fun pl v _ _ i wr => ∃ (k : Nat) (d : List Int) (p : Bool), k ≤ s.size ∧ i = .int .i64 k ∧ pl = .bool p ∧ dialS ((sb s).take k) = some (d, p) ∧ d.length ≤ k ∧ wr.ownsRow w.heap.size 5 1 v d.length (d.map (Value.int .u8)) ∧ Below w.heap.size w wr) (fun _ _ _ _ i _ => s.size - (intOf i).toNat)
  case atStart => exact ⟨0, [], false, Nat.zero_le _, rfl, rfl, rfl, by simp, ⟨rfl, .inl ⟨rfl, rfl⟩⟩, Below.refl _ _⟩
  case round =>
    obtain ⟨k, d, p, hk, rfl, rfl, hdial, hdl, hown, hbel⟩ := hrel
    have HDI := Lib.hid hdial; clear hdial
    obtain ⟨av, cap, rfl, hc1, hc2, -, -, -⟩ := own_cell hown
    unfold maxLen at hc2
    have HO := Lib.hid hown
    by_cases hlt : k < s.size
    · have hlk : k < (sb s).length := by have := HL.out; omega
      have hat := at0_sb s k hlt
      have HA := Lib.hid hat; clear hat
      have c0 := (s[k]'hlt).toNat_lt
      have hsucc := dial_succ (sb s) k hlk
      have hstop := dial_stop (sb s) k hlk
      rw [HDI.out, HA.out] at hsucc hstop
      generalize hcc : ((s[k]'hlt).toNat : Int) = c at *
      have hc0 : 0 ≤ c := by omega
      have hc255 : c ≤ 255 := by omega
      have HCC := Lib.hid hcc
      cases h1 : digI c
      · cases h2 : (c == 43)
        · cases h3 : sepI c
          · have e : dialStep (some (d, p)) c = none := by simp [dialStep, h1, h2, h3]
            have HN := Lib.hid (hstop e)
            have HS := fun w' => idxSep_no c w' hc0 hc255 h3
            have HD := Lib.hid h1
            clear h1 h3 hsucc hstop e
            go_wp2_with (first | (go_at_call 77; refine (adigit_is _ _ _ HD.out).mono ?_; rintro e w' ⟨rfl, rfl⟩) | (go_at_call 78; refine (HS _).mono ?_; rintro e w' ⟨⟨q, hq, rfl⟩, rfl⟩))
            go_ret3
            exact .inr ⟨HN.out, rfl, hbel⟩
          · have e : dialStep (some (d, p)) c = some (d, p) := by simp [dialStep, h1, h2, h3]
            have HN := Lib.hid (hsucc.trans e)
            have HS := fun w' => idxSep_yes c w' hc0 hc255 h3
            have HD := Lib.hid h1
            clear h1 h3 hsucc hstop e
            go_wp2_with (first | (go_at_call 77; refine (adigit_is _ _ _ HD.out).mono ?_; rintro e w' ⟨rfl, rfl⟩) | (go_at_call 78; refine (HS _).mono ?_; rintro e w' ⟨⟨q, hq, rfl⟩, rfl⟩))
            exact ⟨⟨k + 1, d, p, by omega, by go_num, rfl, HN.out, by omega, HO.out, hbel⟩, by simp [intOf]; omega⟩
        · have HD := Lib.hid h1
          cases p
          · by_cases hd0 : d = []
            · subst hd0
              have e : dialStep (some ([], false)) c = some ([], true) := by simp [dialStep, h1, h2]
              have HN := Lib.hid (hsucc.trans e)
              clear h1 hsucc hstop e
              go_wp2_with (go_at_call 77; refine (adigit_is _ _ _ HD.out).mono ?_; rintro e w' ⟨rfl, rfl⟩)
              exact ⟨⟨k + 1, [], true, by omega, by go_num, rfl, HN.out, by simp, HO.out, hbel⟩, by simp [intOf]; omega⟩
            · have hdp : 0 < d.length := List.length_pos_iff.2 hd0
              have hdpi : (0 : Int) < d.length := by omega
              have e : dialStep (some (d, false)) c = none := by
                have : d.isEmpty = false := by cases d with
                  | nil => exact (hd0 rfl).elim
                  | cons => rfl
                simp [dialStep, h1, h2, this]
              have HN := Lib.hid (hstop e)
              clear h1 hsucc hstop e hd0
              go_wp2_with (go_at_call 77; refine (adigit_is _ _ _ HD.out).mono ?_; rintro e w' ⟨rfl, rfl⟩)
              go_ret3
              exact .inr ⟨HN.out, rfl, hbel⟩
          · have e : dialStep (some (d, true)) c = none := by simp [dialStep, h1, h2]
            have HN := Lib.hid (hstop e)
            clear h1 hsucc hstop e
            go_wp2_with (go_at_call 77; refine (adigit_is _ _ _ HD.out).mono ?_; rintro e w' ⟨rfl, rfl⟩)
            go_ret3
            exact .inr ⟨HN.out, rfl, hbel⟩
      · have e : dialStep (some (d, p)) c = some (d ++ [c], p) := by simp [dialStep, h1]
        have HN := Lib.hid (hsucc.trans e)
        have HD := Lib.hid h1
        clear h1 hsucc hstop e
        go_wp2_with (first
          | (go_at_call 77; refine (adigit_is _ _ _ HD.out).mono ?_; rintro e w' ⟨rfl, rfl⟩)
          | (at_builtin; refine wpList_append_rd rfl _ _ 87 rfl w.heap.size 5 j0 (.int .u8 0) 1 Tryz.underlying87 hj hy0 hy1 hy2 rfl _ _ _ rfl (hown.alloc _) _ 1 1 [.int .u8 c] rfl reads_one (by simp [Value.oneCell']) (by unfold maxLen; omega) (by omega) (by have hs1 := hbel.size; simp only [World.size_alloc]; omega) (by simp) ?_; intro v3 w3 hown3 hgr3 hc3; have hb3 := (hbel.alloc (by have hs1 := hbel.size; omega) _).trans hc3; clear hgr3 hc3))
        refine ⟨⟨k + 1, d ++ [c], p, by omega, by go_num, rfl, HN.out, by simp; omega, by simpa using hown3, hb3⟩, by simp [intOf]; omega⟩
    · have h := HDI.out
      rw [List.take_of_length_le (by have := HL.out; omega)] at h
      have HN := Lib.hid h; clear h
      have hcv := run_conv_bs (P := Tryz.prog) 87 9 5 Tryz.underlying87 Tryz.underlying9 Tryz.underlying5 _ _ (RdI.of_own hown)
      go_wp2
      go_ret3
      exact .inl ⟨d, p, HN.out, rfl, hbel⟩
end Go.Proofs.YthllidchoodofaaGreatDoor
namespace Go.Proofs.YthllidchoodofaaGreatDoor
open Go.RowKit Go.MapKept
set_option linter.unusedVariables false

def gbB : ByteArray := ⟨#[71, 66]⟩
def usB : ByteArray := ⟨#[85, 83]⟩
def deB : ByteArray := ⟨#[68, 69]⟩
def frB : ByteArray := ⟨#[70, 82]⟩
def chB : ByteArray := ⟨#[67, 72]⟩
def noughtB : ByteArray := ⟨#[48]⟩
def landV (code trunk : ByteArray) : Value := .agg #[.string code, .string trunk]
def lands0 : Array MapEntry := #[]
def lands1 : Array MapEntry := lands0.push ⟨.string ⟨#[71, 66]⟩, landV ⟨#[52, 52]⟩ ⟨#[48]⟩, 0⟩
def lands2 : Array MapEntry := lands1.push ⟨.string ⟨#[85, 83]⟩, landV ⟨#[49]⟩ ⟨#[]⟩, 1⟩
def lands3 : Array MapEntry := lands2.push ⟨.string ⟨#[68, 69]⟩, landV ⟨#[52, 57]⟩ ⟨#[48]⟩, 2⟩
def lands4 : Array MapEntry := lands3.push ⟨.string ⟨#[70, 82]⟩, landV ⟨#[51, 51]⟩ ⟨#[48]⟩, 3⟩
def lands5 : Array MapEntry := lands4.push ⟨.string ⟨#[67, 72]⟩, landV ⟨#[52, 49]⟩ ⟨#[48]⟩, 4⟩
theorem upd_new (w : World) (es : Array MapEntry) (n : Nat) (k : ByteArray) (val : Value) (hf : Instr.findNow .string (.string k) es.toList 0 = some none) :
    (Instr.mapUpdate 71 (.map (some w.heap.size)) (.string k) val).run Tryz.prog (w.alloc (.map es n)) = .ok () (w.alloc (.map (es.push ⟨.string k, val, n⟩) (n + 1))) := by
  have hb : (w.alloc (.map es n)).heap[w.heap.size]? = some (.map es n) := heap_alloc_new w _
  have hk : IsKey .string (.string k) := trivial
  simp [Instr.mapUpdate, run_underlying Tryz.underlying71, MapKept.run_getObj_map hb, MapKept.run_checkKey Tryz.underlying9 hk, MapKept.run_findKey Tryz.underlying9 hf, MapKept.run_setObj_map _ hb, Result.andThen]
  have hp : ∀ (a : Array Obj) (x y : Obj), (a.push x).setIfInBounds a.size y = a.push y := fun a x y => by
    apply Array.ext
    · simp
    · intro i h1 h2
      simp only [Array.size_setIfInBounds, Array.size_push] at h1
      rw [Array.getElem_setIfInBounds (by simpa using h1), Array.getElem_push, Array.getElem_push]
      by_cases hi : a.size = i
      · subst hi; simp
      · simp [hi, show i < a.size by omega]
  unfold World.alloc
  simp only [hp]
set_option maxHeartbeats 1000000 in
theorem countries_any (w : World) :
    Calls Tryz.prog 58 #[] w fun e w' => e = .returned (.map (some w.heap.size)) ∧ w'.heap[w.heap.size]? = some (.map lands5 5) ∧ Below w.heap.size w w' := by
  have hmm := fun w => @run_makeMap Tryz.prog 71 w
  have h0 : ∀ w : World, w.alloc (.map #[] 0) = w.alloc (.map lands0 0) := fun w => rfl
  have u1 := upd_new w lands0 0 ⟨#[71, 66]⟩ (landV ⟨#[52, 52]⟩ ⟨#[48]⟩) (by kernel_rfl)
  have u2 := upd_new w lands1 1 ⟨#[85, 83]⟩ (landV ⟨#[49]⟩ ⟨#[]⟩) (by kernel_rfl)
  have u3 := upd_new w lands2 2 ⟨#[68, 69]⟩ (landV ⟨#[52, 57]⟩ ⟨#[48]⟩) (by kernel_rfl)
  have u4 := upd_new w lands3 3 ⟨#[70, 82]⟩ (landV ⟨#[51, 51]⟩ ⟨#[48]⟩) (by kernel_rfl)
  have u5 := upd_new w lands4 4 ⟨#[67, 72]⟩ (landV ⟨#[52, 49]⟩ ⟨#[48]⟩) (by kernel_rfl)
  rw [show lands0.push ⟨.string ⟨#[71, 66]⟩, landV ⟨#[52, 52]⟩ ⟨#[48]⟩, 0⟩ = lands1 from rfl] at u1
  rw [show lands1.push ⟨.string ⟨#[85, 83]⟩, landV ⟨#[49]⟩ ⟨#[]⟩, 1⟩ = lands2 from rfl] at u2
  rw [show lands2.push ⟨.string ⟨#[68, 69]⟩, landV ⟨#[52, 57]⟩ ⟨#[48]⟩, 2⟩ = lands3 from rfl] at u3
  rw [show lands3.push ⟨.string ⟨#[70, 82]⟩, landV ⟨#[51, 51]⟩ ⟨#[48]⟩, 3⟩ = lands4 from rfl] at u4
  rw [show lands4.push ⟨.string ⟨#[67, 72]⟩, landV ⟨#[52, 49]⟩ ⟨#[48]⟩, 4⟩ = lands5 from rfl] at u5
  simp only [landV, Nat.zero_add, Nat.reduceAdd] at u1 u2 u3 u4 u5
  simp only [h0] at hmm
  clear h0
  go_enter Tryz.func58, Tryz.ntmps58
  go_wp2
  go_ret
  exact ⟨rfl, heap_alloc_new w _, (Below.refl _ _).alloc (Nat.le_refl _) _⟩
theorem look_yes (w : World) (B : Nat) (hb : w.heap[B]? = some (.map lands5 5)) (k : ByteArray) (i : Nat) (v : Value) (hf : Instr.findNow .string (.string k) lands5.toList 0 = some (some (i, v))) :
    (Instr.lookup 71 (.map (some B)) (.string k) true).run Tryz.prog w = .ok (.tuple #[v, .bool true]) w := by
  have hk : IsKey .string (.string k) := trivial
  simp [Instr.lookup, run_underlying Tryz.underlying71, MapKept.run_getObj_map hb, MapKept.run_checkKey Tryz.underlying9 hk, MapKept.run_findKey Tryz.underlying9 hf, Result.andThen]
theorem zero_country (w : World) : (zeroValue 69).run Tryz.prog w = .ok (landV ⟨#[]⟩ ⟨#[]⟩) w := by kernel_rfl
theorem look_no (w : World) (B : Nat) (hb : w.heap[B]? = some (.map lands5 5)) (k : ByteArray) (hf : Instr.findNow .string (.string k) lands5.toList 0 = some none) :
    (Instr.lookup 71 (.map (some B)) (.string k) true).run Tryz.prog w = .ok (.tuple #[landV ⟨#[]⟩ ⟨#[]⟩, .bool false]) w := by
  have hk : IsKey .string (.string k) := trivial
  have hz := zero_country w
  simp [Instr.lookup, run_underlying Tryz.underlying71, MapKept.run_getObj_map hb, MapKept.run_checkKey Tryz.underlying9 hk, MapKept.run_findKey Tryz.underlying9 hf, hz, Result.andThen]
theorem find_none (k : ByteArray) (h1 : k ≠ gbB) (h2 : k ≠ usB) (h3 : k ≠ deB) (h4 : k ≠ frB) (h5 : k ≠ chB) : Instr.findNow .string (.string k) lands5.toList 0 = some none := by
  have e : lands5.toList = [⟨.string gbB, landV ⟨#[52, 52]⟩ ⟨#[48]⟩, 0⟩, ⟨.string usB, landV ⟨#[49]⟩ ⟨#[]⟩, 1⟩, ⟨.string deB, landV ⟨#[52, 57]⟩ ⟨#[48]⟩, 2⟩, ⟨.string frB, landV ⟨#[51, 51]⟩ ⟨#[48]⟩, 3⟩, ⟨.string chB, landV ⟨#[52, 49]⟩ ⟨#[48]⟩, 4⟩] := rfl
  have hks : ∀ x ∈ lands5.toList, IsKey .string x.key := by
    rw [e]
    intro x hx
    simp only [List.mem_cons, List.not_mem_nil, or_false] at hx
    rcases hx with rfl | rfl | rfl | rfl | rfl <;> trivial
  rcases findNow_spec (d := .string) (k := .string k) trivial lands5.toList 0 hks with ⟨h, _⟩ | ⟨j, e', _, hj, he⟩
  · exact h
  · exfalso
    have hm := List.mem_of_getElem? hj
    rw [e] at hm
    simp only [List.mem_cons, List.not_mem_nil, or_false] at hm
    rcases hm with rfl | rfl | rfl | rfl | rfl
    · exact h1 (Value.string.inj he).symm
    · exact h2 (Value.string.inj he).symm
    · exact h3 (Value.string.inj he).symm
    · exact h4 (Value.string.inj he).symm
    · exact h5 (Value.string.inj he).symm
end Go.Proofs.YthllidchoodofaaGreatDoor
namespace Go.Proofs.YthllidchoodofaaGreatDoor
open Go.RowKit
set_option linter.unusedVariables false

/-- A number's digits in one way: the country's code ahead of them, where no + stood. -/
def fullS (code : List Int) (trunk known : Bool) (d : List Int) (p : Bool) : List Int :=
  if known && !p then code ++ (if trunk && d.head? == some 48 then d.drop 1 else d) else d
def okLen (f : List Int) : Bool := decide (6 ≤ f.length) && (decide (f.length ≤ 15) && !(f.head? == some 48))
def phoneS (code : List Int) (trunk known : Bool) (l : List Int) : Option (List Int) :=
  match dialS l with
  | none => none
  | some (d, p) => if okLen (fullS code trunk known d p) then some (fullS code trunk known d p) else none
def PhonePost (r : Option (List Int)) (B : Nat) (w : World) (e : Ending) (w' : World) : Prop :=
  (∃ f, r = some f ∧ e = .returned (.tuple #[.string (strOfNums f), .int .i64 0]) ∧ Below B w w') ∨
  (r = none ∧ e = .returned (.tuple #[.string ⟨#[]⟩, .int .i64 2]) ∧ Below B w w')
def trunkB (t : Bool) : ByteArray := if t then ⟨#[48]⟩ else ⟨#[]⟩
theorem bytes_digits {d : List Int} (h : d.all digI = true) : Bytes d := fun x hx => by
  have := List.all_eq_true.1 h x hx
  simp only [digI, Bool.and_eq_true, decide_eq_true_eq] at this
  omega
theorem nought (s : ByteArray) : Lib.hasPrefix s.data.toList [48] = ((sb s).head? == some 48) := by
  have h48 : ∀ x : UInt8, (48 == x) = ((x.toNat : Int) == 48) := fun x => by rw [show (48 : Int) = ((48 : UInt8).toNat : Int) from rfl, toNat_beq]; exact Bool.beq_comm
  unfold Lib.hasPrefix sb
  cases s.data.toList with
  | nil => rfl
  | cons x l => simp [List.isPrefixOf, h48]
theorem trimp_any (d : List Int) (hb : Bytes d) (t : Bool) (w : World) :
    Calls Tryz.prog 60 #[.string (strOfNums d), .string (trunkB t)] w fun e w' => e = .returned (.string (strOfNums (if t && d.head? == some 48 then d.drop 1 else d))) ∧ w' = w := by
  refine (Tryz.strings_TrimPrefix (strOfNums d) (trunkB t) w).mono ?_
  rintro e w' ⟨rfl, rfl⟩
  refine ⟨?_, rfl⟩
  congr 2
  apply sb_inj
  rw [sb_mk]
  cases t
  · show (Lib.trimPrefix _ []).map _ = sb (strOfNums d)
    have : Lib.trimPrefix (strOfNums d).data.toList [] = (strOfNums d).data.toList := by
      unfold Lib.trimPrefix
      split <;> rfl
    rw [this]; rfl
  · show (Lib.trimPrefix _ [48]).map _ = _
    have hn := nought (strOfNums d)
    rw [sb_strOf hb] at hn
    unfold Lib.trimPrefix
    rw [hn]
    cases hh : (d.head? == some 48)
    · rw [if_neg (by simp)]; rfl
    · rw [if_pos rfl]
      have hb2 : Bytes (d.drop 1) := hb.drop 1
      show _ = sb (strOfNums (d.drop 1))
      rw [sb_strOf hb2, List.map_drop]
      have : (strOfNums d).data.toList.map (fun c => (c.toNat : Int)) = d := sb_strOf hb
      rw [this]; rfl
theorem strOf_append (a b : List Int) : strOfNums a ++ strOfNums b = strOfNums (a ++ b) := by
  cases ha : strOfNums a
  rename_i x
  cases hb : strOfNums b
  rename_i y
  apply ByteArray.ext
  have e1 := strOfNums_data a
  have e2 := strOfNums_data b
  have e3 := strOfNums_data (a ++ b)
  apply Array.toList_inj.1
  rw [e3, ← ha, ← hb]
  simp [e1, e2]
/-- What the end of Phone tells of digits. -/
theorem okLen_parts (f : List Int) : okLen f = true ↔ 6 ≤ f.length ∧ f.length ≤ 15 ∧ at0 f 0 ≠ 48 := by
  unfold okLen
  by_cases h : 0 < f.length
  · rw [head_at f h]
    simp
  · have : f = [] := List.eq_nil_of_length_eq_zero (by omega)
    subst this
    simp
theorem lands_empty : Instr.findNow .string (.string ⟨#[]⟩) lands5.toList 0 = some none := by kernel_rfl
set_option maxRecDepth 100000 in
set_option maxHeartbeats 1000000 in
theorem phone_empty (s : ByteArray) (w : World) (hs : s.size ≤ 140737488355328) :
    Calls Tryz.prog 49 #[.string ⟨#[]⟩, .string s] w (PhonePost (phoneS [] false false (sb s)) w.heap.size w) := by
  have HL := Lib.hid (sb_length s)
  go_enter Tryz.func49, Tryz.ntmps49
  go_wp2_with fail
  refine (countries_any w).mono ?_
  rintro e w1 ⟨rfl, hmap, hb1⟩
  have hlk := look_no w1 w.heap.size hmap ⟨#[]⟩ lands_empty
  unfold landV at hlk
  clear hmap
  go_wp2_with fail
  refine (dialled_any s _ hs).mono ?_
  rintro e w2 hpost
  have HB1 := below_alloc hb1 (.cells #[.string ⟨#[]⟩, .string ⟨#[]⟩] 69)
  rcases hpost with ⟨d, p, hd, rfl, hb2⟩ | ⟨hd, rfl, hb2⟩
  rotate_left
  · have HF := Lib.hid (show phoneS [] false false (sb s) = none by rw [phoneS, hd])
    have HB := below_then HB1 hb2
    clear hd
    go_wp2
    go_ret2
    exact .inr ⟨HF.out, rfl, HB⟩
  have HB := below_then HB1 hb2
  obtain ⟨hdl, hda⟩ := dial_digits hd
  have hdl2 : d.length ≤ 140737488355328 := by have := HL.out; omega
  have hdb := bytes_digits hda
  have hds : (strOfNums d).size ≤ 140737488355328 := by rw [strOfNums_size]; exact hdl2
  have HF := Lib.hid (show phoneS [] false false (sb s) = if okLen (fullS [] false false d p) then some (fullS [] false false d p) else none by rw [phoneS, hd])
  have HX := Lib.hid (And.intro hd (And.intro hda hdb))
  clear hd hda hdb hb2 hb1 HB1 hdl
  have hX : strOfNums d = strOfNums (fullS [] false false d p) := rfl
  generalize hXX : strOfNums d = X at *
  have HXV := Lib.hid hX
  have HXS := Lib.hid (show sb X = fullS [] false false d p by rw [hX]; exact sb_strOf HX.out.2.2)
  have HXL := Lib.hid (show X.size = (fullS [] false false d p).length by rw [hX, strOfNums_size])
  clear hX hXX
  by_cases h6 : X.size < 6
  · have HN := Lib.hid (show phoneS [] false false (sb s) = none by
      rw [HF.out, if_neg]
      intro h
      have h1 := (okLen_parts _).1 h
      rw [← HXL.out] at h1
      omega)
    go_wp2
    go_ret2
    exact .inr ⟨HN.out, rfl, HB⟩
  by_cases h15 : 15 < X.size
  · have HN := Lib.hid (show phoneS [] false false (sb s) = none by
      rw [HF.out, if_neg]
      intro h
      have h1 := (okLen_parts _).1 h
      rw [← HXL.out] at h1
      omega)
    go_wp2
    go_ret2
    exact .inr ⟨HN.out, rfl, HB⟩
  have hx0 : 0 < X.size := by omega
  have hat := at0_sb X 0 hx0
  rw [HXS.out] at hat
  by_cases h48 : at0 (fullS [] false false d p) 0 = 48
  · have HN := Lib.hid (show phoneS [] false false (sb s) = none by
      rw [HF.out, if_neg]
      intro h
      exact ((okLen_parts _).1 h).2.2 h48)
    have hb : (((X[0]'hx0).toNat : Int) == 48) = true := by rw [← hat, h48]; rfl
    clear hat h48
    go_wp2
    go_ret2
    exact .inr ⟨HN.out, rfl, HB⟩
  · have HN := Lib.hid (show phoneS [] false false (sb s) = some (fullS [] false false d p) by
      rw [HF.out, if_pos]
      refine (okLen_parts _).2 ⟨?_, ?_, h48⟩
      · rw [← HXL.out]; omega
      · rw [← HXL.out]; omega)
    have hb : (((X[0]'hx0).toNat : Int) == 48) = false := by rw [← hat, beq_eq_false_iff_ne]; exact h48
    clear hat h48
    go_wp2
    go_ret2
    exact .inl ⟨_, HN.out, by rw [← HXV.out]; rfl, HB⟩
end Go.Proofs.YthllidchoodofaaGreatDoor
