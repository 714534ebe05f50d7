/- Appends of drawn regions: a literal of nothing, what is appended to it. What the program says of its types: sizes, fields, zero values. A region whose order is drawn, of which one operation ahead of the last ones writes to what the region itself has made. No program stands here. Views of a slice of one's own: parts of it, appends and clears in place. No program stands here. slices.Delete on rows of cells. Operations on texts. No program stands here. Package plain; the order of addresses. slices of bonds and of users. Lists that are right: so many at most, each of them good, in order. No program stands here. bond.place. Layer 5 (ids): the document's words over lists of bytes, as numbers; and what the library's words are in these. No program stands here. DERIVED: THE SHELF's CONTRACTS AT THIS DUMP, IN PLAIN WORDS (tools/lay-plain.mjs out of 'YthefddclefimoaaGreatDoorShelf.lean', which tools/lay-shelf.mjs wrote): THE SAME DECLARATIONS UNDER THE SAME NAMES: 'import', 'namespace', 'open', 'def', 'theorem' AND NOTHING ELSE: no command of the shelf's: FOR A HAND-IN. Each laying: the table of numbers ('.._ren') and one theorem, a field a fact of the dump's own or the kernel's comparison; each contract: ONE APPLICATION. Layer 5 (ids): what the program's small functions do, and which texts are names. Layer 5 (ids): servers' names, users', rooms'. The library's variable stays. No program stands here. -/
import Derived.Lib.CutLaws
import Derived.Lib.SlTrimSet
import Derived.Shelf.Strings.Trim
import Derived.Shelf.Small.Utf8
import Derived.Shelf.Small.Bits
import Derived.Shelf.Small.Strs
import Derived.Shelf.Strconv.Itoa0
import Derived.Shelf.Strings.Search1
import Derived.Shelf.Strings.Search2
import Derived.Shelf.Strings.Search3
import Derived.Shelf.Strings.Cut
import Derived.Shelf.LaysM
import Derived.Shelf.Strings.Shaped
import Derived.Shelf.Sort.Plain
import Derived.Shelf.Strings.Prefix
import Derived.Shelf.Unicode.Decode
import Derived.Shelf.Strings.Runes
import Derived.Shelf.Strings.AsciiSet
import Derived.Shelf.Unicode.DecodeSlow
import Derived.Shelf.Unicode.DecodeAny
import Derived.Shelf.Unicode.DecodeLast
import Derived.Shelf.Slices.Turned
import Derived.Shelf.Slices.CompactS
import Derived.Shelf.Slices.Cells
import Derived.Shelf.Slices.In.SortNone
import Derived.Test.YthefddclefimoaaGreatDoorProg
import Derived.Shelf.Strings.SlTrimAscii
import Derived.Test.YthefddclefimoaaGreatDoorXA
namespace Go.Proofs.YthefddclefimoaaGreatDoor
open Go.RowKit
set_option linter.unusedVariables false
set_option linter.unusedSimpArgs false
/-- A literal of nothing: it has no room. -/
def NewE (s base : Nat) (u : Value) (w : World) : Prop := ∃ B, base ≤ B ∧ u = .slice (some ⟨B, 0, none⟩) 0 0 ∧ OwS s w u [] B
/-- A slice of the call's own, behind the world of the base. -/
def NewQ (s base : Nat) (rs : List (List Value)) (u : Value) (w : World) : Prop := ∃ B, base ≤ B ∧ OwS s w u rs B
theorem NewE.below {s base : Nat} {u : Value} {w w' : World} (h : NewE s base u w) (hb : Below w.heap.size w w') : NewE s base u w' := by
  obtain ⟨B, h1, h2, h3⟩ := h
  exact ⟨B, h1, h2, h3.below hb⟩
theorem NewE.le {s base n : Nat} {u : Value} {w : World} (h : NewE s base u w) (hn : n ≤ base) : NewE s n u w := by
  obtain ⟨B, h1, h2, h3⟩ := h
  exact ⟨B, Nat.le_trans hn h1, h2, h3⟩
theorem NewQ.below {s base : Nat} {rs : List (List Value)} {u : Value} {w w' : World} (h : NewQ s base rs u w) (hb : Below w.heap.size w w') : NewQ s base rs u w' := by
  obtain ⟨B, h1, h3⟩ := h
  exact ⟨B, h1, h3.below hb⟩
theorem NewQ.le {s base n : Nat} {rs : List (List Value)} {u : Value} {w : World} (h : NewQ s base rs u w) (hn : n ≤ base) : NewQ s n rs u w := by
  obtain ⟨B, h1, h3⟩ := h
  exact ⟨B, Nat.le_trans hn h1, h3⟩
section
variable {P : Program} {ops : Array Oper} {o : Oper} {N : Nat} {f : Fl} {w : World}
theorem dv_T {p : Prop} [Decidable p] (h : DV P ops o N f w (.bool (decide p))) (hp : p) : DV P ops o N f w (.bool true) := by rwa [decide_eq_true hp] at h
theorem dx_lit0E {t s bytes : Nat} (ho : o.op = .buildSlice t 0 #[]) (ht : apB P t s bytes = true) (h0 : 0 < s) (hw : wantF ops o f = some true := by rfl) : DR P ops o N f w (fun u W => Below w.heap.size w W ∧ NewE s w.heap.size u W) := fun a ha => by
  obtain ⟨e, i, Z, hu, hi, hZ, rfl, rfl, hzs⟩ := of_apB ht
  have hrun := run_buildSlice (P := P) (w := w) hu hi hZ 0 #[] (by omega) (cs := #[]) (by simp [Instr.fill])
  exact Does.of_wp (wantF_of ha hw) fun K hK => by
    unfold Oper.wp execOp
    simp only [ho, Sem.run_bind, List.map_toArray, List.map_nil, hrun, Sem.run_pure, Result.andThen_ok]
    obtain ⟨n1, n2, n3⟩ := newB_row w e []
    exact hK _ _ ⟨n2, _, Nat.le_refl _, rfl, h0, (fun r hr => by cases hr), 0, [], rfl, Nat.le_refl _, Nat.zero_le _, by simp, by simpa using n1⟩
theorem dx_apO' {t s bytes B : Nat} {x y : Operand} {v v2 : Value} {rs news : List (List Value)} {L : List Nat} (ho : o.op = .call { callee := .builtin .append, args := #[x, y], argTypes := #[t, t] }) (ht : apB P t s bytes = true) (hx : ev f x = some v) (hy : ev f y = some v2)
    (h : OwS s w v rs B) (h2 : RdF s L w v2 news) (h1 : ∀ r ∈ news, ∀ u ∈ r, u.oneCell' = true) (hm : rs.length + news.length ≤ maxLen) (hby : (rs.length + news.length) * bytes ≤ 140737488355328) (hw : wantF ops o f = some true := by rfl) : DR P ops o N f w (GrO s B w (rs ++ news)) := fun a ha => by
  obtain ⟨e, i, Z, hu, hi, hz, rfl, rfl, hzs⟩ := of_apB ht
  have hx := ha.ev hx
  have hy := ha.ev hy
  obtain ⟨v', w', B', hr, h3, h4⟩ := run_apO (w := w) (t := t) (ty := o.type) hu hi hz hzs h h2 h1 hm hby
  exact Does.of_wp (wantF_of ha hw) fun K hK => by
    unfold Oper.wp execOp
    simp only [ho, resolve, invoke, builtin, Sem.run_bind, Sem.run_pure, Result.andThen_ok, List.map_toArray, List.map_cons, List.map_nil, hx, hy, hr]
    exact hK _ _ ⟨B', h3, h4⟩
/-- An append to a literal of nothing: nothing changes, or what comes is new. -/
theorem dx_apE {t s bytes base : Nat} {x y : Operand} {u v2 : Value} {news : List (List Value)} {L : List Nat} (ho : o.op = .call { callee := .builtin .append, args := #[x, y], argTypes := #[t, t] }) (ht : apB P t s bytes = true) (hx : ev f x = some u) (hy : ev f y = some v2)
    (h : NewE s base u w) (h2 : RdF s L w v2 news) (hm : news.length ≤ maxLen) (hby : news.length * bytes ≤ 140737488355328) (hb : base ≤ w.heap.size) (hw : wantF ops o f = some true := by rfl) : DR P ops o N f w (fun u W => Below w.heap.size w W ∧ NewQ s base news u W) := fun a ha => by
  obtain ⟨B, h3, rfl, h4⟩ := h
  by_cases hn : news = []
  · subst hn
    have ht0 := ht
    obtain ⟨e, i, Z, hu, hi, hz, rfl, rfl, hzs⟩ := of_apB ht
    have hx := ha.ev hx
    have hy := ha.ev hy
    obtain ⟨_, _, a2, cap2, rfl, hd1, hd2, hd3, hd4⟩ := h2
    have hr : (Builtin.append_ #[t, t] o.type #[.slice (some ⟨B, 0, none⟩) 0 0, .slice a2 0 cap2]).run P w = .ok (.slice (some ⟨B, 0, none⟩) 0 0) w := by
      cases a2 with
      | none => simp [Builtin.append_, run_underlying hu, sizeOf, typeInfo, hi, Builtin.lenOf, Builtin.firstCells, storeCells]
      | some a2 => simp [Builtin.append_, run_underlying hu, sizeOf, typeInfo, hi, Builtin.lenOf, Builtin.firstCells, loadCells, loadCellsFrom, storeCells]
    exact Does.of_wp (wantF_of ha hw) fun K hK => by
      unfold Oper.wp execOp
      simp only [List.length_nil] at hy
      simp only [ho, resolve, invoke, builtin, Sem.run_bind, Sem.run_pure, Result.andThen_ok, List.map_toArray, List.map_cons, List.map_nil, hx, hy, hr]
      exact hK _ _ ⟨Below.refl _ _, B, h3, h4⟩
  · have hrd : RdF s [] w (.slice (some ⟨B, 0, none⟩) ([] : List (List Value)).length ([] : List (List Value)).length) [] := h4.rd (by simp)
    have := dx_apF (N := N) (f := f) (P := P) (ops := ops) (o := o) (w := w) (s := s) (rs := []) (news := news) (L := []) ho ht hx hy hrd (h2.less (by simp)) hn (by simpa using hm) (by simpa using hby) hw
    exact (this.mono fun v W' h => ⟨h.2.1, _, hb, by simpa using h.1⟩) a ha
end
end Go.Proofs.YthefddclefimoaaGreatDoor
namespace Go.Proofs.YthefddclefimoaaGreatDoor
set_option linter.unusedVariables false
set_option maxRecDepth 8000
theorem ty_one_1 : oneB Tryz.prog 1 = true := by kernel_rfl
theorem ty_size_1_1 : sizeB Tryz.prog 1 1 = true := by kernel_rfl
theorem ty_one_2 : oneB Tryz.prog 2 = true := by kernel_rfl
theorem ty_size_2_1 : sizeB Tryz.prog 2 1 = true := by kernel_rfl
theorem ty_zero_2 : (Tryz.prog.info? 2).bind (·.zero) = some (.int .i64 0) := by kernel_rfl
theorem ty_one_3 : oneB Tryz.prog 3 = true := by kernel_rfl
theorem ty_size_3_1 : sizeB Tryz.prog 3 1 = true := by kernel_rfl
theorem ty_zero_3 : (Tryz.prog.info? 3).bind (·.zero) = some (.int .i64 0) := by kernel_rfl
theorem ty_one_4 : oneB Tryz.prog 4 = true := by kernel_rfl
theorem ty_size_4_1 : sizeB Tryz.prog 4 1 = true := by kernel_rfl
theorem ty_zero_4 : (Tryz.prog.info? 4).bind (·.zero) = some (.bool false) := by kernel_rfl
theorem ty_one_5 : oneB Tryz.prog 5 = true := by kernel_rfl
theorem ty_size_5_1 : sizeB Tryz.prog 5 1 = true := by kernel_rfl
theorem ty_zero_5 : (Tryz.prog.info? 5).bind (·.zero) = some (.int .u8 0) := by kernel_rfl
theorem ty_one_6 : oneB Tryz.prog 6 = true := by kernel_rfl
theorem ty_size_6_1 : sizeB Tryz.prog 6 1 = true := by kernel_rfl
theorem ty_zero_6 : (Tryz.prog.info? 6).bind (·.zero) = some (.int .u8 0) := by kernel_rfl
theorem ty_agg_7_4 : aggB Tryz.prog 7 4 = true := by kernel_rfl
theorem ty_size_7_4 : sizeB Tryz.prog 7 4 = true := by kernel_rfl
theorem ty_fld_7_0_0 : fldB Tryz.prog 7 0 0 = true := by kernel_rfl
theorem ty_fld_7_1_1 : fldB Tryz.prog 7 1 1 = true := by kernel_rfl
theorem ty_fld_7_2_2 : fldB Tryz.prog 7 2 2 = true := by kernel_rfl
theorem ty_fld_7_3_3 : fldB Tryz.prog 7 3 3 = true := by kernel_rfl
theorem ty_zero_7 : (Tryz.prog.info? 7).bind (·.zero) = some (.agg #[.int .i64 0, .int .i64 0, .bool false, .int .u8 0]) := by kernel_rfl
theorem ty_agg_8_4 : aggB Tryz.prog 8 4 = true := by kernel_rfl
theorem ty_size_8_4 : sizeB Tryz.prog 8 4 = true := by kernel_rfl
theorem ty_fld_8_0_0 : fldB Tryz.prog 8 0 0 = true := by kernel_rfl
theorem ty_fld_8_1_1 : fldB Tryz.prog 8 1 1 = true := by kernel_rfl
theorem ty_fld_8_2_2 : fldB Tryz.prog 8 2 2 = true := by kernel_rfl
theorem ty_fld_8_3_3 : fldB Tryz.prog 8 3 3 = true := by kernel_rfl
theorem ty_zero_8 : (Tryz.prog.info? 8).bind (·.zero) = some (.agg #[.int .i64 0, .int .i64 0, .bool false, .int .u8 0]) := by kernel_rfl
theorem ty_one_9 : oneB Tryz.prog 9 = true := by kernel_rfl
theorem ty_size_9_1 : sizeB Tryz.prog 9 1 = true := by kernel_rfl
theorem ty_zero_9 : (Tryz.prog.info? 9).bind (·.zero) = some (.string ⟨#[]⟩) := by kernel_rfl
theorem ty_one_10 : oneB Tryz.prog 10 = true := by kernel_rfl
theorem ty_size_10_1 : sizeB Tryz.prog 10 1 = true := by kernel_rfl
theorem ty_zero_10 : (Tryz.prog.info? 10).bind (·.zero) = some (.string ⟨#[]⟩) := by kernel_rfl
theorem ty_one_11 : oneB Tryz.prog 11 = true := by kernel_rfl
theorem ty_size_11_1 : sizeB Tryz.prog 11 1 = true := by kernel_rfl
theorem ty_zero_11 : (Tryz.prog.info? 11).bind (·.zero) = some (.string ⟨#[]⟩) := by kernel_rfl
theorem ty_one_12 : oneB Tryz.prog 12 = true := by kernel_rfl
theorem ty_size_12_1 : sizeB Tryz.prog 12 1 = true := by kernel_rfl
theorem ty_zero_12 : (Tryz.prog.info? 12).bind (·.zero) = some (.int .u64 0) := by kernel_rfl
theorem ty_agg_13_2 : aggB Tryz.prog 13 2 = true := by kernel_rfl
theorem ty_size_13_2 : sizeB Tryz.prog 13 2 = true := by kernel_rfl
theorem ty_fld_13_0_0 : fldB Tryz.prog 13 0 0 = true := by kernel_rfl
theorem ty_fld_13_1_1 : fldB Tryz.prog 13 1 1 = true := by kernel_rfl
theorem ty_zero_13 : (Tryz.prog.info? 13).bind (·.zero) = some (.agg #[.string ⟨#[]⟩, .int .u64 0]) := by kernel_rfl
theorem ty_agg_14_2 : aggB Tryz.prog 14 2 = true := by kernel_rfl
theorem ty_size_14_2 : sizeB Tryz.prog 14 2 = true := by kernel_rfl
theorem ty_fld_14_0_0 : fldB Tryz.prog 14 0 0 = true := by kernel_rfl
theorem ty_fld_14_1_1 : fldB Tryz.prog 14 1 1 = true := by kernel_rfl
theorem ty_zero_14 : (Tryz.prog.info? 14).bind (·.zero) = some (.agg #[.string ⟨#[]⟩, .int .u64 0]) := by kernel_rfl
theorem ty_one_21 : oneB Tryz.prog 21 = true := by kernel_rfl
theorem ty_size_21_1 : sizeB Tryz.prog 21 1 = true := by kernel_rfl
theorem ty_zero_21 : (Tryz.prog.info? 21).bind (·.zero) = some (.int .i32 0) := by kernel_rfl
theorem ty_one_22 : oneB Tryz.prog 22 = true := by kernel_rfl
theorem ty_size_22_1 : sizeB Tryz.prog 22 1 = true := by kernel_rfl
theorem ty_slice_22 : sliceB Tryz.prog 22 3 = true := by kernel_rfl
theorem ty_ap_22 : apB Tryz.prog 22 3 56 = true := by kernel_rfl
theorem ty_zero_22 : (Tryz.prog.info? 22).bind (·.zero) = some (.slice none 0 0) := by kernel_rfl
theorem ty_one_23 : oneB Tryz.prog 23 = true := by kernel_rfl
theorem ty_size_23_1 : sizeB Tryz.prog 23 1 = true := by kernel_rfl
theorem ty_one_24 : oneB Tryz.prog 24 = true := by kernel_rfl
theorem ty_size_24_1 : sizeB Tryz.prog 24 1 = true := by kernel_rfl
theorem ty_one_25 : oneB Tryz.prog 25 = true := by kernel_rfl
theorem ty_size_25_1 : sizeB Tryz.prog 25 1 = true := by kernel_rfl
theorem ty_one_26 : oneB Tryz.prog 26 = true := by kernel_rfl
theorem ty_size_26_1 : sizeB Tryz.prog 26 1 = true := by kernel_rfl
theorem ty_zero_26 : (Tryz.prog.info? 26).bind (·.zero) = some (.int .i64 0) := by kernel_rfl
theorem ty_one_28 : oneB Tryz.prog 28 = true := by kernel_rfl
theorem ty_size_28_1 : sizeB Tryz.prog 28 1 = true := by kernel_rfl
theorem ty_one_29 : oneB Tryz.prog 29 = true := by kernel_rfl
theorem ty_size_29_1 : sizeB Tryz.prog 29 1 = true := by kernel_rfl
theorem ty_one_31 : oneB Tryz.prog 31 = true := by kernel_rfl
theorem ty_size_31_1 : sizeB Tryz.prog 31 1 = true := by kernel_rfl
theorem ty_one_32 : oneB Tryz.prog 32 = true := by kernel_rfl
theorem ty_size_32_1 : sizeB Tryz.prog 32 1 = true := by kernel_rfl
theorem ty_one_33 : oneB Tryz.prog 33 = true := by kernel_rfl
theorem ty_size_33_1 : sizeB Tryz.prog 33 1 = true := by kernel_rfl
theorem ty_one_34 : oneB Tryz.prog 34 = true := by kernel_rfl
theorem ty_size_34_1 : sizeB Tryz.prog 34 1 = true := by kernel_rfl
theorem ty_slice_34 : sliceB Tryz.prog 34 1 = true := by kernel_rfl
theorem ty_ap_34 : apB Tryz.prog 34 1 16 = true := by kernel_rfl
theorem ty_zero_34 : (Tryz.prog.info? 34).bind (·.zero) = some (.slice none 0 0) := by kernel_rfl
theorem ty_one_35 : oneB Tryz.prog 35 = true := by kernel_rfl
theorem ty_size_35_1 : sizeB Tryz.prog 35 1 = true := by kernel_rfl
theorem ty_one_36 : oneB Tryz.prog 36 = true := by kernel_rfl
theorem ty_size_36_1 : sizeB Tryz.prog 36 1 = true := by kernel_rfl
theorem ty_one_37 : oneB Tryz.prog 37 = true := by kernel_rfl
theorem ty_size_37_1 : sizeB Tryz.prog 37 1 = true := by kernel_rfl
theorem ty_one_38 : oneB Tryz.prog 38 = true := by kernel_rfl
theorem ty_size_38_1 : sizeB Tryz.prog 38 1 = true := by kernel_rfl
theorem ty_slice_38 : sliceB Tryz.prog 38 4 = true := by kernel_rfl
theorem ty_ap_38 : apB Tryz.prog 38 4 56 = true := by kernel_rfl
theorem ty_zero_38 : (Tryz.prog.info? 38).bind (·.zero) = some (.slice none 0 0) := by kernel_rfl
theorem ty_agg_39_2 : aggB Tryz.prog 39 2 = true := by kernel_rfl
theorem ty_size_39_2 : sizeB Tryz.prog 39 2 = true := by kernel_rfl
theorem ty_fld_39_0_0 : fldB Tryz.prog 39 0 0 = true := by kernel_rfl
theorem ty_fld_39_1_1 : fldB Tryz.prog 39 1 1 = true := by kernel_rfl
theorem ty_zero_39 : (Tryz.prog.info? 39).bind (·.zero) = some (.agg #[.string ⟨#[]⟩, .string ⟨#[]⟩]) := by kernel_rfl
theorem ty_agg_40_2 : aggB Tryz.prog 40 2 = true := by kernel_rfl
theorem ty_size_40_2 : sizeB Tryz.prog 40 2 = true := by kernel_rfl
theorem ty_fld_40_0_0 : fldB Tryz.prog 40 0 0 = true := by kernel_rfl
theorem ty_fld_40_1_1 : fldB Tryz.prog 40 1 1 = true := by kernel_rfl
theorem ty_zero_40 : (Tryz.prog.info? 40).bind (·.zero) = some (.agg #[.string ⟨#[]⟩, .string ⟨#[]⟩]) := by kernel_rfl
theorem ty_agg_41_4 : aggB Tryz.prog 41 4 = true := by kernel_rfl
theorem ty_size_41_4 : sizeB Tryz.prog 41 4 = true := by kernel_rfl
theorem ty_fld_41_0_0 : fldB Tryz.prog 41 0 0 = true := by kernel_rfl
theorem ty_fld_41_1_2 : fldB Tryz.prog 41 1 2 = true := by kernel_rfl
theorem ty_fld_41_2_3 : fldB Tryz.prog 41 2 3 = true := by kernel_rfl
theorem ty_zero_41 : (Tryz.prog.info? 41).bind (·.zero) = some (.agg #[.string ⟨#[]⟩, .string ⟨#[]⟩, .string ⟨#[]⟩, .int .i64 0]) := by kernel_rfl
theorem ty_agg_42_4 : aggB Tryz.prog 42 4 = true := by kernel_rfl
theorem ty_size_42_4 : sizeB Tryz.prog 42 4 = true := by kernel_rfl
theorem ty_fld_42_0_0 : fldB Tryz.prog 42 0 0 = true := by kernel_rfl
theorem ty_fld_42_1_2 : fldB Tryz.prog 42 1 2 = true := by kernel_rfl
theorem ty_fld_42_2_3 : fldB Tryz.prog 42 2 3 = true := by kernel_rfl
theorem ty_zero_42 : (Tryz.prog.info? 42).bind (·.zero) = some (.agg #[.string ⟨#[]⟩, .string ⟨#[]⟩, .string ⟨#[]⟩, .int .i64 0]) := by kernel_rfl
theorem ty_one_43 : oneB Tryz.prog 43 = true := by kernel_rfl
theorem ty_size_43_1 : sizeB Tryz.prog 43 1 = true := by kernel_rfl
theorem ty_one_45 : oneB Tryz.prog 45 = true := by kernel_rfl
theorem ty_size_45_1 : sizeB Tryz.prog 45 1 = true := by kernel_rfl
theorem ty_one_47 : oneB Tryz.prog 47 = true := by kernel_rfl
theorem ty_size_47_1 : sizeB Tryz.prog 47 1 = true := by kernel_rfl
theorem ty_one_48 : oneB Tryz.prog 48 = true := by kernel_rfl
theorem ty_size_48_1 : sizeB Tryz.prog 48 1 = true := by kernel_rfl
theorem ty_one_49 : oneB Tryz.prog 49 = true := by kernel_rfl
theorem ty_size_49_1 : sizeB Tryz.prog 49 1 = true := by kernel_rfl
theorem ty_one_50 : oneB Tryz.prog 50 = true := by kernel_rfl
theorem ty_size_50_1 : sizeB Tryz.prog 50 1 = true := by kernel_rfl
theorem ty_slice_50 : sliceB Tryz.prog 50 2 = true := by kernel_rfl
theorem ty_ap_50 : apB Tryz.prog 50 2 32 = true := by kernel_rfl
theorem ty_zero_50 : (Tryz.prog.info? 50).bind (·.zero) = some (.slice none 0 0) := by kernel_rfl
theorem ty_one_51 : oneB Tryz.prog 51 = true := by kernel_rfl
theorem ty_size_51_1 : sizeB Tryz.prog 51 1 = true := by kernel_rfl
theorem ty_one_52 : oneB Tryz.prog 52 = true := by kernel_rfl
theorem ty_size_52_1 : sizeB Tryz.prog 52 1 = true := by kernel_rfl
theorem ty_agg_53_3 : aggB Tryz.prog 53 3 = true := by kernel_rfl
theorem ty_size_53_3 : sizeB Tryz.prog 53 3 = true := by kernel_rfl
theorem ty_fld_53_0_0 : fldB Tryz.prog 53 0 0 = true := by kernel_rfl
theorem ty_fld_53_1_1 : fldB Tryz.prog 53 1 1 = true := by kernel_rfl
theorem ty_fld_53_2_2 : fldB Tryz.prog 53 2 2 = true := by kernel_rfl
theorem ty_zero_53 : (Tryz.prog.info? 53).bind (·.zero) = some (.agg #[.string ⟨#[]⟩, .string ⟨#[]⟩, .slice none 0 0]) := by kernel_rfl
theorem ty_agg_54_3 : aggB Tryz.prog 54 3 = true := by kernel_rfl
theorem ty_size_54_3 : sizeB Tryz.prog 54 3 = true := by kernel_rfl
theorem ty_fld_54_0_0 : fldB Tryz.prog 54 0 0 = true := by kernel_rfl
theorem ty_fld_54_1_1 : fldB Tryz.prog 54 1 1 = true := by kernel_rfl
theorem ty_fld_54_2_2 : fldB Tryz.prog 54 2 2 = true := by kernel_rfl
theorem ty_zero_54 : (Tryz.prog.info? 54).bind (·.zero) = some (.agg #[.string ⟨#[]⟩, .string ⟨#[]⟩, .slice none 0 0]) := by kernel_rfl
theorem ty_one_55 : oneB Tryz.prog 55 = true := by kernel_rfl
theorem ty_size_55_1 : sizeB Tryz.prog 55 1 = true := by kernel_rfl
theorem ty_one_56 : oneB Tryz.prog 56 = true := by kernel_rfl
theorem ty_size_56_1 : sizeB Tryz.prog 56 1 = true := by kernel_rfl
theorem ty_one_57 : oneB Tryz.prog 57 = true := by kernel_rfl
theorem ty_size_57_1 : sizeB Tryz.prog 57 1 = true := by kernel_rfl
theorem ty_one_58 : oneB Tryz.prog 58 = true := by kernel_rfl
theorem ty_size_58_1 : sizeB Tryz.prog 58 1 = true := by kernel_rfl
theorem ty_one_59 : oneB Tryz.prog 59 = true := by kernel_rfl
theorem ty_size_59_1 : sizeB Tryz.prog 59 1 = true := by kernel_rfl
theorem ty_one_60 : oneB Tryz.prog 60 = true := by kernel_rfl
theorem ty_size_60_1 : sizeB Tryz.prog 60 1 = true := by kernel_rfl
theorem ty_one_61 : oneB Tryz.prog 61 = true := by kernel_rfl
theorem ty_size_61_1 : sizeB Tryz.prog 61 1 = true := by kernel_rfl
theorem ty_one_63 : oneB Tryz.prog 63 = true := by kernel_rfl
theorem ty_size_63_1 : sizeB Tryz.prog 63 1 = true := by kernel_rfl
theorem ty_one_64 : oneB Tryz.prog 64 = true := by kernel_rfl
theorem ty_size_64_1 : sizeB Tryz.prog 64 1 = true := by kernel_rfl
theorem ty_one_65 : oneB Tryz.prog 65 = true := by kernel_rfl
theorem ty_size_65_1 : sizeB Tryz.prog 65 1 = true := by kernel_rfl
theorem ty_one_66 : oneB Tryz.prog 66 = true := by kernel_rfl
theorem ty_size_66_1 : sizeB Tryz.prog 66 1 = true := by kernel_rfl
theorem ty_one_67 : oneB Tryz.prog 67 = true := by kernel_rfl
theorem ty_size_67_1 : sizeB Tryz.prog 67 1 = true := by kernel_rfl
theorem ty_one_68 : oneB Tryz.prog 68 = true := by kernel_rfl
theorem ty_size_68_1 : sizeB Tryz.prog 68 1 = true := by kernel_rfl
theorem ty_one_69 : oneB Tryz.prog 69 = true := by kernel_rfl
theorem ty_size_69_1 : sizeB Tryz.prog 69 1 = true := by kernel_rfl
theorem ty_one_70 : oneB Tryz.prog 70 = true := by kernel_rfl
theorem ty_size_70_1 : sizeB Tryz.prog 70 1 = true := by kernel_rfl
theorem ty_one_71 : oneB Tryz.prog 71 = true := by kernel_rfl
theorem ty_size_71_1 : sizeB Tryz.prog 71 1 = true := by kernel_rfl
theorem ty_one_72 : oneB Tryz.prog 72 = true := by kernel_rfl
theorem ty_size_72_1 : sizeB Tryz.prog 72 1 = true := by kernel_rfl
theorem ty_one_73 : oneB Tryz.prog 73 = true := by kernel_rfl
theorem ty_size_73_1 : sizeB Tryz.prog 73 1 = true := by kernel_rfl
theorem ty_one_75 : oneB Tryz.prog 75 = true := by kernel_rfl
theorem ty_size_75_1 : sizeB Tryz.prog 75 1 = true := by kernel_rfl
theorem ty_one_76 : oneB Tryz.prog 76 = true := by kernel_rfl
theorem ty_size_76_1 : sizeB Tryz.prog 76 1 = true := by kernel_rfl
theorem ty_one_77 : oneB Tryz.prog 77 = true := by kernel_rfl
theorem ty_size_77_1 : sizeB Tryz.prog 77 1 = true := by kernel_rfl
theorem ty_one_78 : oneB Tryz.prog 78 = true := by kernel_rfl
theorem ty_size_78_1 : sizeB Tryz.prog 78 1 = true := by kernel_rfl
theorem ty_one_79 : oneB Tryz.prog 79 = true := by kernel_rfl
theorem ty_size_79_1 : sizeB Tryz.prog 79 1 = true := by kernel_rfl
theorem ty_one_80 : oneB Tryz.prog 80 = true := by kernel_rfl
theorem ty_size_80_1 : sizeB Tryz.prog 80 1 = true := by kernel_rfl
theorem ty_one_81 : oneB Tryz.prog 81 = true := by kernel_rfl
theorem ty_size_81_1 : sizeB Tryz.prog 81 1 = true := by kernel_rfl
theorem ty_one_82 : oneB Tryz.prog 82 = true := by kernel_rfl
theorem ty_size_82_1 : sizeB Tryz.prog 82 1 = true := by kernel_rfl
theorem ty_one_83 : oneB Tryz.prog 83 = true := by kernel_rfl
theorem ty_size_83_1 : sizeB Tryz.prog 83 1 = true := by kernel_rfl
theorem ty_one_85 : oneB Tryz.prog 85 = true := by kernel_rfl
theorem ty_size_85_1 : sizeB Tryz.prog 85 1 = true := by kernel_rfl
theorem ty_one_86 : oneB Tryz.prog 86 = true := by kernel_rfl
theorem ty_size_86_1 : sizeB Tryz.prog 86 1 = true := by kernel_rfl
theorem ty_slice_86 : sliceB Tryz.prog 86 1 = true := by kernel_rfl
theorem ty_ap_86 : apB Tryz.prog 86 1 24 = true := by kernel_rfl
theorem ty_zero_86 : (Tryz.prog.info? 86).bind (·.zero) = some (.slice none 0 0) := by kernel_rfl
theorem ty_one_87 : oneB Tryz.prog 87 = true := by kernel_rfl
theorem ty_size_87_1 : sizeB Tryz.prog 87 1 = true := by kernel_rfl
theorem ty_one_88 : oneB Tryz.prog 88 = true := by kernel_rfl
theorem ty_size_88_1 : sizeB Tryz.prog 88 1 = true := by kernel_rfl
theorem ty_one_89 : oneB Tryz.prog 89 = true := by kernel_rfl
theorem ty_size_89_1 : sizeB Tryz.prog 89 1 = true := by kernel_rfl
theorem ty_one_90 : oneB Tryz.prog 90 = true := by kernel_rfl
theorem ty_size_90_1 : sizeB Tryz.prog 90 1 = true := by kernel_rfl
theorem ty_zero_90 : (Tryz.prog.info? 90).bind (·.zero) = some (.int .u64 0) := by kernel_rfl
theorem ty_one_91 : oneB Tryz.prog 91 = true := by kernel_rfl
theorem ty_size_91_1 : sizeB Tryz.prog 91 1 = true := by kernel_rfl
theorem ty_one_92 : oneB Tryz.prog 92 = true := by kernel_rfl
theorem ty_size_92_1 : sizeB Tryz.prog 92 1 = true := by kernel_rfl
theorem ty_one_93 : oneB Tryz.prog 93 = true := by kernel_rfl
theorem ty_size_93_1 : sizeB Tryz.prog 93 1 = true := by kernel_rfl
theorem ty_one_94 : oneB Tryz.prog 94 = true := by kernel_rfl
theorem ty_size_94_1 : sizeB Tryz.prog 94 1 = true := by kernel_rfl
theorem ty_one_95 : oneB Tryz.prog 95 = true := by kernel_rfl
theorem ty_size_95_1 : sizeB Tryz.prog 95 1 = true := by kernel_rfl
theorem ty_one_96 : oneB Tryz.prog 96 = true := by kernel_rfl
theorem ty_size_96_1 : sizeB Tryz.prog 96 1 = true := by kernel_rfl
theorem ty_one_97 : oneB Tryz.prog 97 = true := by kernel_rfl
theorem ty_size_97_1 : sizeB Tryz.prog 97 1 = true := by kernel_rfl
theorem ty_one_98 : oneB Tryz.prog 98 = true := by kernel_rfl
theorem ty_size_98_1 : sizeB Tryz.prog 98 1 = true := by kernel_rfl
theorem ty_one_99 : oneB Tryz.prog 99 = true := by kernel_rfl
theorem ty_size_99_1 : sizeB Tryz.prog 99 1 = true := by kernel_rfl
theorem ty_one_100 : oneB Tryz.prog 100 = true := by kernel_rfl
theorem ty_size_100_1 : sizeB Tryz.prog 100 1 = true := by kernel_rfl
theorem ty_one_101 : oneB Tryz.prog 101 = true := by kernel_rfl
theorem ty_size_101_1 : sizeB Tryz.prog 101 1 = true := by kernel_rfl
theorem ty_one_102 : oneB Tryz.prog 102 = true := by kernel_rfl
theorem ty_size_102_1 : sizeB Tryz.prog 102 1 = true := by kernel_rfl
theorem ty_zero_102 : (Tryz.prog.info? 102).bind (·.zero) = some (.int .i64 0) := by kernel_rfl
theorem ty_one_104 : oneB Tryz.prog 104 = true := by kernel_rfl
theorem ty_size_104_1 : sizeB Tryz.prog 104 1 = true := by kernel_rfl
theorem ty_one_105 : oneB Tryz.prog 105 = true := by kernel_rfl
theorem ty_size_105_1 : sizeB Tryz.prog 105 1 = true := by kernel_rfl
theorem ty_one_106 : oneB Tryz.prog 106 = true := by kernel_rfl
theorem ty_size_106_1 : sizeB Tryz.prog 106 1 = true := by kernel_rfl
theorem ty_one_107 : oneB Tryz.prog 107 = true := by kernel_rfl
theorem ty_size_107_1 : sizeB Tryz.prog 107 1 = true := by kernel_rfl
theorem ty_one_108 : oneB Tryz.prog 108 = true := by kernel_rfl
theorem ty_size_108_1 : sizeB Tryz.prog 108 1 = true := by kernel_rfl
theorem ty_one_109 : oneB Tryz.prog 109 = true := by kernel_rfl
theorem ty_size_109_1 : sizeB Tryz.prog 109 1 = true := by kernel_rfl
theorem ty_one_110 : oneB Tryz.prog 110 = true := by kernel_rfl
theorem ty_size_110_1 : sizeB Tryz.prog 110 1 = true := by kernel_rfl
theorem ty_zero_110 : (Tryz.prog.info? 110).bind (·.zero) = some (.int .u32 0) := by kernel_rfl
theorem ty_one_111 : oneB Tryz.prog 111 = true := by kernel_rfl
theorem ty_size_111_1 : sizeB Tryz.prog 111 1 = true := by kernel_rfl
theorem ty_one_112 : oneB Tryz.prog 112 = true := by kernel_rfl
theorem ty_size_112_1 : sizeB Tryz.prog 112 1 = true := by kernel_rfl
theorem ty_zero_112 : (Tryz.prog.info? 112).bind (·.zero) = some (.int .u64 0) := by kernel_rfl
theorem ty_one_114 : oneB Tryz.prog 114 = true := by kernel_rfl
theorem ty_size_114_1 : sizeB Tryz.prog 114 1 = true := by kernel_rfl
theorem ty_one_115 : oneB Tryz.prog 115 = true := by kernel_rfl
theorem ty_size_115_1 : sizeB Tryz.prog 115 1 = true := by kernel_rfl
theorem ty_one_116 : oneB Tryz.prog 116 = true := by kernel_rfl
theorem ty_size_116_1 : sizeB Tryz.prog 116 1 = true := by kernel_rfl
theorem ty_zero_116 : (Tryz.prog.info? 116).bind (·.zero) = some (.int .u64 0) := by kernel_rfl
theorem ty_one_117 : oneB Tryz.prog 117 = true := by kernel_rfl
theorem ty_size_117_1 : sizeB Tryz.prog 117 1 = true := by kernel_rfl
theorem ty_one_118 : oneB Tryz.prog 118 = true := by kernel_rfl
theorem ty_size_118_1 : sizeB Tryz.prog 118 1 = true := by kernel_rfl
theorem ty_one_119 : oneB Tryz.prog 119 = true := by kernel_rfl
theorem ty_size_119_1 : sizeB Tryz.prog 119 1 = true := by kernel_rfl
theorem ty_one_121 : oneB Tryz.prog 121 = true := by kernel_rfl
theorem ty_size_121_1 : sizeB Tryz.prog 121 1 = true := by kernel_rfl
theorem ty_one_122 : oneB Tryz.prog 122 = true := by kernel_rfl
theorem ty_size_122_1 : sizeB Tryz.prog 122 1 = true := by kernel_rfl
theorem ty_one_123 : oneB Tryz.prog 123 = true := by kernel_rfl
theorem ty_size_123_1 : sizeB Tryz.prog 123 1 = true := by kernel_rfl
theorem ty_one_124 : oneB Tryz.prog 124 = true := by kernel_rfl
theorem ty_size_124_1 : sizeB Tryz.prog 124 1 = true := by kernel_rfl
theorem ty_one_125 : oneB Tryz.prog 125 = true := by kernel_rfl
theorem ty_size_125_1 : sizeB Tryz.prog 125 1 = true := by kernel_rfl
theorem ty_one_126 : oneB Tryz.prog 126 = true := by kernel_rfl
theorem ty_size_126_1 : sizeB Tryz.prog 126 1 = true := by kernel_rfl
theorem ty_one_129 : oneB Tryz.prog 129 = true := by kernel_rfl
theorem ty_size_129_1 : sizeB Tryz.prog 129 1 = true := by kernel_rfl
theorem ty_one_130 : oneB Tryz.prog 130 = true := by kernel_rfl
theorem ty_size_130_1 : sizeB Tryz.prog 130 1 = true := by kernel_rfl
theorem ty_agg_131_2 : aggB Tryz.prog 131 2 = true := by kernel_rfl
theorem ty_size_131_2 : sizeB Tryz.prog 131 2 = true := by kernel_rfl
theorem ty_fld_131_0_0 : fldB Tryz.prog 131 0 0 = true := by kernel_rfl
theorem ty_fld_131_1_1 : fldB Tryz.prog 131 1 1 = true := by kernel_rfl
theorem ty_zero_131 : (Tryz.prog.info? 131).bind (·.zero) = some (.agg #[.string ⟨#[]⟩, .string ⟨#[]⟩]) := by kernel_rfl
theorem ty_agg_132_2 : aggB Tryz.prog 132 2 = true := by kernel_rfl
theorem ty_size_132_2 : sizeB Tryz.prog 132 2 = true := by kernel_rfl
theorem ty_fld_132_0_0 : fldB Tryz.prog 132 0 0 = true := by kernel_rfl
theorem ty_fld_132_1_1 : fldB Tryz.prog 132 1 1 = true := by kernel_rfl
theorem ty_zero_132 : (Tryz.prog.info? 132).bind (·.zero) = some (.agg #[.string ⟨#[]⟩, .string ⟨#[]⟩]) := by kernel_rfl
theorem ty_one_135 : oneB Tryz.prog 135 = true := by kernel_rfl
theorem ty_size_135_1 : sizeB Tryz.prog 135 1 = true := by kernel_rfl
theorem ty_one_137 : oneB Tryz.prog 137 = true := by kernel_rfl
theorem ty_size_137_1 : sizeB Tryz.prog 137 1 = true := by kernel_rfl
theorem ty_one_138 : oneB Tryz.prog 138 = true := by kernel_rfl
theorem ty_size_138_1 : sizeB Tryz.prog 138 1 = true := by kernel_rfl
theorem ty_one_140 : oneB Tryz.prog 140 = true := by kernel_rfl
theorem ty_size_140_1 : sizeB Tryz.prog 140 1 = true := by kernel_rfl
theorem ty_one_141 : oneB Tryz.prog 141 = true := by kernel_rfl
theorem ty_size_141_1 : sizeB Tryz.prog 141 1 = true := by kernel_rfl
theorem ty_one_142 : oneB Tryz.prog 142 = true := by kernel_rfl
theorem ty_size_142_1 : sizeB Tryz.prog 142 1 = true := by kernel_rfl
theorem ty_agg_143_256 : aggB Tryz.prog 143 256 = true := by kernel_rfl
theorem ty_size_143_256 : sizeB Tryz.prog 143 256 = true := by kernel_rfl
theorem ty_agg_144_256 : aggB Tryz.prog 144 256 = true := by kernel_rfl
theorem ty_size_144_256 : sizeB Tryz.prog 144 256 = true := by kernel_rfl
theorem ty_one_146 : oneB Tryz.prog 146 = true := by kernel_rfl
theorem ty_size_146_1 : sizeB Tryz.prog 146 1 = true := by kernel_rfl
theorem ty_one_147 : oneB Tryz.prog 147 = true := by kernel_rfl
theorem ty_size_147_1 : sizeB Tryz.prog 147 1 = true := by kernel_rfl
theorem ty_one_149 : oneB Tryz.prog 149 = true := by kernel_rfl
theorem ty_size_149_1 : sizeB Tryz.prog 149 1 = true := by kernel_rfl
theorem ty_slice_149 : sliceB Tryz.prog 149 1 = true := by kernel_rfl
theorem ty_ap_149 : apB Tryz.prog 149 1 1 = true := by kernel_rfl
theorem ty_zero_149 : (Tryz.prog.info? 149).bind (·.zero) = some (.slice none 0 0) := by kernel_rfl
theorem ty_one_151 : oneB Tryz.prog 151 = true := by kernel_rfl
theorem ty_size_151_1 : sizeB Tryz.prog 151 1 = true := by kernel_rfl
theorem ty_one_153 : oneB Tryz.prog 153 = true := by kernel_rfl
theorem ty_size_153_1 : sizeB Tryz.prog 153 1 = true := by kernel_rfl
theorem ty_one_154 : oneB Tryz.prog 154 = true := by kernel_rfl
theorem ty_size_154_1 : sizeB Tryz.prog 154 1 = true := by kernel_rfl
theorem ty_one_155 : oneB Tryz.prog 155 = true := by kernel_rfl
theorem ty_size_155_1 : sizeB Tryz.prog 155 1 = true := by kernel_rfl
theorem ty_agg_156_256 : aggB Tryz.prog 156 256 = true := by kernel_rfl
theorem ty_size_156_256 : sizeB Tryz.prog 156 256 = true := by kernel_rfl
theorem ty_zero_156 : (Tryz.prog.info? 156).bind (·.zero) = some (.agg (Array.replicate 256 (.int .u8 0))) := by kernel_rfl
theorem ty_agg_157_2 : aggB Tryz.prog 157 2 = true := by kernel_rfl
theorem ty_size_157_2 : sizeB Tryz.prog 157 2 = true := by kernel_rfl
theorem ty_fld_157_0_0 : fldB Tryz.prog 157 0 0 = true := by kernel_rfl
theorem ty_fld_157_1_1 : fldB Tryz.prog 157 1 1 = true := by kernel_rfl
theorem ty_zero_157 : (Tryz.prog.info? 157).bind (·.zero) = some (.agg #[.int .u8 0, .int .u8 0]) := by kernel_rfl
theorem ty_agg_158_2 : aggB Tryz.prog 158 2 = true := by kernel_rfl
theorem ty_size_158_2 : sizeB Tryz.prog 158 2 = true := by kernel_rfl
theorem ty_fld_158_0_0 : fldB Tryz.prog 158 0 0 = true := by kernel_rfl
theorem ty_fld_158_1_1 : fldB Tryz.prog 158 1 1 = true := by kernel_rfl
theorem ty_zero_158 : (Tryz.prog.info? 158).bind (·.zero) = some (.agg #[.int .u8 0, .int .u8 0]) := by kernel_rfl
theorem ty_agg_159_32 : aggB Tryz.prog 159 32 = true := by kernel_rfl
theorem ty_size_159_32 : sizeB Tryz.prog 159 32 = true := by kernel_rfl
theorem ty_zero_159 : (Tryz.prog.info? 159).bind (·.zero) = some (.agg #[.int .u8 0, .int .u8 0, .int .u8 0, .int .u8 0, .int .u8 0, .int .u8 0, .int .u8 0, .int .u8 0, .int .u8 0, .int .u8 0, .int .u8 0, .int .u8 0, .int .u8 0, .int .u8 0, .int .u8 0, .int .u8 0, .int .u8 0, .int .u8 0, .int .u8 0, .int .u8 0, .int .u8 0, .int .u8 0, .int .u8 0, .int .u8 0, .int .u8 0, .int .u8 0, .int .u8 0, .int .u8 0, .int .u8 0, .int .u8 0, .int .u8 0, .int .u8 0]) := by kernel_rfl
theorem ty_one_160 : oneB Tryz.prog 160 = true := by kernel_rfl
theorem ty_size_160_1 : sizeB Tryz.prog 160 1 = true := by kernel_rfl
theorem ty_one_161 : oneB Tryz.prog 161 = true := by kernel_rfl
theorem ty_size_161_1 : sizeB Tryz.prog 161 1 = true := by kernel_rfl
theorem ty_one_167 : oneB Tryz.prog 167 = true := by kernel_rfl
theorem ty_size_167_1 : sizeB Tryz.prog 167 1 = true := by kernel_rfl
theorem ty_one_168 : oneB Tryz.prog 168 = true := by kernel_rfl
theorem ty_size_168_1 : sizeB Tryz.prog 168 1 = true := by kernel_rfl
theorem ty_zero_168 : (Tryz.prog.info? 168).bind (·.zero) = some (.int .u8 0) := by kernel_rfl
theorem ty_one_169 : oneB Tryz.prog 169 = true := by kernel_rfl
theorem ty_size_169_1 : sizeB Tryz.prog 169 1 = true := by kernel_rfl
theorem ty_zero_169 : (Tryz.prog.info? 169).bind (·.zero) = some (.int .u8 0) := by kernel_rfl
theorem ty_one_170 : oneB Tryz.prog 170 = true := by kernel_rfl
theorem ty_size_170_1 : sizeB Tryz.prog 170 1 = true := by kernel_rfl
theorem ty_one_172 : oneB Tryz.prog 172 = true := by kernel_rfl
theorem ty_size_172_1 : sizeB Tryz.prog 172 1 = true := by kernel_rfl
theorem ty_zero_172 : (Tryz.prog.info? 172).bind (·.zero) = some (.int .i32 0) := by kernel_rfl
theorem ty_one_173 : oneB Tryz.prog 173 = true := by kernel_rfl
theorem ty_size_173_1 : sizeB Tryz.prog 173 1 = true := by kernel_rfl
theorem ty_zero_173 : (Tryz.prog.info? 173).bind (·.zero) = some (.int .i32 0) := by kernel_rfl
end Go.Proofs.YthefddclefimoaaGreatDoor
namespace Go.Proofs.YthefddclefimoaaGreatDoor
open Go.RowKit
set_option linter.unusedVariables false
set_option linter.unusedSimpArgs false
/-- What the facts keep when the writer runs. -/
def VS.monoR (rel : World → World → Prop) : List (Option Tmp × VS) → Prop
  | [] => True
  | (_, .is _) :: l => VS.monoR rel l
  | (_, .by p) :: l => (∀ u W W', rel W W' → p u W → p u W') ∧ VS.monoR rel l
theorem monoR_at {rel : World → World → Prop} : ∀ {sd : List (Option Tmp × VS)}, VS.monoR rel sd → ∀ {j : Nat} {d : Option Tmp} {p : Value → World → Prop}, sd[j]? = some (d, .by p) → ∀ u W W', rel W W' → p u W → p u W'
  | [], _, j, d, p, h => by simp at h
  | (d', .is v) :: l, hm, j, d, p, h => by
    cases j with
    | zero => simp at h
    | succ j => exact monoR_at (sd := l) hm (by simpa using h)
  | (d', .by q) :: l, hm, j, d, p, h => by
    cases j with
    | zero =>
      simp only [List.getElem?_cons_zero, Option.some.injEq, Prod.mk.injEq, VS.by.injEq] at h
      rw [← h.2]
      exact hm.1
    | succ j => exact monoR_at (sd := l) hm.2 (by simpa using h)
/-- The steps, of which the one with number s writes to what the one with number t has made. -/
def DStepsR (P : Program) (ops : Array Oper) (N : Nat) (w0 : World) (sd : List (Option Tmp × VS)) (dl : List (List Nat)) (f : Fl) (s t dt : Nat) (pt q : Value → World → Prop) (rel : World → World → Prop) : Nat → List Oper → Prop
  | _, [] => True
  | k, o :: l => (if k = s then ∀ W, Below w0.heap.size w0 W → ∀ ut, pt ut W → DStep P ops o N W (sd.set t (some dt, .is ut)) (fun v W' => rel W W' ∧ q ut W') ((dl[k]?).getD []) f
      else ∀ W, Below w0.heap.size w0 W → DStep P ops o N W sd (fun v W' => Below W.heap.size W W' ∧ okAt sd k v W') ((dl[k]?).getD []) f) ∧ DStepsR P ops N w0 sd dl f s t dt pt q rel (k + 1) l
section
variable {P : Program} {N : Nat} {sd : List (Option Tmp × VS)} {dl : List (List Nat)}
theorem DStepsR.cons {ops : Array Oper} {w0 : World} {f : Fl} {k s t dt : Nat} {pt q : Value → World → Prop} {rel : World → World → Prop} {o : Oper} {l : List Oper} (hk : k ≠ s) (h : ∀ W, Below w0.heap.size w0 W → DStep P ops o N W sd (fun v W' => Below W.heap.size W W' ∧ okAt sd k v W') ((dl[k]?).getD []) f) (hl : DStepsR P ops N w0 sd dl f s t dt pt q rel (k + 1) l) : DStepsR P ops N w0 sd dl f s t dt pt q rel k (o :: l) := ⟨by rw [if_neg hk]; exact h, hl⟩
theorem DStepsR.hit {ops : Array Oper} {w0 : World} {f : Fl} {s t dt : Nat} {pt q : Value → World → Prop} {rel : World → World → Prop} {o : Oper} {l : List Oper} (h : ∀ W, Below w0.heap.size w0 W → ∀ ut, pt ut W → DStep P ops o N W (sd.set t (some dt, .is ut)) (fun v W' => rel W W' ∧ q ut W') ((dl[s]?).getD []) f) (hl : DStepsR P ops N w0 sd dl f s t dt pt q rel (s + 1) l) : DStepsR P ops N w0 sd dl f s t dt pt q rel s (o :: l) := ⟨by rw [if_pos rfl]; exact h, hl⟩
theorem okAt_set {t dt : Nat} {u : Value} {j : Nat} (hj : j ≠ t) (v : Value) (W : World) : okAt (sd.set t (some dt, .is u)) j v W = okAt sd j v W := by
  unfold okAt
  rw [List.getElem?_set_ne (fun e => hj e.symm)]
theorem okAt_hit {t dt : Nat} {u : Value} (ht : t < sd.length) (W : World) : okAt (sd.set t (some dt, .is u)) t u W := by
  unfold okAt
  rw [List.getElem?_set_self ht]
  rfl
theorem map_set {t dt : Nat} {s s' : VS} (ht : sd[t]? = some (some dt, s)) : (sd.set t (some dt, s')).map (·.1) = sd.map (·.1) := by
  apply List.ext_getElem?
  intro i
  rw [List.getElem?_map, List.getElem?_map]
  by_cases e : i = t
  · subst e
    rw [ht, List.getElem?_set_self (List.getElem?_eq_some_iff.1 ht).1]
    rfl
  · rw [List.getElem?_set_ne (fun h => e h.symm)]
theorem inN_set {t dt : Nat} {s s' : VS} (ht : sd[t]? = some (some dt, s)) (h : inN N sd = true) : inN N (sd.set t (some dt, s')) = true := by
  have key : ∀ (l : List (Option Tmp × VS)), inN N l = (l.map (·.1)).all fun p => match p with | some d => decide (d < N) | none => true := fun l => by
    unfold inN
    rw [List.all_map]
    rfl
  rw [key, map_set ht, ← key]
  exact h
/-- The rule. -/
theorem WC.drawR {id : Nat} {f : Fl} {w : World} {Q : Exit → Act → World → Prop} (m s t dt : Nat) (pt q : Value → World → Prop) (rel : World → World → Prop) {ops : List Oper} (sd : List (Option Tmp × VS)) (dl : List (List Nat)) (hm : P.follows .mixedOrders = true) (hb : ordB .any ops.toArray = true) (hbp : ordB .any (ops.take m).toArray = true) (htl : tailB .any ops.toArray (ops.take m).length = true) (hdl : (ops.take m).map (depsOf .any) = dl)
    (hds : (ops.take m).map (·.dst) = sd.map (·.1)) (hN : inN N sd = true) (hmono : VS.mono sd)
    (ht : sd[t]? = some (some dt, .by pt)) (hs : sd[s]? = some (none, .by fun _ _ => True)) (hts : ((dl[s]?).getD []).contains t = true) (hst' : s ≠ t) (hsm : s < m) (hrel : VS.monoR rel sd) (hq : ∀ u W W', Below W.heap.size W W' → q u W → q u W') (hbr : ∀ W W', Below w.heap.size w W → rel W W' → Below w.heap.size w W')
    (hst : DStepsR P (ops.take m).toArray N w sd dl f s t dt pt q rel 0 (ops.take m))
    (hend : ∀ W, Below w.heap.size w W → ∀ ut, pt ut W → q ut W → DEnd (fun f W => WL P ops.toArray Q N (ops.drop m) f W) W (sd.set t (some dt, .is ut)) f) : WC P N (.region id ops.toArray true) Q f w := fun a ha => by
  obtain ⟨pre, hpre⟩ : ∃ pre, pre = ops.take m := ⟨_, rfl⟩
  obtain ⟨suf, hsuf⟩ : ∃ suf, suf = ops.drop m := ⟨_, rfl⟩
  have hops : pre ++ suf = ops := by rw [hpre, hsuf]; exact List.take_append_drop m ops
  rw [← hpre] at hbp htl hdl hds hst
  rw [← hsuf] at hend
  clear hpre hsuf
  subst hops
  have hlen : dl.length = sd.length := by rw [← hdl, List.length_map, ← List.length_map (f := (·.dst)), hds, List.length_map]
  have hpl : pre.length = dl.length := by rw [← hdl, List.length_map]
  have htlt : t < sd.length := (List.getElem?_eq_some_iff.1 ht).1
  have hslt : s < sd.length := (List.getElem?_eq_some_iff.1 hs).1
  refine wp_region_any hm ?_
  have hrep : Array.replicate (pre ++ suf).toArray.size false = Array.replicate pre.toArray.size false ++ Array.replicate suf.length false := by
    simp [Array.replicate_append_replicate]
  rw [hrep]
  have hsz : (pre ++ suf).toArray.size = pre.toArray.size + suf.length := by simp
  rw [hsz]
  refine pre_tail (pre := pre.toArray) (suf := suf) hb hbp (by simp) (by simpa using htl) pre.toArray.size _ (by simp) (fun j hj => by simp [Array.getD_eq_getD_getElem?, Array.getElem?_replicate] at hj; split at hj <;> simp_all) a w.drew ?_
  have hda : ∀ j, depsAt .any pre.toArray j = (dl[j]?).getD [] := by
    intro j
    subst hdl
    simp only [depsAt, List.getElem?_map, List.getElem?_toArray]
  have hF0 : ∀ j, (Array.replicate pre.toArray.size false).getD j false = true → False := fun j hj => by simp [Array.getD_eq_getD_getElem?, Array.getElem?_replicate] at hj; split at hj <;> simp_all
  have hmemt : t ∈ (dl[s]?).getD [] := by simpa using hts
  refine wpAny_facts hbp a (fun _ W => Below w.heap.size w W) (fun j g W => okAt sd j (g j) W ∧ (j = s → q (g t) W)) (fun i _ W W' => if i = s then rel W W' else Below W.heap.size W W') ?_ ?_ ?_ pre.toArray.size _ (fun _ => undef) a w.drew (by simp) (by
      have := List.countP_le_length (p := fun b => !b) (l := (Array.replicate pre.toArray.size false).toList)
      simpa using this) (fun j hj => (hF0 j hj).elim) (Agrees.start fun j hj => hF0 j hj) (below_draws (Below.refl _ _) 1) (fun j hj => (hF0 j hj).elim)
  · intro i g W W' j g' hB hne ⟨h, hqj⟩
    by_cases hi : i = s
    · rw [if_pos hi] at hB
      refine ⟨?_, fun hj => absurd (hj.trans hi.symm) hne⟩
      unfold okAt at h ⊢
      cases hsj : sd[j]? with
      | none => trivial
      | some p =>
        obtain ⟨d, s'⟩ := p
        rw [hsj] at h
        cases s' with
        | is v => exact h
        | «by» p => exact monoR_at hrel hsj _ W W' hB h
    · rw [if_neg hi] at hB
      refine ⟨?_, fun hj => hq _ _ _ hB (hqj hj)⟩
      unfold okAt at h ⊢
      cases hsj : sd[j]? with
      | none => trivial
      | some p =>
        obtain ⟨d, s'⟩ := p
        rw [hsj] at h
        cases s' with
        | is v => exact h
        | «by» p => exact mono_at hmono hsj _ W W' hB h
  · intro i o hoi L g W _ _ hG hd
    have key : ∀ (l : List Oper) (k : Nat), DStepsR P pre.toArray N w sd dl f s t dt pt q rel k l → ∀ j o, l[j]? = some o →
        (if k + j = s then ∀ W, Below w.heap.size w W → ∀ ut, pt ut W → DStep P pre.toArray o N W (sd.set t (some dt, .is ut)) (fun v W' => rel W W' ∧ q ut W') ((dl[k + j]?).getD []) f
          else ∀ W, Below w.heap.size w W → DStep P pre.toArray o N W sd (fun v W' => Below W.heap.size W W' ∧ okAt sd (k + j) v W') ((dl[k + j]?).getD []) f) := by
      intro l
      induction l with
      | nil => intro k _ j o h; simp at h
      | cons x l ih =>
        intro k hs j o h
        cases j with
        | zero =>
          simp only [List.getElem?_cons_zero, Option.some.injEq] at h
          subst h
          exact hs.1
        | succ j =>
          have := ih (k + 1) hs.2 j o (by simpa using h)
          rw [show k + (j + 1) = k + 1 + j by omega]
          exact this
    have hk := key pre 0 hst i o (by simpa using hoi)
    rw [Nat.zero_add] at hk
    have hdo : depsOf .any o = (dl[i]?).getD [] := by rw [← hda i, depsAt_eq hoi]
    rw [hdo] at hd ⊢
    rw [putL_eq (ds := sd.map (·.1)) (by simpa using hds)]
    by_cases hi : i = s
    · rw [if_pos hi] at hk
      subst hi
      have hpt : pt (g t) W := by
        have := (hd t hmemt).1
        rw [restr_self] at this
        unfold okAt at this
        rw [ht] at this
        exact this
      obtain ⟨ut, hut⟩ : ∃ ut, ut = g t := ⟨_, rfl⟩
      have hH : HypL (fun j g w => okAt (sd.set t (some dt, .is ut)) j (g j) w) dl g W ((dl[i]?).getD []) := HypL.of _ fun j hj => by
        have h1 := (hd j hj).1
        rw [hda j] at h1
        show okAt _ j (restr g (j :: _) j) W
        rw [restr_self] at h1 ⊢
        by_cases e : j = t
        · subst e
          rw [← hut]
          exact okAt_hit htlt W
        · rw [okAt_set e]
          exact h1
      have hfin := DStep.to (inN_set ht hN) _ f a (hk W hG ut (by rw [hut]; exact hpt)) ha hH
      rw [map_set ht] at hfin
      refine hfin.mono fun v W' h => ⟨by rw [if_pos rfl]; exact h.1, hbr _ _ hG h.1, ?_, fun _ => ?_⟩
      · unfold okAt
        rw [hs]
        trivial
      · have e : restr (upd g i v) (i :: (dl[i]?).getD []) t = g t := by
          unfold restr upd
          rw [if_pos (by simp [hmemt]), if_neg (fun h => hst' h.symm)]
        rw [e, ← hut]
        exact h.2
    · rw [if_neg hi] at hk
      have hH : HypL (fun j g w => okAt sd j (g j) w) dl g W ((dl[i]?).getD []) := HypL.of _ fun j hj => by have := (hd j hj).1; rwa [hda j] at this
      refine (DStep.to hN _ f a (hk W hG) ha hH).mono fun v W' h => ⟨by rw [if_neg hi]; exact h.1, hG.trans (h.1.mono hG.size), ?_, fun e => absurd e hi⟩
      simp only [restr_self]
      rw [show upd g i v i = v by simp [upd]]
      exact h.2
  · intro L g W hL hG hd
    rw [putL_eq (ds := sd.map (·.1)) (by simpa using hds)]
    have hsize : pre.toArray.size = sd.length := by simp; omega
    have hpt : pt (g t) W := by
      have := (hd t (by omega)).1
      rw [restr_self] at this
      unfold okAt at this
      rw [ht] at this
      exact this
    have hqt : q (g t) W := by
      have := (hd s (by omega)).2 rfl
      have e : restr g (s :: depsAt .any pre.toArray s) t = g t := by
        rw [hda s]
        unfold restr
        rw [if_pos (by simp [hmemt])]
      rwa [e] at this
    obtain ⟨ut, hut⟩ : ∃ ut, ut = g t := ⟨_, rfl⟩
    have hH : HypL (fun j g w => okAt (sd.set t (some dt, .is ut)) j (g j) w) dl g W (List.range' 0 sd.length) := HypL.of _ fun j hj => by
      have hj' : j < pre.toArray.size := by
        simp [List.mem_range'] at hj
        simp
        omega
      have h1 := (hd j hj').1
      rw [hda j] at h1
      show okAt _ j (restr g (j :: _) j) W
      rw [restr_self] at h1 ⊢
      by_cases e : j = t
      · subst e
        rw [← hut]
        exact okAt_hit htlt W
      · rw [okAt_set e]
        exact h1
    have hfin := DEnd.to (Q := fun a W => wpList P (pre ++ suf).toArray Q suf a W) (inN_set (s' := .is ut) ht hN) (fun f h a ha => h a ha) (sd.set t (some dt, .is ut)) 0 f a (by simp) (hend W hG ut (by rw [hut]; exact hpt) (by rw [hut]; exact hqt)) ha (by rw [List.length_set]; exact hH)
    rw [List.length_set, map_set ht] at hfin
    show wpOps P (pre ++ suf).toArray Q (List.range' pre.toArray.size suf.length) _ _
    rw [wpOps_eq_wpList suf pre.toArray.size (fun j => by simp [List.getElem?_append_right])]
    rw [List.range_eq_range', hsize]
    exact hfin
end
/-- A pointer to what lies behind the world of the base. -/
def PtB (base : Nat) (L : List Nat) (w : World) (u : Value) (cs : List Value) : Prop := 0 < cs.length ∧ ∃ X o, u = .pointer (some ⟨X, o, none⟩) ∧ X < base ∧ X ∉ L ∧ w.rangeAt X o cs
theorem PtB.ptr {base : Nat} {L : List Nat} {w : World} {u : Value} {cs : List Value} (h : PtB base L w u cs) : PtR L w u cs := by
  obtain ⟨h0, X, o, h1, _, h2, h3⟩ := h
  exact ⟨h0, X, o, h1, h2, h3⟩
theorem PtB.below {base : Nat} {L : List Nat} {w w' : World} {u : Value} {cs : List Value} (h : PtB base L w u cs) (hb : Below w.heap.size w w') : PtB base L w' u cs := by
  obtain ⟨h0, X, o, h1, hx, h2, h3⟩ := h
  exact ⟨h0, X, o, h1, hx, h2, range_agree h3 (Agree.of_below (L := L) hb) h2⟩
/-- A variable that is newly made, of a type, whatever it holds. -/
def NewT (base t n : Nat) (u : Value) (w : World) : Prop := ∃ B cs, u = .pointer (some ⟨B, 0, none⟩) ∧ base ≤ B ∧ BlkT w B t cs ∧ cs.length = n
theorem NewT.below {base t n : Nat} {u : Value} {w w' : World} (h : NewT base t n u w) (hb : Below w.heap.size w w') : NewT base t n u w' := by
  obtain ⟨B, cs, h1, h2, h3, h4⟩ := h
  exact ⟨B, cs, h1, h2, by unfold BlkT; rw [hb.block B h3.blk.lt]; exact h3, h4⟩
theorem NewP.newT {base t n : Nat} {cs : List Value} {u : Value} {w : World} (h : NewP base t cs u w) (hn : cs.length = n) : NewT base t n u w := by
  obtain ⟨B, h1, h2, h3⟩ := h
  exact ⟨B, cs, h1, h2, h3, hn⟩
/-- A write to a new variable of this type. -/
def WrT (base t n : Nat) (w w' : World) : Prop := ∃ C cs cs', base ≤ C ∧ BlkT w C t cs ∧ BlkT w' C t cs' ∧ cs.length = n ∧ cs'.length = n ∧ Only C w w'
theorem WrT.below {base t n : Nat} {w0 w w' : World} (h : WrT base t n w w') (hb : Below base w0 w) : Below base w0 w' := by
  obtain ⟨C, cs, cs', h1, h2, h3, _, h4, h5⟩ := h
  exact h5.below hb h1
theorem NewT.wr {base t n : Nat} {u : Value} {w w' : World} (h : NewT base t n u w) (hw : WrT base t n w w') : NewT base t n u w' := by
  obtain ⟨B, cs, h1, h2, h3, h4⟩ := h
  obtain ⟨C, c1, c2, k1, k2, k3, k0, k4, k5⟩ := hw
  by_cases e : B = C
  · subst e
    exact ⟨B, c2, h1, h2, k3, k4⟩
  · exact ⟨B, cs, h1, h2, by unfold BlkT; rw [k5.block B e]; exact h3, h4⟩
theorem NewP.wr {base t t' n : Nat} {cs : List Value} {u : Value} {w w' : World} (h : NewP base t' cs u w) (hw : WrT base t n w w') (hn : (t' == t) = false) : NewP base t' cs u w' := by
  obtain ⟨B, h1, h2, h3⟩ := h
  obtain ⟨C, c1, c2, k1, k2, k3, k0, k4, k5⟩ := hw
  exact ⟨B, h1, h2, by unfold BlkT; rw [k5.block B (h3.ne k2 hn)]; exact h3⟩
theorem PtB.wr {base t n : Nat} {L : List Nat} {w w' : World} {u : Value} {cs : List Value} (h : PtB base L w u cs) (hw : WrT base t n w w') : PtB base L w' u cs := by
  obtain ⟨h0, X, o, h1, hx, h2, h3⟩ := h
  obtain ⟨C, c1, c2, k1, k2, k3, k0, k4, k5⟩ := hw
  exact ⟨h0, X, o, h1, hx, h2, range_agree h3 (Agree.of_only (L := [C]) k5 (.head _)) (by simp; omega)⟩
/-- Rows that are longer than a whole block do not lie in it. -/
theorem RdF.offB {s : Nat} {L : List Nat} {w : World} {v : Value} {rs : List (List Value)} {B : Nat} {cs : List Value} (h : RdF s L w v rs) (hk : Blk w B cs) (hl : cs.length < s) : RdF s (B :: L) w v rs := by
  obtain ⟨h0, hr, a, cap, h1, h2, h3, h4, h5⟩ := h
  refine ⟨h0, hr, a, cap, h1, h2, h3, h4, fun hn => ?_⟩
  obtain ⟨X, o, e, hX, hc⟩ := h5 hn
  refine ⟨X, o, e, ?_, hc⟩
  have hlen : s ≤ rs.flatten.length := by
    rw [flat_len hr]
    exact Nat.le_mul_of_pos_left s (List.length_pos_iff.2 hn)
  have hne : X ≠ B := fun e => by
    subst e
    obtain ⟨t, ht⟩ := hk
    have := hc (s - 1) _ (List.getElem?_eq_getElem (by omega))
    simp [World.cell?, ht] at this
    obtain ⟨h', _⟩ := List.getElem?_eq_some_iff.1 this
    omega
  simp [hne, hX]
theorem RdF.wr {s base t n : Nat} {L : List Nat} {w w' : World} {v : Value} {rs : List (List Value)} (h : RdF s L w v rs) (hw : WrT base t n w w') (hn : n < s) : RdF s L w' v rs := by
  obtain ⟨C, c1, c2, k1, k2, k3, k0, k4, k5⟩ := hw
  exact ((h.offB k2.blk (by omega)).only k5 (.head _)).less (fun x hx => .tail _ hx)
section
variable {P : Program} {ops : Array Oper} {o : Oper} {N : Nat} {f : Fl} {w : World}
theorem dx_fldB {t : TypeId} {x : Operand} {k off base : Nat} {L : List Nat} {u : Value} {cs cs' : List Value} (n : Nat) (ho : o.op = .fieldAddr t x k) (hf : fldB P t k off = true) (hx : ev f x = some u) (hp : PtB base L w u cs) (hr : (cs.drop off).take n = cs') (hn : 0 < cs'.length) (hw : wantF ops o f = some true := by rfl) : DR P ops o N f w fun u' W => w = W ∧ PtB base L w u' cs' := fun a ha => by
  obtain ⟨_, X, o0, rfl, hb, hX, hc⟩ := hp
  have hx := ha.ev hx
  refine Does.pure (wantF_of ha hw) _ (by unfold execOp; simp only [ho, hx, Sem.run_bind, run_fldB hf, Result.andThen_ok]; rfl) ⟨rfl, hn, X, _, rfl, hb, hX, ?_⟩
  have := range_part hc off n
  rwa [hr] at this
theorem dx_idxB {t s : Nat} {L : List Nat} {w0 : World} {x y : Operand} {v : Value} {rs : List (List Value)} {K : IntKind} {i : Int} {r : List Value} (k : Nat) (ho : o.op = .indexAddr t x y) (ht : sliceB P t s = true) (hx : ev f x = some v) (hy : ev f y = some (.int K i)) (hr : RdF s L w0 v rs) (hd : Below w0.heap.size w0 w) (hk : i = (k : Int)) (hi : rs[k]? = some r) (hw : wantF ops o f = some true := by rfl) :
    DR P ops o N f w fun u W => w = W ∧ PtB w0.heap.size L w u r := fun a ha => by
  have hr' := hr.below hd
  obtain ⟨h0, hl, ad, cap, rfl, h2, h3, h4, h5⟩ := hr'
  obtain ⟨e, hu, hs⟩ := of_sliceB ht
  have hx := ha.ev hx
  have hy := ha.ev hy
  subst hk
  have hlt := (List.getElem?_eq_some_iff.1 hi).1
  have hne : rs ≠ [] := by intro e; subst e; simp at hlt
  obtain ⟨X, o0, rfl, hX, hc⟩ := h5 hne
  have hrun := run_idxS (w := w) (n := rs.length) (c := cap) hu hs X o0 K (k : Int) (by omega) (by omega)
  refine Does.pure (wantF_of ha hw) (.pointer (some ⟨X, o0 + k * s, none⟩)) (by unfold execOp; simp only [ho, hx, hy, Sem.run_bind, hrun, Result.andThen_ok]; rfl) ⟨rfl, by rw [hl r (List.mem_of_getElem? hi)]; exact h0, X, _, rfl, rdf_lt hr rfl hne, hX, ?_⟩
  have := range_part hc (k * s) s
  rw [flat_row hl hi] at this
  simpa using this
/-- A store of the whole of a new variable. -/
theorem dx_storeT {t t' base n : Nat} {x y : Operand} {u V : Value} {vs : List Value} (ho : o.op = .store t x y) (ht : sizeB P t n = true) (hx : ev f x = some u) (hp : NewT base t' n u w) (hy : ev f y = some V) (hv : V.cells.toList = vs) (h1 : ∀ v ∈ vs, v.oneCell' = true) (hn : vs.length = n) (hw : wantF ops o f = some true := by rfl) : DR P ops o N f w fun _ W => WrT base t' n w W ∧ NewP base t' vs u W := fun a ha => by
  obtain ⟨B, cs, rfl, hB, hb, hc⟩ := hp
  obtain ⟨i, hi, hs⟩ := of_sizeB ht
  have hx := ha.ev hx
  have hy := ha.ev hy
  exact Does.of_wp (wantF_of ha hw) fun K hK => by
    have hst := run_storeCells_at P B 0 t' vs 0 _ w hb (by simp; omega) h1
    simp only [Nat.add_zero] at hst
    have hcs : (cs.toArray.toList.take 0 ++ vs ++ cs.toArray.toList.drop (0 + vs.length)) = vs := by
      rw [List.drop_eq_nil_of_le (by simp; omega)]
      simp
    rw [hcs] at hst
    have hsz : V.cells.size = i.size := by rw [← Array.length_toList, hv, hn, hs]
    unfold Oper.wp execOp
    simp only [ho, hx, hy, Instr.storeAt, Instr.sureAddr, storeVar, sizeOf, typeInfo, Sem.run_bind, Sem.run_pure, Result.andThen_ok, run_program, hi, hsz, hv, ne_eq, not_true_eq_false, if_false, hst]
    have e : (w.setRow B vs.toArray).heap[B]? = some (.cells vs.toArray t' (0, 0)) := setRow_heap w B _ _ t' _ hb
    exact hK _ _ ⟨⟨B, cs, vs, hB, hb, e, hc, hn, only_setRow w B _⟩, B, rfl, hB, e⟩
end
end Go.Proofs.YthefddclefimoaaGreatDoor
namespace Go.Proofs.YthefddclefimoaaGreatDoor
open Go.RowKit
set_option linter.unusedVariables false
set_option linter.unusedSimpArgs false
/-- A block of one's own as rows, all that there is room for. -/
def RwB (s : Nat) (w : World) (B : Nat) (R : List (List Value)) : Prop := 0 < s ∧ (∀ r ∈ R, r.length = s) ∧ R.length ≤ maxLen ∧ Blk w B R.flatten
theorem RwB.lt {s : Nat} {w : World} {B : Nat} {R : List (List Value)} (h : RwB s w B R) : B < w.heap.size := h.2.2.2.lt
theorem RwB.below {s : Nat} {w w' : World} {B : Nat} {R : List (List Value)} (h : RwB s w B R) (hb : Below w.heap.size w w') : RwB s w' B R := ⟨h.1, h.2.1, h.2.2.1, h.2.2.2.below hb⟩
theorem RwB.other {s : Nat} {w w' : World} {B C : Nat} {R : List (List Value)} (h : RwB s w B R) (ho : Only C w w') (hn : B ≠ C) : RwB s w' B R := ⟨h.1, h.2.1, h.2.2.1, h.2.2.2.other ho hn⟩
theorem rows_of {s : Nat} : ∀ (n : Nat) (l : List Value), l.length = n * s → ∃ rows : List (List Value), rows.length = n ∧ (∀ r ∈ rows, r.length = s) ∧ rows.flatten = l
  | 0, l, h => ⟨[], rfl, fun r hr => (by cases hr), (by rw [Nat.zero_mul] at h; rw [List.length_eq_zero_iff.1 h]; rfl)⟩
  | n + 1, l, h => by
    rw [Nat.succ_mul] at h
    obtain ⟨rows, h1, h2, h3⟩ := rows_of (s := s) n (l.drop s) (by rw [List.length_drop]; omega)
    refine ⟨l.take s :: rows, by simp [h1], fun r hr => ?_, by rw [List.flatten_cons, h3, List.take_append_drop]⟩
    rcases List.mem_cons.1 hr with rfl | hr
    · rw [List.length_take]; omega
    · exact h2 r hr
theorem OwS.open {s : Nat} {w : World} {v : Value} {rs : List (List Value)} {B : Nat} (h : OwS s w v rs B) : ∃ sp, v = .slice (some ⟨B, 0, none⟩) rs.length (rs ++ sp).length ∧ RwB s w B (rs ++ sp) := by
  obtain ⟨h0, hr, cap, sp, rfl, h2, h3, h4, h5⟩ := h
  obtain ⟨rows, k1, k2, rfl⟩ := rows_of (cap - rs.length) sp h4
  have e : (rs ++ rows).length = cap := by rw [List.length_append, k1]; omega
  refine ⟨rows, by rw [e], h0, fun r hr' => ?_, by rw [e]; exact h3, by rw [List.flatten_append]; exact h5⟩
  rcases List.mem_append.1 hr' with h | h
  · exact hr r h
  · exact k2 r h
theorem RwB.own {s : Nat} {w : World} {B : Nat} {rs sp : List (List Value)} (h : RwB s w B (rs ++ sp)) : OwS s w (.slice (some ⟨B, 0, none⟩) rs.length (rs ++ sp).length) rs B := by
  obtain ⟨h0, hr, hm, hb⟩ := h
  have hsp : ∀ r ∈ sp, r.length = s := fun r hr' => hr r (List.mem_append.2 (.inr hr'))
  refine ⟨h0, fun r hr' => hr r (List.mem_append.2 (.inl hr')), _, sp.flatten, rfl, by simp, hm, ?_, by rw [← List.flatten_append]; exact hb⟩
  rw [flat_len hsp, List.length_append, Nat.add_sub_cancel_left]
/-- Where a part begins: a part with no room begins where the whole does. -/
def offV (c l o0 s : Nat) : Nat := if c = l then o0 else o0 + l * s
theorem offV_eq {c l s B o0 : Nat} : (if c = l then some (⟨B, o0, none⟩ : Addr) else some (if l * s = 0 then ⟨B, o0, none⟩ else ⟨B, o0 + l * s, none⟩)) = some ⟨B, offV c l o0 s, none⟩ := by
  unfold offV
  split
  · rfl
  · split
    · rename_i h; rw [h]; rfl
    · rfl
theorem offV_in {c l o0 s n : Nat} (hn : n ≠ 0) (h : l + n ≤ c) : offV c l o0 s = o0 + l * s := by
  unfold offV
  rw [if_neg (by omega)]
/-- What a part of it reads. -/
theorem RwB.part {s : Nat} {w : World} {B : Nat} {R : List (List Value)} (h : RwB s w B R) {L : List Nat} (hB : B ∉ L) {lo n c o1 : Nat} (ho : n ≠ 0 → o1 = lo * s) (hn : n ≤ c) (hc : lo + c ≤ R.length) : RdF s L w (.slice (some ⟨B, o1, none⟩) n c) ((R.drop lo).take n) := by
  obtain ⟨h0, hr, hm, hb⟩ := h
  have hl : ((R.drop lo).take n).length = n := by rw [List.length_take, List.length_drop]; omega
  refine ⟨h0, fun r hr' => hr r (List.mem_of_mem_drop (List.mem_of_mem_take hr')), _, c, by rw [hl], by rw [hl]; exact hn, by omega, fun h => (by cases h), fun hne => ⟨B, o1, rfl, hB, ?_⟩⟩
  rw [ho (fun e => hne (by rw [e, List.take_zero]))]
  have := range_part hb.range (lo * s) (n * s)
  rw [flat_drop lo hr, flat_take n (fun r hr' => hr r (List.mem_of_mem_drop hr')), Nat.zero_add] at this
  exact this
section
variable {P : Program} {ops : Array Oper} {o : Oper} {N : Nat} {f : Fl} {w : World}
/-- x[l:], x[:h], x[l:h], x[l:h:m] of a slice that isn't nil. -/
theorem dx_slL {t s B o0 n c : Nat} {x y : Operand} {K : IntKind} (l : Nat) {i : Int} (ho : o.op = .slice t x (some y) none none) (ht : sliceB P t s = true) (hx : ev f x = some (.slice (some ⟨B, o0, none⟩) n c)) (hy : ev f y = some (.int K i)) (hi : i = (l : Int)) (hl : l ≤ n) (hn : n ≤ c) (hw : wantF ops o f = some true := by rfl) :
    DV P ops o N f w (.slice (some ⟨B, offV c l o0 s, none⟩) (n - l) (c - l)) := fun a ha => by
  subst hi
  obtain ⟨e, hu, hs⟩ := of_sliceB ht
  have hx := ha.ev hx
  have hy := ha.ev hy
  cases hi : P.info? e with
  | none => rw [hi] at hs; cases hs
  | some q =>
    have hq : q.size = s := by simpa [hi] using hs
    refine Does.pure (wantF_of ha hw) _ ?_ ⟨rfl, rfl⟩
    have h1 : ((l : Int) ≤ (n : Int)) := by omega
    have h2 : ((n : Int) ≤ (c : Int)) := by omega
    have h3 : (0 : Int) ≤ (l : Int) := by omega
    unfold execOp
    simp only [ho, Option.map_none, Option.map_some, hx, hy, Instr.sliceAt, Sem.run_bind, run_underlying hu, Result.andThen_ok, Instr.slice, Instr.sliceBounds, Instr.sliceBound, asIntOf, Sem.run_pure, sizeOf, typeInfo, run_program, hi]
    simp [h1, h2, h3, hq, addr_at, Addr.add, hl]
    exact offV_eq
theorem dx_slH {t s B o0 n c : Nat} {x y : Operand} {K : IntKind} (h : Nat) {i : Int} (ho : o.op = .slice t x none (some y) none) (ht : sliceB P t s = true) (hx : ev f x = some (.slice (some ⟨B, o0, none⟩) n c)) (hy : ev f y = some (.int K i)) (hi : i = (h : Int)) (hl : h ≤ c) (hw : wantF ops o f = some true := by rfl) :
    DV P ops o N f w (.slice (some ⟨B, o0, none⟩) h c) := fun a ha => by
  subst hi
  obtain ⟨e, hu, hs⟩ := of_sliceB ht
  have hx := ha.ev hx
  have hy := ha.ev hy
  cases hi : P.info? e with
  | none => rw [hi] at hs; cases hs
  | some q =>
    have hq : q.size = s := by simpa [hi] using hs
    refine Does.pure (wantF_of ha hw) _ ?_ ⟨rfl, rfl⟩
    have h1 : ((h : Int) ≤ (c : Int)) := by omega
    have h3 : (0 : Int) ≤ (h : Int) := by omega
    unfold execOp
    simp only [ho, Option.map_none, Option.map_some, hx, hy, Instr.sliceAt, Sem.run_bind, run_underlying hu, Result.andThen_ok, Instr.slice, Instr.sliceBounds, Instr.sliceBound, asIntOf, Sem.run_pure, sizeOf, typeInfo, run_program, hi]
    simp [h1, h3, hq, addr_at, Addr.add]
theorem dx_slLH {t s B o0 n c : Nat} {x y z : Operand} {K K' : IntKind} (l h : Nat) {i j : Int} (ho : o.op = .slice t x (some y) (some z) none) (ht : sliceB P t s = true) (hx : ev f x = some (.slice (some ⟨B, o0, none⟩) n c)) (hy : ev f y = some (.int K i)) (hz : ev f z = some (.int K' j)) (hi : i = (l : Int)) (hj : j = (h : Int)) (hl : l ≤ h) (hc : h ≤ c) (hw : wantF ops o f = some true := by rfl) :
    DV P ops o N f w (.slice (some ⟨B, offV c l o0 s, none⟩) (h - l) (c - l)) := fun a ha => by
  subst hi hj
  obtain ⟨e, hu, hs⟩ := of_sliceB ht
  have hx := ha.ev hx
  have hy := ha.ev hy
  have hz := ha.ev hz
  cases hi : P.info? e with
  | none => rw [hi] at hs; cases hs
  | some q =>
    have hq : q.size = s := by simpa [hi] using hs
    refine Does.pure (wantF_of ha hw) _ ?_ ⟨rfl, rfl⟩
    have h1 : ((l : Int) ≤ (h : Int)) := by omega
    have h2 : ((h : Int) ≤ (c : Int)) := by omega
    have h3 : (0 : Int) ≤ (l : Int) := by omega
    have h4 : (0 : Int) ≤ (h : Int) := by omega
    unfold execOp
    simp only [ho, Option.map_none, Option.map_some, hx, hy, hz, Instr.sliceAt, Sem.run_bind, run_underlying hu, Result.andThen_ok, Instr.slice, Instr.sliceBounds, Instr.sliceBound, asIntOf, Sem.run_pure, sizeOf, typeInfo, run_program, hi]
    simp [h1, h2, h3, h4, hq, addr_at, Addr.add, hl, hc]
    exact offV_eq
theorem dx_slLHM {t s B o0 n c : Nat} {x y z u : Operand} {K K' K2 : IntKind} (l h m : Nat) {i j k : Int} (ho : o.op = .slice t x (some y) (some z) (some u)) (ht : sliceB P t s = true) (hx : ev f x = some (.slice (some ⟨B, o0, none⟩) n c)) (hy : ev f y = some (.int K i)) (hz : ev f z = some (.int K' j)) (hu' : ev f u = some (.int K2 k)) (hi : i = (l : Int)) (hj : j = (h : Int)) (hk : k = (m : Int)) (hl : l ≤ h) (hm : h ≤ m) (hc : m ≤ c) (hw : wantF ops o f = some true := by rfl) :
    DV P ops o N f w (.slice (some ⟨B, offV m l o0 s, none⟩) (h - l) (m - l)) := fun a ha => by
  subst hi hj hk
  obtain ⟨e, hu, hs⟩ := of_sliceB ht
  have hx := ha.ev hx
  have hy := ha.ev hy
  have hz := ha.ev hz
  have hu' := ha.ev hu'
  cases hi : P.info? e with
  | none => rw [hi] at hs; cases hs
  | some q =>
    have hq : q.size = s := by simpa [hi] using hs
    refine Does.pure (wantF_of ha hw) _ ?_ ⟨rfl, rfl⟩
    have h1 : ((l : Int) ≤ (h : Int)) := by omega
    have h2 : ((h : Int) ≤ (m : Int)) := by omega
    have h3 : (0 : Int) ≤ (l : Int) := by omega
    have h4 : (0 : Int) ≤ (h : Int) := by omega
    have h5 : ((m : Int) ≤ (c : Int)) := by omega
    have h6 : (0 : Int) ≤ (m : Int) := by omega
    unfold execOp
    simp only [ho, Option.map_none, Option.map_some, hx, hy, hz, hu', Instr.sliceAt, Sem.run_bind, run_underlying hu, Result.andThen_ok, Instr.slice, Instr.sliceBounds, Instr.sliceBound, asIntOf, Sem.run_pure, sizeOf, typeInfo, run_program, hi]
    simp [h1, h2, h3, h4, h5, h6, hq, addr_at, Addr.add, hl, hm, hc]
    exact offV_eq
/-- An append where there is room. -/
theorem dx_apV {t s bytes B i : Nat} {x y : Operand} {v2 : Value} {R news : List (List Value)} {L : List Nat} (ho : o.op = .call { callee := .builtin .append, args := #[x, y], argTypes := #[t, t] }) (ht : apB P t s bytes = true) (hx : ev f x = some (.slice (some ⟨B, 0, none⟩) i R.length)) (hy : ev f y = some v2)
    (hR : RwB s w B R) (h2 : RdF s L w v2 news) (h1 : ∀ r ∈ news, ∀ u ∈ r, u.oneCell' = true) {m : Nat} (hm' : news.length = m) (hroom : i + m ≤ R.length) (hw : wantF ops o f = some true := by rfl) :
    DR P ops o N f w fun u W => u = .slice (some ⟨B, 0, none⟩) (i + m) R.length ∧ RwB s W B (R.take i ++ (news ++ R.drop (i + m))) ∧ Only B w W := fun a ha => by
  subst hm'
  obtain ⟨e, q, Z, hu, hi, hz, rfl, rfl, hzs⟩ := of_apB ht
  have hx := ha.ev hx
  have hy := ha.ev hy
  obtain ⟨h0, hr, hm, tt, hb⟩ := hR
  obtain ⟨_, hl2, a2, cap2, rfl, hd1, hd2, hd3, hd4⟩ := h2
  refine Does.of_wp (wantF_of ha hw) fun K hK => ?_
  by_cases hn : news = []
  · subst hn
    have hr0 : (Builtin.append_ #[t, t] o.type #[.slice (some ⟨B, 0, none⟩) i R.length, .slice a2 0 cap2]).run P w = .ok (.slice (some ⟨B, 0, none⟩) i R.length) w := by
      have hle : i ≤ R.length := by simpa using hroom
      cases a2 with
      | none => simp [Builtin.append_, run_underlying hu, sizeOf, typeInfo, hi, Builtin.lenOf, hle, Builtin.firstCells, storeCells]
      | some a2 => simp [Builtin.append_, run_underlying hu, sizeOf, typeInfo, hi, Builtin.lenOf, hle, Builtin.firstCells, loadCells, loadCellsFrom, storeCells]
    unfold Oper.wp execOp
    simp only [List.length_nil] at hy
    simp only [ho, resolve, invoke, builtin, Sem.run_bind, Sem.run_pure, Result.andThen_ok, List.map_toArray, List.map_cons, List.map_nil, hx, hy, hr0]
    refine hK _ _ ⟨rfl, ⟨h0, by simpa using hr, by simpa using hm, tt, by simpa using hb⟩, ⟨rfl, rfl, rfl, rfl, fun _ _ => rfl⟩⟩
  · obtain ⟨X, o0, rfl, hX, hc⟩ := hd4 hn
    have hnews : ∀ j u, news.flatten[j]? = some u → w.cell? ((⟨X, o0, none⟩ : Addr).add j) = some u := fun j u hj => by rw [addr_at]; exact hc j u hj
    have hflat : news.flatten.length = news.length * q.size := flat_len hl2
    have h1' : ∀ u ∈ news.flatten, u.oneCell' = true := fun u hu => by
      obtain ⟨r, hr, hur⟩ := List.mem_flatten.1 hu
      exact h1 r hr u hur
    have hfit : i * q.size + news.flatten.length ≤ R.flatten.toArray.size := by
      rw [List.size_toArray, flat_len hr, hflat, ← Nat.add_mul]
      exact Nat.mul_le_mul_right _ hroom
    have hrun := run_ap_room (P := P) (w := w) (t := t) (ty := o.type) hu hi B i R.length _ hb ⟨X, o0, none⟩ news.length cap2 news.flatten hflat hnews h1' hroom hfit
    have hcs : R.flatten.toArray.toList.take (i * q.size) ++ news.flatten ++ R.flatten.toArray.toList.drop (i * q.size + news.flatten.length) = (R.take i ++ (news ++ R.drop (i + news.length))).flatten := by
      rw [hflat, ← Nat.add_mul, flat_take i hr, flat_drop (i + news.length) hr]
      simp
    rw [hcs] at hrun
    unfold Oper.wp execOp
    simp only [ho, resolve, invoke, builtin, Sem.run_bind, Sem.run_pure, Result.andThen_ok, List.map_toArray, List.map_cons, List.map_nil, hx, hy, hrun]
    refine hK _ _ ⟨rfl, ⟨h0, fun r hr' => ?_, ?_, tt, setRow_heap w B _ _ tt _ hb⟩, only_setRow w B _⟩
    · rcases List.mem_append.1 hr' with h | h
      · exact hr r (List.mem_of_mem_take h)
      · rcases List.mem_append.1 h with h | h
        · exact hl2 r h
        · exact hr r (List.mem_of_mem_drop h)
    · rw [List.length_append, List.length_append, List.length_take, List.length_drop]
      omega
/-- A type whose zero value has cells of one cell each. -/
def clB (P : Program) (t s : Nat) : Bool := match P.underlying t with
  | some (.slice e) => match P.info? e with
    | some i => i.size == s && (match i.zero with | some z => z.cells.size == s && z.cells.toList.all (·.oneCell') | none => false)
    | none => false
  | _ => false
theorem of_clB {t s : Nat} (h : clB P t s = true) : ∃ e i Z, P.underlying t = some (.slice e) ∧ P.info? e = some i ∧ i.zero = some Z ∧ i.size = s ∧ Z.cells.size = s ∧ ∀ u ∈ Z.cells.toList, u.oneCell' = true := by
  unfold clB at h
  split at h
  · rename_i e hu
    split at h
    · rename_i i hi
      simp only [Bool.and_eq_true, beq_iff_eq] at h
      obtain ⟨h1, h3⟩ := h
      split at h3
      · rename_i z hz
        simp only [Bool.and_eq_true, beq_iff_eq, List.all_eq_true] at h3
        exact ⟨e, i, z, hu, hi, hz, h1, h3.1, h3.2⟩
      · cases h3
    · cases h
  · cases h
theorem dx_clV {t s B lo n c o1 : Nat} {x : Operand} {R : List (List Value)} (ho : o.op = .call { callee := .builtin .clear, args := #[x], argTypes := #[t] }) (ht : clB P t s = true) (hx : ev f x = some (.slice (some ⟨B, o1, none⟩) n c)) (h1 : n ≠ 0 → o1 = lo * s) (hR : RwB s w B R) (hn : lo + n ≤ R.length) (hw : wantF ops o f = some true := by rfl) :
    DR P ops o N f w fun _ W => ∃ zs : List (List Value), zs.length = n ∧ RwB s W B (R.take lo ++ (zs ++ R.drop (lo + n))) ∧ Only B w W := fun a ha => by
  obtain ⟨e, q, Z, hu, hi, hz, rfl, hzs, hone⟩ := of_clB ht
  have hx := ha.ev hx
  obtain ⟨h0, hr, hm, tt, hb⟩ := hR
  refine Does.of_wp (wantF_of ha hw) fun K hK => ?_
  by_cases hn0 : n = 0
  · subst hn0
    have hrun : (Builtin.clear_ #[t] o.type #[.slice (some ⟨B, o1, none⟩) 0 c]).run P w = .ok (.tuple #[]) w := by simp [Builtin.clear_, run_underlying hu]
    unfold Oper.wp execOp
    simp only [ho, resolve, invoke, builtin, Sem.run_bind, Sem.run_pure, Result.andThen_ok, List.map_toArray, List.map_cons, List.map_nil, hx, hrun]
    exact hK _ _ ⟨[], rfl, ⟨h0, by simpa using hr, by simpa using hm, tt, by simpa using hb⟩, ⟨rfl, rfl, rfl, rfl, fun _ _ => rfl⟩⟩
  · obtain rfl := h1 hn0
    have hlen : (Builtin.zeroCells Z.cells n).toList.length = n * q.size := by rw [Array.length_toList, size_zeroCells, hzs]
    have hones : ∀ u ∈ (Builtin.zeroCells Z.cells n).toList, u.oneCell' = true := fun u hu => by
      unfold Builtin.zeroCells at hu
      simp only [Array.toList_map, List.mem_map] at hu
      obtain ⟨k, hk, rfl⟩ := hu
      refine hone _ ?_
      have hlt : k % Z.cells.size < Z.cells.size := Nat.mod_lt _ (by omega)
      rw [getElem!_pos Z.cells _ hlt]
      exact Array.getElem_mem_toList hlt
    obtain ⟨zs, z1, z2, z3⟩ := rows_of (s := q.size) n _ hlen
    have hst := run_storeCells_at P B (lo * q.size) tt (Builtin.zeroCells Z.cells n).toList 0 _ w hb (by rw [List.size_toArray, flat_len hr, hlen, Nat.add_zero, ← Nat.add_mul]; exact Nat.mul_le_mul_right _ hn) hones
    simp only [Nat.add_zero] at hst
    have hcs : R.flatten.toArray.toList.take (lo * q.size) ++ (Builtin.zeroCells Z.cells n).toList ++ R.flatten.toArray.toList.drop (lo * q.size + (Builtin.zeroCells Z.cells n).toList.length) = (R.take lo ++ (zs ++ R.drop (lo + n))).flatten := by
      rw [hlen, ← Nat.add_mul, flat_take lo hr, flat_drop (lo + n) hr, ← z3]
      simp
    rw [hcs] at hst
    have hrun : (Builtin.clear_ #[t] o.type #[.slice (some ⟨B, lo * q.size, none⟩) n c]).run P w = .ok (.tuple #[]) (w.setRow B (R.take lo ++ (zs ++ R.drop (lo + n))).flatten.toArray) := by
      cases n with
      | zero => exact absurd rfl hn0
      | succ n => simp [Builtin.clear_, run_underlying hu, zeroValue, typeInfo, hi, hz, hst]
    unfold Oper.wp execOp
    simp only [ho, resolve, invoke, builtin, Sem.run_bind, Sem.run_pure, Result.andThen_ok, List.map_toArray, List.map_cons, List.map_nil, hx, hrun]
    refine hK _ _ ⟨zs, z1, ⟨h0, fun r hr' => ?_, ?_, tt, setRow_heap w B _ _ tt _ hb⟩, only_setRow w B _⟩
    · rcases List.mem_append.1 hr' with h | h
      · exact hr r (List.mem_of_mem_take h)
      · rcases List.mem_append.1 h with h | h
        · exact z2 r h
        · exact hr r (List.mem_of_mem_drop h)
    · rw [List.length_append, List.length_append, List.length_take, List.length_drop, z1]
      omega
/-- A copy into a part. -/
theorem dx_cpV {t t' s B lo n c o1 : Nat} {x y : Operand} {v2 : Value} {R news : List (List Value)} {L : List Nat} (ho : o.op = .call { callee := .builtin .copy, args := #[x, y], argTypes := #[t, t'] }) (ht : sliceB P t s = true) (hx : ev f x = some (.slice (some ⟨B, o1, none⟩) n c)) (h1 : n ≠ 0 → o1 = lo * s) (hy : ev f y = some v2) (hR : RwB s w B R) (h2 : RdF s L w v2 news) (hone : ∀ r ∈ news.take n, ∀ u ∈ r, u.oneCell' = true) (hn : lo + n ≤ R.length) (hw : wantF ops o f = some true := by rfl) :
    DR P ops o N f w fun u W => u = .int .i64 (min news.length n : Nat) ∧ RwB s W B (R.take lo ++ (news.take n ++ R.drop (lo + min news.length n))) ∧ Only B w W := fun a ha => by
  obtain ⟨e, hu, hs⟩ := of_sliceB ht
  have hx := ha.ev hx
  have hy := ha.ev hy
  obtain ⟨h0, hr, hm, tt, hb⟩ := hR
  obtain ⟨_, hl2, a2, cap2, rfl, hd1, hd2, hd3, hd4⟩ := h2
  cases hi : P.info? e with
  | none => rw [hi] at hs; cases hs
  | some q =>
    have hq : q.size = s := by simpa [hi] using hs
    subst hq
    refine Does.of_wp (wantF_of ha hw) fun K hK => ?_
    have hl3 : ∀ r ∈ news.take n, r.length = q.size := fun r hr' => hl2 r (List.mem_of_mem_take hr')
    have hlen : (news.take n).flatten.length = min news.length n * q.size := by rw [flat_len hl3, List.length_take, Nat.min_comm]
    have hk : Nat.min news.length n = min news.length n := rfl
    by_cases hz : min news.length n = 0
    · have hnil : news.take n = [] := by
        rcases Nat.eq_zero_or_pos n with h | h
        · rw [h]; rfl
        · have : news.length = 0 := by omega
          rw [List.length_eq_zero_iff.1 this, List.take_nil]
      have hf : (Builtin.firstCells q.size 0 (.slice a2 news.length cap2)).run P w = .ok #[] w := by
        cases a2 with
        | none => simp [Builtin.firstCells]
        | some b => exact run_firstCells_some (P := P) w q.size 0 b news.length cap2 [] (by simp) (fun j u hj => by simp at hj)
      unfold Oper.wp execOp
      simp only [ho, resolve, invoke, builtin, Sem.run_bind, Sem.run_pure, Result.andThen_ok, List.map_toArray, List.map_cons, List.map_nil, hx, hy, Builtin.copy_, run_underlying hu, List.getElem?_toArray, List.getElem?_cons_zero, List.getElem?_cons_succ, Builtin.lenOf, hk, hz, sizeOf, typeInfo, run_program, hi, hf, storeCells]
      refine hK _ _ ⟨by rw [hz]; rfl, ⟨h0, by rw [hnil, hz]; simpa using hr, by rw [hnil, hz]; simpa using hm, tt, by rw [hnil, hz]; simpa using hb⟩, ⟨rfl, rfl, rfl, rfl, fun _ _ => rfl⟩⟩
    · have hne : news ≠ [] := fun e => hz (by rw [e]; simp)
      obtain rfl := h1 (by omega)
      obtain ⟨X, o0, rfl, hX, hc⟩ := hd4 hne
      have hf := run_firstCells_some (P := P) w q.size (min news.length n) ⟨X, o0, none⟩ news.length cap2 (news.take n).flatten hlen (fun j u hj => by
        rw [addr_at]
        refine hc j u ?_
        rw [← flat_take n hl2, List.getElem?_take] at hj
        split at hj
        · exact hj
        · cases hj)
      have hst := run_storeCells_at P B (lo * q.size) tt (news.take n).flatten 0 _ w hb (by rw [List.size_toArray, flat_len hr, hlen, Nat.add_zero, ← Nat.add_mul]; exact Nat.mul_le_mul_right _ (by omega)) (fun u hu' => by
        obtain ⟨r, hr', hur⟩ := List.mem_flatten.1 hu'
        exact hone r hr' u hur)
      simp only [Nat.add_zero] at hst
      have hcs : R.flatten.toArray.toList.take (lo * q.size) ++ (news.take n).flatten ++ R.flatten.toArray.toList.drop (lo * q.size + (news.take n).flatten.length) = (R.take lo ++ (news.take n ++ R.drop (lo + min news.length n))).flatten := by
        rw [hlen, ← Nat.add_mul, flat_take lo hr, flat_drop (lo + min news.length n) hr]
        simp
      rw [hcs] at hst
      unfold Oper.wp execOp
      simp only [ho, resolve, invoke, builtin, Sem.run_bind, Sem.run_pure, Result.andThen_ok, List.map_toArray, List.map_cons, List.map_nil, hx, hy, Builtin.copy_, run_underlying hu, List.getElem?_toArray, List.getElem?_cons_zero, List.getElem?_cons_succ, Builtin.lenOf, hk, sizeOf, typeInfo, run_program, hi, hf, hst]
      refine hK _ _ ⟨rfl, ⟨h0, fun r hr' => ?_, ?_, tt, setRow_heap w B _ _ tt _ hb⟩, only_setRow w B _⟩
      · rcases List.mem_append.1 hr' with h | h
        · exact hr r (List.mem_of_mem_take h)
        · rcases List.mem_append.1 h with h | h
          · exact hl3 r h
          · exact hr r (List.mem_of_mem_drop h)
      · rw [List.length_append, List.length_append, List.length_take, List.length_drop, List.length_take]
        omega
end
-- contracts of what writes to a block that it is given
/-- Of what was there just this block may have changed. -/
structure Chg (B : Nat) (w w' : World) : Prop where
  os : w'.os = w.os
  tape : w'.tape = w.tape
  output : w'.output = w.output
  size : w.heap.size ≤ w'.heap.size
  block : ∀ k, k < w.heap.size → k ≠ B → w'.heap[k]? = w.heap[k]?
theorem Chg.refl (B : Nat) (w : World) : Chg B w w := ⟨rfl, rfl, rfl, Nat.le_refl _, fun _ _ _ => rfl⟩
theorem Chg.thenB {B : Nat} {w W W' : World} (h : Chg B w W) (b : Below W.heap.size W W') : Chg B w W' :=
  ⟨by rw [b.os, h.os], by rw [b.tape, h.tape], by rw [b.output, h.output], Nat.le_trans h.size b.size, fun k hk hn => by rw [b.block k (Nat.lt_of_lt_of_le hk h.size), h.block k hk hn]⟩
theorem Chg.only {B C : Nat} {w W W' : World} (h : Chg B w W) (o : Only C W W') (hC : C = B ∨ w.heap.size ≤ C) : Chg B w W' :=
  ⟨by rw [o.os, h.os], by rw [o.tape, h.tape], by rw [o.output, h.output], by rw [o.size]; exact h.size, fun k hk hn => by rw [o.block k (by omega), h.block k hk hn]⟩
theorem Chg.grow {B C C' : Nat} {w W W' : World} (h : Chg B w W) (g : GrowB C C' W W') (hC : C = B ∨ w.heap.size ≤ C) : Chg B w W' :=
  ⟨by rw [g.os, h.os], by rw [g.tape, h.tape], by rw [g.output, h.output], Nat.le_trans h.size g.size, fun k hk hn => by rw [g.block k (Nat.lt_of_lt_of_le hk h.size) (by omega), h.block k hk hn]⟩
theorem Chg.growB {B B' : Nat} {w w' : World} (h : Chg B w w') (hB : B' = B ∨ w.heap.size ≤ B') : GrowB B B' w w' := ⟨h.os, h.tape, h.output, h.size, h.block, hB⟩
/-- The call returns, with this; of what was there just this block may have changed. -/
def CW (P : Program) (F : FuncId) (args : List Value) (w : World) (B : Nat) (R : Value → World → Prop) : Prop := Calls P F args.toArray w fun e w' => ∃ v, e = .returned v ∧ R v w' ∧ Chg B w w'
def finW (P : Program) (fn : Func) (R : Value → World → Prop) (B : Nat) (w0 : World) (a : Act) (w : World) : Prop := a.defers = [] ∧ ∃ v, (results fn a.tmps).run P w = .ok v w ∧ R v w ∧ Chg B w0 w
theorem CW.mono {P : Program} {F : FuncId} {args : List Value} {w : World} {B : Nat} {R R' : Value → World → Prop} (h : CW P F args w B R) (hr : ∀ v w', Chg B w w' → R v w' → R' v w') : CW P F args w B R' :=
  Calls.mono h fun e w' ⟨v, he, hR, hb⟩ => ⟨v, he, hr v w' hb hR, hb⟩
theorem cw_enter {P : Program} {F : FuncId} {fn : Func} {body : Code} {w : World} {B : Nat} {R : Value → World → Prop} {N : Nat} {vs : List Value} (hf : P.funcs[F]? = some fn) (hb : fn.body = some body) (hn : fn.ntmps = N) (hN : decide (vs.length ≤ N) = true) {f : Fl}
    (hfr : (vs.zipIdx.map fun p => (p.2, p.1)) = f) (h : ∀ Q : Exit → Act → World → Prop, (∀ {a W}, finW P fn R B w a W → Q .ret a W) → (∀ {a W}, finW P fn R B w a W → Q .normal a W) → WC P N body Q f w) : CW P F vs w B R :=
  calls_sx vs f hf hb hn hN hfr.symm (h _ (fun {a W} ⟨h1, v, h2, h3, h4⟩ => ⟨h1, v, h2, v, rfl, h3, h4⟩) (fun {a W} ⟨h1, v, h2, h3, h4⟩ => ⟨h1, v, h2, v, rfl, h3, h4⟩))
section
variable {P : Program} {ops : Array Oper} {o : Oper} {N : Nat} {f : Fl} {w : World} {R : Value → World → Prop} {fn : Func}
theorem cw_ret1 {B : Nat} {w0 : World} {r0 : ResultVar} {v0 : Value} (h : fn.results = #[r0]) (h0 : RV P f w r0 v0) (hR : R v0 w) (hb : Chg B w0 w) {a : Act} (ha : Fr N a f) : finW P fn R B w0 a w := by
  obtain ⟨x, v, hv, v', he, h1, h2⟩ := fn1 (Rr := fun e w' => ∃ v, e = .returned v ∧ R v w' ∧ Chg B w0 w') h h0 ⟨_, rfl, hR, hb⟩ ha
  cases he
  exact ⟨x, _, hv, h1, h2⟩
/-- A call of such a one, that gives a slice of one's own again. -/
theorem dx_cwO {s B : Nat} {rs : List (List Value)} {F : FuncId} {fn : Func} {xs : List Operand} {ts : Array TypeId} {vs : List Value} (ho : o.op = .call { callee := .value (.func F), args := xs.toArray, argTypes := ts }) (hf : P.funcs[F]? = some fn) (hn : (fn.name == "runtime.NumGoroutine") = false) (hb : fn.body.isNone = false)
    (hx : evl f xs = some vs) (hc : CW P F vs w B fun v W => ∃ B', OwS s W v rs B' ∧ (B' = B ∨ w.heap.size ≤ B')) (hw : wantF ops o f = some true := by rfl) : DR P ops o N f w (GrO s B w rs) :=
  dx_call (cap := #[]) ho rfl hf hn hb hx (by rw [Array.append_empty]; exact Calls.mono hc fun e w' ⟨v, he, ⟨B', h1, h2⟩, h3⟩ => ⟨v, he, B', h1, h3.growB h2⟩) hw
theorem mem_tail {α : Type} {rs sp : List α} {j : Nat} {r : α} (hj : j ≤ rs.length) (h : r ∈ ((rs ++ sp).drop j).take (rs.length - j)) : r ∈ rs := by
  rw [List.drop_append_of_le_length hj, List.take_append_of_le_length (by rw [List.length_drop]; omega)] at h
  exact List.mem_of_mem_drop (List.mem_of_mem_take h)
theorem mem_tail2 {α : Type} {rs sp : List α} {j a b : Nat} {r : α} (hj : j ≤ rs.length) (hb : b = rs.length - j) (hab : b ≤ a) (h : r ∈ (((rs ++ sp).drop j).take a).take b) : r ∈ rs := by
  rw [List.take_take, show min b a = rs.length - j by omega] at h
  exact mem_tail hj h
/-- What is left of rows when some are deleted. -/
theorem del_rows {rs sp zs : List (List Value)} {i j : Nat} (hij : i ≤ j) (hj : j ≤ rs.length) (hz : zs.length = j - i) :
    let R1 := (rs ++ sp).take i ++ ((((rs ++ sp).drop j).take (rs.length - j)) ++ (rs ++ sp).drop (i + (rs.length - j)))
    R1.take (i + (rs.length - j)) ++ (zs ++ R1.drop (i + (rs.length - j) + (j - i))) = (rs.take i ++ rs.drop j) ++ (zs ++ sp) := by
  have e1 : (rs ++ sp).take i = rs.take i := List.take_append_of_le_length (by omega)
  have e2 : ((rs ++ sp).drop j).take (rs.length - j) = rs.drop j := by
    rw [List.drop_append_of_le_length hj, List.take_append_of_le_length (by rw [List.length_drop]; omega), List.take_of_length_le (by rw [List.length_drop]; omega)]
  have l1 : (rs.take i).length = i := by rw [List.length_take]; omega
  have l2 : (rs.drop j).length = rs.length - j := List.length_drop
  simp only [e1, e2]
  have l3 : (rs.take i ++ rs.drop j).length = i + (rs.length - j) := by rw [List.length_append, l1, l2]
  have e3 : rs.take i ++ (rs.drop j ++ (rs ++ sp).drop (i + (rs.length - j))) = (rs.take i ++ rs.drop j) ++ (rs ++ sp).drop (i + (rs.length - j)) := (List.append_assoc _ _ _).symm
  have e4 : ((rs.take i ++ rs.drop j) ++ (rs ++ sp).drop (i + (rs.length - j))).take (i + (rs.length - j)) = rs.take i ++ rs.drop j := by
    rw [List.take_append_of_le_length (by omega), List.take_of_length_le (by omega)]
  have e5 : ((rs.take i ++ rs.drop j) ++ (rs ++ sp).drop (i + (rs.length - j))).drop (i + (rs.length - j) + (j - i)) = sp := by
    rw [List.drop_append, List.drop_eq_nil_of_le (by omega), List.nil_append, l3, List.drop_drop, show i + (rs.length - j) + (i + (rs.length - j) + (j - i) - (i + (rs.length - j))) = rs.length by omega]
    exact List.drop_left
  rw [e3, e4, e5]
end
end Go.Proofs.YthefddclefimoaaGreatDoor
namespace Go.Proofs.YthefddclefimoaaGreatDoor
open Go.RowKit
set_option linter.unusedVariables false
set_option linter.unusedSimpArgs false
set_option maxRecDepth 8000

theorem cl_Bond : clB Tryz.prog 38 4 = true := by kernel_rfl
set_option maxHeartbeats 1000000 in
theorem deleteBond_v (rs sp : List (List Value)) (i j : Nat) (B : Nat) (w : World) (L : List Nat) (hL : LL (B :: L) w) (hO : RwB 4 w B (rs ++ sp)) (hij : i ≤ j) (hj : j ≤ rs.length) (hone : ∀ r ∈ rs, ∀ u ∈ r, u.oneCell' = true) : CW Tryz.prog 65 [.slice (some ⟨B, 0, none⟩) rs.length ((rs ++ sp).length), .int .i64 (i : Int), .int .i64 (j : Int)] w B fun v W => ∃ B', OwS 4 W v (rs.take i ++ rs.drop j) B' ∧ (B' = B ∨ w.heap.size ≤ B') := by
  refine cw_enter (N := 33) (f := [(0, .slice (some ⟨B, 0, none⟩) rs.length ((rs ++ sp).length)), (1, .int .i64 (i : Int)), (2, .int .i64 (j : Int))]) Tryz.func65 rfl rfl rfl rfl fun Q hQ hE => ?_
  have hB := Chg.refl B w
  have hlen : (rs ++ sp).length = rs.length + sp.length := List.length_append
  refine WC.seq fun K1 hK1 => ?_
  refine WC.region ?_
  refine WL.val (dx_assign rfl rfl) rfl rfl ?_
  refine WL.nil ?_
  refine hK1 ?_
  refine WC.seq fun K2 hK2 => ?_
  refine WC.region ?_
  refine WL.val (dx_move rfl rfl) rfl rfl ?_
  refine WL.val (dx_move rfl rfl) rfl rfl ?_
  refine WL.val (dx_move rfl rfl) rfl rfl ?_
  refine WL.val (dx_move rfl rfl) rfl rfl ?_
  refine WL.val (dx_len rfl Tryz.underlying38 rfl) rfl rfl ?_
  refine WL.val (dx_slLHM i j rs.length rfl ty_slice_38 rfl rfl rfl rfl rfl rfl rfl (by omega) (by omega) (by omega)) rfl rfl ?_
  refine WL.nil ?_
  refine hK2 ?_
  refine WC.seq fun K3 hK3 => ?_
  refine WC.seq fun K4 hK4 => ?_
  refine WC.region ?_
  refine WL.val (dx_move rfl rfl) rfl rfl ?_
  refine WL.val (dx_move rfl rfl) rfl rfl ?_
  refine WL.val (dx_eql rfl rfl rfl) rfl rfl ?_
  refine WL.nil ?_
  refine hK4 ?_
  refine WC.cond rfl (fun c5 => ?_) (fun c5 => ?_)
  ·
    replace c5 := of_decide_eq_true c5
    refine WC.seq fun K6 hK6 => ?_
    refine WC.region ?_
    refine WL.val (dx_move rfl rfl) rfl rfl ?_
    refine WL.val (dx_assign rfl rfl) rfl rfl ?_
    refine WL.nil ?_
    refine hK6 ?_
    refine WC.ret fun a_ ha_ => ?_
    exact hQ (cw_ret1 rfl (.tmp rfl) ⟨B, (by have hij2 : i = j := (by omega); subst hij2; rw [List.take_append_drop]; exact hO.own), .inl rfl⟩ hB ha_)
  ·
    replace c5 := of_decide_eq_false c5
    refine WC.skip ?_
    refine hK3 ?_
    refine WC.seq fun K7 hK7 => ?_
    refine WC.region ?_
    refine WL.val (dx_move rfl rfl) rfl rfl ?_
    refine WL.val (dx_len rfl Tryz.underlying38 rfl) rfl rfl ?_
    refine WL.val (dx_assign rfl rfl) rfl rfl ?_
    refine WL.nil ?_
    refine hK7 ?_
    refine WC.seq fun K8 hK8 => ?_
    refine WC.drawM 6 [(some 20, .is (.slice (some ⟨B, 0, none⟩) rs.length ((rs ++ sp).length))), (some 21, .is (.int .i64 (i : Int))), (some 22, .is (.slice (some ⟨B, 0, none⟩) i ((rs ++ sp).length))), (some 23, .is (.slice (some ⟨B, 0, none⟩) rs.length ((rs ++ sp).length))), (some 24, .is (.int .i64 (j : Int))), (some 25, .is (.slice (some ⟨B, (offV ((rs ++ sp).length) j 0 4), none⟩) (rs.length - j) ((rs ++ sp).length - j)))] [[], [], [0, 1], [], [], [3, 4]] (by kernel_rfl) (by kernel_rfl) (by kernel_rfl) (by kernel_rfl) (by kernel_rfl) (by kernel_rfl) (by kernel_rfl) (by exact trivial) ?_ ?_
    ·
      refine DSteps.cons (fun Wd hd => ?_) ?_
      ·
        exact DV.dr (dx_move rfl rfl) ⟨Below.refl _ _, rfl⟩
      refine DSteps.cons (fun Wd hd => ?_) ?_
      ·
        exact DV.dr (dx_move rfl rfl) ⟨Below.refl _ _, rfl⟩
      refine DSteps.cons (fun Wd hd => ?_) ?_
      ·
        exact DV.dr (dx_slH i rfl ty_slice_38 rfl rfl rfl (by omega)) ⟨Below.refl _ _, rfl⟩
      refine DSteps.cons (fun Wd hd => ?_) ?_
      ·
        exact DV.dr (dx_move rfl rfl) ⟨Below.refl _ _, rfl⟩
      refine DSteps.cons (fun Wd hd => ?_) ?_
      ·
        exact DV.dr (dx_move rfl rfl) ⟨Below.refl _ _, rfl⟩
      refine DSteps.cons (fun Wd hd => ?_) ?_
      ·
        exact DV.dr (dx_slL j rfl ty_slice_38 rfl rfl rfl (by omega) (by omega)) ⟨Below.refl _ _, rfl⟩
      exact trivial
    ·
      intro W9 b10
      replace hO := hO.below b10
      replace hB := hB.thenB b10
      replace hL := LL.below hL b10
      refine WL.get (dx_apV (R := (rs ++ sp)) (news := ((rs ++ sp).drop j).take (rs.length - j)) rfl ty_ap_38 rfl rfl hO (hO.part (L := []) (lo := j) (by simp) (fun hn => by rw [offV_in hn (by rw [hlen]; omega)]; simp) (by rw [hlen]; omega) (by rw [hlen]; omega)) (fun r hr => hone r (mem_tail hj hr)) (m := rs.length - j) (by rw [List.length_take, List.length_drop, List.length_append]; omega) (by simp; omega)) rfl rfl ?_
      rintro _ W11 ⟨rfl, k12, o13⟩
      replace hB := hB.only o13 (.inl rfl)
      replace hL := LL.only hL o13
      have hR1 : (((rs ++ sp).take i) ++ (((rs ++ sp).drop j).take (rs.length - j) ++ (rs ++ sp).drop (i + (rs.length - j)))).length = (rs ++ sp).length := (by simp; omega)
      refine WL.val (dx_assign rfl rfl) rfl rfl ?_
      refine WL.nil ?_
      refine hK8 ?_
      refine WC.seq fun K14 hK14 => ?_
      refine WC.region ?_
      refine WL.val (dx_move rfl rfl) rfl rfl ?_
      refine WL.val (dx_move rfl rfl) rfl rfl ?_
      refine WL.val (dx_len rfl Tryz.underlying38 rfl) rfl rfl ?_
      refine WL.val (dx_move rfl rfl) rfl rfl ?_
      refine WL.val (dx_slLH (i + (rs.length - j)) rs.length rfl ty_slice_38 rfl rfl rfl rfl rfl (by omega) (by omega)) rfl rfl ?_
      refine WL.do (dx_clV (R := (((rs ++ sp).take i) ++ (((rs ++ sp).drop j).take (rs.length - j) ++ (rs ++ sp).drop (i + (rs.length - j))))) (lo := i + (rs.length - j)) (n := j - i) rfl cl_Bond (by rw [show j - i = rs.length - (i + (rs.length - j)) by omega]; rfl) (fun hn => by rw [offV_in (n := j - i) hn (by simp; omega)]; simp) k12 (by rw [hR1]; simp; omega)) rfl ?_
      rintro _ W15 ⟨zs, hz, k16, o17⟩
      have hd := del_rows (rs := rs) (sp := sp) (zs := zs) hij hj hz
      simp only at hd
      rw [hd] at k16
      replace hB := hB.only o17 (.inl rfl)
      replace hL := LL.only hL o17
      refine WL.nil ?_
      refine hK14 ?_
      refine WC.seq fun K18 hK18 => ?_
      refine WC.region ?_
      refine WL.val (dx_move rfl rfl) rfl rfl ?_
      refine WL.val (dx_assign rfl rfl) rfl rfl ?_
      refine WL.nil ?_
      refine hK18 ?_
      refine WC.ret fun a_ ha_ => ?_
      exact hQ (cw_ret1 rfl (.tmp rfl) ⟨B, (by have := k16.own; have e1 : (rs.take i ++ rs.drop j).length = i + (rs.length - j) := (by simp; omega); have e2 : ((rs.take i ++ rs.drop j) ++ (zs ++ sp)).length = (rs ++ sp).length := (by simp; omega); rw [e1, e2] at this; exact this), .inl rfl⟩ hB ha_)

theorem cl_User : clB Tryz.prog 22 3 = true := by kernel_rfl
set_option maxHeartbeats 1000000 in
theorem deleteUser_v (rs sp : List (List Value)) (i j : Nat) (B : Nat) (w : World) (L : List Nat) (hL : LL (B :: L) w) (hO : RwB 3 w B (rs ++ sp)) (hij : i ≤ j) (hj : j ≤ rs.length) (hone : ∀ r ∈ rs, ∀ u ∈ r, u.oneCell' = true) : CW Tryz.prog 48 [.slice (some ⟨B, 0, none⟩) rs.length ((rs ++ sp).length), .int .i64 (i : Int), .int .i64 (j : Int)] w B fun v W => ∃ B', OwS 3 W v (rs.take i ++ rs.drop j) B' ∧ (B' = B ∨ w.heap.size ≤ B') := by
  refine cw_enter (N := 33) (f := [(0, .slice (some ⟨B, 0, none⟩) rs.length ((rs ++ sp).length)), (1, .int .i64 (i : Int)), (2, .int .i64 (j : Int))]) Tryz.func48 rfl rfl rfl rfl fun Q hQ hE => ?_
  have hB := Chg.refl B w
  have hlen : (rs ++ sp).length = rs.length + sp.length := List.length_append
  refine WC.seq fun K1 hK1 => ?_
  refine WC.region ?_
  refine WL.val (dx_assign rfl rfl) rfl rfl ?_
  refine WL.nil ?_
  refine hK1 ?_
  refine WC.seq fun K2 hK2 => ?_
  refine WC.region ?_
  refine WL.val (dx_move rfl rfl) rfl rfl ?_
  refine WL.val (dx_move rfl rfl) rfl rfl ?_
  refine WL.val (dx_move rfl rfl) rfl rfl ?_
  refine WL.val (dx_move rfl rfl) rfl rfl ?_
  refine WL.val (dx_len rfl Tryz.underlying22 rfl) rfl rfl ?_
  refine WL.val (dx_slLHM i j rs.length rfl ty_slice_22 rfl rfl rfl rfl rfl rfl rfl (by omega) (by omega) (by omega)) rfl rfl ?_
  refine WL.nil ?_
  refine hK2 ?_
  refine WC.seq fun K3 hK3 => ?_
  refine WC.seq fun K4 hK4 => ?_
  refine WC.region ?_
  refine WL.val (dx_move rfl rfl) rfl rfl ?_
  refine WL.val (dx_move rfl rfl) rfl rfl ?_
  refine WL.val (dx_eql rfl rfl rfl) rfl rfl ?_
  refine WL.nil ?_
  refine hK4 ?_
  refine WC.cond rfl (fun c5 => ?_) (fun c5 => ?_)
  ·
    replace c5 := of_decide_eq_true c5
    refine WC.seq fun K6 hK6 => ?_
    refine WC.region ?_
    refine WL.val (dx_move rfl rfl) rfl rfl ?_
    refine WL.val (dx_assign rfl rfl) rfl rfl ?_
    refine WL.nil ?_
    refine hK6 ?_
    refine WC.ret fun a_ ha_ => ?_
    exact hQ (cw_ret1 rfl (.tmp rfl) ⟨B, (by have hij2 : i = j := (by omega); subst hij2; rw [List.take_append_drop]; exact hO.own), .inl rfl⟩ hB ha_)
  ·
    replace c5 := of_decide_eq_false c5
    refine WC.skip ?_
    refine hK3 ?_
    refine WC.seq fun K7 hK7 => ?_
    refine WC.region ?_
    refine WL.val (dx_move rfl rfl) rfl rfl ?_
    refine WL.val (dx_len rfl Tryz.underlying22 rfl) rfl rfl ?_
    refine WL.val (dx_assign rfl rfl) rfl rfl ?_
    refine WL.nil ?_
    refine hK7 ?_
    refine WC.seq fun K8 hK8 => ?_
    refine WC.drawM 6 [(some 20, .is (.slice (some ⟨B, 0, none⟩) rs.length ((rs ++ sp).length))), (some 21, .is (.int .i64 (i : Int))), (some 22, .is (.slice (some ⟨B, 0, none⟩) i ((rs ++ sp).length))), (some 23, .is (.slice (some ⟨B, 0, none⟩) rs.length ((rs ++ sp).length))), (some 24, .is (.int .i64 (j : Int))), (some 25, .is (.slice (some ⟨B, (offV ((rs ++ sp).length) j 0 3), none⟩) (rs.length - j) ((rs ++ sp).length - j)))] [[], [], [0, 1], [], [], [3, 4]] (by kernel_rfl) (by kernel_rfl) (by kernel_rfl) (by kernel_rfl) (by kernel_rfl) (by kernel_rfl) (by kernel_rfl) (by exact trivial) ?_ ?_
    ·
      refine DSteps.cons (fun Wd hd => ?_) ?_
      ·
        exact DV.dr (dx_move rfl rfl) ⟨Below.refl _ _, rfl⟩
      refine DSteps.cons (fun Wd hd => ?_) ?_
      ·
        exact DV.dr (dx_move rfl rfl) ⟨Below.refl _ _, rfl⟩
      refine DSteps.cons (fun Wd hd => ?_) ?_
      ·
        exact DV.dr (dx_slH i rfl ty_slice_22 rfl rfl rfl (by omega)) ⟨Below.refl _ _, rfl⟩
      refine DSteps.cons (fun Wd hd => ?_) ?_
      ·
        exact DV.dr (dx_move rfl rfl) ⟨Below.refl _ _, rfl⟩
      refine DSteps.cons (fun Wd hd => ?_) ?_
      ·
        exact DV.dr (dx_move rfl rfl) ⟨Below.refl _ _, rfl⟩
      refine DSteps.cons (fun Wd hd => ?_) ?_
      ·
        exact DV.dr (dx_slL j rfl ty_slice_22 rfl rfl rfl (by omega) (by omega)) ⟨Below.refl _ _, rfl⟩
      exact trivial
    ·
      intro W9 b10
      replace hO := hO.below b10
      replace hB := hB.thenB b10
      replace hL := LL.below hL b10
      refine WL.get (dx_apV (R := (rs ++ sp)) (news := ((rs ++ sp).drop j).take (rs.length - j)) rfl ty_ap_22 rfl rfl hO (hO.part (L := []) (lo := j) (by simp) (fun hn => by rw [offV_in hn (by rw [hlen]; omega)]; simp) (by rw [hlen]; omega) (by rw [hlen]; omega)) (fun r hr => hone r (mem_tail hj hr)) (m := rs.length - j) (by rw [List.length_take, List.length_drop, List.length_append]; omega) (by simp; omega)) rfl rfl ?_
      rintro _ W11 ⟨rfl, k12, o13⟩
      replace hB := hB.only o13 (.inl rfl)
      replace hL := LL.only hL o13
      have hR1 : (((rs ++ sp).take i) ++ (((rs ++ sp).drop j).take (rs.length - j) ++ (rs ++ sp).drop (i + (rs.length - j)))).length = (rs ++ sp).length := (by simp; omega)
      refine WL.val (dx_assign rfl rfl) rfl rfl ?_
      refine WL.nil ?_
      refine hK8 ?_
      refine WC.seq fun K14 hK14 => ?_
      refine WC.region ?_
      refine WL.val (dx_move rfl rfl) rfl rfl ?_
      refine WL.val (dx_move rfl rfl) rfl rfl ?_
      refine WL.val (dx_len rfl Tryz.underlying22 rfl) rfl rfl ?_
      refine WL.val (dx_move rfl rfl) rfl rfl ?_
      refine WL.val (dx_slLH (i + (rs.length - j)) rs.length rfl ty_slice_22 rfl rfl rfl rfl rfl (by omega) (by omega)) rfl rfl ?_
      refine WL.do (dx_clV (R := (((rs ++ sp).take i) ++ (((rs ++ sp).drop j).take (rs.length - j) ++ (rs ++ sp).drop (i + (rs.length - j))))) (lo := i + (rs.length - j)) (n := j - i) rfl cl_User (by rw [show j - i = rs.length - (i + (rs.length - j)) by omega]; rfl) (fun hn => by rw [offV_in (n := j - i) hn (by simp; omega)]; simp) k12 (by rw [hR1]; simp; omega)) rfl ?_
      rintro _ W15 ⟨zs, hz, k16, o17⟩
      have hd := del_rows (rs := rs) (sp := sp) (zs := zs) hij hj hz
      simp only at hd
      rw [hd] at k16
      replace hB := hB.only o17 (.inl rfl)
      replace hL := LL.only hL o17
      refine WL.nil ?_
      refine hK14 ?_
      refine WC.seq fun K18 hK18 => ?_
      refine WC.region ?_
      refine WL.val (dx_move rfl rfl) rfl rfl ?_
      refine WL.val (dx_assign rfl rfl) rfl rfl ?_
      refine WL.nil ?_
      refine hK18 ?_
      refine WC.ret fun a_ ha_ => ?_
      exact hQ (cw_ret1 rfl (.tmp rfl) ⟨B, (by have := k16.own; have e1 : (rs.take i ++ rs.drop j).length = i + (rs.length - j) := (by simp; omega); have e2 : ((rs.take i ++ rs.drop j) ++ (zs ++ sp)).length = (rs ++ sp).length := (by simp; omega); rw [e1, e2] at this; exact this), .inl rfl⟩ hB ha_)

end Go.Proofs.YthefddclefimoaaGreatDoor
namespace Go.Proofs.YthefddclefimoaaGreatDoor
open Go.RowKit
set_option linter.unusedVariables false
set_option linter.unusedSimpArgs false
/-- A text's byte. -/
def atS (s : ByteArray) (k : Nat) : Int := (s.data[k]?.getD 0).toNat
theorem atS_lo (s : ByteArray) (k : Nat) : 0 ≤ atS s k ∧ atS s k ≤ 255 := by
  unfold atS
  have := (s.data[k]?.getD 0).toNat_lt
  omega
-- rows that encode
theorem oc_rowsX {α : Type} {enc : α → List Value} (h : ∀ x, ∀ u ∈ enc x, u.oneCell' = true) (xs : List α) : ∀ r ∈ xs.map enc, ∀ u ∈ r, u.oneCell' = true := fun r hr => by
  obtain ⟨x, _, rfl⟩ := List.mem_map.1 hr
  exact h x
theorem at_mapX {α : Type} {enc : α → List Value} {xs : List α} {i : Nat} {x : α} (h : xs[i]? = some x) : (xs.map enc)[i]? = some (enc x) := by rw [List.getElem?_map, h]; rfl
/-- The first place of one of this kind. -/
def idxX {α : Type} (p : α → Bool) : List α → Int → Int
  | [], _ => -1
  | x :: l, i => if p x then i else idxX p l (i + 1)
theorem idxX_step {α : Type} {p : α → Bool} {xs : List α} {i : Nat} {x : α} (h : xs[i]? = some x) (hx : p x = false) : idxX p (xs.drop i) i = idxX p (xs.drop (i + 1)) ((i + 1 : Nat) : Int) := by
  obtain ⟨hl, he⟩ := List.getElem?_eq_some_iff.1 h
  rw [List.drop_eq_getElem_cons hl, he, idxX, hx]
  simp
theorem idxX_here {α : Type} {p : α → Bool} {xs : List α} {i : Nat} {x : α} (h : xs[i]? = some x) (hx : p x = true) : idxX p (xs.drop i) i = i := by
  obtain ⟨hl, he⟩ := List.getElem?_eq_some_iff.1 h
  rw [List.drop_eq_getElem_cons hl, he, idxX, hx]
  simp
theorem idxX_end {α : Type} {p : α → Bool} {xs : List α} {i : Nat} (h : ¬ (i : Int) < xs.length) : idxX p (xs.drop i) i = -1 := by
  rw [List.drop_eq_nil_of_le (by omega)]; rfl
theorem idxX_any {α : Type} {p : α → Bool} : ∀ (xs : List α) (i : Int), 0 ≤ i → decide (0 ≤ idxX p xs i) = xs.any p
  | [], i, _ => by simp [idxX]
  | x :: l, i, h => by
    unfold idxX
    cases hx : p x with
    | true => simp [hx, h]
    | false => simp [hx]; have := idxX_any (p := p) l (i + 1) (by omega); simpa using this
section
variable {P : Program} {ops : Array Oper} {o : Oper} {N : Nat} {f : Fl} {w : World}
theorem dx_lenX {α : Type} {enc : α → List Value} {xs : List α} {t s s' : Nat} {L : List Nat} {x : Operand} {v : Value} (ho : o.op = .call { callee := .builtin .len, args := #[x], argTypes := #[t] }) (ht : sliceB P t s' = true) (hx : ev f x = some v) (hr : RdF s L w v (xs.map enc)) (hw : wantF ops o f = some true := by rfl) : DV P ops o N f w (.int .i64 (xs.length : Int)) := by
  have := dx_lenF (N := N) ho ht hx hr hw
  rwa [List.length_map] at this
theorem dx_at {t : TypeId} {x y : Operand} {s : ByteArray} {K : IntKind} {i : Int} (k : Nat) (ho : o.op = .index t x y) (ht : P.underlying t = some .string) (hx : ev f x = some (.string s)) (hy : ev f y = some (.int K i)) (hi : i = (k : Int)) (hk : k < s.size) (hw : wantF ops o f = some true := by rfl) : DV P ops o N f w (.int .u8 (atS s k)) := fun a ha => by
  subst hi
  have hx := ha.ev hx
  have hy := ha.ev hy
  have hk' : k < s.data.size := hk
  have e : s[k]? = some (s.data[k]?.getD 0) := by
    rw [getElem?_pos s k hk, Array.getElem?_eq_getElem hk']
    rfl
  refine Does.pure (wantF_of ha hw) _ ?_ ⟨rfl, rfl⟩
  unfold execOp
  simp only [ho, hx, hy, Instr.index, asIntOf, Sem.run_bind, Sem.run_pure, Result.andThen_ok, run_underlying ht]
  have h0 : (0 : Int) ≤ (k : Int) := by omega
  simp [h0, e, atS]
end
end Go.Proofs.YthefddclefimoaaGreatDoor
namespace Go.Proofs.YthefddclefimoaaGreatDoor
open Go.RowKit
set_option linter.unusedVariables false
set_option linter.unusedSimpArgs false
set_option maxRecDepth 8000

/-- 1 to 64 bytes from 33 to 126? -/
def okB (s : ByteArray) (k : Nat) : Bool := decide (33 ≤ atS s k) && decide (atS s k ≤ 126)
def wordB (s : ByteArray) : Bool := decide (1 ≤ s.size) && decide (s.size ≤ 64) && (List.range s.size).all (okB s)
theorem word_t {s : ByteArray} (h1 : 1 ≤ s.size) (h2 : s.size ≤ 64) (h : ∀ k, k < s.size → okB s k = true) : wordB s = true := by
  unfold wordB
  simp [h1, h2]
  exact h
theorem word_f {s : ByteArray} (h : s.size < 1 ∨ 64 < s.size ∨ ∃ k, k < s.size ∧ okB s k = false) : wordB s = false := by
  rcases h with h | h | ⟨k, hk, h⟩
  · have : ¬ 1 ≤ s.size := by omega
    simp [wordB, this]
  · have : ¬ s.size ≤ 64 := by omega
    simp [wordB, this]
  · unfold wordB
    rw [Bool.and_eq_false_iff]
    refine .inr (List.all_eq_false.2 ⟨k, List.mem_range.2 hk, by simp [h]⟩)
set_option maxHeartbeats 1000000 in
theorem word_v (s : ByteArray) (w : World) (L : List Nat) (hL : LL L w)  : CV Tryz.prog 36 [.string s] w fun v W => v = .bool (wordB s) := by
  refine cv_enter (N := 28) (f := [(0, .string s)]) Tryz.func36 rfl rfl rfl rfl fun Q hQ hE => ?_
  have hB := Below.refl w.heap.size w
  refine WC.seq fun K1 hK1 => ?_
  refine WC.region ?_
  refine WL.val (dx_assign rfl rfl) rfl rfl ?_
  refine WL.nil ?_
  refine hK1 ?_
  refine WC.seq fun K2 hK2 => ?_
  refine WC.seq fun K3 hK3 => ?_
  refine WC.region ?_
  refine WL.val (dx_move rfl rfl) rfl rfl ?_
  refine WL.val (dx_lenT rfl Tryz.underlying9 rfl) rfl rfl ?_
  refine WL.val (dx_lss rfl rfl rfl) rfl rfl ?_
  refine WL.val (dx_move rfl rfl) rfl rfl ?_
  refine WL.split 7 rfl (fun g4 => ?_) (fun g4 => ?_)
  ·
    replace g4 := of_decide_eq_true g4
    refine WL.off rfl rfl rfl ?_
    refine WL.off rfl rfl rfl ?_
    refine WL.off rfl rfl rfl ?_
    refine WL.val (dx_pick rfl rfl rfl) rfl rfl ?_
    refine WL.nil ?_
    refine hK3 ?_
    refine WC.condT rfl ?_
    refine WC.seq fun K5 hK5 => ?_
    refine WC.region ?_
    refine WL.val (dx_assign rfl rfl) rfl rfl ?_
    refine WL.nil ?_
    refine hK5 ?_
    refine WC.ret fun a_ ha_ => ?_
    exact hQ (cv_ret1 rfl (.tmp rfl) (by rw [word_f (by first | (refine .inl ?_; omega) | (refine .inr (.inl ?_); omega) | exact .inr (.inr ⟨i, by omega, by unfold okB; rw [Bool.and_eq_false_iff, decide_eq_false_iff_not, decide_eq_false_iff_not]; omega⟩))]) hB ha_)
  ·
    replace g4 := of_decide_eq_false g4
    refine WL.val (dx_move rfl rfl) rfl rfl ?_
    refine WL.val (dx_lenT rfl Tryz.underlying9 rfl) rfl rfl ?_
    refine WL.val (dx_gtr rfl rfl rfl) rfl rfl ?_
    refine WL.val (dx_pick rfl rfl rfl) rfl rfl ?_
    refine WL.nil ?_
    refine hK3 ?_
    refine WC.cond rfl (fun c6 => ?_) (fun c6 => ?_)
    ·
      replace c6 := of_decide_eq_true c6
      refine WC.seq fun K7 hK7 => ?_
      refine WC.region ?_
      refine WL.val (dx_assign rfl rfl) rfl rfl ?_
      refine WL.nil ?_
      refine hK7 ?_
      refine WC.ret fun a_ ha_ => ?_
      exact hQ (cv_ret1 rfl (.tmp rfl) (by rw [word_f (by first | (refine .inl ?_; omega) | (refine .inr (.inl ?_); omega) | exact .inr (.inr ⟨i, by omega, by unfold okB; rw [Bool.and_eq_false_iff, decide_eq_false_iff_not, decide_eq_false_iff_not]; omega⟩))]) hB ha_)
    ·
      replace c6 := of_decide_eq_false c6
      refine WC.skip ?_
      refine hK2 ?_
      refine WC.seq fun K8 hK8 => ?_
      refine WC.seq fun K9 hK9 => ?_
      refine WC.region ?_
      refine WL.val (dx_move rfl rfl) rfl rfl ?_
      refine WL.val (dx_lenT rfl Tryz.underlying9 rfl) rfl rfl ?_
      refine WL.val (dx_move rfl rfl) rfl rfl ?_
      refine WL.nil ?_
      refine hK9 ?_
      refine WC.block ?_
      refine WC.loop (fun (i : Nat) => [(0, .string s), (13, .int .i64 (s.size : Int)), (14, .int .i64 (i : Int))]) (fun (i : Nat) W => i ≤ s.size ∧ (∀ k, k < i → okB s k = true) ∧ Below w.heap.size w W ∧ LL (L) W) (fun (i : Nat) => s.size - i) 0 (by repeat first | exact trivial | exact And.intro rfl trivial | refine And.intro rfl ?_ | refine And.intro (congrArg (fun z : Int => some (Value.int .i64 z)) (by omega)) ?_) ⟨Nat.zero_le _, (fun k hk => by omega), hB, hL⟩ ?_
      clear hB hL
      rintro K10 i W11 ⟨hi, hv, hB, hL⟩ hK10
      refine WC.seq fun K12 hK12 => ?_
      refine WC.region ?_
      refine WL.val (dx_lss rfl rfl rfl) rfl rfl ?_
      refine WL.nil ?_
      refine hK12 ?_
      refine WC.seq fun K13 hK13 => ?_
      refine WC.cond rfl (fun c14 => ?_) (fun c14 => ?_)
      ·
        replace c14 := of_decide_eq_true c14
        refine WC.skip ?_
        refine hK13 ?_
        refine WC.seq fun K15 hK15 => ?_
        refine WC.block ?_
        refine WC.seq fun K16 hK16 => ?_
        refine WC.region ?_
        refine WL.val (dx_move rfl rfl) rfl rfl ?_
        refine WL.val (dx_assign rfl rfl) rfl rfl ?_
        refine WL.nil ?_
        refine hK16 ?_
        refine WC.seq fun K17 hK17 => ?_
        refine WC.region ?_
        refine WL.val (dx_move rfl rfl) rfl rfl ?_
        refine WL.val (dx_move rfl rfl) rfl rfl ?_
        refine WL.val (dx_at i rfl Tryz.underlying9 rfl rfl (by omega) (by omega)) rfl rfl ?_
        refine WL.val (dx_lss rfl rfl rfl) rfl rfl ?_
        refine WL.val (dx_move rfl rfl) rfl rfl ?_
        refine WL.split 21 rfl (fun g18 => ?_) (fun g18 => ?_)
        ·
          replace g18 := of_decide_eq_true g18
          refine WL.off rfl rfl rfl ?_
          refine WL.off rfl rfl rfl ?_
          refine WL.off rfl rfl rfl ?_
          refine WL.off rfl rfl rfl ?_
          refine WL.val (dx_pick rfl rfl rfl) rfl rfl ?_
          refine WL.nil ?_
          refine hK17 ?_
          refine WC.condT rfl ?_
          refine WC.seq fun K19 hK19 => ?_
          refine WC.region ?_
          refine WL.val (dx_assign rfl rfl) rfl rfl ?_
          refine WL.nil ?_
          refine hK19 ?_
          refine WC.ret fun a_ ha_ => ?_
          exact hQ (cv_ret1 rfl (.tmp rfl) (by rw [word_f (by first | (refine .inl ?_; omega) | (refine .inr (.inl ?_); omega) | exact .inr (.inr ⟨i, by omega, by unfold okB; rw [Bool.and_eq_false_iff, decide_eq_false_iff_not, decide_eq_false_iff_not]; omega⟩))]) hB ha_)
        ·
          replace g18 := of_decide_eq_false g18
          refine WL.val (dx_move rfl rfl) rfl rfl ?_
          refine WL.val (dx_move rfl rfl) rfl rfl ?_
          refine WL.val (dx_at i rfl Tryz.underlying9 rfl rfl (by omega) (by omega)) rfl rfl ?_
          refine WL.val (dx_gtr rfl rfl rfl) rfl rfl ?_
          refine WL.val (dx_pick rfl rfl rfl) rfl rfl ?_
          refine WL.nil ?_
          refine hK17 ?_
          refine WC.cond rfl (fun c20 => ?_) (fun c20 => ?_)
          ·
            replace c20 := of_decide_eq_true c20
            refine WC.seq fun K21 hK21 => ?_
            refine WC.region ?_
            refine WL.val (dx_assign rfl rfl) rfl rfl ?_
            refine WL.nil ?_
            refine hK21 ?_
            refine WC.ret fun a_ ha_ => ?_
            exact hQ (cv_ret1 rfl (.tmp rfl) (by rw [word_f (by first | (refine .inl ?_; omega) | (refine .inr (.inl ?_); omega) | exact .inr (.inr ⟨i, by omega, by unfold okB; rw [Bool.and_eq_false_iff, decide_eq_false_iff_not, decide_eq_false_iff_not]; omega⟩))]) hB ha_)
          ·
            replace c20 := of_decide_eq_false c20
            refine WC.skip ?_
            refine hK15 ?_
            refine WC.region ?_
            refine WL.val (dx_add (r := (i : Int) + 1) rfl rfl rfl (wrap64_id (by omega))) rfl rfl ?_
            refine WL.val (dx_move rfl rfl) rfl rfl ?_
            refine WL.nil ?_
            exact hK10 (i + 1) ⟨(by omega), (fun k hk => by rcases Nat.lt_or_ge k i with h | h; exact hv k h; have e : k = i := (by omega); subst e; unfold okB; simp; omega), hB, hL⟩ (by omega) (by repeat first | exact trivial | exact And.intro rfl trivial | refine And.intro rfl ?_ | refine And.intro (congrArg (fun z : Int => some (Value.int .i64 z)) (by omega)) ?_)
      ·
        replace c14 := of_decide_eq_false c14
        refine WC.exit ?_
        refine hK8 ?_
        refine WC.seq fun K22 hK22 => ?_
        refine WC.region ?_
        refine WL.val (dx_assign rfl rfl) rfl rfl ?_
        refine WL.nil ?_
        refine hK22 ?_
        refine WC.ret fun a_ ha_ => ?_
        exact hQ (cv_ret1 rfl (.tmp rfl) (by rw [word_t (by omega) (by omega) (fun k hk => hv k (by omega))]) hB ha_)

set_option maxHeartbeats 1000000 in
theorem number_v (n l : Int) (w : World) (L : List Nat) (hL : LL L w)  : CV Tryz.prog 81 [.int .i64 n, .int .i64 l] w fun v W => v = .bool (decide (l ≤ n) && decide (n ≤ 1099511627776)) := by
  refine cv_enter (N := 12) (f := [(0, .int .i64 n), (1, .int .i64 l)]) Tryz.func81 rfl rfl rfl rfl fun Q hQ hE => ?_
  have hB := Below.refl w.heap.size w
  refine WC.seq fun K1 hK1 => ?_
  refine WC.region ?_
  refine WL.val (dx_assign rfl rfl) rfl rfl ?_
  refine WL.nil ?_
  refine hK1 ?_
  refine WC.seq fun K2 hK2 => ?_
  refine WC.region ?_
  refine WL.val (dx_move rfl rfl) rfl rfl ?_
  refine WL.val (dx_move rfl rfl) rfl rfl ?_
  refine WL.val (dx_geq rfl rfl rfl) rfl rfl ?_
  refine WL.val (dx_move rfl rfl) rfl rfl ?_
  refine WL.split 8 rfl (fun g3 => ?_) (fun g3 => ?_)
  ·
    replace g3 := of_decide_eq_true g3
    refine WL.val (dx_move rfl rfl) rfl rfl ?_
    refine WL.val (dx_leq rfl rfl rfl) rfl rfl ?_
    refine WL.val (dx_pick rfl rfl rfl) rfl rfl ?_
    refine WL.val (dx_assign rfl rfl) rfl rfl ?_
    refine WL.nil ?_
    refine hK2 ?_
    refine WC.ret fun a_ ha_ => ?_
    exact hQ (cv_ret1 rfl (.tmp rfl) (by simp [*]) hB ha_)
  ·
    replace g3 := of_decide_eq_false g3
    refine WL.off rfl rfl rfl ?_
    refine WL.off rfl rfl rfl ?_
    refine WL.val (dx_pick rfl rfl rfl) rfl rfl ?_
    refine WL.val (dx_assign rfl rfl) rfl rfl ?_
    refine WL.nil ?_
    refine hK2 ?_
    refine WC.ret fun a_ ha_ => ?_
    exact hQ (cv_ret1 rfl (.tmp rfl) (by simp [*]) hB ha_)

/-- An address: medium and where; the order of two. -/
def lessA (a b : ByteArray × ByteArray) : Bool := if a.1 = b.1 then sless a.2 b.2 else sless a.1 b.1
set_option maxHeartbeats 1000000 in
theorem lessA_v (m1 w1 m2 w2 : ByteArray) (w : World) (L : List Nat) (hL : LL L w)  : CV Tryz.prog 66 [.agg #[.string m1, .string w1], .agg #[.string m2, .string w2]] w fun v W => v = .bool (lessA (m1, w1) (m2, w2)) := by
  refine cv_enter (N := 20) (f := [(0, .agg #[.string m1, .string w1]), (1, .agg #[.string m2, .string w2])]) Tryz.func66 rfl rfl rfl rfl fun Q hQ hE => ?_
  have hB := Below.refl w.heap.size w
  refine WC.seq fun K1 hK1 => ?_
  refine WC.region ?_
  refine WL.get (dx_box rfl rfl rfl) rfl rfl ?_
  rintro _ W2 ⟨rfl, k3, b4, z5⟩
  have l6 := hB.size
  replace hB := below_then hB b4
  replace hL := LL.more hL z5
  refine WL.get (dx_box rfl rfl rfl) rfl rfl ?_
  rintro _ W7 ⟨rfl, k8, b9, z10⟩
  have n11 : w.heap.size ≠ W2.heap.size := Nat.ne_of_lt k3.lt
  have l12 := hB.size
  replace k3 := k3.below b9
  replace hB := below_then hB b9
  replace hL := LL.more hL z10
  refine WL.val (dx_assign rfl rfl) rfl rfl ?_
  refine WL.nil ?_
  refine hK1 ?_
  refine WC.seq fun K13 hK13 => ?_
  refine WC.seq fun K14 hK14 => ?_
  refine WC.region ?_
  refine WL.val (dx_fld (o1 := 0) rfl ty_fld_40_0_0 rfl rfl) rfl rfl ?_
  refine WL.val (dx_load rfl ty_one_9 rfl (k3.cell (k := 0) rfl)) rfl rfl ?_
  refine WL.val (dx_fld (o1 := 0) rfl ty_fld_40_0_0 rfl rfl) rfl rfl ?_
  refine WL.val (dx_load rfl ty_one_9 rfl (k8.cell (k := 0) rfl)) rfl rfl ?_
  refine WL.val (dx_neqT rfl rfl rfl) rfl rfl ?_
  refine WL.nil ?_
  refine hK14 ?_
  refine WC.cond rfl (fun c15 => ?_) (fun c15 => ?_)
  ·
    replace c15 := bnot_t c15
    replace c15 := of_decide_eq_false c15
    refine WC.seq fun K16 hK16 => ?_
    refine WC.region ?_
    refine WL.val (dx_fld (o1 := 0) rfl ty_fld_40_0_0 rfl rfl) rfl rfl ?_
    refine WL.val (dx_load rfl ty_one_9 rfl (k3.cell (k := 0) rfl)) rfl rfl ?_
    refine WL.val (dx_fld (o1 := 0) rfl ty_fld_40_0_0 rfl rfl) rfl rfl ?_
    refine WL.val (dx_load rfl ty_one_9 rfl (k8.cell (k := 0) rfl)) rfl rfl ?_
    refine WL.val (dx_lssT rfl rfl rfl) rfl rfl ?_
    refine WL.val (dx_assign rfl rfl) rfl rfl ?_
    refine WL.nil ?_
    refine hK16 ?_
    refine WC.ret fun a_ ha_ => ?_
    exact hQ (cv_ret1 rfl (.tmp rfl) (by unfold lessA; simp [*]) hB ha_)
  ·
    replace c15 := bnot_f c15
    replace c15 := of_decide_eq_true c15
    refine WC.skip ?_
    refine hK13 ?_
    refine WC.seq fun K17 hK17 => ?_
    refine WC.region ?_
    refine WL.val (dx_fld (o1 := 1) rfl ty_fld_40_1_1 rfl rfl) rfl rfl ?_
    refine WL.val (dx_load rfl ty_one_9 rfl (k3.cell (k := 1) rfl)) rfl rfl ?_
    refine WL.val (dx_fld (o1 := 1) rfl ty_fld_40_1_1 rfl rfl) rfl rfl ?_
    refine WL.val (dx_load rfl ty_one_9 rfl (k8.cell (k := 1) rfl)) rfl rfl ?_
    refine WL.val (dx_lssT rfl rfl rfl) rfl rfl ?_
    refine WL.val (dx_assign rfl rfl) rfl rfl ?_
    refine WL.nil ?_
    refine hK17 ?_
    refine WC.ret fun a_ ha_ => ?_
    exact hQ (cv_ret1 rfl (.tmp rfl) (by unfold lessA; simp [*]) hB ha_)

end Go.Proofs.YthefddclefimoaaGreatDoor
namespace Go.Proofs.YthefddclefimoaaGreatDoor
open Go.RowKit
set_option linter.unusedVariables false
set_option linter.unusedSimpArgs false
set_option maxRecDepth 8000

/-- A bond: who (medium, where), whose, since. -/
abbrev BondX := (ByteArray × ByteArray) × ByteArray × Int
def encB (p : BondX) : List Value := [.string p.1.1, .string p.1.2, .string p.2.1, .int .i64 p.2.2]
theorem oc_B (p : BondX) : ∀ u ∈ encB p, u.oneCell' = true := oc_cons rfl (oc_cons rfl (oc_cons rfl (oc_cons rfl oc_nil)))
set_option maxHeartbeats 1000000 in
theorem indexFuncB_v (xs : List (BondX)) (p : BondX → Bool) (sv g : Value) (w : World) (L : List Nat) (hL : LL L w) (h1 : RdF 4 L w sv (xs.map encB))  (hg : ∀ W, Below w.heap.size w W → ∀ x ∈ xs, FV Tryz.prog g [.agg (encB x).toArray] W fun v _ => v = .bool (p x)) : CV Tryz.prog 82 [sv, g] w fun v W => v = .int .i64 (idxX p xs 0) := by
  refine cv_enter (N := 19) (f := [(0, sv), (1, g)]) Tryz.func82 rfl rfl rfl rfl fun Q hQ hE => ?_
  have hB := Below.refl w.heap.size w
  have h1m : xs.length ≤ maxLen := by have := h1.len; rwa [List.length_map] at this
  unfold maxLen at h1m
  refine WC.seq fun K1 hK1 => ?_
  refine WC.region ?_
  refine WL.val (dx_assign rfl rfl) rfl rfl ?_
  refine WL.nil ?_
  refine hK1 ?_
  refine WC.seq fun K2 hK2 => ?_
  refine WC.seq fun K3 hK3 => ?_
  refine WC.region ?_
  refine WL.val (dx_move rfl rfl) rfl rfl ?_
  refine WL.val (dx_lenX rfl ty_slice_38 rfl h1) rfl rfl ?_
  refine WL.val (dx_move rfl rfl) rfl rfl ?_
  refine WL.nil ?_
  refine hK3 ?_
  refine WC.block ?_
  refine WC.loop (fun (i : Nat) => [(0, sv), (1, g), (7, .int .i64 (xs.length : Int)), (8, .int .i64 (i : Int))]) (fun (i : Nat) W => i ≤ xs.length ∧ idxX p xs 0 = idxX p (xs.drop i) i ∧ Below w.heap.size w W ∧ LL (L) W ∧ RdF 4 (L) W sv (xs.map encB)) (fun (i : Nat) => xs.length - i) 0 (by repeat first | exact trivial | exact And.intro rfl trivial | refine And.intro rfl ?_ | refine And.intro (congrArg (fun z : Int => some (Value.int .i64 z)) (by omega)) ?_) ⟨Nat.zero_le _, rfl, hB, hL, h1⟩ ?_
  clear h1 hB hL
  rintro K4 i W5 ⟨hi, hv, hB, hL, h1⟩ hK4
  refine WC.seq fun K6 hK6 => ?_
  refine WC.region ?_
  refine WL.val (dx_lss rfl rfl rfl) rfl rfl ?_
  refine WL.nil ?_
  refine hK6 ?_
  refine WC.seq fun K7 hK7 => ?_
  refine WC.cond rfl (fun c8 => ?_) (fun c8 => ?_)
  ·
    replace c8 := of_decide_eq_true c8
    refine WC.skip ?_
    refine hK7 ?_
    refine WC.seq fun K9 hK9 => ?_
    refine WC.block ?_
    refine WC.seq fun K10 hK10 => ?_
    refine WC.region ?_
    refine WL.val (dx_move rfl rfl) rfl rfl ?_
    refine WL.val (dx_assign rfl rfl) rfl rfl ?_
    refine WL.nil ?_
    refine hK10 ?_
    refine WC.seq fun K11 hK11 => ?_
    refine WC.region ?_
    refine WL.val (dx_move rfl rfl) rfl rfl ?_
    refine WL.val (dx_move rfl rfl) rfl rfl ?_
    refine WL.val (dx_move rfl rfl) rfl rfl ?_
    obtain ⟨r12, e13⟩ : ∃ x, xs[i]? = some x := ⟨_, List.getElem?_eq_getElem (by omega)⟩
    refine WL.get (dx_idxF i rfl ty_slice_38 rfl rfl h1 (by omega) (at_mapX e13)) rfl rfl ?_
    rintro u14 _ ⟨rfl, p15⟩
    refine WL.val (dx_loadPN rfl ty_agg_42_4 rfl p15 rfl) rfl rfl ?_
    refine WL.get (dx_fv rfl rfl rfl (hg _ hB r12 (List.mem_of_getElem? e13))) rfl rfl ?_
    rintro _ W17 ⟨rfl, b16⟩
    replace h1 := h1.below b16
    replace p15 := p15.below b16
    replace hB := below_then hB b16
    replace hL := LL.below hL b16
    refine WL.nil ?_
    refine hK11 ?_
    refine WC.cond rfl (fun c18 => ?_) (fun c18 => ?_)
    ·
      refine WC.seq fun K19 hK19 => ?_
      refine WC.region ?_
      refine WL.val (dx_move rfl rfl) rfl rfl ?_
      refine WL.val (dx_assign rfl rfl) rfl rfl ?_
      refine WL.nil ?_
      refine hK19 ?_
      refine WC.ret fun a_ ha_ => ?_
      exact hQ (cv_ret1 rfl (.tmp rfl) (by rw [hv, idxX_here e13 (by assumption)]) hB ha_)
    ·
      refine WC.skip ?_
      refine hK9 ?_
      refine WC.region ?_
      refine WL.val (dx_add (r := (i : Int) + 1) rfl rfl rfl (wrap64_id (by omega))) rfl rfl ?_
      refine WL.val (dx_move rfl rfl) rfl rfl ?_
      refine WL.nil ?_
      exact hK4 (i + 1) ⟨(by omega), (by rw [hv]; exact idxX_step e13 (by assumption)), hB, hL, h1⟩ (by omega) (by repeat first | exact trivial | exact And.intro rfl trivial | refine And.intro rfl ?_ | refine And.intro (congrArg (fun z : Int => some (Value.int .i64 z)) (by omega)) ?_)
  ·
    replace c8 := of_decide_eq_false c8
    refine WC.exit ?_
    refine hK2 ?_
    refine WC.seq fun K20 hK20 => ?_
    refine WC.region ?_
    refine WL.val (dx_assign rfl rfl) rfl rfl ?_
    refine WL.nil ?_
    refine hK20 ?_
    refine WC.ret fun a_ ha_ => ?_
    exact hQ (cv_ret1 rfl (.tmp rfl) (by rw [hv, idxX_end (by omega)]) hB ha_)

set_option maxHeartbeats 1000000 in
theorem cloneB_v (xs : List (BondX)) (sv : Value) (w : World) (L : List Nat) (hL : LL L w) (h1 : RdF 4 L w sv (xs.map encB))  (hne : xs ≠ []) (hsm : xs.length ≤ 1000000) : CV Tryz.prog 60 [sv] w fun v W => ∃ B, w.heap.size ≤ B ∧ OwS 4 W v (xs.map encB) B := by
  refine cv_enter (N := 8) (f := [(0, sv)]) Tryz.func60 rfl rfl rfl rfl fun Q hQ hE => ?_
  have hB := Below.refl w.heap.size w
  have h1m : xs.length ≤ maxLen := by have := h1.len; rwa [List.length_map] at this
  unfold maxLen at h1m
  refine WC.seq fun K1 hK1 => ?_
  refine WC.region ?_
  refine WL.val (dx_assign rfl rfl) rfl rfl ?_
  refine WL.nil ?_
  refine hK1 ?_
  refine WC.seq fun K2 hK2 => ?_
  refine WC.seq fun K3 hK3 => ?_
  refine WC.region ?_
  refine WL.val (dx_move rfl rfl) rfl rfl ?_
  refine WL.val (dx_nilF rfl Tryz.underlying38 rfl h1 (by simpa using hne)) rfl rfl ?_
  refine WL.nil ?_
  refine hK3 ?_
  refine WC.condF rfl ?_
  refine WC.skip ?_
  refine hK2 ?_
  refine WC.seq fun K4 hK4 => ?_
  refine WC.region ?_
  refine WL.get (dx_lit0 rfl ty_ap_38 (by decide)) rfl rfl ?_
  rintro u9 W5 ⟨k6, b7, z8⟩
  have l10 := hB.size
  replace h1 := h1.more b7 (Nat.le_refl _)
  replace hB := below_then hB b7
  replace hL := LL.more hL z8
  refine WL.val (dx_move rfl rfl) rfl rfl ?_
  refine WL.get (dx_apO' (rs := []) (news := (xs.map encB)) rfl ty_ap_38 rfl rfl k6 h1 (oc_rowsX oc_B xs) (by simp; unfold maxLen; omega) (by simp; omega)) rfl rfl ?_
  rintro u14 W11 ⟨B15, k12, g13⟩
  have l16 := g13.le l10 hB.size
  replace h1 := h1.grow' g13 (.head _)
  replace hB := g13.below hB l10 hB.size
  replace hL := LL.grow hL g13 k12.lt
  refine WL.val (dx_assign rfl rfl) rfl rfl ?_
  refine WL.nil ?_
  refine hK4 ?_
  refine WC.ret fun a_ ha_ => ?_
  exact hQ (cv_ret1 rfl (.tmp rfl) ⟨B15, l16, (by simpa using k12)⟩ hB ha_)

end Go.Proofs.YthefddclefimoaaGreatDoor
namespace Go.Proofs.YthefddclefimoaaGreatDoor
open Go.RowKit
set_option linter.unusedVariables false
section
variable {α : Type} {g : α → Bool} {r : α → α → Bool} {n : Nat}
def upL (r : α → α → Bool) : List α → Bool
  | a :: b :: l => r a b && upL r (b :: l)
  | _ => true
def rightL (n : Nat) (g : α → Bool) (r : α → α → Bool) (xs : List α) : Bool := decide (xs.length ≤ n) && (xs.all g && upL r xs)
theorem upL_t : ∀ (xs : List α), (∀ k a b, k + 1 < xs.length → xs[k]? = some a → xs[k + 1]? = some b → r a b = true) → upL r xs = true
  | [], _ => rfl
  | [a], _ => rfl
  | a :: b :: l, h => by
    unfold upL
    rw [h 0 a b (by simp) rfl rfl, Bool.true_and]
    exact upL_t (b :: l) fun k x y hk hx hy => h (k + 1) x y (by simpa using hk) (by simpa using hx) (by simpa using hy)
theorem upL_f : ∀ (xs : List α) (k : Nat) (a b : α), xs[k]? = some a → xs[k + 1]? = some b → r a b = false → upL r xs = false
  | [], k, a, b, h, _, _ => by simp at h
  | [x], k, a, b, _, h, _ => by simp at h
  | x :: y :: l, 0, a, b, h1, h2, h => by
    simp at h1 h2
    subst h1 h2
    simp [upL, h]
  | x :: y :: l, k + 1, a, b, h1, h2, h => by
    unfold upL
    rw [upL_f (y :: l) k a b (by simpa using h1) (by simpa using h2) h, Bool.and_false]
theorem right_t {xs : List α} (h : xs.length ≤ n) (hv : ∀ k a, k < xs.length → xs[k]? = some a → g a = true) (hu : ∀ k a b, k + 1 < xs.length → xs[k]? = some a → xs[k + 1]? = some b → r a b = true) : rightL n g r xs = true := by
  unfold rightL
  rw [decide_eq_true h, upL_t xs hu, Bool.and_true, Bool.true_and, List.all_eq_true]
  intro x hx
  obtain ⟨k, hk, rfl⟩ := List.getElem_of_mem hx
  exact hv k _ hk (List.getElem?_eq_getElem hk)
theorem right_f1 {xs : List α} (h : n < xs.length) : rightL n g r xs = false := by
  unfold rightL
  rw [decide_eq_false (by omega), Bool.false_and]
theorem right_f2 {xs : List α} {k : Nat} {a : α} (h : xs[k]? = some a) (ha : g a = false) : rightL n g r xs = false := by
  have : xs.all g = false := List.all_eq_false.2 ⟨a, List.mem_of_getElem? h, by simp [ha]⟩
  unfold rightL
  rw [this, Bool.false_and, Bool.and_false]
theorem right_f3 {xs : List α} {k i : Nat} {a b : α} (hk : xs[k]? = some a) (hi : xs[i]? = some b) (e : k + 1 = i) (h : r a b = false) : rightL n g r xs = false := by
  subst e
  unfold rightL
  rw [upL_f xs k a b hk hi h, Bool.and_false, Bool.and_false]
/-- The loop's facts, one step on. -/
theorem good_step {xs : List α} {i : Nat} {a : α} (h : ∀ k a, k < i → xs[k]? = some a → g a = true) (hi : xs[i]? = some a) (ha : g a = true) : ∀ k b, k < i + 1 → xs[k]? = some b → g b = true := fun k b hk hb => by
  rcases Nat.lt_or_ge k i with hl | hl
  · exact h k b hl hb
  · obtain rfl : k = i := by omega
    rw [hi] at hb
    cases hb
    exact ha
theorem up_step0 {xs : List α} {i : Nat} (hi : ¬ 0 < i) : ∀ k a b, k + 1 < i + 1 → xs[k]? = some a → xs[k + 1]? = some b → r a b = true := fun k a b hk _ _ => by omega
theorem up_step {xs : List α} {i j : Nat} {a b : α} (h : ∀ k a b, k + 1 < i → xs[k]? = some a → xs[k + 1]? = some b → r a b = true) (hj : xs[j]? = some a) (hi : xs[i]? = some b) (e : j + 1 = i) (hab : r a b = true) : ∀ k a b, k + 1 < i + 1 → xs[k]? = some a → xs[k + 1]? = some b → r a b = true := fun k x y hk hx hy => by
  rcases Nat.lt_or_ge (k + 1) i with hl | hl
  · exact h k x y hl hx hy
  · obtain rfl : k = j := by omega
    subst e
    rw [hj] at hx
    rw [hi] at hy
    cases hx
    cases hy
    exact hab
-- what a drawn test says: c: not good; d: there is one ahead
theorem not3 {a b c x y z : Bool} (h1 : a = !x) (h2 : b = (a || !y)) (h3 : c = (b || !z)) : c = !(x && (y && z)) := by
  subst h1 h2 h3
  cases x <;> cases y <;> cases z <;> rfl
theorem stepD {xs : List α} {i : Nat} {x y : α} {c d : Bool} (hv : ∀ k a, k < i → xs[k]? = some a → g a = true) (hu : ∀ k a b, k + 1 < i → xs[k]? = some a → xs[k + 1]? = some b → r a b = true) (hj : xs[i - 1]? = some y) (hi : xs[i]? = some x) (hc : c = !g x) (hd : d = (!c && decide (0 < (i : Int)))) (h1 : c = false) (h2 : (d && !r y x) = false) :
    (∀ k a, k < i + 1 → xs[k]? = some a → g a = true) ∧ (∀ k a b, k + 1 < i + 1 → xs[k]? = some a → xs[k + 1]? = some b → r a b = true) := by
  have hg : g x = true := by rw [h1] at hc; cases hx : g x <;> simp_all
  refine ⟨good_step hv hi hg, ?_⟩
  by_cases h0 : 0 < i
  · refine up_step hu hj hi (by omega) ?_
    have hd1 : d = true := by rw [hd, h1, decide_eq_true (by omega)]; rfl
    rw [hd1] at h2
    simpa using h2
  · exact up_step0 h0
theorem right_fD {xs : List α} {i : Nat} {x y : α} {c d : Bool} (hj : xs[i - 1]? = some y) (hi : xs[i]? = some x) (hc : c = !g x) (hd : d = (!c && decide (0 < (i : Int)))) (h : (c || (d && !r y x)) = true) : rightL n g r xs = false := by
  cases hx : g x with
  | false => exact right_f2 hi hx
  | true =>
    rw [hx] at hc
    subst hc
    simp only [Bool.not_true, Bool.not_false, Bool.true_and] at hd
    subst hd
    simp only [Bool.not_true, Bool.false_or, Bool.and_eq_true, decide_eq_true_eq, Bool.not_eq_true'] at h
    exact right_f3 hj hi (by omega) h.2
-- what it means
theorem right_iff {xs : List α} (ht : ∀ a b c, r a b = true → r b c = true → r a c = true) : rightL n g r xs = true ↔ xs.length ≤ n ∧ (∀ x ∈ xs, g x = true) ∧ xs.Pairwise (fun a b => r a b = true) := by
  have key : ∀ l : List α, upL r l = true ↔ l.Pairwise (fun a b => r a b = true) := by
    intro l
    induction l with
    | nil => simp [upL]
    | cons a l ih =>
      cases l with
      | nil => simp [upL]
      | cons b l =>
        rw [upL, Bool.and_eq_true, ih]
        constructor
        · rintro ⟨h1, h2⟩
          refine List.pairwise_cons.2 ⟨fun x hx => ?_, h2⟩
          rcases List.mem_cons.1 hx with rfl | hx
          · exact h1
          · exact ht _ _ _ h1 ((List.pairwise_cons.1 h2).1 x hx)
        · intro h
          exact ⟨(List.pairwise_cons.1 h).1 b (.head _), (List.pairwise_cons.1 h).2⟩
  unfold rightL
  rw [Bool.and_eq_true, Bool.and_eq_true, decide_eq_true_iff, List.all_eq_true, key]
end
theorem right_len {α : Type} {n : Nat} {g : α → Bool} {r : α → α → Bool} {xs : List α} (h : rightL n g r xs = true) : xs.length ≤ n := by
  unfold rightL at h
  simp only [Bool.and_eq_true, decide_eq_true_eq] at h
  exact h.1
-- the first place
theorem idxX_lt {α : Type} {p : α → Bool} : ∀ (xs : List α) (i : Int), idxX p xs i = -1 ∨ (i ≤ idxX p xs i ∧ idxX p xs i < i + xs.length)
  | [], i => .inl rfl
  | x :: l, i => by
    unfold idxX
    split
    · refine .inr ⟨by omega, by simp; omega⟩
    · rcases idxX_lt l (i + 1) with h | ⟨h1, h2⟩
      · exact .inl h
      · refine .inr ⟨by omega, by simp only [List.length_cons]; omega⟩
theorem idxX_is {α : Type} {p : α → Bool} : ∀ (xs : List α) (i : Int), 0 ≤ i → 0 ≤ idxX p xs i → ∃ k a, idxX p xs i = i + (k : Nat) ∧ xs[k]? = some a ∧ p a = true ∧ ∀ j b, j < k → xs[j]? = some b → p b = false
  | [], i, _, h => by simp [idxX] at h
  | x :: l, i, hi, h => by
    unfold idxX at h ⊢
    cases hx : p x with
    | true =>
      simp only [if_pos]
      exact ⟨0, x, by simp, rfl, hx, fun j b hj => absurd hj (by omega)⟩
    | false =>
      rw [hx] at h
      simp only [Bool.false_eq_true, if_false] at h ⊢
      obtain ⟨k, a, h1, h2, h3, h4⟩ := idxX_is l (i + 1) (by omega) h
      refine ⟨k + 1, a, by rw [h1]; omega, by simpa using h2, h3, fun j b hj hb => ?_⟩
      cases j with
      | zero => simp at hb; subst hb; exact hx
      | succ j => exact h4 j b (by omega) (by simpa using hb)
theorem idxX_no {α : Type} {p : α → Bool} : ∀ (xs : List α) (i : Int), 0 ≤ i → idxX p xs i < 0 → ∀ a ∈ xs, p a = false
  | [], i, _, _, a, ha => by cases ha
  | x :: l, i, hi, h, a, ha => by
    unfold idxX at h
    cases hx : p x with
    | true => rw [hx] at h; simp at h; omega
    | false =>
      rw [hx] at h
      simp only [Bool.false_eq_true, if_false] at h
      rcases List.mem_cons.1 ha with rfl | ha
      · exact hx
      · exact idxX_no l (i + 1) (by omega) h a ha
end Go.Proofs.YthefddclefimoaaGreatDoor
namespace Go.Proofs.YthefddclefimoaaGreatDoor
open Go.RowKit
set_option linter.unusedVariables false
set_option linter.unusedSimpArgs false
set_option maxRecDepth 8000

set_option maxHeartbeats 1000000 in
theorem place1_v (p : BondX) (m x : ByteArray) (u : Value) (w : World) (L : List Nat) (hL : LL L w) (h0 : PtR L w u [.string m, .string x]) : CV Tryz.prog 83 [.agg #[.string p.1.1, .string p.1.2, .string p.2.1, .int .i64 p.2.2], u] w fun v W => v = .bool (!lessA (p.1.1, p.1.2) (m, x)) := by
  refine cv_enter (N := 9) (f := [(0, .agg #[.string p.1.1, .string p.1.2, .string p.2.1, .int .i64 p.2.2]), (1, u)]) Tryz.func83 rfl rfl rfl rfl fun Q hQ hE => ?_
  have hB := Below.refl w.heap.size w
  refine WC.seq fun K1 hK1 => ?_
  refine WC.region ?_
  refine WL.get (dx_box rfl rfl rfl) rfl rfl ?_
  rintro _ W2 ⟨rfl, k3, b4, z5⟩
  have l6 := hB.size
  replace h0 := h0.more b4 (Nat.le_refl _)
  replace hB := below_then hB b4
  replace hL := LL.more hL z5
  refine WL.val (dx_assign rfl rfl) rfl rfl ?_
  refine WL.nil ?_
  refine hK1 ?_
  refine WC.seq fun K7 hK7 => ?_
  refine WC.region ?_
  refine WL.val (dx_fld (o1 := 0) rfl ty_fld_42_0_0 rfl rfl) rfl rfl ?_
  refine WL.val (dx_loadN (cs := [.string p.1.1, .string p.1.2]) rfl ty_agg_40_2 rfl (k3.part 0 2) rfl) rfl rfl ?_
  refine WL.val (dx_loadPN rfl ty_agg_40_2 rfl h0 rfl) rfl rfl ?_
  refine WL.get (dx_cv rfl Tryz.func66 rfl rfl rfl (lessA_v p.1.1 p.1.2 m x W2 [] (LL.nil _))) rfl rfl ?_
  rintro _ W9 ⟨rfl, b8⟩
  replace h0 := h0.below b8
  replace k3 := k3.below b8
  replace hB := below_then hB b8
  replace hL := LL.below hL b8
  refine WL.val (dx_not rfl rfl) rfl rfl ?_
  refine WL.val (dx_assign rfl rfl) rfl rfl ?_
  refine WL.nil ?_
  refine hK7 ?_
  refine WC.ret fun a_ ha_ => ?_
  exact hQ (cv_ret1 rfl (.tmp rfl) rfl hB ha_)

theorem two_mapX {α β : Type} {g : α → β} {l : List α} {x y : β} (h : l.map g = [x, y]) : ∃ a b, l = [a, b] ∧ g a = x ∧ g b = y := by
  match l, h with
  | [a, b], h => simp at h; exact ⟨a, b, rfl, h.1, h.2⟩
section
variable {ops : Array Oper} {o : Oper} {N : Nat} {f : Fl} {w : World}
theorem run_partAd (a b : ByteArray) : (part 9 #[.string a, .string b] 0).run Tryz.prog w = .ok (.string a) w ∧ (part 9 #[.string a, .string b] 1).run Tryz.prog w = .ok (.string b) w := by
  have hagg : (isAgg 9).run Tryz.prog w = .ok false w := by
    unfold isAgg
    rw [Sem.run_bind, run_underlying Tryz.underlying9 w]; rfl
  constructor <;> simp [part, Sem.run_bind, hagg]
theorem fieldsAd : (Tryz.prog.fieldsOf 40).toList.map (fun f => (f.name == "_", f.type, f.offset)) = [(false, 9, 0), (false, 9, 1)] := by kernel_rfl
theorem run_eqAd (a b c d : ByteArray) : (Op.equalIn 10000 40 (.agg #[.string a, .string b]) (.agg #[.string c, .string d])).run Tryz.prog w = .ok (decide (a = c ∧ b = d)) w := by
  rw [show (10000 : Nat) = 9999 + 1 from rfl, run_equalIn_struct w 9999 40 _ _ (by kernel_rfl) (by kernel_rfl)]
  obtain ⟨f0, f1, hfs, h0, h1⟩ := two_mapX fieldsAd
  rw [hfs]
  simp only [Prod.mk.injEq] at h0 h1
  obtain ⟨n0, t0, o0⟩ := h0
  obtain ⟨n1, t1, o1⟩ := h1
  have m0 : f0.name ≠ "_" := by simpa using n0
  have m1 : f1.name ≠ "_" := by simpa using n1
  have e0 := run_equalIn_string (P := Tryz.prog) (w := w) 9998 9 a c Tryz.underlying9
  have e1 := run_equalIn_string (P := Tryz.prog) (w := w) 9998 9 b d Tryz.underlying9
  have k0 : (a.toList == c.toList) = decide (a = c) := str_beq a c
  have k1 : (b.toList == d.toList) = decide (b = d) := str_beq b d
  rw [k0] at e0
  rw [k1] at e1
  simp only [Op.eqFields, if_pos m0, if_pos m1, t0, o0, t1, o1, Sem.run_bind, (run_partAd a b).1, (run_partAd c d).1, Result.andThen_ok]
  rw [show (9999 : Nat) = 9998 + 1 from rfl, e0]
  simp only [Result.andThen_ok]
  by_cases h : a = c
  · have hb : (!decide (a = c)) = false := by simp [h]
    simp only [hb, Bool.false_eq_true, if_false, Sem.run_bind, (run_partAd a b).2, (run_partAd c d).2, Result.andThen_ok]
    rw [e1]
    simp only [Result.andThen_ok]
    by_cases h2 : b = d
    · simp [h2, h]
    · simp [h2, h]
  · have hb : (!decide (a = c)) = true := by simp [h]
    simp only [hb, if_true]
    simp [h]
theorem dx_eqAd {t' : TypeId} {x y : Operand} {a b c d : ByteArray} (ho : o.op = .binOp .eql 40 x y t') (hx : ev f x = some (.agg #[.string a, .string b])) (hy : ev f y = some (.agg #[.string c, .string d])) (hw : wantF ops o f = some true := by rfl) : DV Tryz.prog ops o N f w (.bool (decide (a = c ∧ b = d))) := fun k ha => by
  have hx := ha.ev hx
  have hy := ha.ev hy
  have hg : Tryz.prog.eqGuardType Tryz.prog.depth 40 = false := by kernel_rfl
  have hgd : (eqGuard .eql 40 x y (.agg #[.string a, .string b]) (.agg #[.string c, .string d])).run Tryz.prog w = .ok () w := by
    simp [eqGuard, Sem.run_bind, hg]
  have e1 : binOp .eql 40 (.agg #[.string a, .string b]) (.agg #[.string c, .string d]) = (do pure (.bool (← Op.equal 40 (.agg #[.string a, .string b]) (.agg #[.string c, .string d])))) := rfl
  have e2 : (Op.equal 40 (.agg #[.string a, .string b]) (.agg #[.string c, .string d])).run Tryz.prog w = .ok (decide (a = c ∧ b = d)) w := run_eqAd a b c d
  exact Does.pure (wantF_of ha hw) _ (by unfold execOp; simp only [ho, hx, hy, Sem.run_bind, hgd, Result.andThen_ok, e1, e2, Sem.run_pure]) ⟨rfl, rfl⟩
end
/-- Where an address stands, or would, and whether it does. -/
def geA (m x : ByteArray) (p : BondX) : Bool := !lessA (p.1.1, p.1.2) (m, x)
def placeB (xs : List BondX) (m x : ByteArray) : Int × Bool := if idxX (geA m x) xs 0 < 0 then ((xs.length : Int), false) else (idxX (geA m x) xs 0, match xs[(idxX (geA m x) xs 0).toNat]? with
  | some r => decide (r.1.1 = m ∧ r.1.2 = x)
  | none => false)
set_option maxHeartbeats 1000000 in
theorem place_v (xs : List BondX) (m wh : ByteArray) (sv : Value) (w : World) (L : List Nat) (hL : LL L w) (h1 : RdF 4 L w sv (xs.map encB)) : CV Tryz.prog 59 [sv, .agg #[.string m, .string wh]] w fun v W => v = .tuple #[.int .i64 (placeB xs m wh).1, .bool (placeB xs m wh).2] := by
  refine cv_enter (N := 22) (f := [(0, sv), (1, .agg #[.string m, .string wh])]) Tryz.func59 rfl rfl rfl rfl fun Q hQ hE => ?_
  have hB := Below.refl w.heap.size w
  have h1m : xs.length ≤ maxLen := by have := h1.len; rwa [List.length_map] at this
  unfold maxLen at h1m
  refine WC.seq fun K1 hK1 => ?_
  refine WC.region ?_
  refine WL.get (dx_box rfl rfl rfl) rfl rfl ?_
  rintro _ W2 ⟨rfl, k3, b4, z5⟩
  have l6 := hB.size
  replace h1 := h1.more b4 (Nat.le_refl _)
  replace hB := below_then hB b4
  replace hL := LL.more hL z5
  refine WL.val (dx_assign rfl rfl) rfl rfl ?_
  refine WL.val (dx_assign rfl rfl) rfl rfl ?_
  refine WL.nil ?_
  refine hK1 ?_
  refine WC.seq fun K7 hK7 => ?_
  refine WC.region ?_
  refine WL.val (dx_move rfl rfl) rfl rfl ?_
  refine WL.val (dx_func rfl rfl rfl) rfl rfl ?_
  refine WL.get (dx_cv rfl Tryz.func82 rfl rfl rfl (indexFuncB_v xs (geA m wh) _ _ W2 L (hL.less (fun z hz => .tail _ hz)) (h1.less (fun z hz => .tail _ hz)) (fun W hW p hp => fv_of (cs := [.pointer (some ⟨w.heap.size, 0, none⟩)]) Tryz.func83 rfl rfl (place1_v p m wh _ W [] (LL.nil _) ⟨Nat.succ_pos _, w.heap.size, 0, rfl, by simp, (k3.below hW).range⟩)))) rfl rfl ?_
  rintro _ W9 ⟨rfl, b8⟩
  replace h1 := h1.below b8
  replace k3 := k3.below b8
  replace hB := below_then hB b8
  replace hL := LL.below hL b8
  refine WL.val (dx_assign rfl rfl) rfl rfl ?_
  refine WL.nil ?_
  refine hK7 ?_
  refine WC.seq fun K10 hK10 => ?_
  refine WC.seq fun K11 hK11 => ?_
  refine WC.region ?_
  refine WL.val (dx_move rfl rfl) rfl rfl ?_
  refine WL.val (dx_lss rfl rfl rfl) rfl rfl ?_
  refine WL.nil ?_
  refine hK11 ?_
  refine WC.cond rfl (fun c12 => ?_) (fun c12 => ?_)
  ·
    replace c12 := of_decide_eq_true c12
    refine WC.seq fun K13 hK13 => ?_
    refine WC.region ?_
    refine WL.val (dx_move rfl rfl) rfl rfl ?_
    refine WL.val (dx_lenX rfl ty_slice_38 rfl h1) rfl rfl ?_
    refine WL.val (dx_assign rfl rfl) rfl rfl ?_
    refine WL.val (dx_assign rfl rfl) rfl rfl ?_
    refine WL.nil ?_
    refine hK13 ?_
    refine WC.ret fun a_ ha_ => ?_
    exact hQ (cv_ret2 rfl (.tmp rfl) (.tmp rfl) (by unfold placeB; rw [if_pos (by assumption)]) hB ha_)
  ·
    replace c12 := of_decide_eq_false c12
    refine WC.skip ?_
    refine hK10 ?_
    refine WC.seq fun K14 hK14 => ?_
    have hix := idxX_lt (p := geA m wh) xs 0
    obtain ⟨r15, e16⟩ : ∃ x, xs[(idxX (geA m wh) xs 0).toNat]? = some x := ⟨_, List.getElem?_eq_getElem (by omega)⟩
    refine WC.drawM 9 [(some 14, .is (.int .i64 (idxX (geA m wh) xs 0))), (some 15, .is (sv)), (some 16, .is (.int .i64 (idxX (geA m wh) xs 0))), (some 17, .by fun u W => PtR (w.heap.size :: L) W u (encB r15)), (some 18, .by fun u W => PtR (w.heap.size :: L) W u [.string r15.1.1, .string r15.1.2]), (some 19, .is (.agg #[.string r15.1.1, .string r15.1.2])), (some 20, .is (.agg #[.string m, .string wh])), (some 21, .is (.bool (decide (r15.1.1 = m ∧ r15.1.2 = wh)))), (some 4, .is (.int .i64 (idxX (geA m wh) xs 0)))] [[], [], [], [1, 2], [3], [4], [], [5, 6], [0, 0]] (by kernel_rfl) (by kernel_rfl) (by kernel_rfl) (by kernel_rfl) (by kernel_rfl) (by kernel_rfl) (by kernel_rfl) ⟨fun _ _ _ hb h => h.below hb, fun _ _ _ hb h => h.below hb, trivial⟩ ?_ ?_
    ·
      refine DSteps.cons (fun Wd hd => ?_) ?_
      ·
        exact DV.dr (dx_move rfl rfl) ⟨Below.refl _ _, rfl⟩
      refine DSteps.cons (fun Wd hd => ?_) ?_
      ·
        exact DV.dr (dx_move rfl rfl) ⟨Below.refl _ _, rfl⟩
      refine DSteps.cons (fun Wd hd => ?_) ?_
      ·
        exact DV.dr (dx_move rfl rfl) ⟨Below.refl _ _, rfl⟩
      refine DSteps.cons (fun Wd hd => ?_) ?_
      ·
        have h1 := h1.below hd
        exact (dx_idxF ((idxX (geA m wh) xs 0).toNat) rfl ty_slice_38 rfl rfl h1 (by omega) (at_mapX e16)).mono (fun v W' h => ⟨by rw [← h.1]; exact Below.refl _ _, by rw [← h.1]; exact h.2⟩)
      refine DSteps.cons (fun Wd hd => ?_) ?_
      ·
        intro u4_3 p4_3
        exact (dx_fldP 2 rfl ty_fld_42_0_0 rfl p4_3 (cs' := [.string r15.1.1, .string r15.1.2]) rfl (Nat.succ_pos _)).mono (fun v W' h => ⟨by rw [← h.1]; exact Below.refl _ _, by rw [← h.1]; exact h.2⟩)
      refine DSteps.cons (fun Wd hd => ?_) ?_
      ·
        intro u4_4 p4_4
        exact DV.dr (dx_loadPN rfl ty_agg_40_2 rfl p4_4 rfl) ⟨Below.refl _ _, rfl⟩
      refine DSteps.cons (fun Wd hd => ?_) ?_
      ·
        have k3 := k3.below hd
        exact DV.dr (dx_loadN rfl ty_agg_40_2 rfl k3.range rfl) ⟨Below.refl _ _, rfl⟩
      refine DSteps.cons (fun Wd hd => ?_) ?_
      ·
        exact DV.dr (dx_eqAd rfl rfl rfl) ⟨Below.refl _ _, rfl⟩
      refine DSteps.cons (fun Wd hd => ?_) ?_
      ·
        exact DV.dr (dx_assign rfl rfl) ⟨Below.refl _ _, rfl⟩
      exact trivial
    ·
      intro W17 b18
      intro u4_3 p4_3
      intro u4_4 p4_4
      replace h1 := h1.below b18
      replace k3 := k3.below b18
      replace hB := below_then hB b18
      replace hL := LL.below hL b18
      refine WL.val (dx_assign rfl rfl) rfl rfl ?_
      refine WL.nil ?_
      refine hK14 ?_
      refine WC.ret fun a_ ha_ => ?_
      exact hQ (cv_ret2 rfl (.tmp rfl) (.tmp rfl) (by unfold placeB; rw [if_neg (by assumption), e16]) hB ha_)

end Go.Proofs.YthefddclefimoaaGreatDoor
namespace Go.Proofs.YthefddclefimoaaGreatDoor
open Go.RowKit
set_option linter.unusedVariables false

def digI (c : Int) : Bool := decide (48 ≤ c) && decide (c ≤ 57)
def smlI (c : Int) : Bool := decide (97 ≤ c) && decide (c ≤ 122)
def grtI (c : Int) : Bool := decide (65 ≤ c) && decide (c ≤ 90)
def hostI (c : Int) : Bool := smlI c || grtI c || digI c || c == 46 || c == 45
def userI (c : Int) : Bool := smlI c || digI c || c == 46 || c == 95 || c == 61 || c == 47 || c == 43 || c == 45
def roomI (c : Int) : Bool := smlI c || grtI c || digI c
def signI (c : Int) : Bool := c == 46 || c == 45

/-- From 1 to so many, all of a kind. -/
def madeI (l : List Int) (most : Int) (K : Int → Bool) : Bool := decide (1 ≤ l.length) && (decide ((l.length : Int) ≤ most) && l.all K)
/-- Two points side by side. -/
def dotsI : List Int → Bool
  | [] => false
  | x :: r => (x == 46 && r.head? == some 46) || dotsI r
/-- Neither end is a sign. -/
def edgesI (l : List Int) : Bool := !(l.head?.any signI) && !(l.getLast?.any signI)
def hostL (l : List Int) : Bool := madeI l 230 hostI && (!dotsI l && edgesI l)
/-- The place of the first colon; the length, where there is none. -/
def colI (l : List Int) : Nat := l.findIdx (· == 58)
def serverL (l : List Int) : Bool := (decide (l.length ≤ colI l) || madeI (l.drop (colI l + 1)) 5 digI) && hostL (l.take (colI l))
def namedL (l : List Int) (sigil most : Int) (K : Int → Bool) : Bool :=
  decide (l.length ≤ 255) && (l.head? == some sigil && (madeI ((l.drop 1).take (colI (l.drop 1))) most K && serverL ((l.drop 1).drop (colI (l.drop 1) + 1))))
def userL (l : List Int) : Bool := namedL l 64 200 userI
def roomL (l : List Int) : Bool := namedL l 33 64 roomI

theorem sb_mk (l : List UInt8) : sb ⟨l.toArray⟩ = l.map fun c => (c.toNat : Int) := by simp [sb]
theorem toNat_beq (x c : UInt8) : ((x.toNat : Int) == (c.toNat : Int)) = (x == c) := by
  rw [Bool.eq_iff_iff, beq_iff_eq, beq_iff_eq]
  constructor
  · intro h
    exact UInt8.toNat_inj.1 (by omega)
  · rintro rfl; rfl

/-- Where the first instance of a byte is. -/
theorem index_one (l : List UInt8) (c : UInt8) : Lib.index l [c] = if l.findIdx (· == c) < l.length then (l.findIdx (· == c) : Int) else -1 := by
  induction l with
  | nil => simp [Lib.index]
  | cons b l ih =>
    have e : ([c] : List UInt8).isPrefixOf (b :: l) = (b == c) := by
      simp [List.isPrefixOf]
      exact Bool.beq_comm
    rw [Lib.index, e, ih, List.findIdx_cons]
    cases hb : (b == c)
    · by_cases hlt : l.findIdx (· == c) < l.length
      · rw [if_pos hlt]
        have h1 : ((l.findIdx (· == c) : Nat) : Int) ≠ -1 := by omega
        have h2 : l.findIdx (· == c) + 1 < (b :: l).length := by rw [List.length_cons]; omega
        simp only [Bool.false_eq_true, if_false, beq_iff_eq, h1, if_pos h2, cond_false]
        omega
      · rw [if_neg hlt]
        have h2 : ¬ l.findIdx (· == c) + 1 < (b :: l).length := by rw [List.length_cons]; omega
        simp only [Bool.false_eq_true, if_false, beq_self_eq_true, if_true, if_neg h2, cond_false]
    · simp
theorem findIdx_sb (l : List UInt8) (c : UInt8) : (l.map fun c => (c.toNat : Int)).findIdx (· == (c.toNat : Int)) = l.findIdx (· == c) := by
  induction l with
  | nil => rfl
  | cons b l ih => rw [List.map_cons, List.findIdx_cons, List.findIdx_cons, ih, toNat_beq]
/-- A cut around the first colon. -/
theorem cut_col (s : ByteArray) : sb ⟨(Lib.cut s.data.toList [58]).1.toArray⟩ = (sb s).take (colI (sb s)) ∧ sb ⟨(Lib.cut s.data.toList [58]).2.1.toArray⟩ = (sb s).drop (colI (sb s) + 1) ∧ (Lib.cut s.data.toList [58]).2.2 = decide (colI (sb s) < (sb s).length) := by
  have hc : colI (sb s) = s.data.toList.findIdx (· == 58) := findIdx_sb s.data.toList 58
  have hl : (sb s).length = s.data.toList.length := by simp [sb]
  rw [sb_mk (Lib.cut s.data.toList [58]).1, sb_mk (Lib.cut s.data.toList [58]).2.1, hc, hl, Lib.cut, index_one]
  by_cases hlt : s.data.toList.findIdx (· == 58) < s.data.toList.length
  · rw [if_pos hlt, if_pos (by omega)]
    refine ⟨?_, ?_, ?_⟩
    · simp [sb, List.map_take]
    · simp [sb, List.map_drop]
    · simp only [decide_eq_true hlt]
  · rw [if_neg hlt, if_neg (by omega)]
    refine ⟨?_, ?_, ?_⟩
    · rw [List.take_of_length_le (by rw [hl]; omega)]; simp [sb]
    · rw [List.drop_of_length_le (by rw [hl]; omega)]; rfl
    · simp only [decide_eq_false hlt]
theorem dots_lib (l : List UInt8) : Lib.contains l [46, 46] = dotsI (l.map fun c => (c.toNat : Int)) := by
  rw [Lib.contains]
  induction l with
  | nil => rfl
  | cons b l ih =>
    have hge := Lib.index_ge l [46, 46]
    rw [List.map_cons, dotsI, ← ih, Lib.index]
    have e : ([46, 46] : List UInt8).isPrefixOf (b :: l) = ((b.toNat : Int) == 46 && (l.map fun c => (c.toNat : Int)).head? == some 46) := by
      have h46 : ∀ x : UInt8, (46 == x) = ((x.toNat : Int) == 46) := fun x => by rw [show (46 : Int) = ((46 : UInt8).toNat : Int) from rfl, toNat_beq]; exact Bool.beq_comm
      cases l with
      | nil => simp [List.isPrefixOf]
      | cons d l => simp [List.isPrefixOf, h46]
    rw [← e]
    cases ([46, 46] : List UInt8).isPrefixOf (b :: l)
    · by_cases h : Lib.index l [46, 46] = -1
      · simp [h]
      · have : 0 ≤ Lib.index l [46, 46] + 1 := by omega
        have h0 : 0 ≤ Lib.index l [46, 46] := by omega
        simp [h, this, h0]
    · simp
theorem dropWhile_len {α : Type} (p : α → Bool) (l : List α) : (l.dropWhile p).length ≤ l.length := by
  induction l with
  | nil => simp
  | cons x l ih => rw [List.dropWhile_cons]; split <;> simp <;> omega
theorem dropWhile_same {α : Type} (p : α → Bool) (l : List α) : (l.dropWhile p = l ∧ l.head?.any p = false) ∨ ((l.dropWhile p).length < l.length ∧ l.head?.any p = true) := by
  cases l with
  | nil => left; simp
  | cons x l =>
    rw [List.dropWhile_cons]
    cases h : p x
    · left; simp [h]
    · right
      have := dropWhile_len p l
      simp [h]; omega
theorem sign_cut (c : UInt8) : ([46, 45] : List UInt8).contains c = signI (c.toNat : Int) := by
  have h46 : ∀ x : UInt8, (x == 46) = ((x.toNat : Int) == 46) := fun x => by rw [show (46 : Int) = ((46 : UInt8).toNat : Int) from rfl, toNat_beq]
  have h45 : ∀ x : UInt8, (x == 45) = ((x.toNat : Int) == 45) := fun x => by rw [show (45 : Int) = ((45 : UInt8).toNat : Int) from rfl, toNat_beq]
  simp only [List.contains, List.elem, signI, ← h46, ← h45]
  cases (c == 46) <;> cases (c == 45) <;> rfl
theorem any_sign (o : Option UInt8) : (o.map fun c => (c.toNat : Int)).any signI = o.any fun c => ([46, 45] : List UInt8).contains c := by
  cases o with
  | none => rfl
  | some c => exact (sign_cut c).symm
theorem trimS_edges (l : List UInt8) : (Lib.trimS l [46, 45] = l) ↔ edgesI (l.map fun c => (c.toNat : Int)) = true := by
  have hh : (l.map fun c => (c.toNat : Int)).head?.any signI = l.head?.any fun c => ([46, 45] : List UInt8).contains c := by rw [List.head?_map, any_sign]
  have hg : (l.map fun c => (c.toNat : Int)).getLast?.any signI = l.getLast?.any fun c => ([46, 45] : List UInt8).contains c := by rw [List.getLast?_map, any_sign]
  rw [edgesI, hh, hg]
  have hr := dropWhile_same (fun c => ([46, 45] : List UInt8).contains c) l.reverse
  rw [List.head?_reverse] at hr
  unfold Lib.trimS Lib.trimLeftS Lib.trimRightS
  generalize (fun c => ([46, 45] : List UInt8).contains c) = p at *
  rcases hr with ⟨h1, h2⟩ | ⟨h1, h2⟩
  · rw [h1, List.reverse_reverse, h2]
    rcases dropWhile_same p l with ⟨h3, h4⟩ | ⟨h3, h4⟩
    · rw [h4, h3]; simp
    · rw [h4]
      refine ⟨fun e => ?_, fun e => by cases e⟩
      rw [e] at h3
      omega
  · rw [h2]
    refine ⟨fun e => ?_, fun e => by simp at e⟩
    have := dropWhile_len p (l.reverse.dropWhile p).reverse
    rw [e, List.length_reverse] at this
    rw [List.length_reverse] at h1
    omega
end Go.Proofs.YthefddclefimoaaGreatDoor
namespace Go.Proofs
open Go.Shelf
def Tryz.lays231_ren : Go.Shelf.Ren := ⟨fun | 231 => 148 | n => n, fun | 9 => 9 | 5 => 5 | 3 => 3 | 4 => 4 | n => n, fun | n => n⟩
theorem Tryz.lays231 : Go.Proofs.Lays.n231 Tryz.prog Tryz.lays231_ren := {
  mixed := by kernel_rfl
  f231 := Tryz.func148.trans (congrArg some (by kernel_rfl))
  t3 := Tryz.underlying3
  a3 := Tryz.isAgg3
  z3 := Tryz.sizeOf3
  v3 := Tryz.zeroValue3
  t4 := Tryz.underlying4
  a4 := Tryz.isAgg4
  z4 := Tryz.sizeOf4
  v4 := Tryz.zeroValue4
  t5 := Tryz.underlying5
  a5 := Tryz.isAgg5
  z5 := Tryz.sizeOf5
  v5 := Tryz.zeroValue5
  t9 := Tryz.underlying9
  a9 := Tryz.isAgg9
  z9 := Tryz.sizeOf9
  v9 := Tryz.zeroValue9 }
open Go.RowKit in
/-- strings.trimLeftByte (no doc; what TrimLeft and Trim call at a cutset of one ASCII byte): the leading bytes that are c are cut off. The world is as it was. (LAID: no walk: one application.) -/
theorem Tryz.strings_trimLeftByte (s : ByteArray) (c : UInt8) (w : World) :
    Calls Tryz.prog 148 #[.string s, .int .u8 c.toNat] w fun e w' => e = .returned (.string ⟨(Lib.trimLeftB s.data.toList c).toArray⟩) ∧ w' = w := Any.strings_trimLeftByte Tryz.lays231 s c w
def Tryz.lays232_ren : Go.Shelf.Ren := ⟨fun | 232 => 149 | n => n, fun | 9 => 9 | 5 => 5 | 3 => 3 | 4 => 4 | n => n, fun | n => n⟩
theorem Tryz.lays232 : Go.Proofs.Lays.n232 Tryz.prog Tryz.lays232_ren := {
  mixed := by kernel_rfl
  f232 := Tryz.func149.trans (congrArg some (by kernel_rfl))
  t3 := Tryz.underlying3
  a3 := Tryz.isAgg3
  z3 := Tryz.sizeOf3
  v3 := Tryz.zeroValue3
  t4 := Tryz.underlying4
  a4 := Tryz.isAgg4
  z4 := Tryz.sizeOf4
  v4 := Tryz.zeroValue4
  t5 := Tryz.underlying5
  a5 := Tryz.isAgg5
  z5 := Tryz.sizeOf5
  v5 := Tryz.zeroValue5
  t9 := Tryz.underlying9
  a9 := Tryz.isAgg9
  z9 := Tryz.sizeOf9
  v9 := Tryz.zeroValue9 }
open Go.RowKit in
/-- strings.trimRightByte (no doc; what TrimRight and Trim call at a cutset of one ASCII byte): the trailing bytes that are c are cut off. The world is as it was. ('hs': a string's length is a number that an int holds.) (LAID: no walk: one application.) -/
theorem Tryz.strings_trimRightByte (s : ByteArray) (c : UInt8) (w : World) (hs : s.size ≤ 9223372036854775807) :
    Calls Tryz.prog 149 #[.string s, .int .u8 c.toNat] w fun e w' => e = .returned (.string ⟨(Lib.trimRightB s.data.toList c).toArray⟩) ∧ w' = w := Any.strings_trimRightByte Tryz.lays232 s c w hs
def Tryz.lays160_ren : Go.Shelf.Ren := ⟨fun | 160 => 129 | 232 => 149 | 231 => 148 | 227 => 150 | 234 => 152 | 233 => 151 | 236 => 154 | 235 => 153 | 228 => 159 | 271 => 162 | 151 => 161 | 197 => 160 | 120 => 166 | 152 => 165 | 260 => 164 | 137 => 92 | 119 => 167 | 224 => 144 | 225 => 143 | 217 => 112 | 266 => 130 | n => n, fun | 9 => 9 | 4 => 4 | 3 => 3 | 5 => 5 | 117 => 145 | 116 => 144 | 0 => 0 | 124 => 148 | 21 => 21 | 105 => 152 | 46 => 90 | 119 => 156 | 139 => 159 | 138 => 158 | n => n, fun | 3 => 1 | 4 => 2 | n => n⟩
theorem Tryz.lays160 : Go.Proofs.Lays.n160 Tryz.prog Tryz.lays160_ren := {
  mixed := by kernel_rfl
  f119 := Tryz.func167.trans (congrArg some (by kernel_rfl))
  f120 := Tryz.func166.trans (congrArg some (by kernel_rfl))
  f137 := Tryz.func92.trans (congrArg some (by kernel_rfl))
  f151 := Tryz.func161.trans (congrArg some (by kernel_rfl))
  f152 := Tryz.func165.trans (congrArg some (by kernel_rfl))
  f160 := Tryz.func129.trans (congrArg some (by kernel_rfl))
  f197 := Tryz.func160.trans (congrArg some (by kernel_rfl))
  f217 := Tryz.func112.trans (congrArg some (by kernel_rfl))
  f224 := Tryz.func144.trans (congrArg some (by kernel_rfl))
  f225 := Tryz.func143.trans (congrArg some (by kernel_rfl))
  f227 := Tryz.func150.trans (congrArg some (by kernel_rfl))
  f228 := Tryz.func159.trans (congrArg some (by kernel_rfl))
  f231 := Tryz.func148.trans (congrArg some (by kernel_rfl))
  f232 := Tryz.func149.trans (congrArg some (by kernel_rfl))
  f233 := Tryz.func151.trans (congrArg some (by kernel_rfl))
  f234 := Tryz.func152.trans (congrArg some (by kernel_rfl))
  f235 := Tryz.func153.trans (congrArg some (by kernel_rfl))
  f236 := Tryz.func154.trans (congrArg some (by kernel_rfl))
  f260 := Tryz.func164.trans (congrArg some (by kernel_rfl))
  f266 := Tryz.func130.trans (congrArg some (by kernel_rfl))
  f271 := Tryz.func162.trans (congrArg some (by kernel_rfl))
  t0 := Tryz.underlying0
  a0 := Tryz.isAgg0
  z0 := Tryz.sizeOf0
  v0 := Tryz.zeroValue0
  t3 := Tryz.underlying3
  a3 := Tryz.isAgg3
  z3 := Tryz.sizeOf3
  v3 := Tryz.zeroValue3
  t4 := Tryz.underlying4
  a4 := Tryz.isAgg4
  z4 := Tryz.sizeOf4
  v4 := Tryz.zeroValue4
  t5 := Tryz.underlying5
  a5 := Tryz.isAgg5
  z5 := Tryz.sizeOf5
  v5 := Tryz.zeroValue5
  t9 := Tryz.underlying9
  a9 := Tryz.isAgg9
  z9 := Tryz.sizeOf9
  v9 := Tryz.zeroValue9
  t21 := Tryz.underlying21
  a21 := Tryz.isAgg21
  z21 := Tryz.sizeOf21
  v21 := Tryz.zeroValue21
  t46 := Tryz.underlying90
  a46 := Tryz.isAgg90
  z46 := Tryz.sizeOf90
  v46 := Tryz.zeroValue90
  t105 := Tryz.underlying152
  a105 := Tryz.isAgg152
  z105 := Tryz.sizeOf152
  v105 := Tryz.zeroValue152
  t116 := Tryz.underlying144
  a116 := Tryz.isAgg144
  z116 := Tryz.sizeOf144
  t117 := Tryz.underlying145
  a117 := Tryz.isAgg145
  z117 := Tryz.sizeOf145
  v117 := Tryz.zeroValue145
  t119 := Tryz.underlying156
  a119 := Tryz.isAgg156
  z119 := Tryz.sizeOf156
  t124 := Tryz.underlying148
  a124 := Tryz.isAgg148
  z124 := Tryz.sizeOf148
  v124 := Tryz.zeroValue148
  t138 := Tryz.underlying158
  a138 := Tryz.isAgg158
  z138 := Tryz.sizeOf158
  v138 := Tryz.zeroValue158
  t139 := Tryz.underlying159
  a139 := Tryz.isAgg159
  z139 := Tryz.sizeOf159
  v139 := Tryz.zeroValue159
  g3 := by kernel_rfl
  g4 := by kernel_rfl }
open Go.RowKit in
/-- strings.Trim: "Trim returns a slice of the string s with all leading and trailing Unicode code points contained in cutset removed.": AT A cutset OF ONE ASCII BYTE. THE WORLD BEHIND IT: as it was, or (where s is not empty) with ONE DRAW MORE off the tape: the statement 'return trimLeftByte(trimRightByte(s, c), c)' draws its order of evaluation. (LAID: no walk: one application.) -/
theorem Tryz.strings_Trim_one (s : ByteArray) (c : UInt8) (hc : c.toNat < 128) (w : World) (hs : s.size ≤ 9223372036854775807) :
    Calls Tryz.prog 129 #[.string s, .string ⟨#[c]⟩] w fun e w' => e = .returned (.string ⟨(Lib.trimB s.data.toList c).toArray⟩) ∧ (w' = w ∨ w' = w.drew) := Any.strings_Trim_one Tryz.lays160 s c hc w hs
def Tryz.lays119_ren : Go.Shelf.Ren := ⟨fun | 119 => 167 | n => n, fun | 21 => 21 | 4 => 4 | n => n, fun | n => n⟩
theorem Tryz.lays119 : Go.Proofs.Lays.n119 Tryz.prog Tryz.lays119_ren := {
  mixed := by kernel_rfl
  f119 := Tryz.func167.trans (congrArg some (by kernel_rfl))
  t4 := Tryz.underlying4
  a4 := Tryz.isAgg4
  z4 := Tryz.sizeOf4
  v4 := Tryz.zeroValue4
  t21 := Tryz.underlying21
  a21 := Tryz.isAgg21
  z21 := Tryz.sizeOf21
  v21 := Tryz.zeroValue21 }
/-- utf8.ValidRune: "ValidRune reports whether r can be legally encoded as UTF-8. Code points that are out of range or a surrogate half are illegal.": IT RETURNS 'Lib.validRune r'; the world is as it was. (LAID: no walk: one application.) -/
theorem Tryz.utf8_ValidRune (r : Int) (w : World) :
    Calls Tryz.prog 167 #[.int .i32 r] w fun e w' => e = .returned (.bool (Lib.validRune r)) ∧ w' = w := Any.utf8_ValidRune Tryz.lays119 r w
def Tryz.lays120_ren : Go.Shelf.Ren := ⟨fun | 120 => 166 | n => n, fun | 5 => 5 | 4 => 4 | n => n, fun | n => n⟩
theorem Tryz.lays120 : Go.Proofs.Lays.n120 Tryz.prog Tryz.lays120_ren := {
  mixed := by kernel_rfl
  f120 := Tryz.func166.trans (congrArg some (by kernel_rfl))
  t4 := Tryz.underlying4
  a4 := Tryz.isAgg4
  z4 := Tryz.sizeOf4
  v4 := Tryz.zeroValue4
  t5 := Tryz.underlying5
  a5 := Tryz.isAgg5
  z5 := Tryz.sizeOf5
  v5 := Tryz.zeroValue5 }
/-- utf8.RuneStart: "RuneStart reports whether the byte could be the first byte of an encoded, possibly invalid rune. Second and subsequent bytes always have the top two bits set to 10.": IT RETURNS 'Lib.runeStart b'; the world is as it was. ('h0', 'h1': b is a byte: a caller has it of every byte that it was handed.) (LAID: no walk: one application.) -/
theorem Tryz.utf8_RuneStart (b : Int) (w : World) (h0 : 0 ≤ b) (h1 : b < 256) :
    Calls Tryz.prog 166 #[.int .u8 b] w fun e w' => e = .returned (.bool (Lib.runeStart b)) ∧ w' = w := Any.utf8_RuneStart Tryz.lays120 b w h0 h1
def Tryz.lays128_ren : Go.Shelf.Ren := ⟨fun | 128 => 105 | n => n, fun | 51 => 110 | 3 => 3 | 4 => 4 | 46 => 90 | 5 => 5 | 9 => 9 | n => n, fun | n => n⟩
theorem Tryz.lays128 : Go.Proofs.Lays.n128 Tryz.prog Tryz.lays128_ren := {
  mixed := by kernel_rfl
  f128 := Tryz.func105.trans (congrArg some (by kernel_rfl))
  t3 := Tryz.underlying3
  a3 := Tryz.isAgg3
  z3 := Tryz.sizeOf3
  v3 := Tryz.zeroValue3
  t4 := Tryz.underlying4
  a4 := Tryz.isAgg4
  z4 := Tryz.sizeOf4
  v4 := Tryz.zeroValue4
  t5 := Tryz.underlying5
  a5 := Tryz.isAgg5
  z5 := Tryz.sizeOf5
  v5 := Tryz.zeroValue5
  t9 := Tryz.underlying9
  a9 := Tryz.isAgg9
  z9 := Tryz.sizeOf9
  v9 := Tryz.zeroValue9
  t46 := Tryz.underlying90
  a46 := Tryz.isAgg90
  z46 := Tryz.sizeOf90
  v46 := Tryz.zeroValue90
  t51 := Tryz.underlying110
  a51 := Tryz.isAgg110
  z51 := Tryz.sizeOf110
  v51 := Tryz.zeroValue110 }
/-- bits.Len32: "Len32 returns the minimum number of bits required to represent x; the result is 0 for x == 0.": IT RETURNS 'Lib.bitLen x'; the world is as it was. ('h0', 'h1': x is a uint32.) (LAID: no walk: one application.) -/
theorem Tryz.bits_Len32 (x : Int) (w : World) (h0 : 0 ≤ x) (h1 : x ≤ 4294967295) :
    Calls Tryz.prog 105 #[.int .u32 x] w fun e w' => e = .returned (.int .i64 (Lib.bitLen x.toNat)) ∧ w' = w := Any.bits_Len32 Tryz.lays128 x w h0 h1
def Tryz.lays125_ren : Go.Shelf.Ren := ⟨fun | 125 => 77 | 128 => 105 | 129 => 106 | n => n, fun | 46 => 90 | 3 => 3 | 51 => 110 | 53 => 112 | 4 => 4 | 5 => 5 | 9 => 9 | n => n, fun | n => n⟩
theorem Tryz.lays125 : Go.Proofs.Lays.n125 Tryz.prog Tryz.lays125_ren := {
  mixed := by kernel_rfl
  f125 := Tryz.func77.trans (congrArg some (by kernel_rfl))
  f128 := Tryz.func105.trans (congrArg some (by kernel_rfl))
  f129 := Tryz.func106.trans (congrArg some (by kernel_rfl))
  t3 := Tryz.underlying3
  a3 := Tryz.isAgg3
  z3 := Tryz.sizeOf3
  v3 := Tryz.zeroValue3
  t4 := Tryz.underlying4
  a4 := Tryz.isAgg4
  z4 := Tryz.sizeOf4
  v4 := Tryz.zeroValue4
  t5 := Tryz.underlying5
  a5 := Tryz.isAgg5
  z5 := Tryz.sizeOf5
  v5 := Tryz.zeroValue5
  t9 := Tryz.underlying9
  a9 := Tryz.isAgg9
  z9 := Tryz.sizeOf9
  v9 := Tryz.zeroValue9
  t46 := Tryz.underlying90
  a46 := Tryz.isAgg90
  z46 := Tryz.sizeOf90
  v46 := Tryz.zeroValue90
  t51 := Tryz.underlying110
  a51 := Tryz.isAgg110
  z51 := Tryz.sizeOf110
  v51 := Tryz.zeroValue110
  t53 := Tryz.underlying112
  a53 := Tryz.isAgg112
  z53 := Tryz.sizeOf112
  v53 := Tryz.zeroValue112 }
/-- bits.Len: "Len returns the minimum number of bits required to represent x; the result is 0 for x == 0.": IT RETURNS 'Lib.bitLen x'; the world is as it was. (A uint has 64 bits in the model.) ITS CALLEE bits.Len64 IS MET BY ITS OWN CONTRACT OFF THE SHELF (lay that first). (LAID: no walk: one application.) -/
theorem Tryz.bits_Len (x : Int) (w : World) (h0 : 0 ≤ x) (h1 : x ≤ 18446744073709551615) :
    Calls Tryz.prog 77 #[.int .u64 x] w fun e w' => e = .returned (.int .i64 (Lib.bitLen x.toNat)) ∧ w' = w := Any.bits_Len Tryz.lays125 x w h0 h1
def Tryz.lays137_ren : Go.Shelf.Ren := ⟨fun | 137 => 92 | 217 => 112 | 266 => 130 | n => n, fun | 9 => 9 | 5 => 5 | 3 => 3 | n => n, fun | n => n⟩
theorem Tryz.lays137 : Go.Proofs.Lays.n137 Tryz.prog Tryz.lays137_ren := {
  mixed := by kernel_rfl
  f137 := Tryz.func92.trans (congrArg some (by kernel_rfl))
  f217 := Tryz.func112.trans (congrArg some (by kernel_rfl))
  f266 := Tryz.func130.trans (congrArg some (by kernel_rfl))
  t3 := Tryz.underlying3
  a3 := Tryz.isAgg3
  z3 := Tryz.sizeOf3
  v3 := Tryz.zeroValue3
  t5 := Tryz.underlying5
  a5 := Tryz.isAgg5
  z5 := Tryz.sizeOf5
  v5 := Tryz.zeroValue5
  t9 := Tryz.underlying9
  a9 := Tryz.isAgg9
  z9 := Tryz.sizeOf9
  v9 := Tryz.zeroValue9 }
open Go.RowKit in
/-- strings.IndexByte: "IndexByte returns the index of the first instance of c in s, or -1 if c is not present in s.": IT RETURNS 'Lib.indexByte s c'; the world is as it was. (LAID: no walk: one application.) -/
theorem Tryz.strings_IndexByte (s : ByteArray) (c : Int) (w : World) :
    Calls Tryz.prog 92 #[.string s, .int .u8 c] w fun e w' => e = .returned (.int .i64 (Lib.indexByte s.data.toList c.toNat.toUInt8)) ∧ w' = w := Any.strings_IndexByte Tryz.lays137 s c w
def Tryz.lays129_ren : Go.Shelf.Ren := ⟨fun | 129 => 106 | n => n, fun | 53 => 112 | 3 => 3 | 4 => 4 | 46 => 90 | 5 => 5 | 9 => 9 | n => n, fun | n => n⟩
theorem Tryz.lays129 : Go.Proofs.Lays.n129 Tryz.prog Tryz.lays129_ren := {
  mixed := by kernel_rfl
  f129 := Tryz.func106.trans (congrArg some (by kernel_rfl))
  t3 := Tryz.underlying3
  a3 := Tryz.isAgg3
  z3 := Tryz.sizeOf3
  v3 := Tryz.zeroValue3
  t4 := Tryz.underlying4
  a4 := Tryz.isAgg4
  z4 := Tryz.sizeOf4
  v4 := Tryz.zeroValue4
  t5 := Tryz.underlying5
  a5 := Tryz.isAgg5
  z5 := Tryz.sizeOf5
  v5 := Tryz.zeroValue5
  t9 := Tryz.underlying9
  a9 := Tryz.isAgg9
  z9 := Tryz.sizeOf9
  v9 := Tryz.zeroValue9
  t46 := Tryz.underlying90
  a46 := Tryz.isAgg90
  z46 := Tryz.sizeOf90
  v46 := Tryz.zeroValue90
  t53 := Tryz.underlying112
  a53 := Tryz.isAgg112
  z53 := Tryz.sizeOf112
  v53 := Tryz.zeroValue112 }
/-- bits.Len64: "Len64 returns the minimum number of bits required to represent x; the result is 0 for x == 0.": IT RETURNS 'Lib.bitLen x'; the world is as it was. ('h0', 'h1': x is a uint64.) (LAID: no walk: one application.) -/
theorem Tryz.bits_Len64 (x : Int) (w : World) (h0 : 0 ≤ x) (h1 : x ≤ 18446744073709551615) :
    Calls Tryz.prog 106 #[.int .u64 x] w fun e w' => e = .returned (.int .i64 (Lib.bitLen x.toNat)) ∧ w' = w := Any.bits_Len64 Tryz.lays129 x w h0 h1
def Tryz.lays217_ren : Go.Shelf.Ren := ⟨fun | 217 => 112 | 266 => 130 | n => n, fun | 9 => 9 | 5 => 5 | 3 => 3 | n => n, fun | n => n⟩
theorem Tryz.lays217 : Go.Proofs.Lays.n217 Tryz.prog Tryz.lays217_ren := {
  mixed := by kernel_rfl
  f217 := Tryz.func112.trans (congrArg some (by kernel_rfl))
  f266 := Tryz.func130.trans (congrArg some (by kernel_rfl))
  t3 := Tryz.underlying3
  a3 := Tryz.isAgg3
  z3 := Tryz.sizeOf3
  v3 := Tryz.zeroValue3
  t5 := Tryz.underlying5
  a5 := Tryz.isAgg5
  z5 := Tryz.sizeOf5
  v5 := Tryz.zeroValue5
  t9 := Tryz.underlying9
  a9 := Tryz.isAgg9
  z9 := Tryz.sizeOf9
  v9 := Tryz.zeroValue9 }
open Go.RowKit Go.Lib in
/-- internal/stringslite.IndexByte (what strings.IndexByte calls): IT RETURNS 'Lib.indexByte s c'; the world is as it was. (LAID: no walk: one application.) -/
theorem Tryz.stringslite_IndexByte (s : ByteArray) (c : Int) (w : World) :
    Calls Tryz.prog 112 #[.string s, .int .u8 c] w fun e w' => e = .returned (.int .i64 (Lib.indexByte s.data.toList c.toNat.toUInt8)) ∧ w' = w := Any.stringslite_IndexByte Tryz.lays217 s c w
def Tryz.lays224_ren : Go.Shelf.Ren := ⟨fun | 224 => 144 | n => n, fun | 3 => 3 | n => n, fun | n => n⟩
theorem Tryz.lays224 : Go.Proofs.Lays.n224 Tryz.prog Tryz.lays224_ren := {
  mixed := by kernel_rfl
  f224 := Tryz.func144.trans (congrArg some (by kernel_rfl))
  t3 := Tryz.underlying3
  a3 := Tryz.isAgg3
  z3 := Tryz.sizeOf3
  v3 := Tryz.zeroValue3 }
open Go.RowKit Go.Lib in
/-- internal/bytealg.Cutover: "Cutover reports the number of failures of IndexByte we should tolerate before switching over to Index. n is the number of bytes processed so far.": on amd64: (n + 16) / 8. (LAID: no walk: one application.) -/
theorem Tryz.bytealg_Cutover (n : Int) (h0 : 0 ≤ n) (h1 : n < 4611686018427387904) (w : World) :
    Calls Tryz.prog 144 #[.int .i64 n] w fun e w' => e = .returned (.int .i64 ((n + 16) / 8)) ∧ w' = w := Any.bytealg_Cutover Tryz.lays224 n h0 h1 w
def Tryz.lays314_ren : Go.Shelf.Ren := ⟨fun | 314 => 158 | n => n, fun | 9 => 9 | 51 => 110 | 3 => 3 | 4 => 4 | 5 => 5 | 46 => 90 | n => n, fun | n => n⟩
theorem Tryz.lays314 : Go.Proofs.Lays.n314 Tryz.prog Tryz.lays314_ren := {
  mixed := by kernel_rfl
  f314 := Tryz.func158.trans (congrArg some (by kernel_rfl))
  t3 := Tryz.underlying3
  a3 := Tryz.isAgg3
  z3 := Tryz.sizeOf3
  v3 := Tryz.zeroValue3
  t4 := Tryz.underlying4
  a4 := Tryz.isAgg4
  z4 := Tryz.sizeOf4
  v4 := Tryz.zeroValue4
  t5 := Tryz.underlying5
  a5 := Tryz.isAgg5
  z5 := Tryz.sizeOf5
  v5 := Tryz.zeroValue5
  t9 := Tryz.underlying9
  a9 := Tryz.isAgg9
  z9 := Tryz.sizeOf9
  v9 := Tryz.zeroValue9
  t46 := Tryz.underlying90
  a46 := Tryz.isAgg90
  z46 := Tryz.sizeOf90
  v46 := Tryz.zeroValue90
  t51 := Tryz.underlying110
  a51 := Tryz.isAgg110
  z51 := Tryz.sizeOf110
  v51 := Tryz.zeroValue110 }
open Go.RowKit Go.Lib in
/-- hashStr: "returns the hash and the appropriate multiplicative factor for use in Rabin-Karp algorithm": THE HASH OF ALL OF sep, AND 16777619 ^ len(sep), both in uint32. (LAID: no walk: one application.) -/
theorem Tryz.bytealg_hashStr (sep : ByteArray) (hs : sep.size < 4294967281) (w : World) :
    Calls Tryz.prog 158 #[.string sep] w fun e w' => e = .returned (.tuple #[.int .u32 (RK.H sep.data.toList % 4294967296), .int .u32 (16777619 ^ sep.size % 4294967296)]) ∧ w' = w := Any.bytealg_hashStr Tryz.lays314 sep hs w
def Tryz.lays267_ren : Go.Shelf.Ren := ⟨fun | 267 => 145 | 314 => 158 | n => n, fun | 9 => 9 | 3 => 3 | 146 => 150 | 51 => 110 | 4 => 4 | 5 => 5 | 46 => 90 | n => n, fun | n => n⟩
theorem Tryz.lays267 : Go.Proofs.Lays.n267 Tryz.prog Tryz.lays267_ren := {
  mixed := by kernel_rfl
  f267 := Tryz.func145.trans (congrArg some (by kernel_rfl))
  f314 := Tryz.func158.trans (congrArg some (by kernel_rfl))
  t3 := Tryz.underlying3
  a3 := Tryz.isAgg3
  z3 := Tryz.sizeOf3
  v3 := Tryz.zeroValue3
  t4 := Tryz.underlying4
  a4 := Tryz.isAgg4
  z4 := Tryz.sizeOf4
  v4 := Tryz.zeroValue4
  t5 := Tryz.underlying5
  a5 := Tryz.isAgg5
  z5 := Tryz.sizeOf5
  v5 := Tryz.zeroValue5
  t9 := Tryz.underlying9
  a9 := Tryz.isAgg9
  z9 := Tryz.sizeOf9
  v9 := Tryz.zeroValue9
  t46 := Tryz.underlying90
  a46 := Tryz.isAgg90
  z46 := Tryz.sizeOf90
  v46 := Tryz.zeroValue90
  t51 := Tryz.underlying110
  a51 := Tryz.isAgg110
  z51 := Tryz.sizeOf110
  v51 := Tryz.zeroValue110
  t146 := Tryz.underlying150
  a146 := Tryz.isAgg150
  z146 := Tryz.sizeOf150
  v146 := Tryz.zeroValue150 }
open Go.RowKit Go.Lib in
theorem Tryz.bytealg_IndexRabinKarp (s sep : ByteArray) (h1 : 1 ≤ sep.size) (h2 : sep.size ≤ s.size) (hs : s.size < 4294967281) (w : World) :
    Calls Tryz.prog 145 #[.string s, .string sep] w fun e w' => e = .returned (.int .i64 (Lib.index s.data.toList sep.data.toList)) ∧ w' = w := Any.bytealg_IndexRabinKarp Tryz.lays267 s sep h1 h2 hs w
def Tryz.lays219_ren : Go.Shelf.Ren := ⟨fun | 219 => 126 | 217 => 112 | 225 => 143 | 224 => 144 | 267 => 145 | 266 => 130 | 314 => 158 | n => n, fun | 9 => 9 | 3 => 3 | 4 => 4 | 5 => 5 | 46 => 90 | 146 => 150 | 51 => 110 | n => n, fun | 1 => 0 | n => n⟩
theorem Tryz.lays219 : Go.Proofs.Lays.n219 Tryz.prog Tryz.lays219_ren := {
  mixed := by kernel_rfl
  f217 := Tryz.func112.trans (congrArg some (by kernel_rfl))
  f219 := Tryz.func126.trans (congrArg some (by kernel_rfl))
  f224 := Tryz.func144.trans (congrArg some (by kernel_rfl))
  f225 := Tryz.func143.trans (congrArg some (by kernel_rfl))
  f266 := Tryz.func130.trans (congrArg some (by kernel_rfl))
  f267 := Tryz.func145.trans (congrArg some (by kernel_rfl))
  f314 := Tryz.func158.trans (congrArg some (by kernel_rfl))
  t3 := Tryz.underlying3
  a3 := Tryz.isAgg3
  z3 := Tryz.sizeOf3
  v3 := Tryz.zeroValue3
  t4 := Tryz.underlying4
  a4 := Tryz.isAgg4
  z4 := Tryz.sizeOf4
  v4 := Tryz.zeroValue4
  t5 := Tryz.underlying5
  a5 := Tryz.isAgg5
  z5 := Tryz.sizeOf5
  v5 := Tryz.zeroValue5
  t9 := Tryz.underlying9
  a9 := Tryz.isAgg9
  z9 := Tryz.sizeOf9
  v9 := Tryz.zeroValue9
  t46 := Tryz.underlying90
  a46 := Tryz.isAgg90
  z46 := Tryz.sizeOf90
  v46 := Tryz.zeroValue90
  t51 := Tryz.underlying110
  a51 := Tryz.isAgg110
  z51 := Tryz.sizeOf110
  v51 := Tryz.zeroValue110
  t146 := Tryz.underlying150
  a146 := Tryz.isAgg150
  z146 := Tryz.sizeOf150
  v146 := Tryz.zeroValue150
  g1 := by kernel_rfl }
open Go.RowKit Go.Lib in
/-- internal/stringslite.Index (what strings.Index calls) AT A substr OF ONE BYTE c: IT RETURNS 'Lib.indexByte s c'; the world is as it was. (LAID: no walk: one application.) -/
theorem Tryz.stringslite_Index_one (s : ByteArray) (c : UInt8) (w : World) :
    Calls Tryz.prog 126 #[.string s, .string ⟨#[c]⟩] w fun e w' => e = .returned (.int .i64 (Lib.indexByte s.data.toList c)) ∧ w' = w := Any.stringslite_Index_one Tryz.lays219 s c w
open Go.RowKit Go.Lib in
/-- internal/stringslite.Index (what strings.Index calls) AT A substr OF WHATEVER LENGTH: IT RETURNS 'Lib.index s substr'; the world is as it was. 'm': what internal/bytealg.MaxLen holds: whatever. (LAID: no walk: one application.) -/
theorem Tryz.stringslite_Index (s sub : ByteArray) (m : Int) (w : World) (hs : s.size < 4294967281) (hm : w.cell? ⟨0, 0, none⟩ = some (.int .i64 m)) :
    Calls Tryz.prog 126 #[.string s, .string sub] w fun e w' => e = .returned (.int .i64 (Lib.index s.data.toList sub.data.toList)) ∧ w' = w := Any.stringslite_Index Tryz.lays219 s sub m w hs hm
def Tryz.lays143_ren : Go.Shelf.Ren := ⟨fun | 143 => 147 | 219 => 126 | 217 => 112 | 225 => 143 | 224 => 144 | 267 => 145 | 266 => 130 | 314 => 158 | n => n, fun | 9 => 9 | 3 => 3 | 4 => 4 | 5 => 5 | 46 => 90 | 146 => 150 | 51 => 110 | n => n, fun | 1 => 0 | n => n⟩
theorem Tryz.lays143 : Go.Proofs.Lays.n143 Tryz.prog Tryz.lays143_ren := {
  mixed := by kernel_rfl
  f143 := Tryz.func147.trans (congrArg some (by kernel_rfl))
  f217 := Tryz.func112.trans (congrArg some (by kernel_rfl))
  f219 := Tryz.func126.trans (congrArg some (by kernel_rfl))
  f224 := Tryz.func144.trans (congrArg some (by kernel_rfl))
  f225 := Tryz.func143.trans (congrArg some (by kernel_rfl))
  f266 := Tryz.func130.trans (congrArg some (by kernel_rfl))
  f267 := Tryz.func145.trans (congrArg some (by kernel_rfl))
  f314 := Tryz.func158.trans (congrArg some (by kernel_rfl))
  t3 := Tryz.underlying3
  a3 := Tryz.isAgg3
  z3 := Tryz.sizeOf3
  v3 := Tryz.zeroValue3
  t4 := Tryz.underlying4
  a4 := Tryz.isAgg4
  z4 := Tryz.sizeOf4
  v4 := Tryz.zeroValue4
  t5 := Tryz.underlying5
  a5 := Tryz.isAgg5
  z5 := Tryz.sizeOf5
  v5 := Tryz.zeroValue5
  t9 := Tryz.underlying9
  a9 := Tryz.isAgg9
  z9 := Tryz.sizeOf9
  v9 := Tryz.zeroValue9
  t46 := Tryz.underlying90
  a46 := Tryz.isAgg90
  z46 := Tryz.sizeOf90
  v46 := Tryz.zeroValue90
  t51 := Tryz.underlying110
  a51 := Tryz.isAgg110
  z51 := Tryz.sizeOf110
  v51 := Tryz.zeroValue110
  t146 := Tryz.underlying150
  a146 := Tryz.isAgg150
  z146 := Tryz.sizeOf150
  v146 := Tryz.zeroValue150
  g1 := by kernel_rfl }
open Go.RowKit Go.Lib in
/-- strings.Index: "Index returns the index of the first instance of substr in s, or -1 if substr is not present in s.": AT A substr OF ONE BYTE c: IT RETURNS 'Lib.indexByte s c'; the world is as it was. (LAID: no walk: one application.) -/
theorem Tryz.strings_Index_one (s : ByteArray) (c : UInt8) (w : World) :
    Calls Tryz.prog 147 #[.string s, .string ⟨#[c]⟩] w fun e w' => e = .returned (.int .i64 (Lib.indexByte s.data.toList c)) ∧ w' = w := Any.strings_Index_one Tryz.lays143 s c w
open Go.RowKit Go.Lib in
/-- strings.Index: "Index returns the index of the first instance of substr in s, or -1 if substr is not present in s.": IT RETURNS 'Lib.index s substr'; the world is as it was. (LAID: no walk: one application.) -/
theorem Tryz.strings_Index (s sub : ByteArray) (m : Int) (w : World) (hs : s.size < 4294967281) (hm : w.cell? ⟨0, 0, none⟩ = some (.int .i64 m)) :
    Calls Tryz.prog 147 #[.string s, .string sub] w fun e w' => e = .returned (.int .i64 (Lib.index s.data.toList sub.data.toList)) ∧ w' = w := Any.strings_Index Tryz.lays143 s sub m w hs hm
def Tryz.lays144_ren : Go.Shelf.Ren := ⟨fun | 144 => 128 | 143 => 147 | 219 => 126 | 217 => 112 | 225 => 143 | 224 => 144 | 267 => 145 | 266 => 130 | 314 => 158 | n => n, fun | 9 => 9 | 4 => 4 | 3 => 3 | 5 => 5 | 46 => 90 | 146 => 150 | 51 => 110 | n => n, fun | 1 => 0 | n => n⟩
theorem Tryz.lays144 : Go.Proofs.Lays.n144 Tryz.prog Tryz.lays144_ren := {
  mixed := by kernel_rfl
  f143 := Tryz.func147.trans (congrArg some (by kernel_rfl))
  f144 := Tryz.func128.trans (congrArg some (by kernel_rfl))
  f217 := Tryz.func112.trans (congrArg some (by kernel_rfl))
  f219 := Tryz.func126.trans (congrArg some (by kernel_rfl))
  f224 := Tryz.func144.trans (congrArg some (by kernel_rfl))
  f225 := Tryz.func143.trans (congrArg some (by kernel_rfl))
  f266 := Tryz.func130.trans (congrArg some (by kernel_rfl))
  f267 := Tryz.func145.trans (congrArg some (by kernel_rfl))
  f314 := Tryz.func158.trans (congrArg some (by kernel_rfl))
  t3 := Tryz.underlying3
  a3 := Tryz.isAgg3
  z3 := Tryz.sizeOf3
  v3 := Tryz.zeroValue3
  t4 := Tryz.underlying4
  a4 := Tryz.isAgg4
  z4 := Tryz.sizeOf4
  v4 := Tryz.zeroValue4
  t5 := Tryz.underlying5
  a5 := Tryz.isAgg5
  z5 := Tryz.sizeOf5
  v5 := Tryz.zeroValue5
  t9 := Tryz.underlying9
  a9 := Tryz.isAgg9
  z9 := Tryz.sizeOf9
  v9 := Tryz.zeroValue9
  t46 := Tryz.underlying90
  a46 := Tryz.isAgg90
  z46 := Tryz.sizeOf90
  v46 := Tryz.zeroValue90
  t51 := Tryz.underlying110
  a51 := Tryz.isAgg110
  z51 := Tryz.sizeOf110
  v51 := Tryz.zeroValue110
  t146 := Tryz.underlying150
  a146 := Tryz.isAgg150
  z146 := Tryz.sizeOf150
  v146 := Tryz.zeroValue150
  g1 := by kernel_rfl }
open Go.RowKit Go.Lib in
/-- strings.Contains: "Contains reports whether substr is within s.": AT A substr OF ONE BYTE c: IT RETURNS 'decide (0 ≤ Lib.indexByte s c)'; the world is as it was. (LAID: no walk: one application.) -/
theorem Tryz.strings_Contains_one (s : ByteArray) (c : UInt8) (w : World) :
    Calls Tryz.prog 128 #[.string s, .string ⟨#[c]⟩] w fun e w' => e = .returned (.bool (decide (0 ≤ Lib.indexByte s.data.toList c))) ∧ w' = w := Any.strings_Contains_one Tryz.lays144 s c w
open Go.RowKit Go.Lib in
/-- strings.Contains: "Contains reports whether substr is within s.": IT RETURNS 'Lib.contains s substr'; the world is as it was. (LAID: no walk: one application.) -/
theorem Tryz.strings_Contains (s sub : ByteArray) (m : Int) (w : World) (hs : s.size < 4294967281) (hm : w.cell? ⟨0, 0, none⟩ = some (.int .i64 m)) :
    Calls Tryz.prog 128 #[.string s, .string sub] w fun e w' => e = .returned (.bool (Lib.contains s.data.toList sub.data.toList)) ∧ w' = w := Any.strings_Contains Tryz.lays144 s sub m w hs hm
def Tryz.lays220_ren : Go.Shelf.Ren := ⟨fun | 220 => 110 | 219 => 126 | 217 => 112 | 225 => 143 | 224 => 144 | 267 => 145 | 266 => 130 | 314 => 158 | n => n, fun | 9 => 9 | 4 => 4 | 3 => 3 | 5 => 5 | 46 => 90 | 146 => 150 | 51 => 110 | n => n, fun | 1 => 0 | n => n⟩
theorem Tryz.lays220 : Go.Proofs.Lays.n220 Tryz.prog Tryz.lays220_ren := {
  mixed := by kernel_rfl
  f217 := Tryz.func112.trans (congrArg some (by kernel_rfl))
  f219 := Tryz.func126.trans (congrArg some (by kernel_rfl))
  f220 := Tryz.func110.trans (congrArg some (by kernel_rfl))
  f224 := Tryz.func144.trans (congrArg some (by kernel_rfl))
  f225 := Tryz.func143.trans (congrArg some (by kernel_rfl))
  f266 := Tryz.func130.trans (congrArg some (by kernel_rfl))
  f267 := Tryz.func145.trans (congrArg some (by kernel_rfl))
  f314 := Tryz.func158.trans (congrArg some (by kernel_rfl))
  t3 := Tryz.underlying3
  a3 := Tryz.isAgg3
  z3 := Tryz.sizeOf3
  v3 := Tryz.zeroValue3
  t4 := Tryz.underlying4
  a4 := Tryz.isAgg4
  z4 := Tryz.sizeOf4
  v4 := Tryz.zeroValue4
  t5 := Tryz.underlying5
  a5 := Tryz.isAgg5
  z5 := Tryz.sizeOf5
  v5 := Tryz.zeroValue5
  t9 := Tryz.underlying9
  a9 := Tryz.isAgg9
  z9 := Tryz.sizeOf9
  v9 := Tryz.zeroValue9
  t46 := Tryz.underlying90
  a46 := Tryz.isAgg90
  z46 := Tryz.sizeOf90
  v46 := Tryz.zeroValue90
  t51 := Tryz.underlying110
  a51 := Tryz.isAgg110
  z51 := Tryz.sizeOf110
  v51 := Tryz.zeroValue110
  t146 := Tryz.underlying150
  a146 := Tryz.isAgg150
  z146 := Tryz.sizeOf150
  v146 := Tryz.zeroValue150
  g1 := by kernel_rfl }
open Go.RowKit Go.Lib in
/-- internal/stringslite.Cut (what strings.Cut calls): IT RETURNS 'Lib.cut s sep'; the world is as it was but for the count of draws. (LAID: no walk: one application.) -/
theorem Tryz.stringslite_Cut (s sep : ByteArray) (m : Int) (w : World) (hs : s.size < 4294967281) (hm : w.cell? ⟨0, 0, none⟩ = some (.int .i64 m)) :
    Calls Tryz.prog 110 #[.string s, .string sep] w fun e w' => e = .returned (.tuple #[.string ⟨(Lib.cut s.data.toList sep.data.toList).1.toArray⟩, .string ⟨(Lib.cut s.data.toList sep.data.toList).2.1.toArray⟩, .bool (Lib.cut s.data.toList sep.data.toList).2.2]) ∧ ∃ n, w' = w.drewN n := Any.stringslite_Cut Tryz.lays220 s sep m w hs hm
def Tryz.lays145_ren : Go.Shelf.Ren := ⟨fun | 145 => 87 | 220 => 110 | 219 => 126 | 217 => 112 | 225 => 143 | 224 => 144 | 267 => 145 | 266 => 130 | 314 => 158 | n => n, fun | 9 => 9 | 4 => 4 | 59 => 84 | 3 => 3 | 5 => 5 | 46 => 90 | 146 => 150 | 51 => 110 | n => n, fun | 1 => 0 | n => n⟩
theorem Tryz.lays145 : Go.Proofs.Lays.n145 Tryz.prog Tryz.lays145_ren := {
  mixed := by kernel_rfl
  f145 := Tryz.func87.trans (congrArg some (by kernel_rfl))
  f217 := Tryz.func112.trans (congrArg some (by kernel_rfl))
  f219 := Tryz.func126.trans (congrArg some (by kernel_rfl))
  f220 := Tryz.func110.trans (congrArg some (by kernel_rfl))
  f224 := Tryz.func144.trans (congrArg some (by kernel_rfl))
  f225 := Tryz.func143.trans (congrArg some (by kernel_rfl))
  f266 := Tryz.func130.trans (congrArg some (by kernel_rfl))
  f267 := Tryz.func145.trans (congrArg some (by kernel_rfl))
  f314 := Tryz.func158.trans (congrArg some (by kernel_rfl))
  t3 := Tryz.underlying3
  a3 := Tryz.isAgg3
  z3 := Tryz.sizeOf3
  v3 := Tryz.zeroValue3
  t4 := Tryz.underlying4
  a4 := Tryz.isAgg4
  z4 := Tryz.sizeOf4
  v4 := Tryz.zeroValue4
  t5 := Tryz.underlying5
  a5 := Tryz.isAgg5
  z5 := Tryz.sizeOf5
  v5 := Tryz.zeroValue5
  t9 := Tryz.underlying9
  a9 := Tryz.isAgg9
  z9 := Tryz.sizeOf9
  v9 := Tryz.zeroValue9
  t46 := Tryz.underlying90
  a46 := Tryz.isAgg90
  z46 := Tryz.sizeOf90
  v46 := Tryz.zeroValue90
  t51 := Tryz.underlying110
  a51 := Tryz.isAgg110
  z51 := Tryz.sizeOf110
  v51 := Tryz.zeroValue110
  t59 := Tryz.underlying84
  a59 := Tryz.isAgg84
  z59 := Tryz.sizeOf84
  v59 := Tryz.zeroValue84
  t146 := Tryz.underlying150
  a146 := Tryz.isAgg150
  z146 := Tryz.sizeOf150
  v146 := Tryz.zeroValue150
  g1 := by kernel_rfl }
open Go.RowKit Go.Lib in
/-- strings.Cut: "Cut slices s around the first instance of sep, returning the text before and after sep. The found result reports whether sep appears in s. If sep does not appear in s, cut returns s, "", false.": IT RETURNS 'Lib.cut s sep'; the world is as it was but for the count of draws. (LAID: no walk: one application.) -/
theorem Tryz.strings_Cut (s sep : ByteArray) (m : Int) (w : World) (hs : s.size < 4294967281) (hm : w.cell? ⟨0, 0, none⟩ = some (.int .i64 m)) :
    Calls Tryz.prog 87 #[.string s, .string sep] w fun e w' => e = .returned (.tuple #[.string ⟨(Lib.cut s.data.toList sep.data.toList).1.toArray⟩, .string ⟨(Lib.cut s.data.toList sep.data.toList).2.1.toArray⟩, .bool (Lib.cut s.data.toList sep.data.toList).2.2]) ∧ ∃ n, w' = w.drewN n := Any.strings_Cut Tryz.lays145 s sep m w hs hm
def Tryz.laysM219_ren : Go.Shelf.Ren := ⟨fun | 219 => 126 | 217 => 112 | 225 => 143 | 224 => 144 | 267 => 145 | 266 => 130 | 314 => 158 | n => n, fun | 9 => 9 | 3 => 3 | 4 => 4 | 5 => 5 | 46 => 90 | 146 => 150 | 51 => 110 | n => n, fun | 1 => 0 | n => n⟩
theorem Tryz.laysM219 : Go.Proofs.LaysM.n219 Tryz.prog Tryz.laysM219_ren := {
  mixed := by kernel_rfl
  f217 := Tryz.func112.trans (congrArg some (by kernel_rfl))
  f219 := Tryz.func126.trans (congrArg some (by kernel_rfl))
  f224 := Tryz.func144.trans (congrArg some (by kernel_rfl))
  f225 := Tryz.func143.trans (congrArg some (by kernel_rfl))
  f266 := Tryz.func130.trans (congrArg some (by kernel_rfl))
  f267 := Tryz.func145.trans (congrArg some (by kernel_rfl))
  f314 := Tryz.func158.trans (congrArg some (by kernel_rfl))
  t3 := Tryz.underlying3
  a3 := Tryz.isAgg3
  z3 := Tryz.sizeOf3
  v3 := Tryz.zeroValue3
  t4 := Tryz.underlying4
  a4 := Tryz.isAgg4
  z4 := Tryz.sizeOf4
  v4 := Tryz.zeroValue4
  t5 := Tryz.underlying5
  a5 := Tryz.isAgg5
  z5 := Tryz.sizeOf5
  v5 := Tryz.zeroValue5
  t9 := Tryz.underlying9
  a9 := Tryz.isAgg9
  z9 := Tryz.sizeOf9
  v9 := Tryz.zeroValue9
  t46 := Tryz.underlying90
  a46 := Tryz.isAgg90
  z46 := Tryz.sizeOf90
  v46 := Tryz.zeroValue90
  t51 := Tryz.underlying110
  a51 := Tryz.isAgg110
  z51 := Tryz.sizeOf110
  v51 := Tryz.zeroValue110
  t146 := Tryz.underlying150
  a146 := Tryz.isAgg150
  z146 := Tryz.sizeOf150
  v146 := Tryz.zeroValue150
  g1 := by kernel_rfl
  i3 := by kernel_rfl
  i4 := by kernel_rfl
  i5 := by kernel_rfl
  i9 := by kernel_rfl
  i46 := by kernel_rfl
  i51 := by kernel_rfl
  i146 := by kernel_rfl
  m1 := by kernel_rfl
  s1_3 := fun w h => Go.Proofs.cell_of_shapedOpen_int (zero := #[.int .i64 0]) (t := 3) h (of_decide_eq_true (by kernel_rfl)) (by kernel_rfl) rfl (by kernel_rfl) (by kernel_rfl) Tryz.underlying3 }
open Go.RowKit Go.Lib in
theorem Tryz.stringslite_Index_shaped (s sub : ByteArray) (w : World) (h : w.ShapedOpen Tryz.prog) (hs : s.size < 4294967281) :
    Calls Tryz.prog 126 #[.string s, .string sub] w fun e w' => e = .returned (.int .i64 (Lib.index s.data.toList sub.data.toList)) ∧ w' = w := Any.stringslite_Index_shaped Tryz.laysM219 s sub w h hs
def Tryz.laysM143_ren : Go.Shelf.Ren := ⟨fun | 143 => 147 | 219 => 126 | 217 => 112 | 225 => 143 | 224 => 144 | 267 => 145 | 266 => 130 | 314 => 158 | n => n, fun | 9 => 9 | 3 => 3 | 4 => 4 | 5 => 5 | 46 => 90 | 146 => 150 | 51 => 110 | n => n, fun | 1 => 0 | n => n⟩
theorem Tryz.laysM143 : Go.Proofs.LaysM.n143 Tryz.prog Tryz.laysM143_ren := {
  mixed := by kernel_rfl
  f143 := Tryz.func147.trans (congrArg some (by kernel_rfl))
  f217 := Tryz.func112.trans (congrArg some (by kernel_rfl))
  f219 := Tryz.func126.trans (congrArg some (by kernel_rfl))
  f224 := Tryz.func144.trans (congrArg some (by kernel_rfl))
  f225 := Tryz.func143.trans (congrArg some (by kernel_rfl))
  f266 := Tryz.func130.trans (congrArg some (by kernel_rfl))
  f267 := Tryz.func145.trans (congrArg some (by kernel_rfl))
  f314 := Tryz.func158.trans (congrArg some (by kernel_rfl))
  t3 := Tryz.underlying3
  a3 := Tryz.isAgg3
  z3 := Tryz.sizeOf3
  v3 := Tryz.zeroValue3
  t4 := Tryz.underlying4
  a4 := Tryz.isAgg4
  z4 := Tryz.sizeOf4
  v4 := Tryz.zeroValue4
  t5 := Tryz.underlying5
  a5 := Tryz.isAgg5
  z5 := Tryz.sizeOf5
  v5 := Tryz.zeroValue5
  t9 := Tryz.underlying9
  a9 := Tryz.isAgg9
  z9 := Tryz.sizeOf9
  v9 := Tryz.zeroValue9
  t46 := Tryz.underlying90
  a46 := Tryz.isAgg90
  z46 := Tryz.sizeOf90
  v46 := Tryz.zeroValue90
  t51 := Tryz.underlying110
  a51 := Tryz.isAgg110
  z51 := Tryz.sizeOf110
  v51 := Tryz.zeroValue110
  t146 := Tryz.underlying150
  a146 := Tryz.isAgg150
  z146 := Tryz.sizeOf150
  v146 := Tryz.zeroValue150
  g1 := by kernel_rfl
  i3 := by kernel_rfl
  i4 := by kernel_rfl
  i5 := by kernel_rfl
  i9 := by kernel_rfl
  i46 := by kernel_rfl
  i51 := by kernel_rfl
  i146 := by kernel_rfl
  m1 := by kernel_rfl
  s1_3 := fun w h => Go.Proofs.cell_of_shapedOpen_int (zero := #[.int .i64 0]) (t := 3) h (of_decide_eq_true (by kernel_rfl)) (by kernel_rfl) rfl (by kernel_rfl) (by kernel_rfl) Tryz.underlying3 }
open Go.RowKit Go.Lib in
theorem Tryz.strings_Index_shaped (s sub : ByteArray) (w : World) (h : w.ShapedOpen Tryz.prog) (hs : s.size < 4294967281) :
    Calls Tryz.prog 147 #[.string s, .string sub] w fun e w' => e = .returned (.int .i64 (Lib.index s.data.toList sub.data.toList)) ∧ w' = w := Any.strings_Index_shaped Tryz.laysM143 s sub w h hs
def Tryz.laysM144_ren : Go.Shelf.Ren := ⟨fun | 144 => 128 | 143 => 147 | 219 => 126 | 217 => 112 | 225 => 143 | 224 => 144 | 267 => 145 | 266 => 130 | 314 => 158 | n => n, fun | 9 => 9 | 4 => 4 | 3 => 3 | 5 => 5 | 46 => 90 | 146 => 150 | 51 => 110 | n => n, fun | 1 => 0 | n => n⟩
theorem Tryz.laysM144 : Go.Proofs.LaysM.n144 Tryz.prog Tryz.laysM144_ren := {
  mixed := by kernel_rfl
  f143 := Tryz.func147.trans (congrArg some (by kernel_rfl))
  f144 := Tryz.func128.trans (congrArg some (by kernel_rfl))
  f217 := Tryz.func112.trans (congrArg some (by kernel_rfl))
  f219 := Tryz.func126.trans (congrArg some (by kernel_rfl))
  f224 := Tryz.func144.trans (congrArg some (by kernel_rfl))
  f225 := Tryz.func143.trans (congrArg some (by kernel_rfl))
  f266 := Tryz.func130.trans (congrArg some (by kernel_rfl))
  f267 := Tryz.func145.trans (congrArg some (by kernel_rfl))
  f314 := Tryz.func158.trans (congrArg some (by kernel_rfl))
  t3 := Tryz.underlying3
  a3 := Tryz.isAgg3
  z3 := Tryz.sizeOf3
  v3 := Tryz.zeroValue3
  t4 := Tryz.underlying4
  a4 := Tryz.isAgg4
  z4 := Tryz.sizeOf4
  v4 := Tryz.zeroValue4
  t5 := Tryz.underlying5
  a5 := Tryz.isAgg5
  z5 := Tryz.sizeOf5
  v5 := Tryz.zeroValue5
  t9 := Tryz.underlying9
  a9 := Tryz.isAgg9
  z9 := Tryz.sizeOf9
  v9 := Tryz.zeroValue9
  t46 := Tryz.underlying90
  a46 := Tryz.isAgg90
  z46 := Tryz.sizeOf90
  v46 := Tryz.zeroValue90
  t51 := Tryz.underlying110
  a51 := Tryz.isAgg110
  z51 := Tryz.sizeOf110
  v51 := Tryz.zeroValue110
  t146 := Tryz.underlying150
  a146 := Tryz.isAgg150
  z146 := Tryz.sizeOf150
  v146 := Tryz.zeroValue150
  g1 := by kernel_rfl
  i3 := by kernel_rfl
  i4 := by kernel_rfl
  i5 := by kernel_rfl
  i9 := by kernel_rfl
  i46 := by kernel_rfl
  i51 := by kernel_rfl
  i146 := by kernel_rfl
  m1 := by kernel_rfl
  s1_3 := fun w h => Go.Proofs.cell_of_shapedOpen_int (zero := #[.int .i64 0]) (t := 3) h (of_decide_eq_true (by kernel_rfl)) (by kernel_rfl) rfl (by kernel_rfl) (by kernel_rfl) Tryz.underlying3 }
open Go.RowKit Go.Lib in
theorem Tryz.strings_Contains_shaped (s sub : ByteArray) (w : World) (h : w.ShapedOpen Tryz.prog) (hs : s.size < 4294967281) :
    Calls Tryz.prog 128 #[.string s, .string sub] w fun e w' => e = .returned (.bool (Lib.contains s.data.toList sub.data.toList)) ∧ w' = w := Any.strings_Contains_shaped Tryz.laysM144 s sub w h hs
def Tryz.laysM220_ren : Go.Shelf.Ren := ⟨fun | 220 => 110 | 219 => 126 | 217 => 112 | 225 => 143 | 224 => 144 | 267 => 145 | 266 => 130 | 314 => 158 | n => n, fun | 9 => 9 | 4 => 4 | 3 => 3 | 5 => 5 | 46 => 90 | 146 => 150 | 51 => 110 | n => n, fun | 1 => 0 | n => n⟩
theorem Tryz.laysM220 : Go.Proofs.LaysM.n220 Tryz.prog Tryz.laysM220_ren := {
  mixed := by kernel_rfl
  f217 := Tryz.func112.trans (congrArg some (by kernel_rfl))
  f219 := Tryz.func126.trans (congrArg some (by kernel_rfl))
  f220 := Tryz.func110.trans (congrArg some (by kernel_rfl))
  f224 := Tryz.func144.trans (congrArg some (by kernel_rfl))
  f225 := Tryz.func143.trans (congrArg some (by kernel_rfl))
  f266 := Tryz.func130.trans (congrArg some (by kernel_rfl))
  f267 := Tryz.func145.trans (congrArg some (by kernel_rfl))
  f314 := Tryz.func158.trans (congrArg some (by kernel_rfl))
  t3 := Tryz.underlying3
  a3 := Tryz.isAgg3
  z3 := Tryz.sizeOf3
  v3 := Tryz.zeroValue3
  t4 := Tryz.underlying4
  a4 := Tryz.isAgg4
  z4 := Tryz.sizeOf4
  v4 := Tryz.zeroValue4
  t5 := Tryz.underlying5
  a5 := Tryz.isAgg5
  z5 := Tryz.sizeOf5
  v5 := Tryz.zeroValue5
  t9 := Tryz.underlying9
  a9 := Tryz.isAgg9
  z9 := Tryz.sizeOf9
  v9 := Tryz.zeroValue9
  t46 := Tryz.underlying90
  a46 := Tryz.isAgg90
  z46 := Tryz.sizeOf90
  v46 := Tryz.zeroValue90
  t51 := Tryz.underlying110
  a51 := Tryz.isAgg110
  z51 := Tryz.sizeOf110
  v51 := Tryz.zeroValue110
  t146 := Tryz.underlying150
  a146 := Tryz.isAgg150
  z146 := Tryz.sizeOf150
  v146 := Tryz.zeroValue150
  g1 := by kernel_rfl
  i3 := by kernel_rfl
  i4 := by kernel_rfl
  i5 := by kernel_rfl
  i9 := by kernel_rfl
  i46 := by kernel_rfl
  i51 := by kernel_rfl
  i146 := by kernel_rfl
  m1 := by kernel_rfl
  s1_3 := fun w h => Go.Proofs.cell_of_shapedOpen_int (zero := #[.int .i64 0]) (t := 3) h (of_decide_eq_true (by kernel_rfl)) (by kernel_rfl) rfl (by kernel_rfl) (by kernel_rfl) Tryz.underlying3 }
open Go.RowKit Go.Lib in
theorem Tryz.stringslite_Cut_shaped (s sep : ByteArray) (w : World) (h : w.ShapedOpen Tryz.prog) (hs : s.size < 4294967281) :
    Calls Tryz.prog 110 #[.string s, .string sep] w fun e w' => e = .returned (.tuple #[.string ⟨(Lib.cut s.data.toList sep.data.toList).1.toArray⟩, .string ⟨(Lib.cut s.data.toList sep.data.toList).2.1.toArray⟩, .bool (Lib.cut s.data.toList sep.data.toList).2.2]) ∧ ∃ n, w' = w.drewN n := Any.stringslite_Cut_shaped Tryz.laysM220 s sep w h hs
def Tryz.laysM145_ren : Go.Shelf.Ren := ⟨fun | 145 => 87 | 220 => 110 | 219 => 126 | 217 => 112 | 225 => 143 | 224 => 144 | 267 => 145 | 266 => 130 | 314 => 158 | n => n, fun | 9 => 9 | 4 => 4 | 59 => 84 | 3 => 3 | 5 => 5 | 46 => 90 | 146 => 150 | 51 => 110 | n => n, fun | 1 => 0 | n => n⟩
theorem Tryz.laysM145 : Go.Proofs.LaysM.n145 Tryz.prog Tryz.laysM145_ren := {
  mixed := by kernel_rfl
  f145 := Tryz.func87.trans (congrArg some (by kernel_rfl))
  f217 := Tryz.func112.trans (congrArg some (by kernel_rfl))
  f219 := Tryz.func126.trans (congrArg some (by kernel_rfl))
  f220 := Tryz.func110.trans (congrArg some (by kernel_rfl))
  f224 := Tryz.func144.trans (congrArg some (by kernel_rfl))
  f225 := Tryz.func143.trans (congrArg some (by kernel_rfl))
  f266 := Tryz.func130.trans (congrArg some (by kernel_rfl))
  f267 := Tryz.func145.trans (congrArg some (by kernel_rfl))
  f314 := Tryz.func158.trans (congrArg some (by kernel_rfl))
  t3 := Tryz.underlying3
  a3 := Tryz.isAgg3
  z3 := Tryz.sizeOf3
  v3 := Tryz.zeroValue3
  t4 := Tryz.underlying4
  a4 := Tryz.isAgg4
  z4 := Tryz.sizeOf4
  v4 := Tryz.zeroValue4
  t5 := Tryz.underlying5
  a5 := Tryz.isAgg5
  z5 := Tryz.sizeOf5
  v5 := Tryz.zeroValue5
  t9 := Tryz.underlying9
  a9 := Tryz.isAgg9
  z9 := Tryz.sizeOf9
  v9 := Tryz.zeroValue9
  t46 := Tryz.underlying90
  a46 := Tryz.isAgg90
  z46 := Tryz.sizeOf90
  v46 := Tryz.zeroValue90
  t51 := Tryz.underlying110
  a51 := Tryz.isAgg110
  z51 := Tryz.sizeOf110
  v51 := Tryz.zeroValue110
  t59 := Tryz.underlying84
  a59 := Tryz.isAgg84
  z59 := Tryz.sizeOf84
  v59 := Tryz.zeroValue84
  t146 := Tryz.underlying150
  a146 := Tryz.isAgg150
  z146 := Tryz.sizeOf150
  v146 := Tryz.zeroValue150
  g1 := by kernel_rfl
  i3 := by kernel_rfl
  i4 := by kernel_rfl
  i5 := by kernel_rfl
  i9 := by kernel_rfl
  i46 := by kernel_rfl
  i51 := by kernel_rfl
  i59 := by kernel_rfl
  i146 := by kernel_rfl
  m1 := by kernel_rfl
  s1_3 := fun w h => Go.Proofs.cell_of_shapedOpen_int (zero := #[.int .i64 0]) (t := 3) h (of_decide_eq_true (by kernel_rfl)) (by kernel_rfl) rfl (by kernel_rfl) (by kernel_rfl) Tryz.underlying3 }
open Go.RowKit Go.Lib in
theorem Tryz.strings_Cut_shaped (s sep : ByteArray) (w : World) (h : w.ShapedOpen Tryz.prog) (hs : s.size < 4294967281) :
    Calls Tryz.prog 87 #[.string s, .string sep] w fun e w' => e = .returned (.tuple #[.string ⟨(Lib.cut s.data.toList sep.data.toList).1.toArray⟩, .string ⟨(Lib.cut s.data.toList sep.data.toList).2.1.toArray⟩, .bool (Lib.cut s.data.toList sep.data.toList).2.2]) ∧ ∃ n, w' = w.drewN n := Any.strings_Cut_shaped Tryz.laysM145 s sep w h hs
def Tryz.lays190_ren : Go.Shelf.Ren := ⟨fun | 190 => 51 | 125 => 77 | 258 => 76 | 128 => 105 | 129 => 106 | 302 => 96 | 303 => 97 | 304 => 98 | 305 => 99 | 306 => 100 | 307 => 101 | 308 => 102 | 309 => 103 | 310 => 104 | 333 => 115 | 329 => 116 | 330 => 117 | 334 => 118 | 335 => 119 | 336 => 120 | 344 => 132 | n => n, fun | 31 => 34 | 9 => 9 | 3 => 3 | 46 => 90 | 0 => 0 | 51 => 110 | 53 => 112 | 4 => 4 | 183 => 103 | 182 => 102 | 131 => 74 | 5 => 5 | 218 => 116 | 222 => 120 | 228 => 127 | 229 => 128 | n => n, fun | n => n⟩
theorem Tryz.lays190 : Go.Proofs.Lays.n190 Tryz.prog Tryz.lays190_ren := {
  mixed := by kernel_rfl
  f125 := Tryz.func77.trans (congrArg some (by kernel_rfl))
  f128 := Tryz.func105.trans (congrArg some (by kernel_rfl))
  f129 := Tryz.func106.trans (congrArg some (by kernel_rfl))
  f190 := Tryz.func51.trans (congrArg some (by kernel_rfl))
  f258 := Tryz.func76.trans (congrArg some (by kernel_rfl))
  f302 := Tryz.func96.trans (congrArg some (by kernel_rfl))
  f303 := Tryz.func97.trans (congrArg some (by kernel_rfl))
  f304 := Tryz.func98.trans (congrArg some (by kernel_rfl))
  f305 := Tryz.func99.trans (congrArg some (by kernel_rfl))
  f306 := Tryz.func100.trans (congrArg some (by kernel_rfl))
  f307 := Tryz.func101.trans (congrArg some (by kernel_rfl))
  f308 := Tryz.func102.trans (congrArg some (by kernel_rfl))
  f309 := Tryz.func103.trans (congrArg some (by kernel_rfl))
  f310 := Tryz.func104.trans (congrArg some (by kernel_rfl))
  f329 := Tryz.func116.trans (congrArg some (by kernel_rfl))
  f330 := Tryz.func117.trans (congrArg some (by kernel_rfl))
  f333 := Tryz.func115.trans (congrArg some (by kernel_rfl))
  f334 := Tryz.func118.trans (congrArg some (by kernel_rfl))
  f335 := Tryz.func119.trans (congrArg some (by kernel_rfl))
  f336 := Tryz.func120.trans (congrArg some (by kernel_rfl))
  f344 := Tryz.func132.trans (congrArg some (by kernel_rfl))
  t0 := Tryz.underlying0
  a0 := Tryz.isAgg0
  z0 := Tryz.sizeOf0
  v0 := Tryz.zeroValue0
  t3 := Tryz.underlying3
  a3 := Tryz.isAgg3
  z3 := Tryz.sizeOf3
  v3 := Tryz.zeroValue3
  t4 := Tryz.underlying4
  a4 := Tryz.isAgg4
  z4 := Tryz.sizeOf4
  v4 := Tryz.zeroValue4
  t5 := Tryz.underlying5
  a5 := Tryz.isAgg5
  z5 := Tryz.sizeOf5
  v5 := Tryz.zeroValue5
  t9 := Tryz.underlying9
  a9 := Tryz.isAgg9
  z9 := Tryz.sizeOf9
  v9 := Tryz.zeroValue9
  t31 := Tryz.underlying34
  a31 := Tryz.isAgg34
  z31 := Tryz.sizeOf34
  v31 := Tryz.zeroValue34
  t46 := Tryz.underlying90
  a46 := Tryz.isAgg90
  z46 := Tryz.sizeOf90
  v46 := Tryz.zeroValue90
  t51 := Tryz.underlying110
  a51 := Tryz.isAgg110
  z51 := Tryz.sizeOf110
  v51 := Tryz.zeroValue110
  t53 := Tryz.underlying112
  a53 := Tryz.isAgg112
  z53 := Tryz.sizeOf112
  v53 := Tryz.zeroValue112
  t131 := Tryz.underlying74
  a131 := Tryz.isAgg74
  z131 := Tryz.sizeOf74
  v131 := Tryz.zeroValue74
  t182 := Tryz.underlying102
  a182 := Tryz.isAgg102
  z182 := Tryz.sizeOf102
  v182 := Tryz.zeroValue102
  t183 := Tryz.underlying103
  a183 := Tryz.isAgg103
  z183 := Tryz.sizeOf103
  v183 := Tryz.zeroValue103
  t218 := Tryz.underlying116
  a218 := Tryz.isAgg116
  z218 := Tryz.sizeOf116
  v218 := Tryz.zeroValue116
  t222 := Tryz.underlying120
  a222 := Tryz.isAgg120
  z222 := Tryz.sizeOf120
  v222 := Tryz.zeroValue120
  t228 := Tryz.underlying127
  a228 := Tryz.isAgg127
  z228 := Tryz.sizeOf127
  v228 := Tryz.zeroValue127
  t229 := Tryz.underlying128
  a229 := Tryz.isAgg128
  z229 := Tryz.sizeOf128
  v229 := Tryz.zeroValue128 }
open Go.Sort Go.RowKit in
theorem Tryz.slices_Sort_string (blk off cap : Nat) (ss : List (List UInt8)) (w : World) (hH : Holds encStr w blk off ss.toArray) (hblk : blk < w.heap.size) (hsz : ss.length < 4611686018427387904) :
    Calls Tryz.prog 51 #[.slice (some ⟨blk, off, none⟩) ss.length cap] w fun e w' =>
      e = .returned (.tuple #[]) ∧ ∃ n os, w' = grow (putRow encStr (Sort.ahead w n) blk off (ss.mergeSort fun x y => decide (x ≤ y)).toArray) os := Any.slices_Sort_string Tryz.lays190 blk off cap ss w hH hblk hsz
def Tryz.lays206_ren : Go.Shelf.Ren := ⟨fun | 206 => 163 | n => n, fun | 9 => 9 | 4 => 4 | 3 => 3 | n => n, fun | n => n⟩
theorem Tryz.lays206 : Go.Proofs.Lays.n206 Tryz.prog Tryz.lays206_ren := {
  mixed := by kernel_rfl
  f206 := Tryz.func163.trans (congrArg some (by kernel_rfl))
  t3 := Tryz.underlying3
  a3 := Tryz.isAgg3
  z3 := Tryz.sizeOf3
  v3 := Tryz.zeroValue3
  t4 := Tryz.underlying4
  a4 := Tryz.isAgg4
  z4 := Tryz.sizeOf4
  v4 := Tryz.zeroValue4
  t9 := Tryz.underlying9
  a9 := Tryz.isAgg9
  z9 := Tryz.sizeOf9
  v9 := Tryz.zeroValue9 }
open Go.RowKit Go.Lib in
/-- internal/stringslite.HasPrefix (what strings.HasPrefix calls). (LAID: no walk: one application.) -/
theorem Tryz.stringslite_HasPrefix (s p : ByteArray) (w : World) :
    Calls Tryz.prog 163 #[.string s, .string p] w fun e w' => e = .returned (.bool (Lib.hasPrefix s.data.toList p.data.toList)) ∧ w' = w := Any.stringslite_HasPrefix Tryz.lays206 s p w
def Tryz.lays208_ren : Go.Shelf.Ren := ⟨fun | 208 => 157 | 206 => 163 | n => n, fun | 9 => 9 | 4 => 4 | 3 => 3 | n => n, fun | n => n⟩
theorem Tryz.lays208 : Go.Proofs.Lays.n208 Tryz.prog Tryz.lays208_ren := {
  mixed := by kernel_rfl
  f206 := Tryz.func163.trans (congrArg some (by kernel_rfl))
  f208 := Tryz.func157.trans (congrArg some (by kernel_rfl))
  t3 := Tryz.underlying3
  a3 := Tryz.isAgg3
  z3 := Tryz.sizeOf3
  v3 := Tryz.zeroValue3
  t4 := Tryz.underlying4
  a4 := Tryz.isAgg4
  z4 := Tryz.sizeOf4
  v4 := Tryz.zeroValue4
  t9 := Tryz.underlying9
  a9 := Tryz.isAgg9
  z9 := Tryz.sizeOf9
  v9 := Tryz.zeroValue9 }
open Go.RowKit Go.Lib in
/-- internal/stringslite.TrimPrefix (what strings.TrimPrefix calls). (LAID: no walk: one application.) -/
theorem Tryz.stringslite_TrimPrefix (s p : ByteArray) (w : World) :
    Calls Tryz.prog 157 #[.string s, .string p] w fun e w' => e = .returned (.string ⟨(Lib.trimPrefix s.data.toList p.data.toList).toArray⟩) ∧ w' = w := Any.stringslite_TrimPrefix Tryz.lays208 s p w
def Tryz.lays101_ren : Go.Shelf.Ren := ⟨fun | 101 => 138 | 208 => 157 | 206 => 163 | n => n, fun | 9 => 9 | 4 => 4 | 3 => 3 | n => n, fun | n => n⟩
theorem Tryz.lays101 : Go.Proofs.Lays.n101 Tryz.prog Tryz.lays101_ren := {
  mixed := by kernel_rfl
  f101 := Tryz.func138.trans (congrArg some (by kernel_rfl))
  f206 := Tryz.func163.trans (congrArg some (by kernel_rfl))
  f208 := Tryz.func157.trans (congrArg some (by kernel_rfl))
  t3 := Tryz.underlying3
  a3 := Tryz.isAgg3
  z3 := Tryz.sizeOf3
  v3 := Tryz.zeroValue3
  t4 := Tryz.underlying4
  a4 := Tryz.isAgg4
  z4 := Tryz.sizeOf4
  v4 := Tryz.zeroValue4
  t9 := Tryz.underlying9
  a9 := Tryz.isAgg9
  z9 := Tryz.sizeOf9
  v9 := Tryz.zeroValue9 }
open Go.RowKit Go.Lib in
/-- strings.TrimPrefix: "TrimPrefix returns s without the provided leading prefix string. If s doesn't start with prefix, s is returned unchanged.": IT RETURNS 'Lib.trimPrefix s prefix'; the world is as it was. (LAID: no walk: one application.) -/
theorem Tryz.strings_TrimPrefix (s p : ByteArray) (w : World) :
    Calls Tryz.prog 138 #[.string s, .string p] w fun e w' => e = .returned (.string ⟨(Lib.trimPrefix s.data.toList p.data.toList).toArray⟩) ∧ w' = w := Any.strings_TrimPrefix Tryz.lays101 s p w
def Tryz.lays197_ren : Go.Shelf.Ren := ⟨fun | 197 => 160 | 260 => 164 | n => n, fun | 9 => 9 | 21 => 21 | 3 => 3 | 4 => 4 | 5 => 5 | 105 => 152 | 119 => 156 | 0 => 0 | 46 => 90 | 139 => 159 | 138 => 158 | n => n, fun | 3 => 1 | 4 => 2 | n => n⟩
theorem Tryz.lays197 : Go.Proofs.Lays.n197 Tryz.prog Tryz.lays197_ren := {
  mixed := by kernel_rfl
  f197 := Tryz.func160.trans (congrArg some (by kernel_rfl))
  f260 := Tryz.func164.trans (congrArg some (by kernel_rfl))
  t0 := Tryz.underlying0
  a0 := Tryz.isAgg0
  z0 := Tryz.sizeOf0
  v0 := Tryz.zeroValue0
  t3 := Tryz.underlying3
  a3 := Tryz.isAgg3
  z3 := Tryz.sizeOf3
  v3 := Tryz.zeroValue3
  t4 := Tryz.underlying4
  a4 := Tryz.isAgg4
  z4 := Tryz.sizeOf4
  v4 := Tryz.zeroValue4
  t5 := Tryz.underlying5
  a5 := Tryz.isAgg5
  z5 := Tryz.sizeOf5
  v5 := Tryz.zeroValue5
  t9 := Tryz.underlying9
  a9 := Tryz.isAgg9
  z9 := Tryz.sizeOf9
  v9 := Tryz.zeroValue9
  t21 := Tryz.underlying21
  a21 := Tryz.isAgg21
  z21 := Tryz.sizeOf21
  v21 := Tryz.zeroValue21
  t46 := Tryz.underlying90
  a46 := Tryz.isAgg90
  z46 := Tryz.sizeOf90
  v46 := Tryz.zeroValue90
  t105 := Tryz.underlying152
  a105 := Tryz.isAgg152
  z105 := Tryz.sizeOf152
  v105 := Tryz.zeroValue152
  t119 := Tryz.underlying156
  a119 := Tryz.isAgg156
  z119 := Tryz.sizeOf156
  t138 := Tryz.underlying158
  a138 := Tryz.isAgg158
  z138 := Tryz.sizeOf158
  v138 := Tryz.zeroValue158
  t139 := Tryz.underlying159
  a139 := Tryz.isAgg159
  z139 := Tryz.sizeOf159
  v139 := Tryz.zeroValue159
  g3 := by kernel_rfl
  g4 := by kernel_rfl }
open Go.RowKit Go.Lib in
/-- unicode/utf8.DecodeRuneInString: "DecodeRuneInString is like DecodeRune but its input is a string.": ("DecodeRune unpacks the first UTF-8 encoding in p and returns the rune and its width in bytes."): WHERE s BEGINS WITH AN ASCII BYTE x: (x, 1). (LAID: no walk: one application.) -/
theorem Tryz.utf8_DecodeRuneInString_ascii (s : ByteArray) (x : UInt8) (w : World) (h0 : s.data.toList[0]? = some x) (hx : x.toNat < 128) :
    Calls Tryz.prog 160 #[.string s] w fun e w' => e = .returned (.tuple #[.int .i32 x.toNat, .int .i64 1]) ∧ w' = w := Any.utf8_DecodeRuneInString_ascii Tryz.lays197 s x w h0 hx
def Tryz.lays152_ren : Go.Shelf.Ren := ⟨fun | 152 => 165 | 137 => 92 | 119 => 167 | 224 => 144 | 225 => 143 | 217 => 112 | 266 => 130 | n => n, fun | 9 => 9 | 21 => 21 | 3 => 3 | 4 => 4 | 5 => 5 | 0 => 0 | 46 => 90 | n => n, fun | n => n⟩
theorem Tryz.lays152 : Go.Proofs.Lays.n152 Tryz.prog Tryz.lays152_ren := {
  mixed := by kernel_rfl
  f119 := Tryz.func167.trans (congrArg some (by kernel_rfl))
  f137 := Tryz.func92.trans (congrArg some (by kernel_rfl))
  f152 := Tryz.func165.trans (congrArg some (by kernel_rfl))
  f217 := Tryz.func112.trans (congrArg some (by kernel_rfl))
  f224 := Tryz.func144.trans (congrArg some (by kernel_rfl))
  f225 := Tryz.func143.trans (congrArg some (by kernel_rfl))
  f266 := Tryz.func130.trans (congrArg some (by kernel_rfl))
  t0 := Tryz.underlying0
  a0 := Tryz.isAgg0
  z0 := Tryz.sizeOf0
  v0 := Tryz.zeroValue0
  t3 := Tryz.underlying3
  a3 := Tryz.isAgg3
  z3 := Tryz.sizeOf3
  v3 := Tryz.zeroValue3
  t4 := Tryz.underlying4
  a4 := Tryz.isAgg4
  z4 := Tryz.sizeOf4
  v4 := Tryz.zeroValue4
  t5 := Tryz.underlying5
  a5 := Tryz.isAgg5
  z5 := Tryz.sizeOf5
  v5 := Tryz.zeroValue5
  t9 := Tryz.underlying9
  a9 := Tryz.isAgg9
  z9 := Tryz.sizeOf9
  v9 := Tryz.zeroValue9
  t21 := Tryz.underlying21
  a21 := Tryz.isAgg21
  z21 := Tryz.sizeOf21
  v21 := Tryz.zeroValue21
  t46 := Tryz.underlying90
  a46 := Tryz.isAgg90
  z46 := Tryz.sizeOf90
  v46 := Tryz.zeroValue90 }
open Go.RowKit Go.Lib in
theorem Tryz.strings_IndexRune_ascii (s : ByteArray) (r : Int) (w : World) (h0 : 0 ≤ r) (h1 : r < 128) :
    Calls Tryz.prog 165 #[.string s, .int .i32 r] w fun e w' => e = .returned (.int .i64 (Lib.indexByte s.data.toList r.toNat.toUInt8)) ∧ w' = w := Any.strings_IndexRune_ascii Tryz.lays152 s r w h0 h1
def Tryz.lays151_ren : Go.Shelf.Ren := ⟨fun | 151 => 161 | 152 => 165 | 137 => 92 | 119 => 167 | 224 => 144 | 225 => 143 | 217 => 112 | 266 => 130 | n => n, fun | 9 => 9 | 21 => 21 | 4 => 4 | 3 => 3 | 5 => 5 | 0 => 0 | 46 => 90 | n => n, fun | n => n⟩
theorem Tryz.lays151 : Go.Proofs.Lays.n151 Tryz.prog Tryz.lays151_ren := {
  mixed := by kernel_rfl
  f119 := Tryz.func167.trans (congrArg some (by kernel_rfl))
  f137 := Tryz.func92.trans (congrArg some (by kernel_rfl))
  f151 := Tryz.func161.trans (congrArg some (by kernel_rfl))
  f152 := Tryz.func165.trans (congrArg some (by kernel_rfl))
  f217 := Tryz.func112.trans (congrArg some (by kernel_rfl))
  f224 := Tryz.func144.trans (congrArg some (by kernel_rfl))
  f225 := Tryz.func143.trans (congrArg some (by kernel_rfl))
  f266 := Tryz.func130.trans (congrArg some (by kernel_rfl))
  t0 := Tryz.underlying0
  a0 := Tryz.isAgg0
  z0 := Tryz.sizeOf0
  v0 := Tryz.zeroValue0
  t3 := Tryz.underlying3
  a3 := Tryz.isAgg3
  z3 := Tryz.sizeOf3
  v3 := Tryz.zeroValue3
  t4 := Tryz.underlying4
  a4 := Tryz.isAgg4
  z4 := Tryz.sizeOf4
  v4 := Tryz.zeroValue4
  t5 := Tryz.underlying5
  a5 := Tryz.isAgg5
  z5 := Tryz.sizeOf5
  v5 := Tryz.zeroValue5
  t9 := Tryz.underlying9
  a9 := Tryz.isAgg9
  z9 := Tryz.sizeOf9
  v9 := Tryz.zeroValue9
  t21 := Tryz.underlying21
  a21 := Tryz.isAgg21
  z21 := Tryz.sizeOf21
  v21 := Tryz.zeroValue21
  t46 := Tryz.underlying90
  a46 := Tryz.isAgg90
  z46 := Tryz.sizeOf90
  v46 := Tryz.zeroValue90 }
open Go.RowKit Go.Lib in
theorem Tryz.strings_ContainsRune_ascii (s : ByteArray) (r : Int) (w : World) (h0 : 0 ≤ r) (h1 : r < 128) :
    Calls Tryz.prog 161 #[.string s, .int .i32 r] w fun e w' => e = .returned (.bool (decide (0 ≤ Lib.indexByte s.data.toList r.toNat.toUInt8))) ∧ w' = w := Any.strings_ContainsRune_ascii Tryz.lays151 s r w h0 h1
def Tryz.lays227_ren : Go.Shelf.Ren := ⟨fun | 227 => 150 | n => n, fun | 9 => 9 | 116 => 144 | 4 => 4 | 0 => 0 | 3 => 3 | 5 => 5 | n => n, fun | n => n⟩
theorem Tryz.lays227 : Go.Proofs.Lays.n227 Tryz.prog Tryz.lays227_ren := {
  mixed := by kernel_rfl
  f227 := Tryz.func150.trans (congrArg some (by kernel_rfl))
  t0 := Tryz.underlying0
  a0 := Tryz.isAgg0
  z0 := Tryz.sizeOf0
  v0 := Tryz.zeroValue0
  t3 := Tryz.underlying3
  a3 := Tryz.isAgg3
  z3 := Tryz.sizeOf3
  v3 := Tryz.zeroValue3
  t4 := Tryz.underlying4
  a4 := Tryz.isAgg4
  z4 := Tryz.sizeOf4
  v4 := Tryz.zeroValue4
  t5 := Tryz.underlying5
  a5 := Tryz.isAgg5
  z5 := Tryz.sizeOf5
  v5 := Tryz.zeroValue5
  t9 := Tryz.underlying9
  a9 := Tryz.isAgg9
  z9 := Tryz.sizeOf9
  v9 := Tryz.zeroValue9
  t116 := Tryz.underlying144
  a116 := Tryz.isAgg144
  z116 := Tryz.sizeOf144 }
open Go.RowKit Go.Lib in
theorem Tryz.strings_makeASCIISet (hv116 : ∀ w, (zeroValue 144).run Tryz.prog w = .ok (.agg (Array.replicate 256 (.bool false))) w) (chars : ByteArray) (w : World) (hs : chars.size < 4294967281) (hascii : ∀ (j : Nat) b, chars.data.toList[j]? = some b → b.toNat < 128) :
    Calls Tryz.prog 150 #[.string chars] w fun e w' => e = .returned (.tuple #[.agg (Lib.setCells chars.data.toList), .bool true]) ∧ w' = w.alloc (.cells (Lib.setCells chars.data.toList) 144) := Any.strings_makeASCIISet Tryz.lays227 hv116 (by kernel_rfl) chars w hs hascii
def Tryz.lays228_ren : Go.Shelf.Ren := ⟨fun | 228 => 159 | n => n, fun | 124 => 148 | 5 => 5 | 4 => 4 | 0 => 0 | 116 => 144 | n => n, fun | n => n⟩
theorem Tryz.lays228 : Go.Proofs.Lays.n228 Tryz.prog Tryz.lays228_ren := {
  mixed := by kernel_rfl
  f228 := Tryz.func159.trans (congrArg some (by kernel_rfl))
  t0 := Tryz.underlying0
  a0 := Tryz.isAgg0
  z0 := Tryz.sizeOf0
  v0 := Tryz.zeroValue0
  t4 := Tryz.underlying4
  a4 := Tryz.isAgg4
  z4 := Tryz.sizeOf4
  v4 := Tryz.zeroValue4
  t5 := Tryz.underlying5
  a5 := Tryz.isAgg5
  z5 := Tryz.sizeOf5
  v5 := Tryz.zeroValue5
  t116 := Tryz.underlying144
  a116 := Tryz.isAgg144
  z116 := Tryz.sizeOf144
  t124 := Tryz.underlying148
  a124 := Tryz.isAgg148
  z124 := Tryz.sizeOf148
  v124 := Tryz.zeroValue148 }
open Go.RowKit Go.Lib in
/-- '(as *asciiSet) contains(c)': 'as[c]': the set lies at block b, whole. (LAID: no walk: one application.) -/
theorem Tryz.asciiSet_contains (b : Nat) (x : UInt8) (v : Bool) (w : World) (hc : w.cell? ⟨b, x.toNat, none⟩ = some (.bool v)) :
    Calls Tryz.prog 159 #[.pointer (some ⟨b, 0, none⟩), .int .u8 x.toNat] w fun e w' => e = .returned (.bool v) ∧ w' = w := Any.asciiSet_contains Tryz.lays228 b x v w hc
def Tryz.lays260_ren : Go.Shelf.Ren := ⟨fun | 260 => 164 | n => n, fun | 9 => 9 | 21 => 21 | 3 => 3 | 4 => 4 | 5 => 5 | 119 => 156 | 0 => 0 | 46 => 90 | 139 => 159 | 138 => 158 | n => n, fun | 3 => 1 | 4 => 2 | n => n⟩
theorem Tryz.lays260 : Go.Proofs.Lays.n260 Tryz.prog Tryz.lays260_ren := {
  mixed := by kernel_rfl
  f260 := Tryz.func164.trans (congrArg some (by kernel_rfl))
  t0 := Tryz.underlying0
  a0 := Tryz.isAgg0
  z0 := Tryz.sizeOf0
  v0 := Tryz.zeroValue0
  t3 := Tryz.underlying3
  a3 := Tryz.isAgg3
  z3 := Tryz.sizeOf3
  v3 := Tryz.zeroValue3
  t4 := Tryz.underlying4
  a4 := Tryz.isAgg4
  z4 := Tryz.sizeOf4
  v4 := Tryz.zeroValue4
  t5 := Tryz.underlying5
  a5 := Tryz.isAgg5
  z5 := Tryz.sizeOf5
  v5 := Tryz.zeroValue5
  t9 := Tryz.underlying9
  a9 := Tryz.isAgg9
  z9 := Tryz.sizeOf9
  v9 := Tryz.zeroValue9
  t21 := Tryz.underlying21
  a21 := Tryz.isAgg21
  z21 := Tryz.sizeOf21
  v21 := Tryz.zeroValue21
  t46 := Tryz.underlying90
  a46 := Tryz.isAgg90
  z46 := Tryz.sizeOf90
  v46 := Tryz.zeroValue90
  t119 := Tryz.underlying156
  a119 := Tryz.isAgg156
  z119 := Tryz.sizeOf156
  t138 := Tryz.underlying158
  a138 := Tryz.isAgg158
  z138 := Tryz.sizeOf158
  v138 := Tryz.zeroValue158
  t139 := Tryz.underlying159
  a139 := Tryz.isAgg159
  z139 := Tryz.sizeOf159
  v139 := Tryz.zeroValue159
  g3 := by kernel_rfl
  g4 := by kernel_rfl }
open Go.RowKit Go.Lib in
theorem Tryz.utf8_decodeRuneInStringSlow (s : ByteArray) (w : World) (hT : Lib.Utf8Tabs 1 2 w) :
    Calls Tryz.prog 164 #[.string s] w fun e w' => e = .returned (.tuple #[.int .i32 (Lib.decodeGo s).1, .int .i64 (Lib.decodeGo s).2]) ∧ Below w.heap.size w w' := Any.utf8_decodeRuneInStringSlow Tryz.lays260 s w hT
open Go.RowKit Go.Lib in
/-- **unicode/utf8.DecodeRuneInString AT EVERY STRING.** (LAID: no walk: one application.) -/
theorem Tryz.utf8_DecodeRuneInString (s : ByteArray) (w : World) (hT : Lib.Utf8Tabs 1 2 w) :
    Calls Tryz.prog 160 #[.string s] w fun e w' => e = .returned (.tuple #[.int .i32 (Lib.decodeGo s).1, .int .i64 (Lib.decodeGo s).2]) ∧ Below w.heap.size w w' := Any.utf8_DecodeRuneInString Tryz.lays197 s w hT
def Tryz.lays271_ren : Go.Shelf.Ren := ⟨fun | 271 => 162 | 120 => 166 | 197 => 160 | 260 => 164 | n => n, fun | 9 => 9 | 21 => 21 | 3 => 3 | 4 => 4 | 5 => 5 | 105 => 152 | 119 => 156 | 0 => 0 | 46 => 90 | 139 => 159 | 138 => 158 | n => n, fun | 3 => 1 | 4 => 2 | n => n⟩
theorem Tryz.lays271 : Go.Proofs.Lays.n271 Tryz.prog Tryz.lays271_ren := {
  mixed := by kernel_rfl
  f120 := Tryz.func166.trans (congrArg some (by kernel_rfl))
  f197 := Tryz.func160.trans (congrArg some (by kernel_rfl))
  f260 := Tryz.func164.trans (congrArg some (by kernel_rfl))
  f271 := Tryz.func162.trans (congrArg some (by kernel_rfl))
  t0 := Tryz.underlying0
  a0 := Tryz.isAgg0
  z0 := Tryz.sizeOf0
  v0 := Tryz.zeroValue0
  t3 := Tryz.underlying3
  a3 := Tryz.isAgg3
  z3 := Tryz.sizeOf3
  v3 := Tryz.zeroValue3
  t4 := Tryz.underlying4
  a4 := Tryz.isAgg4
  z4 := Tryz.sizeOf4
  v4 := Tryz.zeroValue4
  t5 := Tryz.underlying5
  a5 := Tryz.isAgg5
  z5 := Tryz.sizeOf5
  v5 := Tryz.zeroValue5
  t9 := Tryz.underlying9
  a9 := Tryz.isAgg9
  z9 := Tryz.sizeOf9
  v9 := Tryz.zeroValue9
  t21 := Tryz.underlying21
  a21 := Tryz.isAgg21
  z21 := Tryz.sizeOf21
  v21 := Tryz.zeroValue21
  t46 := Tryz.underlying90
  a46 := Tryz.isAgg90
  z46 := Tryz.sizeOf90
  v46 := Tryz.zeroValue90
  t105 := Tryz.underlying152
  a105 := Tryz.isAgg152
  z105 := Tryz.sizeOf152
  v105 := Tryz.zeroValue152
  t119 := Tryz.underlying156
  a119 := Tryz.isAgg156
  z119 := Tryz.sizeOf156
  t138 := Tryz.underlying158
  a138 := Tryz.isAgg158
  z138 := Tryz.sizeOf158
  v138 := Tryz.zeroValue158
  t139 := Tryz.underlying159
  a139 := Tryz.isAgg159
  z139 := Tryz.sizeOf159
  v139 := Tryz.zeroValue159
  g3 := by kernel_rfl
  g4 := by kernel_rfl }
open Go.RowKit Go.Lib in
/-- **unicode/utf8.DecodeLastRuneInString AT EVERY STRING.** (LAID: no walk: one application.) -/
theorem Tryz.utf8_DecodeLastRuneInString (s : ByteArray) (w : World) (hs : s.size ≤ 9223372036854775807) (hT : Lib.Utf8Tabs 1 2 w) :
    Calls Tryz.prog 162 #[.string s] w fun e w' => e = .returned (.tuple #[.int .i32 (Lib.decodeLastL s.data.toList).1, .int .i64 (Lib.decodeLastL s.data.toList).2]) ∧ Below w.heap.size w w' := Any.utf8_DecodeLastRuneInString Tryz.lays271 s w hs hT
def Tryz.lays109_ren : Go.Shelf.Ren := ⟨fun | 109 => 79 | n => n, fun | 31 => 34 | 9 => 9 | 3 => 3 | 0 => 0 | 4 => 4 | n => n, fun | n => n⟩
theorem Tryz.lays109 : Go.Proofs.Lays.n109 Tryz.prog Tryz.lays109_ren := {
  mixed := by kernel_rfl
  f109 := Tryz.func79.trans (congrArg some (by kernel_rfl))
  t0 := Tryz.underlying0
  a0 := Tryz.isAgg0
  z0 := Tryz.sizeOf0
  v0 := Tryz.zeroValue0
  t3 := Tryz.underlying3
  a3 := Tryz.isAgg3
  z3 := Tryz.sizeOf3
  v3 := Tryz.zeroValue3
  t4 := Tryz.underlying4
  a4 := Tryz.isAgg4
  z4 := Tryz.sizeOf4
  v4 := Tryz.zeroValue4
  t9 := Tryz.underlying9
  a9 := Tryz.isAgg9
  z9 := Tryz.sizeOf9
  v9 := Tryz.zeroValue9
  t31 := Tryz.underlying34
  a31 := Tryz.isAgg34
  z31 := Tryz.sizeOf34
  v31 := Tryz.zeroValue34 }
open Go.Lib in
/-- slices.Index at []string: "Index returns the index of the first occurrence of v in s, or -1 if not present.": IT RETURNS 'Lib.idxOfS (the elements) v'; the world is as it was. 'zs': what the cells behind the slice's address hold (its spare capacity too, if you have it); 'zs.take n': its elements. (LAID: no walk: one application.) -/
theorem Tryz.slices_Index_string (b off n c : Nat) (zs : List ByteArray) (x : ByteArray) (w : World) (hz : n ≤ zs.length) (hbig : n ≤ 9223372036854775807) (hc : ∀ j, j < zs.length → w.cell? ⟨b, off + j, none⟩ = some (.string (zs.getD j ByteArray.empty))) :
    Calls Tryz.prog 79 #[.slice (some ⟨b, off, none⟩) n c, .string x] w fun e w' => e = .returned (.int .i64 (Lib.idxOfS (zs.take n) x)) ∧ w' = w := Any.slices_Index_string Tryz.lays109 b off n c zs x w hz hbig hc
open Go.Lib in
/-- The same at a slice of length 0, a nil one too: no cell is known, none is asked for. (LAID: no walk: one application.) -/
theorem Tryz.slices_Index_string_empty (a : Option Addr) (c : Nat) (x : ByteArray) (w : World) :
    Calls Tryz.prog 79 #[.slice a 0 c, .string x] w fun e w' => e = .returned (.int .i64 (Lib.idxOfS [] x)) ∧ w' = w := Any.slices_Index_string_empty Tryz.lays109 a c x w
def Tryz.lays110_ren : Go.Shelf.Ren := ⟨fun | 110 => 56 | 109 => 79 | n => n, fun | 31 => 34 | 9 => 9 | 4 => 4 | 3 => 3 | 0 => 0 | n => n, fun | n => n⟩
theorem Tryz.lays110 : Go.Proofs.Lays.n110 Tryz.prog Tryz.lays110_ren := {
  mixed := by kernel_rfl
  f109 := Tryz.func79.trans (congrArg some (by kernel_rfl))
  f110 := Tryz.func56.trans (congrArg some (by kernel_rfl))
  t0 := Tryz.underlying0
  a0 := Tryz.isAgg0
  z0 := Tryz.sizeOf0
  v0 := Tryz.zeroValue0
  t3 := Tryz.underlying3
  a3 := Tryz.isAgg3
  z3 := Tryz.sizeOf3
  v3 := Tryz.zeroValue3
  t4 := Tryz.underlying4
  a4 := Tryz.isAgg4
  z4 := Tryz.sizeOf4
  v4 := Tryz.zeroValue4
  t9 := Tryz.underlying9
  a9 := Tryz.isAgg9
  z9 := Tryz.sizeOf9
  v9 := Tryz.zeroValue9
  t31 := Tryz.underlying34
  a31 := Tryz.isAgg34
  z31 := Tryz.sizeOf34
  v31 := Tryz.zeroValue34 }
open Go.Lib in
/-- slices.Contains at []string: "Contains reports whether v is present in s.": IT RETURNS 'Lib.containsS (the elements) v', which is true just where v is among them ('Lib.containsS_iff'); the world is as it was. ITS CALLEE slices.Index IS MET BY ITS OWN CONTRACT OFF THE SHELF (lay that first): no loop is walked here. (LAID: no walk: one application.) -/
theorem Tryz.slices_Contains_string (b off n c : Nat) (zs : List ByteArray) (x : ByteArray) (w : World) (hz : n ≤ zs.length) (hbig : n ≤ 9223372036854775807) (hc : ∀ j, j < zs.length → w.cell? ⟨b, off + j, none⟩ = some (.string (zs.getD j ByteArray.empty))) :
    Calls Tryz.prog 56 #[.slice (some ⟨b, off, none⟩) n c, .string x] w fun e w' => e = .returned (.bool (Lib.containsS (zs.take n) x)) ∧ w' = w := Any.slices_Contains_string Tryz.lays110 b off n c zs x w hz hbig hc
open Go.Lib in
/-- The same at a slice of length 0, a nil one too. (LAID: no walk: one application.) -/
theorem Tryz.slices_Contains_string_empty (a : Option Addr) (c : Nat) (x : ByteArray) (w : World) :
    Calls Tryz.prog 56 #[.slice a 0 c, .string x] w fun e w' => e = .returned (.bool false) ∧ w' = w := Any.slices_Contains_string_empty Tryz.lays110 a c x w
def Tryz.lays194_ren : Go.Shelf.Ren := ⟨fun | 194 => 52 | n => n, fun | 31 => 34 | 9 => 9 | 3 => 3 | 4 => 4 | 0 => 0 | n => n, fun | n => n⟩
theorem Tryz.lays194 : Go.Proofs.Lays.n194 Tryz.prog Tryz.lays194_ren := {
  mixed := by kernel_rfl
  f194 := Tryz.func52.trans (congrArg some (by kernel_rfl))
  t0 := Tryz.underlying0
  a0 := Tryz.isAgg0
  z0 := Tryz.sizeOf0
  v0 := Tryz.zeroValue0
  t3 := Tryz.underlying3
  a3 := Tryz.isAgg3
  z3 := Tryz.sizeOf3
  v3 := Tryz.zeroValue3
  t4 := Tryz.underlying4
  a4 := Tryz.isAgg4
  z4 := Tryz.sizeOf4
  v4 := Tryz.zeroValue4
  t9 := Tryz.underlying9
  a9 := Tryz.isAgg9
  z9 := Tryz.sizeOf9
  v9 := Tryz.zeroValue9
  t31 := Tryz.underlying34
  a31 := Tryz.isAgg34
  z31 := Tryz.sizeOf34
  v31 := Tryz.zeroValue34 }
open Go.RowKit Go.Lib Go.Sort in
/-- slices.Compact at []string, over an array: the library's two loops are walked. (LAID: no walk: one application.) -/
theorem Tryz.slices_Compact_string_arr (blk off cap : Nat) (d : Array (List UInt8)) (w : World) (hH : Holds encStr w blk off d) (hsz : d.size ≤ 9223372036854775807) (hcap : d.size ≤ cap) :
    Calls Tryz.prog 52 #[.slice (some ⟨blk, off, none⟩) d.size cap] w fun e w' => e = .returned (.slice (some ⟨blk, off, none⟩) (compactUpTo d d.size).length cap) ∧ ∃ q, w' = putRow encStr (Sort.ahead w q) blk off (compactUpTo d d.size ++ List.replicate (d.size - (compactUpTo d d.size).length) []).toArray := Any.slices_Compact_string_arr Tryz.lays194 blk off cap d w hH hsz hcap
open Go.RowKit Go.Lib Go.Sort in
/-- slices.Compact at []string: "Compact replaces consecutive runs of equal elements with a single copy. This is like the uniq command found on Unix. Compact modifies the contents of the slice s and returns the modified slice, which may have a smaller length. Compact zeroes the elements between the new length and the original length. The result preserves the nilness of s.": IT RETURNS THE SLICE CUT TO 'Lib.compact zs'; ITS CELLS HOLD 'Lib.compact zs', THEN ZERO VALUES up to the old length; all else is as it was, but for the count of draws. IN THE WORDS OF slices.Sort's CONTRACT ('Holds', 'putRow'): so the everyday 'slices.Sort(xs); xs = slices.Compact(xs)' goes from the one contract to the other. It asks 'zs.length ≤ cap' (every slice's: the reslicing 's[:k]' looks at it). Length 0, nil: '.._empty'. (LAID: no walk: one application.) -/
theorem Tryz.slices_Compact_string (blk off cap : Nat) (zs : List (List UInt8)) (w : World) (hH : Holds encStr w blk off zs.toArray) (hsz : zs.length ≤ 9223372036854775807) (hcap : zs.length ≤ cap) :
    Calls Tryz.prog 52 #[.slice (some ⟨blk, off, none⟩) zs.length cap] w fun e w' => e = .returned (.slice (some ⟨blk, off, none⟩) (Lib.compact zs).length cap) ∧ ∃ q, w' = putRow encStr (Sort.ahead w q) blk off (Lib.compact zs ++ List.replicate (zs.length - (Lib.compact zs).length) []).toArray := Any.slices_Compact_string Tryz.lays194 blk off cap zs w hH hsz hcap
open Go.RowKit Go.Lib Go.Sort in
/-- The same at a slice of length 0, a nil one too: it comes back as it is. (LAID: no walk: one application.) -/
theorem Tryz.slices_Compact_string_empty (a : Option Addr) (cap : Nat) (w : World) :
    Calls Tryz.prog 52 #[.slice a 0 cap] w fun e w' => e = .returned (.slice a 0 cap) ∧ w' = w := Any.slices_Compact_string_empty Tryz.lays194 a cap w
open Go.RowKit Go.Lib Go.Sort in
/-- slices.Compact at []string, of an argument. (LAID: no walk: one application.) -/
theorem Tryz.slices_Compact_string_cells (b off n c : Nat) (Sx : Nat → ByteArray) (w : World) (hbig : n ≤ 9223372036854775807) (hcap : n ≤ c) (hc : ∀ i, i < n → w.cell? ⟨b, off + i, none⟩ = some (.string (Sx i))) (hf : ∀ j, j < n → w.frozen? ⟨b, off + j, none⟩ = false) :
    Calls Tryz.prog 52 #[.slice (some ⟨b, off, none⟩) n c] w fun e w' => e = .returned (.slice (some ⟨b, off, none⟩) (Lib.compact (Lib.strsOf Sx n)).length c) ∧ ∃ q, w' = (w.drewN q).setCells b off ((Lib.compact (Lib.strsOf Sx n) ++ List.replicate (n - (Lib.compact (Lib.strsOf Sx n)).length) []).map encStr) := Any.slices_Compact_string_cells Tryz.lays194 b off n c Sx w hbig hcap hc hf
open Go.RowKit Go.Sort in
/-- .. and plain. (LAID: no walk: one application.) -/
theorem Tryz.slices_Sort_string_none (p : Option Addr) (cap : Nat) (w : World) :
    Calls Tryz.prog 51 #[.slice p 0 cap] w fun e w' => e = .returned (.tuple #[]) ∧ w' = w := Any.slices_Sort_string_none Tryz.lays190 p cap w
end Go.Proofs
namespace Go.Proofs.YthefddclefimoaaGreatDoor
open Go.RowKit
set_option linter.unusedVariables false

set_option maxHeartbeats 400000 in
theorem isDigit_any (c : Int) (w : World) : Calls Tryz.prog 91 #[.int .u8 c] w fun e w' => e = .returned (.bool (digI c)) ∧ w = w' := by
  go_enter Tryz.func91, Tryz.ntmps91
  go_wp2
  all_goals go_ret
  all_goals exact ⟨by simp [digI, *]; try omega, rfl⟩
set_option maxHeartbeats 400000 in
theorem isSmall_any (c : Int) (w : World) : Calls Tryz.prog 90 #[.int .u8 c] w fun e w' => e = .returned (.bool (smlI c)) ∧ w = w' := by
  go_enter Tryz.func90, Tryz.ntmps90
  go_wp2
  all_goals go_ret
  all_goals exact ⟨by simp [smlI, *]; try omega, rfl⟩
set_option maxHeartbeats 400000 in
theorem isGreat_any (c : Int) (w : World) : Calls Tryz.prog 146 #[.int .u8 c] w fun e w' => e = .returned (.bool (grtI c)) ∧ w = w' := by
  go_enter Tryz.func146, Tryz.ntmps146
  go_wp2
  all_goals go_ret
  all_goals exact ⟨by simp [grtI, *]; try omega, rfl⟩
set_option maxHeartbeats 400000 in
theorem ofHost_any (c : Int) (w : World) : Calls Tryz.prog 127 #[.int .u8 c] w fun e w' => e = .returned (.bool (hostI c)) ∧ w = w' := by
  go_enter Tryz.func127, Tryz.ntmps127
  go_wp2_with (first | (go_at_call 90; refine (isSmall_any _ _).mono ?_; rintro e w' ⟨rfl, rfl⟩) | (go_at_call 146; refine (isGreat_any _ _).mono ?_; rintro e w' ⟨rfl, rfl⟩) | (go_at_call 91; refine (isDigit_any _ _).mono ?_; rintro e w' ⟨rfl, rfl⟩))
  all_goals go_ret
  all_goals exact ⟨by simp [hostI, *], rfl⟩
theorem signs_user (c : Int) (h0 : 0 ≤ c) (h1 : c ≤ 255) : decide (0 ≤ Lib.indexByte [46, 95, 61, 47, 43, 45] c.toNat.toUInt8) = (c == 46 || c == 95 || c == 61 || c == 47 || c == 43 || c == 45) := by
  have key : ∀ n : Fin 256, decide (0 ≤ Lib.indexByte [46, 95, 61, 47, 43, 45] n.val.toUInt8) = ((n.val : Int) == 46 || (n.val : Int) == 95 || (n.val : Int) == 61 || (n.val : Int) == 47 || (n.val : Int) == 43 || (n.val : Int) == 45) := by decide +kernel
  have := key ⟨c.toNat, by omega⟩
  simpa only [Int.toNat_of_nonneg h0] using this
set_option maxHeartbeats 400000 in
theorem ofUser_any (c : Int) (w : World) (h0 : 0 ≤ c) (h1 : c ≤ 255) : Calls Tryz.prog 68 #[.int .u8 c] w fun e w' => e = .returned (.bool (userI c)) ∧ w = w' := by
  have hs := Lib.hid (signs_user c h0 h1)
  go_enter Tryz.func68, Tryz.ntmps68
  go_wp2_with (first | (go_at_call 90; refine (isSmall_any _ _).mono ?_; rintro e w' ⟨rfl, rfl⟩) | (go_at_call 91; refine (isDigit_any _ _).mono ?_; rintro e w' ⟨rfl, rfl⟩) | (go_at_call 92; refine (Tryz.strings_IndexByte ⟨#[46, 95, 61, 47, 43, 45]⟩ _ _).mono ?_; rintro e w' ⟨rfl, hw⟩; subst hw))
  all_goals go_ret
  all_goals refine ⟨?_, rfl⟩
  · simp [userI, *]
  · simp [userI, *]
  · have h := hs.out
    simp only [Bool.or_assoc] at h
    have : (smlI c || digI c) = false := by simp [*]
    simp only [userI, Bool.or_assoc]
    rw [← h]
    simp [*]

/-- What a kind of bytes is, as the program's functions of it tell. -/
def Kind (g : Nat) (K : Int → Bool) : Prop := ∀ (c : Int) (w : World), 0 ≤ c → c ≤ 255 → Calls Tryz.prog g #[.int .u8 c] w fun e w' => e = .returned (.bool (K c)) ∧ w = w'
theorem kind_digit : Kind 91 digI := fun c w _ _ => isDigit_any c w
theorem kind_host : Kind 127 hostI := fun c w _ _ => ofHost_any c w
theorem kind_user : Kind 68 userI := fun c w h0 h1 => ofUser_any c w h0 h1
theorem made_no (l : List Int) (most : Int) (K : Int → Bool) (h : l.length < 1 ∨ most < (l.length : Int)) : madeI l most K = false := by
  unfold madeI
  rcases h with h | h
  · rw [decide_eq_false (by omega)]; rfl
  · rw [decide_eq_false (p := (l.length : Int) ≤ most) (by omega)]; simp
theorem made_yes (l : List Int) (most : Int) (K : Int → Bool) (h1 : 1 ≤ l.length) (h2 : (l.length : Int) ≤ most) : madeI l most K = l.all K := by
  unfold madeI
  rw [decide_eq_true h1, decide_eq_true h2]; rfl
set_option maxHeartbeats 400000 in
theorem made_digit (s : ByteArray) (most : Int) (w : World) (hs : s.size ≤ maxLen) :
    Calls Tryz.prog 88 #[.string s, .int .i64 most, .func (.func 91) #[] #[]] w fun e w' => e = .returned (.bool (madeI (sb s) most digI)) ∧ w = w' := by
  have hl := sb_length s
  unfold maxLen at hs
  have HL := Lib.hid hl; clear hl
  by_cases h1 : (s.size : Int) < 1
  · have HM := Lib.hid (made_no (sb s) most digI (by have := HL.out; omega))
    go_enter Tryz.func88, Tryz.ntmps88
    go_wp2
    go_ret
    exact ⟨by rw [HM.out]; rfl, rfl⟩
  by_cases h2 : most < (s.size : Int)
  · have HM := Lib.hid (made_no (sb s) most digI (by have := HL.out; omega))
    go_enter Tryz.func88, Tryz.ntmps88
    go_wp2
    go_ret
    exact ⟨by rw [HM.out]; rfl, rfl⟩
  have HM := Lib.hid (made_yes (sb s) most digI (by have := HL.out; omega) (by have := HL.out; omega))
  go_enter Tryz.func88, Tryz.ntmps88
  go_wp2
  go_loop [7, 19] (fun _ i => ∃ k : Nat, k ≤ s.size ∧ i = .int .i64 k ∧ ((sb s).take k).all digI = true) (fun _ i => s.size - (intOf i).toNat)
  case atStart => exact ⟨0, Nat.zero_le _, rfl, rfl⟩
  case round =>
    obtain ⟨k, hk, rfl, hall⟩ := hrel
    have H := Lib.hid hall; clear hall
    by_cases hlt : k < s.size
    · have hat := at0_sb s k hlt
      have HA := Lib.hid hat; clear hat
      have hlk : k < (sb s).length := by have := HL.out; omega
      go_wp2_with fail
      have hb := (s[k]'hlt).toNat_lt
      refine (kind_digit _ _ (by omega) (by omega)).mono ?_
      rintro e w' ⟨rfl, rfl⟩
      rw [← HA.out]
      go_wp2
      · go_ret
        refine ⟨?_, rfl⟩
        have : (sb s).all digI = false := by
          rw [List.all_eq_false]
          exact ⟨_, at0_mem hlk, by simpa using ‹(!digI (at0 (sb s) k)) = true›⟩
        rw [HM.out, this]; rfl
      · go_round
        case rel =>
          refine ⟨k + 1, by omega, by go_num, ?_⟩
          rw [List.take_add_one, List.getElem?_eq_getElem hlk, List.all_append, H.out, Option.toList_some, ← at0_lt hlk]
          have h9 : (!digI (at0 (sb s) k)) = false := by assumption
          simpa using h9
        case measure => simp [intOf]; omega
    · go_wp2
      go_ret
      refine ⟨?_, rfl⟩
      have h := H.out
      rw [List.take_of_length_le (by have := HL.out; omega)] at h
      rw [HM.out, h]; rfl

set_option maxHeartbeats 400000 in
theorem made_host (s : ByteArray) (most : Int) (w : World) (hs : s.size ≤ maxLen) :
    Calls Tryz.prog 88 #[.string s, .int .i64 most, .func (.func 127) #[] #[]] w fun e w' => e = .returned (.bool (madeI (sb s) most hostI)) ∧ w = w' := by
  have hl := sb_length s
  unfold maxLen at hs
  have HL := Lib.hid hl; clear hl
  by_cases h1 : (s.size : Int) < 1
  · have HM := Lib.hid (made_no (sb s) most hostI (by have := HL.out; omega))
    go_enter Tryz.func88, Tryz.ntmps88
    go_wp2
    go_ret
    exact ⟨by rw [HM.out]; rfl, rfl⟩
  by_cases h2 : most < (s.size : Int)
  · have HM := Lib.hid (made_no (sb s) most hostI (by have := HL.out; omega))
    go_enter Tryz.func88, Tryz.ntmps88
    go_wp2
    go_ret
    exact ⟨by rw [HM.out]; rfl, rfl⟩
  have HM := Lib.hid (made_yes (sb s) most hostI (by have := HL.out; omega) (by have := HL.out; omega))
  go_enter Tryz.func88, Tryz.ntmps88
  go_wp2
  go_loop [7, 19] (fun _ i => ∃ k : Nat, k ≤ s.size ∧ i = .int .i64 k ∧ ((sb s).take k).all hostI = true) (fun _ i => s.size - (intOf i).toNat)
  case atStart => exact ⟨0, Nat.zero_le _, rfl, rfl⟩
  case round =>
    obtain ⟨k, hk, rfl, hall⟩ := hrel
    have H := Lib.hid hall; clear hall
    by_cases hlt : k < s.size
    · have hat := at0_sb s k hlt
      have HA := Lib.hid hat; clear hat
      have hlk : k < (sb s).length := by have := HL.out; omega
      go_wp2_with fail
      have hb := (s[k]'hlt).toNat_lt
      refine (kind_host _ _ (by omega) (by omega)).mono ?_
      rintro e w' ⟨rfl, rfl⟩
      rw [← HA.out]
      go_wp2
      · go_ret
        refine ⟨?_, rfl⟩
        have : (sb s).all hostI = false := by
          rw [List.all_eq_false]
          exact ⟨_, at0_mem hlk, by simpa using ‹(!hostI (at0 (sb s) k)) = true›⟩
        rw [HM.out, this]; rfl
      · go_round
        case rel =>
          refine ⟨k + 1, by omega, by go_num, ?_⟩
          rw [List.take_add_one, List.getElem?_eq_getElem hlk, List.all_append, H.out, Option.toList_some, ← at0_lt hlk]
          have h9 : (!hostI (at0 (sb s) k)) = false := by assumption
          simpa using h9
        case measure => simp [intOf]; omega
    · go_wp2
      go_ret
      refine ⟨?_, rfl⟩
      have h := H.out
      rw [List.take_of_length_le (by have := HL.out; omega)] at h
      rw [HM.out, h]; rfl

set_option maxHeartbeats 400000 in
theorem made_user (s : ByteArray) (most : Int) (w : World) (hs : s.size ≤ maxLen) :
    Calls Tryz.prog 88 #[.string s, .int .i64 most, .func (.func 68) #[] #[]] w fun e w' => e = .returned (.bool (madeI (sb s) most userI)) ∧ w = w' := by
  have hl := sb_length s
  unfold maxLen at hs
  have HL := Lib.hid hl; clear hl
  by_cases h1 : (s.size : Int) < 1
  · have HM := Lib.hid (made_no (sb s) most userI (by have := HL.out; omega))
    go_enter Tryz.func88, Tryz.ntmps88
    go_wp2
    go_ret
    exact ⟨by rw [HM.out]; rfl, rfl⟩
  by_cases h2 : most < (s.size : Int)
  · have HM := Lib.hid (made_no (sb s) most userI (by have := HL.out; omega))
    go_enter Tryz.func88, Tryz.ntmps88
    go_wp2
    go_ret
    exact ⟨by rw [HM.out]; rfl, rfl⟩
  have HM := Lib.hid (made_yes (sb s) most userI (by have := HL.out; omega) (by have := HL.out; omega))
  go_enter Tryz.func88, Tryz.ntmps88
  go_wp2
  go_loop [7, 19] (fun _ i => ∃ k : Nat, k ≤ s.size ∧ i = .int .i64 k ∧ ((sb s).take k).all userI = true) (fun _ i => s.size - (intOf i).toNat)
  case atStart => exact ⟨0, Nat.zero_le _, rfl, rfl⟩
  case round =>
    obtain ⟨k, hk, rfl, hall⟩ := hrel
    have H := Lib.hid hall; clear hall
    by_cases hlt : k < s.size
    · have hat := at0_sb s k hlt
      have HA := Lib.hid hat; clear hat
      have hlk : k < (sb s).length := by have := HL.out; omega
      go_wp2_with fail
      have hb := (s[k]'hlt).toNat_lt
      refine (kind_user _ _ (by omega) (by omega)).mono ?_
      rintro e w' ⟨rfl, rfl⟩
      rw [← HA.out]
      go_wp2
      · go_ret
        refine ⟨?_, rfl⟩
        have : (sb s).all userI = false := by
          rw [List.all_eq_false]
          exact ⟨_, at0_mem hlk, by simpa using ‹(!userI (at0 (sb s) k)) = true›⟩
        rw [HM.out, this]; rfl
      · go_round
        case rel =>
          refine ⟨k + 1, by omega, by go_num, ?_⟩
          rw [List.take_add_one, List.getElem?_eq_getElem hlk, List.all_append, H.out, Option.toList_some, ← at0_lt hlk]
          have h9 : (!userI (at0 (sb s) k)) = false := by assumption
          simpa using h9
        case measure => simp [intOf]; omega
    · go_wp2
      go_ret
      refine ⟨?_, rfl⟩
      have h := H.out
      rw [List.take_of_length_le (by have := HL.out; omega)] at h
      rw [HM.out, h]; rfl

/-- The library's variable holds some int. -/
def MaxC (w : World) : Prop := ∃ m, w.cell? ⟨0, 0, none⟩ = some (.int .i64 m)
theorem MaxC.below {w w' : World} (h : MaxC w) (hb : Below w.heap.size w w') : MaxC w' := by
  obtain ⟨m, h⟩ := h
  exact ⟨m, by rw [hb.cell (World.block_lt_of_cell? w _ h)]; exact h⟩
theorem cut_any (s : ByteArray) (w : World) (hm : MaxC w) (hs : s.size ≤ 1000000) :
    Calls Tryz.prog 87 #[.string s, .string ⟨#[58]⟩] w fun e w' => ∃ a b : ByteArray, (sb a = (sb s).take (colI (sb s)) ∧ sb b = (sb s).drop (colI (sb s) + 1)) ∧ e = .returned (.tuple #[.string a, .string b, .bool (decide (colI (sb s) < (sb s).length))]) ∧ Below w.heap.size w w' := by
  obtain ⟨m, hm⟩ := hm
  obtain ⟨h1, h2, h3⟩ := cut_col s
  refine (Tryz.strings_Cut s ⟨#[58]⟩ m w (by omega) hm).mono ?_
  rintro e w' ⟨rfl, n, rfl⟩
  exact ⟨_, _, ⟨h1, h2⟩, by rw [← h3], below_drewN (Below.refl _ _) n⟩
theorem cut_yes (s : ByteArray) (w : World) (hm : MaxC w) (hs : s.size ≤ 1000000) (hc : colI (sb s) < (sb s).length) :
    Calls Tryz.prog 87 #[.string s, .string ⟨#[58]⟩] w fun e w' => ∃ a b : ByteArray, (sb a = (sb s).take (colI (sb s)) ∧ sb b = (sb s).drop (colI (sb s) + 1)) ∧ e = .returned (.tuple #[.string a, .string b, .bool true]) ∧ Below w.heap.size w w' := by
  have := cut_any s w hm hs
  rwa [decide_eq_true hc] at this
theorem cut_no (s : ByteArray) (w : World) (hm : MaxC w) (hs : s.size ≤ 1000000) (hc : ¬ colI (sb s) < (sb s).length) :
    Calls Tryz.prog 87 #[.string s, .string ⟨#[58]⟩] w fun e w' => ∃ a b : ByteArray, (sb a = (sb s).take (colI (sb s)) ∧ sb b = (sb s).drop (colI (sb s) + 1)) ∧ e = .returned (.tuple #[.string a, .string b, .bool false]) ∧ Below w.heap.size w w' := by
  have := cut_any s w hm hs
  rwa [decide_eq_false hc] at this
theorem dots_any (s : ByteArray) (w : World) (hm : MaxC w) (hs : s.size ≤ 1000000) (b : Bool) (hb : dotsI (sb s) = b) :
    Calls Tryz.prog 128 #[.string s, .string ⟨#[46, 46]⟩] w fun e w' => e = .returned (.bool b) ∧ w = w' := by
  obtain ⟨m, hm⟩ := hm
  refine (Tryz.strings_Contains s ⟨#[46, 46]⟩ m w (by omega) hm).mono ?_
  rintro e w' ⟨rfl, rfl⟩
  exact ⟨by rw [← hb, dots_lib]; rfl, rfl⟩
theorem trim_any (s : ByteArray) (w : World) (hs : s.size ≤ 1000000) :
    Calls Tryz.prog 129 #[.string s, .string ⟨#[46, 45]⟩] w fun e w' => ∃ t : ByteArray, (t = s ↔ edgesI (sb s) = true) ∧ e = .returned (.string t) ∧ Below w.heap.size w w' := by
  refine (Any.strings_Trim_laid Tryz.lays160 (by kernel_rfl) s ⟨#[46, 45]⟩ w (by omega) (by decide) (ascii_of_all (by decide))).mono ?_
  rintro e w' ⟨rfl, hb⟩
  refine ⟨_, ?_, rfl, hb⟩
  rw [sb, ← trimS_edges]
  constructor
  · intro h
    have := congrArg (fun t : ByteArray => t.data.toList) h
    simpa using this
  · intro h
    show (⟨(Lib.trimS s.data.toList [46, 45]).toArray⟩ : ByteArray) = s
    rw [h]
set_option maxHeartbeats 400000 in
theorem host_any (s : ByteArray) (w : World) (hm : MaxC w) (hs : s.size ≤ 1000000) :
    Calls Tryz.prog 111 #[.string s] w fun e w' => e = .returned (.bool (hostL (sb s))) ∧ Below w.heap.size w w' := by
  have hs' : s.size ≤ maxLen := by unfold maxLen; omega
  have HM := made_host s 230
  cases h1 : madeI (sb s) 230 hostI
  · have HF := Lib.hid (show hostL (sb s) = false by rw [hostL, h1]; rfl)
    rw [h1] at HM
    clear h1
    go_enter Tryz.func111, Tryz.ntmps111
    go_wp2_with fail
    refine (HM _ hs').mono ?_
    rintro e w' ⟨rfl, rfl⟩
    go_wp2
    go_ret
    exact ⟨by rw [HF.out]; rfl, Below.refl _ _⟩
  rw [h1] at HM
  cases h2 : dotsI (sb s)
  · have HD := dots_any s w hm hs false h2
    have HF := Lib.hid (show hostL (sb s) = edgesI (sb s) by rw [hostL, h1, h2]; rfl)
    have HT := trim_any s w hs
    clear h1 h2
    go_enter Tryz.func111, Tryz.ntmps111
    go_wp2_with fail
    refine (HM _ hs').mono ?_
    rintro e w' ⟨rfl, rfl⟩
    go_wp2_with fail
    refine HD.mono ?_
    rintro e w' ⟨rfl, rfl⟩
    go_wp2_with fail
    refine HT.mono ?_
    rintro e w1 ⟨t, ht, rfl, hb⟩
    go_wp2
    go_ret
    refine ⟨?_, hb⟩
    rw [HF.out]
    show Ending.returned (.bool (t.toList == s.toList)) = _
    by_cases hts : t = s
    · rw [str_eq_yes hts, ht.1 hts]
    · rw [str_eq_no hts]
      cases he : edgesI (sb s)
      · rfl
      · exact (hts (ht.2 he)).elim
  · have HD := dots_any s w hm hs true h2
    have HF := Lib.hid (show hostL (sb s) = false by rw [hostL, h1, h2]; rfl)
    clear h1 h2
    go_enter Tryz.func111, Tryz.ntmps111
    go_wp2_with fail
    refine (HM _ hs').mono ?_
    rintro e w' ⟨rfl, rfl⟩
    go_wp2_with fail
    refine HD.mono ?_
    rintro e w' ⟨rfl, rfl⟩
    go_wp2
    go_ret
    exact ⟨by rw [HF.out]; rfl, Below.refl _ _⟩
end Go.Proofs.YthefddclefimoaaGreatDoor
namespace Go.Proofs.YthefddclefimoaaGreatDoor
open Go.RowKit
set_option linter.unusedVariables false

theorem sb_extract (s : ByteArray) (i j : Nat) : sb (s.extract i j) = ((sb s).take j).drop i := by
  rw [Lib.extract_eq]
  simp [sb, List.map_take, List.map_drop, List.drop_take]
theorem sb_tail (s : ByteArray) (i : Nat) : sb (s.extract i s.size) = (sb s).drop i := by
  rw [sb_extract, List.take_of_length_le (by rw [sb_length]; omega)]
theorem size_of_sb {a : ByteArray} {l : List Int} {n : Nat} (h : sb a = l) (hl : l.length ≤ n) : a.size ≤ n := by
  rw [← sb_length, h]; exact hl
set_option maxHeartbeats 400000 in
theorem server_any (s : ByteArray) (w : World) (hm : MaxC w) (hs : s.size ≤ 1000000) :
    Calls Tryz.prog 89 #[.string s] w fun e w' => e = .returned (.bool (serverL (sb s))) ∧ Below w.heap.size w w' := by
  have hL := sb_length s
  by_cases hc : colI (sb s) < (sb s).length
  · have HC := cut_yes s w hm hs hc
    have HD := Lib.hid (show decide ((sb s).length ≤ colI (sb s)) = false by simp; omega)
    have HL := Lib.hid hL; clear hL hc
    go_enter Tryz.func89, Tryz.ntmps89
    go_wp2_with fail
    refine HC.mono ?_
    rintro e w1 ⟨a, b, hab, rfl, hb⟩
    have sa := size_of_sb (n := 1000000) hab.1 (by have := HL.out; rw [List.length_take]; omega)
    have sb' := size_of_sb (n := 1000000) hab.2 (by have := HL.out; rw [List.length_drop]; omega)
    have HAB := Lib.hid hab; clear hab HC
    have hm1 := hm.below hb
    go_wp2_with fail
    refine (made_digit b 5 _ (by unfold maxLen; omega)).mono ?_
    rintro e w' ⟨rfl, rfl⟩
    go_wp2_with (go_at_call 111; refine (host_any a _ hm1 sa).mono ?_; rintro e w2 ⟨rfl, hb2⟩)
    · go_ret
      refine ⟨?_, hb⟩
      have h1 : (!madeI (sb b) 5 digI) = true := by assumption
      have h2 : madeI (sb b) 5 digI = false := by simpa using h1
      rw [HAB.out.2] at h2
      rw [serverL, HD.out, h2]; rfl
    · go_ret
      refine ⟨?_, below_then hb hb2⟩
      have h1 : (!madeI (sb b) 5 digI) = false := by assumption
      have h2 : madeI (sb b) 5 digI = true := by simpa using h1
      rw [HAB.out.2] at h2
      rw [serverL, HD.out, h2, ← HAB.out.1]; rfl
  · have HC := cut_no s w hm hs hc
    have HD := Lib.hid (show decide ((sb s).length ≤ colI (sb s)) = true by simp; omega)
    have HL := Lib.hid hL; clear hL hc
    go_enter Tryz.func89, Tryz.ntmps89
    go_wp2_with fail
    refine HC.mono ?_
    rintro e w1 ⟨a, b, hab, rfl, hb⟩
    have sa := size_of_sb (n := 1000000) hab.1 (by have := HL.out; rw [List.length_take]; omega)
    have HAB := Lib.hid hab; clear hab HC
    have hm1 := hm.below hb
    go_wp2_with (go_at_call 111; refine (host_any a _ hm1 sa).mono ?_; rintro e w2 ⟨rfl, hb2⟩)
    go_ret
    refine ⟨?_, below_then hb hb2⟩
    rw [serverL, HD.out, ← HAB.out.1]; rfl
theorem head_at (l : List Int) (h : 0 < l.length) : l.head? = some (at0 l 0) := by
  cases l with
  | nil => simp at h
  | cons x l => rfl
set_option maxHeartbeats 400000 in
theorem named_user_any (s : ByteArray) (w : World) (hm : MaxC w) (hs : s.size ≤ 1000000) :
    Calls Tryz.prog 67 #[.string s, .int .u8 64, .int .i64 200, .func (.func 68) #[] #[]] w fun e w' => e = .returned (.bool (userL (sb s))) ∧ Below w.heap.size w w' := by
  have hL := sb_length s
  by_cases h1 : 255 < s.size
  · have HF := Lib.hid (show userL (sb s) = false by rw [userL, namedL, decide_eq_false (by omega)]; rfl)
    go_enter Tryz.func67, Tryz.ntmps67
    go_wp2
    go_ret
    exact ⟨by rw [HF.out]; rfl, Below.refl _ _⟩
  by_cases h2 : s.size = 0
  · have HF := Lib.hid (show userL (sb s) = false by rw [userL, namedL, List.eq_nil_of_length_eq_zero (by omega : (sb s).length = 0)]; rfl)
    have hb : ((s.size : Int) == 0) = true := by rw [h2]; rfl
    clear h2
    go_enter Tryz.func67, Tryz.ntmps67
    go_wp2
    go_ret
    exact ⟨by rw [HF.out]; rfl, Below.refl _ _⟩
  have h2' : 0 < s.size := by omega
  have hat := at0_sb s 0 h2'
  have hh := head_at (sb s) (by omega)
  have HL := Lib.hid hL; clear hL
  have hb : ((s.size : Int) == 0) = false := by rw [beq_eq_false_iff_ne]; omega
  have HA := Lib.hid hat; clear hat
  have HH := Lib.hid hh; clear hh
  by_cases h3 : at0 (sb s) 0 = 64
  · have h4 := h3
    rw [HA.out] at h4
    have hn : (((s[0]'h2').toNat : Int) != 64) = false := by simpa using h4
    have h1' : s.size ≤ 255 := by omega
    have h2i : (1 : Int) ≤ (s.size : Int) := by omega
    clear h4
    go_enter Tryz.func67, Tryz.ntmps67
    go_wp2_with fail
    have ht := sb_tail s 1
    have st : (s.extract 1 s.size).size ≤ 255 := size_of_sb ht (by have := HL.out; rw [List.length_drop]; omega)
    generalize s.extract 1 s.size = t at *
    have HT := Lib.hid ht; clear ht
    refine (cut_any t w hm (by omega)).mono ?_
    rintro e w1 ⟨a, b, hab, rfl, hbl⟩
    have HTL := Lib.hid (sb_length t)
    have sa := size_of_sb (n := 255) hab.1 (by have := HTL.out; rw [List.length_take]; omega)
    have sb' := size_of_sb (n := 1000000) hab.2 (by have := HTL.out; rw [List.length_drop]; omega)
    have HAB := Lib.hid hab; clear hab
    have hm1 := hm.below hbl
    have HF := Lib.hid (show userL (sb s) = (madeI (sb a) 200 userI && serverL (sb b)) by
      rw [userL, namedL, HH.out, h3, ← HT.out, decide_eq_true (show (sb s).length ≤ 255 by have := HL.out; omega), HAB.out.1, HAB.out.2]; rfl)
    go_wp2_with (first | (go_at_call 88; refine (made_user a 200 _ (by unfold maxLen; omega)).mono ?_; rintro e w' ⟨rfl, rfl⟩) | (go_at_call 89; refine (server_any b _ hm1 sb').mono ?_; rintro e w2 ⟨rfl, hb2⟩))
    · go_ret
      refine ⟨?_, below_then hbl hb2⟩
      have h5 : madeI (sb a) 200 userI = true := by assumption
      rw [HF.out, h5]; rfl
    · go_ret
      refine ⟨?_, hbl⟩
      have h5 : madeI (sb a) 200 userI = false := by simp only [*]
      rw [HF.out, h5]; rfl
  · have HF := Lib.hid (show userL (sb s) = false by
      have : ((some (at0 (sb s) 0) : Option Int) == some 64) = false := by rw [beq_eq_false_iff_ne]; simpa using h3
      rw [userL, namedL, HH.out, this]; simp)
    have h4 := h3
    rw [HA.out] at h4
    have hn : (((s[0]'h2').toNat : Int) != 64) = true := by simpa using h4
    go_enter Tryz.func67, Tryz.ntmps67
    go_wp2
    go_ret
    exact ⟨by rw [HF.out]; rfl, Below.refl _ _⟩
set_option maxHeartbeats 400000 in
theorem user_any (s : ByteArray) (w : World) (hm : MaxC w) (hs : s.size ≤ 1000000) :
    Calls Tryz.prog 37 #[.string s] w fun e w' => e = .returned (.bool (userL (sb s))) ∧ Below w.heap.size w w' := by
  go_enter Tryz.func37, Tryz.ntmps37
  go_wp2_with (go_at_call 67; refine (named_user_any s _ hm hs).mono ?_; rintro e w2 ⟨rfl, hb2⟩)
  go_ret
  exact ⟨rfl, hb2⟩
end Go.Proofs.YthefddclefimoaaGreatDoor
namespace Go.Proofs.YthefddclefimoaaGreatDoor
open Go.RowKit
set_option linter.unusedVariables false
/-- The library's variable, and that no block of one's own is its. -/
def MaxL (L : List Nat) (w : World) : Prop := MaxC w ∧ 0 ∉ L
theorem MaxC.lt {w : World} (h : MaxC w) : 0 < w.heap.size := by
  obtain ⟨m, h⟩ := h
  exact World.block_lt_of_cell? w _ h
theorem MaxL.below {L : List Nat} {w w' : World} (h : MaxL L w) (hb : Below w.heap.size w w') : MaxL L w' := ⟨h.1.below hb, h.2⟩
theorem MaxL.more {L : List Nat} {w w' : World} (h : MaxL L w) (hb : Below w.heap.size w w') {B : Nat} (hB : w.heap.size ≤ B) : MaxL (B :: L) w' := ⟨h.1.below hb, fun hx => by
  have := h.1.lt
  rcases List.mem_cons.1 hx with e | e
  · omega
  · exact h.2 e⟩
theorem MaxC.at {w w' : World} (h : MaxC w) (he : w'.heap[0]? = w.heap[0]?) : MaxC w' := by
  obtain ⟨m, h⟩ := h
  exact ⟨m, by unfold World.cell? at h ⊢; simp only [he]; exact h⟩
theorem MaxL.only {L : List Nat} {w w' : World} (h : MaxL L w) {B : Nat} (ho : Only B w w') (hB : B ∈ L) : MaxL L w' := ⟨h.1.at (ho.block 0 (fun e => h.2 (e ▸ hB))), h.2⟩
theorem MaxL.grow' {L : List Nat} {B B' : Nat} {w w' : World} (h : MaxL L w) (hg : GrowB B B' w w') (hB : B ∈ L) : MaxL (B' :: L) w' := ⟨h.1.at (hg.block 0 h.1.lt (fun e => h.2 (e ▸ hB))), fun hx => by
  have := h.1.lt
  rcases List.mem_cons.1 hx with e | e
  · rcases hg.new with n | n
    · exact h.2 (by rw [e, n]; exact hB)
    · omega
  · exact h.2 e⟩
theorem MaxL.less {L L' : List Nat} {w : World} (h : MaxL L w) (hl : ∀ x, x ∈ L' → x ∈ L) : MaxL L' w := ⟨h.1, fun hx => h.2 (hl _ hx)⟩
theorem MaxL.nil {L : List Nat} {w : World} (h : MaxL L w) : MaxL [] w := ⟨h.1, by simp⟩
end Go.Proofs.YthefddclefimoaaGreatDoor
