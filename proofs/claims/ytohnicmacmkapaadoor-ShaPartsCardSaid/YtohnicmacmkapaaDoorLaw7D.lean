/- ShaParts. -/
import Derived.Test.YtohnicmacmkapaaDoorLaw7A
import Derived.Test.YtohnicmacmkapaaDoorLaws
import Derived.Test.YtohnicmacmkapaaDoorOrdA
import Derived.Test.YtohnicmacmkapaaDoorArrEq
import Derived.Great.BuildSlice
namespace Go.Proofs.YtohnicmacmkapaaDoor
open Go.RowKit
set_option linter.unusedVariables false
set_option maxRecDepth 8000

def cutV (a : Option Addr) (l h m : Nat) : Value := sliced a l h m 1
theorem rdi_cutV {K : IntKind} {w : World} {a : Option Addr} {n cap : Nat} {zs : List Int} (hr : RdI K w (.slice a n cap) zs) (l h : Nat) (h1 : l ≤ h) (h2 : h ≤ n) : RdI K w (cutV a l h cap) ((zs.drop l).take (h - l)) := by
  obtain ⟨a', cap', he, hc1, hc2, hc3, hc4⟩ := hr
  cases he
  refine ⟨if cap = l then a else a.map (·.add (l * 1)), cap - l, by unfold cutV sliced; simp; omega, by simp; omega, by unfold maxLen at *; omega, fun j hj => ?_, fun hn => ?_⟩
  · simp only [List.length_take, List.length_drop] at hj
    obtain ⟨x, o, rfl, hc⟩ := hc3 (l + j) (by omega)
    have hne : cap ≠ l := by omega
    refine ⟨x, o + l, ?_, ?_⟩
    · rw [if_neg hne]
      simp [Addr.add_lit]
    · rw [show at0 ((zs.drop l).take (h - l)) j = at0 zs (l + j) by unfold at0; rw [List.getElem?_take, if_pos (by omega), List.getElem?_drop], Nat.add_assoc]
      exact hc
  · by_cases hne : cap = l
    · omega
    · rw [if_neg hne] at hn
      have := hc4 (by cases a with
        | none => rfl
        | some y => cases hn)
      omega
theorem rdp_lit {w : World} (ps : List (Value × List Int)) (e : TypeId) (h : ∀ p ∈ ps, RdI .u8 w p.1 p.2 ∧ Bytes p.2) (hl : ps.length ≤ 100) : RdP (w.alloc (.cells (ps.map (·.1)).toArray e)) (.slice (some ⟨w.heap.size, 0, none⟩) ps.length ps.length) ps := by
  refine ⟨_, ps.length, rfl, ⟨Nat.le_refl _, by unfold maxLen; omega⟩, fun k hk => ⟨_, _, rfl, ?_⟩, fun p hp => ⟨(h p hp).1.below ((Below.refl _ _).alloc (Nat.le_refl _) _), (h p hp).2⟩⟩
  simp only [World.cell?, heap_alloc_new]
  simp [hk]
theorem RdP.below {w w' : World} {v : Value} {ps : List (Value × List Int)} (h : RdP w v ps) (hb : Below w.heap.size w w') : RdP w' v ps := by
  obtain ⟨a, cap, rfl, h1, h2, h3⟩ := h
  refine ⟨a, cap, rfl, h1, fun k hk => ?_, fun p hp => ⟨(h3 p hp).1.below hb, (h3 p hp).2⟩⟩
  obtain ⟨x, o, rfl, hc⟩ := h2 k hk
  exact ⟨x, o, rfl, by rw [hb.cell (World.block_lt_of_cell? w _ hc)]; exact hc⟩
section
variable {P : Program} {ops : Array Oper} {o : Oper} {a : Act} {w : World} {R : Value → World → Prop}
theorem Does.buildP (hw : Region.wanted o (yielded ops a.tmps) = true) (t e : TypeId) (len : Nat) (parts : Array (Nat × Operand)) (ho : o.op = .buildSlice t len parts) (hu : P.underlying t = some (.slice e)) {z : Value}
    (hs : (P.info? e).map (·.size) = some 1) (hz : (P.info? e).bind (·.zero) = some z) (hsmall : len ≤ 1000) (hpos : 0 < len)
    (vs : List (Nat × Value)) (hv : (parts.map fun (i, x) => (i, a.eval x)).toList = vs) (cs : Array Value)
    (hf : Instr.fill (fun i => some (i * 1, 1)) ((Array.range (len * 1)).map (z.cells[· % z.cells.size]!)) vs = some cs)
    (hR : R (.slice (some ⟨w.heap.size, 0, none⟩) len len) (w.alloc (.cells cs e))) : Does P ops o a w R :=
  Does.of_wp hw fun KK hK => by
    cases hi : P.info? e with
    | none => rw [hi] at hs; cases hs
    | some i =>
      rw [hi] at hz hs
      have hz' : i.zero = some z := hz
      have hs' : i.size = 1 := by simpa using hs
      refine wp_buildSlice t e len parts ho cs i z hu hi hz' (by rw [hs']; omega) (by rw [hs']; omega) (by rw [hs', hv]; exact hf) ?_
      exact hK _ _ hR
end
theorem eval_const (a : Act) (v : Value) : a.eval (.const v) = v := rfl
theorem size_sl : (Tryd.prog.info? 25).map (·.size) = some 1 := by kernel_rfl
theorem zero_sl : (Tryd.prog.info? 25).bind (·.zero) = some (.slice none 0 0) := by kernel_rfl
theorem tell_len32 (st : List Int) : (tell32 st).length = 32 := by simp [tell32]
theorem tell_len64 (st : List Int) : (tell64 st).length = 64 := by simp [tell64]
theorem Bytes.take {l : List Int} (h : Bytes l) (k : Nat) : Bytes (l.take k) := fun x hx => h x (List.mem_of_mem_take hx)
theorem rdi_cutV0 {K : IntKind} {w : World} {a : Option Addr} {n cap : Nat} {zs : List Int} (hr : RdI K w (.slice a n cap) zs) (h : Nat) (h2 : h ≤ n) : RdI K w (cutV a 0 h cap) (zs.take h) := by
  have := rdi_cutV hr 0 h (Nat.zero_le _) h2
  simpa using this
theorem rdi_cutV1 {K : IntKind} {w : World} {a : Option Addr} {cap : Nat} {zs : List Int} (hr : RdI K w (.slice a zs.length cap) zs) (l : Nat) (h2 : l ≤ zs.length) : RdI K w (cutV a l zs.length cap) (zs.drop l) := by
  have := rdi_cutV hr l zs.length h2 (Nat.le_refl _)
  rwa [List.take_of_length_le (by simp)] at this
section
variable {P : Program} {o : Oper} {A : Act} {w : World} {a : Option Addr} {n cap : Nat} {x y z : Operand}
theorem elem_of {t e : TypeId} (hu : P.underlying t = some (.slice e)) : P.elem t = e := by simp [Program.elem, hu]
theorem run_one {e : TypeId} (h : (P.info? e).map (·.size) = some 1) : (sizeOf e).run P w = .ok 1 w := by
  cases hi : P.info? e with
  | none => rw [hi] at h; cases h
  | some i =>
    have hq : i.size = 1 := by simpa [hi] using h
    simp [sizeOf, typeInfo, hi, hq]
theorem cut_lh (t : TypeId) {e : TypeId} (hu : P.underlying t = some (.slice e)) (h1 : (P.info? e).map (·.size) = some 1) (ho : o.op = .slice t x (some y) (some z) none) (hx : A.eval x = .slice a n cap) {l h : Nat} (hy : A.eval y = .int .i64 l) (hz : A.eval z = .int .i64 h) (h0 : l ≤ h) (h2 : h ≤ cap) :
    (execOp A.eval o).run P w = .ok (.value (cutV a l h cap)) w := by
  have e1 := elem_of hu
  have hu' : P.underlying t = some (.slice (P.elem t)) := by rw [e1]; exact hu
  unfold execOp
  simp only [ho, hx, hy, hz, Option.map_some, Option.map_none]
  simp [run_sliceAt_slice _ _ _ _ _ _ hu', run_slice_lh w t a n cap hu' .i64 .i64 l h (by omega) (by omega) (by omega), e1, run_one h1, cutV]
theorem cut_h (t : TypeId) {e : TypeId} (hu : P.underlying t = some (.slice e)) (h1 : (P.info? e).map (·.size) = some 1) (ho : o.op = .slice t x none (some z) none) (hx : A.eval x = .slice a n cap) {h : Nat} (hz : A.eval z = .int .i64 h) (h2 : h ≤ cap) :
    (execOp A.eval o).run P w = .ok (.value (cutV a 0 h cap)) w := by
  have e1 := elem_of hu
  have hu' : P.underlying t = some (.slice (P.elem t)) := by rw [e1]; exact hu
  unfold execOp
  simp only [ho, hx, hz, Option.map_some, Option.map_none]
  simp [run_sliceAt_slice _ _ _ _ _ _ hu', run_slice_h w t a n cap hu' .i64 h (by omega) (by omega), e1, run_one h1, cutV]
theorem cut_l (t : TypeId) {e : TypeId} (hu : P.underlying t = some (.slice e)) (h1 : (P.info? e).map (·.size) = some 1) (ho : o.op = .slice t x (some y) none none) (hx : A.eval x = .slice a n cap) {l : Nat} (hy : A.eval y = .int .i64 l) (h2 : l ≤ n) :
    (execOp A.eval o).run P w = .ok (.value (cutV a l n cap)) w := by
  have e1 := elem_of hu
  have hu' : P.underlying t = some (.slice (P.elem t)) := by rw [e1]; exact hu
  unfold execOp
  simp only [ho, hx, hy, Option.map_some, Option.map_none]
  simp [run_sliceAt_slice _ _ _ _ _ _ hu', run_slice_l w t a n cap hu' .i64 l (by omega) (by omega), e1, run_one h1, cutV]
end
theorem one_u8 : (Tryd.prog.info? 5).map (·.size) = some 1 := by kernel_rfl
theorem cat_one (v : Value) (zs : List Int) : cat [(v, zs)] = zs := by simp [cat]
theorem cat_cut3 (a b c : Value) (zs : List Int) (x y : Nat) (h : x ≤ y) : cat [(a, zs.take x), (b, (zs.drop x).take (y - x)), (c, zs.drop y)] = zs := by
  have e : zs.drop y = (zs.drop x).drop (y - x) := by rw [List.drop_drop]; congr 1; omega
  unfold cat
  show zs.take x ++ ((zs.drop x).take (y - x) ++ (zs.drop y ++ [])) = zs
  rw [List.append_nil, e, List.take_append_drop, List.take_append_drop]
theorem cat_cut4 (a b d c : Value) (zs : List Int) (x y : Nat) (h : x ≤ y) : cat [(a, zs.take x), (b, (zs.drop x).take (y - x)), (d, []), (c, zs.drop y)] = zs := by
  have := cat_cut3 a b c zs x y h
  simpa [cat] using this
set_option maxHeartbeats 4000000 in
theorem parts_v (v : Value) (i k : Int) (zs : List Int) (w : World) (hT : TabS w) (rz : RdI .u8 w v zs) (bz : Bytes zs) (hi : 0 ≤ i ∧ i ≤ 65535) (hk : 0 ≤ k ∧ k ≤ 65535) :
    Calls Tryd.prog 4 #[v, .int .u16 i, .int .u16 k] w fun e w' => e = .returned (.bool true) ∧ Below w.heap.size w w' := by
  have rz0 := rz
  obtain ⟨ab, cb, rfl, hlb, hmb, -, -⟩ := rz0
  have hmc := hmb
  unfold maxLen at hmb
  obtain ⟨hi0, hi1⟩ := hi
  obtain ⟨hk0, hk1⟩ := hk
  by_cases h1 : zs.length ≤ 5000
  case neg =>
    go_enter Tryd.func4, Tryd.ntmps4
    go_wp2_with (first
      | (go_at_call 7; (with_reducible refine (alive_v w hT).mono ?_); rintro e w2 ⟨rfl, B⟩))
    all_goals go_ret
    all_goals first | exact ⟨rfl, B⟩ | omega
  obtain ⟨x, hx, hxn⟩ : ∃ x : Nat, i.tmod ((zs.length : Int) + 1) = x ∧ x ≤ zs.length := by
    rw [Int.tmod_eq_emod_of_nonneg hi0]
    have a1 := Int.emod_nonneg i (b := (zs.length : Int) + 1) (by omega)
    have a2 := Int.emod_lt_of_pos i (b := (zs.length : Int) + 1) (by omega)
    exact ⟨(i % ((zs.length : Int) + 1)).toNat, by omega, by omega⟩
  obtain ⟨z, hz, hzn⟩ : ∃ z : Nat, k.tmod ((zs.length : Int) - x + 1) = z ∧ x + z ≤ zs.length := by
    rw [Int.tmod_eq_emod_of_nonneg hk0]
    have a1 := Int.emod_nonneg k (b := (zs.length : Int) - x + 1) (by omega)
    have a2 := Int.emod_lt_of_pos k (b := (zs.length : Int) - x + 1) (by omega)
    exact ⟨(k % ((zs.length : Int) - x + 1)).toNat, by omega, by omega⟩
  obtain ⟨y, hy, hyn, hxy⟩ : ∃ y : Nat, (x : Int) + (z : Int) = y ∧ y ≤ zs.length ∧ x ≤ y := ⟨x + z, by omega, by omega, by omega⟩
  have HA : ∀ W v ps, TabS W → RdP W v ps → cat ps = zs → Calls Tryd.prog 10 #[v] W fun e w' => e = .returned (aggI .u8 (sum32 zs)) ∧ Below W.heap.size W w' := fun W v ps h1 h2 h3 => by
    have := sum32_v W h1 v ps h2 (by rw [h3]; omega)
    rwa [h3] at this
  have HB : ∀ W v ps, TabS W → RdP W v ps → cat ps = zs → Calls Tryd.prog 12 #[v] W fun e w' => e = .returned (aggI .u8 (sum64 zs)) ∧ Below W.heap.size W w' := fun W v ps h1 h2 h3 => by
    have := sum64_v W h1 v ps h2 (by rw [h3]; omega)
    rwa [h3] at this
  have lsa : (sum32 zs).length = 32 := tell_len32 _
  have lsb : (sum64 zs).length = 64 := tell_len64 _
  have c1 := cat_one (.slice ab zs.length cb) zs
  have c3 := cat_cut3 (cutV ab 0 x cb) (cutV ab x y cb) (cutV ab y zs.length cb) zs x y hxy
  have c4 := cat_cut4 (cutV ab 0 x cb) (cutV ab x y cb) (.slice none 0 0) (cutV ab y zs.length cb) zs x y hxy
  generalize sum32 zs = sa at *
  generalize sum64 zs = sb at *
  replace HA := Lib.hid HA
  replace HB := Lib.hid HB
  replace c1 := Lib.hid c1
  replace c3 := Lib.hid c3
  replace c4 := Lib.hid c4
  replace lsa := Lib.hid lsa
  replace lsb := Lib.hid lsb
  replace bz := Lib.hid bz
  go_enter Tryd.func4, Tryd.ntmps4
  go_wp2_with (first
    | (go_at_call 7; (with_reducible refine (alive_v w hT).mono ?_); rintro e w2 ⟨rfl, B⟩; have rz2 := rz.below B; have hT2 := hT.below B))
  replace HA := HA.out
  replace HB := HB.out
  replace c1 := c1.out
  replace c3 := c3.out
  replace c4 := c4.out
  replace lsa := lsa.out
  replace lsb := lsb.out
  replace bz := bz.out
  refine wp_region_ord [[], [0], [1], [], [], [3, 4], [], [], [], [6, 7, 8], [], [], [10, 11], [5, 9, 12], [13, 2], [2, 14], [15, 14], [16], [16], [17, 18, 16], [16], [16], [16], [20, 21, 22, 16], [16], [16], [24, 25, 16], [19, 23, 26, 16], [27, 16, 16], [16], [29, 16], [30, 28, 16], [28, 31, 16], [16, 32], [33, 31, 0, 1, 2, 3, 4, 5, 6, 7, 8, 9, 10, 11, 12, 13, 14, 15, 16, 17, 18, 19, 20, 21, 22, 23, 24, 25, 26, 27, 28, 29, 30, 31, 32, 33]] [some 30, some 31, some 32, some 33, some 34, some 35, some 36, some 37, some 38, some 39, some 40, some 41, some 42, some 43, some 44, some 45, some 46, some 47, some 48, some 49, some 50, some 51, some 52, some 53, some 54, some 55, some 56, some 57, some 58, some 59, some 60, some 61, some 62, some 63, some 6] 35 (fun b w' => RdI .u8 w' (.slice ab zs.length cb) zs ∧ TabS w' ∧ Below w2.heap.size w2 w') (fun opn f wo => match opn with | 0 => f 0 = .slice ab zs.length cb | 1 => RdP wo (f 1) ([(.slice ab zs.length cb, zs)]) | 2 => f 2 = aggI .u8 sa | 3 => f 3 = .slice ab zs.length cb | 4 => f 4 = .int .i64 (x : Nat) | 5 => f 5 = cutV ab 0 x cb | 6 => f 6 = .slice ab zs.length cb | 7 => f 7 = .int .i64 (x : Nat) | 8 => f 8 = .int .i64 (y : Nat) | 9 => f 9 = cutV ab x y cb | 10 => f 10 = .slice ab zs.length cb | 11 => f 11 = .int .i64 (y : Nat) | 12 => f 12 = cutV ab y zs.length cb | 13 => RdP wo (f 13) ([(cutV ab 0 x cb, zs.take x), (cutV ab x y cb, (zs.drop x).take (y - x)), (.slice none 0 0, []), (cutV ab y zs.length cb, zs.drop y)]) | 14 => f 14 = aggI .u8 sa | 15 => f 15 = .bool true | 16 => f 16 = .bool true | 17 => f 17 = .slice ab zs.length cb | 18 => f 18 = .int .i64 (x : Nat) | 19 => f 19 = cutV ab 0 x cb | 20 => f 20 = .slice ab zs.length cb | 21 => f 21 = .int .i64 (x : Nat) | 22 => f 22 = .int .i64 (y : Nat) | 23 => f 23 = cutV ab x y cb | 24 => f 24 = .slice ab zs.length cb | 25 => f 25 = .int .i64 (y : Nat) | 26 => f 26 = cutV ab y zs.length cb | 27 => RdP wo (f 27) ([(cutV ab 0 x cb, zs.take x), (cutV ab x y cb, (zs.drop x).take (y - x)), (cutV ab y zs.length cb, zs.drop y)]) | 28 => f 28 = aggI .u8 sb | 29 => f 29 = .slice ab zs.length cb | 30 => RdP wo (f 30) ([(.slice ab zs.length cb, zs)]) | 31 => f 31 = aggI .u8 sb | 32 => f 32 = .bool true | 33 => f 33 = .bool true | 34 => f 34 = .bool true | _ => True) (fun _ v v' => v = v') (by kernel_rfl) (by kernel_rfl) (by kernel_rfl) (by kernel_rfl) (fun b v v' hb h => ⟨h.1.below hb, h.2.1.below hb, below_then h.2.2 hb⟩) (by intro j g v v' hb h; match j, h with | 1, h => exact h.below hb | 13, h => exact h.below hb | 27, h => exact h.below hb | 30, h => exact h.below hb | 0, h => exact h | 2, h => exact h | 3, h => exact h | 4, h => exact h | 5, h => exact h | 6, h => exact h | 7, h => exact h | 8, h => exact h | 9, h => exact h | 10, h => exact h | 11, h => exact h | 12, h => exact h | 14, h => exact h | 15, h => exact h | 16, h => exact h | 17, h => exact h | 18, h => exact h | 19, h => exact h | 20, h => exact h | 21, h => exact h | 22, h => exact h | 23, h => exact h | 24, h => exact h | 25, h => exact h | 26, h => exact h | 28, h => exact h | 29, h => exact h | 31, h => exact h | 32, h => exact h | 33, h => exact h | 34, h => exact h | _ + 35, h => exact trivial) (fun _ _ _ _ _ _ hS h => by obtain rfl := hS; exact h) ⟨rz2.below (Below.refl _ _).drew, hT2.below (Below.refl _ _).drew, (Below.refl _ _).drew⟩ ?_ ?_
  ·
    refine StepL.other (k := 0) rfl (fun b f W hb hG hH => ?_) ?_
    · -- 0
      clear hH
      generalize hA : putL _ _ _ _ = A
      have q0 : A.eval (.tmp 0) = .slice ab zs.length cb := by rw [← hA]; exact putL_none rfl rfl rfl rfl
      have r0 : A.tmps[0]?.getD undef = .slice ab zs.length cb := slot_get q0
      clear hA
      refine Does.pure rfl (.slice ab zs.length cb) ?_ ⟨Below.refl _ _, rfl⟩
      go_simp
    refine StepL.other (k := 1) rfl (fun b f W hb hG hH => ?_) ?_
    · -- 1
      obtain ⟨d0, -⟩ : (f 0 = .slice ab zs.length cb) ∧ True := hH
      generalize hA : putL _ _ _ _ = A
      have q30 : A.eval (.tmp 30) = .slice ab zs.length cb := by rw [← hA]; exact putL_look rfl rfl rfl d0
      have r30 : A.tmps[30]?.getD undef = .slice ab zs.length cb := slot_get q30
      clear hA
      refine Does.buildP rfl 22 25 1 _ rfl Tryd.underlying22 size_sl zero_sl (by decide) (by decide) [(0, .slice ab zs.length cb)] (by simp [q30]) #[.slice ab zs.length cb] (by kernel_rfl) ?_
      exact ⟨(Below.refl _ _).alloc (Nat.le_refl _) _, rdp_lit [(.slice ab zs.length cb, zs)] 25 (by simpa using ⟨hG.1, bz⟩) (by simp)⟩
    refine StepL.other (k := 2) rfl (fun b f W hb hG hH => ?_) ?_
    · -- 2
      obtain ⟨d1, -⟩ : (RdP W (f 1) ([(.slice ab zs.length cb, zs)])) ∧ True := hH
      generalize hA : putL _ _ _ _ = A
      have q31 : A.eval (.tmp 31) = f 1 := by rw [← hA]; exact putL_look rfl rfl rfl rfl
      have r31 : A.tmps[31]?.getD undef = f 1 := slot_get q31
      clear hA
      refine Does.call rfl _ _ (by go_simp) ((HA W _ _ (hG.2.1) d1 c1).mono ?_)
      rintro e w' ⟨rfl, hb'⟩
      exact ⟨_, rfl, hb', rfl⟩
    refine StepL.other (k := 3) rfl (fun b f W hb hG hH => ?_) ?_
    · -- 3
      clear hH
      generalize hA : putL _ _ _ _ = A
      have q0 : A.eval (.tmp 0) = .slice ab zs.length cb := by rw [← hA]; exact putL_none rfl rfl rfl rfl
      have r0 : A.tmps[0]?.getD undef = .slice ab zs.length cb := slot_get q0
      clear hA
      refine Does.pure rfl (.slice ab zs.length cb) ?_ ⟨Below.refl _ _, rfl⟩
      go_simp
    refine StepL.other (k := 4) rfl (fun b f W hb hG hH => ?_) ?_
    · -- 4
      clear hH
      generalize hA : putL _ _ _ _ = A
      have q7 : A.eval (.tmp 7) = .int .i64 (x : Nat) := by rw [← hA]; exact putL_none rfl rfl rfl rfl
      have r7 : A.tmps[7]?.getD undef = .int .i64 (x : Nat) := slot_get q7
      clear hA
      refine Does.pure rfl (.int .i64 (x : Nat)) ?_ ⟨Below.refl _ _, rfl⟩
      go_simp
    refine StepL.other (k := 5) rfl (fun b f W hb hG hH => ?_) ?_
    · -- 5
      obtain ⟨d3, d4, -⟩ : (f 3 = .slice ab zs.length cb) ∧ (f 4 = .int .i64 (x : Nat)) ∧ True := hH
      generalize hA : putL _ _ _ _ = A
      have q33 : A.eval (.tmp 33) = .slice ab zs.length cb := by rw [← hA]; exact putL_look rfl rfl rfl d3
      have r33 : A.tmps[33]?.getD undef = .slice ab zs.length cb := slot_get q33
      have q34 : A.eval (.tmp 34) = .int .i64 (x : Nat) := by rw [← hA]; exact putL_look rfl rfl rfl d4
      have r34 : A.tmps[34]?.getD undef = .int .i64 (x : Nat) := slot_get q34
      clear hA
      refine Does.pure rfl (cutV ab 0 x cb) ?_ ⟨Below.refl _ _, rfl⟩
      exact cut_h 25 Tryd.underlying25 one_u8 rfl q33 q34 (by omega)
    refine StepL.other (k := 6) rfl (fun b f W hb hG hH => ?_) ?_
    · -- 6
      clear hH
      generalize hA : putL _ _ _ _ = A
      have q0 : A.eval (.tmp 0) = .slice ab zs.length cb := by rw [← hA]; exact putL_none rfl rfl rfl rfl
      have r0 : A.tmps[0]?.getD undef = .slice ab zs.length cb := slot_get q0
      clear hA
      refine Does.pure rfl (.slice ab zs.length cb) ?_ ⟨Below.refl _ _, rfl⟩
      go_simp
    refine StepL.other (k := 7) rfl (fun b f W hb hG hH => ?_) ?_
    · -- 7
      clear hH
      generalize hA : putL _ _ _ _ = A
      have q7 : A.eval (.tmp 7) = .int .i64 (x : Nat) := by rw [← hA]; exact putL_none rfl rfl rfl rfl
      have r7 : A.tmps[7]?.getD undef = .int .i64 (x : Nat) := slot_get q7
      clear hA
      refine Does.pure rfl (.int .i64 (x : Nat)) ?_ ⟨Below.refl _ _, rfl⟩
      go_simp
    refine StepL.other (k := 8) rfl (fun b f W hb hG hH => ?_) ?_
    · -- 8
      clear hH
      generalize hA : putL _ _ _ _ = A
      have q8 : A.eval (.tmp 8) = .int .i64 (y : Nat) := by rw [← hA]; exact putL_none rfl rfl rfl rfl
      have r8 : A.tmps[8]?.getD undef = .int .i64 (y : Nat) := slot_get q8
      clear hA
      refine Does.pure rfl (.int .i64 (y : Nat)) ?_ ⟨Below.refl _ _, rfl⟩
      go_simp
    refine StepL.other (k := 9) rfl (fun b f W hb hG hH => ?_) ?_
    · -- 9
      obtain ⟨d6, d7, d8, -⟩ : (f 6 = .slice ab zs.length cb) ∧ (f 7 = .int .i64 (x : Nat)) ∧ (f 8 = .int .i64 (y : Nat)) ∧ True := hH
      generalize hA : putL _ _ _ _ = A
      have q36 : A.eval (.tmp 36) = .slice ab zs.length cb := by rw [← hA]; exact putL_look rfl rfl rfl d6
      have r36 : A.tmps[36]?.getD undef = .slice ab zs.length cb := slot_get q36
      have q37 : A.eval (.tmp 37) = .int .i64 (x : Nat) := by rw [← hA]; exact putL_look rfl rfl rfl d7
      have r37 : A.tmps[37]?.getD undef = .int .i64 (x : Nat) := slot_get q37
      have q38 : A.eval (.tmp 38) = .int .i64 (y : Nat) := by rw [← hA]; exact putL_look rfl rfl rfl d8
      have r38 : A.tmps[38]?.getD undef = .int .i64 (y : Nat) := slot_get q38
      clear hA
      refine Does.pure rfl (cutV ab x y cb) ?_ ⟨Below.refl _ _, rfl⟩
      exact cut_lh 25 Tryd.underlying25 one_u8 rfl q36 q37 q38 (by omega) (by omega)
    refine StepL.other (k := 10) rfl (fun b f W hb hG hH => ?_) ?_
    · -- 10
      clear hH
      generalize hA : putL _ _ _ _ = A
      have q0 : A.eval (.tmp 0) = .slice ab zs.length cb := by rw [← hA]; exact putL_none rfl rfl rfl rfl
      have r0 : A.tmps[0]?.getD undef = .slice ab zs.length cb := slot_get q0
      clear hA
      refine Does.pure rfl (.slice ab zs.length cb) ?_ ⟨Below.refl _ _, rfl⟩
      go_simp
    refine StepL.other (k := 11) rfl (fun b f W hb hG hH => ?_) ?_
    · -- 11
      clear hH
      generalize hA : putL _ _ _ _ = A
      have q8 : A.eval (.tmp 8) = .int .i64 (y : Nat) := by rw [← hA]; exact putL_none rfl rfl rfl rfl
      have r8 : A.tmps[8]?.getD undef = .int .i64 (y : Nat) := slot_get q8
      clear hA
      refine Does.pure rfl (.int .i64 (y : Nat)) ?_ ⟨Below.refl _ _, rfl⟩
      go_simp
    refine StepL.other (k := 12) rfl (fun b f W hb hG hH => ?_) ?_
    · -- 12
      obtain ⟨d10, d11, -⟩ : (f 10 = .slice ab zs.length cb) ∧ (f 11 = .int .i64 (y : Nat)) ∧ True := hH
      generalize hA : putL _ _ _ _ = A
      have q40 : A.eval (.tmp 40) = .slice ab zs.length cb := by rw [← hA]; exact putL_look rfl rfl rfl d10
      have r40 : A.tmps[40]?.getD undef = .slice ab zs.length cb := slot_get q40
      have q41 : A.eval (.tmp 41) = .int .i64 (y : Nat) := by rw [← hA]; exact putL_look rfl rfl rfl d11
      have r41 : A.tmps[41]?.getD undef = .int .i64 (y : Nat) := slot_get q41
      clear hA
      refine Does.pure rfl (cutV ab y zs.length cb) ?_ ⟨Below.refl _ _, rfl⟩
      exact cut_l 25 Tryd.underlying25 one_u8 rfl q40 q41 (by omega)
    refine StepL.other (k := 13) rfl (fun b f W hb hG hH => ?_) ?_
    · -- 13
      obtain ⟨d5, d9, d12, -⟩ : (f 5 = cutV ab 0 x cb) ∧ (f 9 = cutV ab x y cb) ∧ (f 12 = cutV ab y zs.length cb) ∧ True := hH
      generalize hA : putL _ _ _ _ = A
      have q35 : A.eval (.tmp 35) = cutV ab 0 x cb := by rw [← hA]; exact putL_look rfl rfl rfl d5
      have r35 : A.tmps[35]?.getD undef = cutV ab 0 x cb := slot_get q35
      have q39 : A.eval (.tmp 39) = cutV ab x y cb := by rw [← hA]; exact putL_look rfl rfl rfl d9
      have r39 : A.tmps[39]?.getD undef = cutV ab x y cb := slot_get q39
      have q42 : A.eval (.tmp 42) = cutV ab y zs.length cb := by rw [← hA]; exact putL_look rfl rfl rfl d12
      have r42 : A.tmps[42]?.getD undef = cutV ab y zs.length cb := slot_get q42
      clear hA
      refine Does.buildP rfl 22 25 4 _ rfl Tryd.underlying22 size_sl zero_sl (by decide) (by decide) [(0, cutV ab 0 x cb), (1, cutV ab x y cb), (2, .slice none 0 0), (3, cutV ab y zs.length cb)] (by simp [q35, q39, q42, eval_const]) #[cutV ab 0 x cb, cutV ab x y cb, .slice none 0 0, cutV ab y zs.length cb] (by kernel_rfl) ?_
      exact ⟨(Below.refl _ _).alloc (Nat.le_refl _) _, rdp_lit [(cutV ab 0 x cb, zs.take x), (cutV ab x y cb, (zs.drop x).take (y - x)), (.slice none 0 0, []), (cutV ab y zs.length cb, zs.drop y)] 25 (by simpa using ⟨⟨rdi_cutV0 hG.1 x (by omega), bz.take x⟩, ⟨rdi_cutV hG.1 x y (by omega) (by omega), (bz.drop x).take _⟩, ⟨RdI.nil, fun x h => by cases h⟩, ⟨rdi_cutV1 hG.1 y (by omega), bz.drop y⟩⟩) (by simp)⟩
    refine StepL.other (k := 14) rfl (fun b f W hb hG hH => ?_) ?_
    · -- 14
      obtain ⟨d13, d2, -⟩ : (RdP W (f 13) ([(cutV ab 0 x cb, zs.take x), (cutV ab x y cb, (zs.drop x).take (y - x)), (.slice none 0 0, []), (cutV ab y zs.length cb, zs.drop y)])) ∧ (f 2 = aggI .u8 sa) ∧ True := hH
      generalize hA : putL _ _ _ _ = A
      have q43 : A.eval (.tmp 43) = f 13 := by rw [← hA]; exact putL_look rfl rfl rfl rfl
      have r43 : A.tmps[43]?.getD undef = f 13 := slot_get q43
      clear hA
      refine Does.call rfl _ _ (by go_simp) ((HA W _ _ (hG.2.1) d13 c4).mono ?_)
      rintro e w' ⟨rfl, hb'⟩
      exact ⟨_, rfl, hb', rfl⟩
    refine StepL.other (k := 15) rfl (fun b f W hb hG hH => ?_) ?_
    · -- 15
      obtain ⟨d2, d14, -⟩ : (f 2 = aggI .u8 sa) ∧ (f 14 = aggI .u8 sa) ∧ True := hH
      generalize hA : putL _ _ _ _ = A
      have q32 : A.eval (.tmp 32) = aggI .u8 sa := by rw [← hA]; exact putL_look rfl rfl rfl d2
      have r32 : A.tmps[32]?.getD undef = aggI .u8 sa := slot_get q32
      have q44 : A.eval (.tmp 44) = aggI .u8 sa := by rw [← hA]; exact putL_look rfl rfl rfl d14
      have r44 : A.tmps[44]?.getD undef = aggI .u8 sa := slot_get q44
      clear hA
      exact Does.eqlI rfl 27 _ 5 _ _ rfl 32 und_b32 .u8 .u8 Tryd.underlying5 (by kernel_rfl) (by kernel_rfl) sa sa q32 q44 lsa lsa true (by simp) ⟨Below.refl _ _, rfl⟩
    refine StepL.other (k := 16) rfl (fun b f W hb hG hH => ?_) ?_
    · -- 16
      obtain ⟨d15, d14, -⟩ : (f 15 = .bool true) ∧ (f 14 = aggI .u8 sa) ∧ True := hH
      generalize hA : putL _ _ _ _ = A
      have q45 : A.eval (.tmp 45) = .bool true := by rw [← hA]; exact putL_look rfl rfl rfl d15
      have r45 : A.tmps[45]?.getD undef = .bool true := slot_get q45
      clear hA
      refine Does.pure rfl (.bool true) ?_ ⟨Below.refl _ _, rfl⟩
      go_simp
    refine StepL.other (k := 17) rfl (fun b f W hb hG hH => ?_) ?_
    · -- 17
      obtain ⟨d16, -⟩ : (f 16 = .bool true) ∧ True := hH
      generalize hA : putL _ _ _ _ = A
      have q0 : A.eval (.tmp 0) = .slice ab zs.length cb := by rw [← hA]; exact putL_none rfl rfl rfl rfl
      have r0 : A.tmps[0]?.getD undef = .slice ab zs.length cb := slot_get q0
      have q46 : A.eval (.tmp 46) = .bool true := by rw [← hA]; exact putL_look rfl rfl rfl d16
      have r46 : A.tmps[46]?.getD undef = .bool true := slot_get q46
      clear hA
      refine Does.pure (wanted_of (b := true) rfl rfl q46) (.slice ab zs.length cb) ?_ ⟨Below.refl _ _, rfl⟩
      go_simp
    refine StepL.other (k := 18) rfl (fun b f W hb hG hH => ?_) ?_
    · -- 18
      obtain ⟨d16, -⟩ : (f 16 = .bool true) ∧ True := hH
      generalize hA : putL _ _ _ _ = A
      have q7 : A.eval (.tmp 7) = .int .i64 (x : Nat) := by rw [← hA]; exact putL_none rfl rfl rfl rfl
      have r7 : A.tmps[7]?.getD undef = .int .i64 (x : Nat) := slot_get q7
      have q46 : A.eval (.tmp 46) = .bool true := by rw [← hA]; exact putL_look rfl rfl rfl d16
      have r46 : A.tmps[46]?.getD undef = .bool true := slot_get q46
      clear hA
      refine Does.pure (wanted_of (b := true) rfl rfl q46) (.int .i64 (x : Nat)) ?_ ⟨Below.refl _ _, rfl⟩
      go_simp
    refine StepL.other (k := 19) rfl (fun b f W hb hG hH => ?_) ?_
    · -- 19
      obtain ⟨d17, d18, d16, -⟩ : (f 17 = .slice ab zs.length cb) ∧ (f 18 = .int .i64 (x : Nat)) ∧ (f 16 = .bool true) ∧ True := hH
      generalize hA : putL _ _ _ _ = A
      have q47 : A.eval (.tmp 47) = .slice ab zs.length cb := by rw [← hA]; exact putL_look rfl rfl rfl d17
      have r47 : A.tmps[47]?.getD undef = .slice ab zs.length cb := slot_get q47
      have q48 : A.eval (.tmp 48) = .int .i64 (x : Nat) := by rw [← hA]; exact putL_look rfl rfl rfl d18
      have r48 : A.tmps[48]?.getD undef = .int .i64 (x : Nat) := slot_get q48
      have q46 : A.eval (.tmp 46) = .bool true := by rw [← hA]; exact putL_look rfl rfl rfl d16
      have r46 : A.tmps[46]?.getD undef = .bool true := slot_get q46
      clear hA
      refine Does.pure (wanted_of (b := true) rfl rfl q46) (cutV ab 0 x cb) ?_ ⟨Below.refl _ _, rfl⟩
      exact cut_h 25 Tryd.underlying25 one_u8 rfl q47 q48 (by omega)
    refine StepL.other (k := 20) rfl (fun b f W hb hG hH => ?_) ?_
    · -- 20
      obtain ⟨d16, -⟩ : (f 16 = .bool true) ∧ True := hH
      generalize hA : putL _ _ _ _ = A
      have q0 : A.eval (.tmp 0) = .slice ab zs.length cb := by rw [← hA]; exact putL_none rfl rfl rfl rfl
      have r0 : A.tmps[0]?.getD undef = .slice ab zs.length cb := slot_get q0
      have q46 : A.eval (.tmp 46) = .bool true := by rw [← hA]; exact putL_look rfl rfl rfl d16
      have r46 : A.tmps[46]?.getD undef = .bool true := slot_get q46
      clear hA
      refine Does.pure (wanted_of (b := true) rfl rfl q46) (.slice ab zs.length cb) ?_ ⟨Below.refl _ _, rfl⟩
      go_simp
    refine StepL.other (k := 21) rfl (fun b f W hb hG hH => ?_) ?_
    · -- 21
      obtain ⟨d16, -⟩ : (f 16 = .bool true) ∧ True := hH
      generalize hA : putL _ _ _ _ = A
      have q7 : A.eval (.tmp 7) = .int .i64 (x : Nat) := by rw [← hA]; exact putL_none rfl rfl rfl rfl
      have r7 : A.tmps[7]?.getD undef = .int .i64 (x : Nat) := slot_get q7
      have q46 : A.eval (.tmp 46) = .bool true := by rw [← hA]; exact putL_look rfl rfl rfl d16
      have r46 : A.tmps[46]?.getD undef = .bool true := slot_get q46
      clear hA
      refine Does.pure (wanted_of (b := true) rfl rfl q46) (.int .i64 (x : Nat)) ?_ ⟨Below.refl _ _, rfl⟩
      go_simp
    refine StepL.other (k := 22) rfl (fun b f W hb hG hH => ?_) ?_
    · -- 22
      obtain ⟨d16, -⟩ : (f 16 = .bool true) ∧ True := hH
      generalize hA : putL _ _ _ _ = A
      have q8 : A.eval (.tmp 8) = .int .i64 (y : Nat) := by rw [← hA]; exact putL_none rfl rfl rfl rfl
      have r8 : A.tmps[8]?.getD undef = .int .i64 (y : Nat) := slot_get q8
      have q46 : A.eval (.tmp 46) = .bool true := by rw [← hA]; exact putL_look rfl rfl rfl d16
      have r46 : A.tmps[46]?.getD undef = .bool true := slot_get q46
      clear hA
      refine Does.pure (wanted_of (b := true) rfl rfl q46) (.int .i64 (y : Nat)) ?_ ⟨Below.refl _ _, rfl⟩
      go_simp
    refine StepL.other (k := 23) rfl (fun b f W hb hG hH => ?_) ?_
    · -- 23
      obtain ⟨d20, d21, d22, d16, -⟩ : (f 20 = .slice ab zs.length cb) ∧ (f 21 = .int .i64 (x : Nat)) ∧ (f 22 = .int .i64 (y : Nat)) ∧ (f 16 = .bool true) ∧ True := hH
      generalize hA : putL _ _ _ _ = A
      have q50 : A.eval (.tmp 50) = .slice ab zs.length cb := by rw [← hA]; exact putL_look rfl rfl rfl d20
      have r50 : A.tmps[50]?.getD undef = .slice ab zs.length cb := slot_get q50
      have q51 : A.eval (.tmp 51) = .int .i64 (x : Nat) := by rw [← hA]; exact putL_look rfl rfl rfl d21
      have r51 : A.tmps[51]?.getD undef = .int .i64 (x : Nat) := slot_get q51
      have q52 : A.eval (.tmp 52) = .int .i64 (y : Nat) := by rw [← hA]; exact putL_look rfl rfl rfl d22
      have r52 : A.tmps[52]?.getD undef = .int .i64 (y : Nat) := slot_get q52
      have q46 : A.eval (.tmp 46) = .bool true := by rw [← hA]; exact putL_look rfl rfl rfl d16
      have r46 : A.tmps[46]?.getD undef = .bool true := slot_get q46
      clear hA
      refine Does.pure (wanted_of (b := true) rfl rfl q46) (cutV ab x y cb) ?_ ⟨Below.refl _ _, rfl⟩
      exact cut_lh 25 Tryd.underlying25 one_u8 rfl q50 q51 q52 (by omega) (by omega)
    refine StepL.other (k := 24) rfl (fun b f W hb hG hH => ?_) ?_
    · -- 24
      obtain ⟨d16, -⟩ : (f 16 = .bool true) ∧ True := hH
      generalize hA : putL _ _ _ _ = A
      have q0 : A.eval (.tmp 0) = .slice ab zs.length cb := by rw [← hA]; exact putL_none rfl rfl rfl rfl
      have r0 : A.tmps[0]?.getD undef = .slice ab zs.length cb := slot_get q0
      have q46 : A.eval (.tmp 46) = .bool true := by rw [← hA]; exact putL_look rfl rfl rfl d16
      have r46 : A.tmps[46]?.getD undef = .bool true := slot_get q46
      clear hA
      refine Does.pure (wanted_of (b := true) rfl rfl q46) (.slice ab zs.length cb) ?_ ⟨Below.refl _ _, rfl⟩
      go_simp
    refine StepL.other (k := 25) rfl (fun b f W hb hG hH => ?_) ?_
    · -- 25
      obtain ⟨d16, -⟩ : (f 16 = .bool true) ∧ True := hH
      generalize hA : putL _ _ _ _ = A
      have q8 : A.eval (.tmp 8) = .int .i64 (y : Nat) := by rw [← hA]; exact putL_none rfl rfl rfl rfl
      have r8 : A.tmps[8]?.getD undef = .int .i64 (y : Nat) := slot_get q8
      have q46 : A.eval (.tmp 46) = .bool true := by rw [← hA]; exact putL_look rfl rfl rfl d16
      have r46 : A.tmps[46]?.getD undef = .bool true := slot_get q46
      clear hA
      refine Does.pure (wanted_of (b := true) rfl rfl q46) (.int .i64 (y : Nat)) ?_ ⟨Below.refl _ _, rfl⟩
      go_simp
    refine StepL.other (k := 26) rfl (fun b f W hb hG hH => ?_) ?_
    · -- 26
      obtain ⟨d24, d25, d16, -⟩ : (f 24 = .slice ab zs.length cb) ∧ (f 25 = .int .i64 (y : Nat)) ∧ (f 16 = .bool true) ∧ True := hH
      generalize hA : putL _ _ _ _ = A
      have q54 : A.eval (.tmp 54) = .slice ab zs.length cb := by rw [← hA]; exact putL_look rfl rfl rfl d24
      have r54 : A.tmps[54]?.getD undef = .slice ab zs.length cb := slot_get q54
      have q55 : A.eval (.tmp 55) = .int .i64 (y : Nat) := by rw [← hA]; exact putL_look rfl rfl rfl d25
      have r55 : A.tmps[55]?.getD undef = .int .i64 (y : Nat) := slot_get q55
      have q46 : A.eval (.tmp 46) = .bool true := by rw [← hA]; exact putL_look rfl rfl rfl d16
      have r46 : A.tmps[46]?.getD undef = .bool true := slot_get q46
      clear hA
      refine Does.pure (wanted_of (b := true) rfl rfl q46) (cutV ab y zs.length cb) ?_ ⟨Below.refl _ _, rfl⟩
      exact cut_l 25 Tryd.underlying25 one_u8 rfl q54 q55 (by omega)
    refine StepL.other (k := 27) rfl (fun b f W hb hG hH => ?_) ?_
    · -- 27
      obtain ⟨d19, d23, d26, d16, -⟩ : (f 19 = cutV ab 0 x cb) ∧ (f 23 = cutV ab x y cb) ∧ (f 26 = cutV ab y zs.length cb) ∧ (f 16 = .bool true) ∧ True := hH
      generalize hA : putL _ _ _ _ = A
      have q49 : A.eval (.tmp 49) = cutV ab 0 x cb := by rw [← hA]; exact putL_look rfl rfl rfl d19
      have r49 : A.tmps[49]?.getD undef = cutV ab 0 x cb := slot_get q49
      have q53 : A.eval (.tmp 53) = cutV ab x y cb := by rw [← hA]; exact putL_look rfl rfl rfl d23
      have r53 : A.tmps[53]?.getD undef = cutV ab x y cb := slot_get q53
      have q56 : A.eval (.tmp 56) = cutV ab y zs.length cb := by rw [← hA]; exact putL_look rfl rfl rfl d26
      have r56 : A.tmps[56]?.getD undef = cutV ab y zs.length cb := slot_get q56
      have q46 : A.eval (.tmp 46) = .bool true := by rw [← hA]; exact putL_look rfl rfl rfl d16
      have r46 : A.tmps[46]?.getD undef = .bool true := slot_get q46
      clear hA
      refine Does.buildP (wanted_of (b := true) rfl rfl q46) 22 25 3 _ rfl Tryd.underlying22 size_sl zero_sl (by decide) (by decide) [(0, cutV ab 0 x cb), (1, cutV ab x y cb), (2, cutV ab y zs.length cb)] (by simp [q49, q53, q56]) #[cutV ab 0 x cb, cutV ab x y cb, cutV ab y zs.length cb] (by kernel_rfl) ?_
      exact ⟨(Below.refl _ _).alloc (Nat.le_refl _) _, rdp_lit [(cutV ab 0 x cb, zs.take x), (cutV ab x y cb, (zs.drop x).take (y - x)), (cutV ab y zs.length cb, zs.drop y)] 25 (by simpa using ⟨⟨rdi_cutV0 hG.1 x (by omega), bz.take x⟩, ⟨rdi_cutV hG.1 x y (by omega) (by omega), (bz.drop x).take _⟩, ⟨rdi_cutV1 hG.1 y (by omega), bz.drop y⟩⟩) (by simp)⟩
    refine StepL.other (k := 28) rfl (fun b f W hb hG hH => ?_) ?_
    · -- 28
      obtain ⟨d27, d16, -, -⟩ : (RdP W (f 27) ([(cutV ab 0 x cb, zs.take x), (cutV ab x y cb, (zs.drop x).take (y - x)), (cutV ab y zs.length cb, zs.drop y)])) ∧ (f 16 = .bool true) ∧ (f 16 = .bool true) ∧ True := hH
      generalize hA : putL _ _ _ _ = A
      have q57 : A.eval (.tmp 57) = f 27 := by rw [← hA]; exact putL_look rfl rfl rfl rfl
      have r57 : A.tmps[57]?.getD undef = f 27 := slot_get q57
      have q46 : A.eval (.tmp 46) = .bool true := by rw [← hA]; exact putL_look rfl rfl rfl d16
      have r46 : A.tmps[46]?.getD undef = .bool true := slot_get q46
      clear hA
      refine Does.call (wanted_of (b := true) rfl rfl q46) _ _ (by go_simp) ((HB W _ _ (hG.2.1) d27 c3).mono ?_)
      rintro e w' ⟨rfl, hb'⟩
      exact ⟨_, rfl, hb', rfl⟩
    refine StepL.other (k := 29) rfl (fun b f W hb hG hH => ?_) ?_
    · -- 29
      obtain ⟨d16, -⟩ : (f 16 = .bool true) ∧ True := hH
      generalize hA : putL _ _ _ _ = A
      have q0 : A.eval (.tmp 0) = .slice ab zs.length cb := by rw [← hA]; exact putL_none rfl rfl rfl rfl
      have r0 : A.tmps[0]?.getD undef = .slice ab zs.length cb := slot_get q0
      have q46 : A.eval (.tmp 46) = .bool true := by rw [← hA]; exact putL_look rfl rfl rfl d16
      have r46 : A.tmps[46]?.getD undef = .bool true := slot_get q46
      clear hA
      refine Does.pure (wanted_of (b := true) rfl rfl q46) (.slice ab zs.length cb) ?_ ⟨Below.refl _ _, rfl⟩
      go_simp
    refine StepL.other (k := 30) rfl (fun b f W hb hG hH => ?_) ?_
    · -- 30
      obtain ⟨d29, d16, -⟩ : (f 29 = .slice ab zs.length cb) ∧ (f 16 = .bool true) ∧ True := hH
      generalize hA : putL _ _ _ _ = A
      have q59 : A.eval (.tmp 59) = .slice ab zs.length cb := by rw [← hA]; exact putL_look rfl rfl rfl d29
      have r59 : A.tmps[59]?.getD undef = .slice ab zs.length cb := slot_get q59
      have q46 : A.eval (.tmp 46) = .bool true := by rw [← hA]; exact putL_look rfl rfl rfl d16
      have r46 : A.tmps[46]?.getD undef = .bool true := slot_get q46
      clear hA
      refine Does.buildP (wanted_of (b := true) rfl rfl q46) 22 25 1 _ rfl Tryd.underlying22 size_sl zero_sl (by decide) (by decide) [(0, .slice ab zs.length cb)] (by simp [q59]) #[.slice ab zs.length cb] (by kernel_rfl) ?_
      exact ⟨(Below.refl _ _).alloc (Nat.le_refl _) _, rdp_lit [(.slice ab zs.length cb, zs)] 25 (by simpa using ⟨hG.1, bz⟩) (by simp)⟩
    refine StepL.other (k := 31) rfl (fun b f W hb hG hH => ?_) ?_
    · -- 31
      obtain ⟨d30, d28, d16, -⟩ : (RdP W (f 30) ([(.slice ab zs.length cb, zs)])) ∧ (f 28 = aggI .u8 sb) ∧ (f 16 = .bool true) ∧ True := hH
      generalize hA : putL _ _ _ _ = A
      have q60 : A.eval (.tmp 60) = f 30 := by rw [← hA]; exact putL_look rfl rfl rfl rfl
      have r60 : A.tmps[60]?.getD undef = f 30 := slot_get q60
      have q46 : A.eval (.tmp 46) = .bool true := by rw [← hA]; exact putL_look rfl rfl rfl d16
      have r46 : A.tmps[46]?.getD undef = .bool true := slot_get q46
      clear hA
      refine Does.call (wanted_of (b := true) rfl rfl q46) _ _ (by go_simp) ((HB W _ _ (hG.2.1) d30 c1).mono ?_)
      rintro e w' ⟨rfl, hb'⟩
      exact ⟨_, rfl, hb', rfl⟩
    refine StepL.other (k := 32) rfl (fun b f W hb hG hH => ?_) ?_
    · -- 32
      obtain ⟨d28, d31, d16, -⟩ : (f 28 = aggI .u8 sb) ∧ (f 31 = aggI .u8 sb) ∧ (f 16 = .bool true) ∧ True := hH
      generalize hA : putL _ _ _ _ = A
      have q58 : A.eval (.tmp 58) = aggI .u8 sb := by rw [← hA]; exact putL_look rfl rfl rfl d28
      have r58 : A.tmps[58]?.getD undef = aggI .u8 sb := slot_get q58
      have q61 : A.eval (.tmp 61) = aggI .u8 sb := by rw [← hA]; exact putL_look rfl rfl rfl d31
      have r61 : A.tmps[61]?.getD undef = aggI .u8 sb := slot_get q61
      have q46 : A.eval (.tmp 46) = .bool true := by rw [← hA]; exact putL_look rfl rfl rfl d16
      have r46 : A.tmps[46]?.getD undef = .bool true := slot_get q46
      clear hA
      exact Does.eqlI (wanted_of (b := true) rfl rfl q46) 30 _ 5 _ _ rfl 64 und_b64 .u8 .u8 Tryd.underlying5 (by kernel_rfl) (by kernel_rfl) sb sb q58 q61 lsb lsb true (by simp) ⟨Below.refl _ _, rfl⟩
    refine StepL.other (k := 33) rfl (fun b f W hb hG hH => ?_) ?_
    · -- 33
      obtain ⟨d16, d32, -⟩ : (f 16 = .bool true) ∧ (f 32 = .bool true) ∧ True := hH
      generalize hA : putL _ _ _ _ = A
      have q46 : A.eval (.tmp 46) = .bool true := by rw [← hA]; exact putL_look rfl rfl rfl d16
      have r46 : A.tmps[46]?.getD undef = .bool true := slot_get q46
      have q62 : A.eval (.tmp 62) = .bool true := by rw [← hA]; exact putL_look rfl rfl rfl d32
      have r62 : A.tmps[62]?.getD undef = .bool true := slot_get q62
      clear hA
      refine Does.pure rfl (.bool true) ?_ ⟨Below.refl _ _, rfl⟩
      go_simp
    refine StepL.other (k := 34) rfl (fun b f W hb hG hH => ?_) ?_
    · -- 34
      obtain ⟨d33, d31, d0, d1, d2, d3, d4, d5, d6, d7, d8, d9, d10, d11, d12, d13, d14, d15, d16, d17, d18, d19, d20, d21, d22, d23, d24, d25, d26, d27, d28, d29, d30, -, d32, -, -⟩ : (f 33 = .bool true) ∧ (f 31 = aggI .u8 sb) ∧ (f 0 = .slice ab zs.length cb) ∧ (RdP W (f 1) ([(.slice ab zs.length cb, zs)])) ∧ (f 2 = aggI .u8 sa) ∧ (f 3 = .slice ab zs.length cb) ∧ (f 4 = .int .i64 (x : Nat)) ∧ (f 5 = cutV ab 0 x cb) ∧ (f 6 = .slice ab zs.length cb) ∧ (f 7 = .int .i64 (x : Nat)) ∧ (f 8 = .int .i64 (y : Nat)) ∧ (f 9 = cutV ab x y cb) ∧ (f 10 = .slice ab zs.length cb) ∧ (f 11 = .int .i64 (y : Nat)) ∧ (f 12 = cutV ab y zs.length cb) ∧ (RdP W (f 13) ([(cutV ab 0 x cb, zs.take x), (cutV ab x y cb, (zs.drop x).take (y - x)), (.slice none 0 0, []), (cutV ab y zs.length cb, zs.drop y)])) ∧ (f 14 = aggI .u8 sa) ∧ (f 15 = .bool true) ∧ (f 16 = .bool true) ∧ (f 17 = .slice ab zs.length cb) ∧ (f 18 = .int .i64 (x : Nat)) ∧ (f 19 = cutV ab 0 x cb) ∧ (f 20 = .slice ab zs.length cb) ∧ (f 21 = .int .i64 (x : Nat)) ∧ (f 22 = .int .i64 (y : Nat)) ∧ (f 23 = cutV ab x y cb) ∧ (f 24 = .slice ab zs.length cb) ∧ (f 25 = .int .i64 (y : Nat)) ∧ (f 26 = cutV ab y zs.length cb) ∧ (RdP W (f 27) ([(cutV ab 0 x cb, zs.take x), (cutV ab x y cb, (zs.drop x).take (y - x)), (cutV ab y zs.length cb, zs.drop y)])) ∧ (f 28 = aggI .u8 sb) ∧ (f 29 = .slice ab zs.length cb) ∧ (RdP W (f 30) ([(.slice ab zs.length cb, zs)])) ∧ (f 31 = aggI .u8 sb) ∧ (f 32 = .bool true) ∧ (f 33 = .bool true) ∧ True := hH
      generalize hA : putL _ _ _ _ = A
      have q63 : A.eval (.tmp 63) = .bool true := by rw [← hA]; exact putL_look rfl rfl rfl d33
      have r63 : A.tmps[63]?.getD undef = .bool true := slot_get q63
      clear hA
      refine Does.pure rfl (.bool true) ?_ ⟨Below.refl _ _, rfl⟩
      go_simp
    exact trivial
  ·
    intro f W hG hH
    obtain ⟨d0, d1, d2, d3, d4, d5, d6, d7, d8, d9, d10, d11, d12, d13, d14, d15, d16, d17, d18, d19, d20, d21, d22, d23, d24, d25, d26, d27, d28, d29, d30, d31, d32, d33, d34, -⟩ : (f 0 = .slice ab zs.length cb) ∧ (RdP W (f 1) ([(.slice ab zs.length cb, zs)])) ∧ (f 2 = aggI .u8 sa) ∧ (f 3 = .slice ab zs.length cb) ∧ (f 4 = .int .i64 (x : Nat)) ∧ (f 5 = cutV ab 0 x cb) ∧ (f 6 = .slice ab zs.length cb) ∧ (f 7 = .int .i64 (x : Nat)) ∧ (f 8 = .int .i64 (y : Nat)) ∧ (f 9 = cutV ab x y cb) ∧ (f 10 = .slice ab zs.length cb) ∧ (f 11 = .int .i64 (y : Nat)) ∧ (f 12 = cutV ab y zs.length cb) ∧ (RdP W (f 13) ([(cutV ab 0 x cb, zs.take x), (cutV ab x y cb, (zs.drop x).take (y - x)), (.slice none 0 0, []), (cutV ab y zs.length cb, zs.drop y)])) ∧ (f 14 = aggI .u8 sa) ∧ (f 15 = .bool true) ∧ (f 16 = .bool true) ∧ (f 17 = .slice ab zs.length cb) ∧ (f 18 = .int .i64 (x : Nat)) ∧ (f 19 = cutV ab 0 x cb) ∧ (f 20 = .slice ab zs.length cb) ∧ (f 21 = .int .i64 (x : Nat)) ∧ (f 22 = .int .i64 (y : Nat)) ∧ (f 23 = cutV ab x y cb) ∧ (f 24 = .slice ab zs.length cb) ∧ (f 25 = .int .i64 (y : Nat)) ∧ (f 26 = cutV ab y zs.length cb) ∧ (RdP W (f 27) ([(cutV ab 0 x cb, zs.take x), (cutV ab x y cb, (zs.drop x).take (y - x)), (cutV ab y zs.length cb, zs.drop y)])) ∧ (f 28 = aggI .u8 sb) ∧ (f 29 = .slice ab zs.length cb) ∧ (RdP W (f 30) ([(.slice ab zs.length cb, zs)])) ∧ (f 31 = aggI .u8 sb) ∧ (f 32 = .bool true) ∧ (f 33 = .bool true) ∧ (f 34 = .bool true) ∧ True := hH
    rw [show List.range (List.length [[], [0], [1], [], [], [3, 4], [], [], [], [6, 7, 8], [], [], [10, 11], [5, 9, 12], [13, 2], [2, 14], [15, 14], [16], [16], [17, 18, 16], [16], [16], [16], [20, 21, 22, 16], [16], [16], [24, 25, 16], [19, 23, 26, 16], [27, 16, 16], [16], [29, 16], [30, 28, 16], [28, 31, 16], [16, 32], [33, 31, 0, 1, 2, 3, 4, 5, 6, 7, 8, 9, 10, 11, 12, 13, 14, 15, 16, 17, 18, 19, 20, 21, 22, 23, 24, 25, 26, 27, 28, 29, 30, 31, 32, 33]]) = [0, 1, 2, 3, 4, 5, 6, 7, 8, 9, 10, 11, 12, 13, 14, 15, 16, 17, 18, 19, 20, 21, 22, 23, 24, 25, 26, 27, 28, 29, 30, 31, 32, 33, 34] from rfl]
    simp only [putL, List.getElem?_cons_zero, List.getElem?_cons_succ, Option.join, Option.bind_some, id_eq, Act.put, List.setIfInBounds_toArray, List.set_cons_zero, List.set_cons_succ, d0, d2, d3, d4, d5, d6, d7, d8, d9, d10, d11, d12, d14, d15, d16, d17, d18, d19, d20, d21, d22, d23, d24, d25, d26, d28, d29, d31, d32, d33, d34]
    clear d0 d2 d3 d4 d5 d6 d7 d8 d9 d10 d11 d12 d14 d15 d16 d17 d18 d19 d20 d21 d22 d23 d24 d25 d26 d28 d29 d31 d32 d33 d34
    go_wp2
    go_ret
    exact ⟨rfl, below_then B hG.2.2⟩
theorem u16_of_wf {n : Int} (h : (Lit.int .u16 n).wf = true) : 0 ≤ n ∧ n ≤ 65535 := by
  simp only [Lit.wf, Bool.and_eq_true, decide_eq_true_eq] at h
  have e1 : IntKind.u16.min = 0 := by decide
  have e2 : IntKind.u16.max = 65535 := by decide
  rw [e1, e2] at h
  exact h
theorem parts_law (v : Value) (zs : List Int) (i k : Int) (w : World) (hT : TabS w) (rz : RdI .u8 w v zs) (bz : Bytes zs) (hi : (Lit.int .u16 i).wf = true) (hk : (Lit.int .u16 k).wf = true) :
    Calls Tryd.prog 4 #[v, .int .u16 i, .int .u16 k] w fun e w' => e = .returned (.bool true) ∧ Below w.heap.size w w' :=
  parts_v v i k zs w hT rz bz (u16_of_wf hi) (u16_of_wf hk)
end Go.Proofs.YtohnicmacmkapaaDoor
