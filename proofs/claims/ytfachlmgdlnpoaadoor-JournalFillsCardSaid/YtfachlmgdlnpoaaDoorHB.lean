/- Package disk, walked. Package disk: Read, Sync, Fall; the reference. The laws on disks: alive, great, DiskReads. A region whose order is drawn, of whi -/
import Derived.Lib.Overlaps
import Derived.Sort.OwnSorted
import Derived.Lib.SlicesCompact
import Derived.Lib.RowBridge
import Derived.Lib.AppendZeros
import Derived.Laws.BitsAllLaws
import Derived.Laws.Closers25b
import Derived.Deep.QuietTactic
import Derived.BigQuiet
import Derived.RegionTactic
import Derived.Deep.RegionWith
import Derived.Deep.RegionHeld3
import Derived.StillTailTactics
import Derived.Laws.Bits64
import Derived.ChangeKeysEq
import Derived.Laws.StructEq
import Derived.Deep.MidRow
import Derived.Lib.SlBuf
import Derived.Laws.CopyRow
import Derived.Laws.MakeOwn
import Derived.Test.YtfachlmgdlnpoaaDoorHA
namespace Go.Proofs.YtfachlmgdlnpoaaDoor
open Go.RowKit
set_option linter.unusedVariables false
set_option linter.unusedSimpArgs false
set_option maxRecDepth 8000
set_option maxHeartbeats 2000000

def encS (z : List Int) : List Value := z.map (Value.int .u8)
def encW (p : Int × List Int) : List Value := .int .i64 p.1 :: encS p.2
theorem encS_len (z : List Int) : (encS z).length = z.length := by simp [encS]
theorem oc_S (z : List Int) : ∀ u ∈ encS z, u.oneCell' = true := fun u hu => by
 obtain ⟨n, _, rfl⟩ := List.mem_map.1 hu
 rfl
theorem oc_rows {α : Type} {enc : α → List Value} (h : ∀ x, ∀ u ∈ enc x, u.oneCell' = true) (xs : List α) : ∀ r ∈ xs.map enc, ∀ u ∈ r, u.oneCell' = true := fun r hr => by
 obtain ⟨x, _, rfl⟩ := List.mem_map.1 hr
 exact h x
theorem at_map {α : Type} {enc : α → List Value} {xs : List α} {i : Nat} {x : α} (h : xs[i]? = some x) : (xs.map enc)[i]? = some (enc x) := by rw [List.getElem?_map, h]; rfl
theorem rdf_S {L : List Nat} {w : World} {v : Value} {xs : List (List Int)} (h : RdF 128 L w v (xs.map encS)) {i : Nat} {x : List Int} (hx : xs[i]? = some x) : x.length = 128 := by
 have := h.2.1 _ (List.mem_of_getElem? (at_map (enc := encS) hx))
 rwa [encS_len] at this
theorem rdf_W {L : List Nat} {w : World} {v : Value} {xs : List (Int × List Int)} (h : RdF 129 L w v (xs.map encW)) {i : Nat} {x : Int × List Int} (hx : xs[i]? = some x) : x.2.length = 128 := by
 have := h.2.1 _ (List.mem_of_getElem? (at_map (enc := encW) hx))
 simpa [encW, encS_len] using this
def idxF {α : Type} (p : α → Bool) : List α → Int → Int
 | [], _ => -1
 | x :: l, i => if p x then i else idxF p l (i + 1)
theorem idxF_step {α : Type} {p : α → Bool} {xs : List α} {i : Nat} {x : α} (h : xs[i]? = some x) (hx : p x = false) : idxF p (xs.drop i) i = idxF p (xs.drop (i + 1)) ((i + 1 : Nat) : Int) := by
 obtain ⟨hl, he⟩ := List.getElem?_eq_some_iff.1 h
 rw [List.drop_eq_getElem_cons hl, he, idxF, hx]
 simp
theorem idxF_here {α : Type} {p : α → Bool} {xs : List α} {i : Nat} {x : α} (h : xs[i]? = some x) (hx : p x = true) : idxF p (xs.drop i) i = i := by
 obtain ⟨hl, he⟩ := List.getElem?_eq_some_iff.1 h
 rw [List.drop_eq_getElem_cons hl, he, idxF, hx]
 simp
theorem idxF_end {α : Type} {p : α → Bool} {xs : List α} {i : Nat} (h : ¬ (i : Int) < xs.length) : idxF p (xs.drop i) i = -1 := by
 rw [List.drop_eq_nil_of_le (by omega)]; rfl
theorem idxF_any {α : Type} {p : α → Bool} : ∀ (xs : List α) (i : Int), 0 ≤ i → decide (0 ≤ idxF p xs i) = xs.any p
 | [], i, _ => by simp [idxF]
 | x :: l, i, h => by
  unfold idxF
  cases hx : p x with
  | true => simp [hx, h]
  | false => simp [hx]; have := idxF_any (p := p) l (i + 1) (by omega); simpa using this
section
variable {P : Program} {ops : Array Oper} {o : Oper} {N : Nat} {f : Fl} {w : World}
theorem dx_lenM {α : Type} {enc : α → List Value} {xs : List α} {t s s' : Nat} {L : List Nat} {x : Operand} {v : Value} (ho : o.op = .call { callee := .builtin .len, args := #[x], argTypes := #[t] }) (ht : sliceB P t s' = true) (hx : ev f x = some v) (hr : RdF s L w v (xs.map enc)) (hw : wantF ops o f = some true := by rfl) : DV P ops o N f w (.int .i64 (xs.length : Int)) := by
 have := dx_lenF (N := N) ho ht hx hr hw
 rwa [List.length_map] at this
end
def hasB (secs : List (List Int)) (a : Int) : Bool := decide (0 ≤ a) && decide (a < secs.length)
theorem hasB_t {secs : List (List Int)} {a : Int} (h : hasB secs a = true) : 0 ≤ a ∧ a < secs.length := by simpa [hasB] using h
set_option maxHeartbeats 1000000 in
theorem has_v (secs : List (List Int)) (loose : List (Int × List Int)) (fuse : Int) (down : Bool) (s1 s2 : Value) (at_ : Int) (w : World) (L : List Nat) (hL : LL L w) (h1 : RdF 128 L w s1 (secs.map encS)) (h2 : RdF 129 L w s2 (loose.map encW)) : CV Tryd.prog 71 [.agg #[s1, s2, .int .i64 fuse, .bool down], .int .i64 at_] w fun v W => v = .bool (hasB secs at_) := by
 refine cv_enter (N := 14) (f := [(0, .agg #[s1, s2, .int .i64 fuse, .bool down]), (1, .int .i64 at_)]) Tryd.func71 rfl rfl rfl rfl fun Q hQ hE => ?_
 have hB := Below.refl w.heap.size w
 have h1m : secs.length ≤ maxLen := by have := h1.len; rwa [List.length_map] at this
 unfold maxLen at h1m
 have h2m : loose.length ≤ maxLen := by have := h2.len; rwa [List.length_map] at this
 unfold maxLen at h2m
 refine Sq fun K1 hK1 => (Rg ?_)
 refine Ge (dx_box rfl rfl rfl) rfl rfl ?_
 rintro _ W2 ⟨rfl, k3, b4, z5⟩
 have l6 := hB.size
 replace h1 := h1.more b4 (Nat.le_refl _)
 replace hB := below_then hB b4
 refine Pu rfl (Ni (hK1 (Sq fun K7 hK7 => (Rg (Pu rfl (Va (dx_geq rfl rfl rfl) rfl rfl (Pu rfl ?_)))))))
 refine WL.split 7 rfl (fun g8 => ?_) (fun g8 => ?_)
 ·
  replace g8 := dT g8
  refine Pu rfl (Va (dx_fld (o1 := 0) rfl ty_fld_25_0_0 rfl rfl) rfl rfl (Va (dx_load rfl ty_one_22 rfl (k3.cell (k := 0) rfl)) rfl rfl (Va (dx_lenM rfl ty_slice_22 rfl h1) rfl rfl (Va (dx_lss rfl rfl rfl) rfl rfl (Pu rfl (Pu rfl (Ni ?_)))))))
  refine hK7 ?_
  exact WC.ret fun a_ ha_ => hQ (cv_ret1 rfl (.tmp rfl) (by simp [hasB, *]) hB ha_)
 ·
  replace g8 := dF g8
  refine Of rfl (Of rfl (Of rfl (Of rfl (Of rfl (Pu rfl (Pu rfl (Ni ?_)))))))
  refine hK7 ?_
  exact WC.ret fun a_ ha_ => hQ (cv_ret1 rfl (.tmp rfl) (by simp [hasB, *]) hB ha_)

set_option maxHeartbeats 1000000 in
theorem right1_v (secs : List (List Int)) (loose : List (Int × List Int)) (fuse : Int) (down : Bool) (s1 s2 : Value) (p : Int × List Int) (hp : p.2.length = 128) (u : Value) (w : World) (L : List Nat) (hL : LL L w) (h1 : RdF 128 L w s1 (secs.map encS)) (h2 : RdF 129 L w s2 (loose.map encW)) (h0 : PtR L w u [s1, s2, .int .i64 fuse, .bool down]) : CV Tryd.prog 70 [.agg (encW p).toArray, u] w fun v W => v = .bool (!hasB secs p.1) := by
 refine cv_enter (N := 9) (f := [(0, .agg (encW p).toArray), (1, u)]) Tryd.func70 rfl rfl rfl rfl fun Q hQ hE => ?_
 have hB := Below.refl w.heap.size w
 have h1m : secs.length ≤ maxLen := by have := h1.len; rwa [List.length_map] at this
 unfold maxLen at h1m
 have h2m : loose.length ≤ maxLen := by have := h2.len; rwa [List.length_map] at this
 unfold maxLen at h2m
 refine Sq fun K1 hK1 => (Rg ?_)
 refine Ge (dx_box (cs := (encW p)) rfl rfl rfl) rfl rfl ?_
 rintro _ W2 ⟨rfl, k3, b4, z5⟩
 have l6 := hB.size
 replace h1 := h1.more b4 (Nat.le_refl _)
 replace h2 := h2.more b4 (Nat.le_refl _)
 replace h0 := h0.more b4 (Nat.le_refl _)
 replace hB := below_then hB b4
 refine Pu rfl (Ni (hK1 (Sq fun K7 hK7 => (Rg (Va (dx_loadPN rfl ty_agg_25_4 rfl h0 rfl) rfl rfl (Va (dx_fld (o1 := 0) rfl ty_fld_77_0_0 rfl rfl) rfl rfl (Va (dx_load rfl ty_one_3 rfl (k3.cell (k := 0) rfl)) rfl rfl ?_)))))))
 refine Ge (dx_cv rfl Tryd.func71 rfl rfl rfl (has_v _ _ _ _ _ _ p.1 W2 [] (LL.nil _) (h1.less (by simp)) (h2.less (by simp)))) rfl rfl ?_
 rintro _ W9 ⟨rfl, b8⟩
 replace hB := below_then hB b8
 refine Va (dx_not rfl rfl) rfl rfl (Pu rfl (Ni (hK7 ?_)))
 exact WC.ret fun a_ ha_ => hQ (cv_ret1 rfl (.tmp rfl) rfl hB ha_)

set_option maxHeartbeats 1000000 in
theorem indexFuncW_v (xs : List (Int × List Int)) (p : Int × List Int → Bool) (sv g : Value) (w : World) (L : List Nat) (hL : LL L w) (h2 : RdF 129 L w sv (xs.map encW))  (hg : ∀ W, Below w.heap.size w W → ∀ x ∈ xs, FV Tryd.prog g [.agg (encW x).toArray] W fun v _ => v = .bool (p x)) : CV Tryd.prog 85 [sv, g] w fun v W => v = .int .i64 (idxF p xs 0) := by
 refine cv_enter (N := 19) (f := [(0, sv), (1, g)]) Tryd.func85 rfl rfl rfl rfl fun Q hQ hE => ?_
 have hB := Below.refl w.heap.size w
 have h2m : xs.length ≤ maxLen := by have := h2.len; rwa [List.length_map] at this
 unfold maxLen at h2m
 refine Sq fun K1 hK1 => (Rg (Pu rfl (Ni (hK1 (Sq fun K2 hK2 => (Sq fun K3 hK3 => (Rg ?_)))))))
 refine Pu rfl (Va (dx_lenM rfl ty_slice_23 rfl h2) rfl rfl (Pu rfl (Ni (hK3 (WC.block ?_)))))
 refine WC.loop (fun (i : Nat) => [(0, sv), (1, g), (7, .int .i64 (xs.length : Int)), (8, .int .i64 (i : Int))]) (fun (i : Nat) W => i ≤ xs.length ∧ idxF p xs 0 = idxF p (xs.drop i) i ∧ Below w.heap.size w W ∧ LL (L) W ∧ RdF 129 (L) W sv (xs.map encW)) (fun (i : Nat) => xs.length - i) 0 (by repeat first | exact trivial | refine aR ?_ | refine aI (by omega) ?_) ⟨Nat.zero_le _, rfl, hB, hL, h2⟩ ?_
 clear h2 hB hL
 rintro K4 i W5 ⟨hi, hv, hB, hL, h2⟩ hK4
 refine Sq fun K6 hK6 => (Rg (Va (dx_lss rfl rfl rfl) rfl rfl (Ni (hK6 (Sq fun K7 hK7 => ?_)))))
 refine WC.cond rfl (fun c8 => ?_) (fun c8 => ?_)
 ·
  replace c8 := dT c8
  refine WC.skip (hK7 (Sq fun K9 hK9 => (WC.block (Sq fun K10 hK10 => (Rg (Pu rfl (Pu rfl ?_)))))))
  refine Ni (hK10 (Sq fun K11 hK11 => (Rg (Pu rfl (Pu rfl (Pu rfl ?_))))))
  obtain ⟨r12, e13⟩ : ∃ x, xs[i]? = some x := ⟨_, List.getElem?_eq_getElem (by omega)⟩
  have Lr12 := rdf_W h2 e13
  refine Ge (dx_idxF i rfl ty_slice_23 rfl rfl h2 (by omega) (at_map e13)) rfl rfl ?_
  rintro u14 _ ⟨rfl, p15⟩
  refine Va (dx_loadPN rfl ty_agg_77_129 rfl p15 (by simp [encW, encS_len, Lr12])) rfl rfl ?_
  refine Ge (dx_fv rfl rfl rfl (hg _ hB r12 (List.mem_of_getElem? e13))) rfl rfl ?_
  rintro _ W17 ⟨rfl, b16⟩
  replace h2 := h2.below b16
  replace hB := below_then hB b16
  replace hL := LL.below hL b16
  refine Ni (hK11 ?_)
  refine WC.cond rfl (fun c18 => ?_) (fun c18 => ?_)
  ·
   refine Sq fun K19 hK19 => (Rg (Pu rfl (Pu rfl (Ni (hK19 ?_)))))
   exact WC.ret fun a_ ha_ => hQ (cv_ret1 rfl (.tmp rfl) (by rw [hv, idxF_here e13 (by assumption)]) hB ha_)
  ·
   refine WC.skip (hK9 (Rg (Va (dx_add (r := (i : Int) + 1) rfl rfl rfl (wrap64_id (by omega))) rfl rfl (Pu rfl (Ni ?_)))))
   exact hK4 (i + 1) ⟨(by omega), (by rw [hv]; exact idxF_step e13 (by assumption)), hB, hL, h2⟩ (by omega) (by repeat first | exact trivial | refine aR ?_ | refine aI (by omega) ?_)
 ·
  replace c8 := dF c8
  refine WC.exit ?_
  refine hK2 (Sq fun K20 hK20 => (Rg (Pu rfl (Ni (hK20 ?_)))))
  exact WC.ret fun a_ ha_ => hQ (cv_ret1 rfl (.tmp rfl) (by rw [hv, idxF_end (by omega)]) hB ha_)

set_option maxHeartbeats 1000000 in
theorem containsFuncW_v (xs : List (Int × List Int)) (p : Int × List Int → Bool) (sv g : Value) (w : World) (L : List Nat) (hL : LL L w) (h2 : RdF 129 L w sv (xs.map encW))  (hg : ∀ W, Below w.heap.size w W → ∀ x ∈ xs, FV Tryd.prog g [.agg (encW x).toArray] W fun v _ => v = .bool (p x)) : CV Tryd.prog 69 [sv, g] w fun v W => v = .bool (xs.any p) := by
 refine cv_enter (N := 9) (f := [(0, sv), (1, g)]) Tryd.func69 rfl rfl rfl rfl fun Q hQ hE => ?_
 have hB := Below.refl w.heap.size w
 have h2m : xs.length ≤ maxLen := by have := h2.len; rwa [List.length_map] at this
 unfold maxLen at h2m
 refine WC.seq fun K1 hK1 => (WC.region (Pu rfl (WL.nil (hK1 (WC.seq fun K2 hK2 => (WC.region (Pu rfl ?_)))))))
 refine Pu rfl ?_
 refine WL.get (dx_cv rfl Tryd.func85 rfl rfl rfl (indexFuncW_v xs p _ _ w L (by first | exact hL | exact LL.below hL hB) h2 (fun W hW => hg W (below_then hB hW)))) rfl rfl ?_
 rintro _ W4 ⟨rfl, b3⟩
 replace hB := below_then hB b3
 refine WL.val (dx_geq rfl rfl rfl) rfl rfl (Pu rfl (WL.nil (hK2 ?_)))
 exact WC.ret fun a_ ha_ => hQ (cv_ret1 rfl (.tmp rfl) (by rw [idxF_any xs 0 (by omega)]) hB ha_)

def rightD (secs : List (List Int)) (loose : List (Int × List Int)) : Bool :=
 !((decide ((secs.length : Int) < 1) || decide (2048 < (secs.length : Int))) || decide (4096 < (loose.length : Int))) && !loose.any fun p => !hasB secs p.1
set_option maxHeartbeats 1000000 in
theorem right_v (secs : List (List Int)) (loose : List (Int × List Int)) (fuse : Int) (down : Bool) (s1 s2 : Value) (w : World) (L : List Nat) (hL : LL L w) (h1 : RdF 128 L w s1 (secs.map encS)) (h2 : RdF 129 L w s2 (loose.map encW)) : CV Tryd.prog 50 [.agg #[s1, s2, .int .i64 fuse, .bool down]] w fun v W => v = .bool (rightD secs loose) := by
 refine cv_enter (N := 24) (f := [(0, .agg #[s1, s2, .int .i64 fuse, .bool down])]) Tryd.func50 rfl rfl rfl rfl fun Q hQ hE => ?_
 have hB := Below.refl w.heap.size w
 have h1m : secs.length ≤ maxLen := by have := h1.len; rwa [List.length_map] at this
 unfold maxLen at h1m
 have h2m : loose.length ≤ maxLen := by have := h2.len; rwa [List.length_map] at this
 unfold maxLen at h2m
 refine Sq fun K1 hK1 => (Rg ?_)
 refine Ge (dx_box rfl rfl rfl) rfl rfl ?_
 rintro _ W2 ⟨rfl, k3, b4, z5⟩
 have l6 := hB.size
 replace h1 := h1.more b4 (Nat.le_refl _)
 replace h2 := h2.more b4 (Nat.le_refl _)
 replace hB := below_then hB b4
 refine Pu rfl (Ni (hK1 (Sq fun K7 hK7 => (Sq fun K8 hK8 => (Rg (Va (dx_fld (o1 := 0) rfl ty_fld_25_0_0 rfl rfl) rfl rfl (Va (dx_load rfl ty_one_22 rfl (k3.cell (k := 0) rfl)) rfl rfl ?_)))))))
 refine Va (dx_lenM rfl ty_slice_22 rfl h1) rfl rfl (Va (dx_lss rfl rfl rfl) rfl rfl (Pu rfl ?_))
 refine WL.split 7 rfl (fun g9 => ?_) (fun g9 => ?_)
 ·
  replace g9 := dT g9
  refine Of rfl (Of rfl (Of rfl (Of rfl (Pu rfl (Pu rfl (Of rfl (Of rfl ?_)))))))
  refine Of rfl (Of rfl (Pu rfl (Ni (hK8 (WC.condT rfl (Sq fun K10 hK10 => (Rg ?_)))))))
  refine Pu rfl (Ni (hK10 ?_))
  exact WC.ret fun a_ ha_ => hQ (cv_ret1 rfl (.tmp rfl) (by unfold rightD; simp [*]) hB ha_)
 ·
  replace g9 := dF g9
  refine Va (dx_fld (o1 := 0) rfl ty_fld_25_0_0 rfl rfl) rfl rfl (Va (dx_load rfl ty_one_22 rfl (k3.cell (k := 0) rfl)) rfl rfl (Va (dx_lenM rfl ty_slice_22 rfl h1) rfl rfl (Va (dx_gtr rfl rfl rfl) rfl rfl (Pu rfl (Pu rfl ?_)))))
  refine WL.split 13 rfl (fun g11 => ?_) (fun g11 => ?_)
  ·
   replace g11 := dT g11
   refine Of rfl (Of rfl (Of rfl (Of rfl (Pu rfl (Ni (hK8 (WC.condT rfl ?_)))))))
   refine Sq fun K12 hK12 => (Rg (Pu rfl (Ni (hK12 ?_))))
   exact WC.ret fun a_ ha_ => hQ (cv_ret1 rfl (.tmp rfl) (by unfold rightD; simp [*]) hB ha_)
  ·
   replace g11 := dF g11
   refine Va (dx_fld (o1 := 1) rfl ty_fld_25_1_1 rfl rfl) rfl rfl (Va (dx_load rfl ty_one_23 rfl (k3.cell (k := 1) rfl)) rfl rfl (Va (dx_lenM rfl ty_slice_23 rfl h2) rfl rfl (Va (dx_gtr rfl rfl rfl) rfl rfl (Pu rfl (Ni (hK8 ?_))))))
   refine WC.cond rfl (fun c13 => ?_) (fun c13 => ?_)
   ·
    replace c13 := dT c13
    refine Sq fun K14 hK14 => (Rg (Pu rfl (Ni (hK14 ?_))))
    exact WC.ret fun a_ ha_ => hQ (cv_ret1 rfl (.tmp rfl) (by unfold rightD; simp [*]) hB ha_)
   ·
    replace c13 := dF c13
    refine WC.skip (hK7 (Sq fun K15 hK15 => (Rg (Va (dx_fld (o1 := 1) rfl ty_fld_25_1_1 rfl rfl) rfl rfl (Va (dx_load rfl ty_one_23 rfl (k3.cell (k := 1) rfl)) rfl rfl (Va (dx_func rfl rfl rfl) rfl rfl ?_))))))
    refine Ge (dx_cv rfl Tryd.func69 rfl rfl rfl (containsFuncW_v loose _ _ _ W2 [] (LL.nil _) (h2.less (by simp)) (fun W hW x hx => fv_of (cs := [.pointer (some ⟨w.heap.size, 0, none⟩)]) Tryd.func70 rfl rfl (right1_v secs loose fuse down s1 s2 x (by obtain ⟨i, hi⟩ := List.getElem?_of_mem hx; exact rdf_W h2 hi) _ W [] (LL.nil _) ((h1.less (by simp)).below hW) ((h2.less (by simp)).below hW) ⟨Nat.succ_pos _, w.heap.size, 0, rfl, by simp, (k3.below hW).range⟩)))) rfl rfl ?_
    rintro _ W17 ⟨rfl, b16⟩
    replace hB := below_then hB b16
    refine Va (dx_not rfl rfl) rfl rfl (Pu rfl (Ni (hK15 ?_)))
    exact WC.ret fun a_ ha_ => hQ (cv_ret1 rfl (.tmp rfl) (by unfold rightD; simp [*]) hB ha_)

def burnS (fuse : Int) (down : Bool) : Int × Bool × Int := if fuse = 0 then (fuse, true, 9) else if 0 < fuse then (fuse - 1, down, 0) else (fuse, down, 0)
set_option maxHeartbeats 1000000 in
theorem burn_v (secs : List (List Int)) (loose : List (Int × List Int)) (fuse : Int) (down : Bool) (s1 s2 : Value) (w : World) (L : List Nat) (hL : LL L w) (h1 : RdF 128 L w s1 (secs.map encS)) (h2 : RdF 129 L w s2 (loose.map encW))  (hfu : -9223372036854775808 ≤ fuse ∧ fuse ≤ 9223372036854775807) : CV Tryd.prog 79 [.agg #[s1, s2, .int .i64 fuse, .bool down]] w fun v W => v = .tuple #[.agg #[s1, s2, .int .i64 (burnS fuse down).1, .bool (burnS fuse down).2.1], .int .i64 (burnS fuse down).2.2] := by
 refine cv_enter (N := 17) (f := [(0, .agg #[s1, s2, .int .i64 fuse, .bool down])]) Tryd.func79 rfl rfl rfl rfl fun Q hQ hE => ?_
 have hB := Below.refl w.heap.size w
 have h1m : secs.length ≤ maxLen := by have := h1.len; rwa [List.length_map] at this
 unfold maxLen at h1m
 have h2m : loose.length ≤ maxLen := by have := h2.len; rwa [List.length_map] at this
 unfold maxLen at h2m
 refine Sq fun K1 hK1 => (Rg ?_)
 refine Ge (dx_box rfl rfl rfl) rfl rfl ?_
 rintro _ W2 ⟨rfl, k3, b4, z5⟩
 have l6 := hB.size
 replace h1 := h1.more b4 (Nat.le_refl _)
 replace h2 := h2.more b4 (Nat.le_refl _)
 replace hB := below_then hB b4
 refine Ge (dx_alloc rfl ty_zero_25 rfl) rfl rfl ?_
 rintro _ W7 ⟨rfl, k8, b9, z10⟩
 have n11 : w.heap.size ≠ W2.heap.size := Nat.ne_of_lt k3.lt
 have l12 := hB.size
 replace h1 := h1.more b9 (Nat.le_refl _)
 replace h2 := h2.more b9 (Nat.le_refl _)
 replace k3 := k3.below b9
 replace hB := below_then hB b9
 refine Pu rfl (Ni (hK1 (Sq fun K13 hK13 => (Sq fun K14 hK14 => (Rg (Va (dx_fld (o1 := 2) rfl ty_fld_25_2_2 rfl rfl) rfl rfl (Va (dx_load rfl ty_one_3 rfl (k3.cell (k := 2) rfl)) rfl rfl ?_)))))))
 refine Va (dx_eql rfl rfl rfl) rfl rfl (Ni (hK14 ?_))
 refine WC.cond rfl (fun c15 => ?_) (fun c15 => ?_)
 ·
  replace c15 := dT c15
  refine Sq fun K16 hK16 => (Rg (Va (dx_fld (o1 := 3) rfl ty_fld_25_3_3 rfl rfl) rfl rfl ?_))
  refine WL.do (dx_store (cs' := [s1, s2, .int .i64 fuse, .bool true]) (vs := [.bool true]) rfl ty_size_4_1 rfl rfl rfl (oC rfl oc_nil) k3 rfl (nB rfl) rfl) rfl ?_
  rintro _ W17 ⟨k19, o18⟩
  replace k8 := k8.other o18 n11.symm
  clear k3
  replace h1 := h1.only o18 (.tail _ (.head _))
  replace h2 := h2.only o18 (.tail _ (.head _))
  replace hB := o18.below hB l6
  refine Ni (hK16 (Sq fun K20 hK20 => (Rg (Va (dx_loadN rfl ty_agg_25_4 rfl k19.range rfl) rfl rfl ?_))))
  refine WL.do (dx_store (cs' := [s1, s2, .int .i64 fuse, .bool true]) (vs := [s1, s2, .int .i64 fuse, .bool true]) rfl ty_size_25_4 rfl rfl rfl (oC h1.one (oC h2.one (oC rfl (oC rfl oc_nil)))) k8 rfl (nB rfl) rfl) rfl ?_
  rintro _ W21 ⟨k23, o22⟩
  clear k8
  replace hB := o22.below hB l12
  refine Pu rfl (Ni (hK20 ?_))
  exact WC.ret fun a_ ha_ => hQ (cv_ret2 rfl (.agg rfl ty_agg_25_4 k23.range rfl) (.tmp rfl) (by simp [burnS, *]) hB ha_)
 ·
  replace c15 := dF c15
  refine WC.skip (hK13 (Sq fun K24 hK24 => (Sq fun K25 hK25 => (Rg (Va (dx_fld (o1 := 2) rfl ty_fld_25_2_2 rfl rfl) rfl rfl (Va (dx_load rfl ty_one_3 rfl (k3.cell (k := 2) rfl)) rfl rfl (Va (dx_gtr rfl rfl rfl) rfl rfl ?_)))))))
  refine Ni (hK25 ?_)
  refine WC.cond rfl (fun c26 => ?_) (fun c26 => ?_)
  ·
   replace c26 := dT c26
   refine Rg (Va (dx_fld (o1 := 2) rfl ty_fld_25_2_2 rfl rfl) rfl rfl (Va (dx_load rfl ty_one_3 rfl (k3.cell (k := 2) rfl)) rfl rfl (Va (dx_sub (r := fuse - 1) rfl rfl rfl (wrap64_id (by omega))) rfl rfl (Va (dx_fld (o1 := 2) rfl ty_fld_25_2_2 rfl rfl) rfl rfl ?_))))
   refine WL.do (dx_store (cs' := [s1, s2, .int .i64 (fuse - 1), .bool down]) (vs := [.int .i64 (fuse - 1)]) rfl ty_size_3_1 rfl rfl rfl (oC rfl oc_nil) k3 rfl (nB rfl) rfl) rfl ?_
   rintro _ W27 ⟨k29, o28⟩
   replace k8 := k8.other o28 n11.symm
   clear k3
   replace h1 := h1.only o28 (.tail _ (.head _))
   replace h2 := h2.only o28 (.tail _ (.head _))
   replace hB := o28.below hB l6
   refine Ni (hK24 (Sq fun K30 hK30 => (Rg (Va (dx_loadN rfl ty_agg_25_4 rfl k29.range rfl) rfl rfl ?_))))
   refine WL.do (dx_store (cs' := [s1, s2, .int .i64 (fuse - 1), .bool down]) (vs := [s1, s2, .int .i64 (fuse - 1), .bool down]) rfl ty_size_25_4 rfl rfl rfl (oC h1.one (oC h2.one (oC rfl (oC rfl oc_nil)))) k8 rfl (nB rfl) rfl) rfl ?_
   rintro _ W31 ⟨k33, o32⟩
   clear k8
   replace hB := o32.below hB l12
   refine Pu rfl (Ni (hK30 ?_))
   exact WC.ret fun a_ ha_ => hQ (cv_ret2 rfl (.agg rfl ty_agg_25_4 k33.range rfl) (.tmp rfl) (by simp [burnS, *]) hB ha_)
  ·
   replace c26 := dF c26
   refine WC.skip (hK24 (Sq fun K34 hK34 => (Rg (Va (dx_loadN rfl ty_agg_25_4 rfl k3.range rfl) rfl rfl ?_))))
   refine WL.do (dx_store (cs' := [s1, s2, .int .i64 fuse, .bool down]) (vs := [s1, s2, .int .i64 fuse, .bool down]) rfl ty_size_25_4 rfl rfl rfl (oC h1.one (oC h2.one (oC rfl (oC rfl oc_nil)))) k8 rfl (nB rfl) rfl) rfl ?_
   rintro _ W35 ⟨k37, o36⟩
   clear k8
   replace hB := o36.below hB l12
   refine Pu rfl (Ni (hK34 ?_))
   exact WC.ret fun a_ ha_ => hQ (cv_ret2 rfl (.agg rfl ty_agg_25_4 k37.range rfl) (.tmp rfl) (by simp [burnS, *]) hB ha_)

set_option maxHeartbeats 1000000 in
theorem clipW_v (loose : List (Int × List Int)) (s2 : Value) (w : World) (L : List Nat) (hL : LL L w) (h2 : RdF 129 L w s2 (loose.map encW)) : CV Tryd.prog 80 [s2] w fun v W => ∃ a, v = .slice a loose.length loose.length ∧ RdF 129 L W v (loose.map encW) := by
 refine cv_enter (N := 9) (f := [(0, s2)]) Tryd.func80 rfl rfl rfl rfl fun Q hQ hE => ?_
 have hB := Below.refl w.heap.size w
 have h2m : loose.length ≤ maxLen := by have := h2.len; rwa [List.length_map] at this
 unfold maxLen at h2m
 refine WC.seq fun K1 hK1 => (WC.region (Pu rfl (WL.nil (hK1 (WC.seq fun K2 hK2 => (WC.region (Pu rfl ?_)))))))
 refine Pu rfl (WL.val (dx_lenM rfl ty_slice_23 rfl h2) rfl rfl (Pu rfl (WL.val (dx_lenM rfl ty_slice_23 rfl h2) rfl rfl ?_)))
 refine WL.get (dx_clip rfl ty_slice_23 rfl h2 rfl rfl (by rw [List.length_map])) rfl rfl ?_
 rintro u3 _ ⟨rfl, a4, ea4, fa4⟩
 refine Pu rfl (WL.nil (hK2 ?_))
 exact WC.ret fun a_ ha_ => hQ (cv_ret1 rfl (.tmp rfl) ⟨_, (by rw [ea4, List.length_map]), fa4⟩ hB ha_)

set_option maxHeartbeats 1000000 in
theorem cloneS_v (secs : List (List Int)) (s1 : Value) (w : World) (L : List Nat) (hL : LL L w) (h1 : RdF 128 L w s1 (secs.map encS))  (hne : secs ≠ []) (hsm : secs.length ≤ 2048) : CV Tryd.prog 72 [s1] w fun v W => ∃ B, w.heap.size ≤ B ∧ OwS 128 W v (secs.map encS) B := by
 refine cv_enter (N := 8) (f := [(0, s1)]) Tryd.func72 rfl rfl rfl rfl fun Q hQ hE => ?_
 have hB := Below.refl w.heap.size w
 have h1m : secs.length ≤ maxLen := by have := h1.len; rwa [List.length_map] at this
 unfold maxLen at h1m
 refine Sq fun K1 hK1 => (Rg (Pu rfl (Ni (hK1 (Sq fun K2 hK2 => (Sq fun K3 hK3 => (Rg ?_)))))))
 refine Pu rfl (Va (dx_nilF rfl Tryd.underlying22 rfl h1 (by simpa using hne)) rfl rfl (Ni (hK3 (WC.condF rfl (WC.skip (hK2 (Sq fun K4 hK4 => ?_)))))))
 refine Rg ?_
 refine Ge (dx_lit0 rfl ty_ap_22 (by decide)) rfl rfl ?_
 rintro u9 W5 ⟨k6, b7, z8⟩
 have l10 := hB.size
 replace h1 := h1.more b7 (Nat.le_refl _)
 replace hB := below_then hB b7
 refine Pu rfl ?_
 refine Ge (dx_apO' (rs := []) (news := (secs.map encS)) rfl ty_ap_22 rfl rfl k6 h1 (oc_rows oc_S secs) (by simp; unfold maxLen; omega) (by simp; omega)) rfl rfl ?_
 rintro u14 W11 ⟨B15, k12, g13⟩
 have l16 := g13.le l10 hB.size
 replace hB := g13.below hB l10 hB.size
 refine Pu rfl (Ni (hK4 ?_))
 exact WC.ret fun a_ ha_ => hQ (cv_ret1 rfl (.tmp rfl) ⟨B15, l16, (by simpa using k12)⟩ hB ha_)

def z0 : List Int := List.replicate 128 0
theorem z0_len : z0.length = 128 := by simp [z0]
theorem cells_z0 : (Value.agg (Array.replicate 128 (Value.int .u8 0))).cells.toList = encS z0 := by simp [Value.cells, encS, z0]
theorem zeroW : (Tryd.prog.info? 77).bind (·.zero) = some (.agg (encW (0, z0)).toArray) := by kernel_rfl
set_option maxHeartbeats 1000000 in
theorem sync1_v (i : Int) (old z : List Int) (w : World) (L : List Nat) (hL : LL L w)   (ho : old.length = 128) (hz : z.length = 128) : CV Tryd.prog 82 [.int .i64 i, .agg (encS old).toArray, .agg (encS z).toArray] w fun v W => v = .agg (encS z).toArray := by
 refine cv_enter (N := 8) (f := [(0, .int .i64 i), (1, .agg (encS old).toArray), (2, .agg (encS z).toArray)]) Tryd.func82 rfl rfl rfl rfl fun Q hQ hE => ?_
 have hB := Below.refl w.heap.size w
 refine Sq fun K1 hK1 => (Rg ?_)
 refine Ge (dx_box (cs := (encS old)) rfl rfl rfl) rfl rfl ?_
 rintro _ W2 ⟨rfl, k3, b4, z5⟩
 have l6 := hB.size
 replace hB := below_then hB b4
 refine Ge (dx_box (cs := (encS z)) rfl rfl rfl) rfl rfl ?_
 rintro _ W7 ⟨rfl, k8, b9, z10⟩
 have l12 := hB.size
 replace hB := below_then hB b9
 refine Ge (dx_alloc (cs := encS z0) rfl ty_zero_75 cells_z0) rfl rfl ?_
 rintro _ W13 ⟨rfl, k14, b15, z16⟩
 have l19 := hB.size
 replace k8 := k8.below b15
 replace hB := below_then hB b15
 refine Ni (hK1 (Sq fun K20 hK20 => (Rg (Va (dx_loadN rfl ty_agg_75_128 rfl k8.range (by rw [encS_len]; exact hz)) rfl rfl ?_))))
 refine WL.do (dx_storeW (vs := (encS z)) rfl ty_size_75_128 rfl rfl rfl (oc_S z) k14 (by rw [encS_len]; exact hz) (by rw [encS_len]; exact z0_len)) rfl ?_
 rintro _ W21 ⟨k23, o22⟩
 clear k14
 replace hB := o22.below hB l19
 refine Ni (hK20 ?_)
 exact WC.ret fun a_ ha_ => hQ (cv_ret1 rfl (.agg rfl ty_agg_75_128 k23.range (by rw [encS_len]; exact hz)) rfl hB ha_)

def settleS (tk : Nat → List Int → List Int → List Int) : List (Int × List Int) → List (List Int) → Nat → List (List Int)
 | [], secs, _ => secs
 | p :: l, secs, i => settleS tk l (secs.set p.1.toNat (tk i (secs[p.1.toNat]?.getD []) p.2)) (i + 1)
theorem settle_step {tk : Nat → List Int → List Int → List Int} {l : List (Int × List Int)} {cur : List (List Int)} {i : Nat} {p : Int × List Int} {r : List Int} (h : l[i]? = some p) (hr : cur[p.1.toNat]? = some r) : settleS tk (l.drop i) cur i = settleS tk (l.drop (i + 1)) (cur.set p.1.toNat (tk i r p.2)) (i + 1) := by
 obtain ⟨hl, he⟩ := List.getElem?_eq_some_iff.1 h
 rw [List.drop_eq_getElem_cons hl, he, settleS, hr]
 rfl
theorem settle_end {tk : Nat → List Int → List Int → List Int} {l : List (Int × List Int)} {cur : List (List Int)} {i : Nat} (h : ¬ (i : Int) < l.length) : settleS tk (l.drop i) cur i = cur := by
 rw [List.drop_eq_nil_of_le (by omega)]; rfl
theorem ows_S {w : World} {v : Value} {xs : List (List Int)} {B : Nat} (h : OwS 128 w v (xs.map encS) B) {i : Nat} {x : List Int} (hx : xs[i]? = some x) : x.length = 128 := by
 have := h.2.1 _ (List.mem_of_getElem? (at_map (enc := encS) hx))
 rwa [encS_len] at this
set_option maxHeartbeats 1000000 in
theorem settle_v (secs : List (List Int)) (loose : List (Int × List Int)) (fuse : Int) (down : Bool) (s1 s2 : Value) (tk : Nat → List Int → List Int → List Int) (g : Value) (w : World) (L : List Nat) (hL : LL L w) (h1 : RdF 128 L w s1 (secs.map encS)) (h2 : RdF 129 L w s2 (loose.map encW))  (hL0 : LL L w) (hne : secs ≠ []) (hsm : secs.length ≤ 2048) (hrt : ∀ p ∈ loose, 0 ≤ p.1 ∧ p.1 < secs.length) (hg : ∀ W, Below w.heap.size w W → ∀ (i : Nat) (x z : List Int), i < loose.length → x.length = 128 → z.length = 128 → (FV Tryd.prog g [.int .i64 (i : Int), .agg (encS x).toArray, .agg (encS z).toArray] W fun v _ => v = .agg (encS (tk i x z)).toArray) ∧ (tk i x z).length = 128) : CV Tryd.prog 51 [.agg #[s1, s2, .int .i64 fuse, .bool down], g] w fun v W => ∃ s1', v = .agg #[s1', .slice none 0 0, .int .i64 fuse, .bool down] ∧ RdF 128 L W s1' ((settleS tk loose secs 0).map encS) := by
 refine cv_enter (N := 38) (f := [(0, .agg #[s1, s2, .int .i64 fuse, .bool down]), (1, g)]) Tryd.func51 rfl rfl rfl rfl fun Q hQ hE => ?_
 have hB := Below.refl w.heap.size w
 have h1m : secs.length ≤ maxLen := by have := h1.len; rwa [List.length_map] at this
 unfold maxLen at h1m
 have h2m : loose.length ≤ maxLen := by have := h2.len; rwa [List.length_map] at this
 unfold maxLen at h2m
 refine Sq fun K1 hK1 => (Rg ?_)
 refine Ge (dx_box rfl rfl rfl) rfl rfl ?_
 rintro _ W2 ⟨rfl, k3, b4, z5⟩
 have l6 := hB.size
 replace h1 := h1.more b4 (Nat.le_refl _)
 replace h2 := h2.more b4 (Nat.le_refl _)
 replace hB := below_then hB b4
 replace hL := LL.more hL z5
 refine Ge (dx_alloc rfl ty_zero_25 rfl) rfl rfl ?_
 rintro _ W7 ⟨rfl, k8, b9, z10⟩
 have n11 : w.heap.size ≠ W2.heap.size := Nat.ne_of_lt k3.lt
 have l12 := hB.size
 replace h1 := h1.more b9 (Nat.le_refl _)
 replace h2 := h2.more b9 (Nat.le_refl _)
 replace k3 := k3.below b9
 replace hB := below_then hB b9
 replace hL := LL.more hL z10
 refine Ni (hK1 (Sq fun K13 hK13 => (Rg (Va (dx_fld (o1 := 0) rfl ty_fld_25_0_0 rfl rfl) rfl rfl (Va (dx_load rfl ty_one_22 rfl (k3.cell (k := 0) rfl)) rfl rfl ?_)))))
 refine Ge (dx_cv rfl Tryd.func72 rfl rfl rfl (cloneS_v secs s1 W7 [] (LL.nil _) (h1.less (by simp)) hne (by omega))) rfl rfl ?_
 rintro u17 W19 ⟨⟨B14, q16, k15⟩, b18⟩
 have n20 : w.heap.size ≠ B14 := Nat.ne_of_lt (Nat.lt_of_lt_of_le k3.lt q16)
 have n21 : W2.heap.size ≠ B14 := Nat.ne_of_lt (Nat.lt_of_lt_of_le k8.lt q16)
 have l22 := Nat.le_trans hB.size q16
 replace h1 := h1.more b18 q16
 replace h2 := h2.more b18 q16
 replace k3 := k3.below b18
 replace k8 := k8.below b18
 replace hB := below_then hB b18
 replace hL := LL.cons (LL.below hL b18) k15.lt
 refine Va (dx_fld (o1 := 0) rfl ty_fld_25_0_0 rfl rfl) rfl rfl ?_
 refine WL.do (dx_store (cs' := [u17, s2, .int .i64 fuse, .bool down]) (vs := [u17]) rfl ty_size_22_1 rfl rfl (oc_one k15.one) (oC k15.one oc_nil) k3 rfl (nB rfl) rfl) rfl ?_
 rintro _ W23 ⟨k25, o24⟩
 replace k8 := k8.other o24 n11.symm
 replace k15 := k15.other o24 n20.symm
 clear k3
 replace h1 := h1.only o24 (.tail _ (.tail _ (.head _)))
 replace h2 := h2.only o24 (.tail _ (.tail _ (.head _)))
 replace hB := o24.below hB l6
 replace hL := LL.only hL o24
 refine Ni (hK13 (Sq fun K26 hK26 => (Sq fun K27 hK27 => (Rg (Va (dx_fld (o1 := 1) rfl ty_fld_25_1_1 rfl rfl) rfl rfl (Va (dx_load rfl ty_one_23 rfl (k25.cell (k := 1) rfl)) rfl rfl (Va (dx_lenM rfl ty_slice_23 rfl h2) rfl rfl ?_)))))))
 refine Pu rfl (Ni (hK27 (WC.block ?_)))
 refine WC.loop2 (fun (i : Nat) (cur : List (List Int)) => [(1, g), (2, .pointer (some ⟨w.heap.size, 0, none⟩)), (4, .pointer (some ⟨W2.heap.size, 0, none⟩)), (12, s2), (13, .int .i64 (loose.length : Int)), (14, .int .i64 (i : Int))]) (fun (i : Nat) (cur : List (List Int)) W => i ≤ loose.length ∧ settleS tk loose secs 0 = settleS tk (loose.drop i) cur i ∧ cur.length = secs.length ∧ Below w.heap.size w W ∧ LL (B14 :: W2.heap.size :: w.heap.size :: L) W ∧ RdF 128 (B14 :: W2.heap.size :: w.heap.size :: L) W s1 (secs.map encS) ∧ RdF 129 (B14 :: W2.heap.size :: w.heap.size :: L) W s2 (loose.map encW) ∧ Blk W w.heap.size [u17, s2, .int .i64 fuse, .bool down] ∧ Blk W W2.heap.size [.slice none 0 0, .slice none 0 0, .int .i64 0, .bool false] ∧ OwS 128 W u17 (cur.map encS) B14) (fun (i : Nat) (cur : List (List Int)) => loose.length - i) 0 secs (by repeat first | exact trivial | refine aR ?_ | refine aI (by omega) ?_) ⟨Nat.zero_le _, rfl, rfl, hB, hL, h1, h2, k25, k8, k15⟩ ?_
 clear h1 h2 k25 k8 k15 hB hL
 rintro K28 i cur W29 ⟨hi, hv, hc, hB, hL, h1, h2, k25, k8, k15⟩ hK28
 refine Sq fun K30 hK30 => (Rg (Va (dx_lss rfl rfl rfl) rfl rfl (Ni (hK30 (Sq fun K31 hK31 => ?_)))))
 refine WC.cond rfl (fun c32 => ?_) (fun c32 => ?_)
 ·
  replace c32 := dT c32
  refine WC.skip (hK31 (Sq fun K33 hK33 => (WC.block (Sq fun K34 hK34 => (Rg (Pu rfl ?_))))))
  obtain ⟨r35, e36⟩ : ∃ x, loose[i]? = some x := ⟨_, List.getElem?_eq_getElem (by omega)⟩
  have Lr35 := rdf_W h2 e36
  have Rr35 := hrt r35 (List.mem_of_getElem? e36)
  refine Ge (dx_idxF i rfl ty_slice_23 rfl rfl h2 (by omega) (at_map e36)) rfl rfl ?_
  rintro u37 _ ⟨rfl, p38⟩
  refine Va (dx_loadPN rfl ty_agg_77_129 rfl p38 (by simp [encW, encS_len, Lr35])) rfl rfl ?_
  refine Ge (dx_alloc (cs := encW (0, z0)) rfl zeroW rfl) rfl rfl ?_
  rintro _ W39 ⟨rfl, k40, b41, z42⟩
  have n43 : w.heap.size ≠ W29.heap.size := Nat.ne_of_lt k25.lt
  have n44 : W2.heap.size ≠ W29.heap.size := Nat.ne_of_lt k8.lt
  have n45 : B14 ≠ W29.heap.size := Nat.ne_of_lt k15.lt
  have l46 := hB.size
  replace h1 := h1.more b41 (Nat.le_refl _)
  replace h2 := h2.more b41 (Nat.le_refl _)
  replace k25 := k25.below b41
  replace k8 := k8.below b41
  replace k15 := k15.below b41
  replace hB := below_then hB b41
  replace hL := LL.more hL z42
  refine Pu rfl ?_
  refine WL.do (dx_storeW (vs := (encW r35)) rfl ty_size_77_129 rfl rfl rfl (oC rfl (oc_S r35.2)) k40 (by simp [encW, encS_len, Lr35]) (by simp [encW, encS_len, z0_len])) rfl ?_
  rintro _ W47 ⟨k49, o48⟩
  replace k25 := k25.other o48 n43
  replace k8 := k8.other o48 n44
  replace k15 := k15.other o48 n45
  clear k40
  replace h1 := h1.only o48 (.head _)
  replace h2 := h2.only o48 (.head _)
  replace hB := o48.below hB l46
  replace hL := LL.only hL o48
  refine Ni (hK34 ?_)
  obtain ⟨r50, e51⟩ : ∃ x, cur[r35.1.toNat]? = some x := ⟨_, List.getElem?_eq_getElem (by omega)⟩
  have Lr50 := ows_S k15 e51
  refine dM 15 [(some 19, .is (.pointer (some ⟨w.heap.size, 0, none⟩))), (some 20, .is (u17)), (some 21, .is (.pointer (some ⟨W29.heap.size, 0, none⟩))), (some 22, .is (.int .i64 r35.1)), (some 23, .is (g)), (some 24, .is (.int .i64 (i : Int))), (some 25, .is (.pointer (some ⟨w.heap.size, 0, none⟩))), (some 26, .is (u17)), (some 27, .is (.pointer (some ⟨W29.heap.size, 0, none⟩))), (some 28, .is (.int .i64 r35.1)), (some 29, .is (.pointer (some ⟨B14, r35.1.toNat * 128, none⟩))), (some 30, .is (.agg (encS r50).toArray)), (some 31, .is (.pointer (some ⟨W29.heap.size, 1, none⟩))), (some 32, .is (.agg (encS r35.2).toArray)), (some 33, .is (.agg (encS (tk i r50 r35.2)).toArray))] [[], [0], [], [2], [], [], [], [6], [], [8], [7, 9], [10], [], [12], [4, 5, 11, 13]] (by exact trivial) ?_ ?_
  ·
   refine Dc (fun Wd hd => ?_) ?_
   ·
    exact Dd (dx_fld (o1 := 0) rfl ty_fld_25_0_0 rfl rfl) rfl
   refine Dc (fun Wd hd => ?_) ?_
   ·
    have k25 := k25.below hd
    exact Dd (dx_load rfl ty_one_22 rfl (k25.cell (k := 0) rfl)) rfl
   refine Dc (fun Wd hd => ?_) ?_
   ·
    exact Dd (dx_fld (o1 := 0) rfl ty_fld_77_0_0 rfl rfl) rfl
   refine Dc (fun Wd hd => ?_) ?_
   ·
    have k49 := k49.below hd
    exact Dd (dx_load rfl ty_one_3 rfl (k49.cell (k := 0) rfl)) rfl
   refine Dc (fun Wd hd => ?_) ?_
   ·
    exact Dd (dx_move rfl rfl) rfl
   refine Dc (fun Wd hd => ?_) ?_
   ·
    exact Dd (dx_move rfl rfl) rfl
   refine Dc (fun Wd hd => ?_) ?_
   ·
    exact Dd (dx_fld (o1 := 0) rfl ty_fld_25_0_0 rfl rfl) rfl
   refine Dc (fun Wd hd => ?_) ?_
   ·
    have k25 := k25.below hd
    exact Dd (dx_load rfl ty_one_22 rfl (k25.cell (k := 0) rfl)) rfl
   refine Dc (fun Wd hd => ?_) ?_
   ·
    exact Dd (dx_fld (o1 := 0) rfl ty_fld_77_0_0 rfl rfl) rfl
   refine Dc (fun Wd hd => ?_) ?_
   ·
    have k49 := k49.below hd
    exact Dd (dx_load rfl ty_one_3 rfl (k49.cell (k := 0) rfl)) rfl
   refine Dc (fun Wd hd => ?_) ?_
   ·
    have k15 := k15.below hd
    exact Dd (dx_idxO r35.1.toNat rfl ty_slice_22 rfl rfl k15 (by omega) (by rw [List.length_map]; omega) rfl) rfl
   refine Dc (fun Wd hd => ?_) ?_
   ·
    have k15 := k15.below hd
    exact Dd (dx_loadO rfl ty_agg_75_128 rfl k15 rfl (at_map e51)) rfl
   refine Dc (fun Wd hd => ?_) ?_
   ·
    exact Dd (dx_fld (o1 := 1) rfl ty_fld_77_1_1 rfl rfl) rfl
   refine Dc (fun Wd hd => ?_) ?_
   ·
    have k49 := k49.below hd
    exact Dd (dx_loadN (cs := (encS r35.2)) rfl ty_agg_75_128 rfl (k49.partE (n := 128) (by simp [encW, List.take_of_length_le, encS_len, Lr35])) (by rw [encS_len]; exact Lr35)) rfl
   refine Dc (fun Wd hd => ?_) ?_
   ·
    exact DR.mono (dx_fv rfl rfl rfl ((hg _ (below_then hB hd) i r50 r35.2 (by omega) (by first | assumption) (by first | assumption)).1)) (fun v W' ⟨h, hb⟩ => ⟨hb, (by rw [h]; exact rfl)⟩)
   exact trivial
  ·
   intro W52 b53
   replace h1 := h1.below b53
   replace h2 := h2.below b53
   replace k25 := k25.below b53
   replace k8 := k8.below b53
   replace k15 := k15.below b53
   replace hB := below_then hB b53
   replace hL := LL.below hL b53
   refine Va (dx_idxO r35.1.toNat rfl ty_slice_22 rfl rfl k15 (by omega) (by rw [List.length_map]; omega) rfl) rfl rfl ?_
   refine WL.do (dx_storeO (r := (encS (tk i r50 r35.2))) rfl ty_size_75_128 rfl rfl rfl (oc_S (tk i r50 r35.2)) k15 rfl (by rw [List.length_map]; omega) (by rw [encS_len]; exact (hg w (Below.refl _ _) i r50 r35.2 (by omega) (by first | assumption) (by first | assumption)).2)) rfl ?_
   rintro _ W54 ⟨k56, o55⟩
   replace k25 := k25.other o55 n20
   replace k8 := k8.other o55 n21
   clear k15
   replace h1 := h1.only o55 (.tail _ (.head _))
   replace h2 := h2.only o55 (.tail _ (.head _))
   replace hB := o55.below hB l22
   replace hL := LL.only hL o55
   rw [← List.map_set] at k56
   refine Ni (hK33 (Rg (Va (dx_add (r := (i : Int) + 1) rfl rfl rfl (wrap64_id (by omega))) rfl rfl (Pu rfl (Ni ?_)))))
   replace hL := hL.less (fun x hx => (.tail _ hx))
   replace h1 := h1.less (fun x hx => (.tail _ hx))
   replace h2 := h2.less (fun x hx => (.tail _ hx))
   exact hK28 (i + 1) (cur.set r35.1.toNat (tk i r50 r35.2)) ⟨(by omega), (by rw [hv]; exact settle_step e36 e51), (by rw [List.length_set]; exact hc), hB, hL, h1, h2, k25, k8, k56⟩ (by omega) (by repeat first | exact trivial | refine aR ?_ | refine aI (by omega) ?_)
 ·
  replace c32 := dF c32
  refine WC.exit ?_
  refine hK26 (Sq fun K57 hK57 => (Rg (Va (dx_fld (o1 := 1) rfl ty_fld_25_1_1 rfl rfl) rfl rfl ?_)))
  refine WL.do (dx_store (cs' := [u17, .slice none 0 0, .int .i64 fuse, .bool down]) (vs := [.slice none 0 0]) rfl ty_size_23_1 rfl rfl rfl (oC rfl oc_nil) k25 rfl (nB rfl) rfl) rfl ?_
  rintro _ W58 ⟨k60, o59⟩
  replace k8 := k8.other o59 n11.symm
  replace k15 := k15.other o59 n20.symm
  clear k25
  replace hB := o59.below hB l6
  refine Ni (hK57 (Sq fun K61 hK61 => (Rg (Va (dx_loadN rfl ty_agg_25_4 rfl k60.range rfl) rfl rfl ?_))))
  refine WL.do (dx_store (cs' := [u17, .slice none 0 0, .int .i64 fuse, .bool down]) (vs := [u17, .slice none 0 0, .int .i64 fuse, .bool down]) rfl ty_size_25_4 rfl rfl rfl (oC k15.one (oC rfl (oC rfl (oC rfl oc_nil)))) k8 rfl (nB rfl) rfl) rfl ?_
  rintro _ W62 ⟨k64, o63⟩
  replace k15 := k15.other o63 n21.symm
  clear k8
  replace hB := o63.below hB l12
  refine Ni (hK61 ?_)
  exact WC.ret fun a_ ha_ => hQ (cv_ret1 rfl (.agg rfl ty_agg_25_4 k64.range rfl) ⟨_, rfl, (by rw [hv, settle_end (by omega)]; exact k15.notin hL0 l22)⟩ hB ha_)

structure DO where
 secs : List (List Int)
 loose : List (Int × List Int)
 fuse : Int
 down : Bool
 err : Int
def newS (n : Int) : DO := if n < 1 ∨ 2048 < n then ⟨[], [], 0, false, 1⟩ else ⟨List.replicate n.toNat z0, [], -1, false, 0⟩
def writeS (secs : List (List Int)) (loose : List (Int × List Int)) (fuse : Int) (down : Bool) (a : Int) (z : List Int) : DO :=
 if rightD secs loose = false then ⟨secs, loose, fuse, down, 1⟩ else if hasB secs a = false then ⟨secs, loose, fuse, down, 1⟩ else if down = true then ⟨secs, loose, fuse, down, 9⟩
 else if (loose.length : Int) = 4096 then ⟨secs, loose, fuse, down, 10⟩ else if ¬ (burnS fuse down).2.2 = 0 then ⟨secs, loose, (burnS fuse down).1, (burnS fuse down).2.1, (burnS fuse down).2.2⟩ else ⟨secs, loose ++ [(a, z)], (burnS fuse down).1, (burnS fuse down).2.1, 0⟩
def lookN (l : List (Int × List Int)) (a : Int) : Nat → Option (List Int)
 | 0 => none
 | n + 1 => match l[n]? with
  | some p => if p.1 = a then some p.2 else lookN l a n
  | none => lookN l a n
def readS (secs : List (List Int)) (loose : List (Int × List Int)) (down : Bool) (a : Int) : List Int × Int :=
 if rightD secs loose = false then (z0, 1) else if hasB secs a = false then (z0, 1) else if down = true then (z0, 9)
 else match lookN loose a loose.length with
  | some z => (z, 0)
  | none => (secs[a.toNat]?.getD [], 0)
def syncS (secs : List (List Int)) (loose : List (Int × List Int)) (fuse : Int) (down : Bool) : DO :=
 if rightD secs loose = false then ⟨secs, loose, fuse, down, 1⟩ else if down = true then ⟨secs, loose, fuse, down, 9⟩ else if ¬ (burnS fuse down).2.2 = 0 then ⟨secs, loose, (burnS fuse down).1, (burnS fuse down).2.1, (burnS fuse down).2.2⟩ else ⟨settleS (fun _ _ z => z) loose secs 0, [], (burnS fuse down).1, (burnS fuse down).2.1, 0⟩
theorem right_of {secs : List (List Int)} {loose : List (Int × List Int)} (h : rightD secs loose = true) : secs ≠ [] ∧ secs.length ≤ 2048 ∧ loose.length ≤ 4096 ∧ ∀ p ∈ loose, 0 ≤ p.1 ∧ p.1 < secs.length := by
 unfold rightD hasB at h
 simp only [Bool.and_eq_true, Bool.not_eq_true', Bool.or_eq_false_iff, decide_eq_false_iff_not, List.any_eq_false, Bool.and_eq_true, decide_eq_true_eq, Bool.not_eq_true', Bool.and_eq_false_iff, not_or] at h
 obtain ⟨⟨⟨h1, h2⟩, h3⟩, h4⟩ := h
 refine ⟨fun e => by subst e; simp at h1, by omega, by omega, fun p hp => ?_⟩
 have := h4 p hp
 simp at this
 omega
theorem builtW (a : Int) (z : List Int) (hz : z.length = 128) : Tryd.prog.built 77 [(0, .int .i64 a), (1, .agg (encS z).toArray)] = some (encW (a, z)).toArray := by
 have e0 : Tryd.prog.built 77 [(0, .int .i64 a)] = some (encW (a, z0)).toArray := by kernel_rfl
 have e1 : (encS z).toArray.size = 128 := by simp [encS, hz]
 have h1 : Tryd.prog.built 77 [(0, .int .i64 a), (1, .agg (encS z).toArray)] = Instr.fill (fun k => [(0, 1), (1, 128)][k]?) (encW (a, z0)).toArray [(1, .agg (encS z).toArray)] := by kernel_rfl
 rw [h1]
 have e2 : (encW (a, z0)).toArray.size = 129 := by simp [encW, encS_len, z0_len]
 unfold Instr.fill
 simp only [List.getElem?_cons_succ, List.getElem?_cons_zero, Value.cells, e1, e2]
 have gen : ∀ (l : List Value) (k : Nat) (cs : Array Value), 1 + k + l.length = cs.size → ((l.zipIdx k).foldl (fun cs (p : Value × Nat) => cs.setIfInBounds (1 + p.2) p.1) cs).toList = cs.toList.take (1 + k) ++ l := by
  intro l
  induction l with
  | nil => intro k cs h; simp only [List.length_nil, Nat.add_zero] at h; rw [List.take_of_length_le (by simp [h])]; simp
  | cons x l ih =>
   intro k cs h
   simp only [List.zipIdx_cons, List.foldl_cons]
   rw [ih (k + 1) _ (by simp at h ⊢; omega)]
   have hk : 1 + k < cs.toList.length := by simp at h ⊢; omega
   rw [Array.toList_setIfInBounds, ← Nat.add_assoc, List.take_succ_eq_append_getElem (by simpa using hk)]
   simp only [List.getElem_set_self, List.append_assoc, List.singleton_append, List.cons_append, List.nil_append]
   congr 1
   rw [List.take_set, List.set_eq_of_length_le (by rw [List.length_take]; omega)]
 simp only [ne_eq, not_true_eq_false, gt_iff_lt, Nat.lt_irrefl, or_self, if_false, Instr.fill, ← Array.foldl_toList, Array.toList_zipIdx]
 have h2 := gen (encS z) 0 (encW (a, z0)).toArray (by simp [encS_len, hz, encW, z0_len])
 have h3 : (List.foldl (fun cs (p : Value × Nat) => cs.setIfInBounds (1 + p.2) p.1) (encW (a, z0)).toArray ((encS z).zipIdx 0)) = (encW (a, z)).toArray := by
  apply Array.ext'
  rw [h2]; simp [encW]
 simpa using h3
set_option maxHeartbeats 1000000 in
theorem new_v (n : Int) (w : World) (L : List Nat) (hL : LL L w)   (hL0 : LL L w) : CV Tryd.prog 27 [.int .i64 n] w fun v W => ∃ s1' s2', v = .tuple #[.agg #[s1', s2', .int .i64 (newS n).fuse, .bool (newS n).down], .int .i64 (newS n).err] ∧ RdF 128 L W s1' ((newS n).secs.map encS) ∧ RdF 129 L W s2' ((newS n).loose.map encW) := by
 refine cv_enter (N := 14) (f := [(0, .int .i64 n)]) Tryd.func27 rfl rfl rfl rfl fun Q hQ hE => ?_
 have hB := Below.refl w.heap.size w
 refine Sq fun K1 hK1 => (Rg ?_)
 refine Ge (dx_alloc rfl ty_zero_25 rfl) rfl rfl ?_
 rintro _ W2 ⟨rfl, k3, b4, z5⟩
 have l6 := hB.size
 replace hB := below_then hB b4
 refine Pu rfl (Ni (hK1 (Sq fun K7 hK7 => (Sq fun K8 hK8 => (Rg (Pu rfl (Va (dx_lss rfl rfl rfl) rfl rfl ?_)))))))
 refine Pu rfl ?_
 refine WL.split 6 rfl (fun g9 => ?_) (fun g9 => ?_)
 ·
  replace g9 := dT g9
  refine Of rfl (Of rfl (Pu rfl (Ni (hK8 (WC.condT rfl (Sq fun K10 hK10 => (Rg ?_)))))))
  refine Va (dx_build rfl rfl (built_of_O (cs := [.slice none 0 0, .slice none 0 0, .int .i64 0, .bool false]) (by kernel_rfl) oc_nil)) rfl rfl ?_
  refine WL.do (dx_store (cs' := [.slice none 0 0, .slice none 0 0, .int .i64 0, .bool false]) (vs := [.slice none 0 0, .slice none 0 0, .int .i64 0, .bool false]) rfl ty_size_25_4 rfl rfl rfl (oC rfl (oC rfl (oC rfl (oC rfl oc_nil)))) k3 rfl (nB rfl) rfl) rfl ?_
  rintro _ W11 ⟨k13, o12⟩
  clear k3
  replace hB := o12.below hB l6
  refine Pu rfl (Ni (hK10 ?_))
  exact WC.ret fun a_ ha_ => hQ (cv_ret2 rfl (.agg rfl ty_agg_25_4 k13.range rfl) (.tmp rfl) (by rw [show newS n = ⟨[], [], 0, false, 1⟩ from (by first | (unfold newS; generalize burnS fuse down = bb at *; simp [newS, g9]; done) | (simp [newS, g9]; done))]; exact ⟨_, _, rfl, (RdF.nil (by decide)), (RdF.nil (by decide))⟩) hB ha_)
 ·
  replace g9 := dF g9
  refine Pu rfl (Va (dx_gtr rfl rfl rfl) rfl rfl (Pu rfl (Ni (hK8 ?_))))
  refine WC.cond rfl (fun c14 => ?_) (fun c14 => ?_)
  ·
   replace c14 := dT c14
   refine Sq fun K15 hK15 => (Rg (Va (dx_build rfl rfl (built_of_O (cs := [.slice none 0 0, .slice none 0 0, .int .i64 0, .bool false]) (by kernel_rfl) oc_nil)) rfl rfl ?_))
   refine WL.do (dx_store (cs' := [.slice none 0 0, .slice none 0 0, .int .i64 0, .bool false]) (vs := [.slice none 0 0, .slice none 0 0, .int .i64 0, .bool false]) rfl ty_size_25_4 rfl rfl rfl (oC rfl (oC rfl (oC rfl (oC rfl oc_nil)))) k3 rfl (nB rfl) rfl) rfl ?_
   rintro _ W16 ⟨k18, o17⟩
   clear k3
   replace hB := o17.below hB l6
   refine Pu rfl (Ni (hK15 ?_))
   exact WC.ret fun a_ ha_ => hQ (cv_ret2 rfl (.agg rfl ty_agg_25_4 k18.range rfl) (.tmp rfl) (by rw [show newS n = ⟨[], [], 0, false, 1⟩ from (by first | (unfold newS; generalize burnS fuse down = bb at *; simp [newS, g9, c14]; done) | (simp [newS, g9, c14]; done))]; exact ⟨_, _, rfl, (RdF.nil (by decide)), (RdF.nil (by decide))⟩) hB ha_)
  ·
   replace c14 := dF c14
   refine WC.skip (hK7 (Sq fun K19 hK19 => (Rg (Pu rfl ?_))))
   refine Ge (dx_make (r := encS z0) rfl ty_ap_22 (fun e he => by rw [Tryd.underlying22] at he; cases he; kernel_rfl) rfl rfl (by omega) (by decide) (by omega) (by unfold maxLen; omega)) rfl rfl ?_
   rintro u24 W20 ⟨k21, b22, z23⟩
   rw [← List.map_replicate] at k21
   have n25 : w.heap.size ≠ W2.heap.size := Nat.ne_of_lt k3.lt
   have l26 := hB.size
   replace k3 := k3.below b22
   replace hB := below_then hB b22
   refine Va (dx_build rfl rfl (built_of_O (cs := [u24, .slice none 0 0, .int .i64 (-1), .bool false]) (by kernel_rfl) (oC k21.one (oC rfl oc_nil)))) rfl rfl ?_
   refine WL.do (dx_store (cs' := [u24, .slice none 0 0, .int .i64 (-1), .bool false]) (vs := [u24, .slice none 0 0, .int .i64 (-1), .bool false]) rfl ty_size_25_4 rfl rfl rfl (oC k21.one (oC rfl (oC rfl (oC rfl oc_nil)))) k3 rfl (nB rfl) rfl) rfl ?_
   rintro _ W27 ⟨k29, o28⟩
   replace k21 := k21.other o28 n25.symm
   clear k3
   replace hB := o28.below hB l6
   refine Pu rfl (Ni (hK19 ?_))
   exact WC.ret fun a_ ha_ => hQ (cv_ret2 rfl (.agg rfl ty_agg_25_4 k29.range rfl) (.tmp rfl) (by rw [show newS n = ⟨List.replicate n.toNat z0, [], (-1), false, 0⟩ from (by first | (unfold newS; generalize burnS fuse down = bb at *; simp [newS, g9, c14]; done) | (simp [newS, g9, c14]; done))]; exact ⟨_, _, rfl, (k21.notin hL0 l26), (RdF.nil (by decide))⟩) hB ha_)

set_option maxHeartbeats 1000000 in
theorem write_v (secs : List (List Int)) (loose : List (Int × List Int)) (fuse : Int) (down : Bool) (s1 s2 : Value) (a : Int) (z : List Int) (w : World) (L : List Nat) (hL : LL L w) (h1 : RdF 128 L w s1 (secs.map encS)) (h2 : RdF 129 L w s2 (loose.map encW))  (hL0 : LL L w) (hfu : -9223372036854775808 ≤ fuse ∧ fuse ≤ 9223372036854775807) (hz : z.length = 128) : CV Tryd.prog 63 [.agg #[s1, s2, .int .i64 fuse, .bool down], .int .i64 a, .agg (encS z).toArray] w fun v W => ∃ s1' s2', v = .tuple #[.agg #[s1', s2', .int .i64 (writeS secs loose fuse down a z).fuse, .bool (writeS secs loose fuse down a z).down], .int .i64 (writeS secs loose fuse down a z).err] ∧ RdF 128 L W s1' ((writeS secs loose fuse down a z).secs.map encS) ∧ RdF 129 L W s2' ((writeS secs loose fuse down a z).loose.map encW) := by
 refine cv_enter (N := 46) (f := [(0, .agg #[s1, s2, .int .i64 fuse, .bool down]), (1, .int .i64 a), (2, .agg (encS z).toArray)]) Tryd.func63 rfl rfl rfl rfl fun Q hQ hE => ?_
 have hB := Below.refl w.heap.size w
 have h1m : secs.length ≤ maxLen := by have := h1.len; rwa [List.length_map] at this
 unfold maxLen at h1m
 have h2m : loose.length ≤ maxLen := by have := h2.len; rwa [List.length_map] at this
 unfold maxLen at h2m
 refine Sq fun K1 hK1 => (Rg ?_)
 refine Ge (dx_box rfl rfl rfl) rfl rfl ?_
 rintro _ W2 ⟨rfl, k3, b4, z5⟩
 have l6 := hB.size
 replace h1 := h1.more b4 (Nat.le_refl _)
 replace h2 := h2.more b4 (Nat.le_refl _)
 replace hB := below_then hB b4
 replace hL := LL.more hL z5
 refine Ge (dx_box (cs := (encS z)) rfl rfl rfl) rfl rfl ?_
 rintro _ W7 ⟨rfl, k8, b9, z10⟩
 have n11 : w.heap.size ≠ W2.heap.size := Nat.ne_of_lt k3.lt
 have l12 := hB.size
 replace h1 := h1.more b9 (Nat.le_refl _)
 replace h2 := h2.more b9 (Nat.le_refl _)
 replace k3 := k3.below b9
 replace hB := below_then hB b9
 replace hL := LL.more hL z10
 refine Ge (dx_alloc rfl ty_zero_25 rfl) rfl rfl ?_
 rintro _ W13 ⟨rfl, k14, b15, z16⟩
 have n17 : w.heap.size ≠ W7.heap.size := Nat.ne_of_lt k3.lt
 have l19 := hB.size
 replace h1 := h1.more b15 (Nat.le_refl _)
 replace h2 := h2.more b15 (Nat.le_refl _)
 replace k3 := k3.below b15
 replace k8 := k8.below b15
 replace hB := below_then hB b15
 replace hL := LL.more hL z16
 refine Pu rfl (Ni (hK1 (Sq fun K20 hK20 => (Sq fun K21 hK21 => (Rg (Va (dx_loadN rfl ty_agg_25_4 rfl k3.range rfl) rfl rfl ?_))))))
 refine Ge (dx_cv rfl Tryd.func50 rfl rfl rfl (right_v _ _ _ _ _ _ W13 [] (LL.nil _) (h1.less (by simp)) (h2.less (by simp)))) rfl rfl ?_
 rintro _ W23 ⟨rfl, b22⟩
 replace h1 := h1.below b22
 replace h2 := h2.below b22
 replace k3 := k3.below b22
 replace k8 := k8.below b22
 replace k14 := k14.below b22
 replace hB := below_then hB b22
 replace hL := LL.below hL b22
 refine Va (dx_not rfl rfl) rfl rfl (Pu rfl ?_)
 refine WL.split 12 rfl (fun g24 => ?_) (fun g24 => ?_)
 ·
  replace g24 := bnot_t g24
  refine Of rfl (Of rfl (Of rfl (Of rfl (Pu rfl (Ni (hK21 (WC.condT rfl ?_)))))))
  refine Sq fun K25 hK25 => (Rg (Va (dx_loadN rfl ty_agg_25_4 rfl k3.range rfl) rfl rfl ?_))
  refine WL.do (dx_store (cs' := [s1, s2, .int .i64 fuse, .bool down]) (vs := [s1, s2, .int .i64 fuse, .bool down]) rfl ty_size_25_4 rfl rfl rfl (oC h1.one (oC h2.one (oC rfl (oC rfl oc_nil)))) k14 rfl (nB rfl) rfl) rfl ?_
  rintro _ W26 ⟨k28, o27⟩
  clear k14
  replace h1 := h1.only o27 (.head _)
  replace h2 := h2.only o27 (.head _)
  replace hB := o27.below hB l19
  refine Pu rfl (Ni (hK25 ?_))
  exact WC.ret fun a_ ha_ => hQ (cv_ret2 rfl (.agg rfl ty_agg_25_4 k28.range rfl) (.tmp rfl) (by rw [show writeS secs loose fuse down a z = ⟨secs, loose, fuse, down, 1⟩ from (by first | (unfold writeS; generalize burnS fuse down = bb at *; simp [writeS, g24]; done) | (simp [writeS, g24]; done))]; exact ⟨_, _, rfl, (h1.less (fun x hx => (.tail _ (.tail _ (.tail _ hx))))), (h2.less (fun x hx => (.tail _ (.tail _ (.tail _ hx)))))⟩) hB ha_)
 ·
  replace g24 := bnot_f g24
  have hr := right_of g24; obtain ⟨hne, hsm, hlm, hrt⟩ := hr
  refine Va (dx_loadN rfl ty_agg_25_4 rfl k3.range rfl) rfl rfl (Pu rfl ?_)
  refine Ge (dx_cv rfl Tryd.func71 rfl rfl rfl (has_v _ _ _ _ _ _ a W23 [] (LL.nil _) (h1.less (by simp)) (h2.less (by simp)))) rfl rfl ?_
  rintro _ W30 ⟨rfl, b29⟩
  replace h1 := h1.below b29
  replace h2 := h2.below b29
  replace k3 := k3.below b29
  replace k8 := k8.below b29
  replace k14 := k14.below b29
  replace hB := below_then hB b29
  replace hL := LL.below hL b29
  refine Va (dx_not rfl rfl) rfl rfl (Pu rfl (Ni (hK21 ?_)))
  refine WC.cond rfl (fun c31 => ?_) (fun c31 => ?_)
  ·
   replace c31 := bnot_t c31
   refine Sq fun K32 hK32 => (Rg (Va (dx_loadN rfl ty_agg_25_4 rfl k3.range rfl) rfl rfl ?_))
   refine WL.do (dx_store (cs' := [s1, s2, .int .i64 fuse, .bool down]) (vs := [s1, s2, .int .i64 fuse, .bool down]) rfl ty_size_25_4 rfl rfl rfl (oC h1.one (oC h2.one (oC rfl (oC rfl oc_nil)))) k14 rfl (nB rfl) rfl) rfl ?_
   rintro _ W33 ⟨k35, o34⟩
   clear k14
   replace h1 := h1.only o34 (.head _)
   replace h2 := h2.only o34 (.head _)
   replace hB := o34.below hB l19
   refine Pu rfl (Ni (hK32 ?_))
   exact WC.ret fun a_ ha_ => hQ (cv_ret2 rfl (.agg rfl ty_agg_25_4 k35.range rfl) (.tmp rfl) (by rw [show writeS secs loose fuse down a z = ⟨secs, loose, fuse, down, 1⟩ from (by first | (unfold writeS; generalize burnS fuse down = bb at *; simp [writeS, g24, c31]; done) | (simp [writeS, g24, c31]; done))]; exact ⟨_, _, rfl, (h1.less (fun x hx => (.tail _ (.tail _ (.tail _ hx))))), (h2.less (fun x hx => (.tail _ (.tail _ (.tail _ hx)))))⟩) hB ha_)
  ·
   replace c31 := bnot_f c31
   refine WC.skip (hK20 (Sq fun K36 hK36 => (Sq fun K37 hK37 => (Rg (Va (dx_fld (o1 := 3) rfl ty_fld_25_3_3 rfl rfl) rfl rfl (Va (dx_load rfl ty_one_4 rfl (k3.cell (k := 3) rfl)) rfl rfl (Ni ?_)))))))
   refine hK37 ?_
   refine WC.cond rfl (fun c38 => ?_) (fun c38 => ?_)
   ·
    refine Sq fun K39 hK39 => (Rg (Va (dx_loadN rfl ty_agg_25_4 rfl k3.range rfl) rfl rfl ?_))
    refine WL.do (dx_store (cs' := [s1, s2, .int .i64 fuse, .bool down]) (vs := [s1, s2, .int .i64 fuse, .bool down]) rfl ty_size_25_4 rfl rfl rfl (oC h1.one (oC h2.one (oC rfl (oC rfl oc_nil)))) k14 rfl (nB rfl) rfl) rfl ?_
    rintro _ W40 ⟨k42, o41⟩
    clear k14
    replace h1 := h1.only o41 (.head _)
    replace h2 := h2.only o41 (.head _)
    replace hB := o41.below hB l19
    refine Pu rfl (Ni (hK39 ?_))
    exact WC.ret fun a_ ha_ => hQ (cv_ret2 rfl (.agg rfl ty_agg_25_4 k42.range rfl) (.tmp rfl) (by rw [show writeS secs loose fuse down a z = ⟨secs, loose, fuse, down, 9⟩ from (by first | (unfold writeS; generalize burnS fuse down = bb at *; simp [writeS, g24, c31, c38]; done) | (simp [writeS, g24, c31, c38]; done))]; exact ⟨_, _, rfl, (h1.less (fun x hx => (.tail _ (.tail _ (.tail _ hx))))), (h2.less (fun x hx => (.tail _ (.tail _ (.tail _ hx)))))⟩) hB ha_)
   ·
    replace c38 := bvar_f c38
    refine WC.skip (hK36 (Sq fun K43 hK43 => (Sq fun K44 hK44 => (Rg (Va (dx_fld (o1 := 1) rfl ty_fld_25_1_1 rfl rfl) rfl rfl (Va (dx_load rfl ty_one_23 rfl (k3.cell (k := 1) rfl)) rfl rfl (Va (dx_lenM rfl ty_slice_23 rfl h2) rfl rfl ?_)))))))
    refine Va (dx_eql rfl rfl rfl) rfl rfl (Ni (hK44 ?_))
    refine WC.cond rfl (fun c45 => ?_) (fun c45 => ?_)
    ·
     replace c45 := dT c45
     refine Sq fun K46 hK46 => (Rg (Va (dx_loadN rfl ty_agg_25_4 rfl k3.range rfl) rfl rfl ?_))
     refine WL.do (dx_store (cs' := [s1, s2, .int .i64 fuse, .bool down]) (vs := [s1, s2, .int .i64 fuse, .bool down]) rfl ty_size_25_4 rfl rfl rfl (oC h1.one (oC h2.one (oC rfl (oC rfl oc_nil)))) k14 rfl (nB rfl) rfl) rfl ?_
     rintro _ W47 ⟨k49, o48⟩
     clear k14
     replace h1 := h1.only o48 (.head _)
     replace h2 := h2.only o48 (.head _)
     replace hB := o48.below hB l19
     refine Pu rfl (Ni (hK46 ?_))
     exact WC.ret fun a_ ha_ => hQ (cv_ret2 rfl (.agg rfl ty_agg_25_4 k49.range rfl) (.tmp rfl) (by rw [show writeS secs loose fuse down a z = ⟨secs, loose, fuse, down, 10⟩ from (by first | (unfold writeS; generalize burnS fuse down = bb at *; simp [writeS, g24, c31, c38, c45]; done) | (simp [writeS, g24, c31, c38, c45]; done))]; exact ⟨_, _, rfl, (h1.less (fun x hx => (.tail _ (.tail _ (.tail _ hx))))), (h2.less (fun x hx => (.tail _ (.tail _ (.tail _ hx)))))⟩) hB ha_)
    ·
     replace c45 := dF c45
     refine WC.skip (hK43 (Sq fun K50 hK50 => (Rg (Va (dx_loadN rfl ty_agg_25_4 rfl k3.range rfl) rfl rfl ?_))))
     refine Ge (dx_cv rfl Tryd.func79 rfl rfl rfl (burn_v secs loose fuse down s1 s2 W30 [] (LL.nil _) (h1.less (by simp)) (h2.less (by simp)) hfu)) rfl rfl ?_
     rintro _ W52 ⟨rfl, b51⟩
     replace h1 := h1.below b51
     replace h2 := h2.below b51
     replace k3 := k3.below b51
     replace k8 := k8.below b51
     replace k14 := k14.below b51
     replace hB := below_then hB b51
     replace hL := LL.below hL b51
     refine Pu rfl (Pu rfl (Pu rfl ?_))
     refine WL.do (dx_store (cs' := [s1, s2, .int .i64 ((burnS fuse down).1), .bool ((burnS fuse down).2.1)]) (vs := [s1, s2, .int .i64 ((burnS fuse down).1), .bool ((burnS fuse down).2.1)]) rfl ty_size_25_4 rfl rfl rfl (oC h1.one (oC h2.one (oC rfl (oC rfl oc_nil)))) k3 rfl (nB rfl) rfl) rfl ?_
     rintro _ W53 ⟨k55, o54⟩
     replace k8 := k8.other o54 n11.symm
     replace k14 := k14.other o54 n17.symm
     clear k3
     replace h1 := h1.only o54 (.tail _ (.tail _ (.head _)))
     replace h2 := h2.only o54 (.tail _ (.tail _ (.head _)))
     replace hB := o54.below hB l6
     replace hL := LL.only hL o54
     refine Pu rfl (Ni (hK50 (Sq fun K56 hK56 => (Sq fun K57 hK57 => (Rg (Pu rfl (Va (dx_neq rfl rfl rfl) rfl rfl ?_)))))))
     refine Ni (hK57 ?_)
     refine WC.cond rfl (fun c58 => ?_) (fun c58 => ?_)
     ·
      replace c58 := bnot_t c58
      replace c58 := dF c58
      refine Sq fun K59 hK59 => (Rg (Va (dx_loadN rfl ty_agg_25_4 rfl k55.range rfl) rfl rfl (Pu rfl ?_)))
      refine WL.do (dx_store (cs' := [s1, s2, .int .i64 ((burnS fuse down).1), .bool ((burnS fuse down).2.1)]) (vs := [s1, s2, .int .i64 ((burnS fuse down).1), .bool ((burnS fuse down).2.1)]) rfl ty_size_25_4 rfl rfl rfl (oC h1.one (oC h2.one (oC rfl (oC rfl oc_nil)))) k14 rfl (nB rfl) rfl) rfl ?_
      rintro _ W60 ⟨k62, o61⟩
      clear k14
      replace h1 := h1.only o61 (.head _)
      replace h2 := h2.only o61 (.head _)
      replace hB := o61.below hB l19
      refine Pu rfl (Ni (hK59 ?_))
      exact WC.ret fun a_ ha_ => hQ (cv_ret2 rfl (.agg rfl ty_agg_25_4 k62.range rfl) (.tmp rfl) (by rw [show writeS secs loose fuse down a z = ⟨secs, loose, (burnS fuse down).1, (burnS fuse down).2.1, (burnS fuse down).2.2⟩ from (by first | (unfold writeS; generalize burnS fuse down = bb at *; simp [writeS, g24, c31, c38, c45, c58]; done) | (simp [writeS, g24, c31, c38, c45, c58]; done))]; exact ⟨_, _, rfl, (h1.less (fun x hx => (.tail _ (.tail _ (.tail _ hx))))), (h2.less (fun x hx => (.tail _ (.tail _ (.tail _ hx)))))⟩) hB ha_)
     ·
      replace c58 := bnot_f c58
      replace c58 := dT c58
      refine WC.skip (hK56 (Sq fun K63 hK63 => ?_))
      refine dM 7 [(some 36, .is (.pointer (some ⟨w.heap.size, 1, none⟩))), (some 37, .is (s2)), (some 38, .by fun u W => FulF 129 (W7.heap.size :: W2.heap.size :: w.heap.size :: L) W u (loose.map encW)), (some 39, .is (.int .i64 a)), (some 40, .is (.agg (encS z).toArray)), (some 41, .is (.agg (encW (a, z)).toArray)), (some 42, .by fun u W => RdF 129 (W7.heap.size :: W2.heap.size :: w.heap.size :: L) W u [(encW (a, z))])] [[], [0], [1], [], [], [3, 4], [5]] ⟨fun _ _ _ hb h => h.below hb, fun _ _ _ hb h => h.below hb, trivial⟩ ?_ ?_
      ·
       refine Dc (fun Wd hd => ?_) ?_
       ·
        exact Dd (dx_fld (o1 := 1) rfl ty_fld_25_1_1 rfl rfl) rfl
       refine Dc (fun Wd hd => ?_) ?_
       ·
        have k55 := k55.below hd
        exact Dd (dx_load rfl ty_one_23 rfl (k55.cell (k := 1) rfl)) rfl
       refine Dc (fun Wd hd => ?_) ?_
       ·
        have h1 := h1.below hd
        have h2 := h2.below hd
        exact DR.mono (dx_cv rfl Tryd.func80 rfl rfl rfl (clipW_v loose s2 Wd _ (LL.below hL hd) h2)) (fun v W' h => ⟨h.2, (by obtain ⟨a, h1, h2⟩ := h.1; exact ⟨a, by rw [List.length_map]; exact h1, h2⟩)⟩)
       refine Dc (fun Wd hd => ?_) ?_
       ·
        exact Dd (dx_move rfl rfl) rfl
       refine Dc (fun Wd hd => ?_) ?_
       ·
        have k8 := k8.below hd
        exact Dd (dx_loadN rfl ty_agg_75_128 rfl k8.range (by rw [encS_len]; exact hz)) rfl
       refine Dc (fun Wd hd => ?_) ?_
       ·
        exact Dd (dx_build rfl rfl (builtW _ _ hz)) rfl
       refine Dc (fun Wd hd => ?_) ?_
       ·
        exact (dx_lit1 (r := (encW (a, z))) rfl ty_ap_23 (by decide) (by decide) rfl rfl (by simp [encW, encS_len, hz])).mono (fun v W' h => ⟨h.2.1, h.1.notin (LL.below hL hd) (Nat.le_refl _)⟩)
       exact trivial
      ·
       intro W64 b65
       rintro u10_2 ⟨a10, rfl, p10_2⟩
       intro u10_6 p10_6
       replace h1 := h1.below b65
       replace k55 := k55.below b65
       replace k14 := k14.below b65
       replace hB := below_then hB b65
       refine Ge (dx_apF (rs := (loose.map encW)) (news := [(encW (a, z))]) rfl ty_ap_23 rfl rfl p10_2 p10_6 (by simp) (by simp; unfold maxLen; omega) (by simp; omega)) rfl rfl ?_
       rintro u70 W66 ⟨k67, b68, z69⟩
       have n71 : w.heap.size ≠ W64.heap.size := Nat.ne_of_lt k55.lt
       have n73 : W7.heap.size ≠ W64.heap.size := Nat.ne_of_lt k14.lt
       have l74 := hB.size
       replace h1 := h1.more b68 (Nat.le_refl _)
       replace k55 := k55.below b68
       replace k14 := k14.below b68
       replace hB := below_then hB b68
       rw [show (loose.map encW) ++ [encW (a, z)] = (loose ++ [(a, z)]).map encW from by simp] at k67
       refine Va (dx_fld (o1 := 1) rfl ty_fld_25_1_1 rfl rfl) rfl rfl ?_
       refine WL.do (dx_store (cs' := [s1, u70, .int .i64 ((burnS fuse down).1), .bool ((burnS fuse down).2.1)]) (vs := [u70]) rfl ty_size_23_1 rfl rfl (oc_one k67.one) (oC k67.one oc_nil) k55 rfl (nB rfl) rfl) rfl ?_
       rintro _ W75 ⟨k77, o76⟩
       replace k14 := k14.other o76 n17.symm
       replace k67 := k67.other o76 n71.symm
       clear k55
       replace h1 := h1.only o76 (.tail _ (.tail _ (.tail _ (.head _))))
       replace hB := o76.below hB l6
       refine Ni (hK63 (Sq fun K78 hK78 => (Rg (Va (dx_loadN rfl ty_agg_25_4 rfl k77.range rfl) rfl rfl ?_))))
       refine WL.do (dx_store (cs' := [s1, u70, .int .i64 ((burnS fuse down).1), .bool ((burnS fuse down).2.1)]) (vs := [s1, u70, .int .i64 ((burnS fuse down).1), .bool ((burnS fuse down).2.1)]) rfl ty_size_25_4 rfl rfl rfl (oC h1.one (oC k67.one (oC rfl (oC rfl oc_nil)))) k14 rfl (nB rfl) rfl) rfl ?_
       rintro _ W79 ⟨k81, o80⟩
       replace k67 := k67.other o80 n73.symm
       clear k14
       replace h1 := h1.only o80 (.tail _ (.head _))
       replace hB := o80.below hB l19
       refine Pu rfl (Ni (hK78 ?_))
       exact WC.ret fun a_ ha_ => hQ (cv_ret2 rfl (.agg rfl ty_agg_25_4 k81.range rfl) (.tmp rfl) (by rw [show writeS secs loose fuse down a z = ⟨secs, loose ++ [(a, z)], (burnS fuse down).1, (burnS fuse down).2.1, 0⟩ from (by first | (unfold writeS; generalize burnS fuse down = bb at *; simp [writeS, g24, c31, c38, c45, c58]; done) | (simp [writeS, g24, c31, c38, c45, c58]; done))]; exact ⟨_, _, rfl, (h1.less (fun x hx => (.tail _ (.tail _ (.tail _ (.tail _ hx)))))), (k67.notin hL0 l74)⟩) hB ha_)

theorem lookN_here {l : List (Int × List Int)} {a : Int} {n : Nat} {p : Int × List Int} (h : l[n]? = some p) (ha : p.1 = a) : lookN l a (n + 1) = some p.2 := by simp [lookN, h, ha]
theorem lookN_next {l : List (Int × List Int)} {a : Int} {n : Nat} {p : Int × List Int} (h : l[n]? = some p) (ha : ¬ p.1 = a) : lookN l a (n + 1) = lookN l a n := by simp [lookN, h, ha]
theorem builtS0 : Tryd.prog.built 75 [] = some (encS z0).toArray := by kernel_rfl
set_option maxHeartbeats 1000000 in
theorem read_v (secs : List (List Int)) (loose : List (Int × List Int)) (fuse : Int) (down : Bool) (s1 s2 : Value) (a : Int) (w : World) (L : List Nat) (hL : LL L w) (h1 : RdF 128 L w s1 (secs.map encS)) (h2 : RdF 129 L w s2 (loose.map encW)) : CV Tryd.prog 73 [.agg #[s1, s2, .int .i64 fuse, .bool down], .int .i64 a] w fun v W => v = .tuple #[.agg (encS (readS secs loose down a).1).toArray, .int .i64 (readS secs loose down a).2] := by
 refine cv_enter (N := 47) (f := [(0, .agg #[s1, s2, .int .i64 fuse, .bool down]), (1, .int .i64 a)]) Tryd.func73 rfl rfl rfl rfl fun Q hQ hE => ?_
 have hB := Below.refl w.heap.size w
 have h1m : secs.length ≤ maxLen := by have := h1.len; rwa [List.length_map] at this
 unfold maxLen at h1m
 have h2m : loose.length ≤ maxLen := by have := h2.len; rwa [List.length_map] at this
 unfold maxLen at h2m
 refine Sq fun K1 hK1 => (Rg ?_)
 refine Ge (dx_box rfl rfl rfl) rfl rfl ?_
 rintro _ W2 ⟨rfl, k3, b4, z5⟩
 have l6 := hB.size
 replace h1 := h1.more b4 (Nat.le_refl _)
 replace h2 := h2.more b4 (Nat.le_refl _)
 replace hB := below_then hB b4
 replace hL := LL.more hL z5
 refine Ge (dx_alloc (cs := encS z0) rfl ty_zero_75 cells_z0) rfl rfl ?_
 rintro _ W7 ⟨rfl, k8, b9, z10⟩
 have l12 := hB.size
 replace h1 := h1.more b9 (Nat.le_refl _)
 replace h2 := h2.more b9 (Nat.le_refl _)
 replace k3 := k3.below b9
 replace hB := below_then hB b9
 replace hL := LL.more hL z10
 refine Pu rfl (Ni (hK1 (Sq fun K13 hK13 => (Sq fun K14 hK14 => (Rg (Va (dx_loadN rfl ty_agg_25_4 rfl k3.range rfl) rfl rfl ?_))))))
 refine Ge (dx_cv rfl Tryd.func50 rfl rfl rfl (right_v _ _ _ _ _ _ W7 [] (LL.nil _) (h1.less (by simp)) (h2.less (by simp)))) rfl rfl ?_
 rintro _ W16 ⟨rfl, b15⟩
 replace h1 := h1.below b15
 replace h2 := h2.below b15
 replace k3 := k3.below b15
 replace k8 := k8.below b15
 replace hB := below_then hB b15
 replace hL := LL.below hL b15
 refine Va (dx_not rfl rfl) rfl rfl (Pu rfl ?_)
 refine WL.split 10 rfl (fun g17 => ?_) (fun g17 => ?_)
 ·
  replace g17 := bnot_t g17
  refine Of rfl (Of rfl (Of rfl (Of rfl (Pu rfl (Ni (hK14 (WC.condT rfl ?_)))))))
  refine Sq fun K18 hK18 => (Rg (Va (dx_build rfl rfl builtS0) rfl rfl ?_))
  refine WL.do (dx_storeW (vs := (encS z0)) rfl ty_size_75_128 rfl rfl rfl (oc_S z0) k8 (by rw [encS_len]; exact z0_len) (by rw [encS_len]; exact z0_len)) rfl ?_
  rintro _ W19 ⟨k21, o20⟩
  clear k8
  replace hB := o20.below hB l12
  refine Pu rfl (Ni (hK18 ?_))
  exact WC.ret fun a_ ha_ => hQ (cv_ret2 rfl (.agg rfl ty_agg_75_128 k21.range (by rw [encS_len]; exact z0_len)) (.tmp rfl) (by rw [show readS secs loose down a = (z0, 1) from (by simp [readS, g17])]) hB ha_)
 ·
  replace g17 := bnot_f g17
  have hr := right_of g17; obtain ⟨hne, hsm, hlm, hrt⟩ := hr
  refine Va (dx_loadN rfl ty_agg_25_4 rfl k3.range rfl) rfl rfl (Pu rfl ?_)
  refine Ge (dx_cv rfl Tryd.func71 rfl rfl rfl (has_v _ _ _ _ _ _ a W16 [] (LL.nil _) (h1.less (by simp)) (h2.less (by simp)))) rfl rfl ?_
  rintro _ W23 ⟨rfl, b22⟩
  replace h1 := h1.below b22
  replace h2 := h2.below b22
  replace k3 := k3.below b22
  replace k8 := k8.below b22
  replace hB := below_then hB b22
  replace hL := LL.below hL b22
  refine Va (dx_not rfl rfl) rfl rfl (Pu rfl (Ni (hK14 ?_)))
  refine WC.cond rfl (fun c24 => ?_) (fun c24 => ?_)
  ·
   replace c24 := bnot_t c24
   refine Sq fun K25 hK25 => (Rg (Va (dx_build rfl rfl builtS0) rfl rfl ?_))
   refine WL.do (dx_storeW (vs := (encS z0)) rfl ty_size_75_128 rfl rfl rfl (oc_S z0) k8 (by rw [encS_len]; exact z0_len) (by rw [encS_len]; exact z0_len)) rfl ?_
   rintro _ W26 ⟨k28, o27⟩
   clear k8
   replace hB := o27.below hB l12
   refine Pu rfl (Ni (hK25 ?_))
   exact WC.ret fun a_ ha_ => hQ (cv_ret2 rfl (.agg rfl ty_agg_75_128 k28.range (by rw [encS_len]; exact z0_len)) (.tmp rfl) (by rw [show readS secs loose down a = (z0, 1) from (by simp [readS, g17, c24])]) hB ha_)
  ·
   replace c24 := bnot_f c24
   have hh := hasB_t c24; obtain ⟨hb1, hb2⟩ := hh
   refine WC.skip (hK13 (Sq fun K29 hK29 => (Sq fun K30 hK30 => (Rg (Va (dx_fld (o1 := 3) rfl ty_fld_25_3_3 rfl rfl) rfl rfl (Va (dx_load rfl ty_one_4 rfl (k3.cell (k := 3) rfl)) rfl rfl (Ni ?_)))))))
   refine hK30 ?_
   refine WC.cond rfl (fun c31 => ?_) (fun c31 => ?_)
   ·
    refine Sq fun K32 hK32 => (Rg (Va (dx_build rfl rfl builtS0) rfl rfl ?_))
    refine WL.do (dx_storeW (vs := (encS z0)) rfl ty_size_75_128 rfl rfl rfl (oc_S z0) k8 (by rw [encS_len]; exact z0_len) (by rw [encS_len]; exact z0_len)) rfl ?_
    rintro _ W33 ⟨k35, o34⟩
    clear k8
    replace hB := o34.below hB l12
    refine Pu rfl (Ni (hK32 ?_))
    exact WC.ret fun a_ ha_ => hQ (cv_ret2 rfl (.agg rfl ty_agg_75_128 k35.range (by rw [encS_len]; exact z0_len)) (.tmp rfl) (by rw [show readS secs loose down a = (z0, 9) from (by simp [readS, g17, c24, c31])]) hB ha_)
   ·
    replace c31 := bvar_f c31
    refine WC.skip (hK29 (Sq fun K36 hK36 => (Sq fun K37 hK37 => (Rg (Va (dx_fld (o1 := 1) rfl ty_fld_25_1_1 rfl rfl) rfl rfl (Va (dx_load rfl ty_one_23 rfl (k3.cell (k := 1) rfl)) rfl rfl (Va (dx_lenM rfl ty_slice_23 rfl h2) rfl rfl ?_)))))))
    refine Va (dx_sub (r := (loose.length : Int) - 1) rfl rfl rfl (wrap64_id (by omega))) rfl rfl (Pu rfl (Ni (hK37 (WC.block ?_))))
    refine WC.loop (fun (n : Nat) => [(1, .int .i64 a), (2, .pointer (some ⟨w.heap.size, 0, none⟩)), (4, .pointer (some ⟨W2.heap.size, 0, none⟩)), (6, .int .i64 ((n : Int) - 1))]) (fun (n : Nat) W => n ≤ loose.length ∧ lookN loose a loose.length = lookN loose a n ∧ Below w.heap.size w W ∧ LL (W2.heap.size :: w.heap.size :: L) W ∧ RdF 128 (W2.heap.size :: w.heap.size :: L) W s1 (secs.map encS) ∧ RdF 129 (W2.heap.size :: w.heap.size :: L) W s2 (loose.map encW) ∧ Blk W w.heap.size [s1, s2, .int .i64 fuse, .bool down] ∧ Blk W W2.heap.size (encS z0)) (fun (n : Nat) => n) loose.length (by repeat first | exact trivial | refine aR ?_ | refine aI (by omega) ?_) ⟨Nat.le_refl _, rfl, hB, hL, h1, h2, k3, k8⟩ ?_
    clear h1 h2 k3 k8 hB hL
    rintro K38 n W39 ⟨hi, hv, hB, hL, h1, h2, k3, k8⟩ hK38
    refine Sq fun K40 hK40 => (Sq fun K41 hK41 => (Rg (Pu rfl (Va (dx_geq rfl rfl rfl) rfl rfl (Ni (hK41 ?_))))))
    refine WC.cond rfl (fun c42 => ?_) (fun c42 => ?_)
    ·
     replace c42 := dT c42
     refine WC.skip (hK40 (Sq fun K43 hK43 => (WC.block (Sq fun K44 hK44 => (Rg (Va (dx_fld (o1 := 1) rfl ty_fld_25_1_1 rfl rfl) rfl rfl (Va (dx_load rfl ty_one_23 rfl (k3.cell (k := 1) rfl)) rfl rfl ?_)))))))
     refine Pu rfl ?_
     obtain ⟨r45, e46⟩ : ∃ x, loose[(n - 1)]? = some x := ⟨_, List.getElem?_eq_getElem (by omega)⟩
     have Lr45 := rdf_W h2 e46
     refine Ge (dx_idxF (n - 1) rfl ty_slice_23 rfl rfl h2 (by omega) (at_map e46)) rfl rfl ?_
     rintro u47 _ ⟨rfl, p48⟩
     refine Ge (dx_fldP 1 rfl ty_fld_77_0_0 rfl p48 (cs' := [.int .i64 r45.1]) (by simp [encW, List.take_of_length_le, encS_len, Lr45]) (Nat.succ_pos _)) rfl rfl ?_
     rintro u49 _ ⟨rfl, p50⟩
     refine Va (dx_loadP rfl ty_one_3 rfl p50) rfl rfl (Pu rfl (Va (dx_eql rfl rfl rfl) rfl rfl (Ni (hK44 ?_))))
     refine WC.cond rfl (fun c51 => ?_) (fun c51 => ?_)
     ·
      replace c51 := dT c51
      refine Sq fun K52 hK52 => (Rg (Va (dx_fld (o1 := 1) rfl ty_fld_25_1_1 rfl rfl) rfl rfl (Va (dx_load rfl ty_one_23 rfl (k3.cell (k := 1) rfl)) rfl rfl (Pu rfl ?_))))
      refine Ge (dx_idxF (n - 1) rfl ty_slice_23 rfl rfl h2 (by omega) (at_map e46)) rfl rfl ?_
      rintro u53 _ ⟨rfl, p54⟩
      refine Ge (dx_fldP 128 rfl ty_fld_77_1_1 rfl p54 (cs' := (encS r45.2)) (by simp [encW, List.take_of_length_le, encS_len, Lr45]) (by simp [encW, encS_len, Lr45])) rfl rfl ?_
      rintro u55 _ ⟨rfl, p56⟩
      refine Va (dx_loadPN rfl ty_agg_75_128 rfl p56 (by rw [encS_len]; exact Lr45)) rfl rfl ?_
      refine WL.do (dx_storeW (vs := (encS r45.2)) rfl ty_size_75_128 rfl rfl rfl (oc_S r45.2) k8 (by rw [encS_len]; exact Lr45) (by rw [encS_len]; exact z0_len)) rfl ?_
      rintro _ W57 ⟨k59, o58⟩
      clear k8
      replace hB := o58.below hB l12
      refine Pu rfl (Ni (hK52 ?_))
      exact WC.ret fun a_ ha_ => hQ (cv_ret2 rfl (.agg rfl ty_agg_75_128 k59.range (by rw [encS_len]; exact Lr45)) (.tmp rfl) (by rw [show readS secs loose down a = (r45.2, 0) from (by unfold readS; rw [hv, show n = (n - 1) + 1 by omega, lookN_here e46 c51]; simp [g17, c24, c31, c42, c51])]) hB ha_)
     ·
      replace c51 := dF c51
      refine WC.skip (hK43 (Rg (Pu rfl (Va (dx_sub (r := ((n : Int) - 1) - 1) rfl rfl rfl (wrap64_id (by omega))) rfl rfl (Pu rfl (Ni ?_))))))
      exact hK38 (n - 1) ⟨(by omega), (by rw [hv, show n = (n - 1) + 1 by omega]; exact lookN_next e46 c51), hB, hL, h1, h2, k3, k8⟩ (by omega) (by repeat first | exact trivial | refine aR ?_ | refine aI (by omega) ?_)
    ·
     replace c42 := dF c42
     refine WC.exit ?_
     refine hK36 (Sq fun K60 hK60 => (Rg (Va (dx_fld (o1 := 0) rfl ty_fld_25_0_0 rfl rfl) rfl rfl (Va (dx_load rfl ty_one_22 rfl (k3.cell (k := 0) rfl)) rfl rfl (Pu rfl ?_)))))
     obtain ⟨r61, e62⟩ : ∃ x, secs[a.toNat]? = some x := ⟨_, List.getElem?_eq_getElem (by omega)⟩
     have Lr61 := rdf_S h1 e62
     refine Ge (dx_idxF a.toNat rfl ty_slice_22 rfl rfl h1 (by omega) (at_map e62)) rfl rfl ?_
     rintro u63 _ ⟨rfl, p64⟩
     refine Va (dx_loadPN rfl ty_agg_75_128 rfl p64 (by rw [encS_len]; exact Lr61)) rfl rfl ?_
     refine WL.do (dx_storeW (vs := (encS r61)) rfl ty_size_75_128 rfl rfl rfl (oc_S r61) k8 (by rw [encS_len]; exact Lr61) (by rw [encS_len]; exact z0_len)) rfl ?_
     rintro _ W65 ⟨k67, o66⟩
     clear k8
     replace hB := o66.below hB l12
     refine Pu rfl (Ni (hK60 ?_))
     exact WC.ret fun a_ ha_ => hQ (cv_ret2 rfl (.agg rfl ty_agg_75_128 k67.range (by rw [encS_len]; exact Lr61)) (.tmp rfl) (by rw [show readS secs loose down a = (r61, 0) from (by unfold readS; rw [hv, show n = 0 by omega]; simp [lookN, e62, g17, c24, c31, c42])]) hB ha_)

set_option maxHeartbeats 1000000 in
theorem sync_v (secs : List (List Int)) (loose : List (Int × List Int)) (fuse : Int) (down : Bool) (s1 s2 : Value) (w : World) (L : List Nat) (hL : LL L w) (h1 : RdF 128 L w s1 (secs.map encS)) (h2 : RdF 129 L w s2 (loose.map encW))  (hL0 : LL L w) (hfu : -9223372036854775808 ≤ fuse ∧ fuse ≤ 9223372036854775807) : CV Tryd.prog 65 [.agg #[s1, s2, .int .i64 fuse, .bool down]] w fun v W => ∃ s1' s2', v = .tuple #[.agg #[s1', s2', .int .i64 (syncS secs loose fuse down).fuse, .bool (syncS secs loose fuse down).down], .int .i64 (syncS secs loose fuse down).err] ∧ RdF 128 L W s1' ((syncS secs loose fuse down).secs.map encS) ∧ RdF 129 L W s2' ((syncS secs loose fuse down).loose.map encW) := by
 refine cv_enter (N := 23) (f := [(0, .agg #[s1, s2, .int .i64 fuse, .bool down])]) Tryd.func65 rfl rfl rfl rfl fun Q hQ hE => ?_
 have hB := Below.refl w.heap.size w
 have h1m : secs.length ≤ maxLen := by have := h1.len; rwa [List.length_map] at this
 unfold maxLen at h1m
 have h2m : loose.length ≤ maxLen := by have := h2.len; rwa [List.length_map] at this
 unfold maxLen at h2m
 refine Sq fun K1 hK1 => (Rg ?_)
 refine Ge (dx_box rfl rfl rfl) rfl rfl ?_
 rintro _ W2 ⟨rfl, k3, b4, z5⟩
 have l6 := hB.size
 replace h1 := h1.more b4 (Nat.le_refl _)
 replace h2 := h2.more b4 (Nat.le_refl _)
 replace hB := below_then hB b4
 replace hL := LL.more hL z5
 refine Ge (dx_alloc rfl ty_zero_25 rfl) rfl rfl ?_
 rintro _ W7 ⟨rfl, k8, b9, z10⟩
 have n11 : w.heap.size ≠ W2.heap.size := Nat.ne_of_lt k3.lt
 have l12 := hB.size
 replace h1 := h1.more b9 (Nat.le_refl _)
 replace h2 := h2.more b9 (Nat.le_refl _)
 replace k3 := k3.below b9
 replace hB := below_then hB b9
 replace hL := LL.more hL z10
 refine Pu rfl (Ni (hK1 (Sq fun K13 hK13 => (Sq fun K14 hK14 => (Rg (Va (dx_loadN rfl ty_agg_25_4 rfl k3.range rfl) rfl rfl ?_))))))
 refine Ge (dx_cv rfl Tryd.func50 rfl rfl rfl (right_v _ _ _ _ _ _ W7 [] (LL.nil _) (h1.less (by simp)) (h2.less (by simp)))) rfl rfl ?_
 rintro _ W16 ⟨rfl, b15⟩
 replace h1 := h1.below b15
 replace h2 := h2.below b15
 replace k3 := k3.below b15
 replace k8 := k8.below b15
 replace hB := below_then hB b15
 replace hL := LL.below hL b15
 refine Va (dx_not rfl rfl) rfl rfl (Ni (hK14 ?_))
 refine WC.cond rfl (fun c17 => ?_) (fun c17 => ?_)
 ·
  replace c17 := bnot_t c17
  refine Sq fun K18 hK18 => (Rg (Va (dx_loadN rfl ty_agg_25_4 rfl k3.range rfl) rfl rfl ?_))
  refine WL.do (dx_store (cs' := [s1, s2, .int .i64 fuse, .bool down]) (vs := [s1, s2, .int .i64 fuse, .bool down]) rfl ty_size_25_4 rfl rfl rfl (oC h1.one (oC h2.one (oC rfl (oC rfl oc_nil)))) k8 rfl (nB rfl) rfl) rfl ?_
  rintro _ W19 ⟨k21, o20⟩
  clear k8
  replace h1 := h1.only o20 (.head _)
  replace h2 := h2.only o20 (.head _)
  replace hB := o20.below hB l12
  refine Pu rfl (Ni (hK18 ?_))
  exact WC.ret fun a_ ha_ => hQ (cv_ret2 rfl (.agg rfl ty_agg_25_4 k21.range rfl) (.tmp rfl) (by rw [show syncS secs loose fuse down = ⟨secs, loose, fuse, down, 1⟩ from (by first | (unfold syncS; generalize burnS fuse down = bb at *; simp [syncS, c17]; done) | (simp [syncS, c17]; done))]; exact ⟨_, _, rfl, (h1.less (fun x hx => (.tail _ (.tail _ hx)))), (h2.less (fun x hx => (.tail _ (.tail _ hx))))⟩) hB ha_)
 ·
  replace c17 := bnot_f c17
  have hr := right_of c17; obtain ⟨hne, hsm, hlm, hrt⟩ := hr
  refine WC.skip (hK13 (Sq fun K22 hK22 => (Sq fun K23 hK23 => (Rg (Va (dx_fld (o1 := 3) rfl ty_fld_25_3_3 rfl rfl) rfl rfl (Va (dx_load rfl ty_one_4 rfl (k3.cell (k := 3) rfl)) rfl rfl (Ni ?_)))))))
  refine hK23 ?_
  refine WC.cond rfl (fun c24 => ?_) (fun c24 => ?_)
  ·
   refine Sq fun K25 hK25 => (Rg (Va (dx_loadN rfl ty_agg_25_4 rfl k3.range rfl) rfl rfl ?_))
   refine WL.do (dx_store (cs' := [s1, s2, .int .i64 fuse, .bool down]) (vs := [s1, s2, .int .i64 fuse, .bool down]) rfl ty_size_25_4 rfl rfl rfl (oC h1.one (oC h2.one (oC rfl (oC rfl oc_nil)))) k8 rfl (nB rfl) rfl) rfl ?_
   rintro _ W26 ⟨k28, o27⟩
   clear k8
   replace h1 := h1.only o27 (.head _)
   replace h2 := h2.only o27 (.head _)
   replace hB := o27.below hB l12
   refine Pu rfl (Ni (hK25 ?_))
   exact WC.ret fun a_ ha_ => hQ (cv_ret2 rfl (.agg rfl ty_agg_25_4 k28.range rfl) (.tmp rfl) (by rw [show syncS secs loose fuse down = ⟨secs, loose, fuse, down, 9⟩ from (by first | (unfold syncS; generalize burnS fuse down = bb at *; simp [syncS, c17, c24]; done) | (simp [syncS, c17, c24]; done))]; exact ⟨_, _, rfl, (h1.less (fun x hx => (.tail _ (.tail _ hx)))), (h2.less (fun x hx => (.tail _ (.tail _ hx))))⟩) hB ha_)
  ·
   replace c24 := bvar_f c24
   refine WC.skip (hK22 (Sq fun K29 hK29 => (Rg (Va (dx_loadN rfl ty_agg_25_4 rfl k3.range rfl) rfl rfl ?_))))
   refine Ge (dx_cv rfl Tryd.func79 rfl rfl rfl (burn_v secs loose fuse down s1 s2 W16 [] (LL.nil _) (h1.less (by simp)) (h2.less (by simp)) hfu)) rfl rfl ?_
   rintro _ W31 ⟨rfl, b30⟩
   replace h1 := h1.below b30
   replace h2 := h2.below b30
   replace k3 := k3.below b30
   replace k8 := k8.below b30
   replace hB := below_then hB b30
   replace hL := LL.below hL b30
   refine Pu rfl (Pu rfl (Pu rfl ?_))
   refine WL.do (dx_store (cs' := [s1, s2, .int .i64 ((burnS fuse down).1), .bool ((burnS fuse down).2.1)]) (vs := [s1, s2, .int .i64 ((burnS fuse down).1), .bool ((burnS fuse down).2.1)]) rfl ty_size_25_4 rfl rfl rfl (oC h1.one (oC h2.one (oC rfl (oC rfl oc_nil)))) k3 rfl (nB rfl) rfl) rfl ?_
   rintro _ W32 ⟨k34, o33⟩
   replace k8 := k8.other o33 n11.symm
   clear k3
   replace h1 := h1.only o33 (.tail _ (.head _))
   replace h2 := h2.only o33 (.tail _ (.head _))
   replace hB := o33.below hB l6
   replace hL := LL.only hL o33
   refine Pu rfl (Ni (hK29 (Sq fun K35 hK35 => (Sq fun K36 hK36 => (Rg (Pu rfl (Va (dx_neq rfl rfl rfl) rfl rfl ?_)))))))
   refine Ni (hK36 ?_)
   refine WC.cond rfl (fun c37 => ?_) (fun c37 => ?_)
   ·
    replace c37 := bnot_t c37
    replace c37 := dF c37
    refine Sq fun K38 hK38 => (Rg (Va (dx_loadN rfl ty_agg_25_4 rfl k34.range rfl) rfl rfl (Pu rfl ?_)))
    refine WL.do (dx_store (cs' := [s1, s2, .int .i64 ((burnS fuse down).1), .bool ((burnS fuse down).2.1)]) (vs := [s1, s2, .int .i64 ((burnS fuse down).1), .bool ((burnS fuse down).2.1)]) rfl ty_size_25_4 rfl rfl rfl (oC h1.one (oC h2.one (oC rfl (oC rfl oc_nil)))) k8 rfl (nB rfl) rfl) rfl ?_
    rintro _ W39 ⟨k41, o40⟩
    clear k8
    replace h1 := h1.only o40 (.head _)
    replace h2 := h2.only o40 (.head _)
    replace hB := o40.below hB l12
    refine Pu rfl (Ni (hK38 ?_))
    exact WC.ret fun a_ ha_ => hQ (cv_ret2 rfl (.agg rfl ty_agg_25_4 k41.range rfl) (.tmp rfl) (by rw [show syncS secs loose fuse down = ⟨secs, loose, (burnS fuse down).1, (burnS fuse down).2.1, (burnS fuse down).2.2⟩ from (by first | (unfold syncS; generalize burnS fuse down = bb at *; simp [syncS, c17, c24, c37]; done) | (simp [syncS, c17, c24, c37]; done))]; exact ⟨_, _, rfl, (h1.less (fun x hx => (.tail _ (.tail _ hx)))), (h2.less (fun x hx => (.tail _ (.tail _ hx))))⟩) hB ha_)
   ·
    replace c37 := bnot_f c37
    replace c37 := dT c37
    refine WC.skip (hK35 (Sq fun K42 hK42 => (Rg (Va (dx_loadN rfl ty_agg_25_4 rfl k34.range rfl) rfl rfl ?_))))
    refine Ge (dx_cv rfl Tryd.func51 rfl rfl rfl (settle_v secs loose ((burnS fuse down).1) ((burnS fuse down).2.1) s1 s2 (fun _ _ z => z) _ W32 _ hL h1 h2 hL hne hsm hrt (fun W hW i x z hi hx hz => ⟨fv_of (cs := []) Tryd.func82 rfl rfl (sync1_v i x z W [] (LL.nil _) hx hz), hz⟩))) rfl rfl ?_
    rintro _ W46 ⟨⟨u43, rfl, hk44⟩, b45⟩
    replace k8 := k8.below b45
    replace hB := below_then hB b45
    refine WL.do (dx_store (cs' := [u43, .slice none 0 0, .int .i64 ((burnS fuse down).1), .bool ((burnS fuse down).2.1)]) (vs := [u43, .slice none 0 0, .int .i64 ((burnS fuse down).1), .bool ((burnS fuse down).2.1)]) rfl ty_size_25_4 rfl rfl rfl (oC hk44.one (oC rfl (oC rfl (oC rfl oc_nil)))) k8 rfl (nB rfl) rfl) rfl ?_
    rintro _ W47 ⟨k49, o48⟩
    clear k8
    replace hk44 := hk44.only o48 (.head _)
    replace hB := o48.below hB l12
    refine Pu rfl (Ni (hK42 ?_))
    exact WC.ret fun a_ ha_ => hQ (cv_ret2 rfl (.agg rfl ty_agg_25_4 k49.range rfl) (.tmp rfl) (by rw [show syncS secs loose fuse down = ⟨(settleS (fun _ _ z => z) loose secs 0), [], (burnS fuse down).1, (burnS fuse down).2.1, 0⟩ from (by first | (unfold syncS; generalize burnS fuse down = bb at *; simp [syncS, c17, c24, c37]; done) | (simp [syncS, c17, c24, c37]; done))]; exact ⟨_, _, rfl, (hk44.less (fun x hx => (.tail _ (.tail _ hx)))), (RdF.nil (by decide))⟩) hB ha_)

theorem lookN_len {L : List Nat} {w : World} {v : Value} {l : List (Int × List Int)} (h : RdF 129 L w v (l.map encW)) (a : Int) : ∀ (n : Nat) (z : List Int), lookN l a n = some z → z.length = 128
  | 0, z, h' => by simp [lookN] at h'
  | n + 1, z, h' => by
    unfold lookN at h'
    split at h'
    · rename_i p hp
      split at h'
      · cases h'; exact rdf_W h hp
      · exact lookN_len h a n z h'
    · exact lookN_len h a n z h'
theorem readS_len {L L' : List Nat} {w w' : World} {v v' : Value} {secs : List (List Int)} {loose : List (Int × List Int)} {down : Bool} {a : Int} (h : RdF 128 L w v (secs.map encS)) (h2 : RdF 129 L' w' v' (loose.map encW)) : (readS secs loose down a).1.length = 128 := by
  unfold readS
  split
  · exact z0_len
  · split
    · exact z0_len
    · rename_i hh
      split
      · exact z0_len
      · split
        · rename_i z hz; exact lookN_len h2 a _ z hz
        · have hb := hasB_t (by simpa using hh)
          obtain ⟨x, hx⟩ : ∃ x, secs[a.toNat]? = some x := ⟨_, List.getElem?_eq_getElem (by omega)⟩
          rw [hx]
          exact rdf_S h hx

def VS.monoR (rel : World → World → Prop) : List (Option Tmp × VS) → Prop
 | [] => True
 | (_, .is _) :: l => VS.monoR rel l
 | (_, .by p) :: l => (∀ u W W', rel W W' → p u W → p u W') ∧ VS.monoR rel l
theorem monoR_at {rel : World → World → Prop} : ∀ {sd : List (Option Tmp × VS)}, VS.monoR rel sd → ∀ {j : Nat} {d : Option Tmp} {p : Value → World → Prop}, sd[j]? = some (d, .by p) → ∀ u W W', rel W W' → p u W → p u W'
 | [], _, j, d, p, h => by simp at h
 | (d', .is v) :: l, hm, j, d, p, h => by
  cases j with
  | zero => simp at h
  | succ j => exact monoR_at (sd := l) hm (by simpa using h)
 | (d', .by q) :: l, hm, j, d, p, h => by
  cases j with
  | zero =>
   simp only [List.getElem?_cons_zero, Option.some.injEq, Prod.mk.injEq, VS.by.injEq] at h
   rw [← h.2]
   exact hm.1
  | succ j => exact monoR_at (sd := l) hm.2 (by simpa using h)
def DStepsR (P : Program) (ops : Array Oper) (N : Nat) (w0 : World) (sd : List (Option Tmp × VS)) (dl : List (List Nat)) (f : Fl) (s t dt : Nat) (pt q : Value → World → Prop) (rel : World → World → Prop) : Nat → List Oper → Prop
 | _, [] => True
 | k, o :: l => (if k = s then ∀ W, Below w0.heap.size w0 W → ∀ ut, pt ut W → DStep P ops o N W (sd.set t (some dt, .is ut)) (fun v W' => rel W W' ∧ q ut W') ((dl[k]?).getD []) f
   else ∀ W, Below w0.heap.size w0 W → DStep P ops o N W sd (fun v W' => Below W.heap.size W W' ∧ okAt sd k v W') ((dl[k]?).getD []) f) ∧ DStepsR P ops N w0 sd dl f s t dt pt q rel (k + 1) l
section
variable {P : Program} {N : Nat} {sd : List (Option Tmp × VS)} {dl : List (List Nat)}
theorem DStepsR.cons {ops : Array Oper} {w0 : World} {f : Fl} {k s t dt : Nat} {pt q : Value → World → Prop} {rel : World → World → Prop} {o : Oper} {l : List Oper} (hk : k ≠ s) (h : ∀ W, Below w0.heap.size w0 W → DStep P ops o N W sd (fun v W' => Below W.heap.size W W' ∧ okAt sd k v W') ((dl[k]?).getD []) f) (hl : DStepsR P ops N w0 sd dl f s t dt pt q rel (k + 1) l) : DStepsR P ops N w0 sd dl f s t dt pt q rel k (o :: l) := ⟨by rw [if_neg hk]; exact h, hl⟩
theorem DStepsR.hit {ops : Array Oper} {w0 : World} {f : Fl} {s t dt : Nat} {pt q : Value → World → Prop} {rel : World → World → Prop} {o : Oper} {l : List Oper} (h : ∀ W, Below w0.heap.size w0 W → ∀ ut, pt ut W → DStep P ops o N W (sd.set t (some dt, .is ut)) (fun v W' => rel W W' ∧ q ut W') ((dl[s]?).getD []) f) (hl : DStepsR P ops N w0 sd dl f s t dt pt q rel (s + 1) l) : DStepsR P ops N w0 sd dl f s t dt pt q rel s (o :: l) := ⟨by rw [if_pos rfl]; exact h, hl⟩
theorem okAt_set {t dt : Nat} {u : Value} {j : Nat} (hj : j ≠ t) (v : Value) (W : World) : okAt (sd.set t (some dt, .is u)) j v W = okAt sd j v W := by
 unfold okAt
 rw [List.getElem?_set_ne (fun e => hj e.symm)]
theorem okAt_hit {t dt : Nat} {u : Value} (ht : t < sd.length) (W : World) : okAt (sd.set t (some dt, .is u)) t u W := by
 unfold okAt
 rw [List.getElem?_set_self ht]
 rfl
theorem map_set {t dt : Nat} {s s' : VS} (ht : sd[t]? = some (some dt, s)) : (sd.set t (some dt, s')).map (·.1) = sd.map (·.1) := by
  apply List.ext_getElem?
  intro i
  rw [List.getElem?_map, List.getElem?_map]
  by_cases e : i = t
  · subst e
    rw [ht, List.getElem?_set_self (List.getElem?_eq_some_iff.1 ht).1]
    rfl
  · rw [List.getElem?_set_ne (fun h => e h.symm)]
theorem inN_set {t dt : Nat} {s s' : VS} (ht : sd[t]? = some (some dt, s)) (h : inN N sd = true) : inN N (sd.set t (some dt, s')) = true := by
 have key : ∀ (l : List (Option Tmp × VS)), inN N l = (l.map (·.1)).all fun p => match p with | some d => decide (d < N) | none => true := fun l => by
  unfold inN
  rw [List.all_map]
  rfl
 rw [key, map_set ht, ← key]
 exact h
theorem WC.drawR {id : Nat} {f : Fl} {w : World} {Q : Exit → Act → World → Prop} (m s t dt : Nat) (pt q : Value → World → Prop) (rel : World → World → Prop) {ops : List Oper} (sd : List (Option Tmp × VS)) (dl : List (List Nat)) (hm : P.follows .mixedOrders = true) (hb : ordB .any ops.toArray = true) (hbp : ordB .any (ops.take m).toArray = true) (htl : tailB .any ops.toArray (ops.take m).length = true) (hdl : (ops.take m).map (depsOf .any) = dl)
    (hds : (ops.take m).map (·.dst) = sd.map (·.1)) (hN : inN N sd = true) (hmono : VS.mono sd)
    (ht : sd[t]? = some (some dt, .by pt)) (hs : sd[s]? = some (none, .by fun _ _ => True)) (hts : ((dl[s]?).getD []).contains t = true) (hst' : s ≠ t) (hsm : s < m) (hrel : VS.monoR rel sd) (hq : ∀ u W W', Below W.heap.size W W' → q u W → q u W') (hbr : ∀ W W', Below w.heap.size w W → rel W W' → Below w.heap.size w W')
    (hst : DStepsR P (ops.take m).toArray N w sd dl f s t dt pt q rel 0 (ops.take m))
    (hend : ∀ W, Below w.heap.size w W → ∀ ut, pt ut W → q ut W → DEnd (fun f W => WL P ops.toArray Q N (ops.drop m) f W) W (sd.set t (some dt, .is ut)) f) : WC P N (.region id ops.toArray true) Q f w := fun a ha => by
  obtain ⟨pre, hpre⟩ : ∃ pre, pre = ops.take m := ⟨_, rfl⟩
  obtain ⟨suf, hsuf⟩ : ∃ suf, suf = ops.drop m := ⟨_, rfl⟩
  have hops : pre ++ suf = ops := by rw [hpre, hsuf]; exact List.take_append_drop m ops
  rw [← hpre] at hbp htl hdl hds hst
  rw [← hsuf] at hend
  clear hpre hsuf
  subst hops
  have hlen : dl.length = sd.length := by rw [← hdl, List.length_map, ← List.length_map (f := (·.dst)), hds, List.length_map]
  have hpl : pre.length = dl.length := by rw [← hdl, List.length_map]
  have htlt : t < sd.length := (List.getElem?_eq_some_iff.1 ht).1
  have hslt : s < sd.length := (List.getElem?_eq_some_iff.1 hs).1
  refine wp_region_any hm ?_
  have hrep : Array.replicate (pre ++ suf).toArray.size false = Array.replicate pre.toArray.size false ++ Array.replicate suf.length false := by
    simp [Array.replicate_append_replicate]
  rw [hrep]
  have hsz : (pre ++ suf).toArray.size = pre.toArray.size + suf.length := by simp
  rw [hsz]
  refine pre_tail (pre := pre.toArray) (suf := suf) hb hbp (by simp) (by simpa using htl) pre.toArray.size _ (by simp) (fun j hj => by simp [Array.getD_eq_getD_getElem?, Array.getElem?_replicate] at hj; split at hj <;> simp_all) a w.drew ?_
  have hda : ∀ j, depsAt .any pre.toArray j = (dl[j]?).getD [] := by
    intro j
    subst hdl
    simp only [depsAt, List.getElem?_map, List.getElem?_toArray]
  have hF0 : ∀ j, (Array.replicate pre.toArray.size false).getD j false = true → False := fun j hj => by simp [Array.getD_eq_getD_getElem?, Array.getElem?_replicate] at hj; split at hj <;> simp_all
  have hmemt : t ∈ (dl[s]?).getD [] := by simpa using hts
  refine wpAny_facts hbp a (fun _ W => Below w.heap.size w W) (fun j g W => okAt sd j (g j) W ∧ (j = s → q (g t) W)) (fun i _ W W' => if i = s then rel W W' else Below W.heap.size W W') ?_ ?_ ?_ pre.toArray.size _ (fun _ => undef) a w.drew (by simp) (by
      have := List.countP_le_length (p := fun b => !b) (l := (Array.replicate pre.toArray.size false).toList)
      simpa using this) (fun j hj => (hF0 j hj).elim) (Agrees.start fun j hj => hF0 j hj) (below_draws (Below.refl _ _) 1) (fun j hj => (hF0 j hj).elim)
  · intro i g W W' j g' hB hne ⟨h, hqj⟩
    by_cases hi : i = s
    · rw [if_pos hi] at hB
      refine ⟨?_, fun hj => absurd (hj.trans hi.symm) hne⟩
      unfold okAt at h ⊢
      cases hsj : sd[j]? with
      | none => trivial
      | some p =>
        obtain ⟨d, s'⟩ := p
        rw [hsj] at h
        cases s' with
        | is v => exact h
        | «by» p => exact monoR_at hrel hsj _ W W' hB h
    · rw [if_neg hi] at hB
      refine ⟨?_, fun hj => hq _ _ _ hB (hqj hj)⟩
      unfold okAt at h ⊢
      cases hsj : sd[j]? with
      | none => trivial
      | some p =>
        obtain ⟨d, s'⟩ := p
        rw [hsj] at h
        cases s' with
        | is v => exact h
        | «by» p => exact mono_at hmono hsj _ W W' hB h
  · intro i o hoi L g W _ _ hG hd
    have key : ∀ (l : List Oper) (k : Nat), DStepsR P pre.toArray N w sd dl f s t dt pt q rel k l → ∀ j o, l[j]? = some o →
        (if k + j = s then ∀ W, Below w.heap.size w W → ∀ ut, pt ut W → DStep P pre.toArray o N W (sd.set t (some dt, .is ut)) (fun v W' => rel W W' ∧ q ut W') ((dl[k + j]?).getD []) f
          else ∀ W, Below w.heap.size w W → DStep P pre.toArray o N W sd (fun v W' => Below W.heap.size W W' ∧ okAt sd (k + j) v W') ((dl[k + j]?).getD []) f) := by
      intro l
      induction l with
      | nil => intro k _ j o h; simp at h
      | cons x l ih =>
        intro k hs j o h
        cases j with
        | zero =>
          simp only [List.getElem?_cons_zero, Option.some.injEq] at h
          subst h
          exact hs.1
        | succ j =>
          have := ih (k + 1) hs.2 j o (by simpa using h)
          rw [show k + (j + 1) = k + 1 + j by omega]
          exact this
    have hk := key pre 0 hst i o (by simpa using hoi)
    rw [Nat.zero_add] at hk
    have hdo : depsOf .any o = (dl[i]?).getD [] := by rw [← hda i, depsAt_eq hoi]
    rw [hdo] at hd ⊢
    rw [putL_eq (ds := sd.map (·.1)) (by simpa using hds)]
    by_cases hi : i = s
    · rw [if_pos hi] at hk
      subst hi
      have hpt : pt (g t) W := by
        have := (hd t hmemt).1
        rw [restr_self] at this
        unfold okAt at this
        rw [ht] at this
        exact this
      obtain ⟨ut, hut⟩ : ∃ ut, ut = g t := ⟨_, rfl⟩
      have hH : HypL (fun j g w => okAt (sd.set t (some dt, .is ut)) j (g j) w) dl g W ((dl[i]?).getD []) := HypL.of _ fun j hj => by
        have h1 := (hd j hj).1
        rw [hda j] at h1
        show okAt _ j (restr g (j :: _) j) W
        rw [restr_self] at h1 ⊢
        by_cases e : j = t
        · subst e
          rw [← hut]
          exact okAt_hit htlt W
        · rw [okAt_set e]
          exact h1
      have hfin := DStep.to (inN_set ht hN) _ f a (hk W hG ut (by rw [hut]; exact hpt)) ha hH
      rw [map_set ht] at hfin
      refine hfin.mono fun v W' h => ⟨by rw [if_pos rfl]; exact h.1, hbr _ _ hG h.1, ?_, fun _ => ?_⟩
      · unfold okAt
        rw [hs]
        trivial
      · have e : restr (upd g i v) (i :: (dl[i]?).getD []) t = g t := by
          unfold restr upd
          rw [if_pos (by simp [hmemt]), if_neg (fun h => hst' h.symm)]
        rw [e, ← hut]
        exact h.2
    · rw [if_neg hi] at hk
      have hH : HypL (fun j g w => okAt sd j (g j) w) dl g W ((dl[i]?).getD []) := HypL.of _ fun j hj => by have := (hd j hj).1; rwa [hda j] at this
      refine (DStep.to hN _ f a (hk W hG) ha hH).mono fun v W' h => ⟨by rw [if_neg hi]; exact h.1, hG.trans (h.1.mono hG.size), ?_, fun e => absurd e hi⟩
      simp only [restr_self]
      rw [show upd g i v i = v by simp [upd]]
      exact h.2
  · intro L g W hL hG hd
    rw [putL_eq (ds := sd.map (·.1)) (by simpa using hds)]
    have hsize : pre.toArray.size = sd.length := by simp; omega
    have hpt : pt (g t) W := by
      have := (hd t (by omega)).1
      rw [restr_self] at this
      unfold okAt at this
      rw [ht] at this
      exact this
    have hqt : q (g t) W := by
      have := (hd s (by omega)).2 rfl
      have e : restr g (s :: depsAt .any pre.toArray s) t = g t := by
        rw [hda s]
        unfold restr
        rw [if_pos (by simp [hmemt])]
      rwa [e] at this
    obtain ⟨ut, hut⟩ : ∃ ut, ut = g t := ⟨_, rfl⟩
    have hH : HypL (fun j g w => okAt (sd.set t (some dt, .is ut)) j (g j) w) dl g W (List.range' 0 sd.length) := HypL.of _ fun j hj => by
      have hj' : j < pre.toArray.size := by
        simp [List.mem_range'] at hj
        simp
        omega
      have h1 := (hd j hj').1
      rw [hda j] at h1
      show okAt _ j (restr g (j :: _) j) W
      rw [restr_self] at h1 ⊢
      by_cases e : j = t
      · subst e
        rw [← hut]
        exact okAt_hit htlt W
      · rw [okAt_set e]
        exact h1
    have hfin := DEnd.to (Q := fun a W => wpList P (pre ++ suf).toArray Q suf a W) (inN_set (s' := .is ut) ht hN) (fun f h a ha => h a ha) (sd.set t (some dt, .is ut)) 0 f a (by simp) (hend W hG ut (by rw [hut]; exact hpt) (by rw [hut]; exact hqt)) ha (by rw [List.length_set]; exact hH)
    rw [List.length_set, map_set ht] at hfin
    show wpOps P (pre ++ suf).toArray Q (List.range' pre.toArray.size suf.length) _ _
    rw [wpOps_eq_wpList suf pre.toArray.size (fun j => by simp [List.getElem?_append_right])]
    rw [List.range_eq_range', hsize]
    exact hfin
end
def PtB (base : Nat) (L : List Nat) (w : World) (u : Value) (cs : List Value) : Prop := 0 < cs.length ∧ ∃ X o, u = .pointer (some ⟨X, o, none⟩) ∧ X < base ∧ X ∉ L ∧ w.rangeAt X o cs
theorem PtB.ptr {base : Nat} {L : List Nat} {w : World} {u : Value} {cs : List Value} (h : PtB base L w u cs) : PtR L w u cs := by
 obtain ⟨h0, X, o, h1, _, h2, h3⟩ := h
 exact ⟨h0, X, o, h1, h2, h3⟩
theorem PtB.below {base : Nat} {L : List Nat} {w w' : World} {u : Value} {cs : List Value} (h : PtB base L w u cs) (hb : Below w.heap.size w w') : PtB base L w' u cs := by
 obtain ⟨h0, X, o, h1, hx, h2, h3⟩ := h
 exact ⟨h0, X, o, h1, hx, h2, range_agree h3 (Agree.of_below (L := L) hb) h2⟩
def NewT (base t n : Nat) (u : Value) (w : World) : Prop := ∃ B cs, u = .pointer (some ⟨B, 0, none⟩) ∧ base ≤ B ∧ BlkT w B t cs ∧ cs.length = n
theorem NewT.below {base t n : Nat} {u : Value} {w w' : World} (h : NewT base t n u w) (hb : Below w.heap.size w w') : NewT base t n u w' := by
 obtain ⟨B, cs, h1, h2, h3, h4⟩ := h
 exact ⟨B, cs, h1, h2, by unfold BlkT; rw [hb.block B h3.blk.lt]; exact h3, h4⟩
theorem NewP.newT {base t n : Nat} {cs : List Value} {u : Value} {w : World} (h : NewP base t cs u w) (hn : cs.length = n) : NewT base t n u w := by
 obtain ⟨B, h1, h2, h3⟩ := h
 exact ⟨B, cs, h1, h2, h3, hn⟩
def WrT (base t n : Nat) (w w' : World) : Prop := ∃ C cs cs', base ≤ C ∧ BlkT w C t cs ∧ BlkT w' C t cs' ∧ cs.length = n ∧ cs'.length = n ∧ Only C w w'
theorem WrT.below {base t n : Nat} {w0 w w' : World} (h : WrT base t n w w') (hb : Below base w0 w) : Below base w0 w' := by
 obtain ⟨C, cs, cs', h1, h2, h3, _, h4, h5⟩ := h
 exact h5.below hb h1
theorem NewT.wr {base t n : Nat} {u : Value} {w w' : World} (h : NewT base t n u w) (hw : WrT base t n w w') : NewT base t n u w' := by
  obtain ⟨B, cs, h1, h2, h3, h4⟩ := h
  obtain ⟨C, c1, c2, k1, k2, k3, k0, k4, k5⟩ := hw
  by_cases e : B = C
  · subst e
    exact ⟨B, c2, h1, h2, k3, k4⟩
  · exact ⟨B, cs, h1, h2, by unfold BlkT; rw [k5.block B e]; exact h3, h4⟩
theorem NewP.wr {base t t' n : Nat} {cs : List Value} {u : Value} {w w' : World} (h : NewP base t' cs u w) (hw : WrT base t n w w') (hn : (t' == t) = false) : NewP base t' cs u w' := by
 obtain ⟨B, h1, h2, h3⟩ := h
 obtain ⟨C, c1, c2, k1, k2, k3, k0, k4, k5⟩ := hw
 exact ⟨B, h1, h2, by unfold BlkT; rw [k5.block B (h3.ne k2 hn)]; exact h3⟩
theorem PtB.wr {base t n : Nat} {L : List Nat} {w w' : World} {u : Value} {cs : List Value} (h : PtB base L w u cs) (hw : WrT base t n w w') : PtB base L w' u cs := by
 obtain ⟨h0, X, o, h1, hx, h2, h3⟩ := h
 obtain ⟨C, c1, c2, k1, k2, k3, k0, k4, k5⟩ := hw
 exact ⟨h0, X, o, h1, hx, h2, range_agree h3 (Agree.of_only (L := [C]) k5 (.head _)) (by simp; omega)⟩
theorem RdF.offB {s : Nat} {L : List Nat} {w : World} {v : Value} {rs : List (List Value)} {B : Nat} {cs : List Value} (h : RdF s L w v rs) (hk : Blk w B cs) (hl : cs.length < s) : RdF s (B :: L) w v rs := by
 obtain ⟨h0, hr, a, cap, h1, h2, h3, h4, h5⟩ := h
 refine ⟨h0, hr, a, cap, h1, h2, h3, h4, fun hn => ?_⟩
 obtain ⟨X, o, e, hX, hc⟩ := h5 hn
 refine ⟨X, o, e, ?_, hc⟩
 have hlen : s ≤ rs.flatten.length := by
  rw [flat_len hr]
  exact Nat.le_mul_of_pos_left s (List.length_pos_iff.2 hn)
 have hne : X ≠ B := fun e => by
  subst e
  obtain ⟨t, ht⟩ := hk
  have := hc (s - 1) _ (List.getElem?_eq_getElem (by omega))
  simp [World.cell?, ht] at this
  obtain ⟨h', _⟩ := List.getElem?_eq_some_iff.1 this
  omega
 simp [hne, hX]
theorem RdF.wr {s base t n : Nat} {L : List Nat} {w w' : World} {v : Value} {rs : List (List Value)} (h : RdF s L w v rs) (hw : WrT base t n w w') (hn : n < s) : RdF s L w' v rs := by
 obtain ⟨C, c1, c2, k1, k2, k3, k0, k4, k5⟩ := hw
 exact ((h.offB k2.blk (by omega)).only k5 (.head _)).less (fun x hx => .tail _ hx)
section
variable {P : Program} {ops : Array Oper} {o : Oper} {N : Nat} {f : Fl} {w : World}
theorem dx_idxB {t s : Nat} {L : List Nat} {w0 : World} {x y : Operand} {v : Value} {rs : List (List Value)} {K : IntKind} {i : Int} {r : List Value} (k : Nat) (ho : o.op = .indexAddr t x y) (ht : sliceB P t s = true) (hx : ev f x = some v) (hy : ev f y = some (.int K i)) (hr : RdF s L w0 v rs) (hd : Below w0.heap.size w0 w) (hk : i = (k : Int)) (hi : rs[k]? = some r) (hw : wantF ops o f = some true := by rfl) :
  DR P ops o N f w fun u W => w = W ∧ PtB w0.heap.size L w u r := fun a ha => by
 have hr' := hr.below hd
 obtain ⟨h0, hl, ad, cap, rfl, h2, h3, h4, h5⟩ := hr'
 obtain ⟨e, hu, hs⟩ := of_sliceB ht
 have hx := ha.ev hx
 have hy := ha.ev hy
 subst hk
 have hlt := (List.getElem?_eq_some_iff.1 hi).1
 have hne : rs ≠ [] := by intro e; subst e; simp at hlt
 obtain ⟨X, o0, rfl, hX, hc⟩ := h5 hne
 have hrun := run_idxS (w := w) (n := rs.length) (c := cap) hu hs X o0 K (k : Int) (by omega) (by omega)
 refine Does.pure (wantF_of ha hw) (.pointer (some ⟨X, o0 + k * s, none⟩)) (by unfold execOp; simp only [ho, hx, hy, Sem.run_bind, hrun, Result.andThen_ok]; rfl) ⟨rfl, by rw [hl r (List.mem_of_getElem? hi)]; exact h0, X, _, rfl, rdf_lt hr rfl hne, hX, ?_⟩
 have := range_part hc (k * s) s
 rw [flat_row hl hi] at this
 simpa using this
theorem dx_storeT {t t' base n : Nat} {x y : Operand} {u V : Value} {vs : List Value} (ho : o.op = .store t x y) (ht : sizeB P t n = true) (hx : ev f x = some u) (hp : NewT base t' n u w) (hy : ev f y = some V) (hv : V.cells.toList = vs) (h1 : ∀ v ∈ vs, v.oneCell' = true) (hn : vs.length = n) (hw : wantF ops o f = some true := by rfl) : DR P ops o N f w fun _ W => WrT base t' n w W ∧ NewP base t' vs u W := fun a ha => by
 obtain ⟨B, cs, rfl, hB, hb, hc⟩ := hp
 obtain ⟨i, hi, hs⟩ := of_sizeB ht
 have hx := ha.ev hx
 have hy := ha.ev hy
 exact Does.of_wp (wantF_of ha hw) fun K hK => by
  have hst := run_storeCells_at P B 0 t' vs 0 _ w hb (by simp; omega) h1
  simp only [Nat.add_zero] at hst
  have hcs : (cs.toArray.toList.take 0 ++ vs ++ cs.toArray.toList.drop (0 + vs.length)) = vs := by
   rw [List.drop_eq_nil_of_le (by simp; omega)]
   simp
  rw [hcs] at hst
  have hsz : V.cells.size = i.size := by rw [← Array.length_toList, hv, hn, hs]
  unfold Oper.wp execOp
  simp only [ho, hx, hy, Instr.storeAt, Instr.sureAddr, storeVar, sizeOf, typeInfo, Sem.run_bind, Sem.run_pure, Result.andThen_ok, run_program, hi, hsz, hv, ne_eq, not_true_eq_false, if_false, hst]
  have e : (w.setRow B vs.toArray).heap[B]? = some (.cells vs.toArray t' (0, 0)) := setRow_heap w B _ _ t' _ hb
  exact hK _ _ ⟨⟨B, cs, vs, hB, hb, e, hc, hn, only_setRow w B _⟩, B, rfl, hB, e⟩
end
def RwB (s : Nat) (w : World) (B : Nat) (R : List (List Value)) : Prop := 0 < s ∧ (∀ r ∈ R, r.length = s) ∧ R.length ≤ maxLen ∧ Blk w B R.flatten
theorem RwB.lt {s : Nat} {w : World} {B : Nat} {R : List (List Value)} (h : RwB s w B R) : B < w.heap.size := h.2.2.2.lt
theorem RwB.below {s : Nat} {w w' : World} {B : Nat} {R : List (List Value)} (h : RwB s w B R) (hb : Below w.heap.size w w') : RwB s w' B R := ⟨h.1, h.2.1, h.2.2.1, h.2.2.2.below hb⟩
theorem RwB.other {s : Nat} {w w' : World} {B C : Nat} {R : List (List Value)} (h : RwB s w B R) (ho : Only C w w') (hn : B ≠ C) : RwB s w' B R := ⟨h.1, h.2.1, h.2.2.1, h.2.2.2.other ho hn⟩
theorem rows_of {s : Nat} : ∀ (n : Nat) (l : List Value), l.length = n * s → ∃ rows : List (List Value), rows.length = n ∧ (∀ r ∈ rows, r.length = s) ∧ rows.flatten = l
 | 0, l, h => ⟨[], rfl, fun r hr => (by cases hr), (by rw [Nat.zero_mul] at h; rw [List.length_eq_zero_iff.1 h]; rfl)⟩
 | n + 1, l, h => by
  rw [Nat.succ_mul] at h
  obtain ⟨rows, h1, h2, h3⟩ := rows_of (s := s) n (l.drop s) (by rw [List.length_drop]; omega)
  refine ⟨l.take s :: rows, by simp [h1], fun r hr => ?_, by rw [List.flatten_cons, h3, List.take_append_drop]⟩
  rcases List.mem_cons.1 hr with rfl | hr
  · rw [List.length_take]; omega
  · exact h2 r hr
theorem OwS.open {s : Nat} {w : World} {v : Value} {rs : List (List Value)} {B : Nat} (h : OwS s w v rs B) : ∃ sp, v = .slice (some ⟨B, 0, none⟩) rs.length (rs ++ sp).length ∧ RwB s w B (rs ++ sp) := by
 obtain ⟨h0, hr, cap, sp, rfl, h2, h3, h4, h5⟩ := h
 obtain ⟨rows, k1, k2, rfl⟩ := rows_of (cap - rs.length) sp h4
 have e : (rs ++ rows).length = cap := by rw [List.length_append, k1]; omega
 refine ⟨rows, by rw [e], h0, fun r hr' => ?_, by rw [e]; exact h3, by rw [List.flatten_append]; exact h5⟩
 rcases List.mem_append.1 hr' with h | h
 · exact hr r h
 · exact k2 r h
theorem RwB.own {s : Nat} {w : World} {B : Nat} {rs sp : List (List Value)} (h : RwB s w B (rs ++ sp)) : OwS s w (.slice (some ⟨B, 0, none⟩) rs.length (rs ++ sp).length) rs B := by
 obtain ⟨h0, hr, hm, hb⟩ := h
 have hsp : ∀ r ∈ sp, r.length = s := fun r hr' => hr r (List.mem_append.2 (.inr hr'))
 refine ⟨h0, fun r hr' => hr r (List.mem_append.2 (.inl hr')), _, sp.flatten, rfl, by simp, hm, ?_, by rw [← List.flatten_append]; exact hb⟩
 rw [flat_len hsp, List.length_append, Nat.add_sub_cancel_left]
def offV (c l o0 s : Nat) : Nat := if c = l then o0 else o0 + l * s
theorem offV_eq {c l s B o0 : Nat} : (if c = l then some (⟨B, o0, none⟩ : Addr) else some (if l * s = 0 then ⟨B, o0, none⟩ else ⟨B, o0 + l * s, none⟩)) = some ⟨B, offV c l o0 s, none⟩ := by
  unfold offV
  split
  · rfl
  · split
    · rename_i h; rw [h]; rfl
    · rfl
theorem RwB.part {s : Nat} {w : World} {B : Nat} {R : List (List Value)} (h : RwB s w B R) {L : List Nat} (hB : B ∉ L) {lo n c o1 : Nat} (ho : n ≠ 0 → o1 = lo * s) (hn : n ≤ c) (hc : lo + c ≤ R.length) : RdF s L w (.slice (some ⟨B, o1, none⟩) n c) ((R.drop lo).take n) := by
 obtain ⟨h0, hr, hm, hb⟩ := h
 have hl : ((R.drop lo).take n).length = n := by rw [List.length_take, List.length_drop]; omega
 refine ⟨h0, fun r hr' => hr r (List.mem_of_mem_drop (List.mem_of_mem_take hr')), _, c, by rw [hl], by rw [hl]; exact hn, by omega, fun h => (by cases h), fun hne => ⟨B, o1, rfl, hB, ?_⟩⟩
 rw [ho (fun e => hne (by rw [e, List.take_zero]))]
 have := range_part hb.range (lo * s) (n * s)
 rw [flat_drop lo hr, flat_take n (fun r hr' => hr r (List.mem_of_mem_drop hr')), Nat.zero_add] at this
 exact this
section
variable {P : Program} {ops : Array Oper} {o : Oper} {N : Nat} {f : Fl} {w : World}
theorem dx_slL {t s B o0 n c : Nat} {x y : Operand} {K : IntKind} (l : Nat) {i : Int} (ho : o.op = .slice t x (some y) none none) (ht : sliceB P t s = true) (hx : ev f x = some (.slice (some ⟨B, o0, none⟩) n c)) (hy : ev f y = some (.int K i)) (hi : i = (l : Int)) (hl : l ≤ n) (hn : n ≤ c) (hw : wantF ops o f = some true := by rfl) :
  DV P ops o N f w (.slice (some ⟨B, offV c l o0 s, none⟩) (n - l) (c - l)) := fun a ha => by
 subst hi
 obtain ⟨e, hu, hs⟩ := of_sliceB ht
 have hx := ha.ev hx
 have hy := ha.ev hy
 cases hi : P.info? e with
 | none => rw [hi] at hs; cases hs
 | some q =>
  have hq : q.size = s := by simpa [hi] using hs
  refine Does.pure (wantF_of ha hw) _ ?_ ⟨rfl, rfl⟩
  have h1 : ((l : Int) ≤ (n : Int)) := by omega
  have h2 : ((n : Int) ≤ (c : Int)) := by omega
  have h3 : (0 : Int) ≤ (l : Int) := by omega
  unfold execOp
  simp only [ho, Option.map_none, Option.map_some, hx, hy, Instr.sliceAt, Sem.run_bind, run_underlying hu, Result.andThen_ok, Instr.slice, Instr.sliceBounds, Instr.sliceBound, asIntOf, Sem.run_pure, sizeOf, typeInfo, run_program, hi]
  simp [h1, h2, h3, hq, addr_at, Addr.add, hl]
  exact offV_eq
end
-- contracts of what writes to a block that it is given
structure Chg (B : Nat) (w w' : World) : Prop where
 os : w'.os = w.os
 tape : w'.tape = w.tape
 output : w'.output = w.output
 size : w.heap.size ≤ w'.heap.size
 block : ∀ k, k < w.heap.size → k ≠ B → w'.heap[k]? = w.heap[k]?
theorem Chg.refl (B : Nat) (w : World) : Chg B w w := ⟨rfl, rfl, rfl, Nat.le_refl _, fun _ _ _ => rfl⟩
theorem Chg.thenB {B : Nat} {w W W' : World} (h : Chg B w W) (b : Below W.heap.size W W') : Chg B w W' :=
 ⟨by rw [b.os, h.os], by rw [b.tape, h.tape], by rw [b.output, h.output], Nat.le_trans h.size b.size, fun k hk hn => by rw [b.block k (Nat.lt_of_lt_of_le hk h.size), h.block k hk hn]⟩
theorem Chg.only {B C : Nat} {w W W' : World} (h : Chg B w W) (o : Only C W W') (hC : C = B ∨ w.heap.size ≤ C) : Chg B w W' :=
 ⟨by rw [o.os, h.os], by rw [o.tape, h.tape], by rw [o.output, h.output], by rw [o.size]; exact h.size, fun k hk hn => by rw [o.block k (by omega), h.block k hk hn]⟩
theorem Chg.grow {B C C' : Nat} {w W W' : World} (h : Chg B w W) (g : GrowB C C' W W') (hC : C = B ∨ w.heap.size ≤ C) : Chg B w W' :=
 ⟨by rw [g.os, h.os], by rw [g.tape, h.tape], by rw [g.output, h.output], Nat.le_trans h.size g.size, fun k hk hn => by rw [g.block k (Nat.lt_of_lt_of_le hk h.size) (by omega), h.block k hk hn]⟩
def CW (P : Program) (F : FuncId) (args : List Value) (w : World) (B : Nat) (R : Value → World → Prop) : Prop := Calls P F args.toArray w fun e w' => ∃ v, e = .returned v ∧ R v w' ∧ Chg B w w'
def finW (P : Program) (fn : Func) (R : Value → World → Prop) (B : Nat) (w0 : World) (a : Act) (w : World) : Prop := a.defers = [] ∧ ∃ v, (results fn a.tmps).run P w = .ok v w ∧ R v w ∧ Chg B w0 w
theorem CW.mono {P : Program} {F : FuncId} {args : List Value} {w : World} {B : Nat} {R R' : Value → World → Prop} (h : CW P F args w B R) (hr : ∀ v w', Chg B w w' → R v w' → R' v w') : CW P F args w B R' :=
 Calls.mono h fun e w' ⟨v, he, hR, hb⟩ => ⟨v, he, hr v w' hb hR, hb⟩
theorem cw_enter {P : Program} {F : FuncId} {fn : Func} {body : Code} {w : World} {B : Nat} {R : Value → World → Prop} {N : Nat} {vs : List Value} (hf : P.funcs[F]? = some fn) (hb : fn.body = some body) (hn : fn.ntmps = N) (hN : decide (vs.length ≤ N) = true) {f : Fl}
  (hfr : (vs.zipIdx.map fun p => (p.2, p.1)) = f) (h : ∀ Q : Exit → Act → World → Prop, (∀ {a W}, finW P fn R B w a W → Q .ret a W) → (∀ {a W}, finW P fn R B w a W → Q .normal a W) → WC P N body Q f w) : CW P F vs w B R :=
 calls_sx vs f hf hb hn hN hfr.symm (h _ (fun {a W} ⟨h1, v, h2, h3, h4⟩ => ⟨h1, v, h2, v, rfl, h3, h4⟩) (fun {a W} ⟨h1, v, h2, h3, h4⟩ => ⟨h1, v, h2, v, rfl, h3, h4⟩))
section
variable {P : Program} {ops : Array Oper} {o : Oper} {N : Nat} {f : Fl} {w : World} {R : Value → World → Prop} {fn : Func}
end
section
variable {P : Program} {ops : Array Oper} {o : Oper} {N : Nat} {f : Fl} {w : World}
theorem RwB.rd {s : Nat} {w : World} {C : Nat} {vs sp : List (List Value)} (h : RwB s w C (vs ++ sp)) {L : List Nat} (hC : C ∉ L) : RdF s L w (.slice (some ⟨C, 0, none⟩) vs.length (vs ++ sp).length) vs := h.own.rd hC
end
def NewS (s base : Nat) (rs : List (List Value)) (u : Value) (w : World) : Prop := (u = .slice none 0 0 ∧ rs = [] ∧ 0 < s) ∨ ∃ B sp, base ≤ B ∧ u = .slice (some ⟨B, 0, none⟩) rs.length (rs ++ sp).length ∧ RwB s w B (rs ++ sp) ∧ (rs = [] → sp = [])
theorem NewS.below {s base : Nat} {rs : List (List Value)} {u : Value} {w w' : World} (h : NewS s base rs u w) (hb : Below w.heap.size w w') : NewS s base rs u w' := by
 rcases h with h | ⟨B, sp, h1, h2, h3, h4⟩
 · exact .inl h
 · exact .inr ⟨B, sp, h1, h2, h3.below hb, h4⟩
theorem NewS.le {s base n : Nat} {rs : List (List Value)} {u : Value} {w : World} (h : NewS s base rs u w) (hn : n ≤ base) : NewS s n rs u w := by
 rcases h with h | ⟨B, sp, h1, h2⟩
 · exact .inl h
 · exact .inr ⟨B, sp, Nat.le_trans hn h1, h2⟩
theorem NewS.of_own {s base B : Nat} {rs : List (List Value)} {u : Value} {w : World} (h : OwS s w u rs B) (hb : base ≤ B) (hn : rs ≠ []) : NewS s base rs u w := by
 obtain ⟨sp, h1, h2⟩ := h.open
 exact .inr ⟨B, sp, hb, h1, h2, fun e => absurd e hn⟩
theorem NewS.rd {s base : Nat} {rs : List (List Value)} {u : Value} {w : World} (h : NewS s base rs u w) {L : List Nat} (hL : ∀ x ∈ L, x < base) : RdF s L w u rs := by
 rcases h with ⟨rfl, rfl, h0⟩ | ⟨B, sp, h1, rfl, h3, h4⟩
 · exact RdF.nil h0
 · exact h3.rd (fun hx => by have := hL B hx; omega)
theorem Chg.from_base {B base : Nat} {w w' : World} (h : Chg B w w') (hB : base ≤ B) (hs : base ≤ w.heap.size) : Below base w w' := ⟨h.os, h.tape, h.output, h.size, fun k hk => h.block k (by omega) (by omega)⟩
section
variable {P : Program} {ops : Array Oper} {o : Oper} {N : Nat} {f : Fl} {w : World} {R : Value → World → Prop}
end
section
variable {P : Program} {ops : Array Oper} {o : Oper} {N : Nat} {f : Fl} {w : World}
end
section
variable {α : Type} {g : α → Bool} {r : α → α → Bool} {n : Nat}
end
theorem toList_inj {a b : ByteArray} (h : a.toList = b.toList) : a = b := by
 rw [ByteArray.toList_eq, ByteArray.toList_eq] at h
 exact ByteArray.ext (Array.toList_inj.mp h)
end Go.Proofs.YtfachlmgdlnpoaaDoor
namespace Go.Proofs.YtfachlmgdlnpoaaDoor
open Go.RowKit Go.Sort
set_option linter.unusedVariables false
set_option linter.unusedSimpArgs false
-- the order of lists of bytes
abbrev bL (s : ByteArray) : List UInt8 := s.data.toList
theorem flat_T {enc : ByteArray → List Value} (he : ∀ s, enc s = [.string s]) : ∀ ts : List ByteArray, (ts.map enc).flatten = (ts.map bL).map encStr
 | [] => rfl
 | a :: l => by rw [List.map_cons, List.flatten_cons, flat_T he l, he]; rfl
theorem OwS.holds {w : World} {v : Value} {ts : List ByteArray} {B : Nat} {enc : ByteArray → List Value} (he : ∀ s, enc s = [.string s]) (h : OwS 1 w v (ts.map enc) B) : ∃ cap cur t, v = .slice (some ⟨B, 0, none⟩) (ts.map bL).length cap ∧ ts.length ≤ cap ∧ cap ≤ maxLen ∧ w.heap[B]? = some (.cells cur t (0, 0)) ∧ cur.size = cap ∧ Holds encStr w B 0 (ts.map bL).toArray := by
 obtain ⟨_, hr, cap, sp, rfl, h1, h2, h3, t, hb⟩ := h
 simp only [List.length_map, Nat.mul_one] at h1 h3
 rw [flat_T he] at hb
 refine ⟨cap, _, t, by simp, h1, h2, hb, by simp; omega, fun j hj => ?_⟩
 have hj' : j < ts.length := by simpa using hj
 refine ⟨?_, by simp [World.frozen?, hb]⟩
 refine (Blk.range ⟨t, hb⟩) j _ ?_
 rw [List.getElem?_append_left (by simpa using hj'), getElem!_pos _ j hj]
 simp [hj']
def NewW (s base : Nat) (rs : List (List Value)) (u : Value) (w : World) : Prop := (u = .slice none 0 0 ∧ rs = [] ∧ 0 < s) ∨ ∃ B, base ≤ B ∧ OwS s w u rs B
theorem NewW.below {s base : Nat} {rs : List (List Value)} {u : Value} {w w' : World} (h : NewW s base rs u w) (hb : Below w.heap.size w w') : NewW s base rs u w' := by
 rcases h with h | ⟨B, h1, h2⟩
 · exact .inl h
 · exact .inr ⟨B, h1, h2.below hb⟩
theorem NewW.le {s base n : Nat} {rs : List (List Value)} {u : Value} {w : World} (h : NewW s base rs u w) (hn : n ≤ base) : NewW s n rs u w := by
 rcases h with h | ⟨B, h1, h2⟩
 · exact .inl h
 · exact .inr ⟨B, Nat.le_trans hn h1, h2⟩
theorem NewW.rd {s base : Nat} {rs : List (List Value)} {u : Value} {w : World} (h : NewW s base rs u w) {L : List Nat} (hL : ∀ x ∈ L, x < base) : RdF s L w u rs := by
 rcases h with ⟨rfl, rfl, h0⟩ | ⟨B, h1, h2⟩
 · exact RdF.nil h0
 · exact h2.rd (fun hx => by have := hL B hx; omega)
theorem NewS.own {s base : Nat} {rs : List (List Value)} {u : Value} {w : World} (h : NewS s base rs u w) (hn : rs ≠ []) : ∃ B, base ≤ B ∧ OwS s w u rs B := by
 rcases h with ⟨_, h, _⟩ | ⟨B, sp, h1, rfl, h3, _⟩
 · exact absurd h hn
 · exact ⟨B, h1, h3.own⟩
theorem GrowB.from_base {B B' base : Nat} {w w' : World} (h : GrowB B B' w w') (hB : base ≤ B) (hs : base ≤ w.heap.size) : Below base w w' := ⟨h.os, h.tape, h.output, h.size, fun k hk => h.block k (by omega) (by omega)⟩
section
variable {P : Program} {ops : Array Oper} {o : Oper} {N : Nat} {f : Fl} {w : World} {R : Value → World → Prop}
theorem dx_apW {t s bytes base : Nat} {x y : Operand} {u v2 : Value} {rs news : List (List Value)} {L : List Nat} (ho : o.op = .call { callee := .builtin .append, args := #[x, y], argTypes := #[t, t] }) (ht : apB P t s bytes = true) (hx : ev f x = some u) (hy : ev f y = some v2)
    (h : NewW s base rs u w) (h2 : RdF s L w v2 news) (h1 : ∀ r ∈ news, ∀ u ∈ r, u.oneCell' = true) (hm : rs.length + news.length ≤ maxLen) (hby : (rs.length + news.length) * bytes ≤ 140737488355328) (hb : base ≤ w.heap.size) (hw : wantF ops o f = some true := by rfl) : DR P ops o N f w fun u' W => NewW s base (rs ++ news) u' W ∧ Below base w W := fun a ha => by
  rcases h with ⟨rfl, rfl, h0⟩ | ⟨B, hB, hO⟩
  · by_cases hn : news = []
    · subst hn
      obtain ⟨e, q, Z, hu, hi, hz, rfl, rfl, hzs⟩ := of_apB ht
      have hx := ha.ev hx
      have hy := ha.ev hy
      obtain ⟨_, hl2, a2, cap2, rfl, hd1, hd2, hd3, hd4⟩ := h2
      have hr0 : (Builtin.append_ #[t, t] o.type #[.slice none 0 0, .slice a2 0 cap2]).run P w = .ok (.slice none 0 0) w := by
        cases a2 with
        | none => simp [Builtin.append_, run_underlying hu, sizeOf, typeInfo, hi, Builtin.lenOf, Builtin.firstCells, storeCells]
        | some a2 => simp [Builtin.append_, run_underlying hu, sizeOf, typeInfo, hi, Builtin.lenOf, Builtin.firstCells, loadCells, loadCellsFrom, storeCells]
      refine Does.of_wp (wantF_of ha hw) fun K hK => ?_
      unfold Oper.wp execOp
      simp only [List.length_nil] at hy
      simp only [ho, resolve, invoke, builtin, Sem.run_bind, Sem.run_pure, Result.andThen_ok, List.map_toArray, List.map_cons, List.map_nil, hx, hy, hr0]
      exact hK _ _ ⟨.inl ⟨rfl, rfl, h0⟩, Below.refl _ _⟩
    · refine Does.mono (dx_apF (rs := []) ho ht hx hy (RdF.nil (L := L) h0) h2 hn hm hby hw a ha) fun v W ⟨k1, k2, k3⟩ => ⟨.inr ⟨_, hb, k1⟩, k2.mono hb⟩
  · exact Does.mono (dx_apO' ho ht hx hy hO h2 h1 hm hby hw a ha) fun v W ⟨B', k1, k2⟩ => ⟨.inr ⟨B', k2.le hB hb, k1⟩, k2.from_base hB hb⟩
end
end Go.Proofs.YtfachlmgdlnpoaaDoor
namespace Go.Proofs.YtfachlmgdlnpoaaDoor
open Go.RowKit
set_option linter.unusedVariables false
set_option linter.unusedSimpArgs false
set_option maxRecDepth 8000
set_option maxHeartbeats 2000000

def DStepsW (P : Program) (ops : Array Oper) (N : Nat) (w0 : World) (sd : List (Option Tmp × VS)) (dl : List (List Nat)) (f : Fl) (s : Nat) (rel : World → World → Prop) : Nat → List Oper → Prop
 | _, [] => True
 | k, o :: l => (∀ W, Below w0.heap.size w0 W → DStep P ops o N W sd (fun v W' => (if k = s then rel W W' else Below W.heap.size W W') ∧ okAt sd k v W') ((dl[k]?).getD []) f) ∧ DStepsW P ops N w0 sd dl f s rel (k + 1) l
section
variable {P : Program} {N : Nat} {sd : List (Option Tmp × VS)} {dl : List (List Nat)}
theorem DStepsW.cons {ops : Array Oper} {w0 : World} {f : Fl} {k s : Nat} {rel : World → World → Prop} {o : Oper} {l : List Oper} (hk : k ≠ s) (h : ∀ W, Below w0.heap.size w0 W → DStep P ops o N W sd (fun v W' => Below W.heap.size W W' ∧ okAt sd k v W') ((dl[k]?).getD []) f) (hl : DStepsW P ops N w0 sd dl f s rel (k + 1) l) : DStepsW P ops N w0 sd dl f s rel k (o :: l) := ⟨by simp only [if_neg hk]; exact h, hl⟩
theorem DStepsW.hit {ops : Array Oper} {w0 : World} {f : Fl} {s : Nat} {rel : World → World → Prop} {o : Oper} {l : List Oper} (h : ∀ W, Below w0.heap.size w0 W → DStep P ops o N W sd (fun v W' => rel W W' ∧ okAt sd s v W') ((dl[s]?).getD []) f) (hl : DStepsW P ops N w0 sd dl f s rel (s + 1) l) : DStepsW P ops N w0 sd dl f s rel s (o :: l) := ⟨by simp only [if_true]; exact h, hl⟩
end
def RdZ (s : Nat) (L : List Nat) (w0 : World) (v : Value) (rs : List (List Value)) (w : World) : Prop := RdF s L w0 v rs
theorem RdZ.below {s : Nat} {L : List Nat} {w0 w w' : World} {v : Value} {rs : List (List Value)} (h : RdZ s L w0 v rs w) (hb : Below w.heap.size w w') : RdZ s L w0 v rs w' := h
def KeepR (s base n : Nat) (w w' : World) : Prop := Below w.heap.size w w' ∨ ∃ B R R', base ≤ B ∧ base ≤ w.heap.size ∧ Only B w w' ∧ RwB s w B R ∧ RwB s w' B R' ∧ R.length = R'.length ∧ R.take n = R'.take n ∧ n < R.length ∧ 0 < n
theorem KeepR.base {s base n : Nat} {w0 w w' : World} (h : KeepR s base n w w') (hs : base ≤ w.heap.size) (hb : Below base w0 w) : Below base w0 w' := by
 rcases h with h | ⟨B, R, R', h1, h0, h2, _⟩
 · exact hb.trans (h.mono hs)
 · exact hb.trans ((GrowB.of_only h2).from_base h1 h0)
theorem RdZ.keep {s s' base n : Nat} {L : List Nat} {w0 w w' : World} {v : Value} {rs : List (List Value)} (h : RdZ s L w0 v rs w) (hk : KeepR s' base n w w') : RdZ s L w0 v rs w' := h
theorem rwb_same {s : Nat} {w : World} {B : Nat} {R R' : List (List Value)} (h : RwB s w B R) (h' : RwB s w B R') : R = R' := by
 obtain ⟨h0, hr, h1, t, hb⟩ := h
 obtain ⟨h2, hr', h3, t', hb'⟩ := h'
 rw [hb] at hb'
 have e1 : R.flatten = R'.flatten := by simpa using (Obj.cells.inj (Option.some.inj hb')).1
 clear hb hb' h1 h2 h3
 induction R generalizing R' with
 | nil =>
  cases R' with
  | nil => rfl
  | cons r l =>
   have := congrArg List.length e1
   rw [List.flatten_cons, List.length_append, hr' r (.head _)] at this
   simp at this
   omega
 | cons r l ih =>
  cases R' with
  | nil =>
   have := congrArg List.length e1
   rw [List.flatten_cons, List.length_append, hr r (.head _)] at this
   simp at this
   omega
  | cons r' l' =>
   rw [List.flatten_cons, List.flatten_cons] at e1
   obtain ⟨e2, e3⟩ := List.append_inj e1 (by rw [hr r (.head _), hr' r' (.head _)])
   rw [e2, ih (fun x hx => hr x (.tail _ hx)) (fun x hx => hr' x (.tail _ hx)) e3]
theorem NewS.keep {s base n : Nat} {rs : List (List Value)} {u : Value} {w w' : World} (h : NewS s base rs u w) (hk : KeepR s base n w w') (hn : rs.length ≤ n) : NewS s base rs u w' := by
  rcases hk with hk | ⟨B, R, R', h1, h0, h2, h3, h4, h5, h6, h7, h8⟩
  · exact h.below hk
  · rcases h with h | ⟨C, sp, k1, k2, k3, k4⟩
    · exact .inl h
    · by_cases e : C = B
      · subst e
        obtain rfl := rwb_same k3 h3
        have e2 : R'.take rs.length = rs := by
          have := congrArg (List.take rs.length) h6
          rw [List.take_take, List.take_take, Nat.min_eq_left hn, List.take_append_of_le_length (Nat.le_refl _), List.take_length] at this
          exact this.symm
        refine .inr ⟨C, R'.drop rs.length, k1, ?_, ?_, fun hr => ?_⟩
        · rw [k2, h5]
          congr 1
          rw [← List.take_append_drop rs.length R', e2]
          simp
        · have := List.take_append_drop rs.length R'
          rw [e2] at this
          rw [this]
          exact h4
        · subst hr
          have := k4 rfl
          subst this
          simp at h7
      · exact .inr ⟨C, sp, k1, k2, k3.other h2 e, k4⟩
theorem NewE.keep {s base n : Nat} {u : Value} {w w' : World} (h : NewE s base u w) (hk : KeepR s base n w w') : NewE s base u w' := by
  rcases hk with hk | ⟨B, R, R', h1, h0, h2, h3, h4, h5, h6, h7, h8⟩
  · exact h.below hk
  · obtain ⟨C, k1, rfl, k3⟩ := h
    by_cases e : C = B
    · subst e
      obtain ⟨sp, q1, q2⟩ := k3.open
      have e1 : sp = [] := by
        have := congrArg (fun v : Value => match v with | .slice _ _ c => c | _ => 0) q1
        simp at this
        exact List.length_eq_zero_iff.1 this.symm
      subst e1
      obtain rfl := rwb_same h3 q2
      simp at h7
    · exact ⟨C, k1, rfl, k3.other h2 e⟩
section
variable {P : Program} {ops : Array Oper} {o : Oper} {N : Nat} {f : Fl} {w : World}
end
section
variable {P : Program} {ops : Array Oper} {md : Region.Mode}
theorem wpAny_factsD {Q : Exit → Act → World → Prop} (hb : ordB md ops = true) (a : Act) (G : (Nat → Bool) → World → Prop) (F : Facts) (R : Nat → (Nat → Value) → World → World → Prop)
    (hF : ∀ i f w w' j g, R i f w w' → j ≠ i → i ∉ depsAt md ops j → F j g w → F j g w')
    (hstep : ∀ i o, ops[i]? = some o → ∀ L f w, L i = false → (∀ j, i ∈ depsAt md ops j → L j = false) → G L w → (∀ j ∈ depsOf md o, F j (restr f (j :: depsAt md ops j)) w) →
      Does P ops o (putDeps ops f (depsOf md o) a) w fun v w' => R i (restr f (depsOf md o)) w w' ∧ G (upd L i true) w' ∧ F i (restr (upd f i v) (i :: depsOf md o)) w')
    (hend : ∀ L f w, (∀ j, L j = decide (j < ops.size)) → G L w → (∀ j, j < ops.size → F j (restr f (j :: depsAt md ops j)) w) → Q .normal (putDeps ops f (List.range ops.size) a) w) :
    ∀ (fuel : Nat) (listed : Array Bool) (f : Nat → Value) (a' : Act) (w : World), listed.size = ops.size → (listed.toList.countP (fun b => !b) ≤ fuel) →
      (∀ j, listed.getD j false = true → ∀ k ∈ depsAt md ops j, listed.getD k false = true) →
      Agrees ops (fun j => listed.getD j false = true) f a a' → G (fun j => listed.getD j false) w → (∀ j, listed.getD j false = true → F j (restr f (j :: depsAt md ops j)) w) → wpAny P md ops Q fuel listed a' w := by
  have ho := ordB_own hb
  have fin : ∀ (listed : Array Bool) (f : Nat → Value) (a' : Act) (w : World), listed.size = ops.size → Region.ready md ops listed = [] →
      Agrees ops (fun j => listed.getD j false = true) f a a' → G (fun j => listed.getD j false) w → (∀ j, listed.getD j false = true → F j (restr f (j :: depsAt md ops j)) w) → Q .normal a' w := by
    intro listed f a' w hsz hr hag hg hf
    have hl := all_listed hb hsz hr
    have hout : ∀ j, listed.getD j false = true → j < ops.size := by
      intro j h
      rcases Nat.lt_or_ge j ops.size with h' | h'
      · exact h'
      · simp [Array.getElem?_eq_none (by omega : listed.size ≤ j)] at h
    have e : a' = putDeps ops f (List.range ops.size) a := by
      refine hag.unique ((Agrees.of ho f a (List.range ops.size)).congr (fun j => ?_) (fun _ _ => rfl))
      rw [List.mem_range]
      exact ⟨hl j, hout j⟩
    rw [e]
    refine hend _ f w (fun j => ?_) hg fun j hj => hf j (hl j hj)
    by_cases hj : j < ops.size
    · rw [hl j hj]; simp [hj]
    · have : ¬ listed.getD j false = true := fun h => hj (hout j h)
      rw [Bool.not_eq_true] at this
      rw [this]; simp [hj]
  intro fuel
  induction fuel with
  | zero =>
    intro listed f a' w hsz hc hcl hag hg hf
    have hr : Region.ready md ops listed = [] := by
      rw [List.eq_nil_iff_forall_not_mem]
      intro j hj
      obtain ⟨h0, o, hoj, _⟩ := mem_ready.1 hj
      have hjs : j < ops.size := (Array.getElem?_eq_some_iff.1 hoj).1
      have hc0 : listed.toList.countP (fun b => !b) = 0 := by omega
      rw [List.countP_eq_zero] at hc0
      have h1 := hc0 listed[j] (by simp)
      rw [Array.getD_eq_getD_getElem?, Array.getElem?_eq_getElem (by omega)] at h0
      simp only [Option.getD_some] at h0
      rw [h0] at h1
      exact h1 rfl
    exact ⟨hr, fin listed f a' w hsz hr hag hg hf⟩
  | succ fuel ih =>
    intro listed f a' w hsz hc hcl hag hg hf
    refine ⟨fun hr => fin listed f a' w hsz hr hag hg hf, fun i hi => ?_⟩
    obtain ⟨h0, o, hoi, hdep⟩ := mem_ready.1 hi
    have his : i < ops.size := (Array.getElem?_eq_some_iff.1 hoi).1
    obtain ⟨hsel, hlt, hlook⟩ := ordB_deps hb hoi
    have hdl : ∀ j ∈ depsOf md o, listed.getD j false = true := by
      intro j hj
      obtain ⟨e, he, rfl⟩ := List.mem_map.1 hj
      obtain ⟨he1, he2⟩ := List.mem_filter.1 he
      exact hdep e (by simpa using he1) he2
    have hun : ¬ listed.getD i false = true := by
      intro h
      rw [Array.getD_eq_getD_getElem?, Array.getElem?_eq_getElem (by omega)] at h0 h
      simp only [Option.getD_some] at h0 h
      rw [h0] at h
      cases h
    have hA := Agrees.of ho f a (depsOf md o)
    have hdst : o.dst = dstAt ops i := by simp [dstAt, hoi]
    have hset : ∀ j, (listed.setIfInBounds i true).getD j false = upd (fun j => listed.getD j false) i true j := by
      intro j
      unfold upd
      by_cases e : j = i
      · subst e
        simp [Array.getD_eq_getD_getElem?, hsz, his]
      · rw [getD_set_ne false (fun h => e h.symm), if_neg e]
    refine Does.wpOp hoi hsel (a := putDeps ops f (depsOf md o) a) (by rw [hag.size, hA.size]) (fun t ht => ?_)
      (hstep i o hoi (fun j => listed.getD j false) f w (by simpa using hun) (fun j hj => by
        rw [← Bool.not_eq_true]
        exact fun h => hun (hcl j h i hj)) hg fun j hj => hf j (hdl j hj)) fun v w' hR => ?_
    · by_cases hts : t < a.tmps.size
      · by_cases e : ∃ j, dstAt ops j = some t
        · obtain ⟨j, hd⟩ := e
          have hj' : j < ops.size := by
            rcases Nat.lt_or_ge j ops.size with h | h
            · exact h
            · simp [dstAt, Array.getElem?_eq_none h] at hd
          have hl := hlook j t hj' hd
          by_cases hjd : j ∈ depsOf md o
          · rw [hag.put j t (hdl j hjd) hd hts, hA.put j t hjd hd hts]
          · have hjl : ¬ listed.getD j false = true := by
              intro hjl
              rcases hl.1 ht with h | h | h
              · exact hun (h ▸ hjl)
              · exact hjd h
              · exact hun (hcl j hjl i h)
            rw [hag.same t (fun k hk hkd => hjl (ho k j t hkd hd ▸ hk)), hA.same t (fun k hk hkd => hjd (ho k j t hkd hd ▸ hk))]
        · have hn : ∀ j, dstAt ops j ≠ some t := fun j hj => e ⟨j, hj⟩
          rw [hag.same t (fun j _ => hn j), hA.same t (fun j _ => hn j)]
      · rw [Array.getElem?_eq_none (by rw [hag.size]; exact Nat.le_of_not_lt hts), Array.getElem?_eq_none (by rw [hA.size]; exact Nat.le_of_not_lt hts)]
    · obtain ⟨hR1, hR3, hR2⟩ := hR
      have hset' : ∀ j, (listed.setIfInBounds i true).getD j false = true ↔ (j = i ∨ listed.getD j false = true) := by
        intro j
        rw [hset j]
        unfold upd
        by_cases e : j = i <;> simp [e]
      rw [hdst]
      refine ih (listed.setIfInBounds i true) (upd f i v) _ w' (by simp [hsz]) ?_ ?_ ?_ (by rw [show (fun j => (listed.setIfInBounds i true).getD j false) = upd (fun j => listed.getD j false) i true from funext hset]; exact hR3) ?_
      · have hc2 : (listed.setIfInBounds i true).toList.countP (fun b => !b) + 1 ≤ listed.toList.countP (fun b => !b) := by
          rw [Array.toList_setIfInBounds]
          have hlen : i < listed.toList.length := by simpa [hsz] using his
          have hli : listed.toList[i] = false := by
            rw [Array.getD_eq_getD_getElem?, Array.getElem?_eq_getElem (by omega)] at h0
            simpa using h0
          rw [List.countP_set hlen, hli]
          have : 0 < listed.toList.countP (fun b => !b) := List.countP_pos_iff.2 ⟨false, by rw [← hli]; exact List.getElem_mem _, rfl⟩
          simp only [Bool.not_false, Bool.not_true, if_true, Bool.false_eq_true, if_false]
          omega
        omega
      · intro j hj k hk
        rw [hset'] at hj ⊢
        rcases hj with rfl | hj
        · rw [depsAt_eq hoi] at hk
          exact .inr (hdl k hk)
        · exact .inr (hcl j hj k hk)
      · exact hag.step ho i v hset' (fun j hji _ => by simp [upd, hji]) (by simp [upd])
      · intro j hj
        rw [hset'] at hj
        by_cases e : j = i
        · subst e
          rw [depsAt_eq hoi]
          exact hR2
        · have hjl := hj.resolve_left e
          have hnc : (j :: depsAt md ops j).contains i = false := by
            rw [← Bool.not_eq_true, List.contains_iff_mem, List.mem_cons]
            rintro (h | h)
            · exact e h.symm
            · exact hun (hcl j hjl i h)
          rw [restr_upd hnc]
          exact hF i _ w w' j _ hR1 e (fun h => hun (hcl j hjl i h)) (hf j hjl)
end
def DStepsG (P : Program) (ops : Array Oper) (N : Nat) (G : Bool → World → Prop) (sd : List (Option Tmp × VS)) (dl : List (List Nat)) (f : Fl) (s : Nat) (rel : World → World → Prop) : Nat → List Oper → Prop
 | _, [] => True
 | k, o :: l => (∀ d W, G d W → (k = s → d = false) → DStep P ops o N W sd (fun v W' => (if k = s then rel W W' ∧ G true W' else Below W.heap.size W W') ∧ okAt sd k v W') ((dl[k]?).getD []) f) ∧ DStepsG P ops N G sd dl f s rel (k + 1) l
section
variable {P : Program} {N : Nat} {sd : List (Option Tmp × VS)} {dl : List (List Nat)} {G : Bool → World → Prop}
theorem DStepsG.cons {ops : Array Oper} {f : Fl} {k s : Nat} {rel : World → World → Prop} {o : Oper} {l : List Oper} (hk : k ≠ s) (h : ∀ d W, G d W → DStep P ops o N W sd (fun v W' => Below W.heap.size W W' ∧ okAt sd k v W') ((dl[k]?).getD []) f) (hl : DStepsG P ops N G sd dl f s rel (k + 1) l) : DStepsG P ops N G sd dl f s rel k (o :: l) := ⟨by simp only [if_neg hk]; exact fun d W hG _ => h d W hG, hl⟩
theorem DStepsG.hit {ops : Array Oper} {f : Fl} {s : Nat} {rel : World → World → Prop} {o : Oper} {l : List Oper} (h : ∀ W, G false W → DStep P ops o N W sd (fun v W' => (rel W W' ∧ G true W') ∧ okAt sd s v W') ((dl[s]?).getD []) f) (hl : DStepsG P ops N G sd dl f s rel (s + 1) l) : DStepsG P ops N G sd dl f s rel s (o :: l) := ⟨by simp only [if_true]; exact fun d W hG hd => by cases hd trivial; exact h W hG, hl⟩
end
theorem Blk.chg {w w' : World} {B C : Nat} {cs : List Value} (h : Blk w C cs) (g : Chg B w w') (hn : C ≠ B) : Blk w' C cs := by
 obtain ⟨t, h'⟩ := h
 exact ⟨t, by rw [g.block C (Blk.lt ⟨t, h'⟩) hn]; exact h'⟩
theorem Chg.of_below {B : Nat} {w w' : World} (h : Below w.heap.size w w') : Chg B w w' := ⟨h.os, h.tape, h.output, h.size, fun k hk _ => h.block k hk⟩
theorem NewS.chg {s base B : Nat} {rs : List (List Value)} {u : Value} {w w' : World} (h : NewS s base rs u w) (g : Chg B w w') (hB : B < base) : NewS s base rs u w' := by
  rcases h with h | ⟨C, sp, h1, h2, h3, h4⟩
  · exact .inl h
  · obtain ⟨q1, q2, q3, q4⟩ := h3
    exact .inr ⟨C, sp, h1, h2, ⟨q1, q2, q3, q4.chg g (by omega)⟩, h4⟩
def SinceB (w1 : World) (L : List Nat) (w : World) : Prop := Below w1.heap.size w1 w
theorem SinceB.below {w1 w w' : World} {L : List Nat} (h : SinceB w1 L w) (hb : Below w.heap.size w w') : SinceB w1 L w' := Below.trans h (hb.mono (Below.size h))
theorem SinceB.more {w1 w w' : World} {L : List Nat} (h : SinceB w1 L w) (hb : Below w.heap.size w w') {B : Nat} (hB : w.heap.size ≤ B) : SinceB w1 (B :: L) w' := h.below hb
theorem SinceB.less {w1 w : World} {L L' : List Nat} (h : SinceB w1 L w) (hl : ∀ x, x ∈ L' → x ∈ L) : SinceB w1 L' w := h
section
variable {P : Program} {ops : Array Oper} {o : Oper} {N : Nat} {f : Fl} {w : World}
theorem dx_nilCheck {x : Operand} {a : Addr} (ho : o.op = .nilCheck x) (hx : ev f x = some (.pointer (some a))) (hw : wantF ops o f = some true := by rfl) : DV P ops o N f w (.pointer (some a)) := fun k ha => by
 have hx := ha.ev hx
 exact Does.pure (wantF_of ha hw) _ (by unfold execOp; simp [ho, hx, Sem.run_bind, Sem.run_pure]) ⟨rfl, rfl⟩
end
def patch {α : Type} (z : List α) (o : Nat) (l : List α) : List α := z.take o ++ (l ++ z.drop (o + l.length))
theorem patch_len {α : Type} {z l : List α} {o : Nat} (h : o + l.length ≤ z.length) : (patch z o l).length = z.length := by
 unfold patch; rw [List.length_append, List.length_append, List.length_take, List.length_drop]; omega
theorem patch_map {α β : Type} (g : α → β) (z : List α) (o : Nat) (l : List α) : (patch z o l).map g = patch (z.map g) o (l.map g) := by
 unfold patch; simp [List.map_take, List.map_drop]
theorem patch_nil {α : Type} (z : List α) (o : Nat) : patch z o [] = z := by unfold patch; simp
theorem patch_add {α : Type} {z l : List α} {o : Nat} {x : α} (h : o + l.length < z.length) : (patch z o l).set (o + l.length) x = patch z o (l ++ [x]) := by
 unfold patch
 have h1 : (z.take o).length = o := by rw [List.length_take]; omega
 rw [List.set_append_right _ _ (by omega), h1, show o + l.length - o = l.length by omega, List.set_append_right _ _ (Nat.le_refl _), Nat.sub_self, List.append_assoc]
 congr 2
 rw [List.drop_eq_getElem_cons h, List.set_cons_zero, List.length_append, List.length_singleton, show o + l.length + 1 = o + (l.length + 1) by omega]; rfl
theorem flat_o8 : ∀ zs : List Int, (zs.map fun z => [Value.int .u8 z]).flatten = zs.map (Value.int .u8)
 | [] => rfl
 | z :: l => by rw [List.map_cons, List.flatten_cons, flat_o8 l]; rfl
theorem flat_ones {α : Type} : ∀ ys : List α, (ys.map fun u => [u]).flatten = ys
 | [] => rfl
 | u :: l => by rw [List.map_cons, List.flatten_cons, flat_ones l]; rfl
section
variable {P : Program} {ops : Array Oper} {o : Oper} {N : Nat} {f : Fl} {w : World}
theorem dx_shrJ {t t' : TypeId} {x y : Operand} {K K2 : IntKind} {m n r : Int} (ho : o.op = .binOp .shr t x y t') (hx : ev f x = some (.int K m)) (hy : ev f y = some (.int K2 n)) (hn : 0 ≤ n) (hn2 : n ≤ K.bits) (hr : m / 2 ^ n.toNat = r) (hw : wantF ops o f = some true := by rfl) : DV P ops o N f w (.int K r) := fun a ha =>
 Does.shr (wantF_of ha hw) ho (ha.ev hx) (ha.ev hy) hn hn2 hr ⟨rfl, rfl⟩
theorem dx_shlJ {t t' : TypeId} {x y : Operand} {K K2 : IntKind} {m n r : Int} (ho : o.op = .binOp .shl t x y t') (hx : ev f x = some (.int K m)) (hy : ev f y = some (.int K2 n)) (hn : 0 ≤ n) (hn2 : n ≤ K.bits) (hr : K.wrap (m * 2 ^ n.toNat) = r) (hw : wantF ops o f = some true := by rfl) : DV P ops o N f w (.int K r) := fun a ha =>
 Does.shl (wantF_of ha hw) ho (ha.ev hx) (ha.ev hy) hn hn2 hr ⟨rfl, rfl⟩
theorem dx_lenS {t n c s : Nat} {a : Option Addr} {x : Operand} (ho : o.op = .call { callee := .builtin .len, args := #[x], argTypes := #[t] }) (ht : sliceB P t s = true) (hx : ev f x = some (.slice a n c)) (hw : wantF ops o f = some true := by rfl) : DV P ops o N f w (.int .i64 (n : Int)) := by
 obtain ⟨e, hu, _⟩ := of_sliceB ht
 exact dx_len ho hu hx hw
theorem dx_idxM {t : TypeId} {x y : Operand} {n c B o0 o1 : Nat} {K : IntKind} {i : Int} (k : Nat) (ho : o.op = .indexAddr t x y) (ht : sliceB P t 1 = true) (hx : ev f x = some (.slice (some ⟨B, o0, none⟩) n c)) (hy : ev f y = some (.int K i)) (hk : i = (k : Int)) (hi : k < n) (h1 : o0 + k = o1) (hw : wantF ops o f = some true := by rfl) : DV P ops o N f w (.pointer (some ⟨B, o1, none⟩)) := fun a ha => by
 obtain ⟨e, hu, hs⟩ := of_sliceB ht
 have hx := ha.ev hx
 have hy := ha.ev hy
 subst hk
 have hrun := run_idxS (w := w) (n := n) (c := c) hu hs B o0 K (k : Int) (by omega) (by omega)
 refine Does.pure (wantF_of ha hw) _ (by unfold execOp; simp only [ho, hx, hy, Sem.run_bind, hrun, Result.andThen_ok]; rfl) ⟨?_, rfl⟩
 rw [← h1]; simp
theorem dx_sliceLH {t e : TypeId} {x y z : Operand} {n B o0 : Nat} {l h : Int} (k1 k2 : Nat) (ho : o.op = .slice t x (some y) (some z) none) (hu : P.underlying t = some (.array n e)) (hs : sizeB P e 1 = true) (hx : ev f x = some (.pointer (some ⟨B, o0, none⟩))) (hy : ev f y = some (.int .i64 l)) (hz : ev f z = some (.int .i64 h)) (hk1 : l = (k1 : Int)) (hk2 : h = (k2 : Int)) (h12 : k1 ≤ k2) (hh : k2 ≤ n) (hn : k1 < n) {o1 m c : Nat} (h3 : o0 + k1 = o1) (h4 : k2 - k1 = m) (h5 : n - k1 = c) (hw : wantF ops o f = some true := by rfl) : DV P ops o N f w (.slice (some ⟨B, o1, none⟩) m c) := fun a ha => by
 subst hk1 hk2
 have hx := ha.ev hx
 have hy := ha.ev hy
 have hz := ha.ev hz
 obtain ⟨i, hi, hsz⟩ := of_sizeB hs
 have e1 : (k1 : Int) ≤ (k2 : Int) := by omega
 have e2 : (k2 : Int) ≤ (n : Int) := by omega
 refine Does.pure (wantF_of ha hw) _ ?_ ⟨by rw [← h3, ← h4, ← h5], rfl⟩
 unfold execOp
 simp only [ho, Option.map_none, Option.map_some, hx, hy, hz, Instr.sliceAt, Sem.run_bind, run_underlying hu, Result.andThen_ok, Instr.sureAddr, Instr.sliceBounds, Instr.sliceBound, asIntOf, Sem.run_pure, sizeOf, typeInfo, run_program, hi]
 have e3 : ¬ n = k1 := by omega
 simp [e1, e2, e3, h12, addr_at, hsz]
theorem dx_sliceL {t e : TypeId} {x y : Operand} {n B o0 : Nat} {l : Int} (k1 : Nat) (ho : o.op = .slice t x (some y) none none) (hu : P.underlying t = some (.array n e)) (hs : sizeB P e 1 = true) (hx : ev f x = some (.pointer (some ⟨B, o0, none⟩))) (hy : ev f y = some (.int .i64 l)) (hk1 : l = (k1 : Int)) (hn : k1 < n) {o1 c : Nat} (h3 : o0 + k1 = o1) (h5 : n - k1 = c) (hw : wantF ops o f = some true := by rfl) : DV P ops o N f w (.slice (some ⟨B, o1, none⟩) c c) := fun a ha => by
 subst hk1
 have hx := ha.ev hx
 have hy := ha.ev hy
 obtain ⟨i, hi, hsz⟩ := of_sizeB hs
 have e1 : (k1 : Int) ≤ (n : Int) := by omega
 refine Does.pure (wantF_of ha hw) _ ?_ ⟨by rw [← h3, ← h5], rfl⟩
 unfold execOp
 simp only [ho, Option.map_none, Option.map_some, hx, hy, Instr.sliceAt, Sem.run_bind, run_underlying hu, Result.andThen_ok, Instr.sureAddr, Instr.sliceBounds, Instr.sliceBound, asIntOf, Sem.run_pure, sizeOf, typeInfo, run_program, hi]
 have e3 : ¬ n = k1 := by omega
 simp [e1, e3, addr_at, hsz]
theorem dx_slGH {t s n c : Nat} {a : Option Addr} {x y : Operand} {K : IntKind} (h : Nat) {i : Int} (ho : o.op = .slice t x none (some y) none) (ht : sliceB P t s = true) (hx : ev f x = some (.slice a n c)) (hy : ev f y = some (.int K i)) (hi : i = (h : Int)) (hl : h ≤ c) (hw : wantF ops o f = some true := by rfl) :
  DV P ops o N f w (.slice a h c) := fun k ha => by
 subst hi
 obtain ⟨e, hu, hs⟩ := of_sliceB ht
 have hx := ha.ev hx
 have hy := ha.ev hy
 cases hi : P.info? e with
 | none => rw [hi] at hs; cases hs
 | some q =>
  refine Does.pure (wantF_of ha hw) _ ?_ ⟨rfl, rfl⟩
  have h1 : ((h : Int) ≤ (c : Int)) := by omega
  have h3 : (0 : Int) ≤ (h : Int) := by omega
  unfold execOp
  simp only [ho, Option.map_none, Option.map_some, hx, hy, Instr.sliceAt, Sem.run_bind, run_underlying hu, Result.andThen_ok, Instr.slice, Instr.sliceBounds, Instr.sliceBound, asIntOf, Sem.run_pure, sizeOf, typeInfo, run_program, hi]
  cases a <;> simp [h1, h3, Addr.add]
theorem dx_slGL {t s n c : Nat} {a : Option Addr} {x y : Operand} {K : IntKind} (l : Nat) {i : Int} (ho : o.op = .slice t x (some y) none none) (ht : sliceB P t s = true) (hx : ev f x = some (.slice a n c)) (hy : ev f y = some (.int K i)) (hi : i = (l : Int)) (hl : l ≤ n) (hn : n ≤ c) (hw : wantF ops o f = some true := by rfl) :
  DV P ops o N f w (.slice (a.map fun q => if c = l then q else q.add (l * s)) (n - l) (c - l)) := fun k ha => by
 subst hi
 obtain ⟨e, hu, hs⟩ := of_sliceB ht
 have hx := ha.ev hx
 have hy := ha.ev hy
 cases hi : P.info? e with
 | none => rw [hi] at hs; cases hs
 | some q =>
  have hq : q.size = s := by simpa [hi] using hs
  refine Does.pure (wantF_of ha hw) _ ?_ ⟨rfl, rfl⟩
  have h1 : ((l : Int) ≤ (n : Int)) := by omega
  have h2 : ((n : Int) ≤ (c : Int)) := by omega
  have h3 : (0 : Int) ≤ (l : Int) := by omega
  unfold execOp
  simp only [ho, Option.map_none, Option.map_some, hx, hy, Instr.sliceAt, Sem.run_bind, run_underlying hu, Result.andThen_ok, Instr.slice, Instr.sliceBounds, Instr.sliceBound, asIntOf, Sem.run_pure, sizeOf, typeInfo, run_program, hi]
  cases a with
  | none => simp [h1, h2, h3, hq, hl]
  | some a => simp [h1, h2, h3, hq, hl]; split <;> rfl
theorem dx_litJ4 {t bytes : Nat} {K : IntKind} {n0 n1 n2 n3 : Int} (ho : o.op = .buildSlice t 4 #[(0, .const (.int K n0)), (1, .const (.int K n1)), (2, .const (.int K n2)), (3, .const (.int K n3))]) (ht : apB P t 1 bytes = true) (hw : wantF ops o f = some true := by rfl) : DR P ops o N f w (NewO 1 w ([n0, n1, n2, n3].map fun n => [.int K n])) := by
 obtain ⟨e, i, Z, hu, hi, hZ, hs, rfl, hzs⟩ := of_apB ht
 have hc : ∀ v : Value, ev f (Operand.const v) = some v := fun v => rfl
 refine dx_lit (ps := [(0, .int K n0), (1, .int K n1), (2, .int K n2), (3, .int K n3)]) (rs := [n0, n1, n2, n3].map fun n => [.int K n]) ho hu hi hZ hs (by decide) (by simp [evl, hc]) (by omega) ?_ (by simp) rfl (by unfold maxLen; omega) hw
 rw [if_neg (by decide)]
 have hl : ∀ c : Array Value, c.size = 4 → Instr.fill (fun k => some (k * 1, 1)) c [(0, .int K n0), (1, .int K n1), (2, .int K n2), (3, .int K n3)] = some #[.int K n0, .int K n1, .int K n2, .int K n3] := fun c hc => by
  obtain ⟨l⟩ := c
  match l, hc with
  | [a, b, c, d], _ => simp [Instr.fill, Value.cells]
 exact hl _ (by simp)
theorem dx_litE {t len s : Nat} {parts : Array (Nat × Operand)} {e : TypeId} {i : TypeInfo} {Z : Value} {ps : List (Nat × Value)} {rs : List (List Value)} (ho : o.op = .buildSlice t len parts) (hu : P.underlying t = some (.slice e)) (hi : P.info? e = some i) (hz : i.zero = some Z) (hs : i.size = s) (h0 : 0 < s)
  (hp : (evl f (parts.toList.map (·.2))).map (fun vs => (parts.toList.map (·.1)).zip vs) = some ps) (hlen : len * s ≤ 16777216)
  (hf : Instr.fill (fun k => some (k * s, s)) (if len * s = 0 then #[] else (Array.range (len * s)).map (Z.cells[· % Z.cells.size]!)) ps = some rs.flatten.toArray) (hrs : ∀ r ∈ rs, r.length = s) (hl : rs.length = len) (hm : len ≤ maxLen) (hw : wantF ops o f = some true := by rfl) : DR P ops o N f w (fun u W => u = .slice (some ⟨w.heap.size, 0, none⟩) len len ∧ NewO s w rs u W) := fun a ha => by
 have key : (parts.map fun (i, x) => (i, a.eval x)).toList = ps := by
  cases hq : evl f (parts.toList.map (·.2)) with
  | none => rw [hq] at hp; cases hp
  | some vs =>
   rw [hq] at hp
   have h1 := ha.evl hq
   simp only [Option.map_some, Option.some.injEq] at hp
   rw [← hp, ← h1, Array.toList_map]
   clear hp h1 hq ho
   induction parts.toList with
   | nil => rfl
   | cons p l ih => simp only [List.map_cons, List.zip_cons_cons, List.cons.injEq, true_and]; exact ih
 subst hs
 have hrun := run_buildSlice (w := w) hu hi hz len (parts.map fun (i, x) => (i, a.eval x)) hlen (cs := rs.flatten.toArray) (by rw [key]; exact hf)
 exact Does.of_wp (wantF_of ha hw) fun K hK => by
  unfold Oper.wp execOp
  simp only [ho, Sem.run_bind, hrun, Sem.run_pure, Result.andThen_ok]
  obtain ⟨n1, n2, n3⟩ := newB_row w e rs.flatten
  exact hK _ _ ⟨rfl, ⟨h0, hrs, len, [], by rw [hl], by omega, hm, by simp [hl], by simpa using n1⟩, n2, n3⟩
theorem dx_litE3 {t bytes : Nat} {K : IntKind} {n0 n1 n2 : Int} (ho : o.op = .buildSlice t 3 #[(0, .const (.int K n0)), (1, .const (.int K n1)), (2, .const (.int K n2))]) (ht : apB P t 1 bytes = true) (hw : wantF ops o f = some true := by rfl) : DR P ops o N f w (fun u W => u = .slice (some ⟨w.heap.size, 0, none⟩) 3 3 ∧ NewO 1 w ([n0, n1, n2].map fun n => [.int K n]) u W) := by
 obtain ⟨e, i, Z, hu, hi, hZ, hs, rfl, hzs⟩ := of_apB ht
 have hc : ∀ v : Value, ev f (Operand.const v) = some v := fun v => rfl
 refine dx_litE (ps := [(0, .int K n0), (1, .int K n1), (2, .int K n2)]) (rs := [n0, n1, n2].map fun n => [.int K n]) ho hu hi hZ hs (by decide) (by simp [evl, hc]) (by omega) ?_ (by simp) rfl (by unfold maxLen; omega) hw
 rw [if_neg (by decide)]
 have hl : ∀ c : Array Value, c.size = 3 → Instr.fill (fun k => some (k * 1, 1)) c [(0, .int K n0), (1, .int K n1), (2, .int K n2)] = some #[.int K n0, .int K n1, .int K n2] := fun c hc => by
  obtain ⟨l⟩ := c
  match l, hc with
  | [a, b, c], _ => simp [Instr.fill, Value.cells]
 exact hl _ (by simp)
theorem dv_eJ {u v : Value} (h : DV P ops o N f w u) (e : u = v) : DV P ops o N f w v := e ▸ h
theorem dx_convB {t e B : Nat} {x : Operand} {v : Value} {rs : List (List Value)} (ho : o.op = .convert t t x) (ht : P.underlying t = some (.slice e)) (he : P.underlying e = some (.int .u8)) (hx : ev f x = some v) (hr : OwS 1 w v rs B) (hw : wantF ops o f = some true := by rfl) : DR P ops o N f w fun u W => u = v ∧ Only B w W ∧ ∀ L : List Nat, B ∉ L → RdF 1 L W v rs := fun a ha => by
 have hrd := fun L (hB : B ∉ L) => hr.rd (L := L) hB
 obtain ⟨h0, hl, cap, sp, rfl, h2, h3, h4, tt, h5⟩ := hr
 have hx := ha.ev hx
 have hfz : (w.freeze ⟨B, (rs.flatten ++ sp).toArray.size, none⟩ 1).heap[B]? = some (.cells (rs.flatten ++ sp).toArray tt ((rs.flatten ++ sp).toArray.size, (rs.flatten ++ sp).toArray.size + 1)) := by
  unfold World.freeze
  rw [if_neg (by decide)]
  show (w.heap.modify B _)[B]? = _
  rw [Array.getElem?_modify, if_pos rfl, h5]
  rfl
 have hon : Only B w (w.freeze ⟨B, (rs.flatten ++ sp).toArray.size, none⟩ 1) := by
  unfold World.freeze
  rw [if_neg (by decide)]
  refine ⟨rfl, rfl, rfl, by simp, fun k hk => ?_⟩
  show (w.heap.modify B _)[k]? = _
  rw [Array.getElem?_modify, if_neg (fun e => hk e.symm)]
 have hsh : w.shape? B = some (tt, (rs.flatten ++ sp).toArray.size) := by unfold World.shape?; rw [h5]
 refine Does.of_wp (wantF_of ha hw) fun K hK => ?_
 unfold Oper.wp execOp
 have hrun : (convert t t (.slice (some ⟨B, 0, none⟩) rs.length cap)).run P w = .ok (.slice (some ⟨B, 0, none⟩) rs.length cap) (w.freeze ⟨B, (rs.flatten ++ sp).toArray.size, none⟩ 1) := by
  simp [convert, run_underlying ht, run_underlying he, markStringish, hsh]
 simp only [ho, hx, Sem.run_bind, hrun, Result.andThen_ok, Sem.run_pure]
 refine hK _ _ ⟨rfl, hon, fun L hB => ?_⟩
 obtain ⟨g0, g1, ad, cp, g2, g3, g4, g5, g6⟩ := hrd L hB
 refine ⟨g0, g1, ad, cp, g2, g3, g4, g5, fun hn => ?_⟩
 obtain ⟨X, q, e1, e2, e3⟩ := g6 hn
 refine ⟨X, q, e1, e2, fun j u hj => ?_⟩
 have hX : X = B := by
  injection g2 with g21
  rw [e1] at g21
  injection g21 with g22
  injection g22 with g23
  exact g23.symm
 subst hX
 have := e3 j u hj
 unfold World.cell? at this ⊢
 rw [hfz]
 rw [h5] at this
 exact this
theorem dx_slRH {t : Nat} {x y : Operand} {K : IntKind} {L : List Nat} {v : Value} {zs : List Int} {w0 : World} (k : Nat) {i : Int} (ho : o.op = .slice t x none (some y) none) (ht : sliceB P t 1 = true) (hx : ev f x = some v) (hr : RdF 1 L w0 v (zs.map fun z => [Value.int .u8 z])) (hy : ev f y = some (.int K i)) (hi : i = (k : Int)) (hk : k ≤ zs.length) (hw : wantF ops o f = some true := by rfl) :
  DR P ops o N f w fun u W => w = W ∧ RdF 1 L w0 u ((zs.take k).map fun z => [Value.int .u8 z]) := by
 obtain ⟨h0, h1, a, cap, rfl, h2, h3, h4, h5⟩ := hr
 rw [List.length_map] at hx h2
 refine (dx_slGH k ho ht hx hy hi (by omega) hw).mono fun u W h => ?_
 obtain ⟨rfl, rfl⟩ := h
 refine ⟨rfl, h0, fun r hr => h1 r (by rw [List.map_take] at hr; exact List.mem_of_mem_take hr), a, cap, by rw [List.length_map, List.length_take]; congr 1; omega, by rw [List.length_map, List.length_take]; omega, h3, h4, fun hn => ?_⟩
 obtain ⟨X, q, e, hX, hc⟩ := h5 (fun e => hn (by rw [List.map_take, e]; simp))
 refine ⟨X, q, e, hX, fun j u hj => hc j u ?_⟩
 rw [flat_o8] at hj ⊢
 rw [List.map_take, List.getElem?_take] at hj
 split at hj
 · exact hj
 · cases hj
theorem dx_slRL {t : Nat} {x y : Operand} {K : IntKind} {L : List Nat} {v : Value} {zs : List Int} {w0 : World} (k : Nat) {i : Int} (ho : o.op = .slice t x (some y) none none) (ht : sliceB P t 1 = true) (hx : ev f x = some v) (hr : RdF 1 L w0 v (zs.map fun z => [Value.int .u8 z])) (hy : ev f y = some (.int K i)) (hi : i = (k : Int)) (hk : k ≤ zs.length) (hw : wantF ops o f = some true := by rfl) :
    DR P ops o N f w fun u W => w = W ∧ RdF 1 L w0 u ((zs.drop k).map fun z => [Value.int .u8 z]) := by
  obtain ⟨h0, h1, a, cap, rfl, h2, h3, h4, h5⟩ := hr
  rw [List.length_map] at hx h2
  refine (dx_slGL k ho ht hx hy hi hk h2 hw).mono fun u W h => ?_
  obtain ⟨rfl, rfl⟩ := h
  refine ⟨rfl, h0, fun r hr => h1 r (by rw [List.map_drop] at hr; exact List.mem_of_mem_drop hr), _, cap - k, by rw [List.length_map, List.length_drop], by rw [List.length_map, List.length_drop]; omega, by omega, fun e => by have := h4 (by cases a with | none => rfl | some q => cases e); omega, fun hn => ?_⟩
  have hlt : k < zs.length := by
    rcases Nat.lt_or_ge k zs.length with h | h
    · exact h
    · exact absurd (by rw [List.drop_of_length_le h]; rfl) hn
  obtain ⟨X, q, e, hX, hc⟩ := h5 (fun e => by have := congrArg List.length e; rw [List.length_map, List.length_nil] at this; omega)
  subst e
  refine ⟨X, q + k, ?_, hX, fun j u hj => ?_⟩
  · rw [Option.map_some, if_neg (by omega), Nat.mul_one]
    congr 1
    exact addr_at X q k
  · rw [flat_o8, List.map_drop, List.getElem?_drop] at hj
    have := hc (k + j) u (by rw [flat_o8]; exact hj)
    rw [← Nat.add_assoc] at this
    exact this
theorem dx_copyM {x y : Operand} {t t' : TypeId} {B o1 X o2 n c m c' q : Nat} {cs ys : List Value} (ho : o.op = .call { callee := .builtin .copy, args := #[x, y], argTypes := #[t, t'] }) (ht : sliceB P t 1 = true) (hx : ev f x = some (.slice (some ⟨B, o1, none⟩) n c)) (hy : ev f y = some (.slice (some ⟨X, o2, none⟩) m c')) (hb : Blk w B cs) (hr : w.rangeAt X o2 ys) (hm : ys.length = m) (hn : o1 + n ≤ cs.length) (hq : Nat.min m n = q) (h1 : ∀ v ∈ ys, v.oneCell' = true) (hw : wantF ops o f = some true := by rfl) :
  DR P ops o N f w fun v W => v = .int .i64 (q : Int) ∧ Blk W B (patch cs o1 (ys.take q)) ∧ Only B w W := fun a ha => by
 have hx := ha.ev hx
 have hy := ha.ev hy
 obtain ⟨e, hu, hs⟩ := of_sliceB ht
 obtain ⟨tt, hb'⟩ := hb
 have hqm : q ≤ m ∧ q ≤ n := by rw [← hq]; exact ⟨Nat.min_le_left _ _, Nat.min_le_right _ _⟩
 cases hi : P.info? e with
 | none => rw [hi] at hs; cases hs
 | some i =>
  have hz : i.size = 1 := by simpa [hi] using hs
  have hlen : (ys.take q).length = q := by rw [List.length_take]; omega
  have hf := run_firstCells_some (P := P) w i.size q ⟨X, o2, none⟩ m c' (ys.take q) (by rw [hz, hlen]; omega) (fun j u hj => by
   rw [List.getElem?_take] at hj
   split at hj
   · rw [addr_at]; exact hr j u hj
   · cases hj)
  have hst := run_storeCells_at P B o1 tt (ys.take q) 0 _ w hb' (by simp [hlen]; omega) (fun v hv => h1 v (List.mem_of_mem_take hv))
  simp only [Nat.add_zero] at hst
  rw [hlen] at hst
  have hcs : (cs.toArray.toList.take o1 ++ ys.take q ++ cs.toArray.toList.drop (o1 + q)) = patch cs o1 (ys.take q) := by unfold patch; rw [hlen]; simp
  rw [hcs] at hst
  exact Does.of_wp (wantF_of ha hw) fun K hK => by
   unfold Oper.wp execOp
   simp only [ho, resolve, invoke, builtin, Sem.run_bind, Sem.run_pure, Result.andThen_ok, List.map_toArray, List.map_cons, List.map_nil, hx, hy, Builtin.copy_, run_underlying hu, List.getElem?_toArray, List.getElem?_cons_zero, List.getElem?_cons_succ, Builtin.lenOf, hq, sizeOf, typeInfo, run_program, hi, hf, hst]
   exact hK _ _ ⟨rfl, ⟨tt, setRow_heap w B _ _ tt _ hb'⟩, only_setRow w B _⟩
theorem dx_copyR {x y : Operand} {t t' : TypeId} {B o1 n c q : Nat} {L : List Nat} {cs ys : List Value} {yv : Value} (ho : o.op = .call { callee := .builtin .copy, args := #[x, y], argTypes := #[t, t'] }) (ht : sliceB P t 1 = true) (hx : ev f x = some (.slice (some ⟨B, o1, none⟩) n c)) (hy : ev f y = some yv) (hb : Blk w B cs) (hr : RdF 1 L w yv (ys.map fun u => [u])) (hn : o1 + n ≤ cs.length) (hq : Nat.min ys.length n = q) (h1 : ∀ v ∈ ys, v.oneCell' = true) (hw : wantF ops o f = some true := by rfl) :
    DR P ops o N f w fun v W => v = .int .i64 (q : Int) ∧ Blk W B (patch cs o1 (ys.take q)) ∧ Only B w W := fun a ha => by
  obtain ⟨_, _, ad, cap, rfl, h3, h4, h5, h6⟩ := hr
  rw [List.length_map] at hy h3
  have hx := ha.ev hx
  have hy := ha.ev hy
  obtain ⟨e, hu, hs⟩ := of_sliceB ht
  obtain ⟨tt, hb'⟩ := hb
  have hqm : q ≤ ys.length ∧ q ≤ n := by rw [← hq]; exact ⟨Nat.min_le_left _ _, Nat.min_le_right _ _⟩
  cases hi : P.info? e with
  | none => rw [hi] at hs; cases hs
  | some i =>
    have hz : i.size = 1 := by simpa [hi] using hs
    have hlen : (ys.take q).length = q := by rw [List.length_take]; omega
    have hfl : (ys.map fun u => [u]).flatten = ys := flat_ones ys
    have hf : (Builtin.firstCells i.size q (.slice ad ys.length cap)).run P w = .ok (ys.take q).toArray w := by
      by_cases hne : ys = []
      · subst hne
        cases ad with
        | none => rw [run_firstCells_none]; simp
        | some ad => exact run_firstCells_some (P := P) w i.size q ad 0 cap _ (by have hq0 : q = 0 := (Nat.le_zero.1 hqm.1); rw [hq0]; simp) (fun j u hj => by simp at hj)
      · obtain ⟨X, o2, e2, _, hc⟩ := h6 (by simpa using hne)
        subst e2
        rw [hfl] at hc
        exact run_firstCells_some (P := P) w i.size q ⟨X, o2, none⟩ ys.length cap (ys.take q) (by rw [hz, hlen]; omega) (fun j u hj => by
          rw [List.getElem?_take] at hj
          split at hj
          · rw [addr_at]; exact hc j u hj
          · cases hj)
    have hst := run_storeCells_at P B o1 tt (ys.take q) 0 _ w hb' (by simp [hlen]; omega) (fun v hv => h1 v (List.mem_of_mem_take hv))
    simp only [Nat.add_zero] at hst
    rw [hlen] at hst
    have hcs : (cs.toArray.toList.take o1 ++ ys.take q ++ cs.toArray.toList.drop (o1 + q)) = patch cs o1 (ys.take q) := by unfold patch; rw [hlen]; simp
    rw [hcs] at hst
    exact Does.of_wp (wantF_of ha hw) fun K hK => by
      unfold Oper.wp execOp
      simp only [ho, resolve, invoke, builtin, Sem.run_bind, Sem.run_pure, Result.andThen_ok, List.map_toArray, List.map_cons, List.map_nil, hx, hy, Builtin.copy_, run_underlying hu, List.getElem?_toArray, List.getElem?_cons_zero, List.getElem?_cons_succ, Builtin.lenOf, hq, sizeOf, typeInfo, run_program, hi, hf, hst]
      exact hK _ _ ⟨rfl, ⟨tt, setRow_heap w B _ _ tt _ hb'⟩, only_setRow w B _⟩
theorem flat_at {s : Nat} {rs : List (List Value)} {r : List Value} {k j : Nat} {u : Value} (h : ∀ r ∈ rs, r.length = s) (hi : rs[k]? = some r) (hj : r[j]? = some u) : rs.flatten[k * s + j]? = some u := by
 have h1 := flat_row h hi
 have hjs : j < s := by
  have := (List.getElem?_eq_some_iff.1 hj).1
  rw [h r (List.mem_of_getElem? hi)] at this
  exact this
 rw [← h1, List.getElem?_take, if_pos hjs, List.getElem?_drop] at hj
 exact hj
theorem flat_set1 {s : Nat} : ∀ {rs : List (List Value)} {r : List Value} {k j : Nat} {u : Value}, (∀ r ∈ rs, r.length = s) → rs[k]? = some r → j < s → rs.flatten.set (k * s + j) u = (rs.set k (r.set j u)).flatten
 | r0 :: rs, r, 0, j, u, h, hi, hj => by
  simp only [List.getElem?_cons_zero, Option.some.injEq] at hi
  subst hi
  have hl := h r0 (.head _)
  rw [Nat.zero_mul, Nat.zero_add, List.flatten_cons, List.set_append_left _ _ (by omega), List.set_cons_zero, List.flatten_cons]
 | r0 :: rs, r, k + 1, j, u, h, hi, hj => by
  have hl := h r0 (.head _)
  have ih := flat_set1 (rs := rs) (k := k) (u := u) (fun r hr => h r (.tail _ hr)) (by simpa using hi) hj
  rw [List.flatten_cons, List.set_append_right _ _ (by rw [hl, Nat.succ_mul]; omega), hl, show (k + 1) * s + j - s = k * s + j by rw [Nat.succ_mul]; omega, ih, List.set_cons_succ, List.flatten_cons]
theorem dx_loadOF {t s B k j o0 : Nat} {x : Operand} {v u : Value} {rs : List (List Value)} {r : List Value} (ho : o.op = .load t x) (ht : oneB P t = true) (hx : ev f x = some (.pointer (some ⟨B, o0, none⟩))) (hr : OwS s w v rs B) (hk : k * s + j = o0) (hi : rs[k]? = some r) (hj : r[j]? = some u) (hw : wantF ops o f = some true := by rfl) : DV P ops o N f w u := by
 obtain ⟨h0, hl, cap, sp, rfl, h2, h3, h4, h5⟩ := hr
 refine dx_load ho ht hx (h5.cell (k := o0) ?_) hw
 have h6 := flat_at hl hi hj
 rw [← hk, List.getElem?_append_left (List.getElem?_eq_some_iff.1 h6).1]
 exact h6
theorem dx_storeOF {t s B k j o0 : Nat} {x y : Operand} {V v : Value} {rs : List (List Value)} {r : List Value} (ho : o.op = .store t x y) (ht : sizeB P t 1 = true) (hx : ev f x = some (.pointer (some ⟨B, o0, none⟩))) (hy : ev f y = some V) (hV : V.oneCell' = true) (hr : OwS s w v rs B) (hk : k * s + j = o0) (hi : rs[k]? = some r) (hj : j < s) (hw : wantF ops o f = some true := by rfl) : DR P ops o N f w fun _ W => OwS s W v (rs.set k (r.set j V)) B ∧ Only B w W := by
  obtain ⟨h0, hl, cap, sp, rfl, h2, h3, h4, h5⟩ := hr
  have hlt := (List.getElem?_eq_some_iff.1 hi).1
  have hrl := hl r (List.mem_of_getElem? hi)
  have hlen : k * s + j < rs.flatten.length := by
    rw [flat_len hl]
    have : (k + 1) * s ≤ rs.length * s := Nat.mul_le_mul_right _ hlt
    rw [Nat.succ_mul] at this
    omega
  refine (dx_store (cs' := (rs.set k (r.set j V)).flatten ++ sp) ho ht hx hy (oc_one hV) (oc_cons hV oc_nil) h5 rfl (by rw [List.length_append]; omega) ?_ hw).mono fun _ W h => ⟨⟨h0, fun r' hr' => ?_, cap, sp, by rw [List.length_set], by rw [List.length_set]; exact h2, h3, by rw [List.length_set]; exact h4, h.1⟩, h.2⟩
  · rw [← flat_set1 hl hi hj, ← hk, ← List.set_append_left _ _ hlen, List.set_eq_take_append_cons_drop, if_pos (by rw [List.length_append]; omega)]
    rfl
  · rcases List.mem_or_eq_of_mem_set hr' with h | h
    · exact hl r' h
    · rw [h, List.length_set]; exact hrl
end
theorem Chg.both {B : Nat} {w W W' : World} (h : Chg B w W) (k : Chg B W W') : Chg B w W' :=
 ⟨by rw [k.os, h.os], by rw [k.tape, h.tape], by rw [k.output, h.output], Nat.le_trans h.size k.size, fun j hj hn => by rw [k.block j (Nat.lt_of_lt_of_le hj h.size) hn, h.block j hj hn]⟩
theorem Chg.toBelow {B : Nat} {w0 w w' : World} (g : Chg B w w') (hb : Below w0.heap.size w0 w) (hB : w0.heap.size ≤ B) : Below w0.heap.size w0 w' :=
 ⟨by rw [g.os, hb.os], by rw [g.tape, hb.tape], by rw [g.output, hb.output], Nat.le_trans hb.size g.size, fun k hk => by rw [g.block k (Nat.lt_of_lt_of_le hk hb.size) (by omega), hb.block k hk]⟩
theorem Agree.of_chg {L : List Nat} {B : Nat} {w w' : World} (h : Chg B w w') (hB : B ∈ L) : Agree L w w' := ⟨h.size, fun k hk hlt => h.block k hlt (fun e => hk (e ▸ hB))⟩
theorem RdF.chgL {s : Nat} {L : List Nat} {w w' : World} {v : Value} {rs : List (List Value)} (h : RdF s L w v rs) {B : Nat} (g : Chg B w w') (hB : B ∈ L) : RdF s L w' v rs := h.agree (.of_chg g hB)
theorem LL.chg {L : List Nat} {w w' : World} (h : LL L w) {B : Nat} (g : Chg B w w') : LL L w' := fun x hx => Nat.lt_of_lt_of_le (h x hx) g.size
theorem OwS.chgL {s : Nat} {w w' : World} {v : Value} {rs : List (List Value)} {C B : Nat} (h : OwS s w v rs C) (g : Chg B w w') (hn : C ≠ B) : OwS s w' v rs C := by
 obtain ⟨h0, hl, cap, sp, h1, h2, h3, h4, h5⟩ := h
 exact ⟨h0, hl, cap, sp, h1, h2, h3, h4, h5.chg g hn⟩
section
variable {P : Program} {ops : Array Oper} {o : Oper} {N : Nat} {f : Fl} {w : World} {R : Value → World → Prop} {fn : Func}
theorem cw_ret0 {B : Nat} {w0 : World} (h : fn.results = #[]) (hR : R (.tuple #[]) w) (hb : Chg B w0 w) {a : Act} (ha : Fr N a f) : finW P fn R B w0 a w := by
 obtain ⟨x, v, hv, v', he, h1, h2⟩ := fn0 (P := P) (Rr := fun e w' => ∃ v, e = .returned v ∧ R v w' ∧ Chg B w0 w') h ⟨_, rfl, hR, hb⟩ ha
 cases he
 exact ⟨x, _, hv, h1, h2⟩
theorem cw_ret2 {B : Nat} {w0 : World} {r0 r1 : ResultVar} {v0 v1 : Value} (h : fn.results = #[r0, r1]) (h0 : RV P f w r0 v0) (h1 : RV P f w r1 v1) (hR : R (.tuple #[v0, v1]) w) (hb : Chg B w0 w) {a : Act} (ha : Fr N a f) : finW P fn R B w0 a w := by
 obtain ⟨x, v, hv, v', he, h1, h2⟩ := fn2 (Rr := fun e w' => ∃ v, e = .returned v ∧ R v w' ∧ Chg B w0 w') h h0 h1 ⟨_, rfl, hR, hb⟩ ha
 cases he
 exact ⟨x, _, hv, h1, h2⟩
theorem dx_cw {F : FuncId} {fn : Func} {xs : List Operand} {ts : Array TypeId} {vs : List Value} {B : Nat} (ho : o.op = .call { callee := .value (.func F), args := xs.toArray, argTypes := ts }) (hf : P.funcs[F]? = some fn) (hn : (fn.name == "runtime.NumGoroutine") = false) (hb : fn.body.isNone = false)
  (hx : evl f xs = some vs) (hc : CW P F vs w B R) (hw : wantF ops o f = some true := by rfl) : DR P ops o N f w fun v W => R v W ∧ Chg B w W :=
 dx_call (cap := #[]) ho rfl hf hn hb hx (by rw [Array.append_empty]; exact Calls.mono hc fun e w' ⟨v, he, h⟩ => ⟨v, he, h⟩) hw
end
theorem nat_or_add (x y n : Nat) (hx : x % 2 ^ n = 0) (hy : y < 2 ^ n) : x ||| y = x + y := by
 have hx' : x = (x / 2 ^ n) <<< n := by
  rw [Nat.shiftLeft_eq]
  have := Nat.div_add_mod x (2 ^ n)
  rw [hx, Nat.add_zero, Nat.mul_comm] at this
  exact this.symm
 rw [hx', ← Nat.shiftLeft_add_eq_or_of_lt hy]
theorem u64_or_add (x y : Int) (n : Nat) (hx0 : 0 ≤ x) (hx1 : x < 18446744073709551616) (hx : x % 2 ^ n = 0) (hy0 : 0 ≤ y) (hy1 : y < 2 ^ n) (hy2 : y < 18446744073709551616) : bits .or .u64 x y = x + y := by
 obtain ⟨a, rfl⟩ := Int.eq_ofNat_of_zero_le hx0
 obtain ⟨b, rfl⟩ := Int.eq_ofNat_of_zero_le hy0
 rw [u64_or_nat a b (by omega) (by omega), nat_or_add a b n (by exact_mod_cast hx) (by exact_mod_cast hy1)]
 rfl
abbrev Byt (l : List Int) : Prop := ∀ x ∈ l, 0 ≤ x ∧ x ≤ 255
def leN (k : Nat) (n : Int) : List Int := (List.range k).map fun i => n / 2 ^ (8 * i) % 256
theorem leN_len (k : Nat) (n : Int) : (leN k n).length = k := by unfold leN; simp
theorem leN_add (k : Nat) (n : Int) : leN (k + 1) n = leN k n ++ [n / 2 ^ (8 * k) % 256] := by unfold leN; rw [List.range_succ, List.map_append]; rfl
theorem leN_bytes (k : Nat) (n : Int) : Byt (leN k n) := fun x hx => by
 obtain ⟨i, _, rfl⟩ := List.mem_map.1 hx
 omega
def valN : List Int → Int
 | [] => 0
 | b :: l => b + 256 * valN l
theorem pow8 (k : Nat) : (2 : Int) ^ (8 * k) = 256 ^ k := by rw [Int.pow_mul]; rfl
theorem valN_app : ∀ (l : List Int) (b : Int), valN (l ++ [b]) = valN l + b * 2 ^ (8 * l.length)
 | [], b => by simp [valN]
 | a :: l, b => by
  rw [List.cons_append, valN, valN, valN_app l b, List.length_cons, pow8, pow8, Int.pow_succ, Int.mul_add, ← Int.mul_assoc b, Int.mul_comm _ 256]
  omega
theorem valN_lt : ∀ (l : List Int), Byt l → 0 ≤ valN l ∧ valN l < 2 ^ (8 * l.length)
 | [], _ => by simp [valN]
 | b :: l, h => by
  have h1 := h b (.head _)
  have h2 := valN_lt l fun x hx => h x (.tail _ hx)
  rw [pow8] at h2
  rw [valN, List.length_cons, pow8, Int.pow_succ]
  omega
def getS (l : List Int) : Int := IntKind.i64.wrap (valN l)
theorem wr_i64 (n : Int) : IntKind.i64.wrap n = if 9223372036854775808 ≤ n % 18446744073709551616 then n % 18446744073709551616 - 18446744073709551616 else n % 18446744073709551616 := by
 unfold IntKind.wrap
 simp only [show IntKind.i64.signed = true from rfl, Bool.true_and, show IntKind.i64.bits = 64 from rfl, decide_eq_true_eq]
 rfl
theorem ofInt_wr (n : Int) : BitVec.ofInt 64 (IntKind.i64.wrap n) = BitVec.ofInt 64 n := by
 apply BitVec.eq_of_toNat_eq
 rw [BitVec.toNat_ofInt, BitVec.toNat_ofInt, wr_i64]
 congr 1
 show _ % (18446744073709551616 : Int) = n % (18446744073709551616 : Int)
 split <;> omega
theorem bits_i64 (a b : Int) : bits BinOp.or IntKind.i64 a (IntKind.i64.wrap b) = IntKind.i64.wrap (bits BinOp.or IntKind.u64 a b) := by
 have e : ∀ m : Nat, m < 18446744073709551616 → IntKind.u64.wrap (m : Int) = (m : Int) := fun m h => wrapu64_id (by omega)
 show IntKind.i64.wrap (((BitVec.ofInt 64 a ||| BitVec.ofInt 64 (IntKind.i64.wrap b)).toNat : Nat) : Int) = IntKind.i64.wrap (IntKind.u64.wrap (((BitVec.ofInt 64 a ||| BitVec.ofInt 64 b).toNat : Nat) : Int))
 rw [ofInt_wr, e _ (BitVec.isLt _)]
theorem or_get {a b : Int} {i : Nat} (hi : i ≤ 7) (h0 : 0 ≤ a) (ha : a < 2 ^ (8 * i)) (hb : 0 ≤ b ∧ b ≤ 255) : bits BinOp.or IntKind.i64 (IntKind.i64.wrap a) (IntKind.i64.wrap (b * 2 ^ (8 * i))) = IntKind.i64.wrap (a + b * 2 ^ (8 * i)) := by
 have hp : (2 : Int) ^ (8 * i) ≤ 72057594037927936 := by
  match i, hi with
  | 0, _ => decide | 1, _ => decide | 2, _ => decide | 3, _ => decide | 4, _ => decide | 5, _ => decide | 6, _ => decide | 7, _ => decide
 have hpp : (0 : Int) < 2 ^ (8 * i) := Int.pow_pos (by decide)
 have hm : b * 2 ^ (8 * i) ≤ 255 * 72057594037927936 := Int.mul_le_mul hb.2 hp (by omega) (by decide)
 have hn : 0 ≤ b * 2 ^ (8 * i) := Int.mul_nonneg hb.1 (by omega)
 rw [wrap64_id (x := a) (by omega), bits_i64]
 congr 1
 have := u64_or_add (b * 2 ^ (8 * i)) a (8 * i) hn (by omega) (Int.mul_emod_left _ _) h0 ha (by omega)
 rw [show bits BinOp.or IntKind.u64 a (b * 2 ^ (8 * i)) = bits BinOp.or IntKind.u64 (b * 2 ^ (8 * i)) a from by simp only [bits, BitVec.or_comm], this]
 omega
theorem get_step {l : List Int} {i : Nat} {b : Int} (hl : l.length ≤ 8) (hB : Byt l) (hb : l[i]? = some b) : bits BinOp.or IntKind.i64 (getS (l.take i)) (IntKind.i64.wrap (b * 2 ^ (8 * i))) = getS (l.take (i + 1)) := by
 obtain ⟨hlt, he⟩ := List.getElem?_eq_some_iff.1 hb
 have ht : (l.take i).length = i := by rw [List.length_take]; omega
 have h1 := valN_lt (l.take i) fun x hx => hB x (List.mem_of_mem_take hx)
 rw [ht] at h1
 unfold getS
 rw [or_get (by omega) h1.1 h1.2 (hB b (List.mem_of_getElem? hb)), List.take_add_one, hb]
 show _ = IntKind.i64.wrap (valN (l.take i ++ [b]))
 rw [valN_app, ht]
theorem wr_u8 (n : Int) : IntKind.u8.wrap n = n % 256 := by
 unfold IntKind.wrap
 simp only [show IntKind.u8.signed = false from rfl, Bool.false_and, show IntKind.u8.bits = 8 from rfl]
 rfl
theorem put_step {z : List Int} {o0 i : Nat} {n : Int} (h : o0 + i < z.length) : (encS (patch z o0 (leN i n))).take (o0 + i) ++ ([Value.int .u8 (n / 2 ^ (8 * i) % 256)] ++ (encS (patch z o0 (leN i n))).drop (o0 + i + 1)) = encS (patch z o0 (leN (i + 1) n)) := by
 have e := patch_add (z := z) (l := leN i n) (o := o0) (x := n / 2 ^ (8 * i) % 256) (by rw [leN_len]; omega)
 rw [leN_len, ← leN_add] at e
 rw [← e, List.set_eq_take_append_cons_drop, if_pos (by rw [patch_len (by rw [leN_len]; omega)]; omega)]
 simp [encS, List.map_take, List.map_drop]
theorem put_stepS {z : List Int} {sp : List Value} {o0 i : Nat} {n : Int} (h : o0 + i < z.length) : (encS (patch z o0 (leN i n)) ++ sp).take (o0 + i) ++ ([Value.int .u8 (n / 2 ^ (8 * i) % 256)] ++ (encS (patch z o0 (leN i n)) ++ sp).drop (o0 + i + 1)) = encS (patch z o0 (leN (i + 1) n)) ++ sp := by
 have hl : (encS (patch z o0 (leN i n))).length = z.length := by rw [encS_len, patch_len (by rw [leN_len]; omega)]
 rw [List.take_append_of_le_length (by omega), List.drop_append_of_le_length (by omega), ← put_step h]
 simp only [List.append_assoc]
set_option maxHeartbeats 1000000 in
theorem put_v (z : List Int) (sp : List Value) (o0 k c : Nat) (n : Int) (P : Nat) (w : World) (L : List Nat) (hL : LL L w) (hPL : P ∈ L) (hp : Blk w P (encS (patch z o0 (leN 0 n)) ++ sp))  (ho : o0 + k ≤ z.length) (hk8 : k ≤ 8) : CW Tryd.prog 75 [.slice (some ⟨P, o0, none⟩) k c, .int .i64 n] w P fun v W => v = .tuple #[] ∧ Blk W P (encS (patch z o0 (leN k n)) ++ sp) := by
 refine cw_enter (N := 19) (f := [(0, .slice (some ⟨P, o0, none⟩) k c), (1, .int .i64 n)]) Tryd.func75 rfl rfl rfl rfl fun Q hQ hE => ?_
 have hB := Chg.refl P w
 have hL0 := hL
 refine Sq fun K1 hK1 => (Rg (Pu rfl (Va (dx_lenS rfl ty_slice_40 rfl) rfl rfl (Pu rfl (Ni (hK1 (WC.block ?_)))))))
 refine WC.loop (fun (i : Nat) => [(0, .slice (some ⟨P, o0, none⟩) k c), (1, .int .i64 n), (5, .slice (some ⟨P, o0, none⟩) k c), (6, .int .i64 (k : Int)), (7, .int .i64 (i : Int))]) (fun (i : Nat) W => i ≤ k ∧ Chg P w W ∧ LL (L) W ∧ Blk W P (encS (patch z o0 (leN i n)) ++ sp)) (fun (i : Nat) => k - i) 0 (by repeat first | exact trivial | refine aR ?_ | refine aI (by omega) ?_) ⟨Nat.zero_le _, hB, hL, hp⟩ ?_
 clear hp hB hL
 rintro K2 i W3 ⟨hi, hB, hL, hp⟩ hK2
 refine Sq fun K4 hK4 => (Rg (Va (dx_lss rfl rfl rfl) rfl rfl (Ni (hK4 (Sq fun K5 hK5 => ?_)))))
 refine WC.cond rfl (fun c6 => ?_) (fun c6 => ?_)
 ·
  replace c6 := dT c6
  refine WC.skip (hK5 (Sq fun K7 hK7 => (WC.block (Sq fun K8 hK8 => (Rg (Pu rfl (Pu rfl ?_)))))))
  refine Ni (hK8 (Rg (Pu rfl (Pu rfl (Pu rfl (Pu rfl (Va (dx_mul (r := 8 * (i : Int)) rfl rfl rfl (by rw [wrap64_id (by omega)])) rfl rfl ?_)))))))
  refine Va (dx_shrJ (r := n / 2 ^ (8 * i)) rfl rfl rfl (by omega) (by show _ ≤ (64 : Int); omega) (by rw [show (8 * (i : Int)).toNat = 8 * i by omega])) rfl rfl (Va (dx_conv (r := n / 2 ^ (8 * i) % 256) rfl Tryd.underlying3 Tryd.underlying5 rfl (wr_u8 _)) rfl rfl (Va (dx_idxM (o1 := o0 + i) i rfl ty_slice_40 rfl rfl rfl (by omega) rfl) rfl rfl ?_))
  refine WL.do (dx_store (cs' := encS (patch z o0 (leN (i + 1) n)) ++ sp) (vs := [.int .u8 (n / 2 ^ (8 * i) % 256)]) rfl ty_size_5_1 rfl rfl rfl (oC rfl oc_nil) hp rfl (by rw [List.length_append, encS_len, patch_len (by rw [leN_len]; omega)]; omega) (put_stepS (by omega))) rfl ?_
  rintro _ W9 ⟨k11, o10⟩
  clear hp
  replace hB := Chg.only hB o10 (.inl rfl)
  replace hL := LL.only hL o10
  refine Ni (hK7 (Rg (Va (dx_add (r := (i : Int) + 1) rfl rfl rfl (wrap64_id (by omega))) rfl rfl (Pu rfl (Ni ?_)))))
  exact hK2 (i + 1) ⟨(by omega), hB, hL, k11⟩ (by omega) (by repeat first | exact trivial | refine aR ?_ | refine aI (by omega) ?_)
 ·
  replace c6 := dF c6
  refine WC.exit ?_
  intro a_ ha_
  exact hE (cw_ret0 rfl  ⟨rfl, (show i = k by omega) ▸ hp⟩ hB ha_)

abbrev e8s (zs : List Int) : List (List Value) := zs.map fun x => [Value.int .u8 x]
set_option maxHeartbeats 1000000 in
theorem get_v (zs : List Int) (zv : Value) (w : World) (L : List Nat) (hL : LL L w) (h1 : RdF 1 L w zv (e8s zs))  (hby : Byt zs) (h8 : zs.length ≤ 8) : CV Tryd.prog 78 [zv] w fun v W => v = .int .i64 (getS zs) := by
 refine cv_enter (N := 22) (f := [(0, zv)]) Tryd.func78 rfl rfl rfl rfl fun Q hQ hE => ?_
 have hB := Below.refl w.heap.size w
 refine Sq fun K1 hK1 => (Rg (Pu rfl (Ni (hK1 (Sq fun K2 hK2 => (Rg (Pu rfl ?_)))))))
 refine Ni (hK2 (Sq fun K3 hK3 => (Sq fun K4 hK4 => (Rg (Pu rfl (Va (dx_lenM rfl ty_slice_40 rfl h1) rfl rfl (Pu rfl ?_)))))))
 refine Ni (hK4 (WC.block ?_))
 refine WC.loop (fun (i : Nat) => [(0, zv), (2, .int .i64 0), (5, zv), (6, .int .i64 (zs.length : Int)), (7, .int .i64 (i : Int)), (3, .int .i64 (getS (zs.take i)))]) (fun (i : Nat) W => i ≤ zs.length ∧ Below w.heap.size w W ∧ LL (L) W ∧ RdF 1 (L) W zv (e8s zs)) (fun (i : Nat) => zs.length - i) 0 (by repeat first | exact trivial | refine aR ?_ | refine aI (by omega) ?_) ⟨Nat.zero_le _, hB, hL, h1⟩ ?_
 clear h1 hB hL
 rintro K5 i W6 ⟨hi, hB, hL, h1⟩ hK5
 refine Sq fun K7 hK7 => (Rg (Va (dx_lss rfl rfl rfl) rfl rfl (Ni (hK7 (Sq fun K8 hK8 => ?_)))))
 refine WC.cond rfl (fun c9 => ?_) (fun c9 => ?_)
 ·
  replace c9 := dT c9
  refine WC.skip (hK8 (Sq fun K10 hK10 => (WC.block (Sq fun K11 hK11 => (Rg (Pu rfl (Pu rfl ?_)))))))
  refine Ni (hK11 ?_)
  obtain ⟨r12, e13⟩ : ∃ x, zs[i]? = some x := ⟨_, List.getElem?_eq_getElem (by omega)⟩
  have hbb := hby r12 (List.mem_of_getElem? e13)
  refine Rg (Pu rfl (Pu rfl (Pu rfl ?_)))
  refine Ge (dx_idxF i rfl ty_slice_40 rfl rfl h1 (by omega) (at_map (enc := fun x => [Value.int .u8 x]) e13)) rfl rfl ?_
  rintro u14 _ ⟨rfl, p15⟩
  refine Va (dx_loadP rfl ty_one_5 rfl p15) rfl rfl (Va (dx_conv (r := r12) rfl Tryd.underlying5 Tryd.underlying3 rfl (wrap64_id (by omega))) rfl rfl (Pu rfl (Va (dx_mul (r := 8 * (i : Int)) rfl rfl rfl (by rw [wrap64_id (by omega)])) rfl rfl (Va (dx_shlJ (r := IntKind.i64.wrap (r12 * 2 ^ (8 * i))) rfl rfl rfl (by omega) (by show _ ≤ (64 : Int); omega) (by rw [show (8 * (i : Int)).toNat = 8 * i by omega])) rfl rfl (Va (dx_or_i (r := getS (zs.take (i + 1))) rfl rfl rfl (get_step (by omega) hby e13)) rfl rfl (Pu rfl (Ni ?_)))))))
  refine hK10 (Rg (Va (dx_add (r := (i : Int) + 1) rfl rfl rfl (wrap64_id (by omega))) rfl rfl (Pu rfl (Ni ?_))))
  exact hK5 (i + 1) ⟨(by omega), hB, hL, h1⟩ (by omega) (by repeat first | exact trivial | refine aR ?_ | refine aI (by omega) ?_)
 ·
  replace c9 := dF c9
  refine WC.exit ?_
  refine hK3 (Sq fun K16 hK16 => (Rg (Pu rfl (Pu rfl (Ni (hK16 ?_))))))
  exact WC.ret fun a_ ha_ => hQ (cv_ret1 rfl (.tmp rfl) (by rw [List.take_of_length_le (by omega)]) hB ha_)

def In64 (x : Int) : Prop := 0 ≤ x ∧ x < 18446744073709551616
def rot32 (x s : Int) : Int := bits BinOp.or .u32 (x * 2 ^ s.toNat % 4294967296) (x / 2 ^ (32 - s).toNat)
def In32 (x : Int) : Prop := 0 ≤ x ∧ x < 4294967296
theorem rotl32_v (x k : Int) (w : World) (hx : In32 x) (s : Int) (hs : bits BinOp.and .u64 (IntKind.u64.wrap k) 31 = s) (h0 : 0 ≤ s) (h1 : s < 32) :
  Calls Tryd.prog 87 #[.int .u32 x, .int .i64 k] w fun e w' => e = .returned (.int .u32 (rot32 x s)) ∧ w' = w := by
 obtain ⟨hx0, hx1⟩ := hx
 go_enter Tryd.func87, Tryd.ntmps87
 go_wp2
 go_ret
 exact ⟨rfl, rfl⟩
def bigA32 (x : Int) : Int := bits BinOp.xor .u32 (bits BinOp.xor .u32 (rot32 x 30) (rot32 x 19)) (rot32 x 10)
theorem bigA32_v (x : Int) (w : World) (hx : In32 x) : Calls Tryd.prog 86 #[.int .u32 x] w fun e w' => e = .returned (.int .u32 (bigA32 x)) ∧ w' = w := by
 have hx' := hx
 obtain ⟨hx0, hx1⟩ := hx'
 go_enter Tryd.func86, Tryd.ntmps86
 go_wp2_with (first
  | (go_at_call 87; first | (with_reducible refine (rotl32_v x (-2) _ hx 30 (by decide) (by decide) (by decide)).mono ?_; rintro e w1 ⟨rfl, rfl⟩) | (with_reducible refine (rotl32_v x (-13) _ hx 19 (by decide) (by decide) (by decide)).mono ?_; rintro e w2 ⟨rfl, rfl⟩) | (with_reducible refine (rotl32_v x (-22) _ hx 10 (by decide) (by decide) (by decide)).mono ?_; rintro e w3 ⟨rfl, rfl⟩)))
 go_ret
 exact ⟨rfl, rfl⟩
def bigB32 (x : Int) : Int := bits BinOp.xor .u32 (bits BinOp.xor .u32 (rot32 x 26) (rot32 x 21)) (rot32 x 7)
theorem bigB32_v (x : Int) (w : World) (hx : In32 x) : Calls Tryd.prog 88 #[.int .u32 x] w fun e w' => e = .returned (.int .u32 (bigB32 x)) ∧ w' = w := by
 have hx' := hx
 obtain ⟨hx0, hx1⟩ := hx'
 go_enter Tryd.func88, Tryd.ntmps88
 go_wp2_with (first
  | (go_at_call 87; first | (with_reducible refine (rotl32_v x (-6) _ hx 26 (by decide) (by decide) (by decide)).mono ?_; rintro e w1 ⟨rfl, rfl⟩) | (with_reducible refine (rotl32_v x (-11) _ hx 21 (by decide) (by decide) (by decide)).mono ?_; rintro e w2 ⟨rfl, rfl⟩) | (with_reducible refine (rotl32_v x (-25) _ hx 7 (by decide) (by decide) (by decide)).mono ?_; rintro e w3 ⟨rfl, rfl⟩)))
 go_ret
 exact ⟨rfl, rfl⟩
def lowA32 (x : Int) : Int := bits BinOp.xor .u32 (bits BinOp.xor .u32 (rot32 x 25) (rot32 x 14)) (x / 8)
theorem lowA32_v (x : Int) (w : World) (hx : In32 x) : Calls Tryd.prog 89 #[.int .u32 x] w fun e w' => e = .returned (.int .u32 (lowA32 x)) ∧ w' = w := by
 have hx' := hx
 obtain ⟨hx0, hx1⟩ := hx'
 go_enter Tryd.func89, Tryd.ntmps89
 go_wp2_with (first
  | (go_at_call 87; first | (with_reducible refine (rotl32_v x (-7) _ hx 25 (by decide) (by decide) (by decide)).mono ?_; rintro e w1 ⟨rfl, rfl⟩) | (with_reducible refine (rotl32_v x (-18) _ hx 14 (by decide) (by decide) (by decide)).mono ?_; rintro e w2 ⟨rfl, rfl⟩)))
 go_ret
 exact ⟨rfl, rfl⟩
def lowB32 (x : Int) : Int := bits BinOp.xor .u32 (bits BinOp.xor .u32 (rot32 x 15) (rot32 x 13)) (x / 1024)
theorem lowB32_v (x : Int) (w : World) (hx : In32 x) : Calls Tryd.prog 90 #[.int .u32 x] w fun e w' => e = .returned (.int .u32 (lowB32 x)) ∧ w' = w := by
 have hx' := hx
 obtain ⟨hx0, hx1⟩ := hx'
 go_enter Tryd.func90, Tryd.ntmps90
 go_wp2_with (first
  | (go_at_call 87; first | (with_reducible refine (rotl32_v x (-17) _ hx 15 (by decide) (by decide) (by decide)).mono ?_; rintro e w1 ⟨rfl, rfl⟩) | (with_reducible refine (rotl32_v x (-19) _ hx 13 (by decide) (by decide) (by decide)).mono ?_; rintro e w2 ⟨rfl, rfl⟩)))
 go_ret
 exact ⟨rfl, rfl⟩
def RS32 (w : World) (B : Nat) (st : List Int) : Prop := st.length = 8 ∧ (∀ x ∈ st, In32 x) ∧ ∃ t, w.heap[B]? = some (.cells ([Value.int .i64 32, Value.int .i64 64] ++ st.map (Value.int .u32) ++ [Value.func (.func 86) #[] #[], Value.func (.func 88) #[] #[], Value.func (.func 89) #[] #[], Value.func (.func 90) #[] #[]]).toArray t (0, 0))
theorem RS32.lt {w : World} {B : Nat} {st : List Int} (h : RS32 w B st) : B < w.heap.size := by
 obtain ⟨_, _, t, h⟩ := h
 exact (Array.getElem?_eq_some_iff.1 h).1
theorem RS32.but {w w' : World} {B : Nat} {st : List Int} (h : RS32 w B st) {row : Option Nat} (hb : w.grownBy w' row) (hr : some B ≠ row) : RS32 w' B st := by
 have hl := h.lt
 obtain ⟨h1, h2, t, h⟩ := h
 exact ⟨h1, h2, t, by obtain ⟨_, _, _, _, hb5⟩ := hb; rw [hb5 B hl hr]; exact h⟩
theorem RS32.below {w w' : World} {B : Nat} {st : List Int} (h : RS32 w B st) (hb : Below w.heap.size w w') : RS32 w' B st := by
 have hl := h.lt
 obtain ⟨h1, h2, t, h⟩ := h
 exact ⟨h1, h2, t, by rw [hb.block B hl]; exact h⟩
theorem RS32.cell {w : World} {B : Nat} {st : List Int} (h : RS32 w B st) (k : Nat) (v : Value) (hv : ([Value.int .i64 32, Value.int .i64 64] ++ st.map (Value.int .u32) ++ [Value.func (.func 86) #[] #[], Value.func (.func 88) #[] #[], Value.func (.func 89) #[] #[], Value.func (.func 90) #[] #[]])[k]? = some v) : w.cell? ⟨B, k, none⟩ = some v ∧ w.frozen? ⟨B, k, none⟩ = false := by
  obtain ⟨h1, h2, t, h⟩ := h
  have hk := (List.getElem?_eq_some_iff.1 hv).1
  constructor
  · simp [World.cell?, h] at hv ⊢
    exact hv
  · simp [World.frozen?, h]
theorem RS32.width {w : World} {B : Nat} {st : List Int} (h : RS32 w B st) : w.cell? ⟨B, 0, none⟩ = some (.int .i64 32) := (h.cell 0 _ rfl).1
theorem RS32.count {w : World} {B : Nat} {st : List Int} (h : RS32 w B st) : w.cell? ⟨B, 1, none⟩ = some (.int .i64 64) := (h.cell 1 _ rfl).1
theorem RS32.stAt {w : World} {B : Nat} {st : List Int} (h : RS32 w B st) {j : Nat} (hj : j < 8) : w.cell? ⟨B, 2 + j, none⟩ = some (.int .u32 (at0 st j)) ∧ w.frozen? ⟨B, 2 + j, none⟩ = false := by
 refine h.cell (2 + j) _ ?_
 have hl := h.1
 rw [List.getElem?_append_left (by simp; omega), List.getElem?_append_right (by simp)]
 simp [at0, show j < st.length by omega]
theorem RS32.fn {w : World} {B : Nat} {st : List Int} (h : RS32 w B st) : w.cell? ⟨B, 10, none⟩ = some (.func (.func 86) #[] #[]) ∧ w.cell? ⟨B, 11, none⟩ = some (.func (.func 88) #[] #[]) ∧ w.cell? ⟨B, 12, none⟩ = some (.func (.func 89) #[] #[]) ∧ w.cell? ⟨B, 13, none⟩ = some (.func (.func 90) #[] #[]) := by
 have hl := h.1
 refine ⟨(h.cell 10 _ ?_).1, (h.cell 11 _ ?_).1, (h.cell 12 _ ?_).1, (h.cell 13 _ ?_).1⟩ <;> simp [hl]
theorem RS32.set {w : World} {B : Nat} {st : List Int} (h : RS32 w B st) {j : Nat} (hj : j < 8) {x : Int} (hx : In32 x) : RS32 (w.setCell ⟨B, 2 + j, none⟩ (.int .u32 x)) B (st.set j x) := by
  obtain ⟨h1, h2, t, h⟩ := h
  refine ⟨by simp [h1], fun y hy => ?_, t, ?_⟩
  · rcases List.mem_or_eq_of_mem_set hy with k | rfl
    · exact h2 y k
    · exact hx
  · simp only [World.setCell, Array.getElem?_modify, h]
    have e : ∀ (a b v : Value) (l r : List Value), j < l.length → ([a, b] ++ l ++ r).set (2 + j) v = [a, b] ++ l.set j v ++ r := by
      intro a b v l r hl
      rw [Nat.add_comm, List.append_assoc, List.append_assoc]
      show a :: b :: (l ++ r).set j v = a :: b :: (l.set j v ++ r)
      rw [List.set_append_left _ _ hl]
    have e2 := e (Value.int .i64 32) (Value.int .i64 64) (Value.int .u32 x) (st.map (Value.int .u32)) [Value.func (.func 86) #[] #[], Value.func (.func 88) #[] #[], Value.func (.func 89) #[] #[], Value.func (.func 90) #[] #[]] (by simp [h1, hj])
    rw [List.map_set, ← e2]
    simp
theorem RS32.stIn {w : World} {B : Nat} {st : List Int} (h : RS32 w B st) (j : Nat) : In32 (at0 st j) := by
 by_cases hj : j < st.length
 · exact h.2.1 _ (at0_mem hj)
 · unfold In32; simp [at0, hj]
theorem cut32_v (x : Int) (w : World) (B : Nat) (st : List Int) (hr : RS32 w B st) (hx : In64 x) : Calls Tryd.prog 95 #[.pointer (some ⟨B, 0, none⟩), .int .u64 x] w fun e w' => e = .returned (.int .u32 (x / 4294967296)) ∧ w' = w := by
 have h0 := hr.width
 have hl := hr.lt
 obtain ⟨hx0, hx1⟩ := hx
 go_enter Tryd.func95, Tryd.ntmps95
 go_wp2
 go_ret
 exact ⟨rfl, rfl⟩
def squaresL : List Int := [7640891576956012808, 13503953896175478587, 4354685564936845355, 11912009170470909681, 5840696475078001361, 11170449401992604703, 2270897969802886507, 6620516959819538809]
def cubesL : List Int := [4794697086780616226, 8158064640168781261, 13096744586834688815, 16840607885511220156, 4131703408338449720, 6480981068601479193, 10538285296894168987, 12329834152419229976, 15566598209576043074, 1334009975649890238, 2608012711638119052, 6128411473006802146, 8268148722764581231, 9286055187155687089, 11230858885718282805, 13951009754708518548, 16472876342353939154, 17275323862435702243, 1135362057144423861, 2597628984639134821, 3308224258029322869, 5365058923640841347, 6679025012923562964, 8573033837759648693, 10970295158949994411, 12119686244451234320, 12683024718118986047, 13788192230050041572, 14330467153632333762, 15395433587784984357, 489312712824947311, 1452737877330783856, 2861767655752347644, 3322285676063803686, 5560940570517711597, 5996557281743188959, 7280758554555802590, 8532644243296465576, 9350256976987008742, 10552545826968843579, 11727347734174303076, 12113106623233404929, 14000437183269869457, 14369950271660146224, 15101387698204529176, 15463397548674623760, 17586052441742319658, 1182934255886127544, 1847814050463011016, 2177327727835720531, 2830643537854262169, 3796741975233480872, 4115178125766777443, 5681478168544905931, 6601373596472566643, 7507060721942968483, 8399075790359081724, 8693463985226723168, 9568029438360202098, 10144078919501101548, 10430055236837252648, 11840083180663258601, 13761210420658862357, 14299343276471374635, 14566680578165727644, 15097957966210449927, 16922976911328602910, 17689382322260857208, 500013540394364858, 748580250866718886, 1242879168328830382, 1977374033974150939, 2944078676154940804, 3659926193048069267, 4368137639120453308, 4836135668995329356, 5532061633213252278, 6448918945643986474, 6902733635092675308, 7801388544844847127]
structure TabS (w : World) : Prop where
 sq : ∀ k, k < 8 → w.cell? ⟨0, k, none⟩ = some (.int .u64 (at0 squaresL k))
 cu : ∀ k, k < 80 → w.cell? ⟨3, k, none⟩ = some (.int .u64 (at0 cubesL k))
theorem TabS.lt {w : World} (h : TabS w) : 0 < w.heap.size ∧ 3 < w.heap.size := ⟨World.block_lt_of_cell? w _ (h.sq 0 (by decide)), World.block_lt_of_cell? w _ (h.cu 0 (by decide))⟩
theorem TabS.but {w w' : World} (h : TabS w) {B : Nat} (hb : w.grownBy w' (some B)) (hs : 0 ≠ B) (hc : 3 ≠ B) : TabS w' :=
 ⟨fun k hk => hb.cell (h.sq k hk) (by simpa using hs), fun k hk => hb.cell (h.cu k hk) (by simpa using hc)⟩
theorem TabS.below {w w' : World} (h : TabS w) (hb : Below w.heap.size w w') : TabS w' :=
 ⟨fun k hk => by rw [hb.cell h.lt.1]; exact h.sq k hk, fun k hk => by rw [hb.cell h.lt.2]; exact h.cu k hk⟩
theorem squares_in : ∀ k, k < 8 → In64 (at0 squaresL k) := by unfold In64; decide
theorem cubes_in : ∀ k, k < 80 → In64 (at0 cubesL k) := by unfold In64; decide
theorem grown_set {w w' : World} {B : Nat} (h : w.grownBy w' (some B)) (o : Nat) (v : Value) : w.grownBy (w'.setCell ⟨B, o, none⟩ v) (some B) := by
  refine ⟨h.os, h.tape, h.output, ?_, fun k hk hne => ?_⟩
  · have := h.size
    simpa [World.setCell] using this
  · rw [heap_setCell_other w' ⟨B, o, none⟩ k v (by simpa using hne)]
    exact h.block k hk hne
theorem grown_drew {w w' : World} {row : Option Nat} (h : w.grownBy w' row) : w.grownBy w'.drew row := ⟨h.os, h.tape, h.output, h.size, h.block⟩
def begin32 : List Int := (List.range 8).map fun k => at0 squaresL k / 4294967296
theorem begin32_at (k : Nat) (hk : k < 8) : at0 begin32 k = at0 squaresL k / 4294967296 := by simp [begin32, at0, hk]
theorem begin32_v (w : World) (B : Nat) (st : List Int) (hr : RS32 w B st) (hT : TabS w) (hs : 0 ≠ B) (hc : 3 ≠ B) :
    Calls Tryd.prog 91 #[.pointer (some ⟨B, 0, none⟩)] w fun e w' => (∃ v, e = .returned v) ∧ RS32 w' B begin32 ∧ w.grownBy w' (some B) := by
  go_enter Tryd.func91, Tryd.ntmps91
  go_wp2
  go_loopw [3] (fun i wr => ∃ (k : Nat) (st : List Int), k ≤ 8 ∧ i = .int .i64 k ∧ RS32 wr B st ∧ w.grownBy wr (some B) ∧ ∀ k', k' < k → at0 st k' = at0 begin32 k') (fun i _ => 8 - (intOf i).toNat)
  case atStart => exact ⟨0, st, by omega, rfl, hr, World.grownBy.refl _ _, fun k' h => by omega⟩
  case round =>
    obtain ⟨k, st, hk, rfl, hr, hg, hst⟩ := hrel
    have hT' : TabS wr := hT.but hg hs hc
    have hl := hr.lt
    by_cases hlt : k < 8
    · have c0 := hT'.sq k hlt
      obtain ⟨c1, f1⟩ := hr.stAt hlt
      have hin := squares_in k hlt
      have hcut := fun W (h : RS32 W B st) => cut32_v (at0 squaresL k) W B st h hin
      go_wp2
      go_region_with (go_at_call 95; refine (hcut _ (by first | exact hr | exact hr.drew)).mono ?_; rintro e w9 ⟨rfl, rfl⟩)
      go_wp2
      refine ⟨⟨k + 1, st.set k (at0 begin32 k), by omega, by go_num, ?_, ?_, fun k' hk' => ?_⟩, by simp only [intOf]; omega⟩
      · have h := hr.set (j := k) hlt (x := at0 squaresL k / 4294967296) (by unfold In64 at hin; unfold In32; omega)
        rw [begin32_at k hlt]
        exact h
      · exact grown_drew (grown_set hg _ _)
      · rw [at0_set st k k' _ (by rw [hr.1]; exact hlt)]
        by_cases e : k' = k
        · rw [if_pos e, e]
        · rw [if_neg e]; exact hst k' (by omega)
    · obtain rfl : k = 8 := by omega
      have e : st = begin32 := eq_of_all (by rw [hr.1]; rfl) fun j h => hst j (by rw [hr.1] at h; exact h)
      subst e
      go_wp2
      refine bodyPost_end (v := .tuple #[]) (by simp [results, Tryd.results91]) rfl ?_
      exact ⟨⟨_, rfl⟩, hr, hg⟩
theorem arr_drew {K : IntKind} {w : World} {B : Nat} {zs : List Int} (h : Arr K w B zs) : Arr K w.drew B zs := h
theorem below_row {B : Nat} {a w : World} (h : Below B a w) {g : Nat} (hg : B ≤ g) (cs : Array Value) : Below B a (w.setRow g cs) := by
  refine ⟨h.os, h.tape, h.output, ?_, fun k hk => ?_⟩
  · have := h.size
    simpa [World.setRow] using this
  · rw [setRow_other w g k cs (by omega)]
    exact h.block k hk
def beF : List Int → Int := fun l => l.foldl (fun x c => x * 256 + c) 0
theorem beF_snoc (l : List Int) (c : Int) : beF (l ++ [c]) = beF l * 256 + c := by simp [beF]
theorem beF_lt : ∀ (n : Nat) (l : List Int), l.length = n → Bytes l → 0 ≤ beF l ∧ beF l < 256 ^ n
 | 0, l, h, _ => by
  obtain rfl : l = [] := List.length_eq_zero_iff.1 h
  simp [beF]
 | n + 1, l, h, hb => by
  have hne : l ≠ [] := by rintro rfl; simp at h
  rw [← List.dropLast_concat_getLast hne] at hb ⊢
  have ih := beF_lt n l.dropLast (by simp [h]) (fun x hx => hb x (by simp [hx]))
  have hc := hb (l.getLast hne) (by simp)
  rw [beF_snoc, Int.pow_succ]
  omega
theorem wrap_id64 {x : Int} (h0 : 0 ≤ x) (h1 : x < 4611686018427387904) : IntKind.i64.wrap x = x := by
 simp [IntKind.wrap, IntKind.bits, IntKind.signed]
 omega
theorem at0_rep (n j : Nat) : at0 (List.replicate n 0) j = 0 := by
 unfold at0
 rw [List.getElem?_replicate]
 split <;> rfl
theorem take_snoc (l : List Int) (t : Nat) (h : t < l.length) : l.take (t + 1) = l.take t ++ [at0 l t] := by
 rw [List.take_add_one, at0_lt h]; simp [h]
theorem zero_t32 : (Tryd.prog.info? 157).bind (·.zero) = some (.agg (Array.replicate 80 (Value.int .u32 0))) := by kernel_rfl
theorem info_t32 : (Tryd.prog.info? 157).map (·.size) = some 80 := by kernel_rfl
theorem und_t32 : Tryd.prog.underlying 157 = some (.array 80 138) := by kernel_rfl
theorem or_be32 (x c : Int) (hx : 0 ≤ x ∧ x < 16777216) (hc : 0 ≤ c ∧ c ≤ 255) : bits BinOp.or .u32 (x * 256) c = x * 256 + c := by
 obtain ⟨a, rfl⟩ := Int.eq_ofNat_of_zero_le hx.1
 obtain ⟨b, rfl⟩ := Int.eq_ofNat_of_zero_le hc.1
 have h := u32_or_nat (a * 256) b (by omega) (by omega)
 rw [show (((a * 256 : Nat) : Int)) = (a : Int) * 256 by simp] at h
 rw [h, nat_or_add (a * 256) b 8 (by omega) (by omega)]
 simp
def word32 (zs : List Int) (i : Nat) : Int := beF ((zs.drop (i * 4)).take 4)
theorem word32_in {zs : List Int} (hb : Bytes zs) {i : Nat} (h : (i + 1) * 4 ≤ zs.length) : In32 (word32 zs i) := by
 have := beF_lt 4 ((zs.drop (i * 4)).take 4) (by simp; omega) (fun x hx => hb x (List.mem_of_mem_drop (List.mem_of_mem_take hx)))
 unfold In32 word32
 omega
def next32 (m : List Int) (i : Nat) : Int := (at0 m (i - 16) + lowA32 (at0 m (i - 15)) + at0 m (i - 7) + lowB32 (at0 m (i - 2))) % 4294967296
def sched32 (zs : List Int) : Nat → List Int
 | 0 => (List.range 16).map (word32 zs) ++ List.replicate 64 0
 | k + 1 => (sched32 zs k).set (16 + k) (next32 (sched32 zs k) (16 + k))
theorem sched32_len (zs : List Int) : ∀ k, (sched32 zs k).length = 80
 | 0 => by simp [sched32]
 | k + 1 => by simp [sched32, sched32_len zs k]
theorem sched32_in {zs : List Int} (hb : Bytes zs) (hl : zs.length = 64) : ∀ k x, x ∈ sched32 zs k → In32 x
  | 0, x, hx => by
    rcases List.mem_append.1 hx with h | h
    · obtain ⟨i, hi, rfl⟩ := List.mem_map.1 h
      exact word32_in hb (by have := List.mem_range.1 hi; omega)
    · obtain ⟨-, rfl⟩ := List.mem_replicate.1 h
      unfold In32; omega
  | k + 1, x, hx => by
    rcases List.mem_or_eq_of_mem_set hx with h | rfl
    · exact sched32_in hb hl k x h
    · unfold In32 next32; omega
set_option maxHeartbeats 1000000 in
theorem schedule32_v (w : World) (B : Nat) (st : List Int) (hr : RS32 w B st) (v : Value) (zs : List Int) (hv : RdI .u8 w v zs) (hb : Bytes zs) (hl : zs.length = 64) :
    Calls Tryd.prog 102 #[.pointer (some ⟨B, 0, none⟩), v] w fun e w' => e = .returned (aggI .u32 (sched32 zs 48)) ∧ Below w.heap.size w w' := by
  obtain ⟨a, cap, rfl, hcap, hmax, hcell, -⟩ := hv
  obtain ⟨x, o, rfl, -⟩ := hcell 0 (by omega)
  replace hcell : ∀ k, k < 64 → w.cell? ⟨x, o + k, none⟩ = some (.int .u8 (at0 zs k)) := fun k hk => by
    obtain ⟨x', o', e, h⟩ := hcell k (by omega)
    cases e
    exact h
  have hx : x < w.heap.size := World.block_lt_of_cell? w _ (hcell 0 (by omega))
  have hB := hr.lt
  have hwd := hr.width
  rw [hl] at hcap ⊢
  go_enter Tryd.func102, Tryd.ntmps102
  go_wp2_with (first
    | (with_reducible refine at_n 4 ?_; refine wpList_allocI rfl 157 rfl .u32 80 zero_t32 ?_; intro w1 A1 s1 b1)
    | (with_reducible refine at_n 5 ?_; refine wpList_allocI rfl 157 rfl .u32 80 zero_t32 ?_; intro w2 A2 s2 b2; replace A1 := A1.below b2; have BB := below_then b1 b2; replace hwd := (hr.below BB).width))
  go_loopw [17] (fun i wr => ∃ (k : Nat) (ms : List Int), k ≤ 16 ∧ i = .int .i64 k ∧ Arr .u32 wr w.heap.size (List.replicate 80 0) ∧ Arr .u32 wr w1.heap.size ms ∧ ms.length = 80 ∧ (∀ j, j < 80 → at0 ms j = if j < k then word32 zs j else 0) ∧ Below w.heap.size w wr) (fun i _ => 16 - (intOf i).toNat)
  case atStart => exact ⟨0, List.replicate 80 0, by omega, rfl, A1, A2, by simp, fun j h => by rw [at0_rep, if_neg (by omega)], BB⟩
  case round =>
    clear A1 A2 BB hwd
    obtain ⟨k, ms, hk, rfl, A1, A2, hml, hms, BB⟩ := hrel
    by_cases hlt : k < 16
    · have hc : ∀ j, j < 4 → wr.cell? ⟨x, o + k * 4 + j, none⟩ = some (.int .u8 (at0 ((zs.drop (k * 4)).take 4) j)) := fun j hj => by
        have h1 := hcell (k * 4 + j) (by omega)
        rw [← Nat.add_assoc] at h1
        rw [BB.cell hx, h1]
        simp [at0, hj]
      have hbp : Bytes ((zs.drop (k * 4)).take 4) := fun y hy => hb y (List.mem_of_mem_drop (List.mem_of_mem_take hy))
      have hlp : ((zs.drop (k * 4)).take 4).length = 4 := by simp; omega
      generalize hps : (zs.drop (k * 4)).take 4 = ps at *
      clear hcell
      go_wp2
      have hlen : (k + 1) * 4 - k * 4 = 4 := by omega
      simp only [hlen]
      go_loopw [8, 30] (fun y j wq => ∃ (t : Nat), t ≤ 4 ∧ j = .int .i64 t ∧ y = .int .u32 (beF (ps.take t)) ∧ wq = wr) (fun _ j _ => 4 - (intOf j).toNat)
      case atStart => exact ⟨0, by omega, rfl, rfl, rfl⟩
      case round =>
        obtain ⟨t, ht, rfl, rfl, rfl⟩ := hrel
        by_cases hlt2 : t < 4
        · have hc0 := hc t hlt2
          have hbt := beF_lt t (ps.take t) (by simp [hlp]; omega) (fun y hy => hbp y (List.mem_of_mem_take hy))
          have hcb := hbp.at t
          have hsn : beF (ps.take (t + 1)) = beF (ps.take t) * 256 + at0 ps t := by rw [take_snoc ps t (by omega), beF_snoc]
          generalize at0 ps t = c at *
          have hyb : 0 ≤ beF (ps.take t) ∧ beF (ps.take t) < 16777216 := by
            have hp : (256 : Int) ^ t ≤ 256 ^ 3 := by
              rcases (by omega : t = 0 ∨ t = 1 ∨ t = 2 ∨ t = 3) with rfl | rfl | rfl | rfl <;> decide
            omega
          generalize beF (ps.take t) = y at *
          have ho := or_be32 y c hyb hcb
          have hy0 := hyb.1
          have hy1 := hyb.2
          replace hsn := Lib.hid hsn
          clear hbt hyb hc
          go_wp2
          refine ⟨⟨t + 1, by omega, by go_num, ?_, by trivial⟩, by simp only [intOf]; omega⟩
          rw [hsn.out]
        · obtain rfl : t = 4 := by omega
          have hw : beF (ps.take 4) = word32 zs k := by rw [← hlp, List.take_length, ← hps]; rfl
          rw [hw]
          have f0 := A2.free (k := k) (by omega)
          have c0 := A2.cell (k := k) (by omega)
          clear hc
          go_wp2
          refine ⟨⟨k + 1, ms.set k (word32 zs k), by omega, by go_num, A1.setOther (by omega) _ _, A2.set _ _, by simp [hml], fun j hj => ?_, BB.setCell (by show w.heap.size ≤ w1.heap.size; omega) _⟩, by simp only [intOf]; omega⟩
          rw [at0_set ms k j _ (by omega)]
          by_cases e : j = k
          · rw [if_pos e, if_pos (by omega), e]
          · rw [if_neg e, hms j hj]
            by_cases e2 : j < k
            · rw [if_pos e2, if_pos (by omega)]
            · rw [if_neg e2, if_neg (by omega)]
    · obtain rfl : k = 16 := by omega
      have e : ms = sched32 zs 0 := eq_of_all (by rw [hml]; rfl) fun j h => by
        rw [hml] at h
        rw [hms j h]
        by_cases e : j < 16
        · rw [if_pos e]
          unfold sched32 at0
          rw [List.getElem?_append_left (by simpa using e)]; simp [e]
        · rw [if_neg e]
          have e2 := at0_rep 64 (j - 16)
          unfold sched32
          unfold at0 at e2 ⊢
          rw [List.getElem?_append_right (by simpa using e), List.length_map, List.length_range, e2]
      subst e
      clear hms hml hcell
      have hsl := sched32_len zs
      have hsi := sched32_in hb hl
      go_wp2
      go_loopw [11] (fun i wr => ∃ (i' : Nat), 16 ≤ i' ∧ i' ≤ 64 ∧ i = .int .i64 i' ∧ Arr .u32 wr w.heap.size (List.replicate 80 0) ∧ Arr .u32 wr w1.heap.size (sched32 zs (i' - 16)) ∧ Below w.heap.size w wr) (fun i _ => 64 - (intOf i).toNat)
      case atStart => exact ⟨16, by omega, by omega, rfl, A1, A2, BB⟩
      case round =>
        clear A1 A2 BB
        obtain ⟨i, hi0, hi1, rfl, A1, A2, BB⟩ := hrel
        have hr' := hr.below BB
        have hct := hr'.count
        by_cases hlt : i < 64
        · have hln := hsl (i - 16)
          have hin := hsi (i - 16)
          have hst : sched32 zs (i + 1 - 16) = (sched32 zs (i - 16)).set i (next32 (sched32 zs (i - 16)) i) := by
            rw [show i + 1 - 16 = (i - 16) + 1 by omega]
            show (sched32 zs (i - 16)).set (16 + (i - 16)) (next32 (sched32 zs (i - 16)) (16 + (i - 16))) = _
            rw [show 16 + (i - 16) = i by omega]
          generalize sched32 zs (i - 16) = ms at *
          have hat : ∀ j, j < 80 → In32 (at0 ms j) := fun j hj => hin _ (at0_mem (by omega))
          obtain ⟨j1, e1, n1⟩ : ∃ j : Nat, IntKind.i64.wrap ((i : Int) - 16) = (j : Int) ∧ i - 16 = j := ⟨i - 16, by rw [wrap_id64 (by omega) (by omega)]; omega, rfl⟩
          obtain ⟨j2, e2, n2⟩ : ∃ j : Nat, IntKind.i64.wrap ((i : Int) - 15) = (j : Int) ∧ i - 15 = j := ⟨i - 15, by rw [wrap_id64 (by omega) (by omega)]; omega, rfl⟩
          obtain ⟨j3, e3, n3⟩ : ∃ j : Nat, IntKind.i64.wrap ((i : Int) - 7) = (j : Int) ∧ i - 7 = j := ⟨i - 7, by rw [wrap_id64 (by omega) (by omega)]; omega, rfl⟩
          obtain ⟨j4, e4, n4⟩ : ∃ j : Nat, IntKind.i64.wrap ((i : Int) - 2) = (j : Int) ∧ i - 2 = j := ⟨i - 2, by rw [wrap_id64 (by omega) (by omega)]; omega, rfl⟩
          have b1 : (j1 : Int) < 80 := by omega
          have b2' : (j2 : Int) < 80 := by omega
          have b3 : (j3 : Int) < 80 := by omega
          have b4 : (j4 : Int) < 80 := by omega
          have b5 : (i : Int) < 80 := by omega
          have c1 := A2.cell (k := j1) (by omega)
          have c2 := A2.cell (k := j2) (by omega)
          have c3 := A2.cell (k := j3) (by omega)
          have c4 := A2.cell (k := j4) (by omega)
          have nx : next32 ms i = (at0 ms j1 + lowA32 (at0 ms j2) + at0 ms j3 + lowB32 (at0 ms j4)) % 4294967296 := by unfold next32; rw [n1, n2, n3, n4]
          replace nx := Lib.hid nx
          clear n1 n2 n3 n4
          have c5 := A2.cell (k := i) (by omega)
          have f5 := A2.free (k := i) (by omega)
          have HA := fun W => lowA32_v (at0 ms j2) W (hat _ (by omega))
          have HB := fun W => lowB32_v (at0 ms j4) W (hat _ (by omega))
          obtain ⟨f10, f11, f12, f13⟩ := hr'.fn
          replace hst := Lib.hid hst
          clear hin hsi hsl
          go_wp2
          go_still_tail 31, (by kernel_rfl)
          still_call (HA _)
          repeat still_step
          still_call (HB _)
          repeat still_step
          refine wpStill_nil ?_
          change wpList _ _ _ _ _ wr.drew
          go_wp2
          refine ⟨?_, ?_⟩
          · refine Exists.intro (Value.int .i64 ((i : Int) + 1)) ?_
            repeat apply Exists.intro (α := Value)
            refine ⟨⟨i + 1, by omega, by omega, by go_num, ?_, ?_, ?_⟩, rfl⟩
            · exact (arr_drew A1).setOther (by omega) _ _
            · rw [hst.out, nx.out]
              try simp only [IntKind.wrap_u64, Int.emod_add_emod]
              exact arr_drew (A2.set i _)
            · exact BB.drew.setCell (by show w.heap.size ≤ w1.heap.size; omega) _
          · show 64 - (intOf (Value.int .i64 ((i : Int) + 1))).toNat < 64 - (intOf (Value.int .i64 (i : Int))).toNat
            simp only [intOf]; omega
        · obtain rfl : i = 64 := by omega
          have hln := hsl (64 - 16)
          go_wp2_with (first
            | (with_reducible refine at_n 83 ?_; refine wpList_loadI rfl 157 _ rfl 80 138 und_t32 info_t32 w1.heap.size rfl .u32 _ A2 hln ?_)
            | (with_reducible refine at_op (o := ⟨_, .store 157 _ _, _, _, _, _⟩) ?_; refine wpList_storeI rfl 157 _ _ rfl 80 info_t32 w.heap.size rfl .u32 _ _ rfl A1 (by simp) hln ?_; intro A3))
          refine bodyPost_ret (results_cellI rfl _ 80 138 und_t32 info_t32 w.heap.size rfl .u32 _ A3 hln) rfl ?_
          exact ⟨rfl, below_row BB (Nat.le_refl _) _⟩
theorem TabS.drewN {w : World} (h : TabS w) (n : Nat) : TabS (w.drewN n) := h.below (below_drewN (Below.refl _ _) n)
theorem grown_below {w w' : World} (h : Below w.heap.size w w') (B : Nat) : w.grownBy w' (some B) := ⟨h.os, h.tape, h.output, h.size, fun k hk _ => h.block k hk⟩
theorem grown_row (w : World) (g : Nat) (cs : Array Value) : w.grownBy (w.setRow g cs) (some g) := by
 refine ⟨rfl, rfl, rfl, by simp [World.setRow], fun k hk hne => ?_⟩
 rw [setRow_other w g k cs (by simpa using hne)]
structure Eight64 where
 (a b c d e f g h : Int)
def Eight64.ok (v : Eight64) : Prop := In64 v.a ∧ In64 v.b ∧ In64 v.c ∧ In64 v.d ∧ In64 v.e ∧ In64 v.f ∧ In64 v.g ∧ In64 v.h
def Eight64.list (v : Eight64) : List Int := [v.a, v.b, v.c, v.d, v.e, v.f, v.g, v.h]
theorem mod_in32 (x : Int) : In32 (x % 4294967296) := by unfold In32; omega
structure Eight32 where
 (a b c d e f g h : Int)
def Eight32.ok (v : Eight32) : Prop := In32 v.a ∧ In32 v.b ∧ In32 v.c ∧ In32 v.d ∧ In32 v.e ∧ In32 v.f ∧ In32 v.g ∧ In32 v.h
def not32 (e : Int) : Int := bits BinOp.xor .u32 (if IntKind.u32.signed = true then -1 else IntKind.u32.max) e
def tt32 (m : List Int) (i : Nat) (v : Eight32) : Int := (v.h + bigB32 v.e + bits BinOp.xor .u32 (bits BinOp.and .u32 v.e v.f) (bits BinOp.and .u32 (not32 v.e) v.g) + at0 cubesL i / 4294967296 + at0 m i) % 4294967296
def uu32 (v : Eight32) : Int := (bigA32 v.a + bits BinOp.xor .u32 (bits BinOp.xor .u32 (bits BinOp.and .u32 v.a v.b) (bits BinOp.and .u32 v.a v.c)) (bits BinOp.and .u32 v.b v.c)) % 4294967296
def round32 (m : List Int) (i : Nat) (v : Eight32) : Eight32 := ⟨(tt32 m i v + uu32 v) % 4294967296, v.a, v.b, v.c, (v.d + tt32 m i v) % 4294967296, v.e, v.f, v.g⟩
def rounds32 (m : List Int) (v : Eight32) : Nat → Eight32
 | 0 => v
 | i + 1 => round32 m i (rounds32 m v i)
theorem rounds32_ok {m : List Int} {v : Eight32} (h : v.ok) : ∀ i, (rounds32 m v i).ok
 | 0 => h
 | i + 1 => by
  obtain ⟨h0, h1, h2, h3, h4, h5, h6, h7⟩ := rounds32_ok (m := m) h i
  exact ⟨mod_in32 _, h0, h1, h2, mod_in32 _, h4, h5, h6⟩
def eight32 (st : List Int) : Eight32 := ⟨at0 st 0, at0 st 1, at0 st 2, at0 st 3, at0 st 4, at0 st 5, at0 st 6, at0 st 7⟩
def Eight32.list (v : Eight32) : List Int := [v.a, v.b, v.c, v.d, v.e, v.f, v.g, v.h]
def take32 (st zs : List Int) : List Int := (List.range 8).map fun j => (at0 st j + at0 (rounds32 (sched32 zs 48) (eight32 st) 64).list j) % 4294967296
set_option maxHeartbeats 4000000 in
theorem take32_v (w : World) (B : Nat) (st : List Int) (hr : RS32 w B st) (hT : TabS w) (hs : 0 ≠ B) (hc : 3 ≠ B) (v : Value) (zs : List Int) (hv : RdI .u8 w v zs) (hb : Bytes zs) (hl : zs.length = 64) :
    Calls Tryd.prog 97 #[.pointer (some ⟨B, 0, none⟩), v] w fun e w' => (∃ v, e = .returned v) ∧ RS32 w' B (take32 st zs) ∧ w.grownBy w' (some B) := by
  have hB := hr.lt
  have hml := sched32_len zs 48
  have hmi := sched32_in hb hl 48
  have HS := fun W (h : RS32 W B st) (hv : RdI .u8 W v zs) => schedule32_v W B st h v zs hv hb hl
  have htk : take32 st zs = (List.range 8).map fun j => (at0 st j + at0 (rounds32 (sched32 zs 48) (eight32 st) 64).list j) % 4294967296 := rfl
  generalize sched32 zs 48 = ms at *
  have h8 : (eight32 st).ok := ⟨hr.stIn 0, hr.stIn 1, hr.stIn 2, hr.stIn 3, hr.stIn 4, hr.stIn 5, hr.stIn 6, hr.stIn 7⟩
  have he8 : eight32 st = ⟨at0 st 0, at0 st 1, at0 st 2, at0 st 3, at0 st 4, at0 st 5, at0 st 6, at0 st 7⟩ := rfl
  go_enter Tryd.func97, Tryd.ntmps97
  go_wp2_with (first
    | (go_at_call 102; (with_reducible refine (HS _ hr hv).mono ?_); rintro e w1 ⟨rfl, b1⟩)
    | (with_reducible refine at_n 4 ?_; refine wpList_allocI rfl 157 rfl .u32 80 zero_t32 ?_; intro w2 A2 s2 b2; have BB := below_then b1 b2; have hr2 := hr.below BB; have hT2 := hT.below BB)
    | (with_reducible refine at_op (o := ⟨_, .store 157 _ _, _, _, _, _⟩) ?_; refine wpList_storeI rfl 157 _ _ rfl 80 info_t32 w1.heap.size rfl .u32 _ _ rfl A2 (by simp) hml ?_; intro A3))
  have hs1 := b1.size
  have hr3 : RS32 (w2.setRow w1.heap.size (ms.map (Value.int .u32)).toArray) B st := hr2.but (grown_row _ _ _) (by simp; omega)
  have hT3 : TabS (w2.setRow w1.heap.size (ms.map (Value.int .u32)).toArray) := hT2.but (grown_row _ _ _) (by have := hT.lt.1; have := b1.size; omega) (by have := hT.lt.2; have := b1.size; omega)
  have BB3 := below_row BB (g := w1.heap.size) b1.size (ms.map (Value.int .u32)).toArray
  generalize w2.setRow w1.heap.size (ms.map (Value.int .u32)).toArray = w3 at *
  clear hr2 hT2 A2 BB HS
  have s0 : w3.cell? ⟨B, 2, none⟩ = some (.int .u32 (at0 st 0)) := (hr3.stAt (j := 0) (by decide)).1
  have s1 : w3.cell? ⟨B, 3, none⟩ = some (.int .u32 (at0 st 1)) := (hr3.stAt (j := 1) (by decide)).1
  have s2 : w3.cell? ⟨B, 4, none⟩ = some (.int .u32 (at0 st 2)) := (hr3.stAt (j := 2) (by decide)).1
  have s3 : w3.cell? ⟨B, 5, none⟩ = some (.int .u32 (at0 st 3)) := (hr3.stAt (j := 3) (by decide)).1
  have s4 : w3.cell? ⟨B, 6, none⟩ = some (.int .u32 (at0 st 4)) := (hr3.stAt (j := 4) (by decide)).1
  have s5 : w3.cell? ⟨B, 7, none⟩ = some (.int .u32 (at0 st 5)) := (hr3.stAt (j := 5) (by decide)).1
  have s6 : w3.cell? ⟨B, 8, none⟩ = some (.int .u32 (at0 st 6)) := (hr3.stAt (j := 6) (by decide)).1
  have s7 : w3.cell? ⟨B, 9, none⟩ = some (.int .u32 (at0 st 7)) := (hr3.stAt (j := 7) (by decide)).1
  have hct := hr3.count
  have hml' := hml
  go_quiet (fail)
  go_wp2
  go_quiet (fail)
  go_wp2
  have he : rounds32 ms (eight32 st) 0 = eight32 st := rfl
  generalize hv0 : eight32 st = v0 at *
  go_loopw [5, 6, 7, 8, 9, 10, 11, 12, 65] (fun a b c d e f g h i wr => ∃ (k : Nat), k ≤ 64 ∧ i = .int .i64 k ∧ a = .int .u32 (rounds32 ms v0 k).a ∧ b = .int .u32 (rounds32 ms v0 k).b ∧ c = .int .u32 (rounds32 ms v0 k).c ∧ d = .int .u32 (rounds32 ms v0 k).d ∧ e = .int .u32 (rounds32 ms v0 k).e ∧ f = .int .u32 (rounds32 ms v0 k).f ∧ g = .int .u32 (rounds32 ms v0 k).g ∧ h = .int .u32 (rounds32 ms v0 k).h ∧ RS32 wr B st ∧ TabS wr ∧ Arr .u32 wr w1.heap.size ms ∧ Below w.heap.size w wr) (fun _ _ _ _ _ _ _ _ i _ => 64 - (intOf i).toNat)
  case atStart =>
    refine ⟨0, by omega, rfl, ?_, ?_, ?_, ?_, ?_, ?_, ?_, ?_, hr3, hT3.drewN _, A3, below_drewN BB3 _⟩ <;> (rw [he, he8])
  case round =>
    clear hr3 hT3 A3 BB3 s0 s1 s2 s3 s4 s5 s6 s7 hct
    obtain ⟨k, hk, rfl, rfl, rfl, rfl, rfl, rfl, rfl, rfl, rfl, hr3, hT3, A3, BB3⟩ := hrel
    by_cases hlt : k < 64
    · have hok := rounds32_ok (m := ms) h8 k
      have hnx : rounds32 ms v0 (k + 1) = round32 ms k (rounds32 ms v0 k) := rfl
      rcases hv : rounds32 ms v0 k with ⟨a, b, c, d, e, f, g, h⟩
      rw [hv] at hok hnx
      obtain ⟨⟨a0, a1⟩, ⟨b0, b1'⟩, ⟨c0, c1⟩, ⟨d0, d1⟩, ⟨e0, e1⟩, ⟨f0, f1⟩, ⟨g0, g1⟩, ⟨h0, h1⟩⟩ := hok
      dsimp only at a0 a1 b0 b1' c0 c1 d0 d1 e0 e1 f0 f1 g0 g1 h0 h1
      have hcu := hT3.cu k (by omega)
      have hci := cubes_in k (by omega)
      have HC := fun W (h : RS32 W B st) => cut32_v (at0 cubesL k) W B st h hci
      have HB := fun W => bigB32_v e W ⟨e0, e1⟩
      have HA := fun W => bigA32_v a W ⟨a0, a1⟩
      have hms := A3.cell (k := k) (by omega)
      obtain ⟨f10, f11, f12, f13⟩ := hr3.fn
      have hk80 : (k : Int) < 80 := by omega
      replace hnx := Lib.hid hnx
      clear hv hmi htk he
      go_wp2
      go_quiet (first | (go_at_call 88; exact Calls.quiet_of_same (HB _)) | (go_at_call 95; exact Calls.quiet_of_same (HC _ hr3)))
      go_wp2_with (first
        | (go_at_call 86; (with_reducible refine (HA _).mono ?_); rintro e w9 ⟨rfl, rfl⟩))
      refine ⟨⟨k + 1, by omega, by go_num, ?_, congrArg (Value.int .u32) (congrArg Eight32.b hnx.out).symm, congrArg (Value.int .u32) (congrArg Eight32.c hnx.out).symm, congrArg (Value.int .u32) (congrArg Eight32.d hnx.out).symm, ?_, congrArg (Value.int .u32) (congrArg Eight32.f hnx.out).symm, congrArg (Value.int .u32) (congrArg Eight32.g hnx.out).symm, congrArg (Value.int .u32) (congrArg Eight32.h hnx.out).symm, hr3, hT3.drewN _, A3, below_drewN BB3 _⟩, by simp only [intOf]; omega⟩ <;> rw [hnx.out]
      · show _ = Value.int .u32 ((tt32 ms k ⟨a, b, c, d, e, f, g, h⟩ + uu32 ⟨a, b, c, d, e, f, g, h⟩) % 4294967296)
        unfold tt32 uu32 not32
        first | rfl | (simp only [IntKind.wrap_u64, Int.emod_add_emod, Int.add_emod_emod])
      · show _ = Value.int .u32 ((d + tt32 ms k ⟨a, b, c, d, e, f, g, h⟩) % 4294967296)
        unfold tt32 not32
        first | rfl | (simp only [IntKind.wrap_u64, Int.emod_add_emod, Int.add_emod_emod])
    · obtain rfl : k = 64 := by omega
      have hok := rounds32_ok (m := ms) h8 64
      rcases hv : rounds32 ms v0 64 with ⟨a, b, c, d, e, f, g, h⟩
      rw [hv] at hok htk
      obtain ⟨⟨a0, a1⟩, ⟨b0, b1'⟩, ⟨c0, c1⟩, ⟨d0, d1⟩, ⟨e0, e1⟩, ⟨f0, f1⟩, ⟨g0, g1⟩, ⟨h0, h1⟩⟩ := hok
      dsimp only at a0 a1 b0 b1' c0 c1 d0 d1 e0 e1 f0 f1 g0 g1 h0 h1
      have hg := grown_below BB3 B
      replace htk := Lib.hid htk
      clear hv hmi he
      go_wp2
      rw [show Value.agg #[.int .u32 a, .int .u32 b, .int .u32 c, .int .u32 d, .int .u32 e, .int .u32 f, .int .u32 g, .int .u32 h] = aggI .u32 [a, b, c, d, e, f, g, h] from rfl]
      have hls : ([a, b, c, d, e, f, g, h] : List Int).length = 8 := rfl
      have hlv : (Eight32.list ⟨a, b, c, d, e, f, g, h⟩) = [a, b, c, d, e, f, g, h] := rfl
      replace hlv := Lib.hid hlv
      generalize ([a, b, c, d, e, f, g, h] : List Int) = ls at *
      clear a0 a1 b0 b1' c0 c1 d0 d1 e0 e1 f0 f1 g0 g1 h0 h1 BB3 A3 hT3
      go_loopw [135] (fun i wr => ∃ (j : Nat) (su : List Int), j ≤ 8 ∧ i = .int .i64 j ∧ RS32 wr B su ∧ w.grownBy wr (some B) ∧ (∀ q, q < 8 → at0 su q = if q < j then (at0 st q + at0 ls q) % 4294967296 else at0 st q)) (fun i _ => 8 - (intOf i).toNat)
      case atStart => exact ⟨0, st, by omega, rfl, hr3, hg, fun q hq => by rw [if_neg (by omega)]⟩
      case round =>
        clear hr3 hg
        obtain ⟨j, su, hj, rfl, hr3, hg, hsu⟩ := hrel
        by_cases hjl : j < 8
        · have hix : ∀ w, (Instr.index 141 (aggI .u32 ls) (.int .i64 (j : Int))).run Tryd.prog w = .ok (.int .u32 (at0 ls j)) w := fun w => by
            have h := run_indexI (w := w) (P := Tryd.prog) 141 8 138 Tryd.underlying141 _ Tryd.underlying138 rfl (by kernel_rfl) .u32 ls hls (j : Int) (by omega) (by omega)
            rwa [Int.toNat_natCast] at h
          obtain ⟨cj, fj⟩ := hr3.stAt hjl
          have hsj := hsu j hjl
          rw [if_neg (by omega)] at hsj
          rw [hsj] at cj
          have hjI : (j : Int) < 8 := by omega
          replace hsj := Lib.hid hsj
          replace hsu := Lib.hid hsu
          go_wp2
          go_still_tail 11, (by kernel_rfl)
          change wpList _ _ _ _ _ wr.drew
          go_wp2
          refine ⟨?_, ?_⟩
          · apply Exists.intro (α := Value)
            apply Exists.intro (α := Value)
            refine Exists.intro (Value.int .i64 ((j : Int) + 1)) ?_
            repeat apply Exists.intro (α := Value)
            refine ⟨⟨j + 1, su.set j ((at0 st j + at0 ls j) % 4294967296), by omega, by go_num, ?_, ?_, fun q hq => ?_⟩, rfl⟩
            · try simp only [IntKind.wrap_u64]
              have h := hr3.set hjl (mod_in32 (at0 st j + at0 ls j))
              exact h
            · exact grown_drew (grown_set hg _ _)
            · rw [at0_set su j q _ (by rw [hr3.1]; exact hjl)]
              by_cases e : q = j
              · rw [if_pos e, if_pos (by omega), e]
              · rw [if_neg e, hsu.out q hq]
                by_cases e2 : q < j
                · rw [if_pos e2, if_pos (by omega)]
                · rw [if_neg e2, if_neg (by omega)]
          · show 8 - (intOf (Value.int .i64 ((j : Int) + 1))).toNat < 8 - (intOf (Value.int .i64 (j : Int))).toNat
            simp only [intOf]; omega
        · obtain rfl : j = 8 := by omega
          have e : su = take32 st zs := eq_of_all (by rw [hr3.1, htk.out]; simp) fun q hq => by
            rw [hr3.1] at hq
            rw [hsu q hq, if_pos hq, htk.out, hlv.out]
            simp [at0, hq]
          subst e
          go_wp2
          refine bodyPost_end (results_none rfl _ _ _) rfl ?_
          exact ⟨⟨_, rfl⟩, hr3, hg⟩
theorem blockSize_v (n : Int) (w : World) (h : n = 32 ∨ n = 64) : Calls Tryd.prog 96 #[.int .i64 n] w fun e w' => e = .returned (.int .i64 (2 * n)) ∧ w' = w := by
 rcases h with rfl | rfl
 all_goals
  go_enter Tryd.func96, Tryd.ntmps96
  go_wp2
  go_ret
  exact ⟨rfl, rfl⟩
theorem lengthSize_v (n : Int) (w : World) (h : n = 32 ∨ n = 64) : Calls Tryd.prog 105 #[.int .i64 n] w fun e w' => e = .returned (.int .i64 (n / 4)) ∧ w' = w := by
 rcases h with rfl | rfl
 all_goals
  go_enter Tryd.func105, Tryd.ntmps105
  go_wp2
  go_ret
  exact ⟨rfl, rfl⟩
def padded (n wd : Int) : Int := if n < 0 ∨ 1099511627776 < n ∨ (wd ≠ 32 ∧ wd ≠ 64) then 0 else (n + 1 + wd / 4 + 2 * wd - 1) / (2 * wd) * (2 * wd)
theorem padded_v (n wd : Int) (w : World) (hn : -9223372036854775808 ≤ n ∧ n ≤ 9223372036854775807) (hw : -9223372036854775808 ≤ wd ∧ wd ≤ 9223372036854775807) :
    Calls Tryd.prog 103 #[.int .i64 n, .int .i64 wd] w fun e w' => e = .returned (.int .i64 (padded n wd)) ∧ w' = w := by
  by_cases h : n < 0 ∨ 1099511627776 < n ∨ (wd ≠ 32 ∧ wd ≠ 64)
  · rw [show padded n wd = 0 from if_pos h]
    have hb : (decide (n < 0) || (decide (1099511627776 < n) || (decide (wd ≠ 32) && decide (wd ≠ 64)))) = true := by simpa using h
    by_cases h1 : n < 0
    · have d1 : decide (n < 0) = true := decide_eq_true h1
      go_enter Tryd.func103, Tryd.ntmps103
      go_wp2
      go_ret
      exact ⟨rfl, rfl⟩
    · by_cases h2 : 1099511627776 < n
      · go_enter Tryd.func103, Tryd.ntmps103
        go_wp2
        go_ret
        exact ⟨rfl, rfl⟩
      · have h3 : wd ≠ 32 ∧ wd ≠ 64 := by omega
        obtain ⟨h4, h5⟩ := h3
        have b4 : (wd != 32) = true := by simpa using h4
        have b5 : (wd != 64) = true := by simpa using h5
        clear hb h h4 h5
        go_enter Tryd.func103, Tryd.ntmps103
        go_wp2
        go_ret
        exact ⟨rfl, rfl⟩
  · have h6 : wd = 32 ∨ wd = 64 := by omega
    have h7 : ¬ n < 0 := by omega
    have h8 : ¬ 1099511627776 < n := by omega
    rw [show padded n wd = (n + 1 + wd / 4 + 2 * wd - 1) / (2 * wd) * (2 * wd) from if_neg h]
    clear h
    have HB := fun W => blockSize_v wd W h6
    have HL := fun W => lengthSize_v wd W h6
    rcases h6 with rfl | rfl
    all_goals
      go_enter Tryd.func103, Tryd.ntmps103
      go_wp2_with (first
        | (go_at_call 96; (with_reducible refine (HB _).mono ?_); rintro e w1 ⟨rfl, rfl⟩)
        | (go_at_call 105; (with_reducible refine (HL _).mono ?_); rintro e w1 ⟨rfl, rfl⟩))
      go_ret
      exact ⟨rfl, rfl⟩
def tell32 (st : List Int) : List Int := (List.range 32).map fun i => at0 st (i / 4) / 2 ^ (8 * (4 - 1 - i % 4)) % 256
theorem tell32_at (st : List Int) (i : Nat) (h : i < 32) : at0 (tell32 st) i = at0 st (i / 4) / 2 ^ (8 * (4 - 1 - i % 4)) % 256 := by simp [tell32, at0, h]
set_option maxHeartbeats 1000000 in
theorem tell32_v (w : World) (B Bs : Nat) (st zs : List Int) (hr : RS32 w B st) (hz : Arr .u8 w Bs zs) (hl : zs.length = 32) (hne : B ≠ Bs) :
    Calls Tryd.prog 93 #[.pointer (some ⟨B, 0, none⟩), .slice (some ⟨Bs, 0, none⟩) 32 32] w fun e w' => (∃ v, e = .returned v) ∧ Arr .u8 w' Bs (tell32 st) ∧ w.grownBy w' (some Bs) := by
  have hwd := hr.width
  go_enter Tryd.func93, Tryd.ntmps93
  go_wp2
  go_loopw [13] (fun i wr => ∃ (k : Nat) (ys : List Int), k ≤ 32 ∧ i = .int .i64 k ∧ RS32 wr B st ∧ Arr .u8 wr Bs ys ∧ ys.length = 32 ∧ w.grownBy wr (some Bs) ∧ ∀ q, q < k → at0 ys q = at0 (tell32 st) q) (fun i _ => 32 - (intOf i).toNat)
  case atStart => exact ⟨0, zs, by omega, rfl, hr, hz, hl, World.grownBy.refl _ _, fun q h => by omega⟩
  case round =>
    clear hr hz hwd
    obtain ⟨k, ys, hk, rfl, hr, hz, hyl, hg, hys⟩ := hrel
    by_cases hlt : k < 32
    · have hk8 : k / 4 < 8 := by omega
      obtain ⟨cj, -⟩ := hr.stAt hk8
      have hsi := hr.stIn (k / 4)
      have cs := hz.cell (k := k) (by omega)
      have fs := hz.free (k := k) (by omega)
      have hat := tell32_at st k hlt
      generalize at0 st (k / 4) = s at *
      obtain ⟨s0, s1⟩ := hsi
      obtain ⟨q, e1, hq⟩ : ∃ q : Nat, IntKind.i64.wrap ((k : Int) / 4) = (q : Int) ∧ q = k / 4 := ⟨k / 4, by rw [wrap_id64 (by omega) (by omega)]; omega, rfl⟩
      obtain ⟨r, e2, hr2⟩ : ∃ r : Nat, (k : Int).tmod 4 = (r : Int) ∧ r = k % 4 := ⟨k % 4, by rw [Int.tmod_eq_emod_of_nonneg (by omega)]; omega, rfl⟩
      have e5 : IntKind.i64.wrap 3 = 3 := by decide
      obtain ⟨t, e3, ht⟩ : ∃ t : Nat, IntKind.i64.wrap ((3 : Int) - (r : Int)) = (t : Int) ∧ t = 3 - r := ⟨3 - r, by rw [wrap_id64 (by omega) (by omega)]; omega, rfl⟩
      obtain ⟨u, e4, hu⟩ : ∃ u : Nat, IntKind.i64.wrap ((8 : Int) * (t : Int)) = (u : Int) ∧ u = 8 * t := ⟨8 * t, by rw [wrap_id64 (by omega) (by omega)]; omega, rfl⟩
      have hu2 : 8 * (4 - 1 - k % 4) = u := by omega
      rw [hu2] at hat
      have hu3 : (u : Int) < 32 := by omega
      have hq8 : (q : Int) < 8 := by omega
      rw [← hq] at cj
      clear hu2 hq hr2 ht hu hk8
      replace hat := Lib.hid hat
      replace hys := Lib.hid hys
      go_wp2
      go_still_tail 20, (by kernel_rfl)
      change wpList _ _ _ _ _ wr.drew
      go_wp2
      refine ⟨⟨k + 1, ys.set k (s / 2 ^ u % 256), by omega, by go_num, hr.but (grown_drew (grown_set (World.grownBy.refl wr (some Bs)) k _)) (by simpa using hne), arr_drew (hz.set k _), by simp [hyl], grown_drew (grown_set hg _ _), fun q hq => ?_⟩, by simp only [intOf]; omega⟩
      rw [at0_set ys k q _ (by omega)]
      by_cases e : q = k
      · rw [if_pos e, e, hat.out]
      · rw [if_neg e]; exact hys.out q (by omega)
    · obtain rfl : k = 32 := by omega
      have e : ys = tell32 st := eq_of_all (by rw [hyl]; simp [tell32]) fun q h => hys q (by rw [hyl] at h; exact h)
      subst e
      go_wp2
      refine bodyPost_end (results_none rfl _ _ _) rfl ?_
      exact ⟨⟨_, rfl⟩, hz, hg⟩
section
variable {P : Program} {ops : Array Oper} {md : Region.Mode}

structure NItem where
 ka : Nat
 ks : Nat
 K : IntKind
 n : Nat
 v : List Int
def NewEO (base : Nat) (items : List NItem) (L : Nat → Bool) (f : Nat → Value) (w : World) : Prop :=
 ∃ loc : Nat → Nat, (∀ it ∈ items, L it.ka = true → f it.ka = .pointer (some ⟨loc it.ka, 0, none⟩) ∧ base ≤ loc it.ka ∧ Arr it.K w (loc it.ka) (if L it.ks then it.v else List.replicate it.n 0)) ∧
  (∀ it ∈ items, ∀ it' ∈ items, L it.ka = true → L it'.ka = true → it.ka ≠ it'.ka → loc it.ka ≠ loc it'.ka)
inductive NKind where
 | plain
 | alloc (it : NItem)
 | store (it : NItem)
def nkind (items : List NItem) (k : Nat) : NKind :=
 match items.find? (fun it => it.ka == k) with
 | some it => .alloc it
 | none => match items.find? (fun it => it.ks == k) with
  | some it => .store it
  | none => .plain
def itemsB (dl : List (List Nat)) (items : List NItem) : Bool :=
 items.all fun it => items.all (fun it' => it.ka != it'.ks && (it.ka != it'.ka || (it.ks == it'.ks)) && (it.ks != it'.ks || it.ka == it'.ka)) && ((dl[it.ks]?).getD []).contains it.ka
def ItemsOne (items : List NItem) : Prop := ∀ it ∈ items, ∀ it' ∈ items, it.ka = it'.ka → it = it'
variable {ds : List (Option Tmp)} {dl : List (List Nat)} {G : World → Prop} {F : Facts} {base : Nat} {items : List NItem} {a : Act}
theorem NewEO.start {L : Nat → Bool} {f : Nat → Value} {w : World} (h : ∀ j, L j = false) : NewEO base items L f w :=
 ⟨fun _ => 0, fun it _ (hl : L it.ka = true) => absurd hl (by rw [h]; decide), fun it _ it' _ (hl : L it.ka = true) => absurd hl (by rw [h]; decide)⟩
theorem NewEO.below {L : Nat → Bool} {f : Nat → Value} {w w' : World} (h : NewEO base items L f w) (hb : Below w.heap.size w w') : NewEO base items L f w' := by
 obtain ⟨loc, h1, h2⟩ := h
 exact ⟨loc, fun it hi hl => ⟨(h1 it hi hl).1, (h1 it hi hl).2.1, (h1 it hi hl).2.2.below hb⟩, h2⟩
theorem NewEO.plain {L : Nat → Bool} {f : Nat → Value} {w : World} {k : Nat} {v : Value} (h : NewEO base items L f w) (hk : ∀ it ∈ items, it.ka ≠ k ∧ it.ks ≠ k) : NewEO base items (upd L k true) (upd f k v) w := by
  obtain ⟨loc, h1, h2⟩ := h
  refine ⟨loc, fun it hi hl => ?_, fun it hi it' hi' hl hl' => ?_⟩
  · have e := hk it hi
    simp only [upd, if_neg e.1, if_neg e.2] at hl ⊢
    exact h1 it hi hl
  · have e := hk it hi
    have e' := hk it' hi'
    simp only [upd, if_neg e.1, if_neg e'.1] at hl hl'
    exact h2 it hi it' hi' hl hl'
theorem NewEO.alloc {L : Nat → Bool} {f : Nat → Value} {w w' : World} {it : NItem} (hone : ItemsOne items) (hok : itemsB dl items = true) (hi : it ∈ items) (hks : L it.ks = false) (hb : Below w.heap.size w w') (hbase : base ≤ w.heap.size)
    (hA : Arr it.K w' w.heap.size (List.replicate it.n 0)) (h : NewEO base items L f w) : NewEO base items (upd L it.ka true) (upd f it.ka (.pointer (some ⟨w.heap.size, 0, none⟩))) w' := by
  obtain ⟨loc, h1, h2⟩ := h
  refine ⟨upd loc it.ka w.heap.size, fun jt hj hl => ?_, fun jt hj jt' hj' hl hl' hne => ?_⟩
  · have hck := (List.all_eq_true.1 hok it hi)
    simp only [Bool.and_eq_true] at hck
    have hck2 := List.all_eq_true.1 hck.1 jt hj
    simp only [Bool.and_eq_true, bne_iff_ne, ne_eq, Bool.or_eq_true, beq_iff_eq] at hck2
    have hks' : jt.ks ≠ it.ka := fun e => hck2.1.1 e.symm
    by_cases e : jt.ka = it.ka
    · obtain rfl := hone jt hj it hi e
      simp only [upd, if_true, if_neg hks', hks]
      exact ⟨trivial, hbase, hA⟩
    · simp only [upd, if_neg e, if_neg hks'] at hl ⊢
      have := h1 jt hj hl
      exact ⟨this.1, this.2.1, this.2.2.below hb⟩
  · by_cases e : jt.ka = it.ka
    · have e' : jt'.ka ≠ it.ka := fun x => hne (e.trans x.symm)
      simp only [upd, e, if_true, if_neg e'] at hl' ⊢
      have := (h1 jt' hj' hl').2.2.lt
      omega
    · simp only [upd, if_neg e] at hl ⊢
      by_cases e' : jt'.ka = it.ka
      · simp only [e', if_true]
        have := (h1 jt hj hl).2.2.lt
        omega
      · simp only [upd, if_neg e'] at hl' ⊢
        exact h2 jt hj jt' hj' hl hl' hne
theorem NewEO.store {L : Nat → Bool} {f : Nat → Value} {w w' : World} {it : NItem} {B : Nat} {v : Value} (hone : ItemsOne items) (hok : itemsB dl items = true) (hi : it ∈ items) (hka : L it.ka = true) (hB : f it.ka = .pointer (some ⟨B, 0, none⟩))
    (hw : w' = w.setRow B (it.v.map (Value.int it.K)).toArray) (hA : Arr it.K w' B it.v) (h : NewEO base items L f w) : NewEO base items (upd L it.ks true) (upd f it.ks v) w' := by
  obtain ⟨loc, h1, h2⟩ := h
  have hl0 : loc it.ka = B := by
    have := (h1 it hi hka).1
    rw [hB] at this
    simpa using this.symm
  have hck := (List.all_eq_true.1 hok it hi)
  simp only [Bool.and_eq_true] at hck
  have hkk : ∀ jt ∈ items, jt.ka ≠ it.ks := fun jt hj e => by
    have h3 := (List.all_eq_true.1 hok jt hj)
    simp only [Bool.and_eq_true] at h3
    have h4 := List.all_eq_true.1 h3.1 it hi
    simp only [Bool.and_eq_true, bne_iff_ne, ne_eq] at h4
    exact h4.1.1 e
  refine ⟨loc, fun jt hj hl => ?_, fun jt hj jt' hj' hl hl' hne => ?_⟩
  · have hjk := hkk jt hj
    simp only [upd, if_neg hjk] at hl ⊢
    have h5 := h1 jt hj hl
    by_cases e : jt.ka = it.ka
    · obtain rfl := hone jt hj it hi e
      simp only [if_true]
      rw [hl0]
      exact ⟨by rw [hB], by rw [← hl0]; exact h5.2.1, hA⟩
    · have hck2 := List.all_eq_true.1 hck.1 jt hj
      simp only [Bool.and_eq_true, bne_iff_ne, ne_eq, Bool.or_eq_true, beq_iff_eq] at hck2
      have hs : jt.ks ≠ it.ks := fun x => by
        rcases hck2.2 with y | y
        · exact y x.symm
        · exact e y.symm
      simp only [if_neg hs]
      refine ⟨h5.1, h5.2.1, ?_⟩
      rw [hw]
      refine h5.2.2.rowOther ?_ _
      rw [← hl0]
      exact h2 jt hj it hi hl hka e
  · simp only [upd, if_neg (hkk jt hj), if_neg (hkk jt' hj')] at hl hl'
    exact h2 jt hj jt' hj' hl hl' hne
def StepN (P : Program) (ops : Array Oper) (ds : List (Option Tmp)) (dl : List (List Nat)) (a : Act) (G : World → Prop) (F : Facts) (items : List NItem) : Nat → List Oper → Prop
 | _, [] => True
 | k, o :: l => (match nkind items k with
   | .plain => ∀ f w, G w → HypL F dl f w ((dl[k]?).getD []) → Does P ops o (putL ds f ((dl[k]?).getD []) a) w fun v w' => Below w.heap.size w w' ∧ F k (restr (upd f k v) (k :: (dl[k]?).getD [])) w'
   | .alloc it => (∀ g w, F k g w) ∧ ∀ A w, Does P ops o A w fun v w' => Below w.heap.size w w' ∧ v = .pointer (some ⟨w.heap.size, 0, none⟩) ∧ Arr it.K w' w.heap.size (List.replicate it.n 0)
   | .store it => (∀ g w, F k g w) ∧ ∀ f w B, G w → HypL F dl f w ((dl[k]?).getD []) → f it.ka = .pointer (some ⟨B, 0, none⟩) → Arr it.K w B (List.replicate it.n 0) →
     Does P ops o (putL ds f ((dl[k]?).getD []) a) w fun v w' => w' = w.setRow B (it.v.map (Value.int it.K)).toArray ∧ Arr it.K w' B it.v) ∧ StepN P ops ds dl a G F items (k + 1) l
theorem StepN.at : ∀ (l : List Oper) (k : Nat), StepN P ops ds dl a G F items k l → ∀ i o, l[i]? = some o →
  (match nkind items (k + i) with
   | .plain => ∀ f w, G w → HypL F dl f w ((dl[k + i]?).getD []) → Does P ops o (putL ds f ((dl[k + i]?).getD []) a) w fun v w' => Below w.heap.size w w' ∧ F (k + i) (restr (upd f (k + i) v) ((k + i) :: (dl[k + i]?).getD [])) w'
   | .alloc it => (∀ g w, F (k + i) g w) ∧ ∀ A w, Does P ops o A w fun v w' => Below w.heap.size w w' ∧ v = .pointer (some ⟨w.heap.size, 0, none⟩) ∧ Arr it.K w' w.heap.size (List.replicate it.n 0)
   | .store it => (∀ g w, F (k + i) g w) ∧ ∀ f w B, G w → HypL F dl f w ((dl[k + i]?).getD []) → f it.ka = .pointer (some ⟨B, 0, none⟩) → Arr it.K w B (List.replicate it.n 0) →
     Does P ops o (putL ds f ((dl[k + i]?).getD []) a) w fun v w' => w' = w.setRow B (it.v.map (Value.int it.K)).toArray ∧ Arr it.K w' B it.v)
 | [], k, _, i, o, h => by simp at h
 | x :: l, k, hs, 0, o, h => by
  simp only [List.getElem?_cons_zero, Option.some.injEq] at h
  subst h
  exact hs.1
 | x :: l, k, hs, i + 1, o, h => by
  have := StepN.at l (k + 1) hs.2 i o (by simpa using h)
  rw [show k + (i + 1) = k + 1 + i by omega]
  exact this
theorem NewEO.two {i1 i2 : NItem} {f : Nat → Value} {w : World} (h : NewEO base [i1, i2] (fun _ => true) f w) (hne : i1.ka ≠ i2.ka) :
  ∃ B C, f i1.ka = .pointer (some ⟨B, 0, none⟩) ∧ f i2.ka = .pointer (some ⟨C, 0, none⟩) ∧ base ≤ B ∧ base ≤ C ∧ B ≠ C ∧ Arr i1.K w B i1.v ∧ Arr i2.K w C i2.v := by
 obtain ⟨loc, h1, h2⟩ := h
 have a1 := h1 i1 (by simp) rfl
 have a2 := h1 i2 (by simp) rfl
 exact ⟨loc i1.ka, loc i2.ka, a1.1, a2.1, a1.2.1, a2.2.1, h2 i1 (by simp) i2 (by simp) rfl rfl hne, a1.2.2, a2.2.2⟩
theorem StepN.plain {k : Nat} {o : Oper} {l : List Oper} (hk : nkind items k = .plain) (h : ∀ f w, G w → HypL F dl f w ((dl[k]?).getD []) → Does P ops o (putL ds f ((dl[k]?).getD []) a) w fun v w' => Below w.heap.size w w' ∧ F k (restr (upd f k v) (k :: (dl[k]?).getD [])) w')
  (hl : StepN P ops ds dl a G F items (k + 1) l) : StepN P ops ds dl a G F items k (o :: l) := ⟨by rw [hk]; exact h, hl⟩
theorem StepN.alloc {k : Nat} {o : Oper} {l : List Oper} {it : NItem} (hk : nkind items k = .alloc it) (hT : ∀ g w, F k g w) (h : ∀ A w, Does P ops o A w fun v w' => Below w.heap.size w w' ∧ v = .pointer (some ⟨w.heap.size, 0, none⟩) ∧ Arr it.K w' w.heap.size (List.replicate it.n 0))
  (hl : StepN P ops ds dl a G F items (k + 1) l) : StepN P ops ds dl a G F items k (o :: l) := ⟨by rw [hk]; exact ⟨hT, h⟩, hl⟩
theorem StepN.store {k : Nat} {o : Oper} {l : List Oper} {it : NItem} (hk : nkind items k = .store it) (hT : ∀ g w, F k g w) (h : ∀ f w B, G w → HypL F dl f w ((dl[k]?).getD []) → f it.ka = .pointer (some ⟨B, 0, none⟩) → Arr it.K w B (List.replicate it.n 0) →
     Does P ops o (putL ds f ((dl[k]?).getD []) a) w fun v w' => w' = w.setRow B (it.v.map (Value.int it.K)).toArray ∧ Arr it.K w' B it.v)
  (hl : StepN P ops ds dl a G F items (k + 1) l) : StepN P ops ds dl a G F items k (o :: l) := ⟨by rw [hk]; exact ⟨hT, h⟩, hl⟩
end
end Go.Proofs.YtfachlmgdlnpoaaDoor
--@optional
namespace Go.Proofs.YtfachlmgdlnpoaaDoor
open Go.RowKit
set_option linter.unusedVariables false
set_option maxRecDepth 8000

theorem Below.setRow {B : Nat} {a w : World} (h : Below B a w) {g : Nat} (hg : B ≤ g) (cs : Array Value) : Below B a (w.setRow g cs) := by
  refine ⟨h.os, h.tape, h.output, ?_, fun k hk => ?_⟩
  · have := h.size
    simpa [World.setRow] using this
  · rw [setRow_other w g k cs (by omega)]
    exact h.block k hk

end Go.Proofs.YtfachlmgdlnpoaaDoor
namespace Go.Proofs.YtfachlmgdlnpoaaDoor
open Go.RowKit
set_option linter.unusedVariables false
set_option linter.unusedSimpArgs false
set_option maxRecDepth 8000
set_option maxHeartbeats 2000000

section
variable {P : Program} {ops : Array Oper} {o : Oper} {a : Act} {w : World} {R : Value → World → Prop}

end
def sl (zs : List Int) (o n : Nat) : List Int := (zs.drop o).take n
def pt (zs : List Int) (o : Nat) (ys : List Int) : List Int := zs.take o ++ ys ++ zs.drop (o + ys.length)
theorem sl_length {zs : List Int} {o n : Nat} (h : o + n ≤ zs.length) : (sl zs o n).length = n := by simp [sl]; omega
theorem sl_at (zs : List Int) (o n k : Nat) (h : k < n) : at0 (sl zs o n) k = at0 zs (o + k) := by
 simp [at0, sl, List.getElem?_drop, h]
section
variable {P : Program} {ops : Array Oper} {o : Oper} {a : Act} {w : World} {R : Value → World → Prop}
def Rd (K : IntKind) (w : World) (B : Nat) (zs : List Int) : Prop := ∀ k, k < zs.length → w.cell? ⟨B, k, none⟩ = some (.int K (at0 zs k))
theorem Rd.below {K : IntKind} {w w' : World} {B : Nat} {zs : List Int} (h : Rd K w B zs) (hb : Below w.heap.size w w') : Rd K w' B zs := fun k hk => Go.Lib.Below.cellOf hb (h k hk) (Nat.le_refl _)
theorem Rd.range {K : IntKind} {B : Nat} {zs : List Int} (h : Rd K w B zs) {o0 n : Nat} (hl : o0 + n ≤ zs.length) : w.rangeAt B o0 ((sl zs o0 n).map (Value.int K)) := by
 intro j v hj
 rw [List.getElem?_map] at hj
 cases hq : (sl zs o0 n)[j]? with
 | none => rw [hq] at hj; cases hj
 | some x =>
  rw [hq] at hj
  have hjl : j < n := by
   have := (List.getElem?_eq_some_iff.1 hq).1
   rw [sl_length hl] at this
   exact this
  rw [h (o0 + j) (by omega), ← hj]
  have h2 := sl_at zs o0 n j hjl
  simp only [at0, hq, Option.getD_some] at h2
  rw [h2]
  simp [at0]
theorem Arr.range {K : IntKind} {B : Nat} {zs : List Int} (h : Arr K w B zs) {o0 n : Nat} (hl : o0 + n ≤ zs.length) : w.rangeAt B o0 ((sl zs o0 n).map (Value.int K)) := by
 intro j v hj
 rw [List.getElem?_map] at hj
 cases hq : (sl zs o0 n)[j]? with
 | none => rw [hq] at hj; cases hj
 | some x =>
  rw [hq] at hj
  have hjl : j < n := by
   have := (List.getElem?_eq_some_iff.1 hq).1
   rw [sl_length hl] at this
   exact this
  have hc := h.cell (k := o0 + j) (by omega)
  rw [hc, ← hj]
  have h2 := sl_at zs o0 n j hjl
  simp only [at0, hq, Option.getD_some] at h2
  rw [h2]
  simp [at0]
end
section
variable {P : Program} {ops : Array Oper} {o : Oper} {a : Act} {w : World} {R : Value → World → Prop}
theorem madeCells_zero (K : IntKind) (n m : Nat) : madeCells (Array.replicate n (Value.int K 0)) m = if n = 0 then madeCells #[] m else Array.replicate m (Value.int K 0) := by
  by_cases hn : n = 0
  · subst hn; simp
  · rw [if_neg hn]
    apply Array.ext
    · simp [madeCells]
    · intro i h1 h2
      simp [madeCells]
      have : i % n < n := Nat.mod_lt _ (by omega)
      simp [this]
end
end Go.Proofs.YtfachlmgdlnpoaaDoor
