/- The laws on disks: alive, great, DiskReads. -/
import Derived.Test.YthefddclefimoaaDskB
namespace Go.Proofs.Ythefddclefimoaa
open Go.RowKit
set_option linter.unusedVariables false
set_option linter.unusedSimpArgs false
set_option maxRecDepth 8000

theorem lookN_len {L : List Nat} {w : World} {v : Value} {l : List (Int × List Int)} (h : RdF 129 L w v (l.map encW)) (a : Int) : ∀ (n : Nat) (z : List Int), lookN l a n = some z → z.length = 128
  | 0, z, h' => by simp [lookN] at h'
  | n + 1, z, h' => by
    unfold lookN at h'
    split at h'
    · rename_i p hp
      split at h'
      · cases h'; exact rdf_W h hp
      · exact lookN_len h a n z h'
    · exact lookN_len h a n z h'
theorem readS_len {L L' : List Nat} {w w' : World} {v v' : Value} {secs : List (List Int)} {loose : List (Int × List Int)} {down : Bool} {a : Int} (h : RdF 128 L w v (secs.map encS)) (h2 : RdF 129 L' w' v' (loose.map encW)) : (readS secs loose down a).1.length = 128 := by
  unfold readS
  split
  · exact z0_len
  · split
    · exact z0_len
    · rename_i hh
      split
      · exact z0_len
      · split
        · rename_i z hz; exact lookN_len h2 a _ z hz
        · have hb := hasB_t (by simpa using hh)
          obtain ⟨x, hx⟩ : ∃ x, secs[a.toNat]? = some x := ⟨_, List.getElem?_eq_getElem (by omega)⟩
          rw [hx]
          exact rdf_S h hx
/-- Great? -/
def greatD (secs : List (List Int)) (loose : List (Int × List Int)) : Bool := decide (100 < (secs.length : Int)) || decide (100 < (loose.length : Int))
set_option maxHeartbeats 1000000 in
theorem great_v (secs : List (List Int)) (loose : List (Int × List Int)) (fuse : Int) (down : Bool) (s1 s2 : Value) (w : World) (L : List Nat) (hL : LL L w) (h1 : RdF 128 L w s1 (secs.map encS)) (h2 : RdF 129 L w s2 (loose.map encW)) : CV Try.prog 9 [.agg #[s1, s2, .int .i64 fuse, .bool down]] w fun v W => v = .bool (greatD secs loose) := by
  refine cv_enter (N := 13) (f := [(0, .agg #[s1, s2, .int .i64 fuse, .bool down])]) Try.func9 rfl rfl rfl rfl fun Q hQ hE => ?_
  have hB := Below.refl w.heap.size w
  have h1m : secs.length ≤ maxLen := by have := h1.len; rwa [List.length_map] at this
  unfold maxLen at h1m
  have h2m : loose.length ≤ maxLen := by have := h2.len; rwa [List.length_map] at this
  unfold maxLen at h2m
  refine WC.seq fun K1 hK1 => ?_
  refine WC.region ?_
  refine WL.get (dx_box rfl rfl rfl) rfl rfl ?_
  rintro _ W2 ⟨rfl, k3, b4, z5⟩
  have l6 := hB.size
  replace h1 := h1.more b4 (Nat.le_refl _)
  replace h2 := h2.more b4 (Nat.le_refl _)
  replace hB := below_then hB b4
  replace hL := LL.more hL z5
  refine WL.val (dx_assign rfl rfl) rfl rfl ?_
  refine WL.nil ?_
  refine hK1 ?_
  refine WC.seq fun K7 hK7 => ?_
  refine WC.region ?_
  refine WL.val (dx_fld (o1 := 0) rfl ty_fld_25_0_0 rfl rfl) rfl rfl ?_
  refine WL.val (dx_load rfl ty_one_22 rfl (k3.cell (k := 0) rfl)) rfl rfl ?_
  refine WL.val (dx_lenM rfl ty_slice_22 rfl h1) rfl rfl ?_
  refine WL.val (dx_gtr rfl rfl rfl) rfl rfl ?_
  refine WL.val (dx_move rfl rfl) rfl rfl ?_
  refine WL.split 7 rfl (fun g8 => ?_) (fun g8 => ?_)
  ·
    replace g8 := of_decide_eq_true g8
    refine WL.off rfl rfl rfl ?_
    refine WL.off rfl rfl rfl ?_
    refine WL.off rfl rfl rfl ?_
    refine WL.off rfl rfl rfl ?_
    refine WL.val (dx_pick rfl rfl rfl) rfl rfl ?_
    refine WL.val (dx_assign rfl rfl) rfl rfl ?_
    refine WL.nil ?_
    refine hK7 ?_
    refine WC.ret fun a_ ha_ => ?_
    exact hQ (cv_ret1 rfl (.tmp rfl) (by unfold greatD; simp [*]) hB ha_)
  ·
    replace g8 := of_decide_eq_false g8
    refine WL.val (dx_fld (o1 := 1) rfl ty_fld_25_1_1 rfl rfl) rfl rfl ?_
    refine WL.val (dx_load rfl ty_one_23 rfl (k3.cell (k := 1) rfl)) rfl rfl ?_
    refine WL.val (dx_lenM rfl ty_slice_23 rfl h2) rfl rfl ?_
    refine WL.val (dx_gtr rfl rfl rfl) rfl rfl ?_
    refine WL.val (dx_pick rfl rfl rfl) rfl rfl ?_
    refine WL.val (dx_assign rfl rfl) rfl rfl ?_
    refine WL.nil ?_
    refine hK7 ?_
    refine WC.ret fun a_ ha_ => ?_
    exact hQ (cv_ret1 rfl (.tmp rfl) (by unfold greatD; simp [*]) hB ha_)

def zA : List Int := [1, 2, 3, 4] ++ List.replicate 124 0
def zB : List Int := [1, 2, 3] ++ List.replicate 125 0
theorem zA_len : zA.length = 128 := by simp [zA]
theorem zB_len : zB.length = 128 := by simp [zB]
theorem builtA : Try.prog.built 27 [(0, .int .u8 1), (1, .int .u8 2), (2, .int .u8 3), (3, .int .u8 4)] = some (encS zA).toArray := by kernel_rfl
theorem builtB : Try.prog.built 27 [(0, .int .u8 1), (1, .int .u8 2), (2, .int .u8 3)] = some (encS zB).toArray := by kernel_rfl
def d1 : DO := newS 2
def d2 : DO := writeS d1.secs d1.loose d1.fuse d1.down 1 zA
def d3 : DO := fallS d2.secs d2.loose d2.fuse d2.down [(2, 3)] (-1)
theorem d_all : d1.err = 0 ∧ d2.err = 0 ∧ d3.err = 0 ∧ (readS d3.secs d3.loose d3.down 1).2 = 0 ∧ (readS d3.secs d3.loose d3.down 1).1 = zB := by decide +kernel
set_option maxHeartbeats 1000000 in
theorem alive_v  (w : World) (L : List Nat) (hL : LL L w)   (hL0 : LL L w) : CV Try.prog 8 [] w fun v W => v = .bool true := by
  refine cv_enter (N := 49) (f := []) Try.func8 rfl rfl rfl rfl fun Q hQ hE => ?_
  have hB := Below.refl w.heap.size w
  refine WC.seq fun K1 hK1 => ?_
  refine WC.region ?_
  refine WL.val (dx_assign rfl rfl) rfl rfl ?_
  refine WL.nil ?_
  refine hK1 ?_
  refine WC.seq fun K2 hK2 => ?_
  refine WC.region ?_
  refine WL.get (dx_cv rfl Try.func24 rfl rfl rfl (new_v 2 w _ hL hL)) rfl rfl ?_
  rintro _ W8 ⟨⟨u3, u4, rfl, j5, j6⟩, b7⟩
  replace hB := below_then hB b7
  replace hL := LL.below hL b7
  refine WL.val (dx_move rfl rfl) rfl rfl ?_
  refine WL.val (dx_extract rfl rfl rfl) rfl rfl ?_
  refine WL.val (dx_extract rfl rfl rfl) rfl rfl ?_
  refine WL.get (dx_alloc rfl ty_zero_25 rfl) rfl rfl ?_
  rintro _ W9 ⟨rfl, k10, b11, z12⟩
  have l13 := hB.size
  replace j5 := j5.more b11 (Nat.le_refl _)
  replace j6 := j6.more b11 (Nat.le_refl _)
  replace hB := below_then hB b11
  replace hL := LL.more hL z12
  refine WL.do (dx_store (cs' := [u3, u4, .int .i64 d1.fuse, .bool d1.down]) (vs := [u3, u4, .int .i64 d1.fuse, .bool d1.down]) rfl ty_size_25_4 rfl rfl rfl (oc_cons j5.one (oc_cons j6.one (oc_cons rfl (oc_cons rfl oc_nil)))) k10 rfl (Nat.le_of_ble_eq_true rfl) rfl) rfl ?_
  rintro _ W14 ⟨k16, o15⟩
  clear k10
  replace j5 := j5.only o15 (.head _)
  replace j6 := j6.only o15 (.head _)
  replace hB := o15.below hB l13
  replace hL := LL.only hL o15
  refine WL.val (dx_assign rfl rfl) rfl rfl ?_
  refine WL.nil ?_
  refine hK2 ?_
  refine WC.seq fun K17 hK17 => ?_
  refine WC.region ?_
  refine WL.val (dx_loadN rfl ty_agg_25_4 rfl k16.range rfl) rfl rfl ?_
  refine WL.val (dx_build rfl rfl builtA) rfl rfl ?_
  refine WL.get (dx_cv rfl Try.func11 rfl rfl rfl (write_v d1.secs d1.loose d1.fuse d1.down _ _ 1 zA W14 _ hL j5 j6 hL (by decide) zA_len)) rfl rfl ?_
  rintro _ W23 ⟨⟨u18, u19, rfl, j20, j21⟩, b22⟩
  replace j5 := j5.below b22
  replace j6 := j6.below b22
  replace k16 := k16.below b22
  replace hB := below_then hB b22
  replace hL := LL.below hL b22
  refine WL.val (dx_move rfl rfl) rfl rfl ?_
  refine WL.val (dx_extract rfl rfl rfl) rfl rfl ?_
  refine WL.val (dx_extract rfl rfl rfl) rfl rfl ?_
  refine WL.do (dx_store (cs' := [u18, u19, .int .i64 d2.fuse, .bool d2.down]) (vs := [u18, u19, .int .i64 d2.fuse, .bool d2.down]) rfl ty_size_25_4 rfl rfl rfl (oc_cons j20.one (oc_cons j21.one (oc_cons rfl (oc_cons rfl oc_nil)))) k16 rfl (Nat.le_of_ble_eq_true rfl) rfl) rfl ?_
  rintro _ W24 ⟨k26, o25⟩
  clear k16
  replace j5 := j5.only o25 (.head _)
  replace j6 := j6.only o25 (.head _)
  replace j20 := j20.only o25 (.head _)
  replace j21 := j21.only o25 (.head _)
  replace hB := o25.below hB l13
  replace hL := LL.only hL o25
  refine WL.val (dx_assign rfl rfl) rfl rfl ?_
  refine WL.nil ?_
  refine hK17 ?_
  refine WC.seq fun K27 hK27 => ?_
  refine WC.region ?_
  refine WL.val (dx_loadN rfl ty_agg_25_4 rfl k26.range rfl) rfl rfl ?_
  refine WL.val (dx_build rfl rfl (built_of_O (cs := [.int .u8 2, .int .u8 3]) (by kernel_rfl) (oc_cons rfl (oc_cons rfl oc_nil)))) rfl rfl ?_
  have hLs := hL
  refine WL.get (dx_lit1 (r := [.int .u8 2, .int .u8 3]) rfl ty_ap_38 (by decide) (by decide) rfl rfl rfl) rfl rfl ?_
  rintro u32 W28 ⟨k29, b30, z31⟩
  have n33 : W8.heap.size ≠ W24.heap.size := Nat.ne_of_lt k26.lt
  have l34 := hB.size
  replace j5 := j5.more b30 (Nat.le_refl _)
  replace j6 := j6.more b30 (Nat.le_refl _)
  replace j20 := j20.more b30 (Nat.le_refl _)
  replace j21 := j21.more b30 (Nat.le_refl _)
  replace k26 := k26.below b30
  replace hB := below_then hB b30
  replace hL := LL.more hL z31
  replace j5 := j5.less (fun x hx => .tail _ hx)
  replace j6 := j6.less (fun x hx => .tail _ hx)
  replace j20 := j20.less (fun x hx => .tail _ hx)
  replace j21 := j21.less (fun x hx => .tail _ hx)
  replace hL := hL.less (fun x hx => .tail _ hx)
  have hf9 : RdF 2 (W8.heap.size :: L) W28 u32 ([(2, 3)].map encF) := k29.notin hLs (Nat.le_refl _)
  refine WL.get (dx_cv rfl Try.func18 rfl rfl rfl (fall_v d2.secs d2.loose d2.fuse d2.down _ _ _ [(2, 3)] (-1) W28 _ hL j20 j21 hf9 hL (by decide) (by simp))) rfl rfl ?_
  rintro _ W40 ⟨⟨u35, u36, rfl, j37, j38⟩, b39⟩
  replace j5 := j5.below b39
  replace j6 := j6.below b39
  replace j20 := j20.below b39
  replace j21 := j21.below b39
  replace hf9 := hf9.below b39
  replace k26 := k26.below b39
  replace hB := below_then hB b39
  replace hL := LL.below hL b39
  refine WL.val (dx_move rfl rfl) rfl rfl ?_
  refine WL.val (dx_extract rfl rfl rfl) rfl rfl ?_
  refine WL.val (dx_extract rfl rfl rfl) rfl rfl ?_
  refine WL.get (dx_alloc rfl ty_zero_25 rfl) rfl rfl ?_
  rintro _ W41 ⟨rfl, k42, b43, z44⟩
  have n45 : W8.heap.size ≠ W40.heap.size := Nat.ne_of_lt k26.lt
  have l46 := hB.size
  replace j5 := j5.more b43 (Nat.le_refl _)
  replace j6 := j6.more b43 (Nat.le_refl _)
  replace j20 := j20.more b43 (Nat.le_refl _)
  replace j21 := j21.more b43 (Nat.le_refl _)
  replace hf9 := hf9.more b43 (Nat.le_refl _)
  replace j37 := j37.more b43 (Nat.le_refl _)
  replace j38 := j38.more b43 (Nat.le_refl _)
  replace k26 := k26.below b43
  replace hB := below_then hB b43
  replace hL := LL.more hL z44
  refine WL.do (dx_store (cs' := [u35, u36, .int .i64 d3.fuse, .bool d3.down]) (vs := [u35, u36, .int .i64 d3.fuse, .bool d3.down]) rfl ty_size_25_4 rfl rfl rfl (oc_cons j37.one (oc_cons j38.one (oc_cons rfl (oc_cons rfl oc_nil)))) k42 rfl (Nat.le_of_ble_eq_true rfl) rfl) rfl ?_
  rintro _ W47 ⟨k49, o48⟩
  replace k26 := k26.other o48 n45
  clear k42
  replace j5 := j5.only o48 (.head _)
  replace j6 := j6.only o48 (.head _)
  replace j20 := j20.only o48 (.head _)
  replace j21 := j21.only o48 (.head _)
  replace hf9 := hf9.only o48 (.head _)
  replace j37 := j37.only o48 (.head _)
  replace j38 := j38.only o48 (.head _)
  replace hB := o48.below hB l46
  replace hL := LL.only hL o48
  refine WL.val (dx_assign rfl rfl) rfl rfl ?_
  refine WL.nil ?_
  refine hK27 ?_
  refine WC.seq fun K50 hK50 => ?_
  refine WC.region ?_
  refine WL.val (dx_loadN rfl ty_agg_25_4 rfl k49.range rfl) rfl rfl ?_
  refine WL.get (dx_cv rfl Try.func13 rfl rfl rfl (read_v d3.secs d3.loose d3.fuse d3.down _ _ 1 W47 _ hL j37 j38)) rfl rfl ?_
  rintro _ W53 ⟨rfl, b52⟩
  replace j5 := j5.below b52
  replace j6 := j6.below b52
  replace j20 := j20.below b52
  replace j21 := j21.below b52
  replace hf9 := hf9.below b52
  replace j37 := j37.below b52
  replace j38 := j38.below b52
  replace k26 := k26.below b52
  replace k49 := k49.below b52
  replace hB := below_then hB b52
  replace hL := LL.below hL b52
  refine WL.val (dx_move rfl rfl) rfl rfl ?_
  refine WL.val (dx_extract rfl rfl rfl) rfl rfl ?_
  refine WL.val (dx_extract rfl rfl rfl) rfl rfl ?_
  refine WL.get (dx_alloc (cs := encS z0) rfl ty_zero_27 cells_z0) rfl rfl ?_
  rintro _ W54 ⟨rfl, k55, b56, z57⟩
  have n58 : W8.heap.size ≠ W53.heap.size := Nat.ne_of_lt k26.lt
  have n59 : W40.heap.size ≠ W53.heap.size := Nat.ne_of_lt k49.lt
  have l60 := hB.size
  replace j5 := j5.more b56 (Nat.le_refl _)
  replace j6 := j6.more b56 (Nat.le_refl _)
  replace j20 := j20.more b56 (Nat.le_refl _)
  replace j21 := j21.more b56 (Nat.le_refl _)
  replace hf9 := hf9.more b56 (Nat.le_refl _)
  replace j37 := j37.more b56 (Nat.le_refl _)
  replace j38 := j38.more b56 (Nat.le_refl _)
  replace k26 := k26.below b56
  replace k49 := k49.below b56
  replace hB := below_then hB b56
  replace hL := LL.more hL z57
  refine WL.do (dx_storeW (vs := (encS ((readS d3.secs d3.loose d3.down 1).1))) rfl ty_size_27_128 rfl rfl rfl (oc_S ((readS d3.secs d3.loose d3.down 1).1)) k55 (by rw [encS_len]; exact (readS_len j37 j38)) (by rw [encS_len]; exact z0_len)) rfl ?_
  rintro _ W61 ⟨k63, o62⟩
  replace k26 := k26.other o62 n58
  replace k49 := k49.other o62 n59
  clear k55
  replace j5 := j5.only o62 (.head _)
  replace j6 := j6.only o62 (.head _)
  replace j20 := j20.only o62 (.head _)
  replace j21 := j21.only o62 (.head _)
  replace hf9 := hf9.only o62 (.head _)
  replace j37 := j37.only o62 (.head _)
  replace j38 := j38.only o62 (.head _)
  replace hB := o62.below hB l60
  replace hL := LL.only hL o62
  refine WL.val (dx_assign rfl rfl) rfl rfl ?_
  refine WL.nil ?_
  refine hK50 ?_
  refine WC.seq fun K64 hK64 => ?_
  refine WC.region ?_
  refine WL.val (dx_move rfl rfl) rfl rfl ?_
  refine WL.val (dx_eql rfl rfl rfl) rfl rfl ?_
  refine WL.val (dx_move rfl rfl) rfl rfl ?_
  refine WL.split 32 rfl (fun g65 => ?_) (fun g65 => ?_)
  ·
    replace g65 := of_decide_eq_true g65
    refine WL.val (dx_move rfl rfl) rfl rfl ?_
    refine WL.val (dx_eql rfl rfl rfl) rfl rfl ?_
    refine WL.val (dx_pick rfl rfl rfl) rfl rfl ?_
    refine WL.val (dx_move rfl rfl) rfl rfl ?_
    refine WL.split 36 rfl (fun g66 => ?_) (fun g66 => ?_)
    ·
      replace g66 := of_decide_eq_true g66
      refine WL.val (dx_move rfl rfl) rfl rfl ?_
      refine WL.val (dx_eql rfl rfl rfl) rfl rfl ?_
      refine WL.val (dx_pick rfl rfl rfl) rfl rfl ?_
      refine WL.val (dx_move rfl rfl) rfl rfl ?_
      refine WL.split 40 rfl (fun g67 => ?_) (fun g67 => ?_)
      ·
        replace g67 := of_decide_eq_true g67
        refine WL.val (dx_move rfl rfl) rfl rfl ?_
        refine WL.val (dx_eql rfl rfl rfl) rfl rfl ?_
        refine WL.val (dx_pick rfl rfl rfl) rfl rfl ?_
        refine WL.val (dx_move rfl rfl) rfl rfl ?_
        refine WL.split 44 rfl (fun g68 => ?_) (fun g68 => ?_)
        ·
          replace g68 := of_decide_eq_true g68
          refine WL.val (dx_loadN rfl ty_agg_27_128 rfl k63.range (by rw [encS_len]; exact (readS_len j37 j38))) rfl rfl ?_
          refine WL.val (dx_build rfl rfl builtB) rfl rfl ?_
          refine WL.val (dx_eqA (K := .u8) (xs := (readS d3.secs d3.loose d3.down 1).1) (ys := zB) rfl Try.underlying27 Try.underlying5 ty_size_5_1 (by kernel_rfl) rfl rfl (readS_len j37 j38) zB_len) rfl rfl ?_
          refine WL.val (dx_pick rfl rfl rfl) rfl rfl ?_
          refine WL.val (dx_assign rfl rfl) rfl rfl ?_
          refine WL.nil ?_
          refine hK64 ?_
          refine WC.ret fun a_ ha_ => ?_
          exact hQ (cv_ret1 rfl (.tmp rfl) (by rw [decide_eq_true d_all.2.2.2.2]) hB ha_)
        ·
          replace g68 := of_decide_eq_false g68
          exact absurd d_all.2.2.2.1 g68
      ·
        replace g67 := of_decide_eq_false g67
        exact absurd d_all.2.2.1 g67
    ·
      replace g66 := of_decide_eq_false g66
      exact absurd d_all.2.1 g66
  ·
    replace g65 := of_decide_eq_false g65
    exact absurd d_all.1 g65

theorem lookN_app {loose : List (Int × List Int)} {p : Int × List Int} {a : Int} : ∀ n, n ≤ loose.length → lookN (loose ++ [p]) a n = lookN loose a n
  | 0, _ => rfl
  | n + 1, h => by
    unfold lookN
    rw [List.getElem?_append_left (by omega), lookN_app n (by omega)]
theorem look_new (loose : List (Int × List Int)) (b : Int) (z : List Int) (a : Int) : lookN (loose ++ [(b, z)]) a (loose ++ [(b, z)]).length = if b = a then some z else lookN loose a loose.length := by
  rw [List.length_append, List.length_cons, List.length_nil, lookN, List.getElem?_append_right (Nat.le_refl _), Nat.sub_self]
  simp only [List.getElem?_cons_zero]
  rw [lookN_app _ (Nat.le_refl _)]
theorem burn_ok {fuse : Int} {down : Bool} (hd : ¬ down = true) (h : (burnS fuse down).2.2 = 0) : (burnS fuse down).2.1 = down := by
  by_cases e : fuse = 0
  · simp [burnS, e] at h
  · by_cases e2 : 0 < fuse <;> simp [burnS, e, e2]
/-- What a write that goes well has done. -/
theorem write_ok {secs : List (List Int)} {loose : List (Int × List Int)} {fuse : Int} {down : Bool} {a : Int} {z : List Int} (h : (writeS secs loose fuse down a z).err = 0) :
    rightD secs loose = true ∧ hasB secs a = true ∧ ¬ down = true ∧ ¬ (loose.length : Int) = 4096 ∧ writeS secs loose fuse down a z = ⟨secs, loose ++ [(a, z)], (burnS fuse down).1, down, 0⟩ := by
  unfold writeS at *
  by_cases h1 : rightD secs loose = false
  · simp [h1] at h
  · rw [if_neg h1] at h ⊢
    by_cases h2 : hasB secs a = false
    · simp [h2] at h
    · rw [if_neg h2] at h ⊢
      by_cases h3 : down = true
      · rw [if_pos h3] at h; simp at h
      · rw [if_neg h3] at h ⊢
        by_cases h4 : (loose.length : Int) = 4096
        · rw [if_pos h4] at h; simp at h
        · rw [if_neg h4] at h ⊢
          by_cases h5 : (burnS fuse down).2.2 = 0
          · rw [if_neg (by simp [h5])]
            exact ⟨by simpa using h1, by simpa using h2, h3, h4, by rw [burn_ok h3 h5]⟩
          · rw [if_pos h5] at h; exact absurd h h5
theorem right_app {secs : List (List Int)} {loose : List (Int × List Int)} {a : Int} {z : List Int} (h : rightD secs loose = true) (hb : hasB secs a = true) (hn : ¬ (loose.length : Int) = 4096) : rightD secs (loose ++ [(a, z)]) = true := by
  unfold rightD at *
  simp only [Bool.and_eq_true, Bool.not_eq_true', Bool.or_eq_false_iff, decide_eq_false_iff_not, List.any_append, List.any_cons, List.any_nil, hb] at h ⊢
  obtain ⟨⟨⟨a1, a2⟩, a3⟩, a4⟩ := h
  refine ⟨⟨⟨a1, a2⟩, ?_⟩, ?_⟩
  · rw [List.length_append, List.length_cons, List.length_nil]; omega
  · simp [a4]
theorem reads_all {secs : List (List Int)} {loose : List (Int × List Int)} {fuse : Int} {down : Bool} {a b : Int} {z : List Int} (h : (writeS secs loose fuse down a z).err = 0) :
    (readS (writeS secs loose fuse down a z).secs (writeS secs loose fuse down a z).loose (writeS secs loose fuse down a z).down a).2 = 0 ∧ (readS (writeS secs loose fuse down a z).secs (writeS secs loose fuse down a z).loose (writeS secs loose fuse down a z).down a).1 = z ∧ (readS (writeS secs loose fuse down a z).secs (writeS secs loose fuse down a z).loose (writeS secs loose fuse down a z).down b).2 = (readS secs loose down b).2 ∧ (a = b ∨ (readS (writeS secs loose fuse down a z).secs (writeS secs loose fuse down a z).loose (writeS secs loose fuse down a z).down b).1 = (readS secs loose down b).1) := by
  obtain ⟨h1, h2, h3, h4, h5⟩ := write_ok h
  have h6 := right_app (z := z) h1 h2 h4
  rw [h5]
  simp only
  have e1 : readS secs (loose ++ [(a, z)]) down a = (z, 0) := by
    unfold readS
    rw [look_new, if_pos rfl]
    simp [h6, h2, h3]
  rw [e1]
  refine ⟨rfl, rfl, ?_, ?_⟩
  · unfold readS
    rw [look_new]
    simp only [h6, h1]
    by_cases hb : hasB secs b = true
    · simp only [hb, h3]
      by_cases e : a = b
      · simp only [if_pos e]
        simp
        cases lookN loose b loose.length <;> rfl
      · simp only [if_neg e]
    · simp [hb]
  · by_cases e : a = b
    · exact .inl e
    · refine .inr ?_
      unfold readS
      rw [look_new, if_neg e]
      simp only [h6, h1]
set_option maxHeartbeats 1000000 in
theorem diskReads_v (secs : List (List Int)) (loose : List (Int × List Int)) (fuse : Int) (down : Bool) (s1 s2 : Value) (a b : Int) (z : List Int) (w : World) (L : List Nat) (hL : LL L w) (h1 : RdF 128 L w s1 (secs.map encS)) (h2 : RdF 129 L w s2 (loose.map encW))  (hL0 : LL L w) (hfu : -9223372036854775808 ≤ fuse ∧ fuse ≤ 9223372036854775807) (hz : z.length = 128) : CV Try.prog 7 [.agg #[s1, s2, .int .i64 fuse, .bool down], .agg #[.int .i64 a, .int .i64 b], .agg (encS z).toArray] w fun v W => v = .bool true := by
  refine cv_enter (N := 74) (f := [(0, .agg #[s1, s2, .int .i64 fuse, .bool down]), (1, .agg #[.int .i64 a, .int .i64 b]), (2, .agg (encS z).toArray)]) Try.func7 rfl rfl rfl rfl fun Q hQ hE => ?_
  have hB := Below.refl w.heap.size w
  have h1m : secs.length ≤ maxLen := by have := h1.len; rwa [List.length_map] at this
  unfold maxLen at h1m
  have h2m : loose.length ≤ maxLen := by have := h2.len; rwa [List.length_map] at this
  unfold maxLen at h2m
  refine WC.seq fun K1 hK1 => ?_
  refine WC.region ?_
  refine WL.get (dx_box rfl rfl rfl) rfl rfl ?_
  rintro _ W2 ⟨rfl, k3, b4, z5⟩
  have l6 := hB.size
  replace h1 := h1.more b4 (Nat.le_refl _)
  replace h2 := h2.more b4 (Nat.le_refl _)
  replace hB := below_then hB b4
  replace hL := LL.more hL z5
  refine WL.get (dx_box rfl rfl rfl) rfl rfl ?_
  rintro _ W7 ⟨rfl, k8, b9, z10⟩
  have n11 : w.heap.size ≠ W2.heap.size := Nat.ne_of_lt k3.lt
  have l12 := hB.size
  replace h1 := h1.more b9 (Nat.le_refl _)
  replace h2 := h2.more b9 (Nat.le_refl _)
  replace k3 := k3.below b9
  replace hB := below_then hB b9
  replace hL := LL.more hL z10
  refine WL.get (dx_box (cs := (encS z)) rfl rfl rfl) rfl rfl ?_
  rintro _ W13 ⟨rfl, k14, b15, z16⟩
  have n17 : w.heap.size ≠ W7.heap.size := Nat.ne_of_lt k3.lt
  have n18 : W2.heap.size ≠ W7.heap.size := Nat.ne_of_lt k8.lt
  have l19 := hB.size
  replace h1 := h1.more b15 (Nat.le_refl _)
  replace h2 := h2.more b15 (Nat.le_refl _)
  replace k3 := k3.below b15
  replace k8 := k8.below b15
  replace hB := below_then hB b15
  replace hL := LL.more hL z16
  refine WL.val (dx_assign rfl rfl) rfl rfl ?_
  refine WL.nil ?_
  refine hK1 ?_
  refine WC.seq fun K20 hK20 => ?_
  refine WC.seq fun K21 hK21 => ?_
  refine WC.region ?_
  refine WL.get (dx_cv rfl Try.func8 rfl rfl rfl (alive_v W13 _ hL hL)) rfl rfl ?_
  rintro _ W23 ⟨rfl, b22⟩
  replace h1 := h1.below b22
  replace h2 := h2.below b22
  replace k3 := k3.below b22
  replace k8 := k8.below b22
  replace k14 := k14.below b22
  replace hB := below_then hB b22
  replace hL := LL.below hL b22
  refine WL.val (dx_not rfl rfl) rfl rfl ?_
  refine WL.nil ?_
  refine hK21 ?_
  refine WC.condF rfl ?_
  refine WC.skip ?_
  refine hK20 ?_
  refine WC.seq fun K24 hK24 => ?_
  refine WC.seq fun K25 hK25 => ?_
  refine WC.region ?_
  refine WL.val (dx_loadN rfl ty_agg_25_4 rfl k3.range rfl) rfl rfl ?_
  refine WL.get (dx_cv rfl Try.func9 rfl rfl rfl (great_v _ _ _ _ _ _ W23 _ hL h1 h2)) rfl rfl ?_
  rintro _ W27 ⟨rfl, b26⟩
  replace h1 := h1.below b26
  replace h2 := h2.below b26
  replace k3 := k3.below b26
  replace k8 := k8.below b26
  replace k14 := k14.below b26
  replace hB := below_then hB b26
  replace hL := LL.below hL b26
  refine WL.nil ?_
  refine hK25 ?_
  refine WC.cond rfl (fun c28 => ?_) (fun c28 => ?_)
  ·
    refine WC.seq fun K29 hK29 => ?_
    refine WC.region ?_
    refine WL.val (dx_assign rfl rfl) rfl rfl ?_
    refine WL.nil ?_
    refine hK29 ?_
    refine WC.ret fun a_ ha_ => ?_
    exact hQ (cv_ret1 rfl (.tmp rfl) rfl hB ha_)
  ·
    refine WC.skip ?_
    refine hK24 ?_
    refine WC.seq fun K30 hK30 => ?_
    refine WC.region ?_
    refine WL.val (dx_loadN rfl ty_agg_25_4 rfl k3.range rfl) rfl rfl ?_
    refine WL.val (dx_idxA (o1 := 0) rfl Try.underlying52 ty_size_3_1 rfl rfl (by omega) rfl) rfl rfl ?_
    refine WL.val (dx_load rfl ty_one_3 rfl (k8.cell (k := 0) rfl)) rfl rfl ?_
    refine WL.val (dx_loadN rfl ty_agg_27_128 rfl k14.range (by rw [encS_len]; exact hz)) rfl rfl ?_
    refine WL.get (dx_cv rfl Try.func11 rfl rfl rfl (write_v secs loose fuse down _ _ a z W27 _ hL h1 h2 hL hfu hz)) rfl rfl ?_
    rintro _ W36 ⟨⟨u31, u32, rfl, j33, j34⟩, b35⟩
    replace h1 := h1.below b35
    replace h2 := h2.below b35
    replace k3 := k3.below b35
    replace k8 := k8.below b35
    replace k14 := k14.below b35
    replace hB := below_then hB b35
    replace hL := LL.below hL b35
    refine WL.val (dx_move rfl rfl) rfl rfl ?_
    refine WL.val (dx_extract rfl rfl rfl) rfl rfl ?_
    refine WL.val (dx_extract rfl rfl rfl) rfl rfl ?_
    refine WL.get (dx_alloc rfl ty_zero_25 rfl) rfl rfl ?_
    rintro _ W37 ⟨rfl, k38, b39, z40⟩
    have n41 : w.heap.size ≠ W36.heap.size := Nat.ne_of_lt k3.lt
    have n42 : W2.heap.size ≠ W36.heap.size := Nat.ne_of_lt k8.lt
    have n43 : W7.heap.size ≠ W36.heap.size := Nat.ne_of_lt k14.lt
    have l44 := hB.size
    replace h1 := h1.more b39 (Nat.le_refl _)
    replace h2 := h2.more b39 (Nat.le_refl _)
    replace j33 := j33.more b39 (Nat.le_refl _)
    replace j34 := j34.more b39 (Nat.le_refl _)
    replace k3 := k3.below b39
    replace k8 := k8.below b39
    replace k14 := k14.below b39
    replace hB := below_then hB b39
    replace hL := LL.more hL z40
    refine WL.do (dx_store (cs' := [u31, u32, .int .i64 ((writeS secs loose fuse down a z).fuse), .bool ((writeS secs loose fuse down a z).down)]) (vs := [u31, u32, .int .i64 ((writeS secs loose fuse down a z).fuse), .bool ((writeS secs loose fuse down a z).down)]) rfl ty_size_25_4 rfl rfl rfl (oc_cons j33.one (oc_cons j34.one (oc_cons rfl (oc_cons rfl oc_nil)))) k38 rfl (Nat.le_of_ble_eq_true rfl) rfl) rfl ?_
    rintro _ W45 ⟨k47, o46⟩
    replace k3 := k3.other o46 n41
    replace k8 := k8.other o46 n42
    replace k14 := k14.other o46 n43
    clear k38
    replace h1 := h1.only o46 (.head _)
    replace h2 := h2.only o46 (.head _)
    replace j33 := j33.only o46 (.head _)
    replace j34 := j34.only o46 (.head _)
    replace hB := o46.below hB l44
    replace hL := LL.only hL o46
    refine WL.val (dx_assign rfl rfl) rfl rfl ?_
    refine WL.nil ?_
    refine hK30 ?_
    refine WC.seq fun K48 hK48 => ?_
    refine WC.seq fun K49 hK49 => ?_
    refine WC.region ?_
    refine WL.val (dx_move rfl rfl) rfl rfl ?_
    refine WL.val (dx_neq rfl rfl rfl) rfl rfl ?_
    refine WL.nil ?_
    refine hK49 ?_
    refine WC.cond rfl (fun c50 => ?_) (fun c50 => ?_)
    ·
      replace c50 := bnot_t c50
      replace c50 := of_decide_eq_false c50
      refine WC.seq fun K51 hK51 => ?_
      refine WC.region ?_
      refine WL.val (dx_assign rfl rfl) rfl rfl ?_
      refine WL.nil ?_
      refine hK51 ?_
      refine WC.ret fun a_ ha_ => ?_
      exact hQ (cv_ret1 rfl (.tmp rfl) rfl hB ha_)
    ·
      replace c50 := bnot_f c50
      replace c50 := of_decide_eq_true c50
      obtain ⟨q1, q2, q3, q4⟩ := reads_all (b := b) c50
      refine WC.skip ?_
      refine hK48 ?_
      refine WC.seq fun K52 hK52 => ?_
      refine WC.region ?_
      refine WL.val (dx_loadN rfl ty_agg_25_4 rfl k47.range rfl) rfl rfl ?_
      refine WL.val (dx_idxA (o1 := 0) rfl Try.underlying52 ty_size_3_1 rfl rfl (by omega) rfl) rfl rfl ?_
      refine WL.val (dx_load rfl ty_one_3 rfl (k8.cell (k := 0) rfl)) rfl rfl ?_
      refine WL.get (dx_cv rfl Try.func13 rfl rfl rfl (read_v ((writeS secs loose fuse down a z).secs) ((writeS secs loose fuse down a z).loose) ((writeS secs loose fuse down a z).fuse) ((writeS secs loose fuse down a z).down) _ _ a W45 _ hL j33 j34)) rfl rfl ?_
      rintro _ W55 ⟨rfl, b54⟩
      replace h1 := h1.below b54
      replace h2 := h2.below b54
      replace j33 := j33.below b54
      replace j34 := j34.below b54
      replace k3 := k3.below b54
      replace k8 := k8.below b54
      replace k14 := k14.below b54
      replace k47 := k47.below b54
      replace hB := below_then hB b54
      replace hL := LL.below hL b54
      refine WL.val (dx_move rfl rfl) rfl rfl ?_
      refine WL.val (dx_extract rfl rfl rfl) rfl rfl ?_
      refine WL.val (dx_extract rfl rfl rfl) rfl rfl ?_
      refine WL.get (dx_alloc (cs := encS z0) rfl ty_zero_27 cells_z0) rfl rfl ?_
      rintro _ W56 ⟨rfl, k57, b58, z59⟩
      have n60 : w.heap.size ≠ W55.heap.size := Nat.ne_of_lt k3.lt
      have n61 : W2.heap.size ≠ W55.heap.size := Nat.ne_of_lt k8.lt
      have n62 : W7.heap.size ≠ W55.heap.size := Nat.ne_of_lt k14.lt
      have n63 : W36.heap.size ≠ W55.heap.size := Nat.ne_of_lt k47.lt
      have l64 := hB.size
      replace h1 := h1.more b58 (Nat.le_refl _)
      replace h2 := h2.more b58 (Nat.le_refl _)
      replace j33 := j33.more b58 (Nat.le_refl _)
      replace j34 := j34.more b58 (Nat.le_refl _)
      replace k3 := k3.below b58
      replace k8 := k8.below b58
      replace k14 := k14.below b58
      replace k47 := k47.below b58
      replace hB := below_then hB b58
      replace hL := LL.more hL z59
      refine WL.do (dx_storeW (vs := (encS ((readS ((writeS secs loose fuse down a z).secs) ((writeS secs loose fuse down a z).loose) ((writeS secs loose fuse down a z).down) a).1))) rfl ty_size_27_128 rfl rfl rfl (oc_S ((readS ((writeS secs loose fuse down a z).secs) ((writeS secs loose fuse down a z).loose) ((writeS secs loose fuse down a z).down) a).1)) k57 (by rw [encS_len]; exact (readS_len j33 j34)) (by rw [encS_len]; exact z0_len)) rfl ?_
      rintro _ W65 ⟨k67, o66⟩
      replace k3 := k3.other o66 n60
      replace k8 := k8.other o66 n61
      replace k14 := k14.other o66 n62
      replace k47 := k47.other o66 n63
      clear k57
      replace h1 := h1.only o66 (.head _)
      replace h2 := h2.only o66 (.head _)
      replace j33 := j33.only o66 (.head _)
      replace j34 := j34.only o66 (.head _)
      replace hB := o66.below hB l64
      replace hL := LL.only hL o66
      refine WL.val (dx_assign rfl rfl) rfl rfl ?_
      refine WL.nil ?_
      refine hK52 ?_
      refine WC.seq fun K68 hK68 => ?_
      refine WC.region ?_
      refine WL.val (dx_loadN rfl ty_agg_25_4 rfl k47.range rfl) rfl rfl ?_
      refine WL.val (dx_idxA (o1 := 1) rfl Try.underlying52 ty_size_3_1 rfl rfl (by omega) rfl) rfl rfl ?_
      refine WL.val (dx_load rfl ty_one_3 rfl (k8.cell (k := 1) rfl)) rfl rfl ?_
      refine WL.get (dx_cv rfl Try.func13 rfl rfl rfl (read_v ((writeS secs loose fuse down a z).secs) ((writeS secs loose fuse down a z).loose) ((writeS secs loose fuse down a z).fuse) ((writeS secs loose fuse down a z).down) _ _ b W65 _ hL j33 j34)) rfl rfl ?_
      rintro _ W71 ⟨rfl, b70⟩
      replace h1 := h1.below b70
      replace h2 := h2.below b70
      replace j33 := j33.below b70
      replace j34 := j34.below b70
      replace k3 := k3.below b70
      replace k8 := k8.below b70
      replace k14 := k14.below b70
      replace k47 := k47.below b70
      replace k67 := k67.below b70
      replace hB := below_then hB b70
      replace hL := LL.below hL b70
      refine WL.val (dx_move rfl rfl) rfl rfl ?_
      refine WL.val (dx_extract rfl rfl rfl) rfl rfl ?_
      refine WL.val (dx_extract rfl rfl rfl) rfl rfl ?_
      refine WL.get (dx_alloc (cs := encS z0) rfl ty_zero_27 cells_z0) rfl rfl ?_
      rintro _ W72 ⟨rfl, k73, b74, z75⟩
      have n76 : w.heap.size ≠ W71.heap.size := Nat.ne_of_lt k3.lt
      have n77 : W2.heap.size ≠ W71.heap.size := Nat.ne_of_lt k8.lt
      have n78 : W7.heap.size ≠ W71.heap.size := Nat.ne_of_lt k14.lt
      have n79 : W36.heap.size ≠ W71.heap.size := Nat.ne_of_lt k47.lt
      have n80 : W55.heap.size ≠ W71.heap.size := Nat.ne_of_lt k67.lt
      have l81 := hB.size
      replace h1 := h1.more b74 (Nat.le_refl _)
      replace h2 := h2.more b74 (Nat.le_refl _)
      replace j33 := j33.more b74 (Nat.le_refl _)
      replace j34 := j34.more b74 (Nat.le_refl _)
      replace k3 := k3.below b74
      replace k8 := k8.below b74
      replace k14 := k14.below b74
      replace k47 := k47.below b74
      replace k67 := k67.below b74
      replace hB := below_then hB b74
      replace hL := LL.more hL z75
      refine WL.do (dx_storeW (vs := (encS ((readS ((writeS secs loose fuse down a z).secs) ((writeS secs loose fuse down a z).loose) ((writeS secs loose fuse down a z).down) b).1))) rfl ty_size_27_128 rfl rfl rfl (oc_S ((readS ((writeS secs loose fuse down a z).secs) ((writeS secs loose fuse down a z).loose) ((writeS secs loose fuse down a z).down) b).1)) k73 (by rw [encS_len]; exact (readS_len j33 j34)) (by rw [encS_len]; exact z0_len)) rfl ?_
      rintro _ W82 ⟨k84, o83⟩
      replace k3 := k3.other o83 n76
      replace k8 := k8.other o83 n77
      replace k14 := k14.other o83 n78
      replace k47 := k47.other o83 n79
      replace k67 := k67.other o83 n80
      clear k73
      replace h1 := h1.only o83 (.head _)
      replace h2 := h2.only o83 (.head _)
      replace j33 := j33.only o83 (.head _)
      replace j34 := j34.only o83 (.head _)
      replace hB := o83.below hB l81
      replace hL := LL.only hL o83
      refine WL.val (dx_assign rfl rfl) rfl rfl ?_
      refine WL.nil ?_
      refine hK68 ?_
      refine WC.seq fun K85 hK85 => ?_
      refine WC.region ?_
      refine WL.val (dx_loadN rfl ty_agg_25_4 rfl k3.range rfl) rfl rfl ?_
      refine WL.val (dx_idxA (o1 := 1) rfl Try.underlying52 ty_size_3_1 rfl rfl (by omega) rfl) rfl rfl ?_
      refine WL.val (dx_load rfl ty_one_3 rfl (k8.cell (k := 1) rfl)) rfl rfl ?_
      refine WL.get (dx_cv rfl Try.func13 rfl rfl rfl (read_v secs loose fuse down _ _ b W82 _ hL h1 h2)) rfl rfl ?_
      rintro _ W88 ⟨rfl, b87⟩
      replace h1 := h1.below b87
      replace h2 := h2.below b87
      replace j33 := j33.below b87
      replace j34 := j34.below b87
      replace k3 := k3.below b87
      replace k8 := k8.below b87
      replace k14 := k14.below b87
      replace k47 := k47.below b87
      replace k67 := k67.below b87
      replace k84 := k84.below b87
      replace hB := below_then hB b87
      replace hL := LL.below hL b87
      refine WL.val (dx_move rfl rfl) rfl rfl ?_
      refine WL.val (dx_extract rfl rfl rfl) rfl rfl ?_
      refine WL.val (dx_extract rfl rfl rfl) rfl rfl ?_
      refine WL.get (dx_alloc (cs := encS z0) rfl ty_zero_27 cells_z0) rfl rfl ?_
      rintro _ W89 ⟨rfl, k90, b91, z92⟩
      have n93 : w.heap.size ≠ W88.heap.size := Nat.ne_of_lt k3.lt
      have n94 : W2.heap.size ≠ W88.heap.size := Nat.ne_of_lt k8.lt
      have n95 : W7.heap.size ≠ W88.heap.size := Nat.ne_of_lt k14.lt
      have n96 : W36.heap.size ≠ W88.heap.size := Nat.ne_of_lt k47.lt
      have n97 : W55.heap.size ≠ W88.heap.size := Nat.ne_of_lt k67.lt
      have n98 : W71.heap.size ≠ W88.heap.size := Nat.ne_of_lt k84.lt
      have l99 := hB.size
      replace h1 := h1.more b91 (Nat.le_refl _)
      replace h2 := h2.more b91 (Nat.le_refl _)
      replace j33 := j33.more b91 (Nat.le_refl _)
      replace j34 := j34.more b91 (Nat.le_refl _)
      replace k3 := k3.below b91
      replace k8 := k8.below b91
      replace k14 := k14.below b91
      replace k47 := k47.below b91
      replace k67 := k67.below b91
      replace k84 := k84.below b91
      replace hB := below_then hB b91
      replace hL := LL.more hL z92
      refine WL.do (dx_storeW (vs := (encS ((readS secs loose down b).1))) rfl ty_size_27_128 rfl rfl rfl (oc_S ((readS secs loose down b).1)) k90 (by rw [encS_len]; exact (readS_len h1 h2)) (by rw [encS_len]; exact z0_len)) rfl ?_
      rintro _ W100 ⟨k102, o101⟩
      replace k3 := k3.other o101 n93
      replace k8 := k8.other o101 n94
      replace k14 := k14.other o101 n95
      replace k47 := k47.other o101 n96
      replace k67 := k67.other o101 n97
      replace k84 := k84.other o101 n98
      clear k90
      replace h1 := h1.only o101 (.head _)
      replace h2 := h2.only o101 (.head _)
      replace j33 := j33.only o101 (.head _)
      replace j34 := j34.only o101 (.head _)
      replace hB := o101.below hB l99
      replace hL := LL.only hL o101
      refine WL.val (dx_assign rfl rfl) rfl rfl ?_
      refine WL.nil ?_
      refine hK85 ?_
      refine WC.seq fun K103 hK103 => ?_
      refine WC.region ?_
      refine WL.val (dx_move rfl rfl) rfl rfl ?_
      refine WL.val (dx_eql rfl rfl rfl) rfl rfl ?_
      refine WL.val (dx_move rfl rfl) rfl rfl ?_
      refine WL.split 52 rfl (fun g104 => ?_) (fun g104 => ?_)
      ·
        replace g104 := of_decide_eq_true g104
        refine WL.val (dx_loadN rfl ty_agg_27_128 rfl k67.range (by rw [encS_len]; exact (readS_len j33 j34))) rfl rfl ?_
        refine WL.val (dx_loadN rfl ty_agg_27_128 rfl k14.range (by rw [encS_len]; exact hz)) rfl rfl ?_
        refine WL.val (dx_eqA (K := .u8) (xs := (readS ((writeS secs loose fuse down a z).secs) ((writeS secs loose fuse down a z).loose) ((writeS secs loose fuse down a z).down) a).1) (ys := z) rfl Try.underlying27 Try.underlying5 ty_size_5_1 (by kernel_rfl) rfl rfl (readS_len j33 j34) hz) rfl rfl ?_
        refine WL.val (dx_pick rfl rfl rfl) rfl rfl ?_
        refine WL.val (dx_move rfl rfl) rfl rfl ?_
        refine WL.split 57 rfl (fun g105 => ?_) (fun g105 => ?_)
        ·
          replace g105 := of_decide_eq_true g105
          refine WL.val (dx_move rfl rfl) rfl rfl ?_
          refine WL.val (dx_move rfl rfl) rfl rfl ?_
          refine WL.val (dx_eql rfl rfl rfl) rfl rfl ?_
          refine WL.val (dx_pick rfl rfl rfl) rfl rfl ?_
          refine WL.val (dx_move rfl rfl) rfl rfl ?_
          refine WL.split 62 rfl (fun g106 => ?_) (fun g106 => ?_)
          ·
            replace g106 := of_decide_eq_true g106
            refine WL.val (dx_idxA (o1 := 0) rfl Try.underlying52 ty_size_3_1 rfl rfl (by omega) rfl) rfl rfl ?_
            refine WL.val (dx_load rfl ty_one_3 rfl (k8.cell (k := 0) rfl)) rfl rfl ?_
            refine WL.val (dx_idxA (o1 := 1) rfl Try.underlying52 ty_size_3_1 rfl rfl (by omega) rfl) rfl rfl ?_
            refine WL.val (dx_load rfl ty_one_3 rfl (k8.cell (k := 1) rfl)) rfl rfl ?_
            refine WL.val (dx_eql rfl rfl rfl) rfl rfl ?_
            refine WL.val (dx_move rfl rfl) rfl rfl ?_
            refine WL.split 68 rfl (fun g107 => ?_) (fun g107 => ?_)
            ·
              replace g107 := of_decide_eq_true g107
              refine WL.off rfl rfl rfl ?_
              refine WL.off rfl rfl rfl ?_
              refine WL.off rfl rfl rfl ?_
              refine WL.val (dx_pick rfl rfl rfl) rfl rfl ?_
              refine WL.val (dx_pick rfl rfl rfl) rfl rfl ?_
              refine WL.val (dx_assign rfl rfl) rfl rfl ?_
              refine WL.nil ?_
              refine hK103 ?_
              refine WC.ret fun a_ ha_ => ?_
              exact hQ (cv_ret1 rfl (.tmp rfl) rfl hB ha_)
            ·
              replace g107 := of_decide_eq_false g107
              refine WL.val (dx_loadN rfl ty_agg_27_128 rfl k84.range (by rw [encS_len]; exact (readS_len j33 j34))) rfl rfl ?_
              refine WL.val (dx_loadN rfl ty_agg_27_128 rfl k102.range (by rw [encS_len]; exact (readS_len h1 h2))) rfl rfl ?_
              refine WL.val (dx_eqA (K := .u8) (xs := (readS ((writeS secs loose fuse down a z).secs) ((writeS secs loose fuse down a z).loose) ((writeS secs loose fuse down a z).down) b).1) (ys := (readS secs loose down b).1) rfl Try.underlying27 Try.underlying5 ty_size_5_1 (by kernel_rfl) rfl rfl (readS_len j33 j34) (readS_len h1 h2)) rfl rfl ?_
              refine WL.val (dx_pick rfl rfl rfl) rfl rfl ?_
              refine WL.val (dx_pick rfl rfl rfl) rfl rfl ?_
              refine WL.val (dx_assign rfl rfl) rfl rfl ?_
              refine WL.nil ?_
              refine hK103 ?_
              refine WC.ret fun a_ ha_ => ?_
              exact hQ (cv_ret1 rfl (.tmp rfl) (by rw [decide_eq_true (q4.resolve_left g107)]) hB ha_)
          ·
            replace g106 := of_decide_eq_false g106
            refine WL.off rfl rfl rfl ?_
            refine WL.off rfl rfl rfl ?_
            refine WL.off rfl rfl rfl ?_
            refine WL.off rfl rfl rfl ?_
            refine WL.off rfl rfl rfl ?_
            refine WL.off rfl rfl rfl ?_
            refine WL.off rfl rfl rfl ?_
            refine WL.off rfl rfl rfl ?_
            refine WL.off rfl rfl rfl ?_
            refine WL.off rfl rfl rfl ?_
            refine WL.val (dx_pick rfl rfl rfl) rfl rfl ?_
            refine WL.val (dx_assign rfl rfl) rfl rfl ?_
            refine WL.nil ?_
            refine hK103 ?_
            refine WC.ret fun a_ ha_ => ?_
            exact hQ (cv_ret1 rfl (.tmp rfl) (by first | exact absurd q1 g106 | exact absurd q2 g106 | exact absurd q3 g106) hB ha_)
        ·
          replace g105 := of_decide_eq_false g105
          refine WL.off rfl rfl rfl ?_
          refine WL.off rfl rfl rfl ?_
          refine WL.off rfl rfl rfl ?_
          refine WL.val (dx_pick rfl rfl rfl) rfl rfl ?_
          refine WL.val (dx_move rfl rfl) rfl rfl ?_
          refine WL.off rfl rfl rfl ?_
          refine WL.off rfl rfl rfl ?_
          refine WL.off rfl rfl rfl ?_
          refine WL.off rfl rfl rfl ?_
          refine WL.off rfl rfl rfl ?_
          refine WL.off rfl rfl rfl ?_
          refine WL.off rfl rfl rfl ?_
          refine WL.off rfl rfl rfl ?_
          refine WL.off rfl rfl rfl ?_
          refine WL.off rfl rfl rfl ?_
          refine WL.val (dx_pick rfl rfl rfl) rfl rfl ?_
          refine WL.val (dx_assign rfl rfl) rfl rfl ?_
          refine WL.nil ?_
          refine hK103 ?_
          refine WC.ret fun a_ ha_ => ?_
          exact hQ (cv_ret1 rfl (.tmp rfl) (by first | exact absurd q1 g105 | exact absurd q2 g105 | exact absurd q3 g105) hB ha_)
      ·
        replace g104 := of_decide_eq_false g104
        refine WL.off rfl rfl rfl ?_
        refine WL.off rfl rfl rfl ?_
        refine WL.off rfl rfl rfl ?_
        refine WL.val (dx_pick rfl rfl rfl) rfl rfl ?_
        refine WL.val (dx_move rfl rfl) rfl rfl ?_
        refine WL.off rfl rfl rfl ?_
        refine WL.off rfl rfl rfl ?_
        refine WL.off rfl rfl rfl ?_
        refine WL.val (dx_pick rfl rfl rfl) rfl rfl ?_
        refine WL.val (dx_move rfl rfl) rfl rfl ?_
        refine WL.off rfl rfl rfl ?_
        refine WL.off rfl rfl rfl ?_
        refine WL.off rfl rfl rfl ?_
        refine WL.off rfl rfl rfl ?_
        refine WL.off rfl rfl rfl ?_
        refine WL.off rfl rfl rfl ?_
        refine WL.off rfl rfl rfl ?_
        refine WL.off rfl rfl rfl ?_
        refine WL.off rfl rfl rfl ?_
        refine WL.off rfl rfl rfl ?_
        refine WL.val (dx_pick rfl rfl rfl) rfl rfl ?_
        refine WL.val (dx_assign rfl rfl) rfl rfl ?_
        refine WL.nil ?_
        refine hK103 ?_
        refine WC.ret fun a_ ha_ => ?_
        exact hQ (cv_ret1 rfl (.tmp rfl) (by first | exact absurd q1 g104 | exact absurd q2 g104 | exact absurd q3 g104) hB ha_)

end Go.Proofs.Ythefddclefimoaa
