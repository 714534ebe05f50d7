/- The laws of layer 17, walked. -/
import Derived.Test.YthefddclefimoaaDoorAccM
import Derived.Test.YthefddclefimoaaDoorArv
namespace Go.Proofs.YthefddclefimoaaDoor
open Go.RowKit
set_option linter.unusedVariables false
set_option linter.unusedSimpArgs false
set_option maxRecDepth 8000

theorem who_as {xs ys : List UserX} {tok : ByteArray} {sv : Value} {w : World} {L : List Nat} (hr : rightU ys = rightU xs) (hv : viewU ys tok = viewU xs tok) (hL : LL L w) (h1 : RdF 3 L w sv (ys.map encU)) (h2 : AgU L w ys) (hM : MaxL L w) : CV Tryd.prog 12 [sv, .string tok] w fun v W => v = .tuple #[.string (whoU xs tok).1, .int .i64 (whoU xs tok).2] := by
  rw [← (same_view hr hv []).1]
  exact whose_v ys tok sv w L hL h1 h2 hM
theorem agd_as {xs ys : List UserX} {tok : ByteArray} {ts : List ByteArray} {sv tv : Value} {w : World} {L : List Nat} (hr : rightU ys = rightU xs) (hv : viewU ys tok = viewU xs tok) (hL : LL L w) (h1 : RdF 3 L w sv (ys.map encU)) (h2 : AgU L w ys) (hM : MaxL L w) (h3 : RdF 1 L w tv (ts.map encT)) : CV Tryd.prog 13 [sv, .string tok, tv] w fun v W => v = .int .i64 (agdU xs tok ts) := by
  rw [← (same_view hr hv ts).2]
  exact agreed_v ys tok ts sv tv w L hL h1 h2 hM h3
-- the fixed fact
abbrev tT : ByteArray := { data := #[116] }
abbrev mA : ByteArray := { data := #[64, 97, 58, 104] }
abbrev pV : ByteArray := { data := #[112, 114, 105, 118, 97, 99, 121] }
theorem al_w : wordB tT = true ∧ wordB pV = true ∧ userB mA = true := by decide +kernel
theorem al_r1 : regE [] tT mA = 0 := by
  unfold regE
  rw [if_pos ⟨rfl, al_w.1, al_w.2.2⟩]
  rfl
theorem al_r2 : regU [] tT mA = [newU tT mA] := by unfold regU; rw [if_pos al_r1]; rfl
theorem al_r3 : rightU [newU tT mA] = true := by rw [← al_r2, reg_right]; rfl
theorem al_v1 (u : UserX) (h : u.1 = tT) : viewU [u] tT = some (u.2.1, u.2.2.2) := by
  unfold viewU
  rw [List.find?_cons, show tokP tT u = true by simp [h]]
  rfl
theorem al_f : findU [newU tT mA] tT = (0, 0) := by
  unfold findU
  rw [if_pos al_r3]
  simp [idxX, newU]
theorem al_ag : agL [] [pV] = [pV] := by simp [agL, sortT, onceT, Lib.compact, Lib.compactUpTo, Lib.keeps]
theorem al_g1 : agrE [newU tT mA] tT [pV] = 0 := by
  unfold agrE
  rw [al_f, if_pos rfl, if_pos (by simp [al_w.2.1])]
  show (if 4 < ((agL [] [pV]).length : Int) then (10 : Int) else 0) = 0
  rw [al_ag]
  rfl
theorem al_g2 (v : Value) : agrU [newU tT mA] tT [pV] v = [(tT, mA, v, [pV])] := by
  unfold agrU
  rw [if_pos al_g1, al_f]
  show [(tT, mA, v, agL [] [pV])] = _
  rw [al_ag]
theorem al_a1 : agdU [newU tT mA] tT [pV] = 13 := by
  rw [agdU_view, if_pos al_r3, al_v1 _ rfl]
  rfl
theorem al_r4 (v : Value) : rightU [(tT, mA, v, [pV])] = true := by rw [← al_g2 v, agr_right]; exact al_r3
theorem al_a2 (v : Value) : agdU [(tT, mA, v, [pV])] tT [pV] = 0 := by
  rw [agdU_view, if_pos (al_r4 v), al_v1 _ rfl]
  simp [agdV]
theorem al_h (v : Value) : whoU [(tT, mA, v, [pV])] tT = (mA, 0) := by
  rw [whoU_view, if_pos (al_r4 v), al_v1 _ rfl]
  rfl
def greatN : Unit := ()
set_option maxHeartbeats 1000000 in
theorem great_v (xs : List UserX) (sv : Value) (w : World) (L : List Nat) (hL : LL L w) (h1 : RdF 3 L w sv (xs.map encU)) (h2 : AgU L w xs) : CV Tryd.prog 8 [sv] w fun v W => ∃ b : Bool, v = .bool b := by
  refine cv_enter (N := 27) (f := [(0, sv)]) Tryd.func8 rfl rfl rfl rfl fun Q hQ hE => ?_
  have hB := Below.refl w.heap.size w
  have h1m : xs.length ≤ maxLen := by have := h1.len; rwa [List.length_map] at this
  unfold maxLen at h1m
  refine WC.seq fun K1 hK1 => ?_
  refine WC.region ?_
  refine WL.val (dx_assign rfl rfl) rfl rfl ?_
  refine WL.nil ?_
  refine hK1 ?_
  refine WC.seq fun K2 hK2 => ?_
  refine WC.region ?_
  refine WL.val (dx_move rfl rfl) rfl rfl ?_
  refine WL.val (dx_lenX rfl ty_slice_22 rfl h1) rfl rfl ?_
  refine WL.val (dx_assign rfl rfl) rfl rfl ?_
  refine WL.nil ?_
  refine hK2 ?_
  refine WC.seq fun K3 hK3 => ?_
  refine WC.seq fun K4 hK4 => ?_
  refine WC.region ?_
  refine WL.val (dx_assign rfl rfl) rfl rfl ?_
  refine WL.nil ?_
  refine hK4 ?_
  refine WC.block ?_
  refine WC.loop2 (fun (i : Nat) (n : Int) => [(0, sv), (4, .int .i64 (i : Int)), (3, .int .i64 n)]) (fun (i : Nat) (n : Int) W => i ≤ xs.length ∧ Below w.heap.size w W ∧ LL (L) W ∧ RdF 3 (L) W sv (xs.map encU) ∧ AgU (L) W xs) (fun (i : Nat) (n : Int) => xs.length - i) 0 (xs.length : Int) (by repeat first | exact trivial | exact And.intro rfl trivial | refine And.intro rfl ?_ | refine And.intro (congrArg (fun z : Int => some (Value.int .i64 z)) (by omega)) ?_) ⟨Nat.zero_le _, hB, hL, h1, h2⟩ ?_
  clear h1 h2 hB hL
  rintro K5 i n W6 ⟨hi, hB, hL, h1, h2⟩ hK5
  refine WC.seq fun K7 hK7 => ?_
  refine WC.seq fun K8 hK8 => ?_
  refine WC.region ?_
  refine WL.val (dx_move rfl rfl) rfl rfl ?_
  refine WL.val (dx_move rfl rfl) rfl rfl ?_
  refine WL.val (dx_lenX rfl ty_slice_22 rfl h1) rfl rfl ?_
  refine WL.val (dx_lss rfl rfl rfl) rfl rfl ?_
  refine WL.val (dx_move rfl rfl) rfl rfl ?_
  refine WL.split 11 rfl (fun g9 => ?_) (fun g9 => ?_)
  ·
    replace g9 := of_decide_eq_true g9
    refine WL.val (dx_move rfl rfl) rfl rfl ?_
    refine WL.val (dx_leq rfl rfl rfl) rfl rfl ?_
    refine WL.val (dx_pick rfl rfl rfl) rfl rfl ?_
    refine WL.nil ?_
    refine hK8 ?_
    refine WC.cond rfl (fun c10 => ?_) (fun c10 => ?_)
    ·
      replace c10 := of_decide_eq_true c10
      refine WC.skip ?_
      refine hK7 ?_
      refine WC.seq fun K11 hK11 => ?_
      refine WC.block ?_
      refine WC.region ?_
      refine WL.val (dx_move rfl rfl) rfl rfl ?_
      refine WL.val (dx_move rfl rfl) rfl rfl ?_
      refine WL.val (dx_move rfl rfl) rfl rfl ?_
      obtain ⟨r12, e13⟩ : ∃ x, xs[i]? = some x := ⟨_, List.getElem?_eq_getElem (by omega)⟩
      refine WL.get (dx_idxF i rfl ty_slice_22 rfl rfl h1 (by omega) (at_mapX e13)) rfl rfl ?_
      rintro u14 _ ⟨rfl, p15⟩
      refine WL.get (dx_fldP 1 rfl ty_fld_57_2_2 rfl p15 (cs' := [r12.2.2.1]) rfl (Nat.succ_pos _)) rfl rfl ?_
      rintro u16 _ ⟨rfl, p17⟩
      refine WL.val (dx_loadP rfl ty_one_55 rfl p17) rfl rfl ?_
      refine WL.val (dx_lenX rfl ty_slice_55 rfl (h2 r12 (List.mem_of_getElem? e13))) rfl rfl ?_
      refine WL.val (dx_add (r := IntKind.i64.wrap _) rfl rfl rfl rfl) rfl rfl ?_
      refine WL.val (dx_assign rfl rfl) rfl rfl ?_
      refine WL.nil ?_
      refine hK11 ?_
      refine WC.region ?_
      refine WL.val (dx_move rfl rfl) rfl rfl ?_
      refine WL.val (dx_add (r := (i : Int) + 1) rfl rfl rfl (wrap64_id (by omega))) rfl rfl ?_
      refine WL.val (dx_assign rfl rfl) rfl rfl ?_
      refine WL.nil ?_
      exact hK5 (i + 1) (IntKind.i64.wrap (n + (r12.2.2.2.length : Int))) ⟨(by omega), hB, hL, h1, h2⟩ (by omega) (by repeat first | exact trivial | exact And.intro rfl trivial | refine And.intro rfl ?_ | refine And.intro (congrArg (fun z : Int => some (Value.int .i64 z)) (by omega)) ?_)
    ·
      replace c10 := of_decide_eq_false c10
      refine WC.exit ?_
      refine hK3 ?_
      refine WC.seq fun K18 hK18 => ?_
      refine WC.region ?_
      refine WL.val (dx_move rfl rfl) rfl rfl ?_
      refine WL.val (dx_gtr rfl rfl rfl) rfl rfl ?_
      refine WL.val (dx_assign rfl rfl) rfl rfl ?_
      refine WL.nil ?_
      refine hK18 ?_
      refine WC.ret fun a_ ha_ => ?_
      exact hQ (cv_ret1 rfl (.tmp rfl) ⟨_, rfl⟩ hB ha_)
  ·
    replace g9 := of_decide_eq_false g9
    refine WL.off rfl rfl rfl ?_
    refine WL.off rfl rfl rfl ?_
    refine WL.val (dx_pick rfl rfl rfl) rfl rfl ?_
    refine WL.nil ?_
    refine hK8 ?_
    refine WC.condF rfl ?_
    refine WC.exit ?_
    refine hK3 ?_
    refine WC.seq fun K19 hK19 => ?_
    refine WC.region ?_
    refine WL.val (dx_move rfl rfl) rfl rfl ?_
    refine WL.val (dx_gtr rfl rfl rfl) rfl rfl ?_
    refine WL.val (dx_assign rfl rfl) rfl rfl ?_
    refine WL.nil ?_
    refine hK19 ?_
    refine WC.ret fun a_ ha_ => ?_
    exact hQ (cv_ret1 rfl (.tmp rfl) ⟨_, rfl⟩ hB ha_)

set_option maxHeartbeats 1000000 in
theorem alive17_v  (w : World) (L : List Nat) (hL : LL L w) (hM : MaxL L w) : CV Tryd.prog 7 [] w fun v W => v = .bool true := by
  refine cv_enter (N := 50) (f := []) Tryd.func7 rfl rfl rfl rfl fun Q hQ hE => ?_
  have hB := Below.refl w.heap.size w
  refine WC.seq fun K1 hK1 => ?_
  refine WC.region ?_
  refine WL.val (dx_assign rfl rfl) rfl rfl ?_
  refine WL.nil ?_
  refine hK1 ?_
  refine WC.seq fun K2 hK2 => ?_
  refine WC.region ?_
  refine WL.get (dx_cv rfl Tryd.func11 rfl rfl rfl ((show CV _ _ [_, _, _] _ (fun v W => ∃ s2, v = .tuple #[s2, .int .i64 0] ∧ RdF 3 (L) W s2 ([newU tT mA].map encU) ∧ AgU (L) W [newU tT mA]) from by have := register_v [] tT mA (.slice none 0 0) w (L) hL (RdF.nil (by decide)) (fun u hu => by cases hu) hM; rw [al_r1, al_r2] at this; exact this))) rfl rfl ?_
  rintro _ W7 ⟨⟨u3, rfl, j4, j5⟩, b6⟩
  replace hM := hM.below b6
  replace hB := below_then hB b6
  replace hL := LL.below hL b6
  refine WL.val (dx_move rfl rfl) rfl rfl ?_
  refine WL.val (dx_extract rfl rfl rfl) rfl rfl ?_
  refine WL.val (dx_extract rfl rfl rfl) rfl rfl ?_
  refine WL.val (dx_assign rfl rfl) rfl rfl ?_
  refine WL.val (dx_assign rfl rfl) rfl rfl ?_
  refine WL.nil ?_
  refine hK2 ?_
  refine WC.seq fun K8 hK8 => ?_
  refine WC.region ?_
  refine WL.val (dx_move rfl rfl) rfl rfl ?_
  refine WL.get (dx_lit1 (r := [.string ({ data := #[112, 114, 105, 118, 97, 99, 121] })]) rfl ty_ap_55 (by decide) (by decide) rfl rfl rfl) rfl rfl ?_
  rintro u9 W10 ⟨k11, b12, z13⟩
  have h14 : RdF 1 (L) W10 u9 ([{ data := #[112, 114, 105, 118, 97, 99, 121] }].map encT) := k11.notin hL (Nat.le_refl _)
  replace hM := hM.below b12
  replace j4 := j4.below b12
  replace j5 := j5.below b12
  replace hB := below_then hB b12
  replace hL := LL.below hL b12
  refine WL.get (dx_cv rfl Tryd.func13 rfl rfl rfl ((show CV _ _ [_, _, _] _ (fun v W => v = .int .i64 13) from by have := agreed_v [newU tT mA] tT [pV] _ _ W10 _ hL j4 j5 hM h14; rw [al_a1] at this; exact this))) rfl rfl ?_
  rintro _ W16 ⟨rfl, b15⟩
  replace hM := hM.below b15
  replace j4 := j4.below b15
  replace j5 := j5.below b15
  replace h14 := h14.below b15
  replace hB := below_then hB b15
  replace hL := LL.below hL b15
  refine WL.val (dx_assign rfl rfl) rfl rfl ?_
  refine WL.nil ?_
  refine hK8 ?_
  refine WC.seq fun K17 hK17 => ?_
  refine WC.region ?_
  refine WL.val (dx_move rfl rfl) rfl rfl ?_
  refine WL.get (dx_lit1 (r := [.string ({ data := #[112, 114, 105, 118, 97, 99, 121] })]) rfl ty_ap_55 (by decide) (by decide) rfl rfl rfl) rfl rfl ?_
  rintro u18 W19 ⟨k20, b21, z22⟩
  have h23 : RdF 1 (L) W19 u18 ([{ data := #[112, 114, 105, 118, 97, 99, 121] }].map encT) := k20.notin hL (Nat.le_refl _)
  replace hM := hM.below b21
  replace j4 := j4.below b21
  replace j5 := j5.below b21
  replace h14 := h14.below b21
  replace hB := below_then hB b21
  replace hL := LL.below hL b21
  refine WL.get (dx_cv rfl Tryd.func9 rfl rfl rfl ((show CV _ _ [_, _, _] _ (fun v W => ∃ s2 av, v = .tuple #[s2, .int .i64 0] ∧ RdF 3 (L) W s2 ([((tT, mA, av, [pV]) : UserX)].map encU) ∧ AgU (L) W [((tT, mA, av, [pV]) : UserX)]) from by have := agree_v [newU tT mA] tT [pV] _ _ W19 _ hL j4 j5 hM h23 (by simp); rw [al_g1] at this; simp only [al_g2] at this; exact this))) rfl rfl ?_
  rintro _ W30 ⟨⟨u24, av27, rfl, j25, j26⟩, b29⟩
  replace hM := hM.below b29
  replace j4 := j4.below b29
  replace j5 := j5.below b29
  replace h14 := h14.below b29
  replace h23 := h23.below b29
  replace hB := below_then hB b29
  replace hL := LL.below hL b29
  refine WL.val (dx_move rfl rfl) rfl rfl ?_
  refine WL.val (dx_extract rfl rfl rfl) rfl rfl ?_
  refine WL.val (dx_extract rfl rfl rfl) rfl rfl ?_
  refine WL.val (dx_assign rfl rfl) rfl rfl ?_
  refine WL.val (dx_assign rfl rfl) rfl rfl ?_
  refine WL.nil ?_
  refine hK17 ?_
  refine WC.seq fun K31 hK31 => ?_
  refine WC.region ?_
  refine WL.val (dx_move rfl rfl) rfl rfl ?_
  refine WL.get (dx_cv rfl Tryd.func12 rfl rfl rfl ((show CV _ _ [_, _] _ (fun v W => v = .tuple #[.string mA, .int .i64 0]) from by have := whose_v [((tT, mA, av27, [pV]) : UserX)] tT _ W30 _ hL j25 j26 hM; rw [al_h av27] at this; exact this))) rfl rfl ?_
  rintro _ W33 ⟨rfl, b32⟩
  replace hM := hM.below b32
  replace j4 := j4.below b32
  replace j5 := j5.below b32
  replace h14 := h14.below b32
  replace h23 := h23.below b32
  replace j25 := j25.below b32
  replace j26 := j26.below b32
  replace hB := below_then hB b32
  replace hL := LL.below hL b32
  refine WL.val (dx_move rfl rfl) rfl rfl ?_
  refine WL.val (dx_extract rfl rfl rfl) rfl rfl ?_
  refine WL.val (dx_extract rfl rfl rfl) rfl rfl ?_
  refine WL.val (dx_assign rfl rfl) rfl rfl ?_
  refine WL.val (dx_assign rfl rfl) rfl rfl ?_
  refine WL.nil ?_
  refine hK31 ?_
  refine WC.seq fun K34 hK34 => ?_
  refine WC.region ?_
  refine WL.val (dx_move rfl rfl) rfl rfl ?_
  refine WL.val (dx_eql rfl rfl rfl) rfl rfl ?_
  refine WL.val (dx_move rfl rfl) rfl rfl ?_
  refine WL.val (dx_move rfl rfl) rfl rfl ?_
  refine WL.val (dx_eql rfl rfl rfl) rfl rfl ?_
  refine WL.val (dx_pick rfl rfl rfl) rfl rfl ?_
  refine WL.val (dx_move rfl rfl) rfl rfl ?_
  refine WL.val (dx_move rfl rfl) rfl rfl ?_
  refine WL.val (dx_eql rfl rfl rfl) rfl rfl ?_
  refine WL.val (dx_pick rfl rfl rfl) rfl rfl ?_
  refine WL.val (dx_move rfl rfl) rfl rfl ?_
  refine WL.val (dx_move rfl rfl) rfl rfl ?_
  refine WL.val (dx_eql rfl rfl rfl) rfl rfl ?_
  refine WL.val (dx_pick rfl rfl rfl) rfl rfl ?_
  refine WL.val (dx_move rfl rfl) rfl rfl ?_
  refine WL.val (dx_move rfl rfl) rfl rfl ?_
  refine WL.val (dx_eqlT rfl rfl rfl) rfl rfl ?_
  refine WL.val (dx_pick rfl rfl rfl) rfl rfl ?_
  refine WL.val (dx_move rfl rfl) rfl rfl ?_
  refine WL.split 44 rfl (fun g35 => ?_) (fun g35 => ?_)
  ·
    replace g35 := of_decide_eq_true g35
    refine WL.val (dx_move rfl rfl) rfl rfl ?_
    refine WL.get (dx_lit1 (r := [.string ({ data := #[112, 114, 105, 118, 97, 99, 121] })]) rfl ty_ap_55 (by decide) (by decide) rfl rfl rfl) rfl rfl ?_
    rintro u36 W37 ⟨k38, b39, z40⟩
    have h41 : RdF 1 (L) W37 u36 ([{ data := #[112, 114, 105, 118, 97, 99, 121] }].map encT) := k38.notin hL (Nat.le_refl _)
    replace hM := hM.below b39
    replace j4 := j4.below b39
    replace j5 := j5.below b39
    replace h14 := h14.below b39
    replace h23 := h23.below b39
    replace j25 := j25.below b39
    replace j26 := j26.below b39
    replace hB := below_then hB b39
    replace hL := LL.below hL b39
    refine WL.get (dx_cv rfl Tryd.func13 rfl rfl rfl ((show CV _ _ [_, _, _] _ (fun v W => v = .int .i64 0) from by have := agreed_v [((tT, mA, av27, [pV]) : UserX)] tT [pV] _ _ W37 _ hL j25 j26 hM h41; rw [al_a2 av27] at this; exact this))) rfl rfl ?_
    rintro _ W43 ⟨rfl, b42⟩
    replace hM := hM.below b42
    replace j4 := j4.below b42
    replace j5 := j5.below b42
    replace h14 := h14.below b42
    replace h23 := h23.below b42
    replace j25 := j25.below b42
    replace j26 := j26.below b42
    replace h41 := h41.below b42
    replace hB := below_then hB b42
    replace hL := LL.below hL b42
    refine WL.val (dx_eql rfl rfl rfl) rfl rfl ?_
    refine WL.val (dx_pick rfl rfl rfl) rfl rfl ?_
    refine WL.val (dx_assign rfl rfl) rfl rfl ?_
    refine WL.nil ?_
    refine hK34 ?_
    refine WC.ret fun a_ ha_ => ?_
    exact hQ (cv_ret1 rfl (.tmp rfl) rfl hB ha_)
  ·
    exact absurd rfl (of_decide_eq_false g35)

set_option maxHeartbeats 1000000 in
theorem accountGoes_v (xs : List UserX) (tok : ByteArray) (sv : Value) (w : World) (L : List Nat) (hL : LL L w) (h1 : RdF 3 L w sv (xs.map encU)) (h2 : AgU L w xs) (hM : MaxL L w) : CV Tryd.prog 4 [sv, .string tok] w fun v W => v = .bool true := by
  refine cv_enter (N := 77) (f := [(0, sv), (1, .string tok)]) Tryd.func4 rfl rfl rfl rfl fun Q hQ hE => ?_
  have hB := Below.refl w.heap.size w
  have h1m : xs.length ≤ maxLen := by have := h1.len; rwa [List.length_map] at this
  unfold maxLen at h1m
  refine WC.seq fun K1 hK1 => ?_
  refine WC.region ?_
  refine WL.val (dx_assign rfl rfl) rfl rfl ?_
  refine WL.nil ?_
  refine hK1 ?_
  refine WC.seq fun K2 hK2 => ?_
  refine WC.seq fun K3 hK3 => ?_
  refine WC.region ?_
  refine WL.get (dx_cv rfl Tryd.func7 rfl rfl rfl (alive17_v w _ hL hM)) rfl rfl ?_
  rintro _ W5 ⟨rfl, b4⟩
  replace h1 := h1.below b4
  replace h2 := h2.below b4
  replace hM := hM.below b4
  replace hB := below_then hB b4
  replace hL := LL.below hL b4
  refine WL.val (dx_not rfl rfl) rfl rfl ?_
  refine WL.nil ?_
  refine hK3 ?_
  refine WC.condF rfl ?_
  refine WC.skip ?_
  refine hK2 ?_
  refine WC.seq fun K6 hK6 => ?_
  refine WC.seq fun K7 hK7 => ?_
  refine WC.region ?_
  refine WL.val (dx_move rfl rfl) rfl rfl ?_
  refine WL.get (dx_cv rfl Tryd.func8 rfl rfl rfl (great_v xs _ W5 _ hL h1 h2)) rfl rfl ?_
  rintro _ W10 ⟨⟨gr8, rfl⟩, b9⟩
  replace h1 := h1.below b9
  replace h2 := h2.below b9
  replace hM := hM.below b9
  replace hB := below_then hB b9
  replace hL := LL.below hL b9
  refine WL.nil ?_
  refine hK7 ?_
  refine WC.cond rfl (fun c11 => ?_) (fun c11 => ?_)
  ·
    refine WC.seq fun K12 hK12 => ?_
    refine WC.region ?_
    refine WL.val (dx_assign rfl rfl) rfl rfl ?_
    refine WL.nil ?_
    refine hK12 ?_
    refine WC.ret fun a_ ha_ => ?_
    exact hQ (cv_ret1 rfl (.tmp rfl) rfl hB ha_)
  ·
    replace c11 := bvar_f c11
    refine WC.skip ?_
    refine hK6 ?_
    refine WC.seq fun K13 hK13 => ?_
    refine WC.region ?_
    refine WL.val (dx_move rfl rfl) rfl rfl ?_
    refine WL.val (dx_move rfl rfl) rfl rfl ?_
    refine WL.get (dx_cv rfl Tryd.func12 rfl rfl rfl (whose_v xs tok _ W10 _ hL h1 h2 hM)) rfl rfl ?_
    rintro _ W15 ⟨rfl, b14⟩
    replace h1 := h1.below b14
    replace h2 := h2.below b14
    replace hM := hM.below b14
    replace hB := below_then hB b14
    replace hL := LL.below hL b14
    refine WL.val (dx_move rfl rfl) rfl rfl ?_
    refine WL.val (dx_extract rfl rfl rfl) rfl rfl ?_
    refine WL.val (dx_extract rfl rfl rfl) rfl rfl ?_
    refine WL.val (dx_assign rfl rfl) rfl rfl ?_
    refine WL.val (dx_assign rfl rfl) rfl rfl ?_
    refine WL.nil ?_
    refine hK13 ?_
    refine WC.seq fun K16 hK16 => ?_
    refine WC.region ?_
    refine WL.val (dx_move rfl rfl) rfl rfl ?_
    refine WL.val (dx_move rfl rfl) rfl rfl ?_
    refine WL.get (dx_cv rfl Tryd.func10 rfl rfl rfl (logout_v xs tok _ W15 _ hL h1 h2 hM)) rfl rfl ?_
    rintro _ W21 ⟨⟨u17, rfl, j18, j19⟩, b20⟩
    replace h1 := h1.below b20
    replace h2 := h2.below b20
    replace hM := hM.below b20
    replace hB := below_then hB b20
    replace hL := LL.below hL b20
    refine WL.val (dx_move rfl rfl) rfl rfl ?_
    refine WL.val (dx_extract rfl rfl rfl) rfl rfl ?_
    refine WL.val (dx_extract rfl rfl rfl) rfl rfl ?_
    refine WL.val (dx_assign rfl rfl) rfl rfl ?_
    refine WL.val (dx_assign rfl rfl) rfl rfl ?_
    refine WL.nil ?_
    refine hK16 ?_
    refine WC.seq fun K22 hK22 => ?_
    refine WC.seq fun K23 hK23 => ?_
    refine WC.region ?_
    refine WL.val (dx_move rfl rfl) rfl rfl ?_
    refine WL.val (dx_move rfl rfl) rfl rfl ?_
    refine WL.val (dx_neq rfl rfl rfl) rfl rfl ?_
    refine WL.nil ?_
    refine hK23 ?_
    refine WC.cond rfl (fun c24 => ?_) (fun c24 => ?_)
    ·
      replace c24 := bnot_t c24
      replace c24 := of_decide_eq_false c24
      exact absurd (who_find xs tok) c24
    ·
      replace c24 := bnot_f c24
      replace c24 := of_decide_eq_true c24
      refine WC.skip ?_
      refine hK22 ?_
      refine WC.seq fun K25 hK25 => ?_
      refine WC.seq fun K26 hK26 => ?_
      refine WC.region ?_
      refine WL.val (dx_move rfl rfl) rfl rfl ?_
      refine WL.val (dx_neq rfl rfl rfl) rfl rfl ?_
      refine WL.nil ?_
      refine hK26 ?_
      refine WC.cond rfl (fun c27 => ?_) (fun c27 => ?_)
      ·
        replace c27 := bnot_t c27
        replace c27 := of_decide_eq_false c27
        refine WC.seq fun K28 hK28 => ?_
        refine WC.region ?_
        refine WL.val (dx_assign rfl rfl) rfl rfl ?_
        refine WL.nil ?_
        refine hK28 ?_
        refine WC.ret fun a_ ha_ => ?_
        exact hQ (cv_ret1 rfl (.tmp rfl) rfl hB ha_)
      ·
        replace c27 := bnot_f c27
        replace c27 := of_decide_eq_true c27
        refine WC.skip ?_
        refine hK25 ?_
        refine WC.seq fun K29 hK29 => ?_
        have hf0 : (findU xs tok).2 = 0 := (by rw [← who_find]; assumption)
        obtain ⟨hg1, hg2, hg3, hg4⟩ := goes hf0
        refine WC.region ?_
        refine WL.val (dx_move rfl rfl) rfl rfl ?_
        refine WL.val (dx_move rfl rfl) rfl rfl ?_
        refine WL.get (dx_cv rfl Tryd.func12 rfl rfl rfl ((show CV _ _ [_, _] _ (fun v W => v = .tuple #[.string (whoU (logU xs tok) tok).1, .int .i64 14]) from by have := whose_v (logU xs tok) tok _ W21 _ hL j18 j19 hM; rw [hg1] at this; exact this))) rfl rfl ?_
        rintro _ W31 ⟨rfl, b30⟩
        replace h1 := h1.below b30
        replace h2 := h2.below b30
        replace hM := hM.below b30
        replace j18 := j18.below b30
        replace j19 := j19.below b30
        replace hB := below_then hB b30
        replace hL := LL.below hL b30
        refine WL.val (dx_move rfl rfl) rfl rfl ?_
        refine WL.val (dx_extract rfl rfl rfl) rfl rfl ?_
        refine WL.val (dx_extract rfl rfl rfl) rfl rfl ?_
        refine WL.val (dx_assign rfl rfl) rfl rfl ?_
        refine WL.val (dx_assign rfl rfl) rfl rfl ?_
        refine WL.nil ?_
        refine hK29 ?_
        refine WC.seq fun K32 hK32 => ?_
        refine WC.region ?_
        refine WL.val (dx_move rfl rfl) rfl rfl ?_
        refine WL.val (dx_move rfl rfl) rfl rfl ?_
        refine WL.val (dx_move rfl rfl) rfl rfl ?_
        refine WL.get (dx_cv rfl Tryd.func11 rfl rfl rfl ((show CV _ _ [_, _, _] _ (fun v W => ∃ s2, v = .tuple #[s2, .int .i64 0] ∧ RdF 3 (L) W s2 ((regU (logU xs tok) tok (whoU xs tok).1).map encU) ∧ AgU (L) W (regU (logU xs tok) tok (whoU xs tok).1)) from by have := register_v (logU xs tok) tok (whoU xs tok).1 _ W31 _ hL j18 j19 hM; rw [hg2] at this; exact this))) rfl rfl ?_
        rintro _ W37 ⟨⟨u33, rfl, j34, j35⟩, b36⟩
        replace h1 := h1.below b36
        replace h2 := h2.below b36
        replace hM := hM.below b36
        replace j18 := j18.below b36
        replace j19 := j19.below b36
        replace hB := below_then hB b36
        replace hL := LL.below hL b36
        refine WL.val (dx_move rfl rfl) rfl rfl ?_
        refine WL.val (dx_extract rfl rfl rfl) rfl rfl ?_
        refine WL.val (dx_extract rfl rfl rfl) rfl rfl ?_
        refine WL.val (dx_assign rfl rfl) rfl rfl ?_
        refine WL.val (dx_assign rfl rfl) rfl rfl ?_
        refine WL.nil ?_
        refine hK32 ?_
        refine WC.seq fun K38 hK38 => ?_
        refine WC.region ?_
        refine WL.val (dx_move rfl rfl) rfl rfl ?_
        refine WL.val (dx_move rfl rfl) rfl rfl ?_
        refine WL.get (dx_cv rfl Tryd.func12 rfl rfl rfl ((show CV _ _ [_, _] _ (fun v W => v = .tuple #[.string (whoU xs tok).1, .int .i64 0]) from by have := whose_v (regU (logU xs tok) tok (whoU xs tok).1) tok _ W37 _ hL j34 j35 hM; rw [hg3] at this; exact this))) rfl rfl ?_
        rintro _ W40 ⟨rfl, b39⟩
        replace h1 := h1.below b39
        replace h2 := h2.below b39
        replace hM := hM.below b39
        replace j18 := j18.below b39
        replace j19 := j19.below b39
        replace j34 := j34.below b39
        replace j35 := j35.below b39
        replace hB := below_then hB b39
        replace hL := LL.below hL b39
        refine WL.val (dx_move rfl rfl) rfl rfl ?_
        refine WL.val (dx_extract rfl rfl rfl) rfl rfl ?_
        refine WL.val (dx_extract rfl rfl rfl) rfl rfl ?_
        refine WL.val (dx_assign rfl rfl) rfl rfl ?_
        refine WL.val (dx_assign rfl rfl) rfl rfl ?_
        refine WL.nil ?_
        refine hK38 ?_
        refine WC.seq fun K41 hK41 => ?_
        refine WC.region ?_
        refine WL.val (dx_move rfl rfl) rfl rfl ?_
        refine WL.val (dx_eql rfl rfl rfl) rfl rfl ?_
        refine WL.val (dx_move rfl rfl) rfl rfl ?_
        refine WL.val (dx_move rfl rfl) rfl rfl ?_
        refine WL.val (dx_eql rfl rfl rfl) rfl rfl ?_
        refine WL.val (dx_pick rfl rfl rfl) rfl rfl ?_
        refine WL.val (dx_move rfl rfl) rfl rfl ?_
        refine WL.val (dx_move rfl rfl) rfl rfl ?_
        refine WL.val (dx_eql rfl rfl rfl) rfl rfl ?_
        refine WL.val (dx_pick rfl rfl rfl) rfl rfl ?_
        refine WL.val (dx_move rfl rfl) rfl rfl ?_
        refine WL.val (dx_move rfl rfl) rfl rfl ?_
        refine WL.val (dx_move rfl rfl) rfl rfl ?_
        refine WL.val (dx_eqlT rfl rfl rfl) rfl rfl ?_
        refine WL.val (dx_pick rfl rfl rfl) rfl rfl ?_
        refine WL.val (dx_move rfl rfl) rfl rfl ?_
        refine WL.split 70 rfl (fun g42 => ?_) (fun g42 => ?_)
        ·
          replace g42 := of_decide_eq_true g42
          refine WL.val (dx_move rfl rfl) rfl rfl ?_
          refine WL.val (dx_lenX rfl ty_slice_22 rfl j34) rfl rfl ?_
          refine WL.val (dx_move rfl rfl) rfl rfl ?_
          refine WL.val (dx_lenX rfl ty_slice_22 rfl h1) rfl rfl ?_
          refine WL.val (dx_eql rfl rfl rfl) rfl rfl ?_
          refine WL.val (dx_pick rfl rfl rfl) rfl rfl ?_
          refine WL.val (dx_assign rfl rfl) rfl rfl ?_
          refine WL.nil ?_
          refine hK41 ?_
          refine WC.ret fun a_ ha_ => ?_
          exact hQ (cv_ret1 rfl (.tmp rfl) (by simp [hg4]) hB ha_)
        ·
          exact absurd rfl (of_decide_eq_false g42)

end Go.Proofs.YthefddclefimoaaDoor
