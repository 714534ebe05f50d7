/- The reference of sessions: Request. A law of layer 16, walked. -/
import Derived.Test.YthllidchoodofaaDoorJE
namespace Go.Proofs.YthllidchoodofaaDoor
open Go.RowKit
set_option linter.unusedVariables false
set_option linter.unusedSimpArgs false
set_option maxRecDepth 8000

theorem sm_eq {r wt : SesX} {b : Bool} (h1 : b = decide (r.sec = wt.sec)) : smP wt r = (b && decide (r.med = wt.med ∧ r.whr = wt.whr)) := by
  subst h1
  rfl
theorem bump_up {r : SesX} {n : Int} (h : r.att < n) : bumpZ r n = { r with att := n } := by
  unfold bumpZ
  rw [if_neg (by omega)]
theorem bump_no {r : SesX} {n : Int} (h : ¬ r.att < n) : bumpZ r n = r := by
  unfold bumpZ
  have e : (if n < r.att then r.att else n) = r.att := by split <;> omega
  rw [e]
theorem tw_eq {r wt : SesX} {b : Bool} (h1 : b = decide (r.id = wt.id)) : twP wt r = (b || decide (r.tok = wt.tok)) := by
  subst h1
  rfl
theorem tw_no {r wt : SesX} {b : Bool} (h1 : b = decide (r.id = wt.id)) (h2 : ¬ b = true) (h3 : ¬ r.tok = wt.tok) : twP wt r = false := by
  rw [tw_eq h1, Bool.eq_false_iff.2 h2, decide_eq_false h3]
  rfl
theorem tw_ne {r wt : SesX} {b : Bool} (h1 : b = decide (r.id = wt.id)) (h2 : ¬ b = true) : r.id ≠ wt.id := fun e => h2 (by rw [h1]; exact decide_eq_true e)
theorem any_step {α : Type} {p : α → Bool} {xs : List α} {j : Nat} {r : α} (ha : (xs.take j).any p = false) (h : xs[j]? = some r) (hp : p r = false) : (xs.take (j + 1)).any p = false := by
  rw [List.take_add_one, h, List.any_append, ha]
  simp [hp]
theorem at_yes {l : List SesX} {j : Nat} {r w : SesX} (hs : rightZ l = true) (h : l[j]? = some r) (hl : r.id < w.id) : ∀ k a, k < j + 1 → l[k]? = some a → a.id ≤ w.id := fun k a hk ha => by
  obtain ⟨_, _, hp, _⟩ := (rightZ_iff l).1 hs
  rcases Nat.lt_or_ge k j with hkj | hkj
  · obtain ⟨h1, e1⟩ := List.getElem?_eq_some_iff.1 ha
    obtain ⟨h2, e2⟩ := List.getElem?_eq_some_iff.1 h
    have := List.pairwise_iff_getElem.1 hp k j h1 h2 hkj
    rw [e1, e2] at this
    omega
  · obtain rfl : k = j := by omega
    rw [h] at ha
    cases ha
    omega
theorem at_no {l : List SesX} {j n : Nat} {r w : SesX} (h2 : ∀ k a, n ≤ k → k < j → l[k]? = some a → w.id < a.id) (h : l[j]? = some r) (hl : ¬ r.id < w.id) (hne : r.id ≠ w.id) : ∀ k a, n ≤ k → k < j + 1 → l[k]? = some a → w.id < a.id := fun k a hn hk ha => by
  rcases Nat.lt_or_ge k j with hkj | hkj
  · exact h2 k a hn hkj ha
  · obtain rfl : k = j := by omega
    rw [h] at ha
    cases ha
    omega
theorem tkz {l : List SesX} {k : Nat} (h : k ≤ l.length) : ((l.map encZ).take k).length = k := by rw [List.length_take, List.length_map]; omega
theorem dpz {l : List SesX} {k : Nat} : ((l.map encZ).drop k).length = l.length - k := by rw [List.length_drop, List.length_map]
theorem tkzo (l : List SesX) (k : Nat) : ∀ r ∈ (l.map encZ).take k, ∀ u ∈ r, u.oneCell' = true := fun r hr => oc_rowsX oc_Z l r (List.mem_of_mem_take hr)
theorem dpzo (l : List SesX) (k : Nat) : ∀ r ∈ (l.map encZ).drop k, ∀ u ∈ r, u.oneCell' = true := fun r hr => oc_rowsX oc_Z l r (List.mem_of_mem_drop hr)
theorem ins_rowsK (xs : List SesX) (wt : SesX) (k : Nat) : (xs.map encZ).take k ++ [encZ wt] ++ (xs.map encZ).drop k = (xs.take k ++ wt :: xs.drop k).map encZ := by simp
set_option maxHeartbeats 1000000 in
theorem refRequest_v (xs : List SesX) (wt : SesX) (sv : Value) (w : World) (L : List Nat) (hL : LL L w) (h1 : RdF 10 L w sv (xs.map encZ))  (hsz : SzZ xs) (hw : SzO wt) : CV Tryd.prog 9 [sv, .agg #[.int .i64 wt.id, .string wt.sec, .string wt.med, .string wt.whr, .string wt.tok, .int .i64 wt.att, .int .i64 wt.since, .int .i64 wt.wrong, .bool wt.shown, .int .i64 wt.sat]] w fun v W => ∃ s2, v = .tuple #[s2, .int .i64 (reqI xs wt), .bool (reqS xs wt), .int .i64 (reqE xs wt)] ∧ RdF 10 L W s2 ((reqL xs wt).map encZ) := by
  refine cv_enter (N := 137) (f := [(0, sv), (1, .agg #[.int .i64 wt.id, .string wt.sec, .string wt.med, .string wt.whr, .string wt.tok, .int .i64 wt.att, .int .i64 wt.since, .int .i64 wt.wrong, .bool wt.shown, .int .i64 wt.sat])]) Tryd.func9 rfl rfl rfl rfl fun Q hQ hE => ?_
  have hB := Below.refl w.heap.size w
  have hL0 := hL
  have h1m : xs.length ≤ maxLen := by have := h1.len; rwa [List.length_map] at this
  unfold maxLen at h1m
  refine WC.seq fun K1 hK1 => ?_
  refine WC.region ?_
  refine WL.get (dx_box rfl rfl rfl) rfl rfl ?_
  rintro _ W2 ⟨rfl, k3, b4, z5⟩
  have l6 := hB.size
  replace h1 := h1.more b4 (Nat.le_refl _)
  replace hB := below_then hB b4
  replace hL := LL.more hL z5
  refine WL.val (dx_assign rfl rfl) rfl rfl ?_
  refine WL.val (dx_assign rfl rfl) rfl rfl ?_
  refine WL.val (dx_assign rfl rfl) rfl rfl ?_
  refine WL.val (dx_assign rfl rfl) rfl rfl ?_
  refine WL.nil ?_
  refine hK1 ?_
  refine WC.seq fun K7 hK7 => ?_
  refine WC.seq fun K8 hK8 => ?_
  refine WC.region ?_
  refine WL.val (dx_move rfl rfl) rfl rfl ?_
  refine WL.get (dx_cv rfl Tryd.func12 rfl rfl rfl (refRightZ_v xs _ W2 _ hL h1 hsz)) rfl rfl ?_
  rintro _ W10 ⟨rfl, b9⟩
  replace h1 := h1.below b9
  replace k3 := k3.below b9
  replace hB := below_then hB b9
  replace hL := LL.below hL b9
  refine WL.val (dx_not rfl rfl) rfl rfl ?_
  refine WL.val (dx_move rfl rfl) rfl rfl ?_
  refine WL.split 15 rfl (fun g11 => ?_) (fun g11 => ?_)
  ·
    replace g11 := bnot_t g11
    refine WL.off rfl rfl rfl ?_
    refine WL.off rfl rfl rfl ?_
    refine WL.off rfl rfl rfl ?_
    refine WL.val (dx_pick rfl rfl rfl) rfl rfl ?_
    refine WL.val (dx_move rfl rfl) rfl rfl ?_
    refine WL.off rfl rfl rfl ?_
    refine WL.off rfl rfl rfl ?_
    refine WL.off rfl rfl rfl ?_
    refine WL.val (dx_pick rfl rfl rfl) rfl rfl ?_
    refine WL.val (dx_move rfl rfl) rfl rfl ?_
    refine WL.off rfl rfl rfl ?_
    refine WL.off rfl rfl rfl ?_
    refine WL.val (dx_pick rfl rfl rfl) rfl rfl ?_
    refine WL.nil ?_
    refine hK8 ?_
    refine WC.condT rfl ?_
    refine WC.seq fun K12 hK12 => ?_
    refine WC.region ?_
    refine WL.val (dx_move rfl rfl) rfl rfl ?_
    refine WL.val (dx_assign rfl rfl) rfl rfl ?_
    refine WL.val (dx_assign rfl rfl) rfl rfl ?_
    refine WL.val (dx_assign rfl rfl) rfl rfl ?_
    refine WL.val (dx_assign rfl rfl) rfl rfl ?_
    refine WL.nil ?_
    refine hK12 ?_
    refine WC.ret fun a_ ha_ => ?_
    exact hQ (cv_ret4 rfl (.tmp rfl) (.tmp rfl) (.tmp rfl) (.tmp rfl) (by have he : reqE xs wt = 1 := (by unfold reqE; rw [if_neg (by rintro ⟨q1, q2, q3, q4⟩; simp_all)]); have hn : ¬ reqE xs wt = 0 := (by rw [he]; decide); have hl : reqL xs wt = xs := (by unfold reqL; rw [if_neg hn]); have hi : reqI xs wt = 0 := (by unfold reqI; rw [if_neg hn]); have hs : reqS xs wt = false := (by unfold reqS; rw [if_neg hn]); rw [he, hl, hi, hs]; exact ⟨_, rfl, (h1.less (fun x hx => (.tail _ hx)))⟩) hB ha_)
  ·
    replace g11 := bnot_f g11
    refine WL.val (dx_loadN rfl ty_agg_26_10 rfl k3.range rfl) rfl rfl ?_
    refine WL.get (dx_cv rfl Tryd.func26 rfl rfl rfl (refGoodZ_v wt W10 _ hL hw)) rfl rfl ?_
    rintro _ W14 ⟨rfl, b13⟩
    replace h1 := h1.below b13
    replace k3 := k3.below b13
    replace hB := below_then hB b13
    replace hL := LL.below hL b13
    refine WL.val (dx_not rfl rfl) rfl rfl ?_
    refine WL.val (dx_pick rfl rfl rfl) rfl rfl ?_
    refine WL.val (dx_move rfl rfl) rfl rfl ?_
    refine WL.split 20 rfl (fun g15 => ?_) (fun g15 => ?_)
    ·
      replace g15 := bnot_t g15
      refine WL.off rfl rfl rfl ?_
      refine WL.off rfl rfl rfl ?_
      refine WL.off rfl rfl rfl ?_
      refine WL.val (dx_pick rfl rfl rfl) rfl rfl ?_
      refine WL.val (dx_move rfl rfl) rfl rfl ?_
      refine WL.off rfl rfl rfl ?_
      refine WL.off rfl rfl rfl ?_
      refine WL.val (dx_pick rfl rfl rfl) rfl rfl ?_
      refine WL.nil ?_
      refine hK8 ?_
      refine WC.condT rfl ?_
      refine WC.seq fun K16 hK16 => ?_
      refine WC.region ?_
      refine WL.val (dx_move rfl rfl) rfl rfl ?_
      refine WL.val (dx_assign rfl rfl) rfl rfl ?_
      refine WL.val (dx_assign rfl rfl) rfl rfl ?_
      refine WL.val (dx_assign rfl rfl) rfl rfl ?_
      refine WL.val (dx_assign rfl rfl) rfl rfl ?_
      refine WL.nil ?_
      refine hK16 ?_
      refine WC.ret fun a_ ha_ => ?_
      exact hQ (cv_ret4 rfl (.tmp rfl) (.tmp rfl) (.tmp rfl) (.tmp rfl) (by have he : reqE xs wt = 1 := (by unfold reqE; rw [if_neg (by rintro ⟨q1, q2, q3, q4⟩; simp_all)]); have hn : ¬ reqE xs wt = 0 := (by rw [he]; decide); have hl : reqL xs wt = xs := (by unfold reqL; rw [if_neg hn]); have hi : reqI xs wt = 0 := (by unfold reqI; rw [if_neg hn]); have hs : reqS xs wt = false := (by unfold reqS; rw [if_neg hn]); rw [he, hl, hi, hs]; exact ⟨_, rfl, (h1.less (fun x hx => (.tail _ hx)))⟩) hB ha_)
    ·
      replace g15 := bnot_f g15
      refine WL.val (dx_fld (o1 := 7) rfl ty_fld_26_6_7 rfl rfl) rfl rfl ?_
      refine WL.val (dx_load rfl ty_one_3 rfl (k3.cell (k := 7) rfl)) rfl rfl ?_
      refine WL.val (dx_neq rfl rfl rfl) rfl rfl ?_
      refine WL.val (dx_pick rfl rfl rfl) rfl rfl ?_
      refine WL.val (dx_move rfl rfl) rfl rfl ?_
      refine WL.split 25 rfl (fun g17 => ?_) (fun g17 => ?_)
      ·
        replace g17 := bnot_t g17
        replace g17 := of_decide_eq_false g17
        refine WL.off rfl rfl rfl ?_
        refine WL.off rfl rfl rfl ?_
        refine WL.val (dx_pick rfl rfl rfl) rfl rfl ?_
        refine WL.nil ?_
        refine hK8 ?_
        refine WC.condT rfl ?_
        refine WC.seq fun K18 hK18 => ?_
        refine WC.region ?_
        refine WL.val (dx_move rfl rfl) rfl rfl ?_
        refine WL.val (dx_assign rfl rfl) rfl rfl ?_
        refine WL.val (dx_assign rfl rfl) rfl rfl ?_
        refine WL.val (dx_assign rfl rfl) rfl rfl ?_
        refine WL.val (dx_assign rfl rfl) rfl rfl ?_
        refine WL.nil ?_
        refine hK18 ?_
        refine WC.ret fun a_ ha_ => ?_
        exact hQ (cv_ret4 rfl (.tmp rfl) (.tmp rfl) (.tmp rfl) (.tmp rfl) (by have he : reqE xs wt = 1 := (by unfold reqE; rw [if_neg (by rintro ⟨q1, q2, q3, q4⟩; simp_all)]); have hn : ¬ reqE xs wt = 0 := (by rw [he]; decide); have hl : reqL xs wt = xs := (by unfold reqL; rw [if_neg hn]); have hi : reqI xs wt = 0 := (by unfold reqI; rw [if_neg hn]); have hs : reqS xs wt = false := (by unfold reqS; rw [if_neg hn]); rw [he, hl, hi, hs]; exact ⟨_, rfl, (h1.less (fun x hx => (.tail _ hx)))⟩) hB ha_)
      ·
        replace g17 := bnot_f g17
        replace g17 := of_decide_eq_true g17
        refine WL.val (dx_fld (o1 := 8) rfl ty_fld_26_7_8 rfl rfl) rfl rfl ?_
        refine WL.val (dx_load rfl ty_one_4 rfl (k3.cell (k := 8) rfl)) rfl rfl ?_
        refine WL.val (dx_pick rfl rfl rfl) rfl rfl ?_
        refine WL.nil ?_
        refine hK8 ?_
        refine WC.cond rfl (fun c19 => ?_) (fun c19 => ?_)
        ·
          refine WC.seq fun K20 hK20 => ?_
          refine WC.region ?_
          refine WL.val (dx_move rfl rfl) rfl rfl ?_
          refine WL.val (dx_assign rfl rfl) rfl rfl ?_
          refine WL.val (dx_assign rfl rfl) rfl rfl ?_
          refine WL.val (dx_assign rfl rfl) rfl rfl ?_
          refine WL.val (dx_assign rfl rfl) rfl rfl ?_
          refine WL.nil ?_
          refine hK20 ?_
          refine WC.ret fun a_ ha_ => ?_
          exact hQ (cv_ret4 rfl (.tmp rfl) (.tmp rfl) (.tmp rfl) (.tmp rfl) (by have he : reqE xs wt = 1 := (by unfold reqE; rw [if_neg (by rintro ⟨q1, q2, q3, q4⟩; simp_all)]); have hn : ¬ reqE xs wt = 0 := (by rw [he]; decide); have hl : reqL xs wt = xs := (by unfold reqL; rw [if_neg hn]); have hi : reqI xs wt = 0 := (by unfold reqI; rw [if_neg hn]); have hs : reqS xs wt = false := (by unfold reqS; rw [if_neg hn]); rw [he, hl, hi, hs]; exact ⟨_, rfl, (h1.less (fun x hx => (.tail _ hx)))⟩) hB ha_)
        ·
          refine WC.skip ?_
          refine hK7 ?_
          refine WC.seq fun K21 hK21 => ?_
          refine WC.region ?_
          refine WL.val (dx_move rfl rfl) rfl rfl ?_
          refine WL.val (dx_fld (o1 := 6) rfl ty_fld_26_5_6 rfl rfl) rfl rfl ?_
          refine WL.val (dx_load rfl ty_one_3 rfl (k3.cell (k := 6) rfl)) rfl rfl ?_
          have zh1 := h1
          have zk3 := k3
          have zhB := hB
          have zhL := hL
          have hok : okReq xs wt := ⟨by first | assumption | simp_all, by first | assumption | simp_all, by first | assumption | simp_all, by first | assumption | simp_all⟩
          refine WL.get (dx_cv rfl Tryd.func27 rfl rfl rfl (refPrune_v xs wt.since _ W14 _ hL h1 hsz)) rfl rfl ?_
          rintro u22 W24 ⟨hO, b23⟩
          replace h1 := h1.below b23
          replace k3 := k3.below b23
          replace hB := below_then hB b23
          replace hL := LL.below hL b23
          replace hO : NewW 10 W14.heap.size ((opnZ xs wt).map encZ) u22 W24 := hO
          have hP : SinceB W14 (w.heap.size :: L) W24 := b23
          have hOr : RdF 10 (w.heap.size :: L) W24 u22 ((opnZ xs wt).map encZ) := hO.rd zhL
          have hor : rightZ (opnZ xs wt) = true := prune_rightA xs wt.since
          have hol : (opnZ xs wt).length ≤ 16 := rightZ_len hor
          refine WL.val (dx_assign rfl rfl) rfl rfl ?_
          refine WL.nil ?_
          refine hK21 ?_
          refine WC.seq fun K25 hK25 => ?_
          refine WC.seq fun K26 hK26 => ?_
          refine WC.region ?_
          refine WL.val (dx_assign rfl rfl) rfl rfl ?_
          refine WL.nil ?_
          refine hK26 ?_
          refine WC.block ?_
          refine WC.loop (fun (i : Nat) => [(0, sv), (3, .pointer (some ⟨w.heap.size, 0, none⟩)), (8, u22), (9, .int .i64 (i : Int))]) (fun (i : Nat) W => i ≤ (opnZ xs wt).length ∧ idxX (smP wt) (opnZ xs wt) 0 = idxX (smP wt) ((opnZ xs wt).drop i) i ∧ Below w.heap.size w W ∧ LL (w.heap.size :: L) W ∧ RdF 10 (w.heap.size :: L) W sv (xs.map encZ) ∧ SinceB W14 (w.heap.size :: L) W ∧ RdF 10 (w.heap.size :: L) W u22 ((opnZ xs wt).map encZ) ∧ NewW 10 W14.heap.size ((opnZ xs wt).map encZ) u22 W ∧ Blk W w.heap.size [.int .i64 wt.id, .string wt.sec, .string wt.med, .string wt.whr, .string wt.tok, .int .i64 wt.att, .int .i64 wt.since, .int .i64 wt.wrong, .bool wt.shown, .int .i64 wt.sat]) (fun (i : Nat) => (opnZ xs wt).length - i) 0 (by repeat first | exact trivial | exact And.intro rfl trivial | refine And.intro rfl ?_ | refine And.intro (congrArg (fun z : Int => some (Value.int .i64 z)) (by omega)) ?_) ⟨Nat.zero_le _, rfl, hB, hL, h1, hP, hOr, hO, k3⟩ ?_
          clear h1 hP hOr hO k3 hB hL
          rintro K27 i W28 ⟨hi, hv, hB, hL, h1, hP, hOr, hO, k3⟩ hK27
          refine WC.seq fun K29 hK29 => ?_
          refine WC.seq fun K30 hK30 => ?_
          refine WC.region ?_
          refine WL.val (dx_move rfl rfl) rfl rfl ?_
          refine WL.val (dx_move rfl rfl) rfl rfl ?_
          refine WL.val (dx_lenX rfl ty_slice_22 rfl hOr) rfl rfl ?_
          refine WL.val (dx_lss rfl rfl rfl) rfl rfl ?_
          refine WL.nil ?_
          refine hK30 ?_
          refine WC.cond rfl (fun c31 => ?_) (fun c31 => ?_)
          ·
            replace c31 := of_decide_eq_true c31
            refine WC.skip ?_
            refine hK29 ?_
            refine WC.seq fun K32 hK32 => ?_
            refine WC.block ?_
            refine WC.seq fun K33 hK33 => ?_
            obtain ⟨r34, e35⟩ : ∃ x, (opnZ xs wt)[i]? = some x := ⟨_, List.getElem?_eq_getElem (by omega)⟩
            obtain ⟨b36, hb36⟩ : ∃ b, b = (decide (r34.sec = wt.sec)) := ⟨_, rfl⟩
            refine WC.drawM 18 [(some 40, .is (u22)), (some 41, .is (.int .i64 (i : Int))), (some 42, .by fun u W => PtR (w.heap.size :: L) W u (encZ r34)), (some 43, .by fun u W => PtR (w.heap.size :: L) W u [.string r34.sec]), (some 44, .is (.string r34.sec)), (some 45, .is (.pointer (some ⟨w.heap.size, 1, none⟩))), (some 46, .is (.string wt.sec)), (some 47, .is (.bool (decide (r34.sec = wt.sec)))), (some 48, .is (.bool b36)), (some 49, .is (bif b36 then u22 else undef)), (some 50, .is (bif b36 then .int .i64 (i : Int) else undef)), (some 51, .by fun u W => b36 = true → PtR (w.heap.size :: L) W u (encZ r34)), (some 52, .by fun u W => b36 = true → PtR (w.heap.size :: L) W u [.string r34.med, .string r34.whr]), (some 53, .is (bif b36 then .agg #[.string r34.med, .string r34.whr] else undef)), (some 54, .is (bif b36 then .pointer (some ⟨w.heap.size, 2, none⟩) else undef)), (some 55, .is (bif b36 then .agg #[.string wt.med, .string wt.whr] else undef)), (some 56, .is (bif b36 then .bool (decide (r34.med = wt.med ∧ r34.whr = wt.whr)) else undef)), (some 57, .is (.bool (b36 && (decide (r34.med = wt.med ∧ r34.whr = wt.whr)))))] [[], [], [0, 1], [2], [3], [], [5], [4, 6], [7], [8], [8], [9, 10, 8], [11, 8], [12, 8], [8], [14, 8], [13, 15, 8], [8, 16]] (by kernel_rfl) (by kernel_rfl) (by kernel_rfl) (by kernel_rfl) (by kernel_rfl) (by kernel_rfl) (by kernel_rfl) ⟨fun _ _ _ hb h => h.below hb, fun _ _ _ hb h => h.below hb, fun _ _ _ hb h g => (h g).below hb, fun _ _ _ hb h g => (h g).below hb, trivial⟩ ?_ ?_
            ·
              refine DSteps.cons (fun Wd hd => ?_) ?_
              ·
                exact DV.dr (dx_move rfl rfl) ⟨Below.refl _ _, rfl⟩
              refine DSteps.cons (fun Wd hd => ?_) ?_
              ·
                exact DV.dr (dx_move rfl rfl) ⟨Below.refl _ _, rfl⟩
              refine DSteps.cons (fun Wd hd => ?_) ?_
              ·
                have hOr := hOr.below hd
                exact (dx_idxF i rfl ty_slice_22 rfl rfl hOr (by omega) (at_mapX e35)).mono (fun v W' h => ⟨by rw [← h.1]; exact Below.refl _ _, by rw [← h.1]; exact h.2⟩)
              refine DSteps.cons (fun Wd hd => ?_) ?_
              ·
                intro u7_2 p7_2
                exact (dx_fldP 1 rfl ty_fld_26_1_1 rfl p7_2 (cs' := [.string r34.sec]) rfl (Nat.succ_pos _)).mono (fun v W' h => ⟨by rw [← h.1]; exact Below.refl _ _, by rw [← h.1]; exact h.2⟩)
              refine DSteps.cons (fun Wd hd => ?_) ?_
              ·
                intro u7_3 p7_3
                exact DV.dr (dx_loadP rfl ty_one_9 rfl p7_3) ⟨Below.refl _ _, rfl⟩
              refine DSteps.cons (fun Wd hd => ?_) ?_
              ·
                exact DV.dr (dx_fld (o1 := 1) rfl ty_fld_26_1_1 rfl rfl) ⟨Below.refl _ _, rfl⟩
              refine DSteps.cons (fun Wd hd => ?_) ?_
              ·
                have k3 := k3.below hd
                exact DV.dr (dx_load rfl ty_one_9 rfl (k3.cell (k := 1) rfl)) ⟨Below.refl _ _, rfl⟩
              refine DSteps.cons (fun Wd hd => ?_) ?_
              ·
                exact DV.dr (dx_eqlT rfl rfl rfl) ⟨Below.refl _ _, rfl⟩
              refine DSteps.cons (fun Wd hd => ?_) ?_
              ·
                exact DV.dr (dx_move rfl rfl) ⟨Below.refl _ _, by rw [hb36]; rfl⟩
              refine DSteps.cons (fun Wd hd => ?_) ?_
              ·
                cases b36
                ·
                  exact DV.dr (dv_off rfl) ⟨Below.refl _ _, rfl⟩
                ·
                  exact DV.dr (dx_move rfl rfl) ⟨Below.refl _ _, rfl⟩
              refine DSteps.cons (fun Wd hd => ?_) ?_
              ·
                cases b36
                ·
                  exact DV.dr (dv_off rfl) ⟨Below.refl _ _, rfl⟩
                ·
                  exact DV.dr (dx_move rfl rfl) ⟨Below.refl _ _, rfl⟩
              refine DSteps.cons (fun Wd hd => ?_) ?_
              ·
                cases b36
                ·
                  exact DV.dr (dv_off rfl) ⟨Below.refl _ _, fun h => by cases h⟩
                ·
                  have hOr := hOr.below hd
                  exact (dx_idxF i rfl ty_slice_22 rfl rfl hOr (by first | omega | (have hq_ := of_decide_eq_true hb36.symm; omega)) (at_mapX e35)).mono (fun v W' h => ⟨by rw [← h.1]; exact Below.refl _ _, fun _ => by rw [← h.1]; exact h.2⟩)
              refine DSteps.cons (fun Wd hd => ?_) ?_
              ·
                intro u7_11 p7_11
                cases b36
                ·
                  exact DV.dr (dv_off rfl) ⟨Below.refl _ _, fun h => by cases h⟩
                ·
                  replace p7_11 := p7_11 rfl
                  exact (dx_fldP 2 rfl ty_fld_26_2_2 rfl p7_11 (cs' := [.string r34.med, .string r34.whr]) rfl (Nat.succ_pos _)).mono (fun v W' h => ⟨by rw [← h.1]; exact Below.refl _ _, fun _ => by rw [← h.1]; exact h.2⟩)
              refine DSteps.cons (fun Wd hd => ?_) ?_
              ·
                intro u7_12 p7_12
                cases b36
                ·
                  exact DV.dr (dv_off rfl) ⟨Below.refl _ _, rfl⟩
                ·
                  replace p7_12 := p7_12 rfl
                  exact DV.dr (dx_loadPN rfl ty_agg_24_2 rfl p7_12 rfl) ⟨Below.refl _ _, rfl⟩
              refine DSteps.cons (fun Wd hd => ?_) ?_
              ·
                cases b36
                ·
                  exact DV.dr (dv_off rfl) ⟨Below.refl _ _, rfl⟩
                ·
                  exact DV.dr (dx_fld (o1 := 2) rfl ty_fld_26_2_2 rfl rfl) ⟨Below.refl _ _, rfl⟩
              refine DSteps.cons (fun Wd hd => ?_) ?_
              ·
                cases b36
                ·
                  exact DV.dr (dv_off rfl) ⟨Below.refl _ _, rfl⟩
                ·
                  have k3 := k3.below hd
                  exact DV.dr (dx_loadN (cs := [.string wt.med, .string wt.whr]) rfl ty_agg_24_2 rfl (k3.part 2 2) rfl) ⟨Below.refl _ _, rfl⟩
              refine DSteps.cons (fun Wd hd => ?_) ?_
              ·
                cases b36
                ·
                  exact DV.dr (dv_off rfl) ⟨Below.refl _ _, rfl⟩
                ·
                  exact DV.dr (dx_eqAd rfl rfl rfl) ⟨Below.refl _ _, rfl⟩
              refine DSteps.cons (fun Wd hd => ?_) ?_
              ·
                cases b36
                ·
                  exact DV.dr (dx_pick rfl rfl rfl) ⟨Below.refl _ _, rfl⟩
                ·
                  exact DV.dr (dx_pick rfl rfl rfl) ⟨Below.refl _ _, rfl⟩
              exact trivial
            ·
              intro W37 b38
              intro u7_2 p7_2
              intro u7_3 p7_3
              intro _ _
              intro _ _
              replace h1 := h1.below b38
              replace hP := hP.below b38
              replace hOr := hOr.below b38
              replace hO := hO.below b38
              replace k3 := k3.below b38
              replace hB := below_then hB b38
              replace hL := LL.below hL b38
              refine WL.nil ?_
              refine hK33 ?_
              refine WC.cond rfl (fun c39 => ?_) (fun c39 => ?_)
              ·
                obtain ⟨g40, g41⟩ := band_t c39
                replace g41 := of_decide_eq_true g41
                refine WC.seq fun K42 hK42 => ?_
                refine WC.seq fun K43 hK43 => ?_
                have hsm : smAt xs wt = (i : Int) := hv.trans (idxX_here e35 ((sm_eq hb36).trans (by rw [g40, decide_eq_true g41]; rfl)))
                have hz : hitZ xs wt = r34 := by rw [hitZ, hsm, Int.toNat_natCast, e35]; rfl
                have hl0 := (List.getElem?_eq_some_iff.1 e35).1
                refine WC.drawM 7 [(some 58, .is (.pointer (some ⟨w.heap.size, 5, none⟩))), (some 59, .is (.int .i64 wt.att)), (some 60, .is (u22)), (some 61, .is (.int .i64 (i : Int))), (some 62, .by fun u W => PtR (w.heap.size :: L) W u (encZ r34)), (some 63, .by fun u W => PtR (w.heap.size :: L) W u [.int .i64 r34.att]), (some 64, .is (.int .i64 r34.att))] [[], [0], [], [], [2, 3], [4], [5]] (by kernel_rfl) (by kernel_rfl) (by kernel_rfl) (by kernel_rfl) (by kernel_rfl) (by kernel_rfl) (by kernel_rfl) ⟨fun _ _ _ hb h => h.below hb, fun _ _ _ hb h => h.below hb, trivial⟩ ?_ ?_
                ·
                  refine DSteps.cons (fun Wd hd => ?_) ?_
                  ·
                    exact DV.dr (dx_fld (o1 := 5) rfl ty_fld_26_4_5 rfl rfl) ⟨Below.refl _ _, rfl⟩
                  refine DSteps.cons (fun Wd hd => ?_) ?_
                  ·
                    have k3 := k3.below hd
                    exact DV.dr (dx_load rfl ty_one_3 rfl (k3.cell (k := 5) rfl)) ⟨Below.refl _ _, rfl⟩
                  refine DSteps.cons (fun Wd hd => ?_) ?_
                  ·
                    exact DV.dr (dx_move rfl rfl) ⟨Below.refl _ _, rfl⟩
                  refine DSteps.cons (fun Wd hd => ?_) ?_
                  ·
                    exact DV.dr (dx_move rfl rfl) ⟨Below.refl _ _, rfl⟩
                  refine DSteps.cons (fun Wd hd => ?_) ?_
                  ·
                    have hOr := hOr.below hd
                    exact (dx_idxF i rfl ty_slice_22 rfl rfl hOr (by omega) (at_mapX e35)).mono (fun v W' h => ⟨by rw [← h.1]; exact Below.refl _ _, by rw [← h.1]; exact h.2⟩)
                  refine DSteps.cons (fun Wd hd => ?_) ?_
                  ·
                    intro u8_4 p8_4
                    exact (dx_fldP 1 rfl ty_fld_26_4_5 rfl p8_4 (cs' := [.int .i64 r34.att]) rfl (Nat.succ_pos _)).mono (fun v W' h => ⟨by rw [← h.1]; exact Below.refl _ _, by rw [← h.1]; exact h.2⟩)
                  refine DSteps.cons (fun Wd hd => ?_) ?_
                  ·
                    intro u8_5 p8_5
                    exact DV.dr (dx_loadP rfl ty_one_3 rfl p8_5) ⟨Below.refl _ _, rfl⟩
                  exact trivial
                ·
                  intro W44 b45
                  intro u8_4 p8_4
                  intro u8_5 p8_5
                  replace h1 := h1.below b45
                  replace hP := hP.below b45
                  replace hOr := hOr.below b45
                  replace hO := hO.below b45
                  replace k3 := k3.below b45
                  replace hB := below_then hB b45
                  replace hL := LL.below hL b45
                  refine WL.val (dx_gtr rfl rfl rfl) rfl rfl ?_
                  refine WL.nil ?_
                  refine hK43 ?_
                  refine WC.cond rfl (fun c46 => ?_) (fun c46 => ?_)
                  ·
                    replace c46 := of_decide_eq_true c46
                    refine WC.seq fun K47 hK47 => ?_
                    obtain ⟨B0, hB0, hW0⟩ : ∃ B, W14.heap.size ≤ B ∧ OwS 10 W44 u22 ((opnZ xs wt).map encZ) B := (by rcases hO with ⟨_, h, _⟩ | h; exfalso; have := congrArg List.length h; rw [List.length_map, List.length_nil] at this; omega; exact h)
                    have hPW := hP
                    replace h1 := zh1
                    replace k3 := zk3
                    replace hB := zhB
                    replace hL := zhL
                    have n48 : w.heap.size ≠ B0 := Nat.ne_of_lt (Nat.lt_of_lt_of_le k3.lt hB0)
                    have l49 := Nat.le_trans hB.size hB0
                    replace h1 := h1.more hPW hB0
                    replace k3 := k3.below hPW
                    replace hB := below_then hB hPW
                    replace hL := LL.cons (LL.below hL hPW) hW0.lt
                    refine WC.region ?_
                    refine WL.val (dx_move rfl rfl) rfl rfl ?_
                    refine WL.val (dx_move rfl rfl) rfl rfl ?_
                    refine WL.val (dx_fld (o1 := 5) rfl ty_fld_26_4_5 rfl rfl) rfl rfl ?_
                    refine WL.val (dx_load rfl ty_one_3 rfl (k3.cell (k := 5) rfl)) rfl rfl ?_
                    refine WL.val (dx_idxO i rfl ty_slice_22 rfl rfl hW0 (by omega) (by rw [List.length_map]; omega) rfl) rfl rfl ?_
                    refine WL.val (dx_fld (o1 := i * 10 + 5) rfl ty_fld_26_4_5 rfl rfl) rfl rfl ?_
                    refine WL.do (dx_storeF (k := i) (j := 5) (r := encZ r34) rfl ty_size_3_1 rfl rfl rfl rfl hW0 rfl (at_mapX e35) (by decide)) rfl ?_
                    rintro _ W50 ⟨k52, o51⟩
                    replace k3 := k3.other o51 n48
                    clear hW0
                    replace h1 := h1.only o51 (.head _)
                    replace hB := o51.below hB l49
                    replace hL := LL.only hL o51
                    rw [show ((opnZ xs wt).map encZ).set i ((encZ r34).set 5 (.int .i64 wt.att)) = ((opnZ xs wt).set i { r34 with att := wt.att }).map encZ from (List.map_set (f := encZ) (l := (opnZ xs wt)) (i := i) (a := { r34 with att := wt.att })).symm] at k52
                    obtain ⟨r1, hr1⟩ : ∃ r : SesX, r = { r34 with att := wt.att } := ⟨_, rfl⟩
                    rw [← hr1] at k52
                    have hls : ((opnZ xs wt).set i r1).length = (opnZ xs wt).length := List.length_set
                    have hxr1 : ((opnZ xs wt).set i r1)[i]? = some r1 := List.getElem?_set_self hl0
                    refine WL.nil ?_
                    refine hK47 ?_
                    refine WC.seq fun K53 hK53 => ?_
                    refine WC.drawM 7 [(some 72, .is (u22)), (some 73, .is (u22)), (some 74, .is (.int .i64 (i : Int))), (some 75, .is (.pointer (some ⟨B0, i * 10, none⟩))), (some 76, .is (.pointer (some ⟨B0, i * 10 + 0, none⟩))), (some 77, .is (.int .i64 r1.id)), (some 4, .is (u22))] [[], [], [], [1, 2], [3], [4], [0, 0]] (by kernel_rfl) (by kernel_rfl) (by kernel_rfl) (by kernel_rfl) (by kernel_rfl) (by kernel_rfl) (by kernel_rfl) (by exact trivial) ?_ ?_
                    ·
                      refine DSteps.cons (fun Wd hd => ?_) ?_
                      ·
                        exact DV.dr (dx_move rfl rfl) ⟨Below.refl _ _, rfl⟩
                      refine DSteps.cons (fun Wd hd => ?_) ?_
                      ·
                        exact DV.dr (dx_move rfl rfl) ⟨Below.refl _ _, rfl⟩
                      refine DSteps.cons (fun Wd hd => ?_) ?_
                      ·
                        exact DV.dr (dx_move rfl rfl) ⟨Below.refl _ _, rfl⟩
                      refine DSteps.cons (fun Wd hd => ?_) ?_
                      ·
                        have k52 := k52.below hd
                        exact DV.dr (dx_idxO i rfl ty_slice_22 rfl rfl k52 (by omega) (by rw [List.length_map]; omega) rfl) ⟨Below.refl _ _, rfl⟩
                      refine DSteps.cons (fun Wd hd => ?_) ?_
                      ·
                        exact DV.dr (dx_fld (o1 := i * 10 + 0) rfl ty_fld_26_0_0 rfl rfl) ⟨Below.refl _ _, rfl⟩
                      refine DSteps.cons (fun Wd hd => ?_) ?_
                      ·
                        have k52 := k52.below hd
                        exact DV.dr (dx_load rfl ty_one_3 rfl (k52.cellF (k := i) (j := 0) (at_mapX hxr1) rfl rfl)) ⟨Below.refl _ _, rfl⟩
                      refine DSteps.cons (fun Wd hd => ?_) ?_
                      ·
                        exact DV.dr (dx_assign rfl rfl) ⟨Below.refl _ _, rfl⟩
                      exact trivial
                    ·
                      intro W54 b55
                      replace h1 := h1.below b55
                      replace k3 := k3.below b55
                      replace k52 := k52.below b55
                      replace hB := below_then hB b55
                      replace hL := LL.below hL b55
                      refine WL.val (dx_assign rfl rfl) rfl rfl ?_
                      refine WL.val (dx_assign rfl rfl) rfl rfl ?_
                      refine WL.val (dx_assign rfl rfl) rfl rfl ?_
                      refine WL.nil ?_
                      refine hK53 ?_
                      refine WC.ret fun a_ ha_ => ?_
                      exact hQ (cv_ret4 rfl (.tmp rfl) (.tmp rfl) (.tmp rfl) (.tmp rfl) (by have he : reqE xs wt = 0 := (by unfold reqE; rw [if_pos hok, if_pos (by rw [hsm]; omega)]); have hl : reqL xs wt = ((opnZ xs wt).set i r1) := (by unfold reqL; rw [if_pos he, if_pos (by rw [hsm]; omega), hsm, Int.toNat_natCast, hz, bump_up c46, ← hr1]); have hi : reqI xs wt = r1.id := (by unfold reqI; rw [if_pos he, if_pos (by rw [hsm]; omega), hz, hr1]); have hs : reqS xs wt = true := (by unfold reqS; rw [if_pos he, if_pos (by rw [hsm]; omega), hz]; exact decide_eq_true c46); rw [he, hl, hi, hs]; exact ⟨_, rfl, k52.notin hL0 l49⟩) hB ha_)
                  ·
                    replace c46 := of_decide_eq_false c46
                    refine WC.skip ?_
                    refine hK42 ?_
                    refine WC.seq fun K56 hK56 => ?_
                    refine WC.drawM 7 [(some 78, .is (u22)), (some 79, .is (u22)), (some 80, .is (.int .i64 (i : Int))), (some 81, .by fun u W => PtR (w.heap.size :: L) W u (encZ r34)), (some 82, .by fun u W => PtR (w.heap.size :: L) W u [.int .i64 r34.id]), (some 83, .is (.int .i64 r34.id)), (some 4, .is (u22))] [[], [], [], [1, 2], [3], [4], [0, 0]] (by kernel_rfl) (by kernel_rfl) (by kernel_rfl) (by kernel_rfl) (by kernel_rfl) (by kernel_rfl) (by kernel_rfl) ⟨fun _ _ _ hb h => h.below hb, fun _ _ _ hb h => h.below hb, trivial⟩ ?_ ?_
                    ·
                      refine DSteps.cons (fun Wd hd => ?_) ?_
                      ·
                        exact DV.dr (dx_move rfl rfl) ⟨Below.refl _ _, rfl⟩
                      refine DSteps.cons (fun Wd hd => ?_) ?_
                      ·
                        exact DV.dr (dx_move rfl rfl) ⟨Below.refl _ _, rfl⟩
                      refine DSteps.cons (fun Wd hd => ?_) ?_
                      ·
                        exact DV.dr (dx_move rfl rfl) ⟨Below.refl _ _, rfl⟩
                      refine DSteps.cons (fun Wd hd => ?_) ?_
                      ·
                        have hOr := hOr.below hd
                        exact (dx_idxF i rfl ty_slice_22 rfl rfl hOr (by omega) (at_mapX e35)).mono (fun v W' h => ⟨by rw [← h.1]; exact Below.refl _ _, by rw [← h.1]; exact h.2⟩)
                      refine DSteps.cons (fun Wd hd => ?_) ?_
                      ·
                        intro u11_3 p11_3
                        exact (dx_fldP 1 rfl ty_fld_26_0_0 rfl p11_3 (cs' := [.int .i64 r34.id]) rfl (Nat.succ_pos _)).mono (fun v W' h => ⟨by rw [← h.1]; exact Below.refl _ _, by rw [← h.1]; exact h.2⟩)
                      refine DSteps.cons (fun Wd hd => ?_) ?_
                      ·
                        intro u11_4 p11_4
                        exact DV.dr (dx_loadP rfl ty_one_3 rfl p11_4) ⟨Below.refl _ _, rfl⟩
                      refine DSteps.cons (fun Wd hd => ?_) ?_
                      ·
                        exact DV.dr (dx_assign rfl rfl) ⟨Below.refl _ _, rfl⟩
                      exact trivial
                    ·
                      intro W57 b58
                      intro u11_3 p11_3
                      intro u11_4 p11_4
                      replace h1 := h1.below b58
                      replace hP := hP.below b58
                      replace hOr := hOr.below b58
                      replace hO := hO.below b58
                      replace k3 := k3.below b58
                      replace hB := below_then hB b58
                      replace hL := LL.below hL b58
                      refine WL.val (dx_assign rfl rfl) rfl rfl ?_
                      refine WL.val (dx_assign rfl rfl) rfl rfl ?_
                      refine WL.val (dx_assign rfl rfl) rfl rfl ?_
                      refine WL.nil ?_
                      refine hK56 ?_
                      refine WC.ret fun a_ ha_ => ?_
                      exact hQ (cv_ret4 rfl (.tmp rfl) (.tmp rfl) (.tmp rfl) (.tmp rfl) (by have he : reqE xs wt = 0 := (by unfold reqE; rw [if_pos hok, if_pos (by rw [hsm]; omega)]); have hl : reqL xs wt = (opnZ xs wt) := (by unfold reqL; rw [if_pos he, if_pos (by rw [hsm]; omega), hsm, Int.toNat_natCast, hz, bump_no c46, set_same e35]); have hi : reqI xs wt = r34.id := (by unfold reqI; rw [if_pos he, if_pos (by rw [hsm]; omega), hz]); have hs : reqS xs wt = false := (by unfold reqS; rw [if_pos he, if_pos (by rw [hsm]; omega), hz]; exact decide_eq_false c46); rw [he, hl, hi, hs]; exact ⟨_, rfl, (hOr.less (fun x hx => (.tail _ hx)))⟩) hB ha_)
              ·
                refine WC.skip ?_
                refine hK32 ?_
                refine WC.region ?_
                refine WL.val (dx_move rfl rfl) rfl rfl ?_
                refine WL.val (dx_add (r := (i : Int) + 1) rfl rfl rfl (wrap64_id (by omega))) rfl rfl ?_
                refine WL.val (dx_assign rfl rfl) rfl rfl ?_
                refine WL.nil ?_
                exact hK27 (i + 1) ⟨(by omega), (by rw [hv]; exact idxX_step e35 ((sm_eq hb36).trans c39)), hB, hL, h1, hP, hOr, hO, k3⟩ (by omega) (by repeat first | exact trivial | exact And.intro rfl trivial | refine And.intro rfl ?_ | refine And.intro (congrArg (fun z : Int => some (Value.int .i64 z)) (by omega)) ?_)
          ·
            replace c31 := of_decide_eq_false c31
            refine WC.exit ?_
            refine hK25 ?_
            refine WC.seq fun K59 hK59 => ?_
            have hsn : ¬ 0 ≤ smAt xs wt := (by rw [smAt, hv, idxX_end (by omega)]; omega)
            refine WC.region ?_
            refine WL.val (dx_assign rfl rfl) rfl rfl ?_
            refine WL.nil ?_
            refine hK59 ?_
            refine WC.seq fun K60 hK60 => ?_
            refine WC.seq fun K61 hK61 => ?_
            refine WC.region ?_
            refine WL.val (dx_assign rfl rfl) rfl rfl ?_
            refine WL.nil ?_
            refine hK61 ?_
            refine WC.block ?_
            refine WC.loop2 (fun (j : Nat) (aq : Nat) => [(0, sv), (3, .pointer (some ⟨w.heap.size, 0, none⟩)), (8, u22), (11, .int .i64 (j : Int)), (10, .int .i64 (aq : Int))]) (fun (j : Nat) (aq : Nat) W => j ≤ (opnZ xs wt).length ∧ aq ≤ j ∧ ((opnZ xs wt).take j).any (twP wt) = false ∧ (∀ k a, k < aq → (opnZ xs wt)[k]? = some a → a.id ≤ wt.id) ∧ (∀ k a, aq ≤ k → k < j → (opnZ xs wt)[k]? = some a → wt.id < a.id) ∧ Below w.heap.size w W ∧ LL (w.heap.size :: L) W ∧ RdF 10 (w.heap.size :: L) W sv (xs.map encZ) ∧ SinceB W14 (w.heap.size :: L) W ∧ RdF 10 (w.heap.size :: L) W u22 ((opnZ xs wt).map encZ) ∧ NewW 10 W14.heap.size ((opnZ xs wt).map encZ) u22 W ∧ Blk W w.heap.size [.int .i64 wt.id, .string wt.sec, .string wt.med, .string wt.whr, .string wt.tok, .int .i64 wt.att, .int .i64 wt.since, .int .i64 wt.wrong, .bool wt.shown, .int .i64 wt.sat]) (fun (j : Nat) (aq : Nat) => (opnZ xs wt).length - j) 0 0 (by repeat first | exact trivial | exact And.intro rfl trivial | refine And.intro rfl ?_ | refine And.intro (congrArg (fun z : Int => some (Value.int .i64 z)) (by omega)) ?_) ⟨Nat.zero_le _, Nat.zero_le _, (by simp), (fun k a h => by omega), (fun k a h1 h2 => by omega), hB, hL, h1, hP, hOr, hO, k3⟩ ?_
            clear h1 hP hOr hO k3 hB hL
            rintro K62 j aq W63 ⟨hj, hq, ht, ha1, ha2, hB, hL, h1, hP, hOr, hO, k3⟩ hK62
            refine WC.seq fun K64 hK64 => ?_
            refine WC.seq fun K65 hK65 => ?_
            refine WC.region ?_
            refine WL.val (dx_move rfl rfl) rfl rfl ?_
            refine WL.val (dx_move rfl rfl) rfl rfl ?_
            refine WL.val (dx_lenX rfl ty_slice_22 rfl hOr) rfl rfl ?_
            refine WL.val (dx_lss rfl rfl rfl) rfl rfl ?_
            refine WL.nil ?_
            refine hK65 ?_
            refine WC.cond rfl (fun c66 => ?_) (fun c66 => ?_)
            ·
              replace c66 := of_decide_eq_true c66
              refine WC.skip ?_
              refine hK64 ?_
              refine WC.seq fun K67 hK67 => ?_
              refine WC.block ?_
              refine WC.seq fun K68 hK68 => ?_
              refine WC.seq fun K69 hK69 => ?_
              obtain ⟨r70, e71⟩ : ∃ x, (opnZ xs wt)[j]? = some x := ⟨_, List.getElem?_eq_getElem (by omega)⟩
              obtain ⟨b72, hb72⟩ : ∃ b, b = (decide (r70.id = wt.id)) := ⟨_, rfl⟩
              refine WC.drawM 18 [(some 90, .is (u22)), (some 91, .is (.int .i64 (j : Int))), (some 92, .by fun u W => PtR (w.heap.size :: L) W u (encZ r70)), (some 93, .by fun u W => PtR (w.heap.size :: L) W u [.int .i64 r70.id]), (some 94, .is (.int .i64 r70.id)), (some 95, .is (.pointer (some ⟨w.heap.size, 0, none⟩))), (some 96, .is (.int .i64 wt.id)), (some 97, .is (.bool (decide (r70.id = wt.id)))), (some 98, .is (.bool b72)), (some 99, .is (bif b72 then undef else u22)), (some 100, .is (bif b72 then undef else .int .i64 (j : Int))), (some 101, .by fun u W => b72 = false → PtR (w.heap.size :: L) W u (encZ r70)), (some 102, .by fun u W => b72 = false → PtR (w.heap.size :: L) W u [.string r70.tok]), (some 103, .is (bif b72 then undef else .string r70.tok)), (some 104, .is (bif b72 then undef else .pointer (some ⟨w.heap.size, 4, none⟩))), (some 105, .is (bif b72 then undef else .string wt.tok)), (some 106, .is (bif b72 then undef else .bool (decide (r70.tok = wt.tok)))), (some 107, .is (.bool (b72 || (decide (r70.tok = wt.tok)))))] [[], [], [0, 1], [2], [3], [], [5], [4, 6], [7], [8], [8], [9, 10, 8], [11, 8], [12, 8], [8], [14, 8], [13, 15, 8], [8, 16]] (by kernel_rfl) (by kernel_rfl) (by kernel_rfl) (by kernel_rfl) (by kernel_rfl) (by kernel_rfl) (by kernel_rfl) ⟨fun _ _ _ hb h => h.below hb, fun _ _ _ hb h => h.below hb, fun _ _ _ hb h g => (h g).below hb, fun _ _ _ hb h g => (h g).below hb, trivial⟩ ?_ ?_
              ·
                refine DSteps.cons (fun Wd hd => ?_) ?_
                ·
                  exact DV.dr (dx_move rfl rfl) ⟨Below.refl _ _, rfl⟩
                refine DSteps.cons (fun Wd hd => ?_) ?_
                ·
                  exact DV.dr (dx_move rfl rfl) ⟨Below.refl _ _, rfl⟩
                refine DSteps.cons (fun Wd hd => ?_) ?_
                ·
                  have hOr := hOr.below hd
                  exact (dx_idxF j rfl ty_slice_22 rfl rfl hOr (by omega) (at_mapX e71)).mono (fun v W' h => ⟨by rw [← h.1]; exact Below.refl _ _, by rw [← h.1]; exact h.2⟩)
                refine DSteps.cons (fun Wd hd => ?_) ?_
                ·
                  intro u16_2 p16_2
                  exact (dx_fldP 1 rfl ty_fld_26_0_0 rfl p16_2 (cs' := [.int .i64 r70.id]) rfl (Nat.succ_pos _)).mono (fun v W' h => ⟨by rw [← h.1]; exact Below.refl _ _, by rw [← h.1]; exact h.2⟩)
                refine DSteps.cons (fun Wd hd => ?_) ?_
                ·
                  intro u16_3 p16_3
                  exact DV.dr (dx_loadP rfl ty_one_3 rfl p16_3) ⟨Below.refl _ _, rfl⟩
                refine DSteps.cons (fun Wd hd => ?_) ?_
                ·
                  exact DV.dr (dx_fld (o1 := 0) rfl ty_fld_26_0_0 rfl rfl) ⟨Below.refl _ _, rfl⟩
                refine DSteps.cons (fun Wd hd => ?_) ?_
                ·
                  have k3 := k3.below hd
                  exact DV.dr (dx_load rfl ty_one_3 rfl (k3.cell (k := 0) rfl)) ⟨Below.refl _ _, rfl⟩
                refine DSteps.cons (fun Wd hd => ?_) ?_
                ·
                  exact DV.dr (dx_eql rfl rfl rfl) ⟨Below.refl _ _, rfl⟩
                refine DSteps.cons (fun Wd hd => ?_) ?_
                ·
                  exact DV.dr (dx_move rfl rfl) ⟨Below.refl _ _, by rw [hb72]; rfl⟩
                refine DSteps.cons (fun Wd hd => ?_) ?_
                ·
                  cases b72
                  ·
                    exact DV.dr (dx_move rfl rfl) ⟨Below.refl _ _, rfl⟩
                  ·
                    exact DV.dr (dv_off rfl) ⟨Below.refl _ _, rfl⟩
                refine DSteps.cons (fun Wd hd => ?_) ?_
                ·
                  cases b72
                  ·
                    exact DV.dr (dx_move rfl rfl) ⟨Below.refl _ _, rfl⟩
                  ·
                    exact DV.dr (dv_off rfl) ⟨Below.refl _ _, rfl⟩
                refine DSteps.cons (fun Wd hd => ?_) ?_
                ·
                  cases b72
                  ·
                    have hOr := hOr.below hd
                    exact (dx_idxF j rfl ty_slice_22 rfl rfl hOr (by omega) (at_mapX e71)).mono (fun v W' h => ⟨by rw [← h.1]; exact Below.refl _ _, fun _ => by rw [← h.1]; exact h.2⟩)
                  ·
                    exact DV.dr (dv_off rfl) ⟨Below.refl _ _, fun h => by cases h⟩
                refine DSteps.cons (fun Wd hd => ?_) ?_
                ·
                  intro u16_11 p16_11
                  cases b72
                  ·
                    replace p16_11 := p16_11 rfl
                    exact (dx_fldP 1 rfl ty_fld_26_3_4 rfl p16_11 (cs' := [.string r70.tok]) rfl (Nat.succ_pos _)).mono (fun v W' h => ⟨by rw [← h.1]; exact Below.refl _ _, fun _ => by rw [← h.1]; exact h.2⟩)
                  ·
                    exact DV.dr (dv_off rfl) ⟨Below.refl _ _, fun h => by cases h⟩
                refine DSteps.cons (fun Wd hd => ?_) ?_
                ·
                  intro u16_12 p16_12
                  cases b72
                  ·
                    replace p16_12 := p16_12 rfl
                    exact DV.dr (dx_loadP rfl ty_one_9 rfl p16_12) ⟨Below.refl _ _, rfl⟩
                  ·
                    exact DV.dr (dv_off rfl) ⟨Below.refl _ _, rfl⟩
                refine DSteps.cons (fun Wd hd => ?_) ?_
                ·
                  cases b72
                  ·
                    exact DV.dr (dx_fld (o1 := 4) rfl ty_fld_26_3_4 rfl rfl) ⟨Below.refl _ _, rfl⟩
                  ·
                    exact DV.dr (dv_off rfl) ⟨Below.refl _ _, rfl⟩
                refine DSteps.cons (fun Wd hd => ?_) ?_
                ·
                  cases b72
                  ·
                    have k3 := k3.below hd
                    exact DV.dr (dx_load rfl ty_one_9 rfl (k3.cell (k := 4) rfl)) ⟨Below.refl _ _, rfl⟩
                  ·
                    exact DV.dr (dv_off rfl) ⟨Below.refl _ _, rfl⟩
                refine DSteps.cons (fun Wd hd => ?_) ?_
                ·
                  cases b72
                  ·
                    exact DV.dr (dx_eqlT rfl rfl rfl) ⟨Below.refl _ _, rfl⟩
                  ·
                    exact DV.dr (dv_off rfl) ⟨Below.refl _ _, rfl⟩
                refine DSteps.cons (fun Wd hd => ?_) ?_
                ·
                  cases b72
                  ·
                    exact DV.dr (dx_pick rfl rfl rfl) ⟨Below.refl _ _, rfl⟩
                  ·
                    exact DV.dr (dx_pick rfl rfl rfl) ⟨Below.refl _ _, rfl⟩
                exact trivial
              ·
                intro W73 b74
                intro u16_2 p16_2
                intro u16_3 p16_3
                intro _ _
                intro _ _
                replace h1 := h1.below b74
                replace hP := hP.below b74
                replace hOr := hOr.below b74
                replace hO := hO.below b74
                replace k3 := k3.below b74
                replace hB := below_then hB b74
                replace hL := LL.below hL b74
                refine WL.nil ?_
                refine hK69 ?_
                refine WC.cond rfl (fun c75 => ?_) (fun c75 => ?_)
                ·
                  refine WC.seq fun K76 hK76 => ?_
                  refine WC.region ?_
                  refine WL.val (dx_move rfl rfl) rfl rfl ?_
                  refine WL.val (dx_assign rfl rfl) rfl rfl ?_
                  refine WL.val (dx_assign rfl rfl) rfl rfl ?_
                  refine WL.val (dx_assign rfl rfl) rfl rfl ?_
                  refine WL.val (dx_assign rfl rfl) rfl rfl ?_
                  refine WL.nil ?_
                  refine hK76 ?_
                  refine WC.ret fun a_ ha_ => ?_
                  exact hQ (cv_ret4 rfl (.tmp rfl) (.tmp rfl) (.tmp rfl) (.tmp rfl) (by have he : reqE xs wt = 6 := (by unfold reqE; rw [if_pos hok, if_neg hsn, if_pos (List.any_eq_true.2 ⟨r70, List.mem_of_getElem? e71, (tw_eq hb72).trans c75⟩)]); have hn : ¬ reqE xs wt = 0 := (by rw [he]; decide); have hl : reqL xs wt = xs := (by unfold reqL; rw [if_neg hn]); have hi : reqI xs wt = 0 := (by unfold reqI; rw [if_neg hn]); have hs : reqS xs wt = false := (by unfold reqS; rw [if_neg hn]); rw [he, hl, hi, hs]; exact ⟨_, rfl, (h1.less (fun x hx => (.tail _ hx)))⟩) hB ha_)
                ·
                  obtain ⟨g77, g78⟩ := bor_f c75
                  replace g77 := bvar_f g77
                  replace g78 := of_decide_eq_false g78
                  refine WC.skip ?_
                  refine hK68 ?_
                  refine WC.seq fun K79 hK79 => ?_
                  refine WC.drawM 7 [(some 109, .is (u22)), (some 110, .is (.int .i64 (j : Int))), (some 111, .by fun u W => PtR (w.heap.size :: L) W u (encZ r70)), (some 112, .by fun u W => PtR (w.heap.size :: L) W u [.int .i64 r70.id]), (some 113, .is (.int .i64 r70.id)), (some 114, .is (.pointer (some ⟨w.heap.size, 0, none⟩))), (some 115, .is (.int .i64 wt.id))] [[], [], [0, 1], [2], [3], [], [5]] (by kernel_rfl) (by kernel_rfl) (by kernel_rfl) (by kernel_rfl) (by kernel_rfl) (by kernel_rfl) (by kernel_rfl) ⟨fun _ _ _ hb h => h.below hb, fun _ _ _ hb h => h.below hb, trivial⟩ ?_ ?_
                  ·
                    refine DSteps.cons (fun Wd hd => ?_) ?_
                    ·
                      exact DV.dr (dx_move rfl rfl) ⟨Below.refl _ _, rfl⟩
                    refine DSteps.cons (fun Wd hd => ?_) ?_
                    ·
                      exact DV.dr (dx_move rfl rfl) ⟨Below.refl _ _, rfl⟩
                    refine DSteps.cons (fun Wd hd => ?_) ?_
                    ·
                      have hOr := hOr.below hd
                      exact (dx_idxF j rfl ty_slice_22 rfl rfl hOr (by omega) (at_mapX e71)).mono (fun v W' h => ⟨by rw [← h.1]; exact Below.refl _ _, by rw [← h.1]; exact h.2⟩)
                    refine DSteps.cons (fun Wd hd => ?_) ?_
                    ·
                      intro u18_2 p18_2
                      exact (dx_fldP 1 rfl ty_fld_26_0_0 rfl p18_2 (cs' := [.int .i64 r70.id]) rfl (Nat.succ_pos _)).mono (fun v W' h => ⟨by rw [← h.1]; exact Below.refl _ _, by rw [← h.1]; exact h.2⟩)
                    refine DSteps.cons (fun Wd hd => ?_) ?_
                    ·
                      intro u18_3 p18_3
                      exact DV.dr (dx_loadP rfl ty_one_3 rfl p18_3) ⟨Below.refl _ _, rfl⟩
                    refine DSteps.cons (fun Wd hd => ?_) ?_
                    ·
                      exact DV.dr (dx_fld (o1 := 0) rfl ty_fld_26_0_0 rfl rfl) ⟨Below.refl _ _, rfl⟩
                    refine DSteps.cons (fun Wd hd => ?_) ?_
                    ·
                      have k3 := k3.below hd
                      exact DV.dr (dx_load rfl ty_one_3 rfl (k3.cell (k := 0) rfl)) ⟨Below.refl _ _, rfl⟩
                    exact trivial
                  ·
                    intro W80 b81
                    intro u18_2 p18_2
                    intro u18_3 p18_3
                    replace h1 := h1.below b81
                    replace hP := hP.below b81
                    replace hOr := hOr.below b81
                    replace hO := hO.below b81
                    replace k3 := k3.below b81
                    replace hB := below_then hB b81
                    replace hL := LL.below hL b81
                    refine WL.val (dx_lss rfl rfl rfl) rfl rfl ?_
                    refine WL.nil ?_
                    refine hK79 ?_
                    refine WC.cond rfl (fun c82 => ?_) (fun c82 => ?_)
                    ·
                      replace c82 := of_decide_eq_true c82
                      refine WC.region ?_
                      refine WL.val (dx_move rfl rfl) rfl rfl ?_
                      refine WL.val (dx_add (r := (j : Int) + 1) rfl rfl rfl (wrap64_id (by omega))) rfl rfl ?_
                      refine WL.val (dx_assign rfl rfl) rfl rfl ?_
                      refine WL.nil ?_
                      refine hK67 ?_
                      refine WC.region ?_
                      refine WL.val (dx_move rfl rfl) rfl rfl ?_
                      refine WL.val (dx_add (r := (j : Int) + 1) rfl rfl rfl (wrap64_id (by omega))) rfl rfl ?_
                      refine WL.val (dx_assign rfl rfl) rfl rfl ?_
                      refine WL.nil ?_
                      exact hK62 (j + 1) (j + 1) ⟨(by omega), (by omega), (any_step ht e71 (tw_no hb72 g77 g78)), (at_yes hor e71 c82), (fun k a h1 h2 => by omega), hB, hL, h1, hP, hOr, hO, k3⟩ (by omega) (by repeat first | exact trivial | exact And.intro rfl trivial | refine And.intro rfl ?_ | refine And.intro (congrArg (fun z : Int => some (Value.int .i64 z)) (by omega)) ?_)
                    ·
                      replace c82 := of_decide_eq_false c82
                      refine WC.skip ?_
                      refine hK67 ?_
                      refine WC.region ?_
                      refine WL.val (dx_move rfl rfl) rfl rfl ?_
                      refine WL.val (dx_add (r := (j : Int) + 1) rfl rfl rfl (wrap64_id (by omega))) rfl rfl ?_
                      refine WL.val (dx_assign rfl rfl) rfl rfl ?_
                      refine WL.nil ?_
                      exact hK62 (j + 1) aq ⟨(by omega), (by omega), (any_step ht e71 (tw_no hb72 g77 g78)), ha1, (at_no ha2 e71 c82 (tw_ne hb72 g77)), hB, hL, h1, hP, hOr, hO, k3⟩ (by omega) (by repeat first | exact trivial | exact And.intro rfl trivial | refine And.intro rfl ?_ | refine And.intro (congrArg (fun z : Int => some (Value.int .i64 z)) (by omega)) ?_)
            ·
              replace c66 := of_decide_eq_false c66
              refine WC.exit ?_
              refine hK60 ?_
              refine WC.seq fun K83 hK83 => ?_
              refine WC.seq fun K84 hK84 => ?_
              refine WC.region ?_
              refine WL.val (dx_move rfl rfl) rfl rfl ?_
              refine WL.val (dx_lenX rfl ty_slice_22 rfl hOr) rfl rfl ?_
              refine WL.val (dx_eql rfl rfl rfl) rfl rfl ?_
              refine WL.nil ?_
              refine hK84 ?_
              refine WC.cond rfl (fun c85 => ?_) (fun c85 => ?_)
              ·
                replace c85 := of_decide_eq_true c85
                refine WC.seq fun K86 hK86 => ?_
                refine WC.region ?_
                refine WL.val (dx_move rfl rfl) rfl rfl ?_
                refine WL.val (dx_assign rfl rfl) rfl rfl ?_
                refine WL.val (dx_assign rfl rfl) rfl rfl ?_
                refine WL.val (dx_assign rfl rfl) rfl rfl ?_
                refine WL.val (dx_assign rfl rfl) rfl rfl ?_
                refine WL.nil ?_
                refine hK86 ?_
                refine WC.ret fun a_ ha_ => ?_
                exact hQ (cv_ret4 rfl (.tmp rfl) (.tmp rfl) (.tmp rfl) (.tmp rfl) (by have he : reqE xs wt = 10 := (by have hta : (opnZ xs wt).any (twP wt) = false := (by rw [← List.take_of_length_le (l := (opnZ xs wt)) (i := j) (by omega)]; exact ht); unfold reqE; rw [if_pos hok, if_neg hsn, if_neg (by rw [hta]; decide), if_pos (by assumption)]); have hn : ¬ reqE xs wt = 0 := (by rw [he]; decide); have hl : reqL xs wt = xs := (by unfold reqL; rw [if_neg hn]); have hi : reqI xs wt = 0 := (by unfold reqI; rw [if_neg hn]); have hs : reqS xs wt = false := (by unfold reqS; rw [if_neg hn]); rw [he, hl, hi, hs]; exact ⟨_, rfl, (h1.less (fun x hx => (.tail _ hx)))⟩) hB ha_)
              ·
                replace c85 := of_decide_eq_false c85
                refine WC.skip ?_
                refine hK83 ?_
                refine WC.seq fun K87 hK87 => ?_
                have hra : reqAt (opnZ xs wt) wt.id = aq := reqAt_is ((rightZ_iff (opnZ xs wt)).1 hor).2.2.1 (by omega) ha1 (fun k a h1 h2 => ha2 k a h1 (by have := (List.getElem?_eq_some_iff.1 h2).1; omega) h2)
                have hal : aq ≤ (opnZ xs wt).length := (by omega)
                have hta : (opnZ xs wt).any (twP wt) = false := (by rw [← List.take_of_length_le (l := (opnZ xs wt)) (i := j) (by omega)]; exact ht)
                have wOr := hOr
                have whL := hL
                refine WC.drawK 15 [(7, KeepR 10 W63.heap.size (max aq 1), [7, 11, 14]), (11, KeepR 10 W63.heap.size (aq + 1), [11, 14])] [(some 123, .by fun u W => NewE 10 W63.heap.size u W), (some 124, .is (u22)), (some 125, .is (.int .i64 (aq : Int))), (some 126, .by fun u W => RdZ 10 (w.heap.size :: L) W63 u (((opnZ xs wt).map encZ).take aq) W), (some 127, .by fun u W => NewS 10 W63.heap.size (((opnZ xs wt).map encZ).take aq) u W), (some 128, .is (.agg #[.int .i64 wt.id, .string wt.sec, .string wt.med, .string wt.whr, .string wt.tok, .int .i64 wt.att, .int .i64 wt.since, .int .i64 wt.wrong, .bool wt.shown, .int .i64 wt.sat])), (some 129, .by fun u W => NewS 10 W63.heap.size [encZ wt] u W), (some 130, .by fun u W => NewW 10 W63.heap.size (((opnZ xs wt).map encZ).take aq ++ [encZ wt]) u W), (some 131, .is (u22)), (some 132, .is (.int .i64 (aq : Int))), (some 133, .by fun u W => RdZ 10 (w.heap.size :: L) W63 u (((opnZ xs wt).map encZ).drop aq) W), (some 134, .by fun u W => NewW 10 W63.heap.size (((opnZ xs wt).map encZ).take aq ++ [encZ wt] ++ ((opnZ xs wt).map encZ).drop aq) u W), (some 135, .is (.pointer (some ⟨w.heap.size, 0, none⟩))), (some 136, .is (.int .i64 wt.id)), (some 4, .by fun u W => NewW 10 W63.heap.size (((opnZ xs wt).map encZ).take aq ++ [encZ wt] ++ ((opnZ xs wt).map encZ).drop aq) u W)] [[], [], [], [1, 2], [0, 3], [], [5], [4, 6, 4], [], [], [8, 9], [7, 10, 7], [], [12], [11, 11, 0, 1, 2, 3, 4, 5, 6, 7, 8, 9, 10, 11]] (by kernel_rfl) (by kernel_rfl) (by kernel_rfl) (by kernel_rfl) (by kernel_rfl) (by kernel_rfl) (by kernel_rfl) ⟨fun _ _ _ hb h => h.below hb, fun _ _ _ hb h => h.below hb, fun _ _ _ hb h => h.below hb, fun _ _ _ hb h => h.below hb, fun _ _ _ hb h => h.below hb, fun _ _ _ hb h => h.below hb, fun _ _ _ hb h => h.below hb, fun _ _ _ hb h => h.below hb, trivial⟩ ⟨⟨rfl, ⟨fun _ _ _ hk h => h.keep hk, fun _ _ _ hk h => h.keep hk, fun _ _ _ hk h => h.keep hk (by first | (rw [tkz hal]; omega) | (simp; done) | (simp; omega)), fun _ _ _ hk h => h.keep hk (by first | (rw [tkz hal]; omega) | (simp; done) | (simp; omega)), fun _ _ _ hk h => h.keep hk, trivial⟩, fun _ _ hb h => h.base hb.size hb⟩, ⟨rfl, ⟨fun _ _ _ hk h => h.keep hk, fun _ _ _ hk h => h.keep hk, fun _ _ _ hk h => h.keep hk (by first | (rw [tkz hal]; omega) | (rw [List.length_append, tkz hal]; exact Nat.le_refl _) | (simp; done) | (simp; omega)), fun _ _ _ hk h => h.keep hk (by first | (rw [tkz hal]; omega) | (rw [List.length_append, tkz hal]; exact Nat.le_refl _) | (simp; done) | (simp; omega)), fun _ _ _ hk h => h.keep (by simp) hk (by first | (rw [tkz hal]; omega) | (rw [List.length_append, tkz hal]; exact Nat.le_refl _) | (simp; done) | (simp; omega)), fun _ _ _ hk h => h.keep hk, trivial⟩, fun _ _ hb h => h.base hb.size hb⟩, trivial⟩ ?_ ?_
                ·
                  refine DStepsK.cons rfl (fun Wd hd => ?_) ?_
                  ·
                    exact (dx_lit0E rfl ty_ap_22 (by decide)).mono (fun v W' h => ⟨h.1, h.2.le hd.size⟩)
                  refine DStepsK.cons rfl (fun Wd hd => ?_) ?_
                  ·
                    exact DV.dr (dx_move rfl rfl) ⟨Below.refl _ _, rfl⟩
                  refine DStepsK.cons rfl (fun Wd hd => ?_) ?_
                  ·
                    exact DV.dr (dx_move rfl rfl) ⟨Below.refl _ _, rfl⟩
                  refine DStepsK.cons rfl (fun Wd hd => ?_) ?_
                  ·
                    exact (dx_rdH aq rfl ty_slice_22 rfl rfl rfl wOr (by rw [List.length_map]; exact hal)).mono (fun v W' h => ⟨by rw [← h.1]; exact Below.refl _ _, h.2⟩)
                  refine DStepsK.cons rfl (fun Wd hd => ?_) ?_
                  ·
                    intro u22_0 p22_0 u22_3 p22_3
                    exact (dx_apN (base := W63.heap.size) rfl ty_ap_22 rfl rfl p22_0 ((show RdF 10 (w.heap.size :: L) W63 u22_3 _ from p22_3).below hd) (tkzo _ _) (by rw [tkz hal]; unfold maxLen; omega) (by rw [tkz hal]; omega) hd.size).mono (fun v W' h => ⟨h.1, h.2⟩)
                  refine DStepsK.cons rfl (fun Wd hd => ?_) ?_
                  ·
                    have k3 := k3.below hd
                    exact DV.dr (dx_loadN rfl ty_agg_26_10 rfl k3.range rfl) ⟨Below.refl _ _, rfl⟩
                  refine DStepsK.cons rfl (fun Wd hd => ?_) ?_
                  ·
                    exact (dx_lit1 (r := encZ wt) rfl ty_ap_22 (by decide) (by decide) rfl rfl rfl).mono (fun v W' h => ⟨h.2.1, NewS.of_own h.1 hd.size (by simp)⟩)
                  refine DStepsK.hit rfl (fun Wd hd => ?_) ?_
                  ·
                    intro u22_4 p22_4 u22_6 p22_6 u22_4 p22_4
                    exact (dx_apR (n := max aq 1) rfl ty_ap_22 rfl rfl p22_4 (p22_6.rd (L := []) (by simp)) (oc_Z wt) (by rw [tkz hal]; unfold maxLen; omega) (by rw [tkz hal]; omega) hd.size (by rw [tkz hal]; omega) (by rw [tkz hal]; omega)).mono (fun v W' h => ⟨h.1, h.2⟩)
                  refine DStepsK.cons rfl (fun Wd hd => ?_) ?_
                  ·
                    exact DV.dr (dx_move rfl rfl) ⟨Below.refl _ _, rfl⟩
                  refine DStepsK.cons rfl (fun Wd hd => ?_) ?_
                  ·
                    exact DV.dr (dx_move rfl rfl) ⟨Below.refl _ _, rfl⟩
                  refine DStepsK.cons rfl (fun Wd hd => ?_) ?_
                  ·
                    exact (dx_rdL aq rfl ty_slice_22 rfl rfl rfl wOr (by rw [List.length_map]; exact hal)).mono (fun v W' h => ⟨by rw [← h.1]; exact Below.refl _ _, h.2⟩)
                  refine DStepsK.hit rfl (fun Wd hd => ?_) ?_
                  ·
                    intro u22_7 p22_7 u22_10 p22_10 u22_7 p22_7
                    exact (dx_apK (n := aq + 1) rfl ty_ap_22 rfl rfl p22_7 (by simp) ((show RdF 10 (w.heap.size :: L) W63 u22_10 _ from p22_10).below hd) (dpzo _ _) (by rw [List.length_append, tkz hal, dpz, show [encZ wt].length = 1 from rfl]; unfold maxLen; omega) (by rw [List.length_append, tkz hal, dpz, show [encZ wt].length = 1 from rfl]; omega) hd.size (by rw [List.length_append, tkz hal]; rfl)).mono (fun v W' h => ⟨h.1, h.2⟩)
                  refine DStepsK.cons rfl (fun Wd hd => ?_) ?_
                  ·
                    exact DV.dr (dx_fld (o1 := 0) rfl ty_fld_26_0_0 rfl rfl) ⟨Below.refl _ _, rfl⟩
                  refine DStepsK.cons rfl (fun Wd hd => ?_) ?_
                  ·
                    have k3 := k3.below hd
                    exact DV.dr (dx_load rfl ty_one_3 rfl (k3.cell (k := 0) rfl)) ⟨Below.refl _ _, rfl⟩
                  refine DStepsK.cons rfl (fun Wd hd => ?_) ?_
                  ·
                    intro u22_11 p22_11 u22_11 p22_11 u22_0 p22_0 u22_3 p22_3 u22_4 p22_4 u22_6 p22_6 u22_7 p22_7 u22_10 p22_10 u22_11 p22_11
                    exact DV.dr (dx_assign rfl rfl) ⟨Below.refl _ _, p22_11⟩
                  exact trivial
                ·
                  intro W88 b89
                  intro _ _
                  intro u22_3 p22_3
                  intro u22_4 p22_4
                  intro u22_6 p22_6
                  intro u22_7 p22_7
                  intro u22_10 p22_10
                  intro u22_11 p22_11
                  intro u22_14 p22_14
                  replace h1 := h1.below b89
                  replace hP := hP.below b89
                  replace hOr := hOr.below b89
                  replace hO := hO.below b89
                  replace k3 := k3.below b89
                  replace hB := below_then hB b89
                  replace hL := LL.below hL b89
                  refine WL.val (dx_assign rfl rfl) rfl rfl ?_
                  refine WL.val (dx_assign rfl rfl) rfl rfl ?_
                  refine WL.val (dx_assign rfl rfl) rfl rfl ?_
                  refine WL.nil ?_
                  refine hK87 ?_
                  refine WC.ret fun a_ ha_ => ?_
                  exact hQ (cv_ret4 rfl (.tmp rfl) (.tmp rfl) (.tmp rfl) (.tmp rfl) (by have he : reqE xs wt = 0 := (by unfold reqE; rw [if_pos hok, if_neg hsn, if_neg (by rw [hta]; decide), if_neg (by assumption)]); have hl : reqL xs wt = (opnZ xs wt).take aq ++ wt :: (opnZ xs wt).drop aq := (by unfold reqL; rw [if_pos he, if_neg hsn, hra]); have hi : reqI xs wt = wt.id := (by unfold reqI; rw [if_pos he, if_neg hsn]); have hs : reqS xs wt = true := (by unfold reqS; rw [if_pos he, if_neg hsn]); rw [he, hl, hi, hs]; rw [ins_rowsK] at p22_14; exact ⟨_, rfl, p22_14.rd (fun y hy => whL y (.tail _ hy))⟩) hB ha_)

end Go.Proofs.YthllidchoodofaaDoor
namespace Go.Proofs.YthllidchoodofaaDoor
open Go.RowKit
set_option linter.unusedVariables false
set_option linter.unusedSimpArgs false
set_option maxRecDepth 8000

theorem small_of {xs : List SesX} (h : SzZ xs) : smallZ xs := fun b hb => (h b hb).2.2
theorem small_req {xs : List SesX} {wt : SesX} (h : smallZ xs) (hw : wt.whr.size ≤ 140737488355328) : smallZ (reqL xs wt) := by
  have ho : ∀ b ∈ opnZ xs wt, b.whr.size ≤ 140737488355328 := fun b hb => h b ((prune_sub xs wt.since).mem hb)
  unfold reqL
  split
  · split
    · intro b hb
      rcases List.mem_or_eq_of_mem_set hb with hb | rfl
      · exact ho b hb
      · show (hitZ xs wt).whr.size ≤ _
        unfold hitZ
        cases hg : (opnZ xs wt)[(smAt xs wt).toNat]? with
        | none => show (ByteArray.mk #[]).size ≤ _; decide
        | some a => exact ho a (List.mem_of_getElem? hg)
    · intro b hb
      rcases List.mem_append.1 hb with hb | hb
      · exact ho b (List.mem_of_mem_take hb)
      · rcases List.mem_cons.1 hb with rfl | hb
        · exact hw
        · exact ho b (List.mem_of_mem_drop hb)
  · exact h
set_option maxHeartbeats 1000000 in
theorem sessionRequests_v (xs : List SesX) (wt : SesX) (sv : Value) (w : World) (L : List Nat) (hL : LL L w) (h1 : RdF 10 L w sv (xs.map encZ)) (hM : MaxL L w)  (hz : SzZ xs) (hw : SzO wt) : CV Tryd.prog 3 [sv, .agg #[.int .i64 wt.id, .string wt.sec, .string wt.med, .string wt.whr, .string wt.tok, .int .i64 wt.att, .int .i64 wt.since, .int .i64 wt.wrong, .bool wt.shown, .int .i64 wt.sat]] w fun v W => v = .bool true := by
  refine cv_enter (N := 75) (f := [(0, sv), (1, .agg #[.int .i64 wt.id, .string wt.sec, .string wt.med, .string wt.whr, .string wt.tok, .int .i64 wt.att, .int .i64 wt.since, .int .i64 wt.wrong, .bool wt.shown, .int .i64 wt.sat])]) Tryd.func3 rfl rfl rfl rfl fun Q hQ hE => ?_
  have hB := Below.refl w.heap.size w
  have h1m : xs.length ≤ maxLen := by have := h1.len; rwa [List.length_map] at this
  unfold maxLen at h1m
  refine WC.seq fun K1 hK1 => ?_
  have hsm := small_of hz
  refine WC.region ?_
  refine WL.get (dx_box rfl rfl rfl) rfl rfl ?_
  rintro _ W2 ⟨rfl, k3, b4, z5⟩
  have l6 := hB.size
  replace h1 := h1.more b4 (Nat.le_refl _)
  replace hM := hM.more b4 (Nat.le_refl _)
  replace hB := below_then hB b4
  replace hL := LL.more hL z5
  refine WL.val (dx_assign rfl rfl) rfl rfl ?_
  refine WL.nil ?_
  refine hK1 ?_
  refine WC.seq fun K7 hK7 => ?_
  refine WC.seq fun K8 hK8 => ?_
  refine WC.region ?_
  refine WL.get (dx_cv rfl Tryd.func6 rfl rfl rfl (alive16_v W2 _ hL hM)) rfl rfl ?_
  rintro _ W10 ⟨rfl, b9⟩
  replace h1 := h1.below b9
  replace hM := hM.below b9
  replace k3 := k3.below b9
  replace hB := below_then hB b9
  replace hL := LL.below hL b9
  refine WL.val (dx_not rfl rfl) rfl rfl ?_
  refine WL.nil ?_
  refine hK8 ?_
  refine WC.condF rfl ?_
  refine WC.skip ?_
  refine hK7 ?_
  refine WC.seq fun K11 hK11 => ?_
  refine WC.seq fun K12 hK12 => ?_
  refine WC.region ?_
  refine WL.val (dx_move rfl rfl) rfl rfl ?_
  refine WL.get (dx_cv rfl Tryd.func7 rfl rfl rfl (great16_v xs _ W10 _ hL h1)) rfl rfl ?_
  rintro _ W14 ⟨rfl, b13⟩
  replace h1 := h1.below b13
  replace hM := hM.below b13
  replace k3 := k3.below b13
  replace hB := below_then hB b13
  replace hL := LL.below hL b13
  refine WL.nil ?_
  refine hK12 ?_
  refine WC.cond rfl (fun c15 => ?_) (fun c15 => ?_)
  ·
    replace c15 := of_decide_eq_true c15
    refine WC.seq fun K16 hK16 => ?_
    refine WC.region ?_
    refine WL.val (dx_assign rfl rfl) rfl rfl ?_
    refine WL.nil ?_
    refine hK16 ?_
    refine WC.ret fun a_ ha_ => ?_
    exact hQ (cv_ret1 rfl (.tmp rfl) rfl hB ha_)
  ·
    replace c15 := of_decide_eq_false c15
    refine WC.skip ?_
    refine hK11 ?_
    refine WC.seq fun K17 hK17 => ?_
    refine WC.region ?_
    have hLs := hL
    refine WL.get (dx_lit0E rfl ty_ap_22 (by decide)) rfl rfl ?_
    rintro u18 W19 ⟨b20, hE⟩
    replace h1 := h1.below b20
    replace hM := hM.below b20
    replace k3 := k3.below b20
    replace hB := below_then hB b20
    replace hL := LL.below hL b20
    refine WL.val (dx_move rfl rfl) rfl rfl ?_
    refine WL.get (dx_apN rfl ty_ap_22 rfl rfl hE h1 (oc_rowsX oc_Z xs) (by rw [List.length_map]; unfold maxLen; omega) (by rw [List.length_map]; omega) b20.size) rfl rfl ?_
    rintro u21 W22 ⟨b23, hN⟩
    replace h1 := h1.below b23
    replace hM := hM.below b23
    replace k3 := k3.below b23
    replace hB := below_then hB b23
    replace hL := LL.below hL b23
    have h5 := hN.rd (fun x hx => hLs x hx)
    replace hE := trivial
    replace hN := trivial
    refine WL.val (dx_assign rfl rfl) rfl rfl ?_
    refine WL.nil ?_
    refine hK17 ?_
    refine WC.seq fun K24 hK24 => ?_
    refine WC.region ?_
    refine WL.val (dx_move rfl rfl) rfl rfl ?_
    refine WL.val (dx_loadN rfl ty_agg_26_10 rfl k3.range rfl) rfl rfl ?_
    refine WL.get (dx_cv rfl Tryd.func8 rfl rfl rfl (request_v xs wt _ W22 _ hL h5 hM hsm hw.2.2)) rfl rfl ?_
    rintro _ W28 ⟨⟨u25, rfl, j26⟩, b27⟩
    replace h1 := h1.below b27
    replace hM := hM.below b27
    replace h5 := h5.below b27
    replace k3 := k3.below b27
    replace hB := below_then hB b27
    replace hL := LL.below hL b27
    refine WL.val (dx_move rfl rfl) rfl rfl ?_
    refine WL.val (dx_extract rfl rfl rfl) rfl rfl ?_
    refine WL.val (dx_extract rfl rfl rfl) rfl rfl ?_
    refine WL.val (dx_extract rfl rfl rfl) rfl rfl ?_
    refine WL.val (dx_extract rfl rfl rfl) rfl rfl ?_
    refine WL.val (dx_assign rfl rfl) rfl rfl ?_
    refine WL.val (dx_assign rfl rfl) rfl rfl ?_
    refine WL.val (dx_assign rfl rfl) rfl rfl ?_
    refine WL.val (dx_assign rfl rfl) rfl rfl ?_
    refine WL.nil ?_
    refine hK24 ?_
    refine WC.seq fun K29 hK29 => ?_
    refine WC.region ?_
    refine WL.val (dx_move rfl rfl) rfl rfl ?_
    refine WL.val (dx_loadN rfl ty_agg_26_10 rfl k3.range rfl) rfl rfl ?_
    refine WL.get (dx_cv rfl Tryd.func9 rfl rfl rfl (refRequest_v xs wt _ W28 _ hL h1 hz hw)) rfl rfl ?_
    rintro _ W33 ⟨⟨u30, rfl, j31⟩, b32⟩
    replace h1 := h1.below b32
    replace hM := hM.below b32
    replace h5 := h5.below b32
    replace j26 := j26.below b32
    replace k3 := k3.below b32
    replace hB := below_then hB b32
    replace hL := LL.below hL b32
    refine WL.val (dx_move rfl rfl) rfl rfl ?_
    refine WL.val (dx_extract rfl rfl rfl) rfl rfl ?_
    refine WL.val (dx_extract rfl rfl rfl) rfl rfl ?_
    refine WL.val (dx_extract rfl rfl rfl) rfl rfl ?_
    refine WL.val (dx_extract rfl rfl rfl) rfl rfl ?_
    refine WL.val (dx_assign rfl rfl) rfl rfl ?_
    refine WL.val (dx_assign rfl rfl) rfl rfl ?_
    refine WL.val (dx_assign rfl rfl) rfl rfl ?_
    refine WL.val (dx_assign rfl rfl) rfl rfl ?_
    refine WL.nil ?_
    refine hK29 ?_
    refine WC.seq fun K34 hK34 => ?_
    refine WC.region ?_
    refine WL.val (dx_move rfl rfl) rfl rfl ?_
    refine WL.val (dx_move rfl rfl) rfl rfl ?_
    refine WL.get (dx_cv rfl Tryd.func10 rfl rfl rfl (sameL_v (reqL xs wt) _ _ W33 _ hL j26 j31)) rfl rfl ?_
    rintro _ W36 ⟨rfl, b35⟩
    replace h1 := h1.below b35
    replace hM := hM.below b35
    replace h5 := h5.below b35
    replace j26 := j26.below b35
    replace j31 := j31.below b35
    replace k3 := k3.below b35
    replace hB := below_then hB b35
    replace hL := LL.below hL b35
    refine WL.val (dx_move rfl rfl) rfl rfl ?_
    refine WL.val (dx_move rfl rfl) rfl rfl ?_
    refine WL.val (dx_move rfl rfl) rfl rfl ?_
    refine WL.val (dv_T (dx_eql rfl rfl rfl) rfl) rfl rfl ?_
    refine WL.val (dx_pick rfl rfl rfl) rfl rfl ?_
    refine WL.val (dx_move rfl rfl) rfl rfl ?_
    refine WL.val (dx_move rfl rfl) rfl rfl ?_
    refine WL.val (dx_move rfl rfl) rfl rfl ?_
    refine WL.val (dv_T (dx_eqB rfl Tryd.underlying4 rfl rfl) rfl) rfl rfl ?_
    refine WL.val (dx_pick rfl rfl rfl) rfl rfl ?_
    refine WL.val (dx_move rfl rfl) rfl rfl ?_
    refine WL.val (dx_move rfl rfl) rfl rfl ?_
    refine WL.val (dx_move rfl rfl) rfl rfl ?_
    refine WL.val (dv_T (dx_eql rfl rfl rfl) rfl) rfl rfl ?_
    refine WL.val (dx_pick rfl rfl rfl) rfl rfl ?_
    refine WL.val (dx_move rfl rfl) rfl rfl ?_
    refine WL.val (dx_move rfl rfl) rfl rfl ?_
    refine WL.val (dx_move rfl rfl) rfl rfl ?_
    refine WL.get (dx_cv rfl Tryd.func10 rfl rfl rfl (sameL_v xs _ _ W36 _ hL h5 h1)) rfl rfl ?_
    rintro _ W38 ⟨rfl, b37⟩
    replace h1 := h1.below b37
    replace hM := hM.below b37
    replace h5 := h5.below b37
    replace j26 := j26.below b37
    replace j31 := j31.below b37
    replace k3 := k3.below b37
    replace hB := below_then hB b37
    replace hL := LL.below hL b37
    refine WL.val (dx_pick rfl rfl rfl) rfl rfl ?_
    refine WL.val (dx_move rfl rfl) rfl rfl ?_
    refine WL.val (dx_move rfl rfl) rfl rfl ?_
    refine WL.get (dx_cv rfl Tryd.func11 rfl rfl rfl (rightZ_v xs _ W38 _ hL h5 hM hsm)) rfl rfl ?_
    rintro _ W40 ⟨rfl, b39⟩
    replace h1 := h1.below b39
    replace hM := hM.below b39
    replace h5 := h5.below b39
    replace j26 := j26.below b39
    replace j31 := j31.below b39
    replace k3 := k3.below b39
    replace hB := below_then hB b39
    replace hL := LL.below hL b39
    refine WL.val (dx_move rfl rfl) rfl rfl ?_
    refine WL.get (dx_cv rfl Tryd.func12 rfl rfl rfl (refRightZ_v xs _ W40 _ hL h1 hz)) rfl rfl ?_
    rintro _ W42 ⟨rfl, b41⟩
    replace h1 := h1.below b41
    replace hM := hM.below b41
    replace h5 := h5.below b41
    replace j26 := j26.below b41
    replace j31 := j31.below b41
    replace k3 := k3.below b41
    replace hB := below_then hB b41
    replace hL := LL.below hL b41
    refine WL.val (dv_T (dx_eqB rfl Tryd.underlying4 rfl rfl) rfl) rfl rfl ?_
    refine WL.val (dx_pick rfl rfl rfl) rfl rfl ?_
    refine WL.val (dx_move rfl rfl) rfl rfl ?_
    refine WL.val (dx_move rfl rfl) rfl rfl ?_
    refine WL.val (dx_neq rfl rfl rfl) rfl rfl ?_
    refine WL.val (dx_move rfl rfl) rfl rfl ?_
    refine WL.split 70 rfl (fun g43 => ?_) (fun g43 => ?_)
    ·
      replace g43 := bnot_t g43
      replace g43 := of_decide_eq_false g43
      refine WL.off rfl rfl rfl ?_
      refine WL.off rfl rfl rfl ?_
      refine WL.val (dx_pick rfl rfl rfl) rfl rfl ?_
      refine WL.val (dx_pick rfl rfl rfl) rfl rfl ?_
      refine WL.val (dx_assign rfl rfl) rfl rfl ?_
      refine WL.nil ?_
      refine hK34 ?_
      refine WC.ret fun a_ ha_ => ?_
      exact hQ (cv_ret1 rfl (.tmp rfl) rfl hB ha_)
    ·
      replace g43 := bnot_f g43
      replace g43 := of_decide_eq_true g43
      refine WL.val (dx_move rfl rfl) rfl rfl ?_
      refine WL.get (dx_cv rfl Tryd.func11 rfl rfl rfl ((show CV _ _ [_] _ (fun v W => v = .bool true) from by have := rightZ_v (reqL xs wt) _ W42 _ hL j26 hM (small_req hsm hw.2.2); rw [req_right (show reqE xs wt = 0 by first | assumption | exact Classical.not_not.1 (by assumption))] at this; exact this))) rfl rfl ?_
      rintro _ W45 ⟨rfl, b44⟩
      replace h1 := h1.below b44
      replace hM := hM.below b44
      replace h5 := h5.below b44
      replace j26 := j26.below b44
      replace j31 := j31.below b44
      replace k3 := k3.below b44
      replace hB := below_then hB b44
      replace hL := LL.below hL b44
      refine WL.val (dx_pick rfl rfl rfl) rfl rfl ?_
      refine WL.val (dx_pick rfl rfl rfl) rfl rfl ?_
      refine WL.val (dx_assign rfl rfl) rfl rfl ?_
      refine WL.nil ?_
      refine hK34 ?_
      refine WC.ret fun a_ ha_ => ?_
      exact hQ (cv_ret1 rfl (.tmp rfl) rfl hB ha_)

end Go.Proofs.YthllidchoodofaaDoor
