/- The reference of bonds: Unbind. The reference of bonds: Bind. The fixed fact of layer 18; BondCounts. BondBinds, walked. -/
import Derived.Test.YthefddclefimoaaGreatDoorXD
namespace Go.Proofs.YthefddclefimoaaGreatDoor
open Go.RowKit
set_option linter.unusedVariables false
set_option linter.unusedSimpArgs false
set_option maxRecDepth 8000

theorem one_at {xs : List BondX} {i j : Nat} {r q : BondX} (hr : rightB xs = true) (hi : xs[i]? = some r) (hj : xs[j]? = some q) (e1 : r.1.1 = q.1.1) (e2 : r.1.2 = q.1.2) : i = j := by
  have hpw := ((rightB_iff xs).1 hr).2.2
  obtain ⟨hii, ei⟩ := List.getElem?_eq_some_iff.1 hi
  obtain ⟨hjj, ej⟩ := List.getElem?_eq_some_iff.1 hj
  have hirr := lessA_irrefl (q.1.1, q.1.2)
  rcases Nat.lt_trichotomy i j with hl | hl | hl
  · have := List.pairwise_iff_getElem.1 hpw i j hii hjj hl
    rw [ei, ej] at this
    unfold ltB at this
    rw [e1, e2, hirr] at this
    cases this
  · exact hl
  · have := List.pairwise_iff_getElem.1 hpw j i hjj hii hl
    rw [ei, ej] at this
    unfold ltB at this
    rw [e1, e2, hirr] at this
    cases this
theorem wo_at {xs : List BondX} {m x : ByteArray} {k : Nat} {b : BondX} (hr : rightB xs = true) (hb : xs[k]? = some b) (h1 : b.1.1 = m) (h2 : b.1.2 = x) : withoutB xs m x = xs.take k ++ xs.drop (k + 1) := by
  have hk := (List.getElem?_eq_some_iff.1 hb).1
  have hno : ∀ j r, j ≠ k → xs[j]? = some r → notA m x r = true := fun j r hj hr' => by
    show (!decide _) = true
    rw [decide_eq_false (fun he => hj (one_at hr hr' hb (by rw [he.1, h1]) (by rw [he.2, h2])))]
    rfl
  have e : xs = xs.take k ++ b :: xs.drop (k + 1) := by
    obtain ⟨_, eb⟩ := List.getElem?_eq_some_iff.1 hb
    conv => lhs; rw [← List.take_append_drop k xs, List.drop_eq_getElem_cons hk, eb]
  unfold withoutB
  conv => lhs; rw [e]
  rw [List.filter_append, List.filter_cons, if_neg (by unfold notA; rw [decide_eq_true ⟨h1, h2⟩]; decide)]
  congr 1
  · refine List.filter_eq_self.2 fun r hr' => ?_
    obtain ⟨j, hj, rfl⟩ := List.getElem_of_mem hr'
    rw [List.length_take] at hj
    rw [List.getElem_take]
    exact hno j _ (by omega) (List.getElem?_eq_getElem (by omega))
  · refine List.filter_eq_self.2 fun r hr' => ?_
    obtain ⟨j, hj, rfl⟩ := List.getElem_of_mem hr'
    rw [List.length_drop] at hj
    rw [List.getElem_drop]
    exact hno (k + 1 + j) _ (by omega) (List.getElem?_eq_getElem (by omega))
theorem unb_found {xs : List BondX} {wt : BondX} (hr : rightB xs = true) (h : (findB xs wt.1.1 wt.1.2).2 = true) : unbE xs wt = (if (findB xs wt.1.1 wt.1.2).1.2.1 = wt.2.1 then 0 else 14) ∧ ((findB xs wt.1.1 wt.1.2).1.2.1 = wt.2.1 → unbB xs wt = withoutB xs wt.1.1 wt.1.2) := by
  have hp : (placeB xs wt.1.1 wt.1.2).2 = true := by
    cases hq : (placeB xs wt.1.1 wt.1.2).2 with
    | true => rfl
    | false =>
      unfold findB at h
      rw [if_neg (by rintro ⟨_, hc⟩; rw [hq] at hc; cases hc)] at h
      cases h
  obtain ⟨k, hk, hkl, hlo, hc⟩ := placeB_cases xs wt.1.1 wt.1.2
  rcases hc with ⟨_, b, hb, hbm, hbx⟩ | ⟨hf, _⟩
  · have hfd : findB xs wt.1.1 wt.1.2 = (b, true) := find_is hr hb ⟨hbm, hbx⟩
    have he : unbE xs wt = (if b.2.1 = wt.2.1 then 0 else 14) := by
      unfold unbE
      rw [if_pos hr, if_pos hp, hk, Int.toNat_natCast, hb]
      rfl
    rw [hfd]
    refine ⟨he, fun hm => ?_⟩
    unfold unbB
    rw [if_pos (by rw [he]; exact if_pos hm), hk, Int.toNat_natCast, wo_at hr hb hbm hbx]
  · rw [hf] at hp
    cases hp
theorem unb_none {xs : List BondX} {wt : BondX} (hr : rightB xs = true) (h : (findB xs wt.1.1 wt.1.2).2 = false) : unbE xs wt = 7 := by
  unfold unbE
  rw [if_pos hr]
  refine if_neg fun hp => ?_
  unfold findB at h
  rw [if_pos ⟨hr, hp⟩] at h
  cases h
set_option maxHeartbeats 1000000 in
theorem refUnbind_v (xs : List BondX) (wt : BondX) (sv : Value) (w : World) (L : List Nat) (hL : LL L w) (h1 : RdF 4 L w sv (xs.map encB))  (hsz : smallB xs) (hxl : xs.length ≤ 100) : CV Tryz.prog 27 [sv, .agg #[.string wt.1.1, .string wt.1.2, .string wt.2.1, .int .i64 wt.2.2]] w fun v W => ∃ s2, v = .tuple #[s2, .int .i64 (unbE xs wt)] ∧ RdF 4 L W s2 ((unbB xs wt).map encB) := by
  refine cv_enter (N := 32) (f := [(0, sv), (1, .agg #[.string wt.1.1, .string wt.1.2, .string wt.2.1, .int .i64 wt.2.2])]) Tryz.func27 rfl rfl rfl rfl fun Q hQ hE => ?_
  have hB := Below.refl w.heap.size w
  have h1m : xs.length ≤ maxLen := by have := h1.len; rwa [List.length_map] at this
  unfold maxLen at h1m
  refine WC.seq fun K1 hK1 => ?_
  refine WC.region ?_
  refine WL.get (dx_box rfl rfl rfl) rfl rfl ?_
  rintro _ W2 ⟨rfl, k3, b4, z5⟩
  have l6 := hB.size
  replace h1 := h1.more b4 (Nat.le_refl _)
  replace hB := below_then hB b4
  replace hL := LL.more hL z5
  refine WL.val (dx_assign rfl rfl) rfl rfl ?_
  refine WL.val (dx_assign rfl rfl) rfl rfl ?_
  refine WL.nil ?_
  refine hK1 ?_
  refine WC.seq fun K7 hK7 => ?_
  refine WC.seq fun K8 hK8 => ?_
  refine WC.region ?_
  refine WL.val (dx_move rfl rfl) rfl rfl ?_
  refine WL.get (dx_cv rfl Tryz.func32 rfl rfl rfl (refRightB_v xs _ W2 _ hL h1 hsz)) rfl rfl ?_
  rintro _ W10 ⟨rfl, b9⟩
  replace h1 := h1.below b9
  replace k3 := k3.below b9
  replace hB := below_then hB b9
  replace hL := LL.below hL b9
  refine WL.val (dx_not rfl rfl) rfl rfl ?_
  refine WL.nil ?_
  refine hK8 ?_
  refine WC.cond rfl (fun c11 => ?_) (fun c11 => ?_)
  ·
    replace c11 := bnot_t c11
    refine WC.seq fun K12 hK12 => ?_
    refine WC.region ?_
    refine WL.val (dx_move rfl rfl) rfl rfl ?_
    refine WL.val (dx_assign rfl rfl) rfl rfl ?_
    refine WL.val (dx_assign rfl rfl) rfl rfl ?_
    refine WL.nil ?_
    refine hK12 ?_
    refine WC.ret fun a_ ha_ => ?_
    exact hQ (cv_ret2 rfl (.tmp rfl) (.tmp rfl) (by have he : unbE xs wt = 1 := (by unfold unbE; exact if_neg (by first | assumption | simp_all)); have hb : unbB xs wt = xs := (by unfold unbB; rw [if_neg (by rw [he]; decide)]); rw [he, hb]; exact ⟨_, rfl, (h1.less (fun x hx => (.tail _ hx)))⟩) hB ha_)
  ·
    replace c11 := bnot_f c11
    refine WC.skip ?_
    refine hK7 ?_
    refine WC.seq fun K13 hK13 => ?_
    refine WC.region ?_
    refine WL.val (dx_move rfl rfl) rfl rfl ?_
    refine WL.val (dx_fld (o1 := 0) rfl ty_fld_42_0_0 rfl rfl) rfl rfl ?_
    refine WL.val (dx_loadN (cs := [.string wt.1.1, .string wt.1.2]) rfl ty_agg_40_2 rfl (k3.part 0 2) rfl) rfl rfl ?_
    refine WL.get (dx_cv rfl Tryz.func29 rfl rfl rfl (refFind_v xs wt.1.1 wt.1.2 _ W10 _ hL h1 hsz)) rfl rfl ?_
    rintro _ W15 ⟨rfl, b14⟩
    replace h1 := h1.below b14
    replace k3 := k3.below b14
    replace hB := below_then hB b14
    replace hL := LL.below hL b14
    refine WL.val (dx_move rfl rfl) rfl rfl ?_
    refine WL.val (dx_extract rfl rfl rfl) rfl rfl ?_
    refine WL.val (dx_extract rfl rfl rfl) rfl rfl ?_
    refine WL.get (dx_alloc rfl ty_zero_42 rfl) rfl rfl ?_
    rintro _ W16 ⟨rfl, k17, b18, z19⟩
    have n20 : w.heap.size ≠ W15.heap.size := Nat.ne_of_lt k3.lt
    have l21 := hB.size
    replace h1 := h1.more b18 (Nat.le_refl _)
    replace k3 := k3.below b18
    replace hB := below_then hB b18
    replace hL := LL.more hL z19
    refine WL.do (dx_store (cs' := [.string ((findB xs wt.1.1 wt.1.2).1.1.1), .string ((findB xs wt.1.1 wt.1.2).1.1.2), .string ((findB xs wt.1.1 wt.1.2).1.2.1), .int .i64 ((findB xs wt.1.1 wt.1.2).1.2.2)]) (vs := [.string ((findB xs wt.1.1 wt.1.2).1.1.1), .string ((findB xs wt.1.1 wt.1.2).1.1.2), .string ((findB xs wt.1.1 wt.1.2).1.2.1), .int .i64 ((findB xs wt.1.1 wt.1.2).1.2.2)]) rfl ty_size_42_4 rfl rfl rfl (oc_cons rfl (oc_cons rfl (oc_cons rfl (oc_cons rfl oc_nil)))) k17 rfl (Nat.le_of_ble_eq_true rfl) rfl) rfl ?_
    rintro _ W22 ⟨k24, o23⟩
    replace k3 := k3.other o23 n20
    clear k17
    replace h1 := h1.only o23 (.head _)
    replace hB := o23.below hB l21
    replace hL := LL.only hL o23
    refine WL.val (dx_assign rfl rfl) rfl rfl ?_
    refine WL.nil ?_
    refine hK13 ?_
    refine WC.seq fun K25 hK25 => ?_
    refine WC.seq fun K26 hK26 => ?_
    refine WC.region ?_
    refine WL.val (dx_move rfl rfl) rfl rfl ?_
    refine WL.val (dx_not rfl rfl) rfl rfl ?_
    refine WL.nil ?_
    refine hK26 ?_
    refine WC.cond rfl (fun c27 => ?_) (fun c27 => ?_)
    ·
      replace c27 := bnot_t c27
      refine WC.seq fun K28 hK28 => ?_
      refine WC.region ?_
      refine WL.val (dx_move rfl rfl) rfl rfl ?_
      refine WL.val (dx_assign rfl rfl) rfl rfl ?_
      refine WL.val (dx_assign rfl rfl) rfl rfl ?_
      refine WL.nil ?_
      refine hK28 ?_
      refine WC.ret fun a_ ha_ => ?_
      exact hQ (cv_ret2 rfl (.tmp rfl) (.tmp rfl) (by have he : unbE xs wt = 7 := (unb_none (by first | assumption | exact Classical.not_not.1 (by assumption) | simp_all) (by first | assumption | exact Bool.eq_false_iff.2 (by assumption))); have hb : unbB xs wt = xs := (by unfold unbB; rw [if_neg (by rw [he]; decide)]); rw [he, hb]; exact ⟨_, rfl, (h1.less (fun x hx => (.tail _ (.tail _ hx))))⟩) hB ha_)
    ·
      replace c27 := bnot_f c27
      refine WC.skip ?_
      refine hK25 ?_
      refine WC.seq fun K29 hK29 => ?_
      refine WC.seq fun K30 hK30 => ?_
      refine WC.region ?_
      refine WL.val (dx_fld (o1 := 2) rfl ty_fld_42_1_2 rfl rfl) rfl rfl ?_
      refine WL.val (dx_load rfl ty_one_9 rfl (k24.cell (k := 2) rfl)) rfl rfl ?_
      refine WL.val (dx_fld (o1 := 2) rfl ty_fld_42_1_2 rfl rfl) rfl rfl ?_
      refine WL.val (dx_load rfl ty_one_9 rfl (k3.cell (k := 2) rfl)) rfl rfl ?_
      refine WL.val (dx_neqT rfl rfl rfl) rfl rfl ?_
      refine WL.nil ?_
      refine hK30 ?_
      refine WC.cond rfl (fun c31 => ?_) (fun c31 => ?_)
      ·
        replace c31 := bnot_t c31
        replace c31 := of_decide_eq_false c31
        refine WC.seq fun K32 hK32 => ?_
        refine WC.region ?_
        refine WL.val (dx_move rfl rfl) rfl rfl ?_
        refine WL.val (dx_assign rfl rfl) rfl rfl ?_
        refine WL.val (dx_assign rfl rfl) rfl rfl ?_
        refine WL.nil ?_
        refine hK32 ?_
        refine WC.ret fun a_ ha_ => ?_
        exact hQ (cv_ret2 rfl (.tmp rfl) (.tmp rfl) (by have he : unbE xs wt = 14 := (by have hu := unb_found (xs := xs) (wt := wt) (by first | assumption | exact Classical.not_not.1 (by assumption) | simp_all) (by first | assumption | exact Classical.not_not.1 (by assumption) | simp_all); rw [hu.1]; exact if_neg (by assumption)); have hb : unbB xs wt = xs := (by unfold unbB; rw [if_neg (by rw [he]; decide)]); rw [he, hb]; exact ⟨_, rfl, (h1.less (fun x hx => (.tail _ (.tail _ hx))))⟩) hB ha_)
      ·
        replace c31 := bnot_f c31
        replace c31 := of_decide_eq_true c31
        refine WC.skip ?_
        refine hK29 ?_
        refine WC.seq fun K33 hK33 => ?_
        refine WC.region ?_
        refine WL.val (dx_move rfl rfl) rfl rfl ?_
        refine WL.val (dx_fld (o1 := 0) rfl ty_fld_42_0_0 rfl rfl) rfl rfl ?_
        refine WL.val (dx_loadN (cs := [.string wt.1.1, .string wt.1.2]) rfl ty_agg_40_2 rfl (k3.part 0 2) rfl) rfl rfl ?_
        refine WL.get (dx_cv rfl Tryz.func63 rfl rfl rfl (without_v xs wt.1.1 wt.1.2 _ W22 _ hL h1 hxl)) rfl rfl ?_
        rintro u34 W37 ⟨j35, b36⟩
        replace h1 := h1.below b36
        replace k3 := k3.below b36
        replace k24 := k24.below b36
        replace hB := below_then hB b36
        replace hL := LL.below hL b36
        refine WL.val (dx_assign rfl rfl) rfl rfl ?_
        refine WL.val (dx_assign rfl rfl) rfl rfl ?_
        refine WL.nil ?_
        refine hK33 ?_
        refine WC.ret fun a_ ha_ => ?_
        exact hQ (cv_ret2 rfl (.tmp rfl) (.tmp rfl) (by have hu := unb_found (xs := xs) (wt := wt) (by first | assumption | exact Classical.not_not.1 (by assumption) | simp_all) (by first | assumption | exact Classical.not_not.1 (by assumption) | simp_all); have hm : (findB xs wt.1.1 wt.1.2).1.2.1 = wt.2.1 := (by first | assumption | simp_all); have he : unbE xs wt = 0 := (by rw [hu.1]; exact if_pos hm); rw [he, hu.2 hm]; exact ⟨_, rfl, (j35.less (fun x hx => (.tail _ (.tail _ hx))))⟩) hB ha_)

end Go.Proofs.YthefddclefimoaaGreatDoor
namespace Go.Proofs.YthefddclefimoaaGreatDoor
open Go.RowKit
set_option linter.unusedVariables false
set_option linter.unusedSimpArgs false
set_option maxRecDepth 8000

section
variable {P : Program} {N : Nat} {Q : Exit → Act → World → Prop} {f : Fl} {w : World}
theorem WC.loop4 {α β γ δ : Type} {c : Code} (fr : α → β → γ → δ → Fl) (I : α → β → γ → δ → World → Prop) (μ : α → β → γ → δ → Nat) (a0 : α) (b0 : β) (c0 : γ) (d0 : δ) (hs : Sub (fr a0 b0 c0 d0) f) (h0 : I a0 b0 c0 d0 w)
    (round : ∀ (K : Act → World → Prop) a b c' d w, I a b c' d w → (∀ {f' w'} (a' : α) (b' : β) (c'' : γ) (d' : δ), I a' b' c'' d' w' → μ a' b' c'' d' < μ a b c' d → Sub (fr a' b' c'' d') f' → ∀ x, Fr N x f' → K x w') → WC P N c (Exit.then K Q) (fr a b c' d) w) : WC P N (.loop c) Q f w :=
  WC.loop (σ := α × β × γ × δ) (fun s => fr s.1 s.2.1 s.2.2.1 s.2.2.2) (fun s => I s.1 s.2.1 s.2.2.1 s.2.2.2) (fun s => μ s.1 s.2.1 s.2.2.1 s.2.2.2) (a0, b0, c0, d0) hs h0 fun K s w hI hK => round K s.1 s.2.1 s.2.2.1 s.2.2.2 w hI fun a' b' c' d' h1 h2 h3 => hK (a', b', c', d') h1 h2 h3
end
/-- A bond put in its place. -/
def insB (wt : BondX) : List BondX → List BondX
  | [] => [wt]
  | a :: l => if lessA (wt.1.1, wt.1.2) (a.1.1, a.1.2) = true then wt :: a :: l else a :: insB wt l
theorem insB_len (wt : BondX) : ∀ l : List BondX, (insB wt l).length = l.length + 1
  | [] => rfl
  | a :: l => by
    unfold insB
    split
    · rfl
    · rw [List.length_cons, insB_len wt l, List.length_cons]
def restB (wt : BondX) (put : Bool) (l : List BondX) : List BondX := bif put then l else insB wt l
section
variable {wt r : BondX} {l : List BondX} {i : Nat}
theorem restB_put (h : l[i]? = some r) (hs : lessA (wt.1.1, wt.1.2) (r.1.1, r.1.2) = true) : restB wt false (l.drop i) = wt :: r :: l.drop (i + 1) := by
  obtain ⟨hl, rfl⟩ := List.getElem?_eq_some_iff.1 h
  rw [List.drop_eq_getElem_cons hl]
  show insB wt _ = _
  unfold insB
  rw [if_pos hs]
theorem restB_no (h : l[i]? = some r) (hs : ¬ lessA (wt.1.1, wt.1.2) (r.1.1, r.1.2) = true) : restB wt false (l.drop i) = r :: restB wt false (l.drop (i + 1)) := by
  obtain ⟨hl, rfl⟩ := List.getElem?_eq_some_iff.1 h
  rw [List.drop_eq_getElem_cons hl]
  show insB wt _ = _
  unfold insB
  rw [if_neg hs]
  rfl
theorem restB_on (h : l[i]? = some r) : restB wt true (l.drop i) = r :: restB wt true (l.drop (i + 1)) := by
  obtain ⟨hl, rfl⟩ := List.getElem?_eq_some_iff.1 h
  exact List.drop_eq_getElem_cons hl
theorem restB_end {put : Bool} (h : l.length ≤ i) : restB wt put (l.drop i) = bif put then [] else [wt] := by
  rw [List.drop_eq_nil_of_le h]
  cases put <;> rfl
end
theorem insB_at {wt : BondX} : ∀ {l1 l2 : List BondX}, (∀ a ∈ l1, ¬ lessA (wt.1.1, wt.1.2) (a.1.1, a.1.2) = true) → (∀ a, l2[0]? = some a → lessA (wt.1.1, wt.1.2) (a.1.1, a.1.2) = true) → insB wt (l1 ++ l2) = l1 ++ wt :: l2
  | [], [], _, _ => rfl
  | [], a :: l2, _, h2 => by
    show insB wt (a :: l2) = _
    unfold insB
    rw [if_pos (h2 a rfl)]
    rfl
  | a :: l1, l2, h1, h2 => by
    show insB wt (a :: (l1 ++ l2)) = _
    unfold insB
    rw [if_neg (h1 a (.head _)), insB_at (fun b hb => h1 b (.tail _ hb)) h2]
    rfl
theorem bind_math {xs : List BondX} {wt : BondX} (hr : rightB xs = true) (hg : goodB wt = true) :
    ((withoutB xs wt.1.1 wt.1.2).length = 64 → bindE xs wt = 10) ∧ ((withoutB xs wt.1.1 wt.1.2).length ≠ 64 → bindE xs wt = 0 ∧ bindB xs wt = insB wt (withoutB xs wt.1.1 wt.1.2)) := by
  obtain ⟨h64, _, hpw⟩ := (rightB_iff xs).1 hr
  obtain ⟨k, hk, hkl, hlo, hc⟩ := placeB_cases xs wt.1.1 wt.1.2
  have hnl : ∀ a ∈ xs.take k, ¬ lessA (wt.1.1, wt.1.2) (a.1.1, a.1.2) = true := fun a ha hc' => by
    have := lessA_trans _ _ _ hc' (hlo a ha)
    rw [lessA_irrefl] at this
    cases this
  rcases hc with ⟨hp, b, hb, hbm, hbx⟩ | ⟨hf, hhi⟩
  · obtain ⟨hkk, eb⟩ := List.getElem?_eq_some_iff.1 hb
    have hw := wo_at hr hb hbm hbx
    have hl : (withoutB xs wt.1.1 wt.1.2).length = xs.length - 1 := by
      rw [hw, List.length_append, List.length_take, List.length_drop]
      omega
    have he : bindE xs wt = 0 := by
      unfold bindE
      rw [if_pos ⟨hr, hg⟩, if_pos hp]
    refine ⟨fun h => by omega, fun _ => ⟨he, ?_⟩⟩
    unfold bindB
    rw [if_pos he, if_pos hp, hk, Int.toNat_natCast, hw, insB_at hnl fun a ha => ?_]
    · rw [List.set_eq_take_append_cons_drop, if_pos hkk]
    · rw [List.getElem?_drop] at ha
      obtain ⟨hka, ea⟩ := List.getElem?_eq_some_iff.1 ha
      have := List.pairwise_iff_getElem.1 hpw k (k + 1 + 0) hkk hka (by omega)
      rw [eb, ea] at this
      unfold ltB at this
      rw [hbm, hbx] at this
      exact this
  · have hw : withoutB xs wt.1.1 wt.1.2 = xs := List.filter_eq_self.2 fun r hr' => by
      show (!decide _) = true
      rw [decide_eq_false (place_none hr hf r hr')]
      rfl
    rw [hw]
    have hfn : ¬ (atB xs wt).2 = true := by rw [hf]; decide
    refine ⟨fun h => ?_, fun h => ?_⟩
    · unfold bindE
      rw [if_pos ⟨hr, hg⟩, if_neg hfn, if_pos (by omega)]
    · have he : bindE xs wt = 0 := by
        unfold bindE
        rw [if_pos ⟨hr, hg⟩, if_neg hfn, if_neg (by omega)]
      refine ⟨he, ?_⟩
      unfold bindB
      rw [if_pos he, if_neg hfn, hk, Int.toNat_natCast]
      have := insB_at (l1 := xs.take k) (l2 := xs.drop k) hnl fun a ha => by
        rw [List.getElem?_drop, Nat.add_zero] at ha
        exact hhi a ha
      rw [List.take_append_drop] at this
      exact this.symm
set_option maxHeartbeats 1000000 in
theorem refBind_v (xs : List BondX) (wt : BondX) (sv : Value) (w : World) (L : List Nat) (hL : LL L w) (h1 : RdF 4 L w sv (xs.map encB))  (hsz : smallB xs) (hw : wt.1.2.size ≤ 140737488355328) (hxl : xs.length ≤ 100) : CV Tryz.prog 25 [sv, .agg #[.string wt.1.1, .string wt.1.2, .string wt.2.1, .int .i64 wt.2.2]] w fun v W => ∃ s2, v = .tuple #[s2, .int .i64 (bindE xs wt)] ∧ RdF 4 L W s2 ((bindB xs wt).map encB) := by
  refine cv_enter (N := 63) (f := [(0, sv), (1, .agg #[.string wt.1.1, .string wt.1.2, .string wt.2.1, .int .i64 wt.2.2])]) Tryz.func25 rfl rfl rfl rfl fun Q hQ hE => ?_
  have hB := Below.refl w.heap.size w
  have hL0 := hL
  have h1m : xs.length ≤ maxLen := by have := h1.len; rwa [List.length_map] at this
  unfold maxLen at h1m
  refine WC.seq fun K1 hK1 => ?_
  refine WC.region ?_
  refine WL.get (dx_box rfl rfl rfl) rfl rfl ?_
  rintro _ W2 ⟨rfl, k3, b4, z5⟩
  have l6 := hB.size
  replace h1 := h1.more b4 (Nat.le_refl _)
  replace hB := below_then hB b4
  replace hL := LL.more hL z5
  refine WL.val (dx_assign rfl rfl) rfl rfl ?_
  refine WL.val (dx_assign rfl rfl) rfl rfl ?_
  refine WL.nil ?_
  refine hK1 ?_
  refine WC.seq fun K7 hK7 => ?_
  refine WC.seq fun K8 hK8 => ?_
  refine WC.region ?_
  refine WL.val (dx_move rfl rfl) rfl rfl ?_
  refine WL.get (dx_cv rfl Tryz.func32 rfl rfl rfl (refRightB_v xs _ W2 _ hL h1 hsz)) rfl rfl ?_
  rintro _ W10 ⟨rfl, b9⟩
  replace h1 := h1.below b9
  replace k3 := k3.below b9
  replace hB := below_then hB b9
  replace hL := LL.below hL b9
  refine WL.val (dx_not rfl rfl) rfl rfl ?_
  refine WL.val (dx_move rfl rfl) rfl rfl ?_
  refine WL.split 13 rfl (fun g11 => ?_) (fun g11 => ?_)
  ·
    replace g11 := bnot_t g11
    refine WL.off rfl rfl rfl ?_
    refine WL.off rfl rfl rfl ?_
    refine WL.off rfl rfl rfl ?_
    refine WL.val (dx_pick rfl rfl rfl) rfl rfl ?_
    refine WL.nil ?_
    refine hK8 ?_
    refine WC.condT rfl ?_
    refine WC.seq fun K12 hK12 => ?_
    refine WC.region ?_
    refine WL.val (dx_move rfl rfl) rfl rfl ?_
    refine WL.val (dx_assign rfl rfl) rfl rfl ?_
    refine WL.val (dx_assign rfl rfl) rfl rfl ?_
    refine WL.nil ?_
    refine hK12 ?_
    refine WC.ret fun a_ ha_ => ?_
    exact hQ (cv_ret2 rfl (.tmp rfl) (.tmp rfl) (by have he : bindE xs wt = 1 := (by unfold bindE; exact if_neg (fun hc => by obtain ⟨q1, q2⟩ := hc; simp_all)); have hb : bindB xs wt = xs := (by unfold bindB; rw [if_neg (by rw [he]; decide)]); rw [he, hb]; exact ⟨_, rfl, (h1.less (fun x hx => (.tail _ hx)))⟩) hB ha_)
  ·
    replace g11 := bnot_f g11
    refine WL.val (dx_loadN rfl ty_agg_42_4 rfl k3.range rfl) rfl rfl ?_
    refine WL.get (dx_cv rfl Tryz.func62 rfl rfl rfl (refGood_v wt W10 _ hL hw)) rfl rfl ?_
    rintro _ W14 ⟨rfl, b13⟩
    replace h1 := h1.below b13
    replace k3 := k3.below b13
    replace hB := below_then hB b13
    replace hL := LL.below hL b13
    refine WL.val (dx_not rfl rfl) rfl rfl ?_
    refine WL.val (dx_pick rfl rfl rfl) rfl rfl ?_
    refine WL.nil ?_
    refine hK8 ?_
    refine WC.cond rfl (fun c15 => ?_) (fun c15 => ?_)
    ·
      replace c15 := bnot_t c15
      refine WC.seq fun K16 hK16 => ?_
      refine WC.region ?_
      refine WL.val (dx_move rfl rfl) rfl rfl ?_
      refine WL.val (dx_assign rfl rfl) rfl rfl ?_
      refine WL.val (dx_assign rfl rfl) rfl rfl ?_
      refine WL.nil ?_
      refine hK16 ?_
      refine WC.ret fun a_ ha_ => ?_
      exact hQ (cv_ret2 rfl (.tmp rfl) (.tmp rfl) (by have he : bindE xs wt = 1 := (by unfold bindE; exact if_neg (fun hc => by obtain ⟨q1, q2⟩ := hc; simp_all)); have hb : bindB xs wt = xs := (by unfold bindB; rw [if_neg (by rw [he]; decide)]); rw [he, hb]; exact ⟨_, rfl, (h1.less (fun x hx => (.tail _ hx)))⟩) hB ha_)
    ·
      replace c15 := bnot_f c15
      refine WC.skip ?_
      refine hK7 ?_
      refine WC.seq fun K17 hK17 => ?_
      refine WC.region ?_
      refine WL.val (dx_move rfl rfl) rfl rfl ?_
      refine WL.val (dx_fld (o1 := 0) rfl ty_fld_42_0_0 rfl rfl) rfl rfl ?_
      refine WL.val (dx_loadN (cs := [.string wt.1.1, .string wt.1.2]) rfl ty_agg_40_2 rfl (k3.part 0 2) rfl) rfl rfl ?_
      refine WL.get (dx_cv rfl Tryz.func63 rfl rfl rfl (without_v xs wt.1.1 wt.1.2 _ W14 _ hL h1 hxl)) rfl rfl ?_
      rintro u18 W21 ⟨j19, b20⟩
      replace h1 := h1.below b20
      replace k3 := k3.below b20
      replace hB := below_then hB b20
      replace hL := LL.below hL b20
      refine WL.val (dx_assign rfl rfl) rfl rfl ?_
      refine WL.nil ?_
      refine hK17 ?_
      refine WC.seq fun K22 hK22 => ?_
      refine WC.seq fun K23 hK23 => ?_
      refine WC.region ?_
      refine WL.val (dx_move rfl rfl) rfl rfl ?_
      refine WL.val (dx_lenX rfl ty_slice_38 rfl j19) rfl rfl ?_
      refine WL.val (dx_eql rfl rfl rfl) rfl rfl ?_
      refine WL.nil ?_
      refine hK23 ?_
      refine WC.cond rfl (fun c24 => ?_) (fun c24 => ?_)
      ·
        replace c24 := of_decide_eq_true c24
        refine WC.seq fun K25 hK25 => ?_
        refine WC.region ?_
        refine WL.val (dx_move rfl rfl) rfl rfl ?_
        refine WL.val (dx_assign rfl rfl) rfl rfl ?_
        refine WL.val (dx_assign rfl rfl) rfl rfl ?_
        refine WL.nil ?_
        refine hK25 ?_
        refine WC.ret fun a_ ha_ => ?_
        exact hQ (cv_ret2 rfl (.tmp rfl) (.tmp rfl) (by have he : bindE xs wt = 10 := ((bind_math (xs := xs) (wt := wt) (by first | assumption | exact Classical.not_not.1 (by assumption) | simp_all) (by first | assumption | exact Classical.not_not.1 (by assumption) | simp_all)).1 (by omega)); have hb : bindB xs wt = xs := (by unfold bindB; rw [if_neg (by rw [he]; decide)]); rw [he, hb]; exact ⟨_, rfl, (h1.less (fun x hx => (.tail _ hx)))⟩) hB ha_)
      ·
        replace c24 := of_decide_eq_false c24
        refine WC.skip ?_
        refine hK22 ?_
        refine WC.seq fun K26 hK26 => ?_
        refine WC.region ?_
        refine WL.val (dx_assign rfl rfl) rfl rfl ?_
        refine WL.nil ?_
        refine hK26 ?_
        refine WC.seq fun K27 hK27 => ?_
        refine WC.region ?_
        refine WL.val (dx_assign rfl rfl) rfl rfl ?_
        refine WL.nil ?_
        refine hK27 ?_
        refine WC.seq fun K28 hK28 => ?_
        refine WC.seq fun K29 hK29 => ?_
        refine WC.region ?_
        refine WL.val (dx_assign rfl rfl) rfl rfl ?_
        refine WL.nil ?_
        refine hK29 ?_
        refine WC.block ?_
        have zh1 := h1
        have zj19 := j19
        have zk3 := k3
        have zhB := hB
        have zhL := hL
        have h5 : NewW 4 W21.heap.size (([] : List BondX).map encB) (.slice none 0 0) W21 := .inl ⟨rfl, rfl, by decide⟩
        have hC : SinceB W21 (w.heap.size :: L) W21 := Below.refl _ _
        have hrsl : (withoutB xs wt.1.1 wt.1.2).length ≤ xs.length := List.length_filter_le _ _
        refine WC.loop4 (fun (ia : Nat) (ov : Value) (pt : Bool) (out : List BondX) => [(0, sv), (3, .pointer (some ⟨w.heap.size, 0, none⟩)), (4, .slice none 0 0), (5, .int .i64 0), (6, u18), (9, .int .i64 (ia : Int)), (7, ov), (8, .bool pt)]) (fun (ia : Nat) (ov : Value) (pt : Bool) (out : List BondX) W => ia ≤ (withoutB xs wt.1.1 wt.1.2).length ∧ insB wt (withoutB xs wt.1.1 wt.1.2) = out ++ restB wt pt ((withoutB xs wt.1.1 wt.1.2).drop ia) ∧ Below w.heap.size w W ∧ LL (w.heap.size :: L) W ∧ RdF 4 (w.heap.size :: L) W sv (xs.map encB) ∧ RdF 4 (w.heap.size :: L) W u18 ((withoutB xs wt.1.1 wt.1.2).map encB) ∧ NewW 4 W21.heap.size (out.map encB) ov W ∧ SinceB W21 (w.heap.size :: L) W ∧ Blk W w.heap.size [.string wt.1.1, .string wt.1.2, .string wt.2.1, .int .i64 wt.2.2]) (fun (ia : Nat) (ov : Value) (pt : Bool) (out : List BondX) => (withoutB xs wt.1.1 wt.1.2).length - ia) 0 (.slice none 0 0) false [] (by repeat first | exact trivial | exact And.intro rfl trivial | refine And.intro rfl ?_ | refine And.intro (congrArg (fun z : Int => some (Value.int .i64 z)) (by omega)) ?_) ⟨Nat.zero_le _, (by rfl), hB, hL, h1, j19, h5, hC, k3⟩ ?_
        clear h1 j19 h5 hC k3 hB hL
        rintro K30 ia ov pt out W31 ⟨hi, hv, hB, hL, h1, j19, h5, hC, k3⟩ hK30
        have hol : out.length ≤ 101 := (by have := congrArg List.length hv; rw [insB_len, List.length_append] at this; omega)
        refine WC.seq fun K32 hK32 => ?_
        refine WC.seq fun K33 hK33 => ?_
        refine WC.region ?_
        refine WL.val (dx_move rfl rfl) rfl rfl ?_
        refine WL.val (dx_move rfl rfl) rfl rfl ?_
        refine WL.val (dx_lenX rfl ty_slice_38 rfl j19) rfl rfl ?_
        refine WL.val (dx_lss rfl rfl rfl) rfl rfl ?_
        refine WL.nil ?_
        refine hK33 ?_
        refine WC.cond rfl (fun c34 => ?_) (fun c34 => ?_)
        ·
          replace c34 := of_decide_eq_true c34
          refine WC.skip ?_
          refine hK32 ?_
          refine WC.seq fun K35 hK35 => ?_
          refine WC.block ?_
          refine WC.seq fun K36 hK36 => ?_
          refine WC.seq fun K37 hK37 => ?_
          obtain ⟨b38, hb38⟩ : ∃ b, b = (!pt) := ⟨_, rfl⟩
          obtain ⟨r39, e40⟩ : ∃ x, (withoutB xs wt.1.1 wt.1.2)[ia]? = some x := ⟨_, List.getElem?_eq_getElem (by omega)⟩
          refine WC.drawM 12 [(some 33, .is (.bool pt)), (some 34, .is (.bool (!pt))), (some 35, .is (.bool b38)), (some 36, .is (bif b38 then .pointer (some ⟨w.heap.size, 0, none⟩) else undef)), (some 37, .is (bif b38 then .agg #[.string wt.1.1, .string wt.1.2] else undef)), (some 38, .is (bif b38 then u18 else undef)), (some 39, .is (bif b38 then .int .i64 (ia : Int) else undef)), (some 40, .by fun u W => b38 = true → PtR (w.heap.size :: L) W u (encB r39)), (some 41, .by fun u W => b38 = true → PtR (w.heap.size :: L) W u [.string r39.1.1, .string r39.1.2]), (some 42, .is (bif b38 then .agg #[.string r39.1.1, .string r39.1.2] else undef)), (some 43, .is (bif b38 then .bool (lessA (wt.1.1, wt.1.2) (r39.1.1, r39.1.2)) else undef)), (some 44, .is (.bool (b38 && (lessA (wt.1.1, wt.1.2) (r39.1.1, r39.1.2)))))] [[], [0], [1], [2], [3, 2], [2], [2], [5, 6, 2], [7, 2], [8, 2], [4, 9, 2, 2], [2, 10]] (by kernel_rfl) (by kernel_rfl) (by kernel_rfl) (by kernel_rfl) (by kernel_rfl) (by kernel_rfl) (by kernel_rfl) ⟨fun _ _ _ hb h g => (h g).below hb, fun _ _ _ hb h g => (h g).below hb, trivial⟩ ?_ ?_
          ·
            refine DSteps.cons (fun Wd hd => ?_) ?_
            ·
              exact DV.dr (dx_move rfl rfl) ⟨Below.refl _ _, rfl⟩
            refine DSteps.cons (fun Wd hd => ?_) ?_
            ·
              exact DV.dr (dx_not rfl rfl) ⟨Below.refl _ _, rfl⟩
            refine DSteps.cons (fun Wd hd => ?_) ?_
            ·
              exact DV.dr (dx_move rfl rfl) ⟨Below.refl _ _, by rw [hb38]; rfl⟩
            refine DSteps.cons (fun Wd hd => ?_) ?_
            ·
              cases b38
              ·
                exact DV.dr (dv_off rfl) ⟨Below.refl _ _, rfl⟩
              ·
                exact DV.dr (dx_fld (o1 := 0) rfl ty_fld_42_0_0 rfl rfl) ⟨Below.refl _ _, rfl⟩
            refine DSteps.cons (fun Wd hd => ?_) ?_
            ·
              cases b38
              ·
                exact DV.dr (dv_off rfl) ⟨Below.refl _ _, rfl⟩
              ·
                have k3 := k3.below hd
                exact DV.dr (dx_loadN (cs := [.string wt.1.1, .string wt.1.2]) rfl ty_agg_40_2 rfl (k3.part 0 2) rfl) ⟨Below.refl _ _, rfl⟩
            refine DSteps.cons (fun Wd hd => ?_) ?_
            ·
              cases b38
              ·
                exact DV.dr (dv_off rfl) ⟨Below.refl _ _, rfl⟩
              ·
                exact DV.dr (dx_move rfl rfl) ⟨Below.refl _ _, rfl⟩
            refine DSteps.cons (fun Wd hd => ?_) ?_
            ·
              cases b38
              ·
                exact DV.dr (dv_off rfl) ⟨Below.refl _ _, rfl⟩
              ·
                exact DV.dr (dx_move rfl rfl) ⟨Below.refl _ _, rfl⟩
            refine DSteps.cons (fun Wd hd => ?_) ?_
            ·
              cases b38
              ·
                exact DV.dr (dv_off rfl) ⟨Below.refl _ _, fun h => by cases h⟩
              ·
                have j19 := j19.below hd
                exact (dx_idxF ia rfl ty_slice_38 rfl rfl j19 (by first | omega | (have hq_ := of_decide_eq_true hb38.symm; omega)) (at_mapX e40)).mono (fun v W' h => ⟨by rw [← h.1]; exact Below.refl _ _, fun _ => by rw [← h.1]; exact h.2⟩)
            refine DSteps.cons (fun Wd hd => ?_) ?_
            ·
              intro u11_7 p11_7
              cases b38
              ·
                exact DV.dr (dv_off rfl) ⟨Below.refl _ _, fun h => by cases h⟩
              ·
                replace p11_7 := p11_7 rfl
                exact (dx_fldP 2 rfl ty_fld_42_0_0 rfl p11_7 (cs' := [.string r39.1.1, .string r39.1.2]) rfl (Nat.succ_pos _)).mono (fun v W' h => ⟨by rw [← h.1]; exact Below.refl _ _, fun _ => by rw [← h.1]; exact h.2⟩)
            refine DSteps.cons (fun Wd hd => ?_) ?_
            ·
              intro u11_8 p11_8
              cases b38
              ·
                exact DV.dr (dv_off rfl) ⟨Below.refl _ _, rfl⟩
              ·
                replace p11_8 := p11_8 rfl
                exact DV.dr (dx_loadPN rfl ty_agg_40_2 rfl p11_8 rfl) ⟨Below.refl _ _, rfl⟩
            refine DSteps.cons (fun Wd hd => ?_) ?_
            ·
              cases b38
              ·
                exact DV.dr (dv_off rfl) ⟨Below.refl _ _, rfl⟩
              ·
                exact DR.mono (dx_cv rfl Tryz.func64 rfl rfl rfl (refLess_v wt.1.1 wt.1.2 r39.1.1 r39.1.2 Wd [] (LL.nil _))) (fun v W' ⟨h, hb⟩ => ⟨hb, (by rw [h]; exact rfl)⟩)
            refine DSteps.cons (fun Wd hd => ?_) ?_
            ·
              cases b38
              ·
                exact DV.dr (dx_pick rfl rfl rfl) ⟨Below.refl _ _, rfl⟩
              ·
                exact DV.dr (dx_pick rfl rfl rfl) ⟨Below.refl _ _, rfl⟩
            exact trivial
          ·
            intro W41 b42
            intro _ _
            intro _ _
            replace h1 := h1.below b42
            replace j19 := j19.below b42
            replace h5 := h5.below b42
            replace hC := hC.below b42
            replace k3 := k3.below b42
            replace hB := below_then hB b42
            replace hL := LL.below hL b42
            refine WL.nil ?_
            refine hK37 ?_
            refine WC.cond rfl (fun c43 => ?_) (fun c43 => ?_)
            ·
              obtain ⟨g44, g45⟩ := band_t c43
              refine WC.seq fun K46 hK46 => ?_
              refine WC.region ?_
              refine WL.val (dx_move rfl rfl) rfl rfl ?_
              refine WL.val (dx_loadN rfl ty_agg_42_4 rfl k3.range rfl) rfl rfl ?_
              refine WL.get (dx_lit1 (r := encB wt) rfl ty_ap_38 (by decide) (by decide) rfl rfl rfl) rfl rfl ?_
              rintro x47 W48 ⟨k50, b49, z51⟩
              replace h1 := h1.below b49
              replace j19 := j19.below b49
              replace h5 := h5.below b49
              replace hC := hC.below b49
              replace k3 := k3.below b49
              replace hB := below_then hB b49
              replace hL := LL.below hL b49
              have hx := k50.rd (L := []) (by simp)
              refine WL.get (dx_apW (base := W21.heap.size) rfl ty_ap_38 rfl rfl h5 hx (fun r hr => by rw [List.mem_singleton.1 hr]; exact oc_B _) (by simp [maxLen]; omega) (by simp; omega) (Below.size hC)) rfl rfl ?_
              rintro x52 W53 ⟨h5, b54⟩
              replace h5 : NewW 4 W21.heap.size ((out ++ [wt]).map encB) x52 W53 := by rw [List.map_append]; exact h5
              replace hC : SinceB W21 (w.heap.size :: L) W53 := Below.trans hC b54
              replace h1 := zh1.below hC
              replace j19 := zj19.below hC
              replace k3 := zk3.below hC
              replace hB := below_then zhB hC
              replace hL := LL.below zhL hC
              refine WL.val (dx_assign rfl rfl) rfl rfl ?_
              refine WL.nil ?_
              refine hK46 ?_
              refine WC.region ?_
              refine WL.val (dx_assign rfl rfl) rfl rfl ?_
              refine WL.nil ?_
              refine hK36 ?_
              refine WC.region ?_
              refine WL.val (dx_move rfl rfl) rfl rfl ?_
              refine WL.val (dx_move rfl rfl) rfl rfl ?_
              refine WL.val (dx_move rfl rfl) rfl rfl ?_
              refine WL.get (dx_idxF ia rfl ty_slice_38 rfl rfl j19 (by omega) (at_mapX e40)) rfl rfl ?_
              rintro u55 _ ⟨rfl, p56⟩
              refine WL.val (dx_loadPN rfl ty_agg_42_4 rfl p56 rfl) rfl rfl ?_
              refine WL.get (dx_lit1 (r := encB r39) rfl ty_ap_38 (by decide) (by decide) rfl rfl rfl) rfl rfl ?_
              rintro x57 W58 ⟨k60, b59, z61⟩
              replace h1 := h1.below b59
              replace j19 := j19.below b59
              replace h5 := h5.below b59
              replace hC := hC.below b59
              replace p56 := p56.below b59
              replace k3 := k3.below b59
              replace hB := below_then hB b59
              replace hL := LL.below hL b59
              have hx := k60.rd (L := []) (by simp)
              refine WL.get (dx_apW (base := W21.heap.size) rfl ty_ap_38 rfl rfl h5 hx (fun r hr => by rw [List.mem_singleton.1 hr]; exact oc_B _) (by simp [maxLen]; omega) (by simp; omega) (Below.size hC)) rfl rfl ?_
              rintro x62 W63 ⟨h5, b64⟩
              replace h5 : NewW 4 W21.heap.size (((out ++ [wt]) ++ [r39]).map encB) x62 W63 := by rw [List.map_append]; exact h5
              replace hC : SinceB W21 (w.heap.size :: L) W63 := Below.trans hC b64
              replace h1 := zh1.below hC
              replace j19 := zj19.below hC
              replace k3 := zk3.below hC
              replace hB := below_then zhB hC
              replace hL := LL.below zhL hC
              refine WL.val (dx_assign rfl rfl) rfl rfl ?_
              refine WL.nil ?_
              refine hK35 ?_
              refine WC.region ?_
              refine WL.val (dx_move rfl rfl) rfl rfl ?_
              refine WL.val (dx_add (r := (ia : Int) + 1) rfl rfl rfl (wrap64_id (by omega))) rfl rfl ?_
              refine WL.val (dx_assign rfl rfl) rfl rfl ?_
              refine WL.nil ?_
              exact hK30 (ia + 1) x62 (true) ((out ++ [wt]) ++ [r39]) ⟨(by omega), (by rw [hv]; cases pt <;> first | (exfalso; simp_all; done) | (rw [restB_put e40 (by first | assumption | simp_all)]; simp [restB]; done) | (rw [restB_on e40]; simp; done) | (rw [restB_no e40 (by simp_all)]; simp; done)), hB, hL, h1, j19, h5, hC, k3⟩ (by omega) (by repeat first | exact trivial | exact And.intro rfl trivial | refine And.intro rfl ?_ | refine And.intro (congrArg (fun z : Int => some (Value.int .i64 z)) (by omega)) ?_)
            ·
              refine WC.skip ?_
              refine hK36 ?_
              refine WC.region ?_
              refine WL.val (dx_move rfl rfl) rfl rfl ?_
              refine WL.val (dx_move rfl rfl) rfl rfl ?_
              refine WL.val (dx_move rfl rfl) rfl rfl ?_
              refine WL.get (dx_idxF ia rfl ty_slice_38 rfl rfl j19 (by omega) (at_mapX e40)) rfl rfl ?_
              rintro u65 _ ⟨rfl, p66⟩
              refine WL.val (dx_loadPN rfl ty_agg_42_4 rfl p66 rfl) rfl rfl ?_
              refine WL.get (dx_lit1 (r := encB r39) rfl ty_ap_38 (by decide) (by decide) rfl rfl rfl) rfl rfl ?_
              rintro x67 W68 ⟨k70, b69, z71⟩
              replace h1 := h1.below b69
              replace j19 := j19.below b69
              replace h5 := h5.below b69
              replace hC := hC.below b69
              replace p66 := p66.below b69
              replace k3 := k3.below b69
              replace hB := below_then hB b69
              replace hL := LL.below hL b69
              have hx := k70.rd (L := []) (by simp)
              refine WL.get (dx_apW (base := W21.heap.size) rfl ty_ap_38 rfl rfl h5 hx (fun r hr => by rw [List.mem_singleton.1 hr]; exact oc_B _) (by simp [maxLen]; omega) (by simp; omega) (Below.size hC)) rfl rfl ?_
              rintro x72 W73 ⟨h5, b74⟩
              replace h5 : NewW 4 W21.heap.size ((out ++ [r39]).map encB) x72 W73 := by rw [List.map_append]; exact h5
              replace hC : SinceB W21 (w.heap.size :: L) W73 := Below.trans hC b74
              replace h1 := zh1.below hC
              replace j19 := zj19.below hC
              replace k3 := zk3.below hC
              replace hB := below_then zhB hC
              replace hL := LL.below zhL hC
              refine WL.val (dx_assign rfl rfl) rfl rfl ?_
              refine WL.nil ?_
              refine hK35 ?_
              refine WC.region ?_
              refine WL.val (dx_move rfl rfl) rfl rfl ?_
              refine WL.val (dx_add (r := (ia : Int) + 1) rfl rfl rfl (wrap64_id (by omega))) rfl rfl ?_
              refine WL.val (dx_assign rfl rfl) rfl rfl ?_
              refine WL.nil ?_
              exact hK30 (ia + 1) x72 (pt) (out ++ [r39]) ⟨(by omega), (by rw [hv]; cases pt <;> first | (exfalso; simp_all; done) | (rw [restB_put e40 (by first | assumption | simp_all)]; simp [restB]; done) | (rw [restB_on e40]; simp; done) | (rw [restB_no e40 (by simp_all)]; simp; done)), hB, hL, h1, j19, h5, hC, k3⟩ (by omega) (by repeat first | exact trivial | exact And.intro rfl trivial | refine And.intro rfl ?_ | refine And.intro (congrArg (fun z : Int => some (Value.int .i64 z)) (by omega)) ?_)
        ·
          replace c34 := of_decide_eq_false c34
          refine WC.exit ?_
          refine hK28 ?_
          refine WC.seq fun K75 hK75 => ?_
          refine WC.seq fun K76 hK76 => ?_
          refine WC.region ?_
          refine WL.val (dx_move rfl rfl) rfl rfl ?_
          refine WL.val (dx_not rfl rfl) rfl rfl ?_
          refine WL.nil ?_
          refine hK76 ?_
          refine WC.cond rfl (fun c77 => ?_) (fun c77 => ?_)
          ·
            replace c77 := bnot_t c77
            replace c77 := bvar_f c77
            refine WC.region ?_
            refine WL.val (dx_move rfl rfl) rfl rfl ?_
            refine WL.val (dx_loadN rfl ty_agg_42_4 rfl k3.range rfl) rfl rfl ?_
            refine WL.get (dx_lit1 (r := encB wt) rfl ty_ap_38 (by decide) (by decide) rfl rfl rfl) rfl rfl ?_
            rintro x78 W79 ⟨k81, b80, z82⟩
            replace h1 := h1.below b80
            replace j19 := j19.below b80
            replace h5 := h5.below b80
            replace hC := hC.below b80
            replace k3 := k3.below b80
            replace hB := below_then hB b80
            replace hL := LL.below hL b80
            have hx := k81.rd (L := []) (by simp)
            refine WL.get (dx_apW (base := W21.heap.size) rfl ty_ap_38 rfl rfl h5 hx (fun r hr => by rw [List.mem_singleton.1 hr]; exact oc_B _) (by simp [maxLen]; omega) (by simp; omega) (Below.size hC)) rfl rfl ?_
            rintro x83 W84 ⟨h5, b85⟩
            replace h5 : NewW 4 W21.heap.size ((out ++ [wt]).map encB) x83 W84 := by rw [List.map_append]; exact h5
            replace hC : SinceB W21 (w.heap.size :: L) W84 := Below.trans hC b85
            replace h1 := zh1.below hC
            replace j19 := zj19.below hC
            replace k3 := zk3.below hC
            replace hB := below_then zhB hC
            replace hL := LL.below zhL hC
            refine WL.val (dx_assign rfl rfl) rfl rfl ?_
            refine WL.nil ?_
            refine hK75 ?_
            refine WC.seq fun K86 hK86 => ?_
            refine WC.region ?_
            refine WL.val (dx_move rfl rfl) rfl rfl ?_
            refine WL.val (dx_assign rfl rfl) rfl rfl ?_
            refine WL.val (dx_assign rfl rfl) rfl rfl ?_
            refine WL.nil ?_
            refine hK86 ?_
            refine WC.ret fun a_ ha_ => ?_
            exact hQ (cv_ret2 rfl (.tmp rfl) (.tmp rfl) (by have hm := (bind_math (xs := xs) (wt := wt) (by first | assumption | exact Classical.not_not.1 (by assumption) | simp_all) (by first | assumption | exact Classical.not_not.1 (by assumption) | simp_all)).2 (by omega); have hq : insB wt (withoutB xs wt.1.1 wt.1.2) = (out ++ [wt]) := (by rw [hv, restB_end (by omega)]; simp_all); rw [hm.1, hm.2, hq]; exact ⟨_, rfl, h5.rd (fun y hy => zhL y (.tail _ hy))⟩) hB ha_)
          ·
            replace c77 := bnot_f c77
            refine WC.skip ?_
            refine hK75 ?_
            refine WC.seq fun K87 hK87 => ?_
            refine WC.region ?_
            refine WL.val (dx_move rfl rfl) rfl rfl ?_
            refine WL.val (dx_assign rfl rfl) rfl rfl ?_
            refine WL.val (dx_assign rfl rfl) rfl rfl ?_
            refine WL.nil ?_
            refine hK87 ?_
            refine WC.ret fun a_ ha_ => ?_
            exact hQ (cv_ret2 rfl (.tmp rfl) (.tmp rfl) (by have hm := (bind_math (xs := xs) (wt := wt) (by first | assumption | exact Classical.not_not.1 (by assumption) | simp_all) (by first | assumption | exact Classical.not_not.1 (by assumption) | simp_all)).2 (by omega); have hq : insB wt (withoutB xs wt.1.1 wt.1.2) = out := (by rw [hv, restB_end (by omega)]; simp_all); rw [hm.1, hm.2, hq]; exact ⟨_, rfl, h5.rd (fun y hy => zhL y (.tail _ hy))⟩) hB ha_)

end Go.Proofs.YthefddclefimoaaGreatDoor
namespace Go.Proofs.YthefddclefimoaaGreatDoor
open Go.RowKit
set_option linter.unusedVariables false
set_option linter.unusedSimpArgs false
set_option maxRecDepth 8000

theorem bld_bond (a b c : ByteArray) (n : Int) : Tryz.prog.built 42 [(0, .agg #[.string a, .string b]), (1, .string c), (2, .int .i64 n)] = some [.string a, .string b, .string c, .int .i64 n].toArray := by kernel_rfl
theorem bld_bond2 (a b c : ByteArray) : Tryz.prog.built 42 [(0, .agg #[.string a, .string b]), (1, .string c)] = some [.string a, .string b, .string c, .int .i64 0].toArray := by kernel_rfl
theorem place_some {xs : List BondX} {j : Nat} {c : BondX} (hr : rightB xs = true) (h : xs[j]? = some c) : placeB xs c.1.1 c.1.2 = ((j : Int), true) := by
  obtain ⟨hj, rfl⟩ := List.getElem?_eq_some_iff.1 h
  have hp := ((rightB_iff xs).1 hr).2.2
  have hirr := lessA_irrefl (xs[j].1.1, xs[j].1.2)
  obtain ⟨k, h1, h2, h3, h4⟩ := placeB_cases xs xs[j].1.1 xs[j].1.2
  have hjk : ¬ j < k := fun hl => by
    have := h3 xs[j] (by rw [List.mem_iff_getElem]; exact ⟨j, by rw [List.length_take]; omega, by rw [List.getElem_take]⟩)
    rw [hirr] at this; cases this
  have hkj : ¬ k < j := fun hl => by
    have hl2 := List.pairwise_iff_getElem.1 hp k j (by omega) hj hl
    rcases h4 with ⟨_, b, hb, e1, e2⟩ | ⟨_, h4⟩
    · rw [List.getElem?_eq_getElem (by omega)] at hb
      cases hb
      have : lessA (xs[k].1.1, xs[k].1.2) (xs[j].1.1, xs[j].1.2) = true := hl2
      rw [e1, e2, hirr] at this; cases this
    · have := lessA_trans _ _ _ (h4 xs[k] (List.getElem?_eq_getElem (by omega))) hl2
      rw [hirr] at this; cases this
  obtain rfl : k = j := by omega
  refine Prod.ext h1 ?_
  rcases h4 with ⟨h4, _⟩ | ⟨_, h4⟩
  · exact h4
  · have := h4 xs[k] (List.getElem?_eq_getElem hj)
    rw [hirr] at this; cases this
theorem find_some {xs : List BondX} {j : Nat} {c : BondX} (hr : rightB xs = true) (h : xs[j]? = some c) : findB xs c.1.1 c.1.2 = (c, true) := by
  unfold findB
  rw [place_some hr h, if_pos ⟨hr, rfl⟩]
  simp [h]
theorem own_find {xs : List BondX} {mx : ByteArray} (hr : rightB xs = true) {i : Nat} {a : ByteArray × ByteArray} (h : (ofB xs mx)[i]? = some a) : ∃ c : BondX, c.2.1 = mx ∧ findB xs a.1 a.2 = (c, true) := by
  unfold ofB at h
  rw [if_pos hr] at h
  obtain ⟨c, hc, rfl⟩ := List.mem_map.1 (List.mem_of_getElem? h)
  obtain ⟨hc1, hc2⟩ := List.mem_filter.1 hc
  obtain ⟨j, hj⟩ := List.getElem?_of_mem hc1
  exact ⟨c, by simpa using hc2, find_some hr hj⟩
abbrev eM : ByteArray := { data := #[101, 109, 97, 105, 108] }
abbrev aB : ByteArray := { data := #[97, 64, 98, 46, 99] }
abbrev aH : ByteArray := { data := #[64, 97, 58, 104] }
abbrev bH : ByteArray := { data := #[64, 98, 58, 104] }
abbrev b1 : BondX := ((eM, aB), aH, 0)
abbrev b2 : BondX := ((eM, aB), bH, 5)
theorem al_g : goodB b1 = true ∧ goodB b2 = true := by decide +kernel
theorem right_one {b : BondX} (h : goodB b = true) : rightB [b] = true := (rightB_iff _).2 ⟨by simp, by simpa using h, by simp⟩
theorem al_e1 : bindE [] b1 = 0 := by
  unfold bindE
  rw [if_pos ⟨rfl, al_g.1⟩]
  rfl
theorem al_b1 : bindB [] b1 = [b1] := by
  unfold bindB
  rw [if_pos al_e1]
  rfl
theorem al_p1 : atB [b1] b2 = (0, true) := place_some (xs := [b1]) (j := 0) (c := b1) (right_one al_g.1) rfl
theorem al_p2 : atB [b2] b1 = (0, true) := place_some (xs := [b2]) (j := 0) (c := b2) (right_one al_g.2) rfl
theorem al_e2 : bindE [b1] b2 = 0 := by
  unfold bindE
  rw [if_pos ⟨right_one al_g.1, al_g.2⟩, al_p1]
  rfl
theorem al_b2 : bindB [b1] b2 = [b2] := by
  unfold bindB
  rw [if_pos al_e2, al_p1]
  rfl
theorem al_u : unbE [b2] b1 = 14 := by
  unfold unbE
  rw [if_pos (right_one al_g.2), al_p2]
  show (if bH = aH then (0 : Int) else 14) = 14
  rw [if_neg (by decide)]
theorem al_f2 : findB [b2] eM aB = (b2, true) := find_some (xs := [b2]) (j := 0) (c := b2) (right_one al_g.2) rfl
theorem of_len (xs : List BondX) (mx : ByteArray) : (ofB xs mx).length ≤ xs.length := by
  unfold ofB
  split
  · rw [List.length_map]; exact List.length_filter_le _ _
  · simp
theorem al_o : ofB [b2] bH = [(eM, aB)] := by
  unfold ofB
  rw [if_pos (right_one al_g.2)]
  rfl
theorem sm_nil : smallB [] := fun b hb => by cases hb
theorem sm_b1 : smallB [b1] := fun b hb => by rw [List.mem_singleton.1 hb]; decide
theorem sm_b2 : smallB [b2] := fun b hb => by rw [List.mem_singleton.1 hb]; decide
set_option maxHeartbeats 1000000 in
theorem one_v  (w : World) (L : List Nat) (hL : LL L w)  : CV Tryz.prog 57 [] w fun v W => v = .agg #[.string { data := #[101, 109, 97, 105, 108] }, .string { data := #[97, 64, 98, 46, 99] }] := by
  refine cv_enter (N := 2) (f := []) Tryz.func57 rfl rfl rfl rfl fun Q hQ hE => ?_
  have hB := Below.refl w.heap.size w
  refine WC.seq fun K1 hK1 => ?_
  refine WC.region ?_
  refine WL.get (dx_alloc rfl ty_zero_40 rfl) rfl rfl ?_
  rintro _ W2 ⟨rfl, k3, b4, z5⟩
  have l6 := hB.size
  replace hB := below_then hB b4
  replace hL := LL.more hL z5
  refine WL.nil ?_
  refine hK1 ?_
  refine WC.seq fun K7 hK7 => ?_
  refine WC.region ?_
  refine WL.val (dx_build rfl rfl (built_of_O (cs := [.string ({ data := #[101, 109, 97, 105, 108] }), .string ({ data := #[97, 64, 98, 46, 99] })]) (by kernel_rfl) (oc_cons rfl (oc_cons rfl oc_nil)))) rfl rfl ?_
  refine WL.do (dx_store (cs' := [.string ({ data := #[101, 109, 97, 105, 108] }), .string ({ data := #[97, 64, 98, 46, 99] })]) (vs := [.string ({ data := #[101, 109, 97, 105, 108] }), .string ({ data := #[97, 64, 98, 46, 99] })]) rfl ty_size_40_2 rfl rfl rfl (oc_cons rfl (oc_cons rfl oc_nil)) k3 rfl (Nat.le_of_ble_eq_true rfl) rfl) rfl ?_
  rintro _ W8 ⟨k10, o9⟩
  clear k3
  replace hB := o9.below hB l6
  replace hL := LL.only hL o9
  refine WL.nil ?_
  refine hK7 ?_
  refine WC.ret fun a_ ha_ => ?_
  exact hQ (cv_ret1 rfl (.agg rfl ty_agg_40_2 k10.range rfl) rfl hB ha_)

set_option maxHeartbeats 1000000 in
theorem great18_v (xs : List BondX) (sv : Value) (w : World) (L : List Nat) (hL : LL L w) (h1 : RdF 4 L w sv (xs.map encB)) : CV Tryz.prog 23 [sv] w fun v W => v = .bool (decide (100 < (xs.length : Int))) := by
  refine cv_enter (N := 6) (f := [(0, sv)]) Tryz.func23 rfl rfl rfl rfl fun Q hQ hE => ?_
  have hB := Below.refl w.heap.size w
  have h1m : xs.length ≤ maxLen := by have := h1.len; rwa [List.length_map] at this
  unfold maxLen at h1m
  refine WC.seq fun K1 hK1 => ?_
  refine WC.region ?_
  refine WL.val (dx_assign rfl rfl) rfl rfl ?_
  refine WL.nil ?_
  refine hK1 ?_
  refine WC.seq fun K2 hK2 => ?_
  refine WC.region ?_
  refine WL.val (dx_move rfl rfl) rfl rfl ?_
  refine WL.val (dx_lenX rfl ty_slice_38 rfl h1) rfl rfl ?_
  refine WL.val (dx_gtr rfl rfl rfl) rfl rfl ?_
  refine WL.val (dx_assign rfl rfl) rfl rfl ?_
  refine WL.nil ?_
  refine hK2 ?_
  refine WC.ret fun a_ ha_ => ?_
  exact hQ (cv_ret1 rfl (.tmp rfl) rfl hB ha_)

set_option maxHeartbeats 1000000 in
theorem alive18_v  (w : World) (L : List Nat) (hL : LL L w) (hM : MaxL L w) : CV Tryz.prog 22 [] w fun v W => v = .bool true := by
  refine cv_enter (N := 58) (f := []) Tryz.func22 rfl rfl rfl rfl fun Q hQ hE => ?_
  have hB := Below.refl w.heap.size w
  refine WC.seq fun K1 hK1 => ?_
  refine WC.region ?_
  refine WL.val (dx_assign rfl rfl) rfl rfl ?_
  refine WL.nil ?_
  refine hK1 ?_
  refine WC.seq fun K2 hK2 => ?_
  refine WC.region ?_
  refine WL.get (dx_cv rfl Tryz.func57 rfl rfl rfl (one_v w [] (LL.nil _))) rfl rfl ?_
  rintro _ W4 ⟨rfl, b3⟩
  replace hM := hM.below b3
  replace hB := below_then hB b3
  replace hL := LL.below hL b3
  refine WL.val (dx_build rfl rfl (bld_bond2 _ _ _)) rfl rfl ?_
  refine WL.get (dx_cv rfl Tryz.func24 rfl rfl rfl ((show CV _ _ [_, _] _ (fun v W => ∃ s2, v = .tuple #[s2, .int .i64 0] ∧ RdF 4 (L) W s2 ([b1].map encB)) from by have := bind_v [] b1 (.slice none 0 0) W4 (L) hL (RdF.nil (by decide)) hM sm_nil (by decide); rw [al_e1, al_b1] at this; exact this))) rfl rfl ?_
  rintro _ W8 ⟨⟨u5, rfl, j6⟩, b7⟩
  replace hM := hM.below b7
  replace hB := below_then hB b7
  replace hL := LL.below hL b7
  refine WL.val (dx_move rfl rfl) rfl rfl ?_
  refine WL.val (dx_extract rfl rfl rfl) rfl rfl ?_
  refine WL.val (dx_extract rfl rfl rfl) rfl rfl ?_
  refine WL.val (dx_assign rfl rfl) rfl rfl ?_
  refine WL.val (dx_assign rfl rfl) rfl rfl ?_
  refine WL.nil ?_
  refine hK2 ?_
  refine WC.seq fun K9 hK9 => ?_
  refine WC.region ?_
  refine WL.val (dx_move rfl rfl) rfl rfl ?_
  refine WL.get (dx_cv rfl Tryz.func57 rfl rfl rfl (one_v W8 [] (LL.nil _))) rfl rfl ?_
  rintro _ W11 ⟨rfl, b10⟩
  replace hM := hM.below b10
  replace j6 := j6.below b10
  replace hB := below_then hB b10
  replace hL := LL.below hL b10
  refine WL.val (dx_build rfl rfl (bld_bond _ _ _ _)) rfl rfl ?_
  refine WL.get (dx_cv rfl Tryz.func24 rfl rfl rfl ((show CV _ _ [_, _] _ (fun v W => ∃ s2, v = .tuple #[s2, .int .i64 0] ∧ RdF 4 (L) W s2 ([b2].map encB)) from by have := bind_v [b1] b2 _ W11 (L) hL j6 hM sm_b1 (by decide); rw [al_e2, al_b2] at this; exact this))) rfl rfl ?_
  rintro _ W15 ⟨⟨u12, rfl, j13⟩, b14⟩
  replace hM := hM.below b14
  replace j6 := j6.below b14
  replace hB := below_then hB b14
  replace hL := LL.below hL b14
  refine WL.val (dx_move rfl rfl) rfl rfl ?_
  refine WL.val (dx_extract rfl rfl rfl) rfl rfl ?_
  refine WL.val (dx_extract rfl rfl rfl) rfl rfl ?_
  refine WL.val (dx_assign rfl rfl) rfl rfl ?_
  refine WL.val (dx_assign rfl rfl) rfl rfl ?_
  refine WL.nil ?_
  refine hK9 ?_
  refine WC.seq fun K16 hK16 => ?_
  refine WC.region ?_
  refine WL.val (dx_move rfl rfl) rfl rfl ?_
  refine WL.get (dx_cv rfl Tryz.func57 rfl rfl rfl (one_v W15 [] (LL.nil _))) rfl rfl ?_
  rintro _ W18 ⟨rfl, b17⟩
  replace hM := hM.below b17
  replace j6 := j6.below b17
  replace j13 := j13.below b17
  replace hB := below_then hB b17
  replace hL := LL.below hL b17
  refine WL.val (dx_build rfl rfl (bld_bond2 _ _ _)) rfl rfl ?_
  refine WL.get (dx_cv rfl Tryz.func26 rfl rfl rfl ((show CV _ _ [_, _] _ (fun v W => ∃ s2, v = .tuple #[s2, .int .i64 14] ∧ RdF 4 (L) W s2 ((unbB [b2] b1).map encB)) from by have := unbind_v [b2] b1 _ W18 (L) hL j13 hM sm_b2; rw [al_u] at this; exact this))) rfl rfl ?_
  rintro _ W22 ⟨⟨u19, rfl, j20⟩, b21⟩
  replace hM := hM.below b21
  replace j6 := j6.below b21
  replace j13 := j13.below b21
  replace hB := below_then hB b21
  replace hL := LL.below hL b21
  refine WL.val (dx_move rfl rfl) rfl rfl ?_
  refine WL.val (dx_extract rfl rfl rfl) rfl rfl ?_
  refine WL.val (dx_extract rfl rfl rfl) rfl rfl ?_
  refine WL.val (dx_assign rfl rfl) rfl rfl ?_
  refine WL.val (dx_assign rfl rfl) rfl rfl ?_
  refine WL.nil ?_
  refine hK16 ?_
  refine WC.seq fun K23 hK23 => ?_
  refine WC.region ?_
  refine WL.val (dx_move rfl rfl) rfl rfl ?_
  refine WL.get (dx_cv rfl Tryz.func57 rfl rfl rfl (one_v W22 [] (LL.nil _))) rfl rfl ?_
  rintro _ W25 ⟨rfl, b24⟩
  replace hM := hM.below b24
  replace j6 := j6.below b24
  replace j13 := j13.below b24
  replace j20 := j20.below b24
  replace hB := below_then hB b24
  replace hL := LL.below hL b24
  refine WL.get (dx_cv rfl Tryz.func28 rfl rfl rfl ((show CV _ _ [_, _] _ (fun v W => v = .tuple #[.agg (encB b2).toArray, .bool true]) from by have := find_v [b2] eM aB _ W25 (L) hL j13 hM sm_b2; rw [al_f2] at this; exact this))) rfl rfl ?_
  rintro _ W27 ⟨rfl, b26⟩
  replace hM := hM.below b26
  replace j6 := j6.below b26
  replace j13 := j13.below b26
  replace j20 := j20.below b26
  replace hB := below_then hB b26
  replace hL := LL.below hL b26
  refine WL.val (dx_move rfl rfl) rfl rfl ?_
  refine WL.val (dx_extract rfl rfl rfl) rfl rfl ?_
  refine WL.val (dx_extract rfl rfl rfl) rfl rfl ?_
  refine WL.get (dx_alloc rfl ty_zero_42 rfl) rfl rfl ?_
  rintro _ W28 ⟨rfl, k29, b30, z31⟩
  have l32 := hB.size
  replace hM := hM.more b30 (Nat.le_refl _)
  replace j6 := j6.more b30 (Nat.le_refl _)
  replace j13 := j13.more b30 (Nat.le_refl _)
  replace j20 := j20.more b30 (Nat.le_refl _)
  replace hB := below_then hB b30
  replace hL := LL.more hL z31
  refine WL.do (dx_store (cs' := [.string ({ data := #[101, 109, 97, 105, 108] }), .string ({ data := #[97, 64, 98, 46, 99] }), .string ({ data := #[64, 98, 58, 104] }), .int .i64 5]) (vs := [.string ({ data := #[101, 109, 97, 105, 108] }), .string ({ data := #[97, 64, 98, 46, 99] }), .string ({ data := #[64, 98, 58, 104] }), .int .i64 5]) rfl ty_size_42_4 rfl rfl rfl (oc_cons rfl (oc_cons rfl (oc_cons rfl (oc_cons rfl oc_nil)))) k29 rfl (Nat.le_of_ble_eq_true rfl) rfl) rfl ?_
  rintro _ W33 ⟨k35, o34⟩
  clear k29
  replace hM := hM.only o34 (.head _)
  replace j6 := j6.only o34 (.head _)
  replace j13 := j13.only o34 (.head _)
  replace j20 := j20.only o34 (.head _)
  replace hB := o34.below hB l32
  replace hL := LL.only hL o34
  refine WL.val (dx_assign rfl rfl) rfl rfl ?_
  refine WL.nil ?_
  refine hK23 ?_
  refine WC.seq fun K36 hK36 => ?_
  refine WC.region ?_
  refine WL.val (dx_move rfl rfl) rfl rfl ?_
  refine WL.val (dx_eql rfl rfl rfl) rfl rfl ?_
  refine WL.val (dx_move rfl rfl) rfl rfl ?_
  refine WL.val (dx_move rfl rfl) rfl rfl ?_
  refine WL.val (dx_eql rfl rfl rfl) rfl rfl ?_
  refine WL.val (dx_pick rfl rfl rfl) rfl rfl ?_
  refine WL.val (dx_move rfl rfl) rfl rfl ?_
  refine WL.val (dx_move rfl rfl) rfl rfl ?_
  refine WL.val (dx_eql rfl rfl rfl) rfl rfl ?_
  refine WL.val (dx_pick rfl rfl rfl) rfl rfl ?_
  refine WL.val (dx_move rfl rfl) rfl rfl ?_
  refine WL.val (dx_move rfl rfl) rfl rfl ?_
  refine WL.val (dx_pick rfl rfl rfl) rfl rfl ?_
  refine WL.val (dx_move rfl rfl) rfl rfl ?_
  refine WL.val (dx_fld (o1 := 2) rfl ty_fld_42_1_2 rfl rfl) rfl rfl ?_
  refine WL.val (dx_load rfl ty_one_9 rfl (k35.cell (k := 2) rfl)) rfl rfl ?_
  refine WL.val (dx_eqlT rfl rfl rfl) rfl rfl ?_
  refine WL.val (dx_pick rfl rfl rfl) rfl rfl ?_
  refine WL.val (dx_move rfl rfl) rfl rfl ?_
  refine WL.split 52 rfl (fun g37 => ?_) (fun g37 => ?_)
  ·
    replace g37 := of_decide_eq_true g37
    refine WL.val (dx_move rfl rfl) rfl rfl ?_
    refine WL.get (dx_cv rfl Tryz.func34 rfl rfl rfl ((show CV _ _ [_, _] _ (fun v W => RdF 2 (W27.heap.size :: L) W v ([(eM, aB)].map encAd)) from by have := of_v [b2] bH _ W33 (W27.heap.size :: L) hL j13 hM sm_b2; rw [al_o] at this; exact this))) rfl rfl ?_
    rintro u38 W41 ⟨j39, b40⟩
    replace hM := hM.below b40
    replace j6 := j6.below b40
    replace j13 := j13.below b40
    replace j20 := j20.below b40
    replace k35 := k35.below b40
    replace hB := below_then hB b40
    replace hL := LL.below hL b40
    refine WL.val (dx_lenX rfl ty_slice_50 rfl j39) rfl rfl ?_
    refine WL.val (dx_eql rfl rfl rfl) rfl rfl ?_
    refine WL.val (dx_pick rfl rfl rfl) rfl rfl ?_
    refine WL.val (dx_assign rfl rfl) rfl rfl ?_
    refine WL.nil ?_
    refine hK36 ?_
    refine WC.ret fun a_ ha_ => ?_
    exact hQ (cv_ret1 rfl (.tmp rfl) rfl hB ha_)
  ·
    exact absurd rfl (of_decide_eq_false g37)

end Go.Proofs.YthefddclefimoaaGreatDoor
namespace Go.Proofs.YthefddclefimoaaGreatDoor
open Go.RowKit
set_option linter.unusedVariables false
set_option linter.unusedSimpArgs false
set_option maxRecDepth 8000

set_option maxHeartbeats 1000000 in
theorem bondBinds_v (xs : List BondX) (wt : BondX) (mx : ByteArray) (sv : Value) (w : World) (L : List Nat) (hL : LL L w) (h1 : RdF 4 L w sv (xs.map encB)) (hM : MaxL L w)  (hsz : smallB xs) : CV Tryz.prog 5 [sv, .agg #[.string wt.1.1, .string wt.1.2, .string wt.2.1, .int .i64 wt.2.2], .string mx] w fun v W => v = .bool true := by
  refine cv_enter (N := 127) (f := [(0, sv), (1, .agg #[.string wt.1.1, .string wt.1.2, .string wt.2.1, .int .i64 wt.2.2]), (2, .string mx)]) Tryz.func5 rfl rfl rfl rfl fun Q hQ hE => ?_
  have hB := Below.refl w.heap.size w
  have h1m : xs.length ≤ maxLen := by have := h1.len; rwa [List.length_map] at this
  unfold maxLen at h1m
  refine WC.seq fun K1 hK1 => ?_
  refine WC.region ?_
  refine WL.get (dx_box rfl rfl rfl) rfl rfl ?_
  rintro _ W2 ⟨rfl, k3, b4, z5⟩
  have l6 := hB.size
  replace h1 := h1.more b4 (Nat.le_refl _)
  replace hM := hM.more b4 (Nat.le_refl _)
  replace hB := below_then hB b4
  replace hL := LL.more hL z5
  refine WL.val (dx_assign rfl rfl) rfl rfl ?_
  refine WL.nil ?_
  refine hK1 ?_
  refine WC.seq fun K7 hK7 => ?_
  refine WC.seq fun K8 hK8 => ?_
  refine WC.region ?_
  refine WL.get (dx_cv rfl Tryz.func22 rfl rfl rfl (alive18_v W2 _ hL hM)) rfl rfl ?_
  rintro _ W10 ⟨rfl, b9⟩
  replace h1 := h1.below b9
  replace hM := hM.below b9
  replace k3 := k3.below b9
  replace hB := below_then hB b9
  replace hL := LL.below hL b9
  refine WL.val (dx_not rfl rfl) rfl rfl ?_
  refine WL.nil ?_
  refine hK8 ?_
  refine WC.condF rfl ?_
  refine WC.skip ?_
  refine hK7 ?_
  refine WC.seq fun K11 hK11 => ?_
  refine WC.seq fun K12 hK12 => ?_
  refine WC.region ?_
  refine WL.val (dx_move rfl rfl) rfl rfl ?_
  refine WL.get (dx_cv rfl Tryz.func23 rfl rfl rfl (great18_v xs _ W10 _ hL h1)) rfl rfl ?_
  rintro _ W14 ⟨rfl, b13⟩
  replace h1 := h1.below b13
  replace hM := hM.below b13
  replace k3 := k3.below b13
  replace hB := below_then hB b13
  replace hL := LL.below hL b13
  refine WL.val (dx_move rfl rfl) rfl rfl ?_
  refine WL.split 24 rfl (fun g15 => ?_) (fun g15 => ?_)
  ·
    replace g15 := of_decide_eq_true g15
    refine WL.off rfl rfl rfl ?_
    refine WL.off rfl rfl rfl ?_
    refine WL.off rfl rfl rfl ?_
    refine WL.off rfl rfl rfl ?_
    refine WL.off rfl rfl rfl ?_
    refine WL.val (dx_pick rfl rfl rfl) rfl rfl ?_
    refine WL.val (dx_move rfl rfl) rfl rfl ?_
    refine WL.off rfl rfl rfl ?_
    refine WL.off rfl rfl rfl ?_
    refine WL.off rfl rfl rfl ?_
    refine WL.off rfl rfl rfl ?_
    refine WL.val (dx_pick rfl rfl rfl) rfl rfl ?_
    refine WL.nil ?_
    refine hK12 ?_
    refine WC.condT rfl ?_
    refine WC.seq fun K16 hK16 => ?_
    refine WC.region ?_
    refine WL.val (dx_assign rfl rfl) rfl rfl ?_
    refine WL.nil ?_
    refine hK16 ?_
    refine WC.ret fun a_ ha_ => ?_
    exact hQ (cv_ret1 rfl (.tmp rfl) rfl hB ha_)
  ·
    replace g15 := of_decide_eq_false g15
    refine WL.val (dx_fld (o1 := 0) rfl ty_fld_42_0_0 rfl rfl) rfl rfl ?_
    refine WL.val (dx_fld (o1 := 1) rfl ty_fld_40_1_1 rfl rfl) rfl rfl ?_
    refine WL.val (dx_load rfl ty_one_9 rfl (k3.cell (k := 1) rfl)) rfl rfl ?_
    refine WL.val (dx_lenT rfl Tryz.underlying9 rfl) rfl rfl ?_
    refine WL.val (dx_gtr rfl rfl rfl) rfl rfl ?_
    refine WL.val (dx_pick rfl rfl rfl) rfl rfl ?_
    refine WL.val (dx_move rfl rfl) rfl rfl ?_
    refine WL.split 31 rfl (fun g17 => ?_) (fun g17 => ?_)
    ·
      replace g17 := of_decide_eq_true g17
      refine WL.off rfl rfl rfl ?_
      refine WL.off rfl rfl rfl ?_
      refine WL.off rfl rfl rfl ?_
      refine WL.off rfl rfl rfl ?_
      refine WL.val (dx_pick rfl rfl rfl) rfl rfl ?_
      refine WL.nil ?_
      refine hK12 ?_
      refine WC.condT rfl ?_
      refine WC.seq fun K18 hK18 => ?_
      refine WC.region ?_
      refine WL.val (dx_assign rfl rfl) rfl rfl ?_
      refine WL.nil ?_
      refine hK18 ?_
      refine WC.ret fun a_ ha_ => ?_
      exact hQ (cv_ret1 rfl (.tmp rfl) rfl hB ha_)
    ·
      replace g17 := of_decide_eq_false g17
      refine WL.val (dx_fld (o1 := 2) rfl ty_fld_42_1_2 rfl rfl) rfl rfl ?_
      refine WL.val (dx_load rfl ty_one_9 rfl (k3.cell (k := 2) rfl)) rfl rfl ?_
      refine WL.val (dx_lenT rfl Tryz.underlying9 rfl) rfl rfl ?_
      refine WL.val (dx_gtr rfl rfl rfl) rfl rfl ?_
      refine WL.val (dx_pick rfl rfl rfl) rfl rfl ?_
      refine WL.nil ?_
      refine hK12 ?_
      refine WC.cond rfl (fun c19 => ?_) (fun c19 => ?_)
      ·
        replace c19 := of_decide_eq_true c19
        refine WC.seq fun K20 hK20 => ?_
        refine WC.region ?_
        refine WL.val (dx_assign rfl rfl) rfl rfl ?_
        refine WL.nil ?_
        refine hK20 ?_
        refine WC.ret fun a_ ha_ => ?_
        exact hQ (cv_ret1 rfl (.tmp rfl) rfl hB ha_)
      ·
        replace c19 := of_decide_eq_false c19
        refine WC.skip ?_
        refine hK11 ?_
        refine WC.seq fun K21 hK21 => ?_
        have hxl : xs.length ≤ 100 := (by omega)
        have hw : wt.1.2.size ≤ 140737488355328 := (by omega)
        refine WC.region ?_
        have hLs := hL
        refine WL.get (dx_lit0E rfl ty_ap_38 (by decide)) rfl rfl ?_
        rintro u22 W23 ⟨b24, hE⟩
        replace h1 := h1.below b24
        replace hM := hM.below b24
        replace k3 := k3.below b24
        replace hB := below_then hB b24
        replace hL := LL.below hL b24
        refine WL.val (dx_move rfl rfl) rfl rfl ?_
        refine WL.get (dx_apN rfl ty_ap_38 rfl rfl hE h1 (oc_rowsX oc_B xs) (by rw [List.length_map]; unfold maxLen; omega) (by rw [List.length_map]; omega) b24.size) rfl rfl ?_
        rintro u25 W26 ⟨b27, hN⟩
        replace h1 := h1.below b27
        replace hM := hM.below b27
        replace k3 := k3.below b27
        replace hB := below_then hB b27
        replace hL := LL.below hL b27
        have h5 := hN.rd (fun x hx => hLs x hx)
        replace hE := trivial
        replace hN := trivial
        refine WL.val (dx_assign rfl rfl) rfl rfl ?_
        refine WL.nil ?_
        refine hK21 ?_
        refine WC.seq fun K28 hK28 => ?_
        refine WC.region ?_
        refine WL.val (dx_move rfl rfl) rfl rfl ?_
        refine WL.val (dx_loadN rfl ty_agg_42_4 rfl k3.range rfl) rfl rfl ?_
        refine WL.get (dx_cv rfl Tryz.func24 rfl rfl rfl (bind_v xs wt _ W26 _ hL h5 hM hsz hw)) rfl rfl ?_
        rintro _ W32 ⟨⟨u29, rfl, j30⟩, b31⟩
        replace h1 := h1.below b31
        replace hM := hM.below b31
        replace h5 := h5.below b31
        replace k3 := k3.below b31
        replace hB := below_then hB b31
        replace hL := LL.below hL b31
        refine WL.val (dx_move rfl rfl) rfl rfl ?_
        refine WL.val (dx_extract rfl rfl rfl) rfl rfl ?_
        refine WL.val (dx_extract rfl rfl rfl) rfl rfl ?_
        refine WL.val (dx_assign rfl rfl) rfl rfl ?_
        refine WL.val (dx_assign rfl rfl) rfl rfl ?_
        refine WL.nil ?_
        refine hK28 ?_
        refine WC.seq fun K33 hK33 => ?_
        refine WC.region ?_
        refine WL.val (dx_move rfl rfl) rfl rfl ?_
        refine WL.val (dx_loadN rfl ty_agg_42_4 rfl k3.range rfl) rfl rfl ?_
        refine WL.get (dx_cv rfl Tryz.func25 rfl rfl rfl (refBind_v xs wt _ W32 _ hL h1 hsz hw hxl)) rfl rfl ?_
        rintro _ W37 ⟨⟨u34, rfl, j35⟩, b36⟩
        replace h1 := h1.below b36
        replace hM := hM.below b36
        replace h5 := h5.below b36
        replace j30 := j30.below b36
        replace k3 := k3.below b36
        replace hB := below_then hB b36
        replace hL := LL.below hL b36
        refine WL.val (dx_move rfl rfl) rfl rfl ?_
        refine WL.val (dx_extract rfl rfl rfl) rfl rfl ?_
        refine WL.val (dx_extract rfl rfl rfl) rfl rfl ?_
        refine WL.val (dx_assign rfl rfl) rfl rfl ?_
        refine WL.val (dx_assign rfl rfl) rfl rfl ?_
        refine WL.nil ?_
        refine hK33 ?_
        refine WC.seq fun K38 hK38 => ?_
        refine WC.region ?_
        refine WL.val (dx_move rfl rfl) rfl rfl ?_
        refine WL.val (dx_loadN rfl ty_agg_42_4 rfl k3.range rfl) rfl rfl ?_
        refine WL.get (dx_cv rfl Tryz.func26 rfl rfl rfl (unbind_v xs wt _ W37 _ hL h5 hM hsz)) rfl rfl ?_
        rintro _ W42 ⟨⟨u39, rfl, j40⟩, b41⟩
        replace h1 := h1.below b41
        replace hM := hM.below b41
        replace h5 := h5.below b41
        replace j30 := j30.below b41
        replace j35 := j35.below b41
        replace k3 := k3.below b41
        replace hB := below_then hB b41
        replace hL := LL.below hL b41
        refine WL.val (dx_move rfl rfl) rfl rfl ?_
        refine WL.val (dx_extract rfl rfl rfl) rfl rfl ?_
        refine WL.val (dx_extract rfl rfl rfl) rfl rfl ?_
        refine WL.val (dx_assign rfl rfl) rfl rfl ?_
        refine WL.val (dx_assign rfl rfl) rfl rfl ?_
        refine WL.nil ?_
        refine hK38 ?_
        refine WC.seq fun K43 hK43 => ?_
        refine WC.region ?_
        refine WL.val (dx_move rfl rfl) rfl rfl ?_
        refine WL.val (dx_loadN rfl ty_agg_42_4 rfl k3.range rfl) rfl rfl ?_
        refine WL.get (dx_cv rfl Tryz.func27 rfl rfl rfl (refUnbind_v xs wt _ W42 _ hL h1 hsz hxl)) rfl rfl ?_
        rintro _ W47 ⟨⟨u44, rfl, j45⟩, b46⟩
        replace h1 := h1.below b46
        replace hM := hM.below b46
        replace h5 := h5.below b46
        replace j30 := j30.below b46
        replace j35 := j35.below b46
        replace j40 := j40.below b46
        replace k3 := k3.below b46
        replace hB := below_then hB b46
        replace hL := LL.below hL b46
        refine WL.val (dx_move rfl rfl) rfl rfl ?_
        refine WL.val (dx_extract rfl rfl rfl) rfl rfl ?_
        refine WL.val (dx_extract rfl rfl rfl) rfl rfl ?_
        refine WL.val (dx_assign rfl rfl) rfl rfl ?_
        refine WL.val (dx_assign rfl rfl) rfl rfl ?_
        refine WL.nil ?_
        refine hK43 ?_
        refine WC.seq fun K48 hK48 => ?_
        refine WC.region ?_
        refine WL.val (dx_move rfl rfl) rfl rfl ?_
        refine WL.val (dx_fld (o1 := 0) rfl ty_fld_42_0_0 rfl rfl) rfl rfl ?_
        refine WL.val (dx_loadN (cs := [.string wt.1.1, .string wt.1.2]) rfl ty_agg_40_2 rfl (k3.part 0 2) rfl) rfl rfl ?_
        refine WL.get (dx_cv rfl Tryz.func28 rfl rfl rfl (find_v xs wt.1.1 wt.1.2 _ W47 _ hL h5 hM hsz)) rfl rfl ?_
        rintro _ W50 ⟨rfl, b49⟩
        replace h1 := h1.below b49
        replace hM := hM.below b49
        replace h5 := h5.below b49
        replace j30 := j30.below b49
        replace j35 := j35.below b49
        replace j40 := j40.below b49
        replace j45 := j45.below b49
        replace k3 := k3.below b49
        replace hB := below_then hB b49
        replace hL := LL.below hL b49
        refine WL.val (dx_move rfl rfl) rfl rfl ?_
        refine WL.val (dx_extract rfl rfl rfl) rfl rfl ?_
        refine WL.val (dx_extract rfl rfl rfl) rfl rfl ?_
        refine WL.get (dx_alloc rfl ty_zero_42 rfl) rfl rfl ?_
        rintro _ W51 ⟨rfl, k52, b53, z54⟩
        have n55 : w.heap.size ≠ W50.heap.size := Nat.ne_of_lt k3.lt
        have l56 := hB.size
        replace h1 := h1.more b53 (Nat.le_refl _)
        replace hM := hM.more b53 (Nat.le_refl _)
        replace h5 := h5.more b53 (Nat.le_refl _)
        replace j30 := j30.more b53 (Nat.le_refl _)
        replace j35 := j35.more b53 (Nat.le_refl _)
        replace j40 := j40.more b53 (Nat.le_refl _)
        replace j45 := j45.more b53 (Nat.le_refl _)
        replace k3 := k3.below b53
        replace hB := below_then hB b53
        replace hL := LL.more hL z54
        refine WL.do (dx_store (cs' := [.string ((findB xs wt.1.1 wt.1.2).1.1.1), .string ((findB xs wt.1.1 wt.1.2).1.1.2), .string ((findB xs wt.1.1 wt.1.2).1.2.1), .int .i64 ((findB xs wt.1.1 wt.1.2).1.2.2)]) (vs := [.string ((findB xs wt.1.1 wt.1.2).1.1.1), .string ((findB xs wt.1.1 wt.1.2).1.1.2), .string ((findB xs wt.1.1 wt.1.2).1.2.1), .int .i64 ((findB xs wt.1.1 wt.1.2).1.2.2)]) rfl ty_size_42_4 rfl rfl rfl (oc_cons rfl (oc_cons rfl (oc_cons rfl (oc_cons rfl oc_nil)))) k52 rfl (Nat.le_of_ble_eq_true rfl) rfl) rfl ?_
        rintro _ W57 ⟨k59, o58⟩
        replace k3 := k3.other o58 n55
        clear k52
        replace h1 := h1.only o58 (.head _)
        replace hM := hM.only o58 (.head _)
        replace h5 := h5.only o58 (.head _)
        replace j30 := j30.only o58 (.head _)
        replace j35 := j35.only o58 (.head _)
        replace j40 := j40.only o58 (.head _)
        replace j45 := j45.only o58 (.head _)
        replace hB := o58.below hB l56
        replace hL := LL.only hL o58
        refine WL.val (dx_assign rfl rfl) rfl rfl ?_
        refine WL.nil ?_
        refine hK48 ?_
        refine WC.seq fun K60 hK60 => ?_
        refine WC.region ?_
        refine WL.val (dx_move rfl rfl) rfl rfl ?_
        refine WL.val (dx_fld (o1 := 0) rfl ty_fld_42_0_0 rfl rfl) rfl rfl ?_
        refine WL.val (dx_loadN (cs := [.string wt.1.1, .string wt.1.2]) rfl ty_agg_40_2 rfl (k3.part 0 2) rfl) rfl rfl ?_
        refine WL.get (dx_cv rfl Tryz.func29 rfl rfl rfl (refFind_v xs wt.1.1 wt.1.2 _ W57 _ hL h1 hsz)) rfl rfl ?_
        rintro _ W62 ⟨rfl, b61⟩
        replace h1 := h1.below b61
        replace hM := hM.below b61
        replace h5 := h5.below b61
        replace j30 := j30.below b61
        replace j35 := j35.below b61
        replace j40 := j40.below b61
        replace j45 := j45.below b61
        replace k3 := k3.below b61
        replace k59 := k59.below b61
        replace hB := below_then hB b61
        replace hL := LL.below hL b61
        refine WL.val (dx_move rfl rfl) rfl rfl ?_
        refine WL.val (dx_extract rfl rfl rfl) rfl rfl ?_
        refine WL.val (dx_extract rfl rfl rfl) rfl rfl ?_
        refine WL.get (dx_alloc rfl ty_zero_42 rfl) rfl rfl ?_
        rintro _ W63 ⟨rfl, k64, b65, z66⟩
        have n67 : w.heap.size ≠ W62.heap.size := Nat.ne_of_lt k3.lt
        have n68 : W50.heap.size ≠ W62.heap.size := Nat.ne_of_lt k59.lt
        have l69 := hB.size
        replace h1 := h1.more b65 (Nat.le_refl _)
        replace hM := hM.more b65 (Nat.le_refl _)
        replace h5 := h5.more b65 (Nat.le_refl _)
        replace j30 := j30.more b65 (Nat.le_refl _)
        replace j35 := j35.more b65 (Nat.le_refl _)
        replace j40 := j40.more b65 (Nat.le_refl _)
        replace j45 := j45.more b65 (Nat.le_refl _)
        replace k3 := k3.below b65
        replace k59 := k59.below b65
        replace hB := below_then hB b65
        replace hL := LL.more hL z66
        refine WL.do (dx_store (cs' := [.string ((findB xs wt.1.1 wt.1.2).1.1.1), .string ((findB xs wt.1.1 wt.1.2).1.1.2), .string ((findB xs wt.1.1 wt.1.2).1.2.1), .int .i64 ((findB xs wt.1.1 wt.1.2).1.2.2)]) (vs := [.string ((findB xs wt.1.1 wt.1.2).1.1.1), .string ((findB xs wt.1.1 wt.1.2).1.1.2), .string ((findB xs wt.1.1 wt.1.2).1.2.1), .int .i64 ((findB xs wt.1.1 wt.1.2).1.2.2)]) rfl ty_size_42_4 rfl rfl rfl (oc_cons rfl (oc_cons rfl (oc_cons rfl (oc_cons rfl oc_nil)))) k64 rfl (Nat.le_of_ble_eq_true rfl) rfl) rfl ?_
        rintro _ W70 ⟨k72, o71⟩
        replace k3 := k3.other o71 n67
        replace k59 := k59.other o71 n68
        clear k64
        replace h1 := h1.only o71 (.head _)
        replace hM := hM.only o71 (.head _)
        replace h5 := h5.only o71 (.head _)
        replace j30 := j30.only o71 (.head _)
        replace j35 := j35.only o71 (.head _)
        replace j40 := j40.only o71 (.head _)
        replace j45 := j45.only o71 (.head _)
        replace hB := o71.below hB l69
        replace hL := LL.only hL o71
        refine WL.val (dx_assign rfl rfl) rfl rfl ?_
        refine WL.nil ?_
        refine hK60 ?_
        refine WC.seq fun K73 hK73 => ?_
        refine WC.region ?_
        refine WL.val (dx_move rfl rfl) rfl rfl ?_
        refine WL.val (dx_move rfl rfl) rfl rfl ?_
        refine WL.get (dx_cv rfl Tryz.func30 rfl rfl rfl (sameB_v (bindB xs wt) _ _ W70 _ hL j30 j35)) rfl rfl ?_
        rintro _ W75 ⟨rfl, b74⟩
        replace h1 := h1.below b74
        replace hM := hM.below b74
        replace h5 := h5.below b74
        replace j30 := j30.below b74
        replace j35 := j35.below b74
        replace j40 := j40.below b74
        replace j45 := j45.below b74
        replace k3 := k3.below b74
        replace k59 := k59.below b74
        replace k72 := k72.below b74
        replace hB := below_then hB b74
        replace hL := LL.below hL b74
        refine WL.val (dx_move rfl rfl) rfl rfl ?_
        refine WL.val (dx_move rfl rfl) rfl rfl ?_
        refine WL.val (dx_move rfl rfl) rfl rfl ?_
        refine WL.val (dv_T (dx_eql rfl rfl rfl) rfl) rfl rfl ?_
        refine WL.val (dx_pick rfl rfl rfl) rfl rfl ?_
        refine WL.val (dx_move rfl rfl) rfl rfl ?_
        refine WL.val (dx_move rfl rfl) rfl rfl ?_
        refine WL.val (dx_move rfl rfl) rfl rfl ?_
        refine WL.get (dx_cv rfl Tryz.func30 rfl rfl rfl (sameB_v (unbB xs wt) _ _ W75 _ hL j40 j45)) rfl rfl ?_
        rintro _ W77 ⟨rfl, b76⟩
        replace h1 := h1.below b76
        replace hM := hM.below b76
        replace h5 := h5.below b76
        replace j30 := j30.below b76
        replace j35 := j35.below b76
        replace j40 := j40.below b76
        replace j45 := j45.below b76
        replace k3 := k3.below b76
        replace k59 := k59.below b76
        replace k72 := k72.below b76
        replace hB := below_then hB b76
        replace hL := LL.below hL b76
        refine WL.val (dx_pick rfl rfl rfl) rfl rfl ?_
        refine WL.val (dx_move rfl rfl) rfl rfl ?_
        refine WL.val (dx_move rfl rfl) rfl rfl ?_
        refine WL.val (dx_move rfl rfl) rfl rfl ?_
        refine WL.val (dv_T (dx_eql rfl rfl rfl) rfl) rfl rfl ?_
        refine WL.val (dx_pick rfl rfl rfl) rfl rfl ?_
        refine WL.val (dx_move rfl rfl) rfl rfl ?_
        refine WL.val (dx_loadN rfl ty_agg_42_4 rfl k59.range rfl) rfl rfl ?_
        refine WL.val (dx_loadN rfl ty_agg_42_4 rfl k72.range rfl) rfl rfl ?_
        refine WL.val (dx_eqBdR rfl rfl rfl) rfl rfl ?_
        refine WL.val (dx_pick rfl rfl rfl) rfl rfl ?_
        refine WL.val (dx_move rfl rfl) rfl rfl ?_
        refine WL.val (dx_move rfl rfl) rfl rfl ?_
        refine WL.val (dx_move rfl rfl) rfl rfl ?_
        refine WL.val (dv_T (dx_eqB rfl Tryz.underlying4 rfl rfl) rfl) rfl rfl ?_
        refine WL.val (dx_pick rfl rfl rfl) rfl rfl ?_
        refine WL.val (dx_move rfl rfl) rfl rfl ?_
        refine WL.val (dx_move rfl rfl) rfl rfl ?_
        refine WL.get (dx_cv rfl Tryz.func31 rfl rfl rfl (rightB_v xs _ W77 _ hL h5 hM hsz)) rfl rfl ?_
        rintro _ W79 ⟨rfl, b78⟩
        replace h1 := h1.below b78
        replace hM := hM.below b78
        replace h5 := h5.below b78
        replace j30 := j30.below b78
        replace j35 := j35.below b78
        replace j40 := j40.below b78
        replace j45 := j45.below b78
        replace k3 := k3.below b78
        replace k59 := k59.below b78
        replace k72 := k72.below b78
        replace hB := below_then hB b78
        replace hL := LL.below hL b78
        refine WL.val (dx_move rfl rfl) rfl rfl ?_
        refine WL.get (dx_cv rfl Tryz.func32 rfl rfl rfl (refRightB_v xs _ W79 _ hL h1 hsz)) rfl rfl ?_
        rintro _ W81 ⟨rfl, b80⟩
        replace h1 := h1.below b80
        replace hM := hM.below b80
        replace h5 := h5.below b80
        replace j30 := j30.below b80
        replace j35 := j35.below b80
        replace j40 := j40.below b80
        replace j45 := j45.below b80
        replace k3 := k3.below b80
        replace k59 := k59.below b80
        replace k72 := k72.below b80
        replace hB := below_then hB b80
        replace hL := LL.below hL b80
        refine WL.val (dv_T (dx_eqB rfl Tryz.underlying4 rfl rfl) rfl) rfl rfl ?_
        refine WL.val (dx_pick rfl rfl rfl) rfl rfl ?_
        refine WL.val (dx_move rfl rfl) rfl rfl ?_
        refine WL.val (dx_move rfl rfl) rfl rfl ?_
        refine WL.val (dx_move rfl rfl) rfl rfl ?_
        refine WL.get (dx_cv rfl Tryz.func34 rfl rfl rfl (of_v xs mx _ W81 _ hL h5 hM hsz)) rfl rfl ?_
        rintro u82 W85 ⟨j83, b84⟩
        replace h1 := h1.below b84
        replace hM := hM.below b84
        replace h5 := h5.below b84
        replace j30 := j30.below b84
        replace j35 := j35.below b84
        replace j40 := j40.below b84
        replace j45 := j45.below b84
        replace k3 := k3.below b84
        replace k59 := k59.below b84
        replace k72 := k72.below b84
        replace hB := below_then hB b84
        replace hL := LL.below hL b84
        refine WL.val (dx_move rfl rfl) rfl rfl ?_
        refine WL.val (dx_move rfl rfl) rfl rfl ?_
        refine WL.get (dx_cv rfl Tryz.func35 rfl rfl rfl (refOf_v xs mx _ W85 _ hL h1 hxl hsz)) rfl rfl ?_
        rintro u86 W89 ⟨j87, b88⟩
        replace h1 := h1.below b88
        replace hM := hM.below b88
        replace h5 := h5.below b88
        replace j30 := j30.below b88
        replace j35 := j35.below b88
        replace j40 := j40.below b88
        replace j45 := j45.below b88
        replace j83 := j83.below b88
        replace k3 := k3.below b88
        replace k59 := k59.below b88
        replace k72 := k72.below b88
        replace hB := below_then hB b88
        replace hL := LL.below hL b88
        refine WL.get (dx_cv rfl Tryz.func33 rfl rfl rfl (alike_v (ofB xs mx) _ _ W89 _ hL j83 j87)) rfl rfl ?_
        rintro _ W91 ⟨rfl, b90⟩
        replace h1 := h1.below b90
        replace hM := hM.below b90
        replace h5 := h5.below b90
        replace j30 := j30.below b90
        replace j35 := j35.below b90
        replace j40 := j40.below b90
        replace j45 := j45.below b90
        replace j83 := j83.below b90
        replace j87 := j87.below b90
        replace k3 := k3.below b90
        replace k59 := k59.below b90
        replace k72 := k72.below b90
        replace hB := below_then hB b90
        replace hL := LL.below hL b90
        refine WL.val (dx_pick rfl rfl rfl) rfl rfl ?_
        refine WL.val (dx_move rfl rfl) rfl rfl ?_
        refine WL.val (dx_move rfl rfl) rfl rfl ?_
        refine WL.val (dx_move rfl rfl) rfl rfl ?_
        refine WL.get (dx_cv rfl Tryz.func30 rfl rfl rfl (sameB_v xs _ _ W91 _ hL h5 h1)) rfl rfl ?_
        rintro _ W93 ⟨rfl, b92⟩
        replace h1 := h1.below b92
        replace hM := hM.below b92
        replace h5 := h5.below b92
        replace j30 := j30.below b92
        replace j35 := j35.below b92
        replace j40 := j40.below b92
        replace j45 := j45.below b92
        replace j83 := j83.below b92
        replace j87 := j87.below b92
        replace k3 := k3.below b92
        replace k59 := k59.below b92
        replace k72 := k72.below b92
        replace hB := below_then hB b92
        replace hL := LL.below hL b92
        refine WL.val (dx_pick rfl rfl rfl) rfl rfl ?_
        refine WL.val (dx_assign rfl rfl) rfl rfl ?_
        refine WL.nil ?_
        refine hK73 ?_
        refine WC.ret fun a_ ha_ => ?_
        exact hQ (cv_ret1 rfl (.tmp rfl) rfl hB ha_)

end Go.Proofs.YthefddclefimoaaGreatDoor
