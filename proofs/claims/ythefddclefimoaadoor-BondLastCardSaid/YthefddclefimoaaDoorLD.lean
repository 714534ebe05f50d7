/- bond.Of; BondCounts. The fixed fact of layer 18; BondCounts. Bonds: binding and freeing, what is bound to whom. No program stands here. Parts of texts, both ends given. No program stands here. BondLast, walked. Slices of structures as arguments, with what their data weighs. No program stands here. Bonds, as arguments. The acts of BondLast, as an argument. -/
import Derived.Test.YthefddclefimoaaDoorTie
import Derived.Test.YthefddclefimoaaDoorCards
import Derived.Deep.Strs
import Derived.ChangeSame
import Derived.Deep.DeepHandedRow
import Derived.Lay
import Derived.LaidLaws
import Derived.SevenTiedAt
import Derived.Test.YthefddclefimoaaDoorLC
namespace Go.Proofs.YthefddclefimoaaDoor
open Go.RowKit
set_option linter.unusedVariables false
set_option linter.unusedSimpArgs false
set_option maxRecDepth 8000

/-- Nil, or a slice of one's own, new since the base, in none of these blocks. -/
def OwnL (s base : Nat) (L : List Nat) (w : World) (u : Value) (rs : List (List Value)) : Prop := (u = .slice none 0 0 ∧ rs = [] ∧ 0 < s) ∨ ∃ B, base ≤ B ∧ B ∉ L ∧ OwS s w u rs B
theorem OwnL.below {s base : Nat} {L : List Nat} {w w' : World} {u : Value} {rs : List (List Value)} (h : OwnL s base L w u rs) (hb : Below w.heap.size w w') : OwnL s base L w' u rs := by
  rcases h with h | ⟨B, h1, h2, h3⟩
  · exact .inl h
  · exact .inr ⟨B, h1, h2, h3.below hb⟩
theorem OwnL.more {s base : Nat} {L : List Nat} {w w' : World} {u : Value} {rs : List (List Value)} (h : OwnL s base L w u rs) (hb : Below w.heap.size w w') {C : Nat} (hC : w.heap.size ≤ C) : OwnL s base (C :: L) w' u rs := by
  rcases h with h | ⟨B, h1, h2, h3⟩
  · exact .inl h
  · refine .inr ⟨B, h1, fun hx => ?_, h3.below hb⟩
    have := h3.lt
    rcases List.mem_cons.1 hx with e | e
    · omega
    · exact h2 e
theorem OwnL.only {s base : Nat} {L : List Nat} {w w' : World} {u : Value} {rs : List (List Value)} (h : OwnL s base L w u rs) {C : Nat} (ho : Only C w w') (hC : C ∈ L) : OwnL s base L w' u rs := by
  rcases h with h | ⟨B, h1, h2, h3⟩
  · exact .inl h
  · exact .inr ⟨B, h1, h2, h3.other ho (fun e => h2 (e ▸ hC))⟩
theorem OwnL.less {s base : Nat} {L L' : List Nat} {w : World} {u : Value} {rs : List (List Value)} (h : OwnL s base L w u rs) (hl : ∀ x, x ∈ L' → x ∈ L) : OwnL s base L' w u rs := by
  rcases h with h | ⟨B, h1, h2, h3⟩
  · exact .inl h
  · exact .inr ⟨B, h1, fun hx => h2 (hl _ hx), h3⟩
theorem OwnL.new {s base : Nat} {L : List Nat} {w : World} {u : Value} {rs : List (List Value)} (h : OwnL s base L w u rs) : NewW s base rs u w := by
  rcases h with h | ⟨B, h1, h2, h3⟩
  · exact .inl h
  · exact .inr ⟨B, h1, h3⟩
theorem NewW.toL {s : Nat} {L : List Nat} {w0 w : World} {u : Value} {rs : List (List Value)} (h : NewW s w0.heap.size rs u w) (hL : LL L w0) : OwnL s w0.heap.size L w u rs := by
  rcases h with h | ⟨B, h1, h2⟩
  · exact .inl h
  · exact .inr ⟨B, h1, hL.notin h1, h2⟩
theorem OwnL.rd {s base : Nat} {L : List Nat} {w : World} {u : Value} {rs : List (List Value)} (h : OwnL s base L w u rs) : RdF s L w u rs := by
  rcases h with ⟨rfl, rfl, h0⟩ | ⟨B, h1, h2, h3⟩
  · exact RdF.nil h0
  · exact h3.rd h2
theorem filt_len {α : Type} (p : α → Bool) (xs : List α) (i : Nat) : ((xs.take i).filter p).length ≤ i := Nat.le_trans (List.length_filter_le _ _) (by rw [List.length_take]; omega)
set_option maxHeartbeats 1000000 in
theorem of_v (xs : List BondX) (mx : ByteArray) (sv : Value) (w : World) (L : List Nat) (hL : LL L w) (h1 : RdF 4 L w sv (xs.map encB)) (hM : MaxL L w)  (hsz : smallB xs) : CV Tryd.prog 20 [sv, .string mx] w fun v W => RdF 2 L W v ((ofB xs mx).map encAd) := by
  refine cv_enter (N := 28) (f := [(0, sv), (1, .string mx)]) Tryd.func20 rfl rfl rfl rfl fun Q hQ hE => ?_
  have hB := Below.refl w.heap.size w
  have hL0 := hL
  have h10 := h1
  have hM0 := hM
  have h1m : xs.length ≤ maxLen := by have := h1.len; rwa [List.length_map] at this
  unfold maxLen at h1m
  refine WC.seq fun K1 hK1 => ?_
  refine WC.region ?_
  refine WL.val (dx_assign rfl rfl) rfl rfl ?_
  refine WL.nil ?_
  refine hK1 ?_
  refine WC.seq fun K2 hK2 => ?_
  refine WC.seq fun K3 hK3 => ?_
  refine WC.region ?_
  refine WL.val (dx_move rfl rfl) rfl rfl ?_
  refine WL.get (dx_cv rfl Tryd.func18 rfl rfl rfl (rightB_v xs _ w _ hL h1 hM hsz)) rfl rfl ?_
  rintro _ W5 ⟨rfl, b4⟩
  replace h1 := h1.below b4
  replace hM := hM.below b4
  replace hB := below_then hB b4
  replace hL := LL.below hL b4
  refine WL.val (dx_not rfl rfl) rfl rfl ?_
  refine WL.nil ?_
  refine hK3 ?_
  refine WC.cond rfl (fun c6 => ?_) (fun c6 => ?_)
  ·
    replace c6 := bnot_t c6
    refine WC.seq fun K7 hK7 => ?_
    refine WC.region ?_
    refine WL.val (dx_assign rfl rfl) rfl rfl ?_
    refine WL.nil ?_
    refine hK7 ?_
    refine WC.ret fun a_ ha_ => ?_
    exact hQ (cv_ret1 rfl (.tmp rfl) (by have hr : ofB xs mx = [] := (by unfold ofB; rw [if_neg (by intro h; simp_all)]); rw [hr]; exact RdF.nil (by decide)) hB ha_)
  ·
    replace c6 := bnot_f c6
    refine WC.skip ?_
    refine hK2 ?_
    refine WC.seq fun K8 hK8 => ?_
    refine WC.region ?_
    refine WL.val (dx_assign rfl rfl) rfl rfl ?_
    refine WL.nil ?_
    refine hK8 ?_
    refine WC.seq fun K9 hK9 => ?_
    refine WC.seq fun K10 hK10 => ?_
    have hrl := right_len (show rightB xs = true by assumption)
    have hu : OwnL 2 w.heap.size (L) W5 (.slice none 0 0) ((((xs.take 0).filter fun b => decide (b.2.1 = mx)).map (·.1)).map encAd) := .inl ⟨rfl, rfl, by decide⟩
    refine WC.region ?_
    refine WL.val (dx_move rfl rfl) rfl rfl ?_
    refine WL.val (dx_lenX rfl ty_slice_38 rfl h1) rfl rfl ?_
    refine WL.val (dx_move rfl rfl) rfl rfl ?_
    refine WL.nil ?_
    refine hK10 ?_
    refine WC.block ?_
    refine WC.loop2 (fun (i : Nat) (cu : Value) => [(0, sv), (1, .string mx), (11, sv), (12, .int .i64 (xs.length : Int)), (13, .int .i64 (i : Int)), (5, cu)]) (fun (i : Nat) (cu : Value) W => i ≤ xs.length ∧ Below w.heap.size w W ∧ LL (L) W ∧ RdF 4 (L) W sv (xs.map encB) ∧ MaxL (L) W ∧ OwnL 2 w.heap.size (L) W cu ((((xs.take i).filter fun b => decide (b.2.1 = mx)).map (·.1)).map encAd)) (fun (i : Nat) (cu : Value) => xs.length - i) 0 (.slice none 0 0) (by repeat first | exact trivial | exact And.intro rfl trivial | refine And.intro rfl ?_ | refine And.intro (congrArg (fun z : Int => some (Value.int .i64 z)) (by omega)) ?_) ⟨Nat.zero_le _, hB, hL, h1, hM, hu⟩ ?_
    clear h1 hM hu hB hL
    rintro K11 i cu W12 ⟨hi, hB, hL, h1, hM, hu⟩ hK11
    refine WC.seq fun K13 hK13 => ?_
    refine WC.region ?_
    refine WL.val (dx_lss rfl rfl rfl) rfl rfl ?_
    refine WL.nil ?_
    refine hK13 ?_
    refine WC.seq fun K14 hK14 => ?_
    refine WC.cond rfl (fun c15 => ?_) (fun c15 => ?_)
    ·
      replace c15 := of_decide_eq_true c15
      refine WC.skip ?_
      refine hK14 ?_
      refine WC.seq fun K16 hK16 => ?_
      refine WC.block ?_
      refine WC.seq fun K17 hK17 => ?_
      refine WC.region ?_
      obtain ⟨r18, e19⟩ : ∃ x, xs[i]? = some x := ⟨_, List.getElem?_eq_getElem (by omega)⟩
      refine WL.get (dx_idxF i rfl ty_slice_38 rfl rfl h1 (by omega) (at_mapX e19)) rfl rfl ?_
      rintro u20 _ ⟨rfl, p21⟩
      refine WL.val (dx_loadPN rfl ty_agg_45_4 rfl p21 rfl) rfl rfl ?_
      refine WL.get (dx_alloc rfl ty_zero_45 rfl) rfl rfl ?_
      rintro _ W22 ⟨rfl, k23, b24, z25⟩
      have l26 := hB.size
      replace h1 := h1.more b24 (Nat.le_refl _)
      replace hM := hM.more b24 (Nat.le_refl _)
      replace hu := hu.more b24 (Nat.le_refl _)
      replace p21 := p21.more b24 (Nat.le_refl _)
      replace hB := below_then hB b24
      replace hL := LL.more hL z25
      refine WL.do (dx_store (cs' := [.string r18.1.1, .string r18.1.2, .string r18.2.1, .int .i64 r18.2.2]) (vs := [.string r18.1.1, .string r18.1.2, .string r18.2.1, .int .i64 r18.2.2]) rfl ty_size_45_4 rfl rfl rfl (oc_cons rfl (oc_cons rfl (oc_cons rfl (oc_cons rfl oc_nil)))) k23 rfl (Nat.le_of_ble_eq_true rfl) rfl) rfl ?_
      rintro _ W27 ⟨k29, o28⟩
      clear k23
      replace h1 := h1.only o28 (.head _)
      replace hM := hM.only o28 (.head _)
      replace hu := hu.only o28 (.head _)
      replace p21 := p21.only o28 (.head _)
      replace hB := o28.below hB l26
      replace hL := LL.only hL o28
      refine WL.nil ?_
      refine hK17 ?_
      refine WC.seq fun K30 hK30 => ?_
      refine WC.region ?_
      refine WL.val (dx_fld (o1 := 2) rfl ty_fld_45_1_2 rfl rfl) rfl rfl ?_
      refine WL.val (dx_load rfl ty_one_9 rfl (k29.cell (k := 2) rfl)) rfl rfl ?_
      refine WL.val (dx_move rfl rfl) rfl rfl ?_
      refine WL.val (dx_eqlT rfl rfl rfl) rfl rfl ?_
      refine WL.nil ?_
      refine hK30 ?_
      refine WC.cond rfl (fun c31 => ?_) (fun c31 => ?_)
      ·
        replace c31 := of_decide_eq_true c31
        refine WC.region ?_
        refine WL.val (dx_move rfl rfl) rfl rfl ?_
        refine WL.val (dx_fld (o1 := 0) rfl ty_fld_45_0_0 rfl rfl) rfl rfl ?_
        refine WL.val (dx_loadN (cs := [.string r18.1.1, .string r18.1.2]) rfl ty_agg_43_2 rfl (k29.part 0 2) rfl) rfl rfl ?_
        refine WL.get (dx_lit1 (r := encAd r18.1) rfl ty_ap_52 (by decide) (by decide) rfl rfl rfl) rfl rfl ?_
        rintro u32 W33 ⟨k34, b35, z36⟩
        replace h1 := h1.below b35
        replace hM := hM.below b35
        replace hu := hu.below b35
        replace k29 := k29.below b35
        replace hB := below_then hB b35
        replace hL := LL.below hL b35
        have q1 := filt_len (fun b => decide (b.2.1 = mx)) xs i
        refine WL.get (dx_apW rfl ty_ap_52 rfl rfl hu.new (k34.rd (L := []) (by simp)) (fun r hr => by rw [List.mem_singleton.1 hr]; exact oc_Ad _) (by rw [List.length_map, List.length_map]; unfold maxLen; simp; omega) (by rw [List.length_map, List.length_map]; simp; omega) hB.size) rfl rfl ?_
        rintro u38 W39 ⟨k40, b41⟩
        replace hB := hB.trans b41
        replace h1 := h10.below hB
        replace hM := hM0.below hB
        replace hL := LL.below hL0 hB
        replace k40 := k40.toL hL0
        refine WL.val (dx_assign rfl rfl) rfl rfl ?_
        refine WL.nil ?_
        refine hK16 ?_
        refine WC.region ?_
        refine WL.val (dx_add (r := (i : Int) + 1) rfl rfl rfl (wrap64_id (by omega))) rfl rfl ?_
        refine WL.val (dx_move rfl rfl) rfl rfl ?_
        refine WL.nil ?_
        replace k40 : OwnL 2 w.heap.size (L) W39 u38 ((((xs.take (i + 1)).filter fun b => decide (b.2.1 = mx)).map (·.1)).map encAd) := (by rw [of_step mx e19, if_pos (by assumption), List.map_append]; exact k40)
        exact hK11 (i + 1) u38 ⟨(by omega), hB, hL, h1, hM, k40⟩ (by omega) (by repeat first | exact trivial | exact And.intro rfl trivial | refine And.intro rfl ?_ | refine And.intro (congrArg (fun z : Int => some (Value.int .i64 z)) (by omega)) ?_)
      ·
        replace c31 := of_decide_eq_false c31
        refine WC.skip ?_
        refine hK16 ?_
        refine WC.region ?_
        refine WL.val (dx_add (r := (i : Int) + 1) rfl rfl rfl (wrap64_id (by omega))) rfl rfl ?_
        refine WL.val (dx_move rfl rfl) rfl rfl ?_
        refine WL.nil ?_
        replace hu : OwnL 2 w.heap.size (W12.heap.size :: L) W27 cu ((((xs.take (i + 1)).filter fun b => decide (b.2.1 = mx)).map (·.1)).map encAd) := (by rw [of_step mx e19, if_neg (by assumption), List.append_nil]; exact hu)
        replace hL := hL.less (fun x hx => (.tail _ hx))
        replace h1 := h1.less (fun x hx => (.tail _ hx))
        replace hM := hM.less (fun x hx => (.tail _ hx))
        replace hu := hu.less (fun x hx => (.tail _ hx))
        exact hK11 (i + 1) cu ⟨(by omega), hB, hL, h1, hM, hu⟩ (by omega) (by repeat first | exact trivial | exact And.intro rfl trivial | refine And.intro rfl ?_ | refine And.intro (congrArg (fun z : Int => some (Value.int .i64 z)) (by omega)) ?_)
    ·
      replace c15 := of_decide_eq_false c15
      refine WC.exit ?_
      refine hK9 ?_
      refine WC.seq fun K42 hK42 => ?_
      refine WC.region ?_
      refine WL.val (dx_move rfl rfl) rfl rfl ?_
      refine WL.val (dx_assign rfl rfl) rfl rfl ?_
      refine WL.nil ?_
      refine hK42 ?_
      refine WC.ret fun a_ ha_ => ?_
      exact hQ (cv_ret1 rfl (.tmp rfl) (by have hr : ofB xs mx = (((xs.take i).filter fun b => decide (b.2.1 = mx)).map (·.1)) := (by unfold ofB; rw [if_pos (by assumption), show xs.take i = xs from List.take_of_length_le (by omega)]); rw [hr]; exact hu.rd) hB ha_)

end Go.Proofs.YthefddclefimoaaDoor
namespace Go.Proofs.YthefddclefimoaaDoor
open Go.RowKit
set_option linter.unusedVariables false
set_option linter.unusedSimpArgs false
set_option maxRecDepth 8000

theorem bld_bond (a b c : ByteArray) (n : Int) : Tryd.prog.built 45 [(0, .agg #[.string a, .string b]), (1, .string c), (2, .int .i64 n)] = some [.string a, .string b, .string c, .int .i64 n].toArray := by kernel_rfl
theorem bld_bond2 (a b c : ByteArray) : Tryd.prog.built 45 [(0, .agg #[.string a, .string b]), (1, .string c)] = some [.string a, .string b, .string c, .int .i64 0].toArray := by kernel_rfl
theorem place_some {xs : List BondX} {j : Nat} {c : BondX} (hr : rightB xs = true) (h : xs[j]? = some c) : placeB xs c.1.1 c.1.2 = ((j : Int), true) := by
  obtain ⟨hj, rfl⟩ := List.getElem?_eq_some_iff.1 h
  have hp := ((rightB_iff xs).1 hr).2.2
  have hirr := lessA_irrefl (xs[j].1.1, xs[j].1.2)
  obtain ⟨k, h1, h2, h3, h4⟩ := placeB_cases xs xs[j].1.1 xs[j].1.2
  have hjk : ¬ j < k := fun hl => by
    have := h3 xs[j] (by rw [List.mem_iff_getElem]; exact ⟨j, by rw [List.length_take]; omega, by rw [List.getElem_take]⟩)
    rw [hirr] at this; cases this
  have hkj : ¬ k < j := fun hl => by
    have hl2 := List.pairwise_iff_getElem.1 hp k j (by omega) hj hl
    rcases h4 with ⟨_, b, hb, e1, e2⟩ | ⟨_, h4⟩
    · rw [List.getElem?_eq_getElem (by omega)] at hb
      cases hb
      have : lessA (xs[k].1.1, xs[k].1.2) (xs[j].1.1, xs[j].1.2) = true := hl2
      rw [e1, e2, hirr] at this; cases this
    · have := lessA_trans _ _ _ (h4 xs[k] (List.getElem?_eq_getElem (by omega))) hl2
      rw [hirr] at this; cases this
  obtain rfl : k = j := by omega
  refine Prod.ext h1 ?_
  rcases h4 with ⟨h4, _⟩ | ⟨_, h4⟩
  · exact h4
  · have := h4 xs[k] (List.getElem?_eq_getElem hj)
    rw [hirr] at this; cases this
theorem find_some {xs : List BondX} {j : Nat} {c : BondX} (hr : rightB xs = true) (h : xs[j]? = some c) : findB xs c.1.1 c.1.2 = (c, true) := by
  unfold findB
  rw [place_some hr h, if_pos ⟨hr, rfl⟩]
  simp [h]
theorem own_find {xs : List BondX} {mx : ByteArray} (hr : rightB xs = true) {i : Nat} {a : ByteArray × ByteArray} (h : (ofB xs mx)[i]? = some a) : ∃ c : BondX, c.2.1 = mx ∧ findB xs a.1 a.2 = (c, true) := by
  unfold ofB at h
  rw [if_pos hr] at h
  obtain ⟨c, hc, rfl⟩ := List.mem_map.1 (List.mem_of_getElem? h)
  obtain ⟨hc1, hc2⟩ := List.mem_filter.1 hc
  obtain ⟨j, hj⟩ := List.getElem?_of_mem hc1
  exact ⟨c, by simpa using hc2, find_some hr hj⟩
abbrev eM : ByteArray := { data := #[101, 109, 97, 105, 108] }
abbrev aB : ByteArray := { data := #[97, 64, 98, 46, 99] }
abbrev aH : ByteArray := { data := #[64, 97, 58, 104] }
abbrev bH : ByteArray := { data := #[64, 98, 58, 104] }
abbrev b1 : BondX := ((eM, aB), aH, 0)
abbrev b2 : BondX := ((eM, aB), bH, 5)
theorem al_g : goodB b1 = true ∧ goodB b2 = true := by decide +kernel
theorem right_one {b : BondX} (h : goodB b = true) : rightB [b] = true := (rightB_iff _).2 ⟨by simp, by simpa using h, by simp⟩
theorem al_e1 : bindE [] b1 = 0 := by
  unfold bindE
  rw [if_pos ⟨rfl, al_g.1⟩]
  rfl
theorem al_b1 : bindB [] b1 = [b1] := by
  unfold bindB
  rw [if_pos al_e1]
  rfl
theorem al_p1 : atB [b1] b2 = (0, true) := place_some (xs := [b1]) (j := 0) (c := b1) (right_one al_g.1) rfl
theorem al_p2 : atB [b2] b1 = (0, true) := place_some (xs := [b2]) (j := 0) (c := b2) (right_one al_g.2) rfl
theorem al_e2 : bindE [b1] b2 = 0 := by
  unfold bindE
  rw [if_pos ⟨right_one al_g.1, al_g.2⟩, al_p1]
  rfl
theorem al_b2 : bindB [b1] b2 = [b2] := by
  unfold bindB
  rw [if_pos al_e2, al_p1]
  rfl
theorem al_u : unbE [b2] b1 = 14 := by
  unfold unbE
  rw [if_pos (right_one al_g.2), al_p2]
  show (if bH = aH then (0 : Int) else 14) = 14
  rw [if_neg (by decide)]
theorem al_f2 : findB [b2] eM aB = (b2, true) := find_some (xs := [b2]) (j := 0) (c := b2) (right_one al_g.2) rfl
theorem of_len (xs : List BondX) (mx : ByteArray) : (ofB xs mx).length ≤ xs.length := by
  unfold ofB
  split
  · rw [List.length_map]; exact List.length_filter_le _ _
  · simp
theorem al_o : ofB [b2] bH = [(eM, aB)] := by
  unfold ofB
  rw [if_pos (right_one al_g.2)]
  rfl
theorem sm_nil : smallB [] := fun b hb => by cases hb
theorem sm_b1 : smallB [b1] := fun b hb => by rw [List.mem_singleton.1 hb]; decide
theorem sm_b2 : smallB [b2] := fun b hb => by rw [List.mem_singleton.1 hb]; decide
set_option maxHeartbeats 1000000 in
theorem one_v  (w : World) (L : List Nat) (hL : LL L w)  : CV Tryd.prog 38 [] w fun v W => v = .agg #[.string { data := #[101, 109, 97, 105, 108] }, .string { data := #[97, 64, 98, 46, 99] }] := by
  refine cv_enter (N := 2) (f := []) Tryd.func38 rfl rfl rfl rfl fun Q hQ hE => ?_
  have hB := Below.refl w.heap.size w
  refine WC.seq fun K1 hK1 => ?_
  refine WC.region ?_
  refine WL.get (dx_alloc rfl ty_zero_43 rfl) rfl rfl ?_
  rintro _ W2 ⟨rfl, k3, b4, z5⟩
  have l6 := hB.size
  replace hB := below_then hB b4
  replace hL := LL.more hL z5
  refine WL.nil ?_
  refine hK1 ?_
  refine WC.seq fun K7 hK7 => ?_
  refine WC.region ?_
  refine WL.val (dx_build rfl rfl (built_of_O (cs := [.string ({ data := #[101, 109, 97, 105, 108] }), .string ({ data := #[97, 64, 98, 46, 99] })]) (by kernel_rfl) (oc_cons rfl (oc_cons rfl oc_nil)))) rfl rfl ?_
  refine WL.do (dx_store (cs' := [.string ({ data := #[101, 109, 97, 105, 108] }), .string ({ data := #[97, 64, 98, 46, 99] })]) (vs := [.string ({ data := #[101, 109, 97, 105, 108] }), .string ({ data := #[97, 64, 98, 46, 99] })]) rfl ty_size_43_2 rfl rfl rfl (oc_cons rfl (oc_cons rfl oc_nil)) k3 rfl (Nat.le_of_ble_eq_true rfl) rfl) rfl ?_
  rintro _ W8 ⟨k10, o9⟩
  clear k3
  replace hB := o9.below hB l6
  replace hL := LL.only hL o9
  refine WL.nil ?_
  refine hK7 ?_
  refine WC.ret fun a_ ha_ => ?_
  exact hQ (cv_ret1 rfl (.agg rfl ty_agg_43_2 k10.range rfl) rfl hB ha_)

set_option maxHeartbeats 1000000 in
theorem great18_v (xs : List BondX) (sv : Value) (w : World) (L : List Nat) (hL : LL L w) (h1 : RdF 4 L w sv (xs.map encB)) : CV Tryd.prog 19 [sv] w fun v W => v = .bool (decide (100 < (xs.length : Int))) := by
  refine cv_enter (N := 6) (f := [(0, sv)]) Tryd.func19 rfl rfl rfl rfl fun Q hQ hE => ?_
  have hB := Below.refl w.heap.size w
  have h1m : xs.length ≤ maxLen := by have := h1.len; rwa [List.length_map] at this
  unfold maxLen at h1m
  refine WC.seq fun K1 hK1 => ?_
  refine WC.region ?_
  refine WL.val (dx_assign rfl rfl) rfl rfl ?_
  refine WL.nil ?_
  refine hK1 ?_
  refine WC.seq fun K2 hK2 => ?_
  refine WC.region ?_
  refine WL.val (dx_move rfl rfl) rfl rfl ?_
  refine WL.val (dx_lenX rfl ty_slice_38 rfl h1) rfl rfl ?_
  refine WL.val (dx_gtr rfl rfl rfl) rfl rfl ?_
  refine WL.val (dx_assign rfl rfl) rfl rfl ?_
  refine WL.nil ?_
  refine hK2 ?_
  refine WC.ret fun a_ ha_ => ?_
  exact hQ (cv_ret1 rfl (.tmp rfl) rfl hB ha_)

set_option maxHeartbeats 1000000 in
theorem alive18_v  (w : World) (L : List Nat) (hL : LL L w) (hM : MaxL L w) : CV Tryd.prog 14 [] w fun v W => v = .bool true := by
  refine cv_enter (N := 58) (f := []) Tryd.func14 rfl rfl rfl rfl fun Q hQ hE => ?_
  have hB := Below.refl w.heap.size w
  refine WC.seq fun K1 hK1 => ?_
  refine WC.region ?_
  refine WL.val (dx_assign rfl rfl) rfl rfl ?_
  refine WL.nil ?_
  refine hK1 ?_
  refine WC.seq fun K2 hK2 => ?_
  refine WC.region ?_
  refine WL.get (dx_cv rfl Tryd.func38 rfl rfl rfl (one_v w [] (LL.nil _))) rfl rfl ?_
  rintro _ W4 ⟨rfl, b3⟩
  replace hM := hM.below b3
  replace hB := below_then hB b3
  replace hL := LL.below hL b3
  refine WL.val (dx_build rfl rfl (bld_bond2 _ _ _)) rfl rfl ?_
  refine WL.get (dx_cv rfl Tryd.func16 rfl rfl rfl ((show CV _ _ [_, _] _ (fun v W => ∃ s2, v = .tuple #[s2, .int .i64 0] ∧ RdF 4 (L) W s2 ([b1].map encB)) from by have := bind_v [] b1 (.slice none 0 0) W4 (L) hL (RdF.nil (by decide)) hM sm_nil (by decide); rw [al_e1, al_b1] at this; exact this))) rfl rfl ?_
  rintro _ W8 ⟨⟨u5, rfl, j6⟩, b7⟩
  replace hM := hM.below b7
  replace hB := below_then hB b7
  replace hL := LL.below hL b7
  refine WL.val (dx_move rfl rfl) rfl rfl ?_
  refine WL.val (dx_extract rfl rfl rfl) rfl rfl ?_
  refine WL.val (dx_extract rfl rfl rfl) rfl rfl ?_
  refine WL.val (dx_assign rfl rfl) rfl rfl ?_
  refine WL.val (dx_assign rfl rfl) rfl rfl ?_
  refine WL.nil ?_
  refine hK2 ?_
  refine WC.seq fun K9 hK9 => ?_
  refine WC.region ?_
  refine WL.val (dx_move rfl rfl) rfl rfl ?_
  refine WL.get (dx_cv rfl Tryd.func38 rfl rfl rfl (one_v W8 [] (LL.nil _))) rfl rfl ?_
  rintro _ W11 ⟨rfl, b10⟩
  replace hM := hM.below b10
  replace j6 := j6.below b10
  replace hB := below_then hB b10
  replace hL := LL.below hL b10
  refine WL.val (dx_build rfl rfl (bld_bond _ _ _ _)) rfl rfl ?_
  refine WL.get (dx_cv rfl Tryd.func16 rfl rfl rfl ((show CV _ _ [_, _] _ (fun v W => ∃ s2, v = .tuple #[s2, .int .i64 0] ∧ RdF 4 (L) W s2 ([b2].map encB)) from by have := bind_v [b1] b2 _ W11 (L) hL j6 hM sm_b1 (by decide); rw [al_e2, al_b2] at this; exact this))) rfl rfl ?_
  rintro _ W15 ⟨⟨u12, rfl, j13⟩, b14⟩
  replace hM := hM.below b14
  replace j6 := j6.below b14
  replace hB := below_then hB b14
  replace hL := LL.below hL b14
  refine WL.val (dx_move rfl rfl) rfl rfl ?_
  refine WL.val (dx_extract rfl rfl rfl) rfl rfl ?_
  refine WL.val (dx_extract rfl rfl rfl) rfl rfl ?_
  refine WL.val (dx_assign rfl rfl) rfl rfl ?_
  refine WL.val (dx_assign rfl rfl) rfl rfl ?_
  refine WL.nil ?_
  refine hK9 ?_
  refine WC.seq fun K16 hK16 => ?_
  refine WC.region ?_
  refine WL.val (dx_move rfl rfl) rfl rfl ?_
  refine WL.get (dx_cv rfl Tryd.func38 rfl rfl rfl (one_v W15 [] (LL.nil _))) rfl rfl ?_
  rintro _ W18 ⟨rfl, b17⟩
  replace hM := hM.below b17
  replace j6 := j6.below b17
  replace j13 := j13.below b17
  replace hB := below_then hB b17
  replace hL := LL.below hL b17
  refine WL.val (dx_build rfl rfl (bld_bond2 _ _ _)) rfl rfl ?_
  refine WL.get (dx_cv rfl Tryd.func15 rfl rfl rfl ((show CV _ _ [_, _] _ (fun v W => ∃ s2, v = .tuple #[s2, .int .i64 14] ∧ RdF 4 (L) W s2 ((unbB [b2] b1).map encB)) from by have := unbind_v [b2] b1 _ W18 (L) hL j13 hM sm_b2; rw [al_u] at this; exact this))) rfl rfl ?_
  rintro _ W22 ⟨⟨u19, rfl, j20⟩, b21⟩
  replace hM := hM.below b21
  replace j6 := j6.below b21
  replace j13 := j13.below b21
  replace hB := below_then hB b21
  replace hL := LL.below hL b21
  refine WL.val (dx_move rfl rfl) rfl rfl ?_
  refine WL.val (dx_extract rfl rfl rfl) rfl rfl ?_
  refine WL.val (dx_extract rfl rfl rfl) rfl rfl ?_
  refine WL.val (dx_assign rfl rfl) rfl rfl ?_
  refine WL.val (dx_assign rfl rfl) rfl rfl ?_
  refine WL.nil ?_
  refine hK16 ?_
  refine WC.seq fun K23 hK23 => ?_
  refine WC.region ?_
  refine WL.val (dx_move rfl rfl) rfl rfl ?_
  refine WL.get (dx_cv rfl Tryd.func38 rfl rfl rfl (one_v W22 [] (LL.nil _))) rfl rfl ?_
  rintro _ W25 ⟨rfl, b24⟩
  replace hM := hM.below b24
  replace j6 := j6.below b24
  replace j13 := j13.below b24
  replace j20 := j20.below b24
  replace hB := below_then hB b24
  replace hL := LL.below hL b24
  refine WL.get (dx_cv rfl Tryd.func17 rfl rfl rfl ((show CV _ _ [_, _] _ (fun v W => v = .tuple #[.agg (encB b2).toArray, .bool true]) from by have := find_v [b2] eM aB _ W25 (L) hL j13 hM sm_b2; rw [al_f2] at this; exact this))) rfl rfl ?_
  rintro _ W27 ⟨rfl, b26⟩
  replace hM := hM.below b26
  replace j6 := j6.below b26
  replace j13 := j13.below b26
  replace j20 := j20.below b26
  replace hB := below_then hB b26
  replace hL := LL.below hL b26
  refine WL.val (dx_move rfl rfl) rfl rfl ?_
  refine WL.val (dx_extract rfl rfl rfl) rfl rfl ?_
  refine WL.val (dx_extract rfl rfl rfl) rfl rfl ?_
  refine WL.get (dx_alloc rfl ty_zero_45 rfl) rfl rfl ?_
  rintro _ W28 ⟨rfl, k29, b30, z31⟩
  have l32 := hB.size
  replace hM := hM.more b30 (Nat.le_refl _)
  replace j6 := j6.more b30 (Nat.le_refl _)
  replace j13 := j13.more b30 (Nat.le_refl _)
  replace j20 := j20.more b30 (Nat.le_refl _)
  replace hB := below_then hB b30
  replace hL := LL.more hL z31
  refine WL.do (dx_store (cs' := [.string ({ data := #[101, 109, 97, 105, 108] }), .string ({ data := #[97, 64, 98, 46, 99] }), .string ({ data := #[64, 98, 58, 104] }), .int .i64 5]) (vs := [.string ({ data := #[101, 109, 97, 105, 108] }), .string ({ data := #[97, 64, 98, 46, 99] }), .string ({ data := #[64, 98, 58, 104] }), .int .i64 5]) rfl ty_size_45_4 rfl rfl rfl (oc_cons rfl (oc_cons rfl (oc_cons rfl (oc_cons rfl oc_nil)))) k29 rfl (Nat.le_of_ble_eq_true rfl) rfl) rfl ?_
  rintro _ W33 ⟨k35, o34⟩
  clear k29
  replace hM := hM.only o34 (.head _)
  replace j6 := j6.only o34 (.head _)
  replace j13 := j13.only o34 (.head _)
  replace j20 := j20.only o34 (.head _)
  replace hB := o34.below hB l32
  replace hL := LL.only hL o34
  refine WL.val (dx_assign rfl rfl) rfl rfl ?_
  refine WL.nil ?_
  refine hK23 ?_
  refine WC.seq fun K36 hK36 => ?_
  refine WC.region ?_
  refine WL.val (dx_move rfl rfl) rfl rfl ?_
  refine WL.val (dx_eql rfl rfl rfl) rfl rfl ?_
  refine WL.val (dx_move rfl rfl) rfl rfl ?_
  refine WL.val (dx_move rfl rfl) rfl rfl ?_
  refine WL.val (dx_eql rfl rfl rfl) rfl rfl ?_
  refine WL.val (dx_pick rfl rfl rfl) rfl rfl ?_
  refine WL.val (dx_move rfl rfl) rfl rfl ?_
  refine WL.val (dx_move rfl rfl) rfl rfl ?_
  refine WL.val (dx_eql rfl rfl rfl) rfl rfl ?_
  refine WL.val (dx_pick rfl rfl rfl) rfl rfl ?_
  refine WL.val (dx_move rfl rfl) rfl rfl ?_
  refine WL.val (dx_move rfl rfl) rfl rfl ?_
  refine WL.val (dx_pick rfl rfl rfl) rfl rfl ?_
  refine WL.val (dx_move rfl rfl) rfl rfl ?_
  refine WL.val (dx_fld (o1 := 2) rfl ty_fld_45_1_2 rfl rfl) rfl rfl ?_
  refine WL.val (dx_load rfl ty_one_9 rfl (k35.cell (k := 2) rfl)) rfl rfl ?_
  refine WL.val (dx_eqlT rfl rfl rfl) rfl rfl ?_
  refine WL.val (dx_pick rfl rfl rfl) rfl rfl ?_
  refine WL.val (dx_move rfl rfl) rfl rfl ?_
  refine WL.split 52 rfl (fun g37 => ?_) (fun g37 => ?_)
  ·
    replace g37 := of_decide_eq_true g37
    refine WL.val (dx_move rfl rfl) rfl rfl ?_
    refine WL.get (dx_cv rfl Tryd.func20 rfl rfl rfl ((show CV _ _ [_, _] _ (fun v W => RdF 2 (W27.heap.size :: L) W v ([(eM, aB)].map encAd)) from by have := of_v [b2] bH _ W33 (W27.heap.size :: L) hL j13 hM sm_b2; rw [al_o] at this; exact this))) rfl rfl ?_
    rintro u38 W41 ⟨j39, b40⟩
    replace hM := hM.below b40
    replace j6 := j6.below b40
    replace j13 := j13.below b40
    replace j20 := j20.below b40
    replace k35 := k35.below b40
    replace hB := below_then hB b40
    replace hL := LL.below hL b40
    refine WL.val (dx_lenX rfl ty_slice_52 rfl j39) rfl rfl ?_
    refine WL.val (dx_eql rfl rfl rfl) rfl rfl ?_
    refine WL.val (dx_pick rfl rfl rfl) rfl rfl ?_
    refine WL.val (dx_assign rfl rfl) rfl rfl ?_
    refine WL.nil ?_
    refine hK36 ?_
    refine WC.ret fun a_ ha_ => ?_
    exact hQ (cv_ret1 rfl (.tmp rfl) rfl hB ha_)
  ·
    exact absurd rfl (of_decide_eq_false g37)

set_option maxHeartbeats 1000000 in
theorem bondCounts_v (xs : List BondX) (mx : ByteArray) (sv : Value) (w : World) (L : List Nat) (hL : LL L w) (h1 : RdF 4 L w sv (xs.map encB)) (hM : MaxL L w)  (hsz : smallB xs) : CV Tryd.prog 6 [sv, .string mx] w fun v W => v = .bool true := by
  refine cv_enter (N := 65) (f := [(0, sv), (1, .string mx)]) Tryd.func6 rfl rfl rfl rfl fun Q hQ hE => ?_
  have hB := Below.refl w.heap.size w
  have h1m : xs.length ≤ maxLen := by have := h1.len; rwa [List.length_map] at this
  unfold maxLen at h1m
  refine WC.seq fun K1 hK1 => ?_
  refine WC.region ?_
  refine WL.val (dx_assign rfl rfl) rfl rfl ?_
  refine WL.nil ?_
  refine hK1 ?_
  refine WC.seq fun K2 hK2 => ?_
  refine WC.seq fun K3 hK3 => ?_
  refine WC.region ?_
  refine WL.get (dx_cv rfl Tryd.func14 rfl rfl rfl (alive18_v w _ hL hM)) rfl rfl ?_
  rintro _ W5 ⟨rfl, b4⟩
  replace h1 := h1.below b4
  replace hM := hM.below b4
  replace hB := below_then hB b4
  replace hL := LL.below hL b4
  refine WL.val (dx_not rfl rfl) rfl rfl ?_
  refine WL.nil ?_
  refine hK3 ?_
  refine WC.condF rfl ?_
  refine WC.skip ?_
  refine hK2 ?_
  refine WC.seq fun K6 hK6 => ?_
  refine WC.seq fun K7 hK7 => ?_
  refine WC.region ?_
  refine WL.val (dx_move rfl rfl) rfl rfl ?_
  refine WL.get (dx_cv rfl Tryd.func19 rfl rfl rfl (great18_v xs _ W5 _ hL h1)) rfl rfl ?_
  rintro _ W9 ⟨rfl, b8⟩
  replace h1 := h1.below b8
  replace hM := hM.below b8
  replace hB := below_then hB b8
  replace hL := LL.below hL b8
  refine WL.val (dx_move rfl rfl) rfl rfl ?_
  refine WL.split 15 rfl (fun g10 => ?_) (fun g10 => ?_)
  ·
    replace g10 := of_decide_eq_true g10
    refine WL.off rfl rfl rfl ?_
    refine WL.off rfl rfl rfl ?_
    refine WL.off rfl rfl rfl ?_
    refine WL.val (dx_pick rfl rfl rfl) rfl rfl ?_
    refine WL.nil ?_
    refine hK7 ?_
    refine WC.condT rfl ?_
    refine WC.seq fun K11 hK11 => ?_
    refine WC.region ?_
    refine WL.val (dx_assign rfl rfl) rfl rfl ?_
    refine WL.nil ?_
    refine hK11 ?_
    refine WC.ret fun a_ ha_ => ?_
    exact hQ (cv_ret1 rfl (.tmp rfl) rfl hB ha_)
  ·
    replace g10 := of_decide_eq_false g10
    refine WL.val (dx_move rfl rfl) rfl rfl ?_
    refine WL.get (dx_cv rfl Tryd.func18 rfl rfl rfl (rightB_v xs _ W9 _ hL h1 hM hsz)) rfl rfl ?_
    rintro _ W13 ⟨rfl, b12⟩
    replace h1 := h1.below b12
    replace hM := hM.below b12
    replace hB := below_then hB b12
    replace hL := LL.below hL b12
    refine WL.val (dx_not rfl rfl) rfl rfl ?_
    refine WL.val (dx_pick rfl rfl rfl) rfl rfl ?_
    refine WL.nil ?_
    refine hK7 ?_
    refine WC.cond rfl (fun c14 => ?_) (fun c14 => ?_)
    ·
      replace c14 := bnot_t c14
      refine WC.seq fun K15 hK15 => ?_
      refine WC.region ?_
      refine WL.val (dx_assign rfl rfl) rfl rfl ?_
      refine WL.nil ?_
      refine hK15 ?_
      refine WC.ret fun a_ ha_ => ?_
      exact hQ (cv_ret1 rfl (.tmp rfl) rfl hB ha_)
    ·
      replace c14 := bnot_f c14
      refine WC.skip ?_
      refine hK6 ?_
      refine WC.seq fun K16 hK16 => ?_
      refine WC.region ?_
      refine WL.val (dx_move rfl rfl) rfl rfl ?_
      refine WL.val (dx_move rfl rfl) rfl rfl ?_
      refine WL.get (dx_cv rfl Tryd.func20 rfl rfl rfl (of_v xs mx _ W13 _ hL h1 hM hsz)) rfl rfl ?_
      rintro u17 W20 ⟨j18, b19⟩
      replace h1 := h1.below b19
      replace hM := hM.below b19
      replace hB := below_then hB b19
      replace hL := LL.below hL b19
      refine WL.val (dx_assign rfl rfl) rfl rfl ?_
      refine WL.nil ?_
      refine hK16 ?_
      refine WC.seq fun K21 hK21 => ?_
      refine WC.region ?_
      refine WL.val (dx_assign rfl rfl) rfl rfl ?_
      refine WL.nil ?_
      refine hK21 ?_
      refine WC.seq fun K22 hK22 => ?_
      refine WC.seq fun K23 hK23 => ?_
      refine WC.region ?_
      refine WL.val (dx_assign rfl rfl) rfl rfl ?_
      refine WL.nil ?_
      refine hK23 ?_
      refine WC.block ?_
      refine WC.loop (fun (i : Nat) => [(0, sv), (1, .string mx), (5, u17), (7, .int .i64 (i : Int)), (6, .int .i64 ((((xs.take i).filter fun b => decide (b.2.1 = mx)).length : Nat) : Int))]) (fun (i : Nat) W => i ≤ xs.length ∧ Below w.heap.size w W ∧ LL (L) W ∧ RdF 4 (L) W sv (xs.map encB) ∧ MaxL (L) W ∧ RdF 2 (L) W u17 ((ofB xs mx).map encAd)) (fun (i : Nat) => xs.length - i) 0 (by repeat first | exact trivial | exact And.intro rfl trivial | refine And.intro rfl ?_ | refine And.intro (congrArg (fun z : Int => some (Value.int .i64 z)) (by omega)) ?_) ⟨Nat.zero_le _, hB, hL, h1, hM, j18⟩ ?_
      clear h1 hM j18 hB hL
      rintro K24 i W25 ⟨hi, hB, hL, h1, hM, j18⟩ hK24
      refine WC.seq fun K26 hK26 => ?_
      refine WC.seq fun K27 hK27 => ?_
      refine WC.region ?_
      refine WL.val (dx_move rfl rfl) rfl rfl ?_
      refine WL.val (dx_move rfl rfl) rfl rfl ?_
      refine WL.val (dx_lenX rfl ty_slice_38 rfl h1) rfl rfl ?_
      refine WL.val (dx_lss rfl rfl rfl) rfl rfl ?_
      refine WL.nil ?_
      refine hK27 ?_
      refine WC.cond rfl (fun c28 => ?_) (fun c28 => ?_)
      ·
        replace c28 := of_decide_eq_true c28
        refine WC.skip ?_
        refine hK26 ?_
        refine WC.seq fun K29 hK29 => ?_
        refine WC.block ?_
        refine WC.seq fun K30 hK30 => ?_
        refine WC.region ?_
        refine WL.val (dx_move rfl rfl) rfl rfl ?_
        refine WL.val (dx_move rfl rfl) rfl rfl ?_
        obtain ⟨r31, e32⟩ : ∃ x, xs[i]? = some x := ⟨_, List.getElem?_eq_getElem (by omega)⟩
        refine WL.get (dx_idxF i rfl ty_slice_38 rfl rfl h1 (by omega) (at_mapX e32)) rfl rfl ?_
        rintro u33 _ ⟨rfl, p34⟩
        refine WL.get (dx_fldP 1 rfl ty_fld_45_1_2 rfl p34 (cs' := [.string r31.2.1]) rfl (Nat.succ_pos _)) rfl rfl ?_
        rintro u35 _ ⟨rfl, p36⟩
        refine WL.val (dx_loadP rfl ty_one_9 rfl p36) rfl rfl ?_
        refine WL.val (dx_move rfl rfl) rfl rfl ?_
        refine WL.val (dx_eqlT rfl rfl rfl) rfl rfl ?_
        refine WL.nil ?_
        refine hK30 ?_
        refine WC.cond rfl (fun c37 => ?_) (fun c37 => ?_)
        ·
          replace c37 := of_decide_eq_true c37
          refine WC.region ?_
          refine WL.val (dx_move rfl rfl) rfl rfl ?_
          have q1 := filt_len (fun b => decide (b.2.1 = mx)) xs i
          have q2 := congrArg List.length (of_step mx e32)
          rw [if_pos (by assumption)] at q2
          simp only [List.length_map, List.length_append, List.length_cons, List.length_nil] at q2
          refine WL.val (dx_add (r := ((((xs.take (i + 1)).filter fun b => decide (b.2.1 = mx)).length : Nat) : Int)) rfl rfl rfl (by rw [wrap64_id (by omega)]; omega)) rfl rfl ?_
          refine WL.val (dx_assign rfl rfl) rfl rfl ?_
          refine WL.nil ?_
          refine hK29 ?_
          refine WC.region ?_
          refine WL.val (dx_move rfl rfl) rfl rfl ?_
          refine WL.val (dx_add (r := (i : Int) + 1) rfl rfl rfl (wrap64_id (by omega))) rfl rfl ?_
          refine WL.val (dx_assign rfl rfl) rfl rfl ?_
          refine WL.nil ?_
          exact hK24 (i + 1) ⟨(by omega), hB, hL, h1, hM, j18⟩ (by omega) (by repeat first | exact trivial | exact And.intro rfl trivial | refine And.intro rfl ?_ | refine And.intro (congrArg (fun z : Int => some (Value.int .i64 z)) (by omega)) ?_)
        ·
          replace c37 := of_decide_eq_false c37
          refine WC.skip ?_
          refine hK29 ?_
          refine WC.region ?_
          refine WL.val (dx_move rfl rfl) rfl rfl ?_
          refine WL.val (dx_add (r := (i : Int) + 1) rfl rfl rfl (wrap64_id (by omega))) rfl rfl ?_
          refine WL.val (dx_assign rfl rfl) rfl rfl ?_
          refine WL.nil ?_
          have q2 := congrArg List.length (of_step mx e32)
          rw [if_neg (by assumption), List.append_nil, List.length_map, List.length_map] at q2
          exact hK24 (i + 1) ⟨(by omega), hB, hL, h1, hM, j18⟩ (by omega) (by repeat first | exact trivial | exact And.intro rfl trivial | refine And.intro rfl ?_ | refine And.intro (congrArg (fun z : Int => some (Value.int .i64 z)) (by omega)) ?_)
      ·
        replace c28 := of_decide_eq_false c28
        refine WC.exit ?_
        refine hK22 ?_
        refine WC.seq fun K38 hK38 => ?_
        refine WC.seq fun K39 hK39 => ?_
        have hof := of_len xs mx
        refine WC.region ?_
        refine WL.val (dx_assign rfl rfl) rfl rfl ?_
        refine WL.nil ?_
        refine hK39 ?_
        refine WC.block ?_
        refine WC.loop (fun (j : Nat) => [(0, sv), (1, .string mx), (5, u17), (6, .int .i64 ((((xs.take i).filter fun b => decide (b.2.1 = mx)).length : Nat) : Int)), (8, .int .i64 (j : Int))]) (fun (j : Nat) W => j ≤ (ofB xs mx).length ∧ Below w.heap.size w W ∧ LL (L) W ∧ RdF 4 (L) W sv (xs.map encB) ∧ MaxL (L) W ∧ RdF 2 (L) W u17 ((ofB xs mx).map encAd)) (fun (j : Nat) => (ofB xs mx).length - j) 0 (by repeat first | exact trivial | exact And.intro rfl trivial | refine And.intro rfl ?_ | refine And.intro (congrArg (fun z : Int => some (Value.int .i64 z)) (by omega)) ?_) ⟨Nat.zero_le _, hB, hL, h1, hM, j18⟩ ?_
        clear h1 hM j18 hB hL
        rintro K40 j W41 ⟨hj, hB, hL, h1, hM, j18⟩ hK40
        refine WC.seq fun K42 hK42 => ?_
        refine WC.seq fun K43 hK43 => ?_
        refine WC.region ?_
        refine WL.val (dx_move rfl rfl) rfl rfl ?_
        refine WL.val (dx_move rfl rfl) rfl rfl ?_
        refine WL.val (dx_lenX rfl ty_slice_52 rfl j18) rfl rfl ?_
        refine WL.val (dx_lss rfl rfl rfl) rfl rfl ?_
        refine WL.nil ?_
        refine hK43 ?_
        refine WC.cond rfl (fun c44 => ?_) (fun c44 => ?_)
        ·
          replace c44 := of_decide_eq_true c44
          refine WC.skip ?_
          refine hK42 ?_
          refine WC.seq fun K45 hK45 => ?_
          refine WC.block ?_
          refine WC.seq fun K46 hK46 => ?_
          refine WC.region ?_
          refine WL.val (dx_move rfl rfl) rfl rfl ?_
          refine WL.val (dx_move rfl rfl) rfl rfl ?_
          refine WL.val (dx_move rfl rfl) rfl rfl ?_
          obtain ⟨r47, e48⟩ : ∃ x, (ofB xs mx)[j]? = some x := ⟨_, List.getElem?_eq_getElem (by omega)⟩
          refine WL.get (dx_idxF j rfl ty_slice_52 rfl rfl j18 (by omega) (at_mapX e48)) rfl rfl ?_
          rintro u49 _ ⟨rfl, p50⟩
          refine WL.val (dx_loadPN rfl ty_agg_43_2 rfl p50 rfl) rfl rfl ?_
          obtain ⟨c0, hcm, hcf⟩ := own_find (show rightB xs = true by assumption) e48
          refine WL.get (dx_cv rfl Tryd.func17 rfl rfl rfl ((show CV _ _ [_, _] _ (fun v W => v = .tuple #[.agg #[.string c0.1.1, .string c0.1.2, .string mx, .int .i64 c0.2.2], .bool true]) from by have := find_v xs r47.1 r47.2 _ W41 (L) hL h1 hM hsz; rw [hcf] at this; rw [← hcm]; exact this))) rfl rfl ?_
          rintro _ W52 ⟨rfl, b51⟩
          replace h1 := h1.below b51
          replace hM := hM.below b51
          replace j18 := j18.below b51
          replace p50 := p50.below b51
          replace hB := below_then hB b51
          replace hL := LL.below hL b51
          refine WL.val (dx_move rfl rfl) rfl rfl ?_
          refine WL.val (dx_extract rfl rfl rfl) rfl rfl ?_
          refine WL.val (dx_extract rfl rfl rfl) rfl rfl ?_
          refine WL.get (dx_alloc rfl ty_zero_45 rfl) rfl rfl ?_
          rintro _ W53 ⟨rfl, k54, b55, z56⟩
          have l57 := hB.size
          replace h1 := h1.more b55 (Nat.le_refl _)
          replace hM := hM.more b55 (Nat.le_refl _)
          replace j18 := j18.more b55 (Nat.le_refl _)
          replace p50 := p50.more b55 (Nat.le_refl _)
          replace hB := below_then hB b55
          replace hL := LL.more hL z56
          refine WL.do (dx_store (cs' := [.string c0.1.1, .string c0.1.2, .string mx, .int .i64 c0.2.2]) (vs := [.string c0.1.1, .string c0.1.2, .string mx, .int .i64 c0.2.2]) rfl ty_size_45_4 rfl rfl rfl (oc_cons rfl (oc_cons rfl (oc_cons rfl (oc_cons rfl oc_nil)))) k54 rfl (Nat.le_of_ble_eq_true rfl) rfl) rfl ?_
          rintro _ W58 ⟨k60, o59⟩
          clear k54
          replace h1 := h1.only o59 (.head _)
          replace hM := hM.only o59 (.head _)
          replace j18 := j18.only o59 (.head _)
          replace p50 := p50.only o59 (.head _)
          replace hB := o59.below hB l57
          replace hL := LL.only hL o59
          refine WL.val (dx_assign rfl rfl) rfl rfl ?_
          refine WL.nil ?_
          refine hK46 ?_
          refine WC.seq fun K61 hK61 => ?_
          refine WC.region ?_
          refine WL.val (dx_move rfl rfl) rfl rfl ?_
          refine WL.val (dx_not rfl rfl) rfl rfl ?_
          refine WL.val (dx_move rfl rfl) rfl rfl ?_
          refine WL.val (dx_fld (o1 := 2) rfl ty_fld_45_1_2 rfl rfl) rfl rfl ?_
          refine WL.val (dx_load rfl ty_one_9 rfl (k60.cell (k := 2) rfl)) rfl rfl ?_
          refine WL.val (dx_move rfl rfl) rfl rfl ?_
          refine WL.val (dx_neqT rfl rfl rfl) rfl rfl ?_
          refine WL.val (dx_pick rfl rfl rfl) rfl rfl ?_
          refine WL.nil ?_
          refine hK61 ?_
          refine WC.cond rfl (fun c62 => ?_) (fun c62 => ?_)
          ·
            replace c62 := bnot_t c62
            exact absurd rfl (of_decide_eq_false c62)
          ·
            replace c62 := bnot_f c62
            replace c62 := of_decide_eq_true c62
            refine WC.skip ?_
            refine hK45 ?_
            refine WC.region ?_
            refine WL.val (dx_move rfl rfl) rfl rfl ?_
            refine WL.val (dx_add (r := (j : Int) + 1) rfl rfl rfl (wrap64_id (by omega))) rfl rfl ?_
            refine WL.val (dx_assign rfl rfl) rfl rfl ?_
            refine WL.nil ?_
            replace hL := hL.less (fun x hx => (.tail _ hx))
            replace h1 := h1.less (fun x hx => (.tail _ hx))
            replace hM := hM.less (fun x hx => (.tail _ hx))
            replace j18 := j18.less (fun x hx => (.tail _ hx))
            exact hK40 (j + 1) ⟨(by omega), hB, hL, h1, hM, j18⟩ (by omega) (by repeat first | exact trivial | exact And.intro rfl trivial | refine And.intro rfl ?_ | refine And.intro (congrArg (fun z : Int => some (Value.int .i64 z)) (by omega)) ?_)
        ·
          replace c44 := of_decide_eq_false c44
          refine WC.exit ?_
          refine hK38 ?_
          refine WC.seq fun K63 hK63 => ?_
          refine WC.region ?_
          refine WL.val (dx_move rfl rfl) rfl rfl ?_
          refine WL.val (dx_move rfl rfl) rfl rfl ?_
          refine WL.val (dx_lenX rfl ty_slice_52 rfl j18) rfl rfl ?_
          refine WL.val (dx_eql rfl rfl rfl) rfl rfl ?_
          refine WL.val (dx_assign rfl rfl) rfl rfl ?_
          refine WL.nil ?_
          refine hK63 ?_
          refine WC.ret fun a_ ha_ => ?_
          exact hQ (cv_ret1 rfl (.tmp rfl) (by have hr : ofB xs mx = (xs.filter fun b => decide (b.2.1 = mx)).map (·.1) := (by unfold ofB; rw [if_pos (by assumption)]); have ht : xs.take i = xs := List.take_of_length_le (by omega); have hl : (ofB xs mx).length = ((xs.take i).filter fun b => decide (b.2.1 = mx)).length := (by rw [hr, ht, List.length_map]); rw [hl, decide_eq_true rfl]) hB ha_)

end Go.Proofs.YthefddclefimoaaDoor
namespace Go.Proofs.YthefddclefimoaaDoor
open Go.RowKit
set_option linter.unusedVariables false
set_option maxRecDepth 8000
/-- What is there behind a binding. -/
theorem bind_mem {ys : List BondX} {b : BondX} (he : bindE ys b = 0) (x : BondX) : x ∈ bindB ys b ↔ x = b ∨ (x ∈ ys ∧ x.1 ≠ b.1) := by
  have he2 := he
  unfold bindE at he2
  split at he2
  · rename_i hr
    obtain ⟨hlen, hg, hp⟩ := (rightB_iff ys).1 hr.1
    unfold bindB
    rw [if_pos he]
    by_cases hat : (atB ys b).2 = true
    · rw [if_pos hat]
      obtain ⟨k, h1, h2, h3, h4⟩ := placeB_cases ys b.1.1 b.1.2
      obtain ⟨c, hc, e1, e2⟩ : ∃ c, ys[k]? = some c ∧ c.1.1 = b.1.1 ∧ c.1.2 = b.1.2 := by
        rcases h4 with ⟨_, h⟩ | ⟨h, _⟩
        · exact h
        · exact absurd hat (by rw [h]; decide)
      have ec : c.1 = b.1 := Prod.ext e1 e2
      obtain ⟨hk, hck⟩ := List.getElem?_eq_some_iff.1 hc
      rw [show (atB ys b).1.toNat = k by rw [show (atB ys b).1 = (k : Int) from h1]; simp]
      constructor
      · intro hx
        obtain ⟨j, hj, rfl⟩ := List.getElem_of_mem hx
        rw [List.length_set] at hj
        rw [List.getElem_set]
        split
        · exact .inl rfl
        · rename_i hjk
          refine .inr ⟨List.getElem_mem _, fun e => ?_⟩
          have hirr := lessA_irrefl (b.1.1, b.1.2)
          rcases Nat.lt_or_ge j k with hl | hl
          · have : ltB ys[j] ys[k] = true := List.pairwise_iff_getElem.1 hp j k hj hk hl
            rw [hck] at this
            unfold ltB at this
            rw [e, ec, hirr] at this; cases this
          · have : ltB ys[k] ys[j] = true := List.pairwise_iff_getElem.1 hp k j hk hj (by omega)
            rw [hck] at this
            unfold ltB at this
            rw [e, ec, hirr] at this; cases this
      · rintro (rfl | ⟨hx, hne⟩)
        · exact List.mem_set hk _
        · obtain ⟨j, hj, rfl⟩ := List.getElem_of_mem hx
          have hjk : k ≠ j := fun e => by
            subst e
            exact hne (by rw [hck, ec])
          rw [← List.getElem_set_ne (l := ys) (a := b) hjk (by rw [List.length_set]; exact hj)]
          exact List.getElem_mem _
    · rw [if_neg hat]
      have hno := place_none hr.1 (show (placeB ys b.1.1 b.1.2).2 = false by simpa using hat)
      rw [List.mem_append, List.mem_cons]
      constructor
      · have key : ∀ y, y ∈ ys → y.1 ≠ b.1 := fun y hy e => hno y hy ⟨by rw [e], by rw [e]⟩
        rintro (h | rfl | h)
        · have := List.mem_of_mem_take h
          exact .inr ⟨this, key x this⟩
        · exact .inl rfl
        · have := List.mem_of_mem_drop h
          exact .inr ⟨this, key x this⟩
      · rintro (rfl | ⟨hx, _⟩)
        · exact .inr (.inl rfl)
        · rw [← List.take_append_drop (atB ys b).1.toNat ys, List.mem_append] at hx
          rcases hx with h | h
          · exact .inl h
          · exact .inr (.inr h)
  · cases he2
theorem bind_right {ys : List BondX} {b : BondX} (he : bindE ys b = 0) : rightB (bindB ys b) = true := by
  have hm := bind_mem he
  have he2 := he
  unfold bindE at he2
  split at he2
  · rename_i hr
    obtain ⟨hlen, hg, hp⟩ := (rightB_iff ys).1 hr.1
    obtain ⟨k, h1, h2, h3, h4⟩ := placeB_cases ys b.1.1 b.1.2
    have hkn : (atB ys b).1.toNat = k := by rw [show (atB ys b).1 = (k : Int) from h1]; simp
    refine (rightB_iff _).2 ⟨?_, fun x hx => ?_, ?_⟩
    · unfold bindB
      rw [if_pos he]
      split
      · rw [List.length_set]; exact hlen
      · rename_i hat
        rw [if_neg hat] at he2
        split at he2
        · cases he2
        · rw [List.length_append, List.length_cons, List.length_take, List.length_drop]; omega
    · rcases (hm x).1 hx with rfl | ⟨h, _⟩
      · exact hr.2
      · exact hg x h
    · unfold bindB
      rw [if_pos he, hkn]
      split
      · rename_i hat
        obtain ⟨c, hc, e1, e2⟩ : ∃ c, ys[k]? = some c ∧ c.1.1 = b.1.1 ∧ c.1.2 = b.1.2 := by
          rcases h4 with ⟨_, h⟩ | ⟨h, _⟩
          · exact h
          · exact absurd hat (by rw [show (atB ys b).2 = false from h]; decide)
        have e : (ys.set k b).map (·.1) = ys.map (·.1) := by
          rw [List.map_set]
          refine List.ext_getElem? fun j => ?_
          rw [List.getElem?_set]
          split
          · rename_i hj
            subst hj
            split
            · rw [List.getElem?_map, hc, show b.1 = c.1 from (Prod.ext e1 e2).symm]; rfl
            · rw [List.getElem?_eq_none (by omega)]
          · rfl
        have c' : (ys.map (·.1)).Pairwise (fun a b => lessA (a.1, a.2) (b.1, b.2) = true) := List.pairwise_map.2 hp
        rw [← e] at c'
        exact List.pairwise_map.1 c'
      · rename_i hat
        have hhi : ∀ y ∈ ys.drop k, lessA (b.1.1, b.1.2) (y.1.1, y.1.2) = true := fun y hy => by
          obtain ⟨j, hj, rfl⟩ := List.getElem_of_mem hy
          rw [List.length_drop] at hj
          rw [List.getElem_drop]
          have hk : lessA (b.1.1, b.1.2) (ys[k].1.1, ys[k].1.2) = true := by
            rcases h4 with ⟨h, _⟩ | ⟨_, h⟩
            · exact absurd h hat
            · exact h _ (List.getElem?_eq_getElem (by omega))
          by_cases hj0 : j = 0
          · subst hj0; simpa using hk
          · exact lessA_trans _ _ _ hk (List.pairwise_iff_getElem.1 hp k (k + j) (by omega) (by omega) (by omega))
        refine List.pairwise_append.2 ⟨hp.sublist (List.take_sublist _ _), List.pairwise_cons.2 ⟨fun y hy => hhi y hy, hp.sublist (List.drop_sublist _ _)⟩, fun x hx y hy => ?_⟩
        rcases List.mem_cons.1 hy with rfl | hy
        · exact h3 x hx
        · exact lessA_trans _ _ _ (h3 x hx) (hhi y hy)
  · cases he2
theorem unb_mem {ys : List BondX} {b : BondX} (he : unbE ys b = 0) (x : BondX) : x ∈ unbB ys b ↔ x ∈ ys ∧ x.1 ≠ b.1 := by
  have he2 := he
  unfold unbE at he2
  split at he2
  · rename_i hr
    obtain ⟨hlen, hg, hp⟩ := (rightB_iff ys).1 hr
    split at he2
    · rename_i hat
      obtain ⟨k, h1, h2, h3, h4⟩ := placeB_cases ys b.1.1 b.1.2
      obtain ⟨c, hc, e1, e2⟩ : ∃ c, ys[k]? = some c ∧ c.1.1 = b.1.1 ∧ c.1.2 = b.1.2 := by
        rcases h4 with ⟨_, h⟩ | ⟨h, _⟩
        · exact h
        · exact absurd hat (by rw [show (atB ys b).2 = false from h]; decide)
      have ec : c.1 = b.1 := Prod.ext e1 e2
      obtain ⟨hk, hck⟩ := List.getElem?_eq_some_iff.1 hc
      have hu : unbB ys b = ys.take k ++ ys.drop (k + 1) := by
        unfold unbB
        rw [if_pos he, show (atB ys b).1.toNat = k by rw [show (atB ys b).1 = (k : Int) from h1]; simp]
      have hs : ys = ys.take k ++ c :: ys.drop (k + 1) := by
        rw [← hck, List.getElem_cons_drop hk, List.take_append_drop]
      have hirr := lessA_irrefl (b.1.1, b.1.2)
      rw [hs] at hp
      obtain ⟨p1, p2, p3⟩ := List.pairwise_append.1 hp
      rw [hu]
      conv => rhs; rw [hs]
      rw [List.mem_append, List.mem_append, List.mem_cons]
      constructor
      · rintro (h | h)
        · refine ⟨.inl h, fun e => ?_⟩
          have : ltB x c = true := p3 x h c (.head _)
          unfold ltB at this
          rw [e, ec, hirr] at this; cases this
        · refine ⟨.inr (.inr h), fun e => ?_⟩
          have : ltB c x = true := (List.pairwise_cons.1 p2).1 x h
          unfold ltB at this
          rw [e, ec, hirr] at this; cases this
      · rintro ⟨h | rfl | h, hne⟩
        · exact .inl h
        · exact absurd ec hne
        · exact .inr h
    · cases he2
  · cases he2
theorem unb_right {ys : List BondX} {b : BondX} (hr : rightB ys = true) : rightB (unbB ys b) = true := by
  unfold unbB
  split
  · obtain ⟨hlen, hg, hp⟩ := (rightB_iff ys).1 hr
    have hs : (ys.take (atB ys b).1.toNat ++ ys.drop ((atB ys b).1.toNat + 1)).Sublist ys := by
      have := List.eraseIdx_sublist ys (atB ys b).1.toNat
      rwa [List.eraseIdx_eq_take_drop_succ] at this
    exact (rightB_iff _).2 ⟨Nat.le_trans hs.length_le hlen, fun x hx => hg x (hs.subset hx), hp.sublist hs⟩
  · exact hr
theorem find_mem {ys : List BondX} {c : BondX} (hr : rightB ys = true) (h : c ∈ ys) : findB ys c.1.1 c.1.2 = (c, true) := by
  obtain ⟨j, hj⟩ := List.getElem?_of_mem h
  exact find_some hr hj
theorem find_noB {ys : List BondX} {m x : ByteArray} (h : ∀ c ∈ ys, c.1 ≠ (m, x)) : findB ys m x = (noB, false) := by
  unfold findB
  rw [if_neg]
  rintro ⟨_, h2⟩
  obtain ⟨k, h1, _, _, h4 | ⟨h4, _⟩⟩ := placeB_cases ys m x
  · obtain ⟨c, hc, e1, e2⟩ := h4.2
    exact h c (List.mem_of_getElem? hc) (Prod.ext e1 e2)
  · rw [h4] at h2; cases h2
/-- Freeing: by the list. -/
theorem unbE_some {ys : List BondX} {b c : BondX} (hr : rightB ys = true) (h : c ∈ ys) (hc : c.1 = b.1) : unbE ys b = if c.2.1 = b.2.1 then 0 else 14 := by
  obtain ⟨j, hj⟩ := List.getElem?_of_mem h
  have hp : placeB ys b.1.1 b.1.2 = ((j : Int), true) := by rw [← hc]; exact place_some hr hj
  unfold unbE
  rw [if_pos hr, show atB ys b = ((j : Int), true) from hp]
  simp [hj]
theorem unbE_none {ys : List BondX} {b : BondX} (hr : rightB ys = true) (h : ∀ c ∈ ys, c.1 ≠ b.1) : unbE ys b = 7 := by
  unfold unbE
  rw [if_pos hr, if_neg]
  intro h2
  obtain ⟨k, h1, _, _, h4 | ⟨h4, _⟩⟩ := placeB_cases ys b.1.1 b.1.2
  · obtain ⟨c, hc, e1, e2⟩ := h4.2
    exact h c (List.mem_of_getElem? hc) (Prod.ext e1 e2)
  · rw [show (atB ys b).2 = false from h4] at h2; cases h2
-- the play
abbrev mS : ByteArray := { data := #[109, 115, 105, 115, 100, 110] }
abbrev n5 : ByteArray := { data := #[49, 50, 51, 52, 53] }
abbrev d5 : ByteArray := { data := #[54, 55, 56, 57, 48] }
abbrev abc3 : ByteArray := { data := #[97, 98, 99] }
def numP (k : Nat) : ByteArray := n5 ++ d5.extract k (k + 1)
def usrP (u : Nat) : ByteArray := ({ data := #[64] } : ByteArray) ++ abc3.extract u (u + 1) ++ ({ data := #[58, 104] } : ByteArray)
theorem play_good : (∀ k, k < 5 → rightA mS (numP k) = true) ∧ (∀ u, u < 3 → userB (usrP u) = true) := by decide +kernel
theorem play_size : ∀ k, k < 5 → (numP k).size = 6 := by decide +kernel
theorem play_inj : ∀ j, j < 5 → ∀ k, k < 5 → numP j = numP k → j = k := by decide +kernel
theorem play_usr : ∀ u, u < 3 → usrP u ≠ { data := #[] } := by decide +kernel
def rk : Nat → Nat
  | 0 => 1
  | 1 => 2
  | 2 => 3
  | 3 => 4
  | _ => 0
theorem play_rank : ∀ j, j < 5 → ∀ k, k < 5 → lessA (mS, numP j) (mS, numP k) = true → rk j < rk k := by decide +kernel
theorem rk_lt : ∀ k, k < 5 → rk k < 5 := by decide
theorem rise_len : ∀ (l : List Nat) (a n : Nat), (∀ x ∈ l, a ≤ x ∧ x < n) → l.Pairwise (· < ·) → l.length ≤ n - a
  | [], _, _, _, _ => Nat.zero_le _
  | x :: l, a, n, h, hp => by
    obtain ⟨h1, h2⟩ := List.pairwise_cons.1 hp
    have hx := h x (.head _)
    have := rise_len l (x + 1) n (fun y hy => ⟨h1 y hy, (h y (.tail _ hy)).2⟩) h2
    rw [List.length_cons]
    omega
/-- What the list says, and what the play says. -/
def InvP (ys : List BondX) (ws : List ByteArray) : Prop := rightB ys = true ∧ ws.length = 5 ∧ (∀ b ∈ ys, ∃ k, k < 5 ∧ b.1 = (mS, numP k)) ∧ ∀ k, k < 5 → (ws[k]?.getD { data := #[] } = { data := #[] } ∧ ∀ b ∈ ys, b.1 ≠ (mS, numP k)) ∨ (ws[k]?.getD { data := #[] } ≠ { data := #[] } ∧ ∃ b ∈ ys, b.1 = (mS, numP k) ∧ b.2.1 = ws[k]?.getD { data := #[] })
theorem inv_nil : InvP [] (List.replicate 5 { data := #[] }) := ⟨rfl, rfl, (fun b hb => by cases hb), fun k hk => .inl ⟨by rw [List.getElem?_replicate, if_pos hk]; rfl, fun b hb => by cases hb⟩⟩
theorem inv_small {ys : List BondX} {ws : List ByteArray} (h : InvP ys ws) : smallB ys := fun b hb => by
  obtain ⟨k, hk, e⟩ := h.2.2.1 b hb
  rw [e]
  show (numP k).size ≤ _
  rw [play_size k hk]
  decide
theorem inv_len {ys : List BondX} {ws : List ByteArray} (h : InvP ys ws) : ys.length ≤ 5 := by
  obtain ⟨hr, _, ha, _⟩ := h
  have hp := ((rightB_iff ys).1 hr).2.2
  obtain ⟨f, hf⟩ : ∃ f : BondX → Nat, ∀ b ∈ ys, f b < 5 ∧ b.1 = (mS, numP (f b)) := by
    refine ⟨fun b => @dite _ (b ∈ ys) (Classical.propDecidable _) (fun hb => (ha b hb).choose) (fun _ => 0), fun b hb => ?_⟩
    simp only [dif_pos hb]
    exact (ha b hb).choose_spec
  have h2 : (ys.map fun b => rk (f b)).Pairwise (· < ·) := by
    rw [List.pairwise_map]
    refine List.Pairwise.imp_of_mem ?_ hp
    intro a b hA hB hlt
    have h3 : lessA (a.1.1, a.1.2) (b.1.1, b.1.2) = true := hlt
    rw [(hf a hA).2, (hf b hB).2] at h3
    exact play_rank _ (hf a hA).1 _ (hf b hB).1 h3
  have := rise_len _ 0 5 (fun x hx => by
    obtain ⟨b, hb, rfl⟩ := List.mem_map.1 hx
    exact ⟨Nat.zero_le _, rk_lt _ (hf b hb).1⟩) h2
  simpa using this
abbrev playB (k u : Nat) (i : Int) : BondX := ((mS, numP k), usrP u, i)
theorem play_ok {k u : Nat} {i : Int} (hk : k < 5) (hu : u < 3) (h0 : 0 ≤ i) (h1 : i ≤ 200) : goodB (playB k u i) = true := by
  unfold goodB
  rw [show rightA (playB k u i).1.1 (playB k u i).1.2 = true from play_good.1 k hk, show userB (playB k u i).2.1 = true from play_good.2 u hu]
  simp
  omega
theorem inv_bind {ys : List BondX} {ws : List ByteArray} {k u : Nat} {i : Int} (h : InvP ys ws) (hk : k < 5) (hu : u < 3) (h0 : 0 ≤ i) (h1 : i ≤ 200) : bindE ys (playB k u i) = 0 ∧ InvP (bindB ys (playB k u i)) (ws.set k (usrP u)) := by
  have hl := inv_len h
  obtain ⟨hr, hw, ha, hv⟩ := h
  have he : bindE ys (playB k u i) = 0 := by
    unfold bindE
    rw [if_pos ⟨hr, play_ok hk hu h0 h1⟩]
    split
    · rfl
    · rw [if_neg (by omega)]
  have hm := bind_mem he
  refine ⟨he, bind_right he, by rw [List.length_set]; exact hw, fun b hb => ?_, fun j hj => ?_⟩
  · rcases (hm b).1 hb with rfl | ⟨h, _⟩
    · exact ⟨k, hk, rfl⟩
    · exact ha b h
  · rw [List.getElem?_set]
    by_cases hjk : k = j
    · subst hjk
      rw [if_pos rfl, if_pos (by omega)]
      exact .inr ⟨play_usr u hu, _, (hm _).2 (.inl rfl), rfl, rfl⟩
    · rw [if_neg hjk]
      have hne : ((mS, numP j) : ByteArray × ByteArray) ≠ (mS, numP k) := fun e => hjk (play_inj j hj k hk (congrArg Prod.snd e)).symm
      rcases hv j hj with ⟨h1, h2⟩ | ⟨h1, b, hb, e1, e2⟩
      · refine .inl ⟨h1, fun b hb => ?_⟩
        rcases (hm b).1 hb with rfl | ⟨h, _⟩
        · exact fun e => hne e.symm
        · exact h2 b h
      · exact .inr ⟨h1, b, (hm b).2 (.inr ⟨hb, by rw [e1]; exact hne⟩), e1, e2⟩
theorem inv_free {ys : List BondX} {ws : List ByteArray} {k u : Nat} {i : Int} (h : InvP ys ws) (hk : k < 5) :
    (ws[k]?.getD { data := #[] } = { data := #[] } ∧ unbE ys (playB k u i) = 7 ∧ InvP (unbB ys (playB k u i)) ws) ∨ (ws[k]?.getD { data := #[] } ≠ { data := #[] } ∧ ws[k]?.getD { data := #[] } = usrP u ∧ unbE ys (playB k u i) = 0 ∧ InvP (unbB ys (playB k u i)) (ws.set k { data := #[] })) ∨ (ws[k]?.getD { data := #[] } ≠ { data := #[] } ∧ ws[k]?.getD { data := #[] } ≠ usrP u ∧ unbE ys (playB k u i) = 14 ∧ InvP (unbB ys (playB k u i)) ws) := by
  have h' := h
  obtain ⟨hr, hw, ha, hv⟩ := h
  have same : unbE ys (playB k u i) ≠ 0 → InvP (unbB ys (playB k u i)) ws := fun hn => by unfold unbB; rw [if_neg hn]; exact h'
  rcases hv k hk with ⟨h1, h2⟩ | ⟨h1, b, hb, e1, e2⟩
  · have he := unbE_none (b := playB k u i) hr h2
    exact .inl ⟨h1, he, same (by rw [he]; decide)⟩
  · have he := unbE_some (b := playB k u i) hr hb e1
    by_cases hq : ws[k]?.getD { data := #[] } = usrP u
    · have he0 : unbE ys (playB k u i) = 0 := by rw [he, if_pos (by rw [e2]; exact hq)]
      have hm := unb_mem he0
      refine .inr (.inl ⟨h1, hq, he0, unb_right hr, by rw [List.length_set]; exact hw, fun c hc => ha c ((hm c).1 hc).1, fun j hj => ?_⟩)
      rw [List.getElem?_set]
      by_cases hjk : k = j
      · subst hjk
        rw [if_pos rfl, if_pos (by omega)]
        exact .inl ⟨rfl, fun c hc => ((hm c).1 hc).2⟩
      · rw [if_neg hjk]
        have hne : ((mS, numP j) : ByteArray × ByteArray) ≠ (mS, numP k) := fun e => hjk (play_inj j hj k hk (congrArg Prod.snd e)).symm
        rcases hv j hj with ⟨h1, h2⟩ | ⟨h1, b, hb, e1, e2⟩
        · exact .inl ⟨h1, fun c hc => h2 c ((hm c).1 hc).1⟩
        · exact .inr ⟨h1, b, (hm b).2 ⟨hb, by rw [e1]; exact hne⟩, e1, e2⟩
    · have he14 : unbE ys (playB k u i) = 14 := by rw [he, if_neg (by rw [e2]; exact hq)]
      exact .inr (.inr ⟨h1, hq, he14, same (by rw [he14]; decide)⟩)
theorem inv_find {ys : List BondX} {ws : List ByteArray} {k : Nat} (h : InvP ys ws) (hk : k < 5) : ∃ c : BondX, findB ys mS (numP k) = (c, !decide (ws[k]?.getD { data := #[] } = { data := #[] })) ∧ c.2.1 = ws[k]?.getD { data := #[] } := by
  obtain ⟨hr, hw, ha, hv⟩ := h
  rcases hv k hk with ⟨h1, h2⟩ | ⟨h1, b, hb, e1, e2⟩
  · exact ⟨noB, by rw [find_noB h2, decide_eq_true h1]; rfl, by rw [h1]; rfl⟩
  · refine ⟨b, ?_, e2⟩
    have := find_mem hr hb
    rw [e1] at this
    rw [this, decide_eq_false h1]
    rfl
end Go.Proofs.YthefddclefimoaaDoor
namespace Go.Proofs.YthefddclefimoaaDoor
open Go.RowKit
set_option linter.unusedVariables false
set_option linter.unusedSimpArgs false
section
variable {P : Program} {ops : Array Oper} {o : Oper} {N : Nat} {f : Fl} {w : World}
theorem dx_slTLH {t : TypeId} {x y z : Operand} {s : ByteArray} {K K' : IntKind} {i j : Int} (l h : Nat) (ho : o.op = .slice t x (some y) (some z) none) (ht : P.underlying t = some .string) (hx : ev f x = some (.string s)) (hy : ev f y = some (.int K i)) (hz : ev f z = some (.int K' j)) (hi : i = (l : Int)) (hj : j = (h : Int)) (hl : l ≤ h) (hh : h ≤ s.size) (hw : wantF ops o f = some true := by rfl) : DV P ops o N f w (.string (s.extract l h)) := fun a ha => by
  subst hi hj
  have hx := ha.ev hx
  have hy := ha.ev hy
  have hz := ha.ev hz
  refine Does.pure (wantF_of ha hw) _ ?_ ⟨rfl, rfl⟩
  have h1 : ((h : Int) ≤ (s.size : Int)) := by omega
  have h2 : ((l : Int) ≤ (h : Int)) := by omega
  have h3 : (0 : Int) ≤ (l : Int) := by omega
  have h4 : (0 : Int) ≤ (h : Int) := by omega
  unfold execOp
  simp only [ho, Option.map_none, Option.map_some, hx, hy, hz, Instr.sliceAt, Sem.run_bind, run_underlying ht, Result.andThen_ok, Instr.slice, Instr.sliceBounds, Instr.sliceBound, asIntOf, Sem.run_pure]
  simp [h1, h2, h3, h4, hl, hh]
end
end Go.Proofs.YthefddclefimoaaDoor
namespace Go.Proofs.YthefddclefimoaaDoor
open Go.RowKit
set_option linter.unusedVariables false
set_option linter.unusedSimpArgs false
set_option maxRecDepth 8000

def encO (p : Bool × Int × Int) : List Value := [.bool p.1, .int .u8 p.2.1, .int .u8 p.2.2]
def encW (ws : List ByteArray) : List Value := ws.map Value.string
theorem encW_len (ws : List ByteArray) : (encW ws).length = ws.length := by simp [encW]
theorem cellW {ws : List ByteArray} {k : Nat} (h : k < ws.length) : (encW ws)[k]? = some (.string (ws[k]?.getD { data := #[] })) := by simp [encW, h]
theorem setW {ws : List ByteArray} {k : Nat} {y : ByteArray} (h : k < ws.length) : (encW ws).take k ++ ([.string y] ++ (encW ws).drop (k + 1)) = encW (ws.set k y) := by
  unfold encW
  rw [← List.map_take, ← List.map_drop, List.set_eq_take_append_cons_drop, if_pos h]
  simp
theorem ext_sz (s : ByteArray) (a b : Nat) : (s.extract a b).size ≤ s.size := by rw [ByteArray.size_extract]; omega
theorem add_n5 (k : Nat) : n5.size + (d5.extract k (k + 1)).size ≤ 9223372036854775807 := by
  have := ext_sz d5 k (k + 1)
  have h1 : n5.size = 5 := rfl
  have h2 : d5.size = 5 := rfl
  omega
theorem add_u1 (u : Nat) : ({ data := #[64] } : ByteArray).size + (abc3.extract u (u + 1)).size ≤ 9223372036854775807 := by
  have := ext_sz abc3 u (u + 1)
  have h1 : ({ data := #[64] } : ByteArray).size = 1 := rfl
  have h2 : abc3.size = 3 := rfl
  omega
theorem add_u2 (u : Nat) : (({ data := #[64] } : ByteArray) ++ abc3.extract u (u + 1)).size + ({ data := #[58, 104] } : ByteArray).size ≤ 9223372036854775807 := by
  have := ext_sz abc3 u (u + 1)
  have h1 : ({ data := #[64] } : ByteArray).size = 1 := rfl
  have h2 : abc3.size = 3 := rfl
  have h3 : ({ data := #[58, 104] } : ByteArray).size = 2 := rfl
  rw [ByteArray.size_append]
  omega
structure LsSt where
  i : Nat
  lv : Value
  ys : List BondX
  ws : List ByteArray
set_option maxHeartbeats 1000000 in
theorem bondLast_v (acts : List (Bool × Int × Int)) (av : Value) (w : World) (L : List Nat) (hL : LL L w) (h1 : RdF 3 L w av (acts.map encO)) (hM : MaxL L w)  (hops : ∀ p ∈ acts, 0 ≤ p.2.1 ∧ p.2.1 ≤ 255 ∧ 0 ≤ p.2.2 ∧ p.2.2 ≤ 255) : CV Tryd.prog 5 [av] w fun v W => v = .bool true := by
  refine cv_enter (N := 130) (f := [(0, av)]) Tryd.func5 rfl rfl rfl rfl fun Q hQ hE => ?_
  have hB := Below.refl w.heap.size w
  have h1m : acts.length ≤ maxLen := by have := h1.len; rwa [List.length_map] at this
  unfold maxLen at h1m
  refine WC.seq fun K1 hK1 => ?_
  refine WC.region ?_
  refine WL.val (dx_assign rfl rfl) rfl rfl ?_
  refine WL.nil ?_
  refine hK1 ?_
  refine WC.seq fun K2 hK2 => ?_
  refine WC.seq fun K3 hK3 => ?_
  refine WC.region ?_
  refine WL.get (dx_cv rfl Tryd.func14 rfl rfl rfl (alive18_v w _ hL hM)) rfl rfl ?_
  rintro _ W5 ⟨rfl, b4⟩
  replace h1 := h1.below b4
  replace hM := hM.below b4
  replace hB := below_then hB b4
  replace hL := LL.below hL b4
  refine WL.val (dx_not rfl rfl) rfl rfl ?_
  refine WL.nil ?_
  refine hK3 ?_
  refine WC.condF rfl ?_
  refine WC.skip ?_
  refine hK2 ?_
  refine WC.seq fun K6 hK6 => ?_
  refine WC.seq fun K7 hK7 => ?_
  refine WC.region ?_
  refine WL.val (dx_move rfl rfl) rfl rfl ?_
  refine WL.val (dx_lenX rfl ty_slice_37 rfl h1) rfl rfl ?_
  refine WL.val (dx_gtr rfl rfl rfl) rfl rfl ?_
  refine WL.nil ?_
  refine hK7 ?_
  refine WC.cond rfl (fun c8 => ?_) (fun c8 => ?_)
  ·
    replace c8 := of_decide_eq_true c8
    refine WC.seq fun K9 hK9 => ?_
    refine WC.region ?_
    refine WL.val (dx_assign rfl rfl) rfl rfl ?_
    refine WL.nil ?_
    refine hK9 ?_
    refine WC.ret fun a_ ha_ => ?_
    exact hQ (cv_ret1 rfl (.tmp rfl) rfl hB ha_)
  ·
    replace c8 := of_decide_eq_false c8
    refine WC.skip ?_
    refine hK6 ?_
    refine WC.seq fun K10 hK10 => ?_
    refine WC.region ?_
    refine WL.val (dx_assign rfl rfl) rfl rfl ?_
    refine WL.nil ?_
    refine hK10 ?_
    refine WC.seq fun K11 hK11 => ?_
    refine WC.region ?_
    refine WL.get (dx_alloc rfl ty_zero_39 rfl) rfl rfl ?_
    rintro _ W12 ⟨rfl, k13, b14, z15⟩
    have l16 := hB.size
    replace h1 := h1.more b14 (Nat.le_refl _)
    replace hM := hM.more b14 (Nat.le_refl _)
    replace hB := below_then hB b14
    replace hL := LL.more hL z15
    refine WL.nil ?_
    refine hK11 ?_
    refine WC.seq fun K17 hK17 => ?_
    refine WC.seq fun K18 hK18 => ?_
    have hlv : RdF 4 (W5.heap.size :: L) W12 (.slice none 0 0) (([] : List BondX).map encB) := RdF.nil (by decide)
    refine WC.region ?_
    refine WL.val (dx_assign rfl rfl) rfl rfl ?_
    refine WL.nil ?_
    refine hK18 ?_
    refine WC.block ?_
    refine WC.loop (fun (st : LsSt) => [(0, av), (4, .pointer (some ⟨W5.heap.size, 0, none⟩)), (3, st.lv), (5, .int .i64 (st.i : Int))]) (fun (st : LsSt) W => st.i ≤ acts.length ∧ InvP st.ys st.ws ∧ Below w.heap.size w W ∧ LL (W5.heap.size :: L) W ∧ RdF 3 (W5.heap.size :: L) W av (acts.map encO) ∧ MaxL (W5.heap.size :: L) W ∧ RdF 4 (W5.heap.size :: L) W st.lv (st.ys.map encB) ∧ Blk W W5.heap.size (encW st.ws)) (fun (st : LsSt) => acts.length - st.i) ⟨0, .slice none 0 0, [], List.replicate 5 { data := #[] }⟩ (by repeat first | exact trivial | exact And.intro rfl trivial | refine And.intro rfl ?_ | refine And.intro (congrArg (fun z : Int => some (Value.int .i64 z)) (by omega)) ?_) ⟨Nat.zero_le _, inv_nil, hB, hL, h1, hM, hlv, k13⟩ ?_
    clear h1 hM hlv k13 hB hL
    rintro K19 st W20 ⟨hi, hI, hB, hL, h1, hM, hlv, k13⟩ hK19
    refine WC.seq fun K21 hK21 => ?_
    refine WC.seq fun K22 hK22 => ?_
    refine WC.region ?_
    refine WL.val (dx_move rfl rfl) rfl rfl ?_
    refine WL.val (dx_move rfl rfl) rfl rfl ?_
    refine WL.val (dx_lenX rfl ty_slice_37 rfl h1) rfl rfl ?_
    refine WL.val (dx_lss rfl rfl rfl) rfl rfl ?_
    refine WL.nil ?_
    refine hK22 ?_
    refine WC.cond rfl (fun c23 => ?_) (fun c23 => ?_)
    ·
      replace c23 := of_decide_eq_true c23
      refine WC.skip ?_
      refine hK21 ?_
      refine WC.seq fun K24 hK24 => ?_
      refine WC.block ?_
      refine WC.seq fun K25 hK25 => ?_
      refine WC.region ?_
      refine WL.val (dx_move rfl rfl) rfl rfl ?_
      refine WL.val (dx_move rfl rfl) rfl rfl ?_
      obtain ⟨r26, e27⟩ : ∃ x, acts[st.i]? = some x := ⟨_, List.getElem?_eq_getElem (by omega)⟩
      have Gr26 := hops r26 (List.mem_of_getElem? e27)
      refine WL.get (dx_idxF st.i rfl ty_slice_37 rfl rfl h1 (by omega) (at_mapX e27)) rfl rfl ?_
      rintro u28 _ ⟨rfl, p29⟩
      refine WL.get (dx_fldP 1 rfl ty_fld_41_1_1 rfl p29 (cs' := [.int .u8 r26.2.1]) rfl (Nat.succ_pos _)) rfl rfl ?_
      rintro u30 _ ⟨rfl, p31⟩
      refine WL.val (dx_loadP rfl ty_one_5 rfl p31) rfl rfl ?_
      refine WL.val (dx_conv (r := r26.2.1) rfl Tryd.underlying5 Tryd.underlying3 rfl (wrap64_id (by omega))) rfl rfl ?_
      refine WL.val (dx_rem (r := r26.2.1 % 5) rfl rfl rfl (by omega) (Int.tmod_eq_emod_of_nonneg (by omega))) rfl rfl ?_
      refine WL.val (dx_assign rfl rfl) rfl rfl ?_
      refine WL.nil ?_
      refine hK25 ?_
      refine WC.seq fun K32 hK32 => ?_
      generalize hkq : r26.2.1 % 5 = kq
      obtain ⟨k, rfl⟩ : ∃ k : Nat, kq = (k : Int) := ⟨kq.toNat, by omega⟩
      have hk5 : k < 5 := by omega
      obtain ⟨uu, huq⟩ : ∃ u : Nat, r26.2.2 % 3 = (u : Int) := ⟨(r26.2.2 % 3).toNat, by omega⟩
      have huu3 : uu < 3 := by omega
      refine WC.drawM 27 [(some 34, .is (.int .i64 (k : Int))), (some 35, .is (.int .i64 (k : Int))), (some 36, .is (.int .i64 ((k : Int) + 1))), (some 37, .is (.string (d5.extract k (k + 1)))), (some 38, .is (.string (numP k))), (some 39, .is (.agg #[.string ({ data := #[109, 115, 105, 115, 100, 110] }), .string (numP k)])), (some 40, .is (av)), (some 41, .is (.int .i64 (st.i : Int))), (some 42, .by fun u W => PtR (W5.heap.size :: L) W u (encO r26)), (some 43, .by fun u W => PtR (W5.heap.size :: L) W u [.int .u8 r26.2.2]), (some 44, .is (.int .u8 r26.2.2)), (some 45, .is (.int .i64 r26.2.2)), (some 46, .is (.int .i64 (uu : Int))), (some 47, .is (av)), (some 48, .is (.int .i64 (st.i : Int))), (some 49, .by fun u W => PtR (W5.heap.size :: L) W u (encO r26)), (some 50, .by fun u W => PtR (W5.heap.size :: L) W u [.int .u8 r26.2.2]), (some 51, .is (.int .u8 r26.2.2)), (some 52, .is (.int .i64 r26.2.2)), (some 53, .is (.int .i64 (uu : Int))), (some 54, .is (.int .i64 ((uu : Int) + 1))), (some 55, .is (.string (abc3.extract uu (uu + 1)))), (some 56, .is (.string (({ data := #[64] } : ByteArray) ++ abc3.extract uu (uu + 1)))), (some 57, .is (.string (usrP uu))), (some 58, .is (.int .i64 (st.i : Int))), (some 59, .is (.agg #[.string ({ data := #[109, 115, 105, 115, 100, 110] }), .string (numP k), .string (usrP uu), .int .i64 (st.i : Int)])), (some 7, .by fun u W => NewP W20.heap.size 45 [.string ⟨#[]⟩, .string ⟨#[]⟩, .string ⟨#[]⟩, .int .i64 0] u W)] [[], [], [1], [0, 2], [3], [4], [], [], [6, 7], [8], [9], [10], [11], [], [], [13, 14], [15], [16], [17], [18], [19], [12, 20], [21], [22], [], [5, 23, 24], []] (by kernel_rfl) (by kernel_rfl) (by kernel_rfl) (by kernel_rfl) (by kernel_rfl) (by kernel_rfl) (by kernel_rfl) ⟨fun _ _ _ hb h => h.below hb, fun _ _ _ hb h => h.below hb, fun _ _ _ hb h => h.below hb, fun _ _ _ hb h => h.below hb, fun _ _ _ hb h => h.below hb, trivial⟩ ?_ ?_
      ·
        refine DSteps.cons (fun Wd hd => ?_) ?_
        ·
          exact DV.dr (dx_move rfl rfl) ⟨Below.refl _ _, rfl⟩
        refine DSteps.cons (fun Wd hd => ?_) ?_
        ·
          exact DV.dr (dx_move rfl rfl) ⟨Below.refl _ _, rfl⟩
        refine DSteps.cons (fun Wd hd => ?_) ?_
        ·
          exact DV.dr (dx_add (r := (k : Int) + 1) rfl rfl rfl (wrap64_id (by omega))) ⟨Below.refl _ _, rfl⟩
        refine DSteps.cons (fun Wd hd => ?_) ?_
        ·
          exact DV.dr (dx_slTLH k (k + 1) rfl Tryd.underlying9 rfl rfl rfl rfl (by omega) (by omega) (by show k + 1 ≤ 5; omega)) ⟨Below.refl _ _, rfl⟩
        refine DSteps.cons (fun Wd hd => ?_) ?_
        ·
          exact DV.dr ((show DV _ _ _ _ _ _ (.string (numP k)) from dx_addT rfl rfl rfl (add_n5 k))) ⟨Below.refl _ _, rfl⟩
        refine DSteps.cons (fun Wd hd => ?_) ?_
        ·
          exact DV.dr (dx_build rfl rfl (built_of_O (cs := [.string ({ data := #[109, 115, 105, 115, 100, 110] }), .string (numP k)]) (by kernel_rfl) (oc_cons rfl (oc_cons rfl oc_nil)))) ⟨Below.refl _ _, rfl⟩
        refine DSteps.cons (fun Wd hd => ?_) ?_
        ·
          exact DV.dr (dx_move rfl rfl) ⟨Below.refl _ _, rfl⟩
        refine DSteps.cons (fun Wd hd => ?_) ?_
        ·
          exact DV.dr (dx_move rfl rfl) ⟨Below.refl _ _, rfl⟩
        refine DSteps.cons (fun Wd hd => ?_) ?_
        ·
          have h1 := h1.below hd
          exact (dx_idxF st.i rfl ty_slice_37 rfl rfl h1 (by omega) (at_mapX e27)).mono (fun v W' h => ⟨by rw [← h.1]; exact Below.refl _ _, by rw [← h.1]; exact h.2⟩)
        refine DSteps.cons (fun Wd hd => ?_) ?_
        ·
          intro u11_8 p11_8
          exact (dx_fldP 1 rfl ty_fld_41_2_2 rfl p11_8 (cs' := [.int .u8 r26.2.2]) rfl (Nat.succ_pos _)).mono (fun v W' h => ⟨by rw [← h.1]; exact Below.refl _ _, by rw [← h.1]; exact h.2⟩)
        refine DSteps.cons (fun Wd hd => ?_) ?_
        ·
          intro u11_9 p11_9
          exact DV.dr (dx_loadP rfl ty_one_5 rfl p11_9) ⟨Below.refl _ _, rfl⟩
        refine DSteps.cons (fun Wd hd => ?_) ?_
        ·
          exact DV.dr (dx_conv (r := r26.2.2) rfl Tryd.underlying5 Tryd.underlying3 rfl (wrap64_id (by omega))) ⟨Below.refl _ _, rfl⟩
        refine DSteps.cons (fun Wd hd => ?_) ?_
        ·
          exact DV.dr (dx_rem (r := (uu : Int)) rfl rfl rfl (by omega) ((Int.tmod_eq_emod_of_nonneg (by omega)).trans huq)) ⟨Below.refl _ _, rfl⟩
        refine DSteps.cons (fun Wd hd => ?_) ?_
        ·
          exact DV.dr (dx_move rfl rfl) ⟨Below.refl _ _, rfl⟩
        refine DSteps.cons (fun Wd hd => ?_) ?_
        ·
          exact DV.dr (dx_move rfl rfl) ⟨Below.refl _ _, rfl⟩
        refine DSteps.cons (fun Wd hd => ?_) ?_
        ·
          have h1 := h1.below hd
          exact (dx_idxF st.i rfl ty_slice_37 rfl rfl h1 (by omega) (at_mapX e27)).mono (fun v W' h => ⟨by rw [← h.1]; exact Below.refl _ _, by rw [← h.1]; exact h.2⟩)
        refine DSteps.cons (fun Wd hd => ?_) ?_
        ·
          intro u11_15 p11_15
          exact (dx_fldP 1 rfl ty_fld_41_2_2 rfl p11_15 (cs' := [.int .u8 r26.2.2]) rfl (Nat.succ_pos _)).mono (fun v W' h => ⟨by rw [← h.1]; exact Below.refl _ _, by rw [← h.1]; exact h.2⟩)
        refine DSteps.cons (fun Wd hd => ?_) ?_
        ·
          intro u11_16 p11_16
          exact DV.dr (dx_loadP rfl ty_one_5 rfl p11_16) ⟨Below.refl _ _, rfl⟩
        refine DSteps.cons (fun Wd hd => ?_) ?_
        ·
          exact DV.dr (dx_conv (r := r26.2.2) rfl Tryd.underlying5 Tryd.underlying3 rfl (wrap64_id (by omega))) ⟨Below.refl _ _, rfl⟩
        refine DSteps.cons (fun Wd hd => ?_) ?_
        ·
          exact DV.dr (dx_rem (r := (uu : Int)) rfl rfl rfl (by omega) ((Int.tmod_eq_emod_of_nonneg (by omega)).trans huq)) ⟨Below.refl _ _, rfl⟩
        refine DSteps.cons (fun Wd hd => ?_) ?_
        ·
          exact DV.dr (dx_add (r := (uu : Int) + 1) rfl rfl rfl (wrap64_id (by omega))) ⟨Below.refl _ _, rfl⟩
        refine DSteps.cons (fun Wd hd => ?_) ?_
        ·
          exact DV.dr (dx_slTLH uu (uu + 1) rfl Tryd.underlying9 rfl rfl rfl rfl (by omega) (by omega) (by show uu + 1 ≤ 3; omega)) ⟨Below.refl _ _, rfl⟩
        refine DSteps.cons (fun Wd hd => ?_) ?_
        ·
          exact DV.dr (dx_addT rfl rfl rfl (add_u1 uu)) ⟨Below.refl _ _, rfl⟩
        refine DSteps.cons (fun Wd hd => ?_) ?_
        ·
          exact DV.dr ((show DV _ _ _ _ _ _ (.string (usrP uu)) from dx_addT rfl rfl rfl (add_u2 uu))) ⟨Below.refl _ _, rfl⟩
        refine DSteps.cons (fun Wd hd => ?_) ?_
        ·
          exact DV.dr (dx_move rfl rfl) ⟨Below.refl _ _, rfl⟩
        refine DSteps.cons (fun Wd hd => ?_) ?_
        ·
          exact DV.dr (dx_build rfl rfl (bld_bond _ _ _ _)) ⟨Below.refl _ _, rfl⟩
        refine DSteps.cons (fun Wd hd => ?_) ?_
        ·
          exact (dx_allocP rfl ty_zero_45 rfl).mono (fun v W' h => ⟨h.1, h.2 hd⟩)
        exact trivial
      ·
        intro W33 b34
        intro u11_8 p11_8
        intro u11_9 p11_9
        intro u11_15 p11_15
        intro u11_16 p11_16
        rintro _ ⟨B11_26, rfl, q11_26, t11_26⟩
        have k11_26 := t11_26.blk
        have n35 : W5.heap.size ≠ B11_26 := Nat.ne_of_lt (Nat.lt_of_lt_of_le k13.lt q11_26)
        replace h1 := h1.more b34 q11_26
        replace hM := hM.more b34 q11_26
        replace hlv := hlv.more b34 q11_26
        replace k13 := k13.below b34
        have l36 := Nat.le_trans hB.size q11_26
        replace hB := below_then hB b34
        replace hL := LL.below hL b34
        replace hL := LL.cons hL k11_26.lt
        refine WL.do (dx_store (cs' := [.string ({ data := #[109, 115, 105, 115, 100, 110] }), .string (numP k), .string (usrP uu), .int .i64 (st.i : Int)]) (vs := [.string ({ data := #[109, 115, 105, 115, 100, 110] }), .string (numP k), .string (usrP uu), .int .i64 (st.i : Int)]) rfl ty_size_45_4 rfl rfl rfl (oc_cons rfl (oc_cons rfl (oc_cons rfl (oc_cons rfl oc_nil)))) k11_26 rfl (Nat.le_of_ble_eq_true rfl) rfl) rfl ?_
        rintro _ W37 ⟨k39, o38⟩
        replace k13 := k13.other o38 n35
        clear k11_26
        replace h1 := h1.only o38 (.head _)
        replace hM := hM.only o38 (.head _)
        replace hlv := hlv.only o38 (.head _)
        replace hB := o38.below hB l36
        replace hL := LL.only hL o38
        refine WL.nil ?_
        refine hK32 ?_
        refine WC.seq fun K40 hK40 => ?_
        refine WC.seq fun K41 hK41 => ?_
        refine WC.region ?_
        refine WL.val (dx_move rfl rfl) rfl rfl ?_
        refine WL.val (dx_move rfl rfl) rfl rfl ?_
        refine WL.get (dx_idxF st.i rfl ty_slice_37 rfl rfl h1 (by omega) (at_mapX e27)) rfl rfl ?_
        rintro u42 _ ⟨rfl, p43⟩
        refine WL.get (dx_fldP 1 rfl ty_fld_41_0_0 rfl p43 (cs' := [.bool r26.1]) rfl (Nat.succ_pos _)) rfl rfl ?_
        rintro u44 _ ⟨rfl, p45⟩
        refine WL.val (dx_loadP rfl ty_one_4 rfl p45) rfl rfl ?_
        refine WL.nil ?_
        refine hK41 ?_
        refine WC.cond rfl (fun c46 => ?_) (fun c46 => ?_)
        ·
          refine WC.seq fun K47 hK47 => ?_
          rcases inv_free (u := uu) (i := (st.i : Int)) hI hk5 with ⟨hf1, hf2, hf3⟩ | ⟨hf1, hf2, hf3, hf4⟩ | ⟨hf1, hf2, hf3, hf4⟩
          ·
            refine WC.region ?_
            refine WL.val (dx_move rfl rfl) rfl rfl ?_
            refine WL.val (dx_loadN rfl ty_agg_45_4 rfl k39.range rfl) rfl rfl ?_
            refine WL.get (dx_cv rfl Tryd.func15 rfl rfl rfl ((show CV _ _ [_, _] _ (fun v W => ∃ s2, v = .tuple #[s2, .int .i64 7] ∧ RdF 4 (B11_26 :: W5.heap.size :: L) W s2 ((unbB st.ys (playB k uu (st.i : Int))).map encB)) from by have := unbind_v st.ys (playB k uu (st.i : Int)) _ W37 (B11_26 :: W5.heap.size :: L) hL hlv hM (inv_small hI); rw [hf2] at this; exact this))) rfl rfl ?_
            rintro _ W51 ⟨⟨u48, rfl, j49⟩, b50⟩
            replace h1 := h1.below b50
            replace hM := hM.below b50
            replace hlv := hlv.below b50
            replace k13 := k13.below b50
            replace k39 := k39.below b50
            replace hB := below_then hB b50
            replace hL := LL.below hL b50
            refine WL.val (dx_move rfl rfl) rfl rfl ?_
            refine WL.val (dx_extract rfl rfl rfl) rfl rfl ?_
            refine WL.val (dx_extract rfl rfl rfl) rfl rfl ?_
            refine WL.val (dx_assign rfl rfl) rfl rfl ?_
            refine WL.val (dx_assign rfl rfl) rfl rfl ?_
            refine WL.nil ?_
            refine hK47 ?_
            refine WC.seq fun K52 hK52 => ?_
            refine WC.region ?_
            refine WL.val (dx_assign rfl rfl) rfl rfl ?_
            refine WL.nil ?_
            refine hK52 ?_
            refine WC.seq fun K53 hK53 => ?_
            refine WC.seq fun K54 hK54 => ?_
            refine WC.region ?_
            refine WL.val (dx_move rfl rfl) rfl rfl ?_
            refine WL.val (dx_idxA (o1 := k) rfl Tryd.underlying39 ty_size_9_1 rfl rfl (by omega) (by simp)) rfl rfl ?_
            refine WL.val (dx_load rfl ty_one_9 rfl (k13.cell (k := k) (cellW (by rw [hI.2.1]; omega)))) rfl rfl ?_
            refine WL.nil ?_
            refine hK54 ?_
            refine WC.block ?_
            refine WC.seq fun K55 hK55 => ?_
            refine WC.region ?_
            refine WL.val (dx_eqlT rfl rfl rfl) rfl rfl ?_
            refine WL.val (dx_assign rfl rfl) rfl rfl ?_
            refine WL.nil ?_
            refine hK55 ?_
            refine WC.cond rfl (fun c56 => ?_) (fun c56 => ?_)
            ·
              replace c56 := of_decide_eq_true c56
              refine WC.region ?_
              refine WL.val (dx_assign rfl rfl) rfl rfl ?_
              refine WL.nil ?_
              refine hK53 ?_
              refine WC.seq fun K57 hK57 => ?_
              refine WC.seq fun K58 hK58 => ?_
              refine WC.region ?_
              refine WL.val (dx_move rfl rfl) rfl rfl ?_
              refine WL.val (dx_move rfl rfl) rfl rfl ?_
              refine WL.val (dx_neq rfl rfl rfl) rfl rfl ?_
              refine WL.nil ?_
              refine hK58 ?_
              refine WC.condF rfl ?_
              refine WC.skip ?_
              refine hK57 ?_
              refine WC.region ?_
              refine WL.val (dx_move rfl rfl) rfl rfl ?_
              refine WL.val (dx_assign rfl rfl) rfl rfl ?_
              refine WL.nil ?_
              refine hK40 ?_
              refine WC.seq fun K59 hK59 => ?_
              refine WC.region ?_
              refine WL.val (dx_assign rfl rfl) rfl rfl ?_
              refine WL.nil ?_
              refine hK59 ?_
              refine WC.block ?_
              refine WC.loop (fun (j : Nat) => [(0, av), (3, u48), (4, .pointer (some ⟨W5.heap.size, 0, none⟩)), (5, .int .i64 (st.i : Int)), (13, .int .i64 (j : Int))]) (fun (j : Nat) W => j ≤ 5 ∧ Below w.heap.size w W ∧ LL (B11_26 :: W5.heap.size :: L) W ∧ RdF 3 (B11_26 :: W5.heap.size :: L) W av (acts.map encO) ∧ MaxL (B11_26 :: W5.heap.size :: L) W ∧ RdF 4 (B11_26 :: W5.heap.size :: L) W st.lv (st.ys.map encB) ∧ RdF 4 (B11_26 :: W5.heap.size :: L) W u48 ((unbB st.ys (playB k uu (st.i : Int))).map encB) ∧ Blk W W5.heap.size (encW st.ws) ∧ Blk W B11_26 [.string ({ data := #[109, 115, 105, 115, 100, 110] }), .string (numP k), .string (usrP uu), .int .i64 (st.i : Int)]) (fun (j : Nat) => 5 - j) 0 (by repeat first | exact trivial | exact And.intro rfl trivial | refine And.intro rfl ?_ | refine And.intro (congrArg (fun z : Int => some (Value.int .i64 z)) (by omega)) ?_) ⟨Nat.zero_le _, hB, hL, h1, hM, hlv, j49, k13, k39⟩ ?_
              clear h1 hM hlv j49 k13 k39 hB hL
              rintro K60 j W61 ⟨hj, hB, hL, h1, hM, hlv, j49, k13, k39⟩ hK60
              refine WC.seq fun K62 hK62 => ?_
              refine WC.seq fun K63 hK63 => ?_
              refine WC.region ?_
              refine WL.val (dx_move rfl rfl) rfl rfl ?_
              refine WL.val (dx_lss rfl rfl rfl) rfl rfl ?_
              refine WL.nil ?_
              refine hK63 ?_
              refine WC.cond rfl (fun c64 => ?_) (fun c64 => ?_)
              ·
                replace c64 := of_decide_eq_true c64
                refine WC.skip ?_
                refine hK62 ?_
                refine WC.seq fun K65 hK65 => ?_
                refine WC.block ?_
                refine WC.seq fun K66 hK66 => ?_
                refine WC.region ?_
                refine WL.val (dx_move rfl rfl) rfl rfl ?_
                refine WL.val (dx_move rfl rfl) rfl rfl ?_
                refine WL.val (dx_move rfl rfl) rfl rfl ?_
                refine WL.val (dx_add (r := (j : Int) + 1) rfl rfl rfl (wrap64_id (by omega))) rfl rfl ?_
                refine WL.val (dx_slTLH j (j + 1) rfl Tryd.underlying9 rfl rfl rfl rfl (by omega) (by omega) (by show j + 1 ≤ 5; omega)) rfl rfl ?_
                refine WL.val ((show DV _ _ _ _ _ _ (.string (numP j)) from dx_addT rfl rfl rfl (add_n5 j))) rfl rfl ?_
                refine WL.val (dx_build rfl rfl (built_of_O (cs := [.string ({ data := #[109, 115, 105, 115, 100, 110] }), .string (numP j)]) (by kernel_rfl) (oc_cons rfl (oc_cons rfl oc_nil)))) rfl rfl ?_
                obtain ⟨c67, e68, e69⟩ := inv_find (k := j) hf3 (by omega)
                refine WL.get (dx_cv rfl Tryd.func17 rfl rfl rfl ((show CV _ _ [_, _] _ (fun v W => v = .tuple #[.agg #[.string c67.1.1, .string c67.1.2, .string (st.ws[j]?.getD { data := #[] }), .int .i64 c67.2.2], .bool (!decide ((st.ws[j]?.getD { data := #[] }) = { data := #[] }))]) from by have := find_v (unbB st.ys (playB k uu (st.i : Int))) mS (numP j) _ W61 (B11_26 :: W5.heap.size :: L) hL j49 hM (inv_small hf3); rw [e68] at this; rw [← e69] at this ⊢; exact this))) rfl rfl ?_
                rintro _ W71 ⟨rfl, b70⟩
                replace h1 := h1.below b70
                replace hM := hM.below b70
                replace hlv := hlv.below b70
                replace j49 := j49.below b70
                replace k13 := k13.below b70
                replace k39 := k39.below b70
                replace hB := below_then hB b70
                replace hL := LL.below hL b70
                refine WL.val (dx_move rfl rfl) rfl rfl ?_
                refine WL.val (dx_extract rfl rfl rfl) rfl rfl ?_
                refine WL.val (dx_extract rfl rfl rfl) rfl rfl ?_
                refine WL.get (dx_alloc rfl ty_zero_45 rfl) rfl rfl ?_
                rintro _ W72 ⟨rfl, k73, b74, z75⟩
                have n76 : W5.heap.size ≠ W71.heap.size := Nat.ne_of_lt k13.lt
                have n77 : B11_26 ≠ W71.heap.size := Nat.ne_of_lt k39.lt
                have l78 := hB.size
                replace h1 := h1.more b74 (Nat.le_refl _)
                replace hM := hM.more b74 (Nat.le_refl _)
                replace hlv := hlv.more b74 (Nat.le_refl _)
                replace j49 := j49.more b74 (Nat.le_refl _)
                replace k13 := k13.below b74
                replace k39 := k39.below b74
                replace hB := below_then hB b74
                replace hL := LL.more hL z75
                refine WL.do (dx_store (cs' := [.string c67.1.1, .string c67.1.2, .string (st.ws[j]?.getD { data := #[] }), .int .i64 c67.2.2]) (vs := [.string c67.1.1, .string c67.1.2, .string (st.ws[j]?.getD { data := #[] }), .int .i64 c67.2.2]) rfl ty_size_45_4 rfl rfl rfl (oc_cons rfl (oc_cons rfl (oc_cons rfl (oc_cons rfl oc_nil)))) k73 rfl (Nat.le_of_ble_eq_true rfl) rfl) rfl ?_
                rintro _ W79 ⟨k81, o80⟩
                replace k13 := k13.other o80 n76
                replace k39 := k39.other o80 n77
                clear k73
                replace h1 := h1.only o80 (.head _)
                replace hM := hM.only o80 (.head _)
                replace hlv := hlv.only o80 (.head _)
                replace j49 := j49.only o80 (.head _)
                replace hB := o80.below hB l78
                replace hL := LL.only hL o80
                refine WL.val (dx_assign rfl rfl) rfl rfl ?_
                refine WL.nil ?_
                refine hK66 ?_
                refine WC.seq fun K82 hK82 => ?_
                refine WC.drawM 14 [(some 114, .is (.bool (!(decide ((st.ws[j]?.getD { data := #[] }) = { data := #[] }))))), (some 115, .is (.int .i64 (j : Int))), (some 116, .is (.pointer (some ⟨W5.heap.size, j, none⟩))), (some 117, .is (.string (st.ws[j]?.getD { data := #[] }))), (some 118, .is (.bool (!(decide ((st.ws[j]?.getD { data := #[] }) = { data := #[] }))))), (some 119, .is (.bool false)), (some 120, .is (.bool false)), (some 121, .is (.pointer (some ⟨W71.heap.size, 2, none⟩))), (some 122, .is (.string (st.ws[j]?.getD { data := #[] }))), (some 123, .is (.int .i64 (j : Int))), (some 124, .is (.pointer (some ⟨W5.heap.size, j, none⟩))), (some 125, .is (.string (st.ws[j]?.getD { data := #[] }))), (some 126, .is (.bool false)), (some 127, .is (.bool false))] [[], [], [1], [2], [3], [0, 4], [5], [6], [7, 6], [6], [9, 6], [10, 6], [8, 11, 6], [6, 12]] (by kernel_rfl) (by kernel_rfl) (by kernel_rfl) (by kernel_rfl) (by kernel_rfl) (by kernel_rfl) (by kernel_rfl) (by exact trivial) ?_ ?_
                ·
                  refine DSteps.cons (fun Wd hd => ?_) ?_
                  ·
                    exact DV.dr (dx_move rfl rfl) ⟨Below.refl _ _, rfl⟩
                  refine DSteps.cons (fun Wd hd => ?_) ?_
                  ·
                    exact DV.dr (dx_move rfl rfl) ⟨Below.refl _ _, rfl⟩
                  refine DSteps.cons (fun Wd hd => ?_) ?_
                  ·
                    exact DV.dr (dx_idxA (o1 := j) rfl Tryd.underlying39 ty_size_9_1 rfl rfl (by omega) (by simp)) ⟨Below.refl _ _, rfl⟩
                  refine DSteps.cons (fun Wd hd => ?_) ?_
                  ·
                    have k13 := k13.below hd
                    exact DV.dr (dx_load rfl ty_one_9 rfl (k13.cell (k := j) (cellW (by rw [hf3.2.1]; omega)))) ⟨Below.refl _ _, rfl⟩
                  refine DSteps.cons (fun Wd hd => ?_) ?_
                  ·
                    exact DV.dr (dx_neqT rfl rfl rfl) ⟨Below.refl _ _, rfl⟩
                  refine DSteps.cons (fun Wd hd => ?_) ?_
                  ·
                    exact DV.dr (dv_F (dx_neqB rfl Tryd.underlying4 rfl rfl) rfl) ⟨Below.refl _ _, rfl⟩
                  refine DSteps.cons (fun Wd hd => ?_) ?_
                  ·
                    exact DV.dr (dx_move rfl rfl) ⟨Below.refl _ _, rfl⟩
                  refine DSteps.cons (fun Wd hd => ?_) ?_
                  ·
                    exact DV.dr (dx_fld (o1 := 2) rfl ty_fld_45_1_2 rfl rfl) ⟨Below.refl _ _, rfl⟩
                  refine DSteps.cons (fun Wd hd => ?_) ?_
                  ·
                    have k81 := k81.below hd
                    exact DV.dr (dx_load rfl ty_one_9 rfl (k81.cell (k := 2) rfl)) ⟨Below.refl _ _, rfl⟩
                  refine DSteps.cons (fun Wd hd => ?_) ?_
                  ·
                    exact DV.dr (dx_move rfl rfl) ⟨Below.refl _ _, rfl⟩
                  refine DSteps.cons (fun Wd hd => ?_) ?_
                  ·
                    exact DV.dr (dx_idxA (o1 := j) rfl Tryd.underlying39 ty_size_9_1 rfl rfl (by omega) (by simp)) ⟨Below.refl _ _, rfl⟩
                  refine DSteps.cons (fun Wd hd => ?_) ?_
                  ·
                    have k13 := k13.below hd
                    exact DV.dr (dx_load rfl ty_one_9 rfl (k13.cell (k := j) (cellW (by rw [hf3.2.1]; omega)))) ⟨Below.refl _ _, rfl⟩
                  refine DSteps.cons (fun Wd hd => ?_) ?_
                  ·
                    exact DV.dr (dv_F (dx_neqT rfl rfl rfl) rfl) ⟨Below.refl _ _, rfl⟩
                  refine DSteps.cons (fun Wd hd => ?_) ?_
                  ·
                    exact DV.dr (dx_pick rfl rfl rfl) ⟨Below.refl _ _, rfl⟩
                  exact trivial
                ·
                  intro W83 b84
                  replace h1 := h1.below b84
                  replace hM := hM.below b84
                  replace hlv := hlv.below b84
                  replace j49 := j49.below b84
                  replace k13 := k13.below b84
                  replace k39 := k39.below b84
                  replace k81 := k81.below b84
                  replace hB := below_then hB b84
                  replace hL := LL.below hL b84
                  refine WL.nil ?_
                  refine hK82 ?_
                  refine WC.condF rfl ?_
                  refine WC.skip ?_
                  refine hK65 ?_
                  refine WC.region ?_
                  refine WL.val (dx_move rfl rfl) rfl rfl ?_
                  refine WL.val (dx_add (r := (j : Int) + 1) rfl rfl rfl (wrap64_id (by omega))) rfl rfl ?_
                  refine WL.val (dx_assign rfl rfl) rfl rfl ?_
                  refine WL.nil ?_
                  replace hL := hL.less (fun x hx => (.tail _ hx))
                  replace h1 := h1.less (fun x hx => (.tail _ hx))
                  replace hM := hM.less (fun x hx => (.tail _ hx))
                  replace hlv := hlv.less (fun x hx => (.tail _ hx))
                  replace j49 := j49.less (fun x hx => (.tail _ hx))
                  exact hK60 (j + 1) ⟨(by omega), hB, hL, h1, hM, hlv, j49, k13, k39⟩ (by omega) (by repeat first | exact trivial | exact And.intro rfl trivial | refine And.intro rfl ?_ | refine And.intro (congrArg (fun z : Int => some (Value.int .i64 z)) (by omega)) ?_)
              ·
                replace c64 := of_decide_eq_false c64
                refine WC.exit ?_
                refine hK24 ?_
                refine WC.region ?_
                refine WL.val (dx_move rfl rfl) rfl rfl ?_
                refine WL.val (dx_add (r := (st.i : Int) + 1) rfl rfl rfl (wrap64_id (by omega))) rfl rfl ?_
                refine WL.val (dx_assign rfl rfl) rfl rfl ?_
                refine WL.nil ?_
                replace hL := hL.less (fun x hx => (.tail _ hx))
                replace h1 := h1.less (fun x hx => (.tail _ hx))
                replace hM := hM.less (fun x hx => (.tail _ hx))
                replace j49 := j49.less (fun x hx => (.tail _ hx))
                exact hK19 ⟨st.i + 1, u48, (unbB st.ys (playB k uu (st.i : Int))), st.ws⟩ ⟨(by show st.i + 1 ≤ acts.length; omega), hf3, hB, hL, h1, hM, j49, k13⟩ (by show acts.length - (st.i + 1) < acts.length - st.i; omega) (by repeat first | exact trivial | exact And.intro rfl trivial | refine And.intro rfl ?_ | refine And.intro (congrArg (fun z : Int => some (Value.int .i64 z)) (by omega)) ?_)
            ·
              replace c56 := of_decide_eq_false c56
              exact absurd hf1 c56
          ·
            refine WC.region ?_
            refine WL.val (dx_move rfl rfl) rfl rfl ?_
            refine WL.val (dx_loadN rfl ty_agg_45_4 rfl k39.range rfl) rfl rfl ?_
            refine WL.get (dx_cv rfl Tryd.func15 rfl rfl rfl ((show CV _ _ [_, _] _ (fun v W => ∃ s2, v = .tuple #[s2, .int .i64 0] ∧ RdF 4 (B11_26 :: W5.heap.size :: L) W s2 ((unbB st.ys (playB k uu (st.i : Int))).map encB)) from by have := unbind_v st.ys (playB k uu (st.i : Int)) _ W37 (B11_26 :: W5.heap.size :: L) hL hlv hM (inv_small hI); rw [hf3] at this; exact this))) rfl rfl ?_
            rintro _ W88 ⟨⟨u85, rfl, j86⟩, b87⟩
            replace h1 := h1.below b87
            replace hM := hM.below b87
            replace hlv := hlv.below b87
            replace k13 := k13.below b87
            replace k39 := k39.below b87
            replace hB := below_then hB b87
            replace hL := LL.below hL b87
            refine WL.val (dx_move rfl rfl) rfl rfl ?_
            refine WL.val (dx_extract rfl rfl rfl) rfl rfl ?_
            refine WL.val (dx_extract rfl rfl rfl) rfl rfl ?_
            refine WL.val (dx_assign rfl rfl) rfl rfl ?_
            refine WL.val (dx_assign rfl rfl) rfl rfl ?_
            refine WL.nil ?_
            refine hK47 ?_
            refine WC.seq fun K89 hK89 => ?_
            refine WC.region ?_
            refine WL.val (dx_assign rfl rfl) rfl rfl ?_
            refine WL.nil ?_
            refine hK89 ?_
            refine WC.seq fun K90 hK90 => ?_
            refine WC.seq fun K91 hK91 => ?_
            refine WC.region ?_
            refine WL.val (dx_move rfl rfl) rfl rfl ?_
            refine WL.val (dx_idxA (o1 := k) rfl Tryd.underlying39 ty_size_9_1 rfl rfl (by omega) (by simp)) rfl rfl ?_
            refine WL.val (dx_load rfl ty_one_9 rfl (k13.cell (k := k) (cellW (by rw [hI.2.1]; omega)))) rfl rfl ?_
            refine WL.nil ?_
            refine hK91 ?_
            refine WC.block ?_
            refine WC.seq fun K92 hK92 => ?_
            refine WC.region ?_
            refine WL.val (dx_eqlT rfl rfl rfl) rfl rfl ?_
            refine WL.val (dx_assign rfl rfl) rfl rfl ?_
            refine WL.nil ?_
            refine hK92 ?_
            refine WC.cond rfl (fun c93 => ?_) (fun c93 => ?_)
            ·
              replace c93 := of_decide_eq_true c93
              exact absurd c93 hf1
            ·
              replace c93 := of_decide_eq_false c93
              refine WC.seq fun K94 hK94 => ?_
              refine WC.region ?_
              refine WL.val (dx_fld (o1 := 2) rfl ty_fld_45_1_2 rfl rfl) rfl rfl ?_
              refine WL.val (dx_load rfl ty_one_9 rfl (k39.cell (k := 2) rfl)) rfl rfl ?_
              refine WL.val (dx_eqlT rfl rfl rfl) rfl rfl ?_
              refine WL.val (dx_assign rfl rfl) rfl rfl ?_
              refine WL.nil ?_
              refine hK94 ?_
              refine WC.cond rfl (fun c95 => ?_) (fun c95 => ?_)
              ·
                replace c95 := of_decide_eq_true c95
                refine WC.region ?_
                refine WL.val (dx_move rfl rfl) rfl rfl ?_
                refine WL.val (dx_idxA (o1 := k) rfl Tryd.underlying39 ty_size_9_1 rfl rfl (by omega) (by simp)) rfl rfl ?_
                refine WL.do (dx_store (cs' := encW (st.ws.set k ({ data := #[] }))) (vs := [.string ({ data := #[] })]) rfl ty_size_9_1 rfl rfl rfl (oc_cons rfl oc_nil) k13 rfl (by rw [encW_len, hI.2.1]; omega) (setW (by rw [hI.2.1]; omega))) rfl ?_
                rintro _ W96 ⟨k98, o97⟩
                replace k39 := k39.other o97 n35.symm
                clear k13
                replace h1 := h1.only o97 (.tail _ (.head _))
                replace hM := hM.only o97 (.tail _ (.head _))
                replace hlv := hlv.only o97 (.tail _ (.head _))
                replace j86 := j86.only o97 (.tail _ (.head _))
                replace hB := o97.below hB l16
                replace hL := LL.only hL o97
                refine WL.nil ?_
                refine hK90 ?_
                refine WC.seq fun K99 hK99 => ?_
                refine WC.seq fun K100 hK100 => ?_
                refine WC.region ?_
                refine WL.val (dx_move rfl rfl) rfl rfl ?_
                refine WL.val (dx_move rfl rfl) rfl rfl ?_
                refine WL.val (dx_neq rfl rfl rfl) rfl rfl ?_
                refine WL.nil ?_
                refine hK100 ?_
                refine WC.condF rfl ?_
                refine WC.skip ?_
                refine hK99 ?_
                refine WC.region ?_
                refine WL.val (dx_move rfl rfl) rfl rfl ?_
                refine WL.val (dx_assign rfl rfl) rfl rfl ?_
                refine WL.nil ?_
                refine hK40 ?_
                refine WC.seq fun K101 hK101 => ?_
                refine WC.region ?_
                refine WL.val (dx_assign rfl rfl) rfl rfl ?_
                refine WL.nil ?_
                refine hK101 ?_
                refine WC.block ?_
                refine WC.loop (fun (j : Nat) => [(0, av), (3, u85), (4, .pointer (some ⟨W5.heap.size, 0, none⟩)), (5, .int .i64 (st.i : Int)), (13, .int .i64 (j : Int))]) (fun (j : Nat) W => j ≤ 5 ∧ Below w.heap.size w W ∧ LL (B11_26 :: W5.heap.size :: L) W ∧ RdF 3 (B11_26 :: W5.heap.size :: L) W av (acts.map encO) ∧ MaxL (B11_26 :: W5.heap.size :: L) W ∧ RdF 4 (B11_26 :: W5.heap.size :: L) W st.lv (st.ys.map encB) ∧ RdF 4 (B11_26 :: W5.heap.size :: L) W u85 ((unbB st.ys (playB k uu (st.i : Int))).map encB) ∧ Blk W W5.heap.size (encW (st.ws.set k ({ data := #[] }))) ∧ Blk W B11_26 [.string ({ data := #[109, 115, 105, 115, 100, 110] }), .string (numP k), .string (usrP uu), .int .i64 (st.i : Int)]) (fun (j : Nat) => 5 - j) 0 (by repeat first | exact trivial | exact And.intro rfl trivial | refine And.intro rfl ?_ | refine And.intro (congrArg (fun z : Int => some (Value.int .i64 z)) (by omega)) ?_) ⟨Nat.zero_le _, hB, hL, h1, hM, hlv, j86, k98, k39⟩ ?_
                clear h1 hM hlv j86 k98 k39 hB hL
                rintro K102 j W103 ⟨hj, hB, hL, h1, hM, hlv, j86, k98, k39⟩ hK102
                refine WC.seq fun K104 hK104 => ?_
                refine WC.seq fun K105 hK105 => ?_
                refine WC.region ?_
                refine WL.val (dx_move rfl rfl) rfl rfl ?_
                refine WL.val (dx_lss rfl rfl rfl) rfl rfl ?_
                refine WL.nil ?_
                refine hK105 ?_
                refine WC.cond rfl (fun c106 => ?_) (fun c106 => ?_)
                ·
                  replace c106 := of_decide_eq_true c106
                  refine WC.skip ?_
                  refine hK104 ?_
                  refine WC.seq fun K107 hK107 => ?_
                  refine WC.block ?_
                  refine WC.seq fun K108 hK108 => ?_
                  refine WC.region ?_
                  refine WL.val (dx_move rfl rfl) rfl rfl ?_
                  refine WL.val (dx_move rfl rfl) rfl rfl ?_
                  refine WL.val (dx_move rfl rfl) rfl rfl ?_
                  refine WL.val (dx_add (r := (j : Int) + 1) rfl rfl rfl (wrap64_id (by omega))) rfl rfl ?_
                  refine WL.val (dx_slTLH j (j + 1) rfl Tryd.underlying9 rfl rfl rfl rfl (by omega) (by omega) (by show j + 1 ≤ 5; omega)) rfl rfl ?_
                  refine WL.val ((show DV _ _ _ _ _ _ (.string (numP j)) from dx_addT rfl rfl rfl (add_n5 j))) rfl rfl ?_
                  refine WL.val (dx_build rfl rfl (built_of_O (cs := [.string ({ data := #[109, 115, 105, 115, 100, 110] }), .string (numP j)]) (by kernel_rfl) (oc_cons rfl (oc_cons rfl oc_nil)))) rfl rfl ?_
                  obtain ⟨c109, e110, e111⟩ := inv_find (k := j) hf4 (by omega)
                  refine WL.get (dx_cv rfl Tryd.func17 rfl rfl rfl ((show CV _ _ [_, _] _ (fun v W => v = .tuple #[.agg #[.string c109.1.1, .string c109.1.2, .string ((st.ws.set k ({ data := #[] }))[j]?.getD { data := #[] }), .int .i64 c109.2.2], .bool (!decide (((st.ws.set k ({ data := #[] }))[j]?.getD { data := #[] }) = { data := #[] }))]) from by have := find_v (unbB st.ys (playB k uu (st.i : Int))) mS (numP j) _ W103 (B11_26 :: W5.heap.size :: L) hL j86 hM (inv_small hf4); rw [e110] at this; rw [← e111] at this ⊢; exact this))) rfl rfl ?_
                  rintro _ W113 ⟨rfl, b112⟩
                  replace h1 := h1.below b112
                  replace hM := hM.below b112
                  replace hlv := hlv.below b112
                  replace j86 := j86.below b112
                  replace k98 := k98.below b112
                  replace k39 := k39.below b112
                  replace hB := below_then hB b112
                  replace hL := LL.below hL b112
                  refine WL.val (dx_move rfl rfl) rfl rfl ?_
                  refine WL.val (dx_extract rfl rfl rfl) rfl rfl ?_
                  refine WL.val (dx_extract rfl rfl rfl) rfl rfl ?_
                  refine WL.get (dx_alloc rfl ty_zero_45 rfl) rfl rfl ?_
                  rintro _ W114 ⟨rfl, k115, b116, z117⟩
                  have n118 : W5.heap.size ≠ W113.heap.size := Nat.ne_of_lt k98.lt
                  have n119 : B11_26 ≠ W113.heap.size := Nat.ne_of_lt k39.lt
                  have l120 := hB.size
                  replace h1 := h1.more b116 (Nat.le_refl _)
                  replace hM := hM.more b116 (Nat.le_refl _)
                  replace hlv := hlv.more b116 (Nat.le_refl _)
                  replace j86 := j86.more b116 (Nat.le_refl _)
                  replace k98 := k98.below b116
                  replace k39 := k39.below b116
                  replace hB := below_then hB b116
                  replace hL := LL.more hL z117
                  refine WL.do (dx_store (cs' := [.string c109.1.1, .string c109.1.2, .string ((st.ws.set k ({ data := #[] }))[j]?.getD { data := #[] }), .int .i64 c109.2.2]) (vs := [.string c109.1.1, .string c109.1.2, .string ((st.ws.set k ({ data := #[] }))[j]?.getD { data := #[] }), .int .i64 c109.2.2]) rfl ty_size_45_4 rfl rfl rfl (oc_cons rfl (oc_cons rfl (oc_cons rfl (oc_cons rfl oc_nil)))) k115 rfl (Nat.le_of_ble_eq_true rfl) rfl) rfl ?_
                  rintro _ W121 ⟨k123, o122⟩
                  replace k98 := k98.other o122 n118
                  replace k39 := k39.other o122 n119
                  clear k115
                  replace h1 := h1.only o122 (.head _)
                  replace hM := hM.only o122 (.head _)
                  replace hlv := hlv.only o122 (.head _)
                  replace j86 := j86.only o122 (.head _)
                  replace hB := o122.below hB l120
                  replace hL := LL.only hL o122
                  refine WL.val (dx_assign rfl rfl) rfl rfl ?_
                  refine WL.nil ?_
                  refine hK108 ?_
                  refine WC.seq fun K124 hK124 => ?_
                  refine WC.drawM 14 [(some 114, .is (.bool (!(decide (((st.ws.set k ({ data := #[] }))[j]?.getD { data := #[] }) = { data := #[] }))))), (some 115, .is (.int .i64 (j : Int))), (some 116, .is (.pointer (some ⟨W5.heap.size, j, none⟩))), (some 117, .is (.string ((st.ws.set k ({ data := #[] }))[j]?.getD { data := #[] }))), (some 118, .is (.bool (!(decide (((st.ws.set k ({ data := #[] }))[j]?.getD { data := #[] }) = { data := #[] }))))), (some 119, .is (.bool false)), (some 120, .is (.bool false)), (some 121, .is (.pointer (some ⟨W113.heap.size, 2, none⟩))), (some 122, .is (.string ((st.ws.set k ({ data := #[] }))[j]?.getD { data := #[] }))), (some 123, .is (.int .i64 (j : Int))), (some 124, .is (.pointer (some ⟨W5.heap.size, j, none⟩))), (some 125, .is (.string ((st.ws.set k ({ data := #[] }))[j]?.getD { data := #[] }))), (some 126, .is (.bool false)), (some 127, .is (.bool false))] [[], [], [1], [2], [3], [0, 4], [5], [6], [7, 6], [6], [9, 6], [10, 6], [8, 11, 6], [6, 12]] (by kernel_rfl) (by kernel_rfl) (by kernel_rfl) (by kernel_rfl) (by kernel_rfl) (by kernel_rfl) (by kernel_rfl) (by exact trivial) ?_ ?_
                  ·
                    refine DSteps.cons (fun Wd hd => ?_) ?_
                    ·
                      exact DV.dr (dx_move rfl rfl) ⟨Below.refl _ _, rfl⟩
                    refine DSteps.cons (fun Wd hd => ?_) ?_
                    ·
                      exact DV.dr (dx_move rfl rfl) ⟨Below.refl _ _, rfl⟩
                    refine DSteps.cons (fun Wd hd => ?_) ?_
                    ·
                      exact DV.dr (dx_idxA (o1 := j) rfl Tryd.underlying39 ty_size_9_1 rfl rfl (by omega) (by simp)) ⟨Below.refl _ _, rfl⟩
                    refine DSteps.cons (fun Wd hd => ?_) ?_
                    ·
                      have k98 := k98.below hd
                      exact DV.dr (dx_load rfl ty_one_9 rfl (k98.cell (k := j) (cellW (by rw [hf4.2.1]; omega)))) ⟨Below.refl _ _, rfl⟩
                    refine DSteps.cons (fun Wd hd => ?_) ?_
                    ·
                      exact DV.dr (dx_neqT rfl rfl rfl) ⟨Below.refl _ _, rfl⟩
                    refine DSteps.cons (fun Wd hd => ?_) ?_
                    ·
                      exact DV.dr (dv_F (dx_neqB rfl Tryd.underlying4 rfl rfl) rfl) ⟨Below.refl _ _, rfl⟩
                    refine DSteps.cons (fun Wd hd => ?_) ?_
                    ·
                      exact DV.dr (dx_move rfl rfl) ⟨Below.refl _ _, rfl⟩
                    refine DSteps.cons (fun Wd hd => ?_) ?_
                    ·
                      exact DV.dr (dx_fld (o1 := 2) rfl ty_fld_45_1_2 rfl rfl) ⟨Below.refl _ _, rfl⟩
                    refine DSteps.cons (fun Wd hd => ?_) ?_
                    ·
                      have k123 := k123.below hd
                      exact DV.dr (dx_load rfl ty_one_9 rfl (k123.cell (k := 2) rfl)) ⟨Below.refl _ _, rfl⟩
                    refine DSteps.cons (fun Wd hd => ?_) ?_
                    ·
                      exact DV.dr (dx_move rfl rfl) ⟨Below.refl _ _, rfl⟩
                    refine DSteps.cons (fun Wd hd => ?_) ?_
                    ·
                      exact DV.dr (dx_idxA (o1 := j) rfl Tryd.underlying39 ty_size_9_1 rfl rfl (by omega) (by simp)) ⟨Below.refl _ _, rfl⟩
                    refine DSteps.cons (fun Wd hd => ?_) ?_
                    ·
                      have k98 := k98.below hd
                      exact DV.dr (dx_load rfl ty_one_9 rfl (k98.cell (k := j) (cellW (by rw [hf4.2.1]; omega)))) ⟨Below.refl _ _, rfl⟩
                    refine DSteps.cons (fun Wd hd => ?_) ?_
                    ·
                      exact DV.dr (dv_F (dx_neqT rfl rfl rfl) rfl) ⟨Below.refl _ _, rfl⟩
                    refine DSteps.cons (fun Wd hd => ?_) ?_
                    ·
                      exact DV.dr (dx_pick rfl rfl rfl) ⟨Below.refl _ _, rfl⟩
                    exact trivial
                  ·
                    intro W125 b126
                    replace h1 := h1.below b126
                    replace hM := hM.below b126
                    replace hlv := hlv.below b126
                    replace j86 := j86.below b126
                    replace k98 := k98.below b126
                    replace k39 := k39.below b126
                    replace k123 := k123.below b126
                    replace hB := below_then hB b126
                    replace hL := LL.below hL b126
                    refine WL.nil ?_
                    refine hK124 ?_
                    refine WC.condF rfl ?_
                    refine WC.skip ?_
                    refine hK107 ?_
                    refine WC.region ?_
                    refine WL.val (dx_move rfl rfl) rfl rfl ?_
                    refine WL.val (dx_add (r := (j : Int) + 1) rfl rfl rfl (wrap64_id (by omega))) rfl rfl ?_
                    refine WL.val (dx_assign rfl rfl) rfl rfl ?_
                    refine WL.nil ?_
                    replace hL := hL.less (fun x hx => (.tail _ hx))
                    replace h1 := h1.less (fun x hx => (.tail _ hx))
                    replace hM := hM.less (fun x hx => (.tail _ hx))
                    replace hlv := hlv.less (fun x hx => (.tail _ hx))
                    replace j86 := j86.less (fun x hx => (.tail _ hx))
                    exact hK102 (j + 1) ⟨(by omega), hB, hL, h1, hM, hlv, j86, k98, k39⟩ (by omega) (by repeat first | exact trivial | exact And.intro rfl trivial | refine And.intro rfl ?_ | refine And.intro (congrArg (fun z : Int => some (Value.int .i64 z)) (by omega)) ?_)
                ·
                  replace c106 := of_decide_eq_false c106
                  refine WC.exit ?_
                  refine hK24 ?_
                  refine WC.region ?_
                  refine WL.val (dx_move rfl rfl) rfl rfl ?_
                  refine WL.val (dx_add (r := (st.i : Int) + 1) rfl rfl rfl (wrap64_id (by omega))) rfl rfl ?_
                  refine WL.val (dx_assign rfl rfl) rfl rfl ?_
                  refine WL.nil ?_
                  replace hL := hL.less (fun x hx => (.tail _ hx))
                  replace h1 := h1.less (fun x hx => (.tail _ hx))
                  replace hM := hM.less (fun x hx => (.tail _ hx))
                  replace j86 := j86.less (fun x hx => (.tail _ hx))
                  exact hK19 ⟨st.i + 1, u85, (unbB st.ys (playB k uu (st.i : Int))), (st.ws.set k ({ data := #[] }))⟩ ⟨(by show st.i + 1 ≤ acts.length; omega), hf4, hB, hL, h1, hM, j86, k98⟩ (by show acts.length - (st.i + 1) < acts.length - st.i; omega) (by repeat first | exact trivial | exact And.intro rfl trivial | refine And.intro rfl ?_ | refine And.intro (congrArg (fun z : Int => some (Value.int .i64 z)) (by omega)) ?_)
              ·
                replace c95 := of_decide_eq_false c95
                exact absurd hf2 c95
          ·
            refine WC.region ?_
            refine WL.val (dx_move rfl rfl) rfl rfl ?_
            refine WL.val (dx_loadN rfl ty_agg_45_4 rfl k39.range rfl) rfl rfl ?_
            refine WL.get (dx_cv rfl Tryd.func15 rfl rfl rfl ((show CV _ _ [_, _] _ (fun v W => ∃ s2, v = .tuple #[s2, .int .i64 14] ∧ RdF 4 (B11_26 :: W5.heap.size :: L) W s2 ((unbB st.ys (playB k uu (st.i : Int))).map encB)) from by have := unbind_v st.ys (playB k uu (st.i : Int)) _ W37 (B11_26 :: W5.heap.size :: L) hL hlv hM (inv_small hI); rw [hf3] at this; exact this))) rfl rfl ?_
            rintro _ W130 ⟨⟨u127, rfl, j128⟩, b129⟩
            replace h1 := h1.below b129
            replace hM := hM.below b129
            replace hlv := hlv.below b129
            replace k13 := k13.below b129
            replace k39 := k39.below b129
            replace hB := below_then hB b129
            replace hL := LL.below hL b129
            refine WL.val (dx_move rfl rfl) rfl rfl ?_
            refine WL.val (dx_extract rfl rfl rfl) rfl rfl ?_
            refine WL.val (dx_extract rfl rfl rfl) rfl rfl ?_
            refine WL.val (dx_assign rfl rfl) rfl rfl ?_
            refine WL.val (dx_assign rfl rfl) rfl rfl ?_
            refine WL.nil ?_
            refine hK47 ?_
            refine WC.seq fun K131 hK131 => ?_
            refine WC.region ?_
            refine WL.val (dx_assign rfl rfl) rfl rfl ?_
            refine WL.nil ?_
            refine hK131 ?_
            refine WC.seq fun K132 hK132 => ?_
            refine WC.seq fun K133 hK133 => ?_
            refine WC.region ?_
            refine WL.val (dx_move rfl rfl) rfl rfl ?_
            refine WL.val (dx_idxA (o1 := k) rfl Tryd.underlying39 ty_size_9_1 rfl rfl (by omega) (by simp)) rfl rfl ?_
            refine WL.val (dx_load rfl ty_one_9 rfl (k13.cell (k := k) (cellW (by rw [hI.2.1]; omega)))) rfl rfl ?_
            refine WL.nil ?_
            refine hK133 ?_
            refine WC.block ?_
            refine WC.seq fun K134 hK134 => ?_
            refine WC.region ?_
            refine WL.val (dx_eqlT rfl rfl rfl) rfl rfl ?_
            refine WL.val (dx_assign rfl rfl) rfl rfl ?_
            refine WL.nil ?_
            refine hK134 ?_
            refine WC.cond rfl (fun c135 => ?_) (fun c135 => ?_)
            ·
              replace c135 := of_decide_eq_true c135
              exact absurd c135 hf1
            ·
              replace c135 := of_decide_eq_false c135
              refine WC.seq fun K136 hK136 => ?_
              refine WC.region ?_
              refine WL.val (dx_fld (o1 := 2) rfl ty_fld_45_1_2 rfl rfl) rfl rfl ?_
              refine WL.val (dx_load rfl ty_one_9 rfl (k39.cell (k := 2) rfl)) rfl rfl ?_
              refine WL.val (dx_eqlT rfl rfl rfl) rfl rfl ?_
              refine WL.val (dx_assign rfl rfl) rfl rfl ?_
              refine WL.nil ?_
              refine hK136 ?_
              refine WC.cond rfl (fun c137 => ?_) (fun c137 => ?_)
              ·
                replace c137 := of_decide_eq_true c137
                exact absurd c137 hf2
              ·
                replace c137 := of_decide_eq_false c137
                refine WC.region ?_
                refine WL.val (dx_assign rfl rfl) rfl rfl ?_
                refine WL.nil ?_
                refine hK132 ?_
                refine WC.seq fun K138 hK138 => ?_
                refine WC.seq fun K139 hK139 => ?_
                refine WC.region ?_
                refine WL.val (dx_move rfl rfl) rfl rfl ?_
                refine WL.val (dx_move rfl rfl) rfl rfl ?_
                refine WL.val (dx_neq rfl rfl rfl) rfl rfl ?_
                refine WL.nil ?_
                refine hK139 ?_
                refine WC.condF rfl ?_
                refine WC.skip ?_
                refine hK138 ?_
                refine WC.region ?_
                refine WL.val (dx_move rfl rfl) rfl rfl ?_
                refine WL.val (dx_assign rfl rfl) rfl rfl ?_
                refine WL.nil ?_
                refine hK40 ?_
                refine WC.seq fun K140 hK140 => ?_
                refine WC.region ?_
                refine WL.val (dx_assign rfl rfl) rfl rfl ?_
                refine WL.nil ?_
                refine hK140 ?_
                refine WC.block ?_
                refine WC.loop (fun (j : Nat) => [(0, av), (3, u127), (4, .pointer (some ⟨W5.heap.size, 0, none⟩)), (5, .int .i64 (st.i : Int)), (13, .int .i64 (j : Int))]) (fun (j : Nat) W => j ≤ 5 ∧ Below w.heap.size w W ∧ LL (B11_26 :: W5.heap.size :: L) W ∧ RdF 3 (B11_26 :: W5.heap.size :: L) W av (acts.map encO) ∧ MaxL (B11_26 :: W5.heap.size :: L) W ∧ RdF 4 (B11_26 :: W5.heap.size :: L) W st.lv (st.ys.map encB) ∧ RdF 4 (B11_26 :: W5.heap.size :: L) W u127 ((unbB st.ys (playB k uu (st.i : Int))).map encB) ∧ Blk W W5.heap.size (encW st.ws) ∧ Blk W B11_26 [.string ({ data := #[109, 115, 105, 115, 100, 110] }), .string (numP k), .string (usrP uu), .int .i64 (st.i : Int)]) (fun (j : Nat) => 5 - j) 0 (by repeat first | exact trivial | exact And.intro rfl trivial | refine And.intro rfl ?_ | refine And.intro (congrArg (fun z : Int => some (Value.int .i64 z)) (by omega)) ?_) ⟨Nat.zero_le _, hB, hL, h1, hM, hlv, j128, k13, k39⟩ ?_
                clear h1 hM hlv j128 k13 k39 hB hL
                rintro K141 j W142 ⟨hj, hB, hL, h1, hM, hlv, j128, k13, k39⟩ hK141
                refine WC.seq fun K143 hK143 => ?_
                refine WC.seq fun K144 hK144 => ?_
                refine WC.region ?_
                refine WL.val (dx_move rfl rfl) rfl rfl ?_
                refine WL.val (dx_lss rfl rfl rfl) rfl rfl ?_
                refine WL.nil ?_
                refine hK144 ?_
                refine WC.cond rfl (fun c145 => ?_) (fun c145 => ?_)
                ·
                  replace c145 := of_decide_eq_true c145
                  refine WC.skip ?_
                  refine hK143 ?_
                  refine WC.seq fun K146 hK146 => ?_
                  refine WC.block ?_
                  refine WC.seq fun K147 hK147 => ?_
                  refine WC.region ?_
                  refine WL.val (dx_move rfl rfl) rfl rfl ?_
                  refine WL.val (dx_move rfl rfl) rfl rfl ?_
                  refine WL.val (dx_move rfl rfl) rfl rfl ?_
                  refine WL.val (dx_add (r := (j : Int) + 1) rfl rfl rfl (wrap64_id (by omega))) rfl rfl ?_
                  refine WL.val (dx_slTLH j (j + 1) rfl Tryd.underlying9 rfl rfl rfl rfl (by omega) (by omega) (by show j + 1 ≤ 5; omega)) rfl rfl ?_
                  refine WL.val ((show DV _ _ _ _ _ _ (.string (numP j)) from dx_addT rfl rfl rfl (add_n5 j))) rfl rfl ?_
                  refine WL.val (dx_build rfl rfl (built_of_O (cs := [.string ({ data := #[109, 115, 105, 115, 100, 110] }), .string (numP j)]) (by kernel_rfl) (oc_cons rfl (oc_cons rfl oc_nil)))) rfl rfl ?_
                  obtain ⟨c148, e149, e150⟩ := inv_find (k := j) hf4 (by omega)
                  refine WL.get (dx_cv rfl Tryd.func17 rfl rfl rfl ((show CV _ _ [_, _] _ (fun v W => v = .tuple #[.agg #[.string c148.1.1, .string c148.1.2, .string (st.ws[j]?.getD { data := #[] }), .int .i64 c148.2.2], .bool (!decide ((st.ws[j]?.getD { data := #[] }) = { data := #[] }))]) from by have := find_v (unbB st.ys (playB k uu (st.i : Int))) mS (numP j) _ W142 (B11_26 :: W5.heap.size :: L) hL j128 hM (inv_small hf4); rw [e149] at this; rw [← e150] at this ⊢; exact this))) rfl rfl ?_
                  rintro _ W152 ⟨rfl, b151⟩
                  replace h1 := h1.below b151
                  replace hM := hM.below b151
                  replace hlv := hlv.below b151
                  replace j128 := j128.below b151
                  replace k13 := k13.below b151
                  replace k39 := k39.below b151
                  replace hB := below_then hB b151
                  replace hL := LL.below hL b151
                  refine WL.val (dx_move rfl rfl) rfl rfl ?_
                  refine WL.val (dx_extract rfl rfl rfl) rfl rfl ?_
                  refine WL.val (dx_extract rfl rfl rfl) rfl rfl ?_
                  refine WL.get (dx_alloc rfl ty_zero_45 rfl) rfl rfl ?_
                  rintro _ W153 ⟨rfl, k154, b155, z156⟩
                  have n157 : W5.heap.size ≠ W152.heap.size := Nat.ne_of_lt k13.lt
                  have n158 : B11_26 ≠ W152.heap.size := Nat.ne_of_lt k39.lt
                  have l159 := hB.size
                  replace h1 := h1.more b155 (Nat.le_refl _)
                  replace hM := hM.more b155 (Nat.le_refl _)
                  replace hlv := hlv.more b155 (Nat.le_refl _)
                  replace j128 := j128.more b155 (Nat.le_refl _)
                  replace k13 := k13.below b155
                  replace k39 := k39.below b155
                  replace hB := below_then hB b155
                  replace hL := LL.more hL z156
                  refine WL.do (dx_store (cs' := [.string c148.1.1, .string c148.1.2, .string (st.ws[j]?.getD { data := #[] }), .int .i64 c148.2.2]) (vs := [.string c148.1.1, .string c148.1.2, .string (st.ws[j]?.getD { data := #[] }), .int .i64 c148.2.2]) rfl ty_size_45_4 rfl rfl rfl (oc_cons rfl (oc_cons rfl (oc_cons rfl (oc_cons rfl oc_nil)))) k154 rfl (Nat.le_of_ble_eq_true rfl) rfl) rfl ?_
                  rintro _ W160 ⟨k162, o161⟩
                  replace k13 := k13.other o161 n157
                  replace k39 := k39.other o161 n158
                  clear k154
                  replace h1 := h1.only o161 (.head _)
                  replace hM := hM.only o161 (.head _)
                  replace hlv := hlv.only o161 (.head _)
                  replace j128 := j128.only o161 (.head _)
                  replace hB := o161.below hB l159
                  replace hL := LL.only hL o161
                  refine WL.val (dx_assign rfl rfl) rfl rfl ?_
                  refine WL.nil ?_
                  refine hK147 ?_
                  refine WC.seq fun K163 hK163 => ?_
                  refine WC.drawM 14 [(some 114, .is (.bool (!(decide ((st.ws[j]?.getD { data := #[] }) = { data := #[] }))))), (some 115, .is (.int .i64 (j : Int))), (some 116, .is (.pointer (some ⟨W5.heap.size, j, none⟩))), (some 117, .is (.string (st.ws[j]?.getD { data := #[] }))), (some 118, .is (.bool (!(decide ((st.ws[j]?.getD { data := #[] }) = { data := #[] }))))), (some 119, .is (.bool false)), (some 120, .is (.bool false)), (some 121, .is (.pointer (some ⟨W152.heap.size, 2, none⟩))), (some 122, .is (.string (st.ws[j]?.getD { data := #[] }))), (some 123, .is (.int .i64 (j : Int))), (some 124, .is (.pointer (some ⟨W5.heap.size, j, none⟩))), (some 125, .is (.string (st.ws[j]?.getD { data := #[] }))), (some 126, .is (.bool false)), (some 127, .is (.bool false))] [[], [], [1], [2], [3], [0, 4], [5], [6], [7, 6], [6], [9, 6], [10, 6], [8, 11, 6], [6, 12]] (by kernel_rfl) (by kernel_rfl) (by kernel_rfl) (by kernel_rfl) (by kernel_rfl) (by kernel_rfl) (by kernel_rfl) (by exact trivial) ?_ ?_
                  ·
                    refine DSteps.cons (fun Wd hd => ?_) ?_
                    ·
                      exact DV.dr (dx_move rfl rfl) ⟨Below.refl _ _, rfl⟩
                    refine DSteps.cons (fun Wd hd => ?_) ?_
                    ·
                      exact DV.dr (dx_move rfl rfl) ⟨Below.refl _ _, rfl⟩
                    refine DSteps.cons (fun Wd hd => ?_) ?_
                    ·
                      exact DV.dr (dx_idxA (o1 := j) rfl Tryd.underlying39 ty_size_9_1 rfl rfl (by omega) (by simp)) ⟨Below.refl _ _, rfl⟩
                    refine DSteps.cons (fun Wd hd => ?_) ?_
                    ·
                      have k13 := k13.below hd
                      exact DV.dr (dx_load rfl ty_one_9 rfl (k13.cell (k := j) (cellW (by rw [hf4.2.1]; omega)))) ⟨Below.refl _ _, rfl⟩
                    refine DSteps.cons (fun Wd hd => ?_) ?_
                    ·
                      exact DV.dr (dx_neqT rfl rfl rfl) ⟨Below.refl _ _, rfl⟩
                    refine DSteps.cons (fun Wd hd => ?_) ?_
                    ·
                      exact DV.dr (dv_F (dx_neqB rfl Tryd.underlying4 rfl rfl) rfl) ⟨Below.refl _ _, rfl⟩
                    refine DSteps.cons (fun Wd hd => ?_) ?_
                    ·
                      exact DV.dr (dx_move rfl rfl) ⟨Below.refl _ _, rfl⟩
                    refine DSteps.cons (fun Wd hd => ?_) ?_
                    ·
                      exact DV.dr (dx_fld (o1 := 2) rfl ty_fld_45_1_2 rfl rfl) ⟨Below.refl _ _, rfl⟩
                    refine DSteps.cons (fun Wd hd => ?_) ?_
                    ·
                      have k162 := k162.below hd
                      exact DV.dr (dx_load rfl ty_one_9 rfl (k162.cell (k := 2) rfl)) ⟨Below.refl _ _, rfl⟩
                    refine DSteps.cons (fun Wd hd => ?_) ?_
                    ·
                      exact DV.dr (dx_move rfl rfl) ⟨Below.refl _ _, rfl⟩
                    refine DSteps.cons (fun Wd hd => ?_) ?_
                    ·
                      exact DV.dr (dx_idxA (o1 := j) rfl Tryd.underlying39 ty_size_9_1 rfl rfl (by omega) (by simp)) ⟨Below.refl _ _, rfl⟩
                    refine DSteps.cons (fun Wd hd => ?_) ?_
                    ·
                      have k13 := k13.below hd
                      exact DV.dr (dx_load rfl ty_one_9 rfl (k13.cell (k := j) (cellW (by rw [hf4.2.1]; omega)))) ⟨Below.refl _ _, rfl⟩
                    refine DSteps.cons (fun Wd hd => ?_) ?_
                    ·
                      exact DV.dr (dv_F (dx_neqT rfl rfl rfl) rfl) ⟨Below.refl _ _, rfl⟩
                    refine DSteps.cons (fun Wd hd => ?_) ?_
                    ·
                      exact DV.dr (dx_pick rfl rfl rfl) ⟨Below.refl _ _, rfl⟩
                    exact trivial
                  ·
                    intro W164 b165
                    replace h1 := h1.below b165
                    replace hM := hM.below b165
                    replace hlv := hlv.below b165
                    replace j128 := j128.below b165
                    replace k13 := k13.below b165
                    replace k39 := k39.below b165
                    replace k162 := k162.below b165
                    replace hB := below_then hB b165
                    replace hL := LL.below hL b165
                    refine WL.nil ?_
                    refine hK163 ?_
                    refine WC.condF rfl ?_
                    refine WC.skip ?_
                    refine hK146 ?_
                    refine WC.region ?_
                    refine WL.val (dx_move rfl rfl) rfl rfl ?_
                    refine WL.val (dx_add (r := (j : Int) + 1) rfl rfl rfl (wrap64_id (by omega))) rfl rfl ?_
                    refine WL.val (dx_assign rfl rfl) rfl rfl ?_
                    refine WL.nil ?_
                    replace hL := hL.less (fun x hx => (.tail _ hx))
                    replace h1 := h1.less (fun x hx => (.tail _ hx))
                    replace hM := hM.less (fun x hx => (.tail _ hx))
                    replace hlv := hlv.less (fun x hx => (.tail _ hx))
                    replace j128 := j128.less (fun x hx => (.tail _ hx))
                    exact hK141 (j + 1) ⟨(by omega), hB, hL, h1, hM, hlv, j128, k13, k39⟩ (by omega) (by repeat first | exact trivial | exact And.intro rfl trivial | refine And.intro rfl ?_ | refine And.intro (congrArg (fun z : Int => some (Value.int .i64 z)) (by omega)) ?_)
                ·
                  replace c145 := of_decide_eq_false c145
                  refine WC.exit ?_
                  refine hK24 ?_
                  refine WC.region ?_
                  refine WL.val (dx_move rfl rfl) rfl rfl ?_
                  refine WL.val (dx_add (r := (st.i : Int) + 1) rfl rfl rfl (wrap64_id (by omega))) rfl rfl ?_
                  refine WL.val (dx_assign rfl rfl) rfl rfl ?_
                  refine WL.nil ?_
                  replace hL := hL.less (fun x hx => (.tail _ hx))
                  replace h1 := h1.less (fun x hx => (.tail _ hx))
                  replace hM := hM.less (fun x hx => (.tail _ hx))
                  replace j128 := j128.less (fun x hx => (.tail _ hx))
                  exact hK19 ⟨st.i + 1, u127, (unbB st.ys (playB k uu (st.i : Int))), st.ws⟩ ⟨(by show st.i + 1 ≤ acts.length; omega), hf4, hB, hL, h1, hM, j128, k13⟩ (by show acts.length - (st.i + 1) < acts.length - st.i; omega) (by repeat first | exact trivial | exact And.intro rfl trivial | refine And.intro rfl ?_ | refine And.intro (congrArg (fun z : Int => some (Value.int .i64 z)) (by omega)) ?_)
        ·
          refine WC.seq fun K166 hK166 => ?_
          obtain ⟨hb1, hb2⟩ := inv_bind (u := uu) (i := (st.i : Int)) hI hk5 huu3 (by omega) (by omega)
          refine WC.region ?_
          refine WL.val (dx_move rfl rfl) rfl rfl ?_
          refine WL.val (dx_loadN rfl ty_agg_45_4 rfl k39.range rfl) rfl rfl ?_
          refine WL.get (dx_cv rfl Tryd.func16 rfl rfl rfl ((show CV _ _ [_, _] _ (fun v W => ∃ s2, v = .tuple #[s2, .int .i64 0] ∧ RdF 4 (B11_26 :: W5.heap.size :: L) W s2 ((bindB st.ys (playB k uu (st.i : Int))).map encB)) from by have := bind_v st.ys (playB k uu (st.i : Int)) _ W37 (B11_26 :: W5.heap.size :: L) hL hlv hM (inv_small hI) (by show (numP k).size ≤ _; rw [play_size k hk5]; decide); rw [hb1] at this; exact this))) rfl rfl ?_
          rintro _ W170 ⟨⟨u167, rfl, j168⟩, b169⟩
          replace h1 := h1.below b169
          replace hM := hM.below b169
          replace hlv := hlv.below b169
          replace k13 := k13.below b169
          replace k39 := k39.below b169
          replace hB := below_then hB b169
          replace hL := LL.below hL b169
          refine WL.val (dx_move rfl rfl) rfl rfl ?_
          refine WL.val (dx_extract rfl rfl rfl) rfl rfl ?_
          refine WL.val (dx_extract rfl rfl rfl) rfl rfl ?_
          refine WL.val (dx_assign rfl rfl) rfl rfl ?_
          refine WL.val (dx_assign rfl rfl) rfl rfl ?_
          refine WL.nil ?_
          refine hK166 ?_
          refine WC.seq fun K171 hK171 => ?_
          refine WC.seq fun K172 hK172 => ?_
          refine WC.region ?_
          refine WL.val (dx_move rfl rfl) rfl rfl ?_
          refine WL.val (dx_neq rfl rfl rfl) rfl rfl ?_
          refine WL.nil ?_
          refine hK172 ?_
          refine WC.condF rfl ?_
          refine WC.skip ?_
          refine hK171 ?_
          refine WC.drawM 5 [(some 94, .is (.int .i64 (k : Int))), (some 95, .is (u167)), (some 96, .is (.pointer (some ⟨B11_26, 2, none⟩))), (some 97, .is (.string (usrP uu))), (some 3, .is (u167))] [[], [], [], [2], [1, 1]] (by kernel_rfl) (by kernel_rfl) (by kernel_rfl) (by kernel_rfl) (by kernel_rfl) (by kernel_rfl) (by kernel_rfl) (by exact trivial) ?_ ?_
          ·
            refine DSteps.cons (fun Wd hd => ?_) ?_
            ·
              exact DV.dr (dx_move rfl rfl) ⟨Below.refl _ _, rfl⟩
            refine DSteps.cons (fun Wd hd => ?_) ?_
            ·
              exact DV.dr (dx_move rfl rfl) ⟨Below.refl _ _, rfl⟩
            refine DSteps.cons (fun Wd hd => ?_) ?_
            ·
              exact DV.dr (dx_fld (o1 := 2) rfl ty_fld_45_1_2 rfl rfl) ⟨Below.refl _ _, rfl⟩
            refine DSteps.cons (fun Wd hd => ?_) ?_
            ·
              have k39 := k39.below hd
              exact DV.dr (dx_load rfl ty_one_9 rfl (k39.cell (k := 2) rfl)) ⟨Below.refl _ _, rfl⟩
            refine DSteps.cons (fun Wd hd => ?_) ?_
            ·
              exact DV.dr (dx_assign rfl rfl) ⟨Below.refl _ _, rfl⟩
            exact trivial
          ·
            intro W173 b174
            replace h1 := h1.below b174
            replace hM := hM.below b174
            replace hlv := hlv.below b174
            replace j168 := j168.below b174
            replace k13 := k13.below b174
            replace k39 := k39.below b174
            replace hB := below_then hB b174
            replace hL := LL.below hL b174
            refine WL.val (dx_idxA (o1 := k) rfl Tryd.underlying39 ty_size_9_1 rfl rfl (by omega) (by simp)) rfl rfl ?_
            refine WL.do (dx_store (cs' := encW (st.ws.set k (usrP uu))) (vs := [.string (usrP uu)]) rfl ty_size_9_1 rfl rfl rfl (oc_cons rfl oc_nil) k13 rfl (by rw [encW_len, hI.2.1]; omega) (setW (by rw [hI.2.1]; omega))) rfl ?_
            rintro _ W175 ⟨k177, o176⟩
            replace k39 := k39.other o176 n35.symm
            clear k13
            replace h1 := h1.only o176 (.tail _ (.head _))
            replace hM := hM.only o176 (.tail _ (.head _))
            replace hlv := hlv.only o176 (.tail _ (.head _))
            replace j168 := j168.only o176 (.tail _ (.head _))
            replace hB := o176.below hB l16
            replace hL := LL.only hL o176
            refine WL.nil ?_
            refine hK40 ?_
            refine WC.seq fun K178 hK178 => ?_
            refine WC.region ?_
            refine WL.val (dx_assign rfl rfl) rfl rfl ?_
            refine WL.nil ?_
            refine hK178 ?_
            refine WC.block ?_
            refine WC.loop (fun (j : Nat) => [(0, av), (3, u167), (4, .pointer (some ⟨W5.heap.size, 0, none⟩)), (5, .int .i64 (st.i : Int)), (13, .int .i64 (j : Int))]) (fun (j : Nat) W => j ≤ 5 ∧ Below w.heap.size w W ∧ LL (B11_26 :: W5.heap.size :: L) W ∧ RdF 3 (B11_26 :: W5.heap.size :: L) W av (acts.map encO) ∧ MaxL (B11_26 :: W5.heap.size :: L) W ∧ RdF 4 (B11_26 :: W5.heap.size :: L) W st.lv (st.ys.map encB) ∧ RdF 4 (B11_26 :: W5.heap.size :: L) W u167 ((bindB st.ys (playB k uu (st.i : Int))).map encB) ∧ Blk W W5.heap.size (encW (st.ws.set k (usrP uu))) ∧ Blk W B11_26 [.string ({ data := #[109, 115, 105, 115, 100, 110] }), .string (numP k), .string (usrP uu), .int .i64 (st.i : Int)]) (fun (j : Nat) => 5 - j) 0 (by repeat first | exact trivial | exact And.intro rfl trivial | refine And.intro rfl ?_ | refine And.intro (congrArg (fun z : Int => some (Value.int .i64 z)) (by omega)) ?_) ⟨Nat.zero_le _, hB, hL, h1, hM, hlv, j168, k177, k39⟩ ?_
            clear h1 hM hlv j168 k177 k39 hB hL
            rintro K179 j W180 ⟨hj, hB, hL, h1, hM, hlv, j168, k177, k39⟩ hK179
            refine WC.seq fun K181 hK181 => ?_
            refine WC.seq fun K182 hK182 => ?_
            refine WC.region ?_
            refine WL.val (dx_move rfl rfl) rfl rfl ?_
            refine WL.val (dx_lss rfl rfl rfl) rfl rfl ?_
            refine WL.nil ?_
            refine hK182 ?_
            refine WC.cond rfl (fun c183 => ?_) (fun c183 => ?_)
            ·
              replace c183 := of_decide_eq_true c183
              refine WC.skip ?_
              refine hK181 ?_
              refine WC.seq fun K184 hK184 => ?_
              refine WC.block ?_
              refine WC.seq fun K185 hK185 => ?_
              refine WC.region ?_
              refine WL.val (dx_move rfl rfl) rfl rfl ?_
              refine WL.val (dx_move rfl rfl) rfl rfl ?_
              refine WL.val (dx_move rfl rfl) rfl rfl ?_
              refine WL.val (dx_add (r := (j : Int) + 1) rfl rfl rfl (wrap64_id (by omega))) rfl rfl ?_
              refine WL.val (dx_slTLH j (j + 1) rfl Tryd.underlying9 rfl rfl rfl rfl (by omega) (by omega) (by show j + 1 ≤ 5; omega)) rfl rfl ?_
              refine WL.val ((show DV _ _ _ _ _ _ (.string (numP j)) from dx_addT rfl rfl rfl (add_n5 j))) rfl rfl ?_
              refine WL.val (dx_build rfl rfl (built_of_O (cs := [.string ({ data := #[109, 115, 105, 115, 100, 110] }), .string (numP j)]) (by kernel_rfl) (oc_cons rfl (oc_cons rfl oc_nil)))) rfl rfl ?_
              obtain ⟨c186, e187, e188⟩ := inv_find (k := j) hb2 (by omega)
              refine WL.get (dx_cv rfl Tryd.func17 rfl rfl rfl ((show CV _ _ [_, _] _ (fun v W => v = .tuple #[.agg #[.string c186.1.1, .string c186.1.2, .string ((st.ws.set k (usrP uu))[j]?.getD { data := #[] }), .int .i64 c186.2.2], .bool (!decide (((st.ws.set k (usrP uu))[j]?.getD { data := #[] }) = { data := #[] }))]) from by have := find_v (bindB st.ys (playB k uu (st.i : Int))) mS (numP j) _ W180 (B11_26 :: W5.heap.size :: L) hL j168 hM (inv_small hb2); rw [e187] at this; rw [← e188] at this ⊢; exact this))) rfl rfl ?_
              rintro _ W190 ⟨rfl, b189⟩
              replace h1 := h1.below b189
              replace hM := hM.below b189
              replace hlv := hlv.below b189
              replace j168 := j168.below b189
              replace k177 := k177.below b189
              replace k39 := k39.below b189
              replace hB := below_then hB b189
              replace hL := LL.below hL b189
              refine WL.val (dx_move rfl rfl) rfl rfl ?_
              refine WL.val (dx_extract rfl rfl rfl) rfl rfl ?_
              refine WL.val (dx_extract rfl rfl rfl) rfl rfl ?_
              refine WL.get (dx_alloc rfl ty_zero_45 rfl) rfl rfl ?_
              rintro _ W191 ⟨rfl, k192, b193, z194⟩
              have n195 : W5.heap.size ≠ W190.heap.size := Nat.ne_of_lt k177.lt
              have n196 : B11_26 ≠ W190.heap.size := Nat.ne_of_lt k39.lt
              have l197 := hB.size
              replace h1 := h1.more b193 (Nat.le_refl _)
              replace hM := hM.more b193 (Nat.le_refl _)
              replace hlv := hlv.more b193 (Nat.le_refl _)
              replace j168 := j168.more b193 (Nat.le_refl _)
              replace k177 := k177.below b193
              replace k39 := k39.below b193
              replace hB := below_then hB b193
              replace hL := LL.more hL z194
              refine WL.do (dx_store (cs' := [.string c186.1.1, .string c186.1.2, .string ((st.ws.set k (usrP uu))[j]?.getD { data := #[] }), .int .i64 c186.2.2]) (vs := [.string c186.1.1, .string c186.1.2, .string ((st.ws.set k (usrP uu))[j]?.getD { data := #[] }), .int .i64 c186.2.2]) rfl ty_size_45_4 rfl rfl rfl (oc_cons rfl (oc_cons rfl (oc_cons rfl (oc_cons rfl oc_nil)))) k192 rfl (Nat.le_of_ble_eq_true rfl) rfl) rfl ?_
              rintro _ W198 ⟨k200, o199⟩
              replace k177 := k177.other o199 n195
              replace k39 := k39.other o199 n196
              clear k192
              replace h1 := h1.only o199 (.head _)
              replace hM := hM.only o199 (.head _)
              replace hlv := hlv.only o199 (.head _)
              replace j168 := j168.only o199 (.head _)
              replace hB := o199.below hB l197
              replace hL := LL.only hL o199
              refine WL.val (dx_assign rfl rfl) rfl rfl ?_
              refine WL.nil ?_
              refine hK185 ?_
              refine WC.seq fun K201 hK201 => ?_
              refine WC.drawM 14 [(some 114, .is (.bool (!(decide (((st.ws.set k (usrP uu))[j]?.getD { data := #[] }) = { data := #[] }))))), (some 115, .is (.int .i64 (j : Int))), (some 116, .is (.pointer (some ⟨W5.heap.size, j, none⟩))), (some 117, .is (.string ((st.ws.set k (usrP uu))[j]?.getD { data := #[] }))), (some 118, .is (.bool (!(decide (((st.ws.set k (usrP uu))[j]?.getD { data := #[] }) = { data := #[] }))))), (some 119, .is (.bool false)), (some 120, .is (.bool false)), (some 121, .is (.pointer (some ⟨W190.heap.size, 2, none⟩))), (some 122, .is (.string ((st.ws.set k (usrP uu))[j]?.getD { data := #[] }))), (some 123, .is (.int .i64 (j : Int))), (some 124, .is (.pointer (some ⟨W5.heap.size, j, none⟩))), (some 125, .is (.string ((st.ws.set k (usrP uu))[j]?.getD { data := #[] }))), (some 126, .is (.bool false)), (some 127, .is (.bool false))] [[], [], [1], [2], [3], [0, 4], [5], [6], [7, 6], [6], [9, 6], [10, 6], [8, 11, 6], [6, 12]] (by kernel_rfl) (by kernel_rfl) (by kernel_rfl) (by kernel_rfl) (by kernel_rfl) (by kernel_rfl) (by kernel_rfl) (by exact trivial) ?_ ?_
              ·
                refine DSteps.cons (fun Wd hd => ?_) ?_
                ·
                  exact DV.dr (dx_move rfl rfl) ⟨Below.refl _ _, rfl⟩
                refine DSteps.cons (fun Wd hd => ?_) ?_
                ·
                  exact DV.dr (dx_move rfl rfl) ⟨Below.refl _ _, rfl⟩
                refine DSteps.cons (fun Wd hd => ?_) ?_
                ·
                  exact DV.dr (dx_idxA (o1 := j) rfl Tryd.underlying39 ty_size_9_1 rfl rfl (by omega) (by simp)) ⟨Below.refl _ _, rfl⟩
                refine DSteps.cons (fun Wd hd => ?_) ?_
                ·
                  have k177 := k177.below hd
                  exact DV.dr (dx_load rfl ty_one_9 rfl (k177.cell (k := j) (cellW (by rw [hb2.2.1]; omega)))) ⟨Below.refl _ _, rfl⟩
                refine DSteps.cons (fun Wd hd => ?_) ?_
                ·
                  exact DV.dr (dx_neqT rfl rfl rfl) ⟨Below.refl _ _, rfl⟩
                refine DSteps.cons (fun Wd hd => ?_) ?_
                ·
                  exact DV.dr (dv_F (dx_neqB rfl Tryd.underlying4 rfl rfl) rfl) ⟨Below.refl _ _, rfl⟩
                refine DSteps.cons (fun Wd hd => ?_) ?_
                ·
                  exact DV.dr (dx_move rfl rfl) ⟨Below.refl _ _, rfl⟩
                refine DSteps.cons (fun Wd hd => ?_) ?_
                ·
                  exact DV.dr (dx_fld (o1 := 2) rfl ty_fld_45_1_2 rfl rfl) ⟨Below.refl _ _, rfl⟩
                refine DSteps.cons (fun Wd hd => ?_) ?_
                ·
                  have k200 := k200.below hd
                  exact DV.dr (dx_load rfl ty_one_9 rfl (k200.cell (k := 2) rfl)) ⟨Below.refl _ _, rfl⟩
                refine DSteps.cons (fun Wd hd => ?_) ?_
                ·
                  exact DV.dr (dx_move rfl rfl) ⟨Below.refl _ _, rfl⟩
                refine DSteps.cons (fun Wd hd => ?_) ?_
                ·
                  exact DV.dr (dx_idxA (o1 := j) rfl Tryd.underlying39 ty_size_9_1 rfl rfl (by omega) (by simp)) ⟨Below.refl _ _, rfl⟩
                refine DSteps.cons (fun Wd hd => ?_) ?_
                ·
                  have k177 := k177.below hd
                  exact DV.dr (dx_load rfl ty_one_9 rfl (k177.cell (k := j) (cellW (by rw [hb2.2.1]; omega)))) ⟨Below.refl _ _, rfl⟩
                refine DSteps.cons (fun Wd hd => ?_) ?_
                ·
                  exact DV.dr (dv_F (dx_neqT rfl rfl rfl) rfl) ⟨Below.refl _ _, rfl⟩
                refine DSteps.cons (fun Wd hd => ?_) ?_
                ·
                  exact DV.dr (dx_pick rfl rfl rfl) ⟨Below.refl _ _, rfl⟩
                exact trivial
              ·
                intro W202 b203
                replace h1 := h1.below b203
                replace hM := hM.below b203
                replace hlv := hlv.below b203
                replace j168 := j168.below b203
                replace k177 := k177.below b203
                replace k39 := k39.below b203
                replace k200 := k200.below b203
                replace hB := below_then hB b203
                replace hL := LL.below hL b203
                refine WL.nil ?_
                refine hK201 ?_
                refine WC.condF rfl ?_
                refine WC.skip ?_
                refine hK184 ?_
                refine WC.region ?_
                refine WL.val (dx_move rfl rfl) rfl rfl ?_
                refine WL.val (dx_add (r := (j : Int) + 1) rfl rfl rfl (wrap64_id (by omega))) rfl rfl ?_
                refine WL.val (dx_assign rfl rfl) rfl rfl ?_
                refine WL.nil ?_
                replace hL := hL.less (fun x hx => (.tail _ hx))
                replace h1 := h1.less (fun x hx => (.tail _ hx))
                replace hM := hM.less (fun x hx => (.tail _ hx))
                replace hlv := hlv.less (fun x hx => (.tail _ hx))
                replace j168 := j168.less (fun x hx => (.tail _ hx))
                exact hK179 (j + 1) ⟨(by omega), hB, hL, h1, hM, hlv, j168, k177, k39⟩ (by omega) (by repeat first | exact trivial | exact And.intro rfl trivial | refine And.intro rfl ?_ | refine And.intro (congrArg (fun z : Int => some (Value.int .i64 z)) (by omega)) ?_)
            ·
              replace c183 := of_decide_eq_false c183
              refine WC.exit ?_
              refine hK24 ?_
              refine WC.region ?_
              refine WL.val (dx_move rfl rfl) rfl rfl ?_
              refine WL.val (dx_add (r := (st.i : Int) + 1) rfl rfl rfl (wrap64_id (by omega))) rfl rfl ?_
              refine WL.val (dx_assign rfl rfl) rfl rfl ?_
              refine WL.nil ?_
              replace hL := hL.less (fun x hx => (.tail _ hx))
              replace h1 := h1.less (fun x hx => (.tail _ hx))
              replace hM := hM.less (fun x hx => (.tail _ hx))
              replace j168 := j168.less (fun x hx => (.tail _ hx))
              exact hK19 ⟨st.i + 1, u167, (bindB st.ys (playB k uu (st.i : Int))), (st.ws.set k (usrP uu))⟩ ⟨(by show st.i + 1 ≤ acts.length; omega), hb2, hB, hL, h1, hM, j168, k177⟩ (by show acts.length - (st.i + 1) < acts.length - st.i; omega) (by repeat first | exact trivial | exact And.intro rfl trivial | refine And.intro rfl ?_ | refine And.intro (congrArg (fun z : Int => some (Value.int .i64 z)) (by omega)) ?_)
    ·
      replace c23 := of_decide_eq_false c23
      refine WC.exit ?_
      refine hK17 ?_
      refine WC.seq fun K204 hK204 => ?_
      refine WC.region ?_
      refine WL.val (dx_move rfl rfl) rfl rfl ?_
      refine WL.get (dx_cv rfl Tryd.func18 rfl rfl rfl (rightB_v st.ys _ W20 _ hL hlv hM (inv_small hI))) rfl rfl ?_
      rintro _ W206 ⟨rfl, b205⟩
      replace h1 := h1.below b205
      replace hM := hM.below b205
      replace hlv := hlv.below b205
      replace k13 := k13.below b205
      replace hB := below_then hB b205
      replace hL := LL.below hL b205
      refine WL.val (dx_assign rfl rfl) rfl rfl ?_
      refine WL.nil ?_
      refine hK204 ?_
      refine WC.ret fun a_ ha_ => ?_
      exact hQ (cv_ret1 rfl (.tmp rfl) (by rw [show rightB st.ys = true from hI.1]) hB ha_)

end Go.Proofs.YthefddclefimoaaDoor
namespace Go.Proofs.YthefddclefimoaaDoor
open Go.ChangeShapes Go.WideShapes Go.ChangeAt Go.RowKit
set_option linter.unusedVariables false
section
variable {P : Program} {H : Type} {enc : TypeId × Value → H} {W : World} {base : Nat} {sp : Nat → Bool} {held : Bool}
theorem rd_of_sliceD {α : Type} (en : α → List Value) (good : α → DataW H → Prop) {s : Nat} (hs : 0 < s) {t e : TypeId} {fuel : Nat} {cs : List Value} {x : DataW H × List MemPlace} (ht : P.underlying t = some (.slice e)) (hce : P.cellsOf e = s) (hl : ∀ a d, good a d → (en a).length = s)
    (hel : ∀ n cs x, DataW.trod enc P W base sp held n e cs = some x → ∃ a, cs = en a ∧ good a x.1) (h : DataW.trod enc P W base sp held fuel t cs = some x) : ∃ (v : Value) (xs : List α), cs = [v] ∧ RdF s [] W v (xs.map en) ∧ ∀ a ∈ xs, ∃ es sps d, x.1 = .slice es sps ∧ d ∈ es ∧ good a d := by
  rcases DataW.trod_slice ht h with ⟨rfl, _⟩ | ⟨a, len, cap, elems, rest, n, rfl, rfl, hxe, hb, hlc, hcm, hlen, hx, _⟩
  · exact ⟨_, [], rfl, RdF.nil hs, fun a ha => by cases ha⟩
  · obtain ⟨xs, hxl, hxs⟩ := choose_list (fun i (y : α) => (∃ d, d ∈ elems ∧ good y d.1) ∧ W.cells? base (a.add (i * s)) s = some (en y)) len (fun i hi => by
      have h1 := hx i hi
      rw [hce, List.getElem?_eq_getElem (by omega)] at h1
      obtain ⟨cs', h2, h3⟩ := Option.bind_eq_some_iff.1 h1
      obtain ⟨y, rfl, hg⟩ := hel n cs' _ h3
      exact ⟨y, ⟨_, List.getElem_mem _, hg⟩, h2⟩)
    have hgood : ∀ y ∈ xs, ∃ d, d ∈ elems ∧ good y d.1 := fun y hy => by
      obtain ⟨i, hi⟩ := List.getElem?_of_mem hy
      exact (hxs i y hi).1
    have hrl : ∀ r ∈ xs.map en, r.length = s := fun r hr => by
      obtain ⟨y, hy, rfl⟩ := List.mem_map.1 hr
      obtain ⟨d, _, hd⟩ := hgood y hy
      exact hl y _ hd
    refine ⟨_, xs, rfl, ⟨hs, hrl, some a, cap, by rw [List.length_map, hxl], by rw [List.length_map, hxl]; exact hlc, hcm, (fun e => by cases e), fun hn => ?_⟩, fun a ha => by
      obtain ⟨d, h1, h2⟩ := hgood a ha
      exact ⟨_, _, d.1, by rw [hxe], List.mem_map.2 ⟨d, h1, rfl⟩, h2⟩⟩
    have cellat : ∀ i y, xs[i]? = some y → ∀ j v, (en y)[j]? = some v → W.cell? ((a.add (i * s)).add j) = some v := fun i y hi j v hj => by
      have h2 := (hxs i y hi).2
      unfold World.cells? at h2
      split at h2
      · have hj' : j < s := by have := (List.getElem?_eq_some_iff.1 hj).1; obtain ⟨d, _, hd⟩ := (hxs i y hi).1; rw [hl y _ hd] at this; exact this
        have := mapM_some_get h2 j j (by simp [hj'])
        rw [this]; exact hj
      · cases h2
    have hne : 0 < xs.length := by
      rcases Nat.eq_zero_or_pos xs.length with h0 | h0
      · exact absurd (by rw [List.length_eq_zero_iff.1 h0]; rfl) hn
      · exact h0
    have hx0 : xs[0]? = some xs[0] := List.getElem?_eq_getElem hne
    have hspot : a.spot = none := by
      have hlen0 : 0 < (en xs[0]).length := by obtain ⟨d, _, hd⟩ := (hxs 0 _ hx0).1; rw [hl _ _ hd]; exact hs
      have := cellat 0 _ hx0 0 _ (List.getElem?_eq_getElem hlen0)
      have h3 := World.cell?_spot this
      have e0 : (a.add (0 * s)).add 0 = a := by simp [Addr.add]
      rw [e0] at h3
      exact h3
    obtain ⟨b, off, spot⟩ := a
    simp only at hspot
    subst hspot
    refine ⟨b, off, rfl, by simp, range_flat _ off hrl fun i r hi => ?_⟩
    rw [List.getElem?_map] at hi
    cases hy : xs[i]? with
    | none => rw [hy] at hi; cases hi
    | some y =>
      rw [hy] at hi
      cases hi
      intro j v hj
      have := cellat i y hy j v hj
      rw [addr_at, addr_at] at this
      exact this
theorem weights_all {e : TypeId} {n : Nat} {d : DataW H} : ∀ {es : List (DataW H)}, d ∈ es → n ∈ d.weights P e → n ∈ DataW.weightsAll P e es
  | x :: l, hd, hn => by
    rw [DataW.weightsAll]
    rcases List.mem_cons.1 hd with rfl | hd
    · exact List.mem_append_left _ hn
    · exact List.mem_append_right _ (weights_all hd hn)
theorem weights_slice {t e : TypeId} {n : Nat} {d : DataW H} {es sps : List (DataW H)} (ht : P.underlying t = some (.slice e)) (hd : d ∈ es) (hn : n ∈ d.weights P e) : n ∈ (DataW.slice es sps).weights P t := by
  rw [DataW.weights, ht]
  exact List.mem_cons_of_mem _ (List.mem_append_left _ (weights_all hd hn))
end
end Go.Proofs.YthefddclefimoaaDoor
namespace Go.Proofs.YthefddclefimoaaDoor
open Go.ChangeShapes Go.WideShapes Go.ChangeAt Go.RowKit
set_option linter.unusedVariables false
set_option maxRecDepth 8000
theorem own : ownKnob Tryd.prog.godebug = none := by kernel_rfl
theorem laidOut : laidOutB Tryd.prog = true := by kernel_rfl
theorem cB : Tryd.prog.cellsOf 45 = 4 := by kernel_rfl
theorem cA : Tryd.prog.cellsOf 43 = 2 := by kernel_rfl
theorem cT : Tryd.prog.cellsOf 9 = 1 := by kernel_rfl
theorem cI : Tryd.prog.cellsOf 3 = 1 := by kernel_rfl
section
variable {H : Type} {enc : TypeId × Value → H} {W : World} {base : Nat} {sp : Nat → Bool} {held : Bool}
theorem el_A (n : Nat) (cs : List Value) (x : DataW H × List MemPlace) (h : DataW.trod enc Tryd.prog W base sp held n 43 cs = some x) : ∃ a b : ByteArray, cs = [.string a, .string b] ∧ b.size ∈ x.1.weights Tryd.prog 43 := by
  obtain ⟨y0, y1, m, rfl, hl, h0, h1⟩ := trod_struct2 Tryd.underlying43 h
  rw [cA] at hl
  match cs, hl with
  | [c, d], _ =>
    obtain ⟨a, ha, _, _⟩ := DataW.trod_string Tryd.underlying9 h0
    obtain ⟨b, hb, rfl, _⟩ := DataW.trod_string Tryd.underlying9 h1
    simp only [cT] at ha hb
    simp at ha hb
    exact ⟨a, b, by rw [ha, hb], by simp [DataW.weights, DataW.weightsEach, Tryd.underlying43]⟩
theorem el_B (n : Nat) (cs : List Value) (x : DataW H × List MemPlace) (h : DataW.trod enc Tryd.prog W base sp held n 45 cs = some x) : ∃ b : BondX, cs = encB b ∧ b.1.2.size ∈ x.1.weights Tryd.prog 45 := by
  obtain ⟨y0, y1, y2, m, rfl, hl, h0, h1, h2⟩ := Go.Deep.trod_struct3 Tryd.underlying45 h
  rw [cB] at hl
  match cs, hl with
  | [c, d, e, f], _ =>
    obtain ⟨a, b, ha, hw⟩ := el_A m _ _ h0
    obtain ⟨c', hc, _, _⟩ := DataW.trod_string Tryd.underlying9 h1
    obtain ⟨g, hg, _⟩ := DataW.trod_int Tryd.underlying3 h2
    simp only [cA, cT, cI] at ha hc hg
    simp at ha hc hg
    exact ⟨((a, b), c', g), by simp [encB, ha, hc, hg], by
      simp only [DataW.weights, Tryd.underlying45]
      simp only [DataW.weightsEach, List.map_cons, List.mem_append]
      exact .inl hw⟩
theorem open_bonds {r : Reach} {b0 : Nat} {v : Value} {d : DataW H} {p : List MemPlace} (hv : Value.okWide Tryd.prog W r b0 38 v) (h : DataW.Trod enc Tryd.prog W base sp held 38 v d p) (hw : ∀ n ∈ d.weights Tryd.prog 38, n ≤ reachBytes) : ∃ xs : List BondX, RdF 4 [] W v (xs.map encB) ∧ smallB xs := by
  obtain ⟨a, len, cap, rfl⟩ := okWide_slice Tryd.underlying38 hv
  obtain ⟨fuel, hf⟩ := h
  obtain ⟨v, xs, e, r, g⟩ := rd_of_sliceD (s := 4) encB (fun b d => b.1.2.size ∈ d.weights Tryd.prog 45) (by decide) Tryd.underlying38 cB (fun _ _ _ => rfl) el_B hf
  simp [Value.cells] at e
  subst e
  refine ⟨xs, r, fun b hb => ?_⟩
  obtain ⟨es, sps, d', h1, h2, h3⟩ := g b hb
  have := hw _ (by simp only at h1; rw [h1]; exact weights_slice Tryd.underlying38 h2 h3)
  unfold reachBytes at this
  omega
end
end Go.Proofs.YthefddclefimoaaDoor
namespace Go.Proofs.YthefddclefimoaaDoor
open Go.ChangeShapes Go.WideShapes Go.ChangeAt Go.RowKit
set_option linter.unusedVariables false
set_option maxRecDepth 8000
theorem u8_one {n : Int} (h : (Lit.int .u8 n).wf = true) : 0 ≤ n ∧ n ≤ 255 := by
  simpa [Lit.wf, IntKind.min, IntKind.max, IntKind.signed, IntKind.bits] using h
theorem cU8 : Tryd.prog.cellsOf 5 = 1 := by kernel_rfl
theorem cBl : Tryd.prog.cellsOf 4 = 1 := by kernel_rfl
section
variable {H : Type} {enc : TypeId × Value → H} {W : World} {base : Nat} {sp : Nat → Bool} {held : Bool}
theorem el_O (n : Nat) (cs : List Value) (x : DataW H × List MemPlace) (h : DataW.trod enc Tryd.prog W base sp held n 41 cs = some x) : ∃ p : Bool × Int × Int, cs = encO p ∧ (0 ≤ p.2.1 ∧ p.2.1 ≤ 255 ∧ 0 ≤ p.2.2 ∧ p.2.2 ≤ 255) := by
  obtain ⟨y0, y1, y2, m, _, hl, h0, h1, h2⟩ := Go.Deep.trod_struct3 Tryd.underlying41 h
  rw [show Tryd.prog.cellsOf 41 = 3 by kernel_rfl] at hl
  match cs, hl with
  | [c, d, e], _ =>
    obtain ⟨a, ha, _⟩ := DataW.trod_bool Tryd.underlying4 h0
    obtain ⟨b, hb, _, wb⟩ := DataW.trod_int Tryd.underlying5 h1
    obtain ⟨g, hg, _, wg⟩ := DataW.trod_int Tryd.underlying5 h2
    simp only [cU8, cBl] at ha hb hg
    simp at ha hb hg
    exact ⟨(a, b, g), by simp [encO, ha, hb, hg], (u8_one wb).1, (u8_one wb).2, (u8_one wg).1, (u8_one wg).2⟩
theorem open_acts {r : Reach} {b0 : Nat} {v : Value} {d : DataW H} {p : List MemPlace} (hv : Value.okWide Tryd.prog W r b0 37 v) (h : DataW.Trod enc Tryd.prog W base sp held 37 v d p) : ∃ fs : List (Bool × Int × Int), RdF 3 [] W v (fs.map encO) ∧ ∀ f ∈ fs, 0 ≤ f.2.1 ∧ f.2.1 ≤ 255 ∧ 0 ≤ f.2.2 ∧ f.2.2 ≤ 255 := by
  obtain ⟨a, len, cap, rfl⟩ := okWide_slice Tryd.underlying37 hv
  obtain ⟨fuel, hf⟩ := h
  obtain ⟨v, fs, e, r, g⟩ := rd_of_slice (s := 3) encO (fun f => 0 ≤ f.2.1 ∧ f.2.1 ≤ 255 ∧ 0 ≤ f.2.2 ∧ f.2.2 ≤ 255) (by decide) Tryd.underlying37 (by kernel_rfl) (fun a _ => rfl) el_O hf
  simp [Value.cells] at e
  subst e
  exact ⟨fs, r, g⟩
end
end Go.Proofs.YthefddclefimoaaDoor
