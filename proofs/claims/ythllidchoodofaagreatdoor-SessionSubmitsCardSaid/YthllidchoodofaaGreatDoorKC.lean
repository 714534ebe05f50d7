/- Layer 6 (address): the law's own fixed fact; numbers with and without a nought ahead. address.Make, address.Right, of any text. Sessions: what is said of a list of them. No program stands here. What slices.Insert needs: parts of slices of one's own that overlap, the room of a slice, an append of zeros. No program stands here. slices.Insert on rows of cells: some rows, of a block of their own, into a slice of one's own. What slices.Clone leaves: nothing, or a slice of one's own; and that changes behind a base are none ahead of it. No program stands here. The order of texts. No program stands here. Sorted texts, each once; what slices.Sort and slices.Compact leave of a slice of one's own; a field that is stored. No program stands here. A region whose order is drawn, of which one operation ahead of the last ones writes in place to what another one of it has made. No program stands here. A region whose order is drawn, of which one operation writes in place to what stood there ahead of it. No program stands here. Sessions: slices of them. Fields of an element of a slice of one's own. No program stands here. -/
import Derived.Lib.Overlaps
import Derived.Sort.OwnSorted
import Derived.Lib.SlicesCompact
import Derived.Lib.RowBridge
import Derived.Lib.AppendZeros
import Derived.Test.YthllidchoodofaaGreatDoorKB
namespace Go.Proofs.YthllidchoodofaaGreatDoor
open Go.RowKit
set_option linter.unusedVariables false

def PhoneIs (r : Option (List Int)) (v : Value) : Prop := (∃ f, r = some f ∧ v = .tuple #[.string (strOfNums f), .int .i64 0]) ∨ (r = none ∧ v = .tuple #[.string ⟨#[]⟩, .int .i64 2])
def phoneVal : Option (List Int) → Value
  | some f => .tuple #[.string (strOfNums f), .int .i64 0]
  | none => .tuple #[.string ⟨#[]⟩, .int .i64 2]
theorem post_some {f : List Int} {B : Nat} {w w' : World} {e : Ending} (h : PhonePost (some f) B w e w') : e = .returned (.tuple #[.string (strOfNums f), .int .i64 0]) ∧ Below B w w' := by
  rcases h with ⟨f', hf, rfl, hb⟩ | ⟨hn, _⟩
  · cases hf; exact ⟨rfl, hb⟩
  · cases hn
theorem post_none {B : Nat} {w w' : World} {e : Ending} (h : PhonePost none B w e w') : e = .returned (.tuple #[.string ⟨#[]⟩, .int .i64 2]) ∧ Below B w w' := by
  rcases h with ⟨f', hf, _⟩ | ⟨_, rfl, hb⟩
  · cases hf
  · exact ⟨rfl, hb⟩
theorem phone_empty_is (s : ByteArray) (r : Option (List Int)) (w : World) (hs : s.size ≤ 140737488355328) (hr : phoneS [] false false (sb s) = r) :
    Calls Tryz.prog 49 #[.string ⟨#[]⟩, .string s] w fun e w' => e = .returned (phoneVal r) ∧ Below w.heap.size w w' := by
  refine (phone_empty s w hs).mono ?_
  intro e w' h
  rw [hr] at h
  cases r with
  | none => exact post_none h
  | some f => exact post_some h
end Go.Proofs.YthllidchoodofaaGreatDoor
namespace Go.Proofs.YthllidchoodofaaGreatDoor
open Go.RowKit
set_option linter.unusedVariables false
set_option linter.unusedSimpArgs false
set_option maxRecDepth 8000

def mailA (s : ByteArray) : ByteArray × Int := if mailB (trimI (sb s)) = true then (lowS (trB s), 0) else (⟨#[]⟩, 2)
def phoneA (s : ByteArray) : ByteArray × Int := match phoneS [] false false (sb s) with
  | some f => (strOfNums f, 0)
  | none => (⟨#[]⟩, 2)
def makeA (m s : ByteArray) : ByteArray × ByteArray × Int :=
  if m = { data := #[101, 109, 97, 105, 108] } then (if (mailA s).2 = 0 then (m, (mailA s).1, 0) else ({ data := #[] }, { data := #[] }, (mailA s).2))
  else if m = { data := #[109, 115, 105, 115, 100, 110] } then (if (phoneA s).2 = 0 then (m, (phoneA s).1, 0) else ({ data := #[] }, { data := #[] }, (phoneA s).2)) else ({ data := #[] }, { data := #[] }, 1)
def rightA (m s : ByteArray) : Bool := decide ((makeA m s).2.2 = 0) && decide (m = (makeA m s).1 ∧ s = (makeA m s).2.1)
theorem email_v (s : ByteArray) (w : World) (hm : MaxC w) (hs : s.size ≤ 140737488355328) : CV Tryz.prog 48 [.string s] w fun v W => v = .tuple #[.string (mailA s).1, .int .i64 (mailA s).2] := by
  unfold mailA
  cases h : mailB (trimI (sb s)) with
  | true => exact (email_yes s w hm hs h).mono fun e w' ⟨h1, h2⟩ => ⟨_, h1, rfl, h2⟩
  | false => exact (email_no s w hm hs h).mono fun e w' ⟨h1, h2⟩ => ⟨_, h1, rfl, h2⟩
theorem phone_v (s : ByteArray) (w : World) (hs : s.size ≤ 140737488355328) : CV Tryz.prog 49 [.string { data := #[] }, .string s] w fun v W => v = .tuple #[.string (phoneA s).1, .int .i64 (phoneA s).2] := by
  unfold phoneA
  cases h : phoneS [] false false (sb s) with
  | some f => exact (phone_empty_is s _ w hs h).mono fun e w' ⟨h1, h2⟩ => ⟨_, h1, rfl, h2⟩
  | none => exact (phone_empty_is s _ w hs h).mono fun e w' ⟨h1, h2⟩ => ⟨_, h1, rfl, h2⟩
set_option maxHeartbeats 1000000 in
theorem make_v (m s : ByteArray) (w : World) (L : List Nat) (hL : LL L w) (hM : MaxL L w)  (hs : s.size ≤ 140737488355328) : CV Tryz.prog 45 [.string m, .string s] w fun v W => v = .tuple #[.agg #[.string (makeA m s).1, .string (makeA m s).2.1], .int .i64 (makeA m s).2.2] := by
  refine cv_enter (N := 30) (f := [(0, .string m), (1, .string s)]) Tryz.func45 rfl rfl rfl rfl fun Q hQ hE => ?_
  have hB := Below.refl w.heap.size w
  refine WC.seq fun K1 hK1 => ?_
  refine WC.region ?_
  refine WL.get (dx_alloc rfl ty_zero_24 rfl) rfl rfl ?_
  rintro _ W2 ⟨rfl, k3, b4, z5⟩
  have l6 := hB.size
  replace hM := hM.more b4 (Nat.le_refl _)
  replace hB := below_then hB b4
  replace hL := LL.more hL z5
  refine WL.val (dx_assign rfl rfl) rfl rfl ?_
  refine WL.nil ?_
  refine hK1 ?_
  refine WC.seq fun K7 hK7 => ?_
  refine WC.region ?_
  refine WL.val (dx_assign rfl rfl) rfl rfl ?_
  refine WL.nil ?_
  refine hK7 ?_
  refine WC.seq fun K8 hK8 => ?_
  refine WC.region ?_
  refine WL.val (dx_assign rfl rfl) rfl rfl ?_
  refine WL.nil ?_
  refine hK8 ?_
  refine WC.seq fun K9 hK9 => ?_
  refine WC.seq fun K10 hK10 => ?_
  refine WC.region ?_
  refine WL.val (dx_move rfl rfl) rfl rfl ?_
  refine WL.nil ?_
  refine hK10 ?_
  refine WC.block ?_
  refine WC.seq fun K11 hK11 => ?_
  refine WC.region ?_
  refine WL.val (dx_eqlT rfl rfl rfl) rfl rfl ?_
  refine WL.val (dx_assign rfl rfl) rfl rfl ?_
  refine WL.nil ?_
  refine hK11 ?_
  refine WC.cond rfl (fun c12 => ?_) (fun c12 => ?_)
  ·
    replace c12 := of_decide_eq_true c12
    refine WC.region ?_
    refine WL.val (dx_move rfl rfl) rfl rfl ?_
    refine WL.get (dx_cv rfl Tryz.func48 rfl rfl rfl (email_v s W2 hM.1 hs)) rfl rfl ?_
    rintro _ W14 ⟨rfl, b13⟩
    replace hM := hM.below b13
    replace k3 := k3.below b13
    replace hB := below_then hB b13
    replace hL := LL.below hL b13
    refine WL.val (dx_move rfl rfl) rfl rfl ?_
    refine WL.val (dx_extract rfl rfl rfl) rfl rfl ?_
    refine WL.val (dx_extract rfl rfl rfl) rfl rfl ?_
    refine WL.val (dx_assign rfl rfl) rfl rfl ?_
    refine WL.val (dx_assign rfl rfl) rfl rfl ?_
    refine WL.nil ?_
    refine hK9 ?_
    refine WC.seq fun K15 hK15 => ?_
    refine WC.seq fun K16 hK16 => ?_
    refine WC.region ?_
    refine WL.val (dx_move rfl rfl) rfl rfl ?_
    refine WL.val (dx_neq rfl rfl rfl) rfl rfl ?_
    refine WL.nil ?_
    refine hK16 ?_
    refine WC.cond rfl (fun c17 => ?_) (fun c17 => ?_)
    ·
      replace c17 := bnot_t c17
      replace c17 := of_decide_eq_false c17
      refine WC.seq fun K18 hK18 => ?_
      refine WC.region ?_
      refine WL.val (dx_build rfl rfl (built_of_O (cs := [.string ⟨#[]⟩, .string ⟨#[]⟩]) (by kernel_rfl) oc_nil)) rfl rfl ?_
      refine WL.val (dx_move rfl rfl) rfl rfl ?_
      refine WL.do (dx_store (cs' := [.string ⟨#[]⟩, .string ⟨#[]⟩]) (vs := [.string ⟨#[]⟩, .string ⟨#[]⟩]) rfl ty_size_24_2 rfl rfl rfl (oc_cons rfl (oc_cons rfl oc_nil)) k3 rfl (Nat.le_of_ble_eq_true rfl) rfl) rfl ?_
      rintro _ W19 ⟨k21, o20⟩
      clear k3
      replace hM := hM.only o20 (.head _)
      replace hB := o20.below hB l6
      replace hL := LL.only hL o20
      refine WL.val (dx_assign rfl rfl) rfl rfl ?_
      refine WL.nil ?_
      refine hK18 ?_
      refine WC.ret fun a_ ha_ => ?_
      exact hQ (cv_ret2 rfl (.agg rfl ty_agg_24_2 k21.range rfl) (.tmp rfl) (by unfold makeA; simp [*]) hB ha_)
    ·
      replace c17 := bnot_f c17
      replace c17 := of_decide_eq_true c17
      refine WC.skip ?_
      refine hK15 ?_
      refine WC.seq fun K22 hK22 => ?_
      refine WC.region ?_
      refine WL.val (dx_move rfl rfl) rfl rfl ?_
      refine WL.val (dx_move rfl rfl) rfl rfl ?_
      refine WL.val (dx_build rfl rfl (built_of_O (cs := [.string m, .string ((mailA s).1)]) (by kernel_rfl) (oc_cons rfl (oc_cons rfl oc_nil)))) rfl rfl ?_
      refine WL.do (dx_store (cs' := [.string m, .string ((mailA s).1)]) (vs := [.string m, .string ((mailA s).1)]) rfl ty_size_24_2 rfl rfl rfl (oc_cons rfl (oc_cons rfl oc_nil)) k3 rfl (Nat.le_of_ble_eq_true rfl) rfl) rfl ?_
      rintro _ W23 ⟨k25, o24⟩
      clear k3
      replace hM := hM.only o24 (.head _)
      replace hB := o24.below hB l6
      replace hL := LL.only hL o24
      refine WL.val (dx_assign rfl rfl) rfl rfl ?_
      refine WL.nil ?_
      refine hK22 ?_
      refine WC.ret fun a_ ha_ => ?_
      exact hQ (cv_ret2 rfl (.agg rfl ty_agg_24_2 k25.range rfl) (.tmp rfl) (by unfold makeA; simp [*]) hB ha_)
  ·
    replace c12 := of_decide_eq_false c12
    refine WC.seq fun K26 hK26 => ?_
    refine WC.region ?_
    refine WL.val (dx_eqlT rfl rfl rfl) rfl rfl ?_
    refine WL.val (dx_assign rfl rfl) rfl rfl ?_
    refine WL.nil ?_
    refine hK26 ?_
    refine WC.cond rfl (fun c27 => ?_) (fun c27 => ?_)
    ·
      replace c27 := of_decide_eq_true c27
      refine WC.region ?_
      refine WL.val (dx_move rfl rfl) rfl rfl ?_
      refine WL.get (dx_cv rfl Tryz.func49 rfl rfl rfl (phone_v s W2 hs)) rfl rfl ?_
      rintro _ W29 ⟨rfl, b28⟩
      replace hM := hM.below b28
      replace k3 := k3.below b28
      replace hB := below_then hB b28
      replace hL := LL.below hL b28
      refine WL.val (dx_move rfl rfl) rfl rfl ?_
      refine WL.val (dx_extract rfl rfl rfl) rfl rfl ?_
      refine WL.val (dx_extract rfl rfl rfl) rfl rfl ?_
      refine WL.val (dx_assign rfl rfl) rfl rfl ?_
      refine WL.val (dx_assign rfl rfl) rfl rfl ?_
      refine WL.nil ?_
      refine hK9 ?_
      refine WC.seq fun K30 hK30 => ?_
      refine WC.seq fun K31 hK31 => ?_
      refine WC.region ?_
      refine WL.val (dx_move rfl rfl) rfl rfl ?_
      refine WL.val (dx_neq rfl rfl rfl) rfl rfl ?_
      refine WL.nil ?_
      refine hK31 ?_
      refine WC.cond rfl (fun c32 => ?_) (fun c32 => ?_)
      ·
        replace c32 := bnot_t c32
        replace c32 := of_decide_eq_false c32
        refine WC.seq fun K33 hK33 => ?_
        refine WC.region ?_
        refine WL.val (dx_build rfl rfl (built_of_O (cs := [.string ⟨#[]⟩, .string ⟨#[]⟩]) (by kernel_rfl) oc_nil)) rfl rfl ?_
        refine WL.val (dx_move rfl rfl) rfl rfl ?_
        refine WL.do (dx_store (cs' := [.string ⟨#[]⟩, .string ⟨#[]⟩]) (vs := [.string ⟨#[]⟩, .string ⟨#[]⟩]) rfl ty_size_24_2 rfl rfl rfl (oc_cons rfl (oc_cons rfl oc_nil)) k3 rfl (Nat.le_of_ble_eq_true rfl) rfl) rfl ?_
        rintro _ W34 ⟨k36, o35⟩
        clear k3
        replace hM := hM.only o35 (.head _)
        replace hB := o35.below hB l6
        replace hL := LL.only hL o35
        refine WL.val (dx_assign rfl rfl) rfl rfl ?_
        refine WL.nil ?_
        refine hK33 ?_
        refine WC.ret fun a_ ha_ => ?_
        exact hQ (cv_ret2 rfl (.agg rfl ty_agg_24_2 k36.range rfl) (.tmp rfl) (by unfold makeA; simp [*]) hB ha_)
      ·
        replace c32 := bnot_f c32
        replace c32 := of_decide_eq_true c32
        refine WC.skip ?_
        refine hK30 ?_
        refine WC.seq fun K37 hK37 => ?_
        refine WC.region ?_
        refine WL.val (dx_move rfl rfl) rfl rfl ?_
        refine WL.val (dx_move rfl rfl) rfl rfl ?_
        refine WL.val (dx_build rfl rfl (built_of_O (cs := [.string m, .string ((phoneA s).1)]) (by kernel_rfl) (oc_cons rfl (oc_cons rfl oc_nil)))) rfl rfl ?_
        refine WL.do (dx_store (cs' := [.string m, .string ((phoneA s).1)]) (vs := [.string m, .string ((phoneA s).1)]) rfl ty_size_24_2 rfl rfl rfl (oc_cons rfl (oc_cons rfl oc_nil)) k3 rfl (Nat.le_of_ble_eq_true rfl) rfl) rfl ?_
        rintro _ W38 ⟨k40, o39⟩
        clear k3
        replace hM := hM.only o39 (.head _)
        replace hB := o39.below hB l6
        replace hL := LL.only hL o39
        refine WL.val (dx_assign rfl rfl) rfl rfl ?_
        refine WL.nil ?_
        refine hK37 ?_
        refine WC.ret fun a_ ha_ => ?_
        exact hQ (cv_ret2 rfl (.agg rfl ty_agg_24_2 k40.range rfl) (.tmp rfl) (by unfold makeA; simp [*]) hB ha_)
    ·
      replace c27 := of_decide_eq_false c27
      refine WC.region ?_
      refine WL.val (dx_assign rfl rfl) rfl rfl ?_
      refine WL.nil ?_
      refine hK9 ?_
      refine WC.seq fun K41 hK41 => ?_
      refine WC.seq fun K42 hK42 => ?_
      refine WC.region ?_
      refine WL.val (dx_move rfl rfl) rfl rfl ?_
      refine WL.val (dx_neq rfl rfl rfl) rfl rfl ?_
      refine WL.nil ?_
      refine hK42 ?_
      refine WC.condT rfl ?_
      refine WC.seq fun K43 hK43 => ?_
      refine WC.region ?_
      refine WL.val (dx_build rfl rfl (built_of_O (cs := [.string ⟨#[]⟩, .string ⟨#[]⟩]) (by kernel_rfl) oc_nil)) rfl rfl ?_
      refine WL.val (dx_move rfl rfl) rfl rfl ?_
      refine WL.do (dx_store (cs' := [.string ⟨#[]⟩, .string ⟨#[]⟩]) (vs := [.string ⟨#[]⟩, .string ⟨#[]⟩]) rfl ty_size_24_2 rfl rfl rfl (oc_cons rfl (oc_cons rfl oc_nil)) k3 rfl (Nat.le_of_ble_eq_true rfl) rfl) rfl ?_
      rintro _ W44 ⟨k46, o45⟩
      clear k3
      replace hM := hM.only o45 (.head _)
      replace hB := o45.below hB l6
      replace hL := LL.only hL o45
      refine WL.val (dx_assign rfl rfl) rfl rfl ?_
      refine WL.nil ?_
      refine hK43 ?_
      refine WC.ret fun a_ ha_ => ?_
      exact hQ (cv_ret2 rfl (.agg rfl ty_agg_24_2 k46.range rfl) (.tmp rfl) (by unfold makeA; simp [*]) hB ha_)

set_option maxHeartbeats 1000000 in
theorem right_v (m s : ByteArray) (w : World) (L : List Nat) (hL : LL L w) (hM : MaxL L w)  (hs : s.size ≤ 140737488355328) : CV Tryz.prog 40 [.agg #[.string m, .string s]] w fun v W => v = .bool (rightA m s) := by
  refine cv_enter (N := 20) (f := [(0, .agg #[.string m, .string s])]) Tryz.func40 rfl rfl rfl rfl fun Q hQ hE => ?_
  have hB := Below.refl w.heap.size w
  refine WC.seq fun K1 hK1 => ?_
  refine WC.region ?_
  refine WL.get (dx_box rfl rfl rfl) rfl rfl ?_
  rintro _ W2 ⟨rfl, k3, b4, z5⟩
  have l6 := hB.size
  replace hM := hM.more b4 (Nat.le_refl _)
  replace hB := below_then hB b4
  replace hL := LL.more hL z5
  refine WL.val (dx_assign rfl rfl) rfl rfl ?_
  refine WL.nil ?_
  refine hK1 ?_
  refine WC.seq fun K7 hK7 => ?_
  refine WC.region ?_
  refine WL.val (dx_fld (o1 := 0) rfl ty_fld_24_0_0 rfl rfl) rfl rfl ?_
  refine WL.val (dx_load rfl ty_one_9 rfl (k3.cell (k := 0) rfl)) rfl rfl ?_
  refine WL.val (dx_fld (o1 := 1) rfl ty_fld_24_1_1 rfl rfl) rfl rfl ?_
  refine WL.val (dx_load rfl ty_one_9 rfl (k3.cell (k := 1) rfl)) rfl rfl ?_
  refine WL.get (dx_cv rfl Tryz.func45 rfl rfl rfl (make_v m s W2 _ hL hM hs)) rfl rfl ?_
  rintro _ W9 ⟨rfl, b8⟩
  replace hM := hM.below b8
  replace k3 := k3.below b8
  replace hB := below_then hB b8
  replace hL := LL.below hL b8
  refine WL.val (dx_move rfl rfl) rfl rfl ?_
  refine WL.val (dx_extract rfl rfl rfl) rfl rfl ?_
  refine WL.val (dx_extract rfl rfl rfl) rfl rfl ?_
  refine WL.get (dx_alloc rfl ty_zero_24 rfl) rfl rfl ?_
  rintro _ W10 ⟨rfl, k11, b12, z13⟩
  have n14 : w.heap.size ≠ W9.heap.size := Nat.ne_of_lt k3.lt
  have l15 := hB.size
  replace hM := hM.more b12 (Nat.le_refl _)
  replace k3 := k3.below b12
  replace hB := below_then hB b12
  replace hL := LL.more hL z13
  refine WL.do (dx_store (cs' := [.string ((makeA m s).1), .string ((makeA m s).2.1)]) (vs := [.string ((makeA m s).1), .string ((makeA m s).2.1)]) rfl ty_size_24_2 rfl rfl rfl (oc_cons rfl (oc_cons rfl oc_nil)) k11 rfl (Nat.le_of_ble_eq_true rfl) rfl) rfl ?_
  rintro _ W16 ⟨k18, o17⟩
  replace k3 := k3.other o17 n14
  clear k11
  replace hM := hM.only o17 (.head _)
  replace hB := o17.below hB l15
  replace hL := LL.only hL o17
  refine WL.val (dx_assign rfl rfl) rfl rfl ?_
  refine WL.nil ?_
  refine hK7 ?_
  refine WC.seq fun K19 hK19 => ?_
  refine WC.region ?_
  refine WL.val (dx_move rfl rfl) rfl rfl ?_
  refine WL.val (dx_eql rfl rfl rfl) rfl rfl ?_
  refine WL.val (dx_move rfl rfl) rfl rfl ?_
  refine WL.split 15 rfl (fun g20 => ?_) (fun g20 => ?_)
  ·
    replace g20 := of_decide_eq_true g20
    refine WL.val (dx_loadN rfl ty_agg_24_2 rfl k3.range rfl) rfl rfl ?_
    refine WL.val (dx_loadN rfl ty_agg_24_2 rfl k18.range rfl) rfl rfl ?_
    refine WL.val (dx_eqAd rfl rfl rfl) rfl rfl ?_
    refine WL.val (dx_pick rfl rfl rfl) rfl rfl ?_
    refine WL.val (dx_assign rfl rfl) rfl rfl ?_
    refine WL.nil ?_
    refine hK19 ?_
    refine WC.ret fun a_ ha_ => ?_
    exact hQ (cv_ret1 rfl (.tmp rfl) (by unfold rightA; simp [*]) hB ha_)
  ·
    replace g20 := of_decide_eq_false g20
    refine WL.off rfl rfl rfl ?_
    refine WL.off rfl rfl rfl ?_
    refine WL.off rfl rfl rfl ?_
    refine WL.val (dx_pick rfl rfl rfl) rfl rfl ?_
    refine WL.val (dx_assign rfl rfl) rfl rfl ?_
    refine WL.nil ?_
    refine hK19 ?_
    refine WC.ret fun a_ ha_ => ?_
    exact hQ (cv_ret1 rfl (.tmp rfl) (by unfold rightA; simp [*]) hB ha_)

end Go.Proofs.YthllidchoodofaaGreatDoor
namespace Go.Proofs.YthllidchoodofaaGreatDoor
open Go.RowKit
set_option linter.unusedVariables false
set_option linter.unusedSimpArgs false
/-- A session. -/
structure SesX where
  id : Int
  sec : ByteArray
  med : ByteArray
  whr : ByteArray
  tok : ByteArray
  att : Int
  since : Int
  wrong : Int
  shown : Bool
  sat : Int
def encZ (p : SesX) : List Value := [.int .i64 p.id, .string p.sec, .string p.med, .string p.whr, .string p.tok, .int .i64 p.att, .int .i64 p.since, .int .i64 p.wrong, .bool p.shown, .int .i64 p.sat]
theorem oc_Z (p : SesX) : ∀ u ∈ encZ p, u.oneCell' = true := oc_cons rfl (oc_cons rfl (oc_cons rfl (oc_cons rfl (oc_cons rfl (oc_cons rfl (oc_cons rfl (oc_cons rfl (oc_cons rfl (oc_cons rfl oc_nil)))))))))
def noZ : SesX := ⟨0, ⟨#[]⟩, ⟨#[]⟩, ⟨#[]⟩, ⟨#[]⟩, 0, 0, 0, false, 0⟩
abbrev numZ (n l : Int) : Bool := decide (l ≤ n) && decide (n ≤ 1099511627776)
def goodZ (p : SesX) : Bool := numZ p.id 1 && (wordB p.sec && (wordB p.tok && (rightA p.med p.whr && (decide (1 ≤ p.att) && (decide (p.att ≤ 1000) && (numZ p.since 0 && (numZ p.sat 0 && (decide (0 ≤ p.wrong) && (decide (p.wrong ≤ 3) && (p.shown || decide (p.sat = 0)))))))))))
def sameZ (a b : SesX) : Bool := decide (a.sec = b.sec) && decide (a.med = b.med ∧ a.whr = b.whr)
def clashZ (s t : SesX) : Bool := sameZ s t || decide (s.tok = t.tok)
abbrev ltZ (a b : SesX) : Bool := decide (a.id < b.id)
def apartZ (xs : List SesX) : Bool := (List.range xs.length).all fun k => match xs[k]? with
  | some s => !(xs.take k).any (clashZ s)
  | none => true
def rightZ (xs : List SesX) : Bool := rightL 16 goodZ ltZ xs && apartZ xs
theorem apart_t {xs : List SesX} (h : ∀ k s, k < xs.length → xs[k]? = some s → (xs.take k).any (clashZ s) = false) : apartZ xs = true := by
  unfold apartZ
  refine List.all_eq_true.2 fun k hk => ?_
  have hk := List.mem_range.1 hk
  have h1 := h k xs[k] hk (List.getElem?_eq_getElem hk)
  rw [List.getElem?_eq_getElem hk]
  simp only [h1, Bool.not_false]
theorem apart_at {xs : List SesX} (h : apartZ xs = true) {k : Nat} {s : SesX} (hs : xs[k]? = some s) : (xs.take k).any (clashZ s) = false := by
  unfold apartZ at h
  have hk := (List.getElem?_eq_some_iff.1 hs).1
  have := List.all_eq_true.1 h k (List.mem_range.2 hk)
  rw [hs] at this
  simpa using this
theorem apart_f {xs : List SesX} {k : Nat} {s : SesX} (hs : xs[k]? = some s) (h : (xs.take k).any (clashZ s) = true) : apartZ xs = false := by
  cases ha : apartZ xs with
  | false => rfl
  | true => rw [apart_at ha hs] at h; cases h
theorem apart_iff (xs : List SesX) : apartZ xs = true ↔ xs.Pairwise (fun a b => clashZ b a = false) := by
  constructor
  · intro h
    refine List.pairwise_iff_getElem.2 fun i j hi hj hij => ?_
    have h1 := apart_at h (List.getElem?_eq_getElem hj)
    have h2 := List.any_eq_false.1 h1 xs[i] (by rw [List.mem_iff_getElem]; exact ⟨i, by rw [List.length_take]; omega, by rw [List.getElem_take]⟩)
    simpa using h2
  · intro h
    refine apart_t fun k s hk hs => List.any_eq_false.2 fun a ha => ?_
    obtain ⟨j, hj, rfl⟩ := List.getElem_of_mem ha
    rw [List.length_take] at hj
    rw [List.getElem_take]
    obtain ⟨_, rfl⟩ := List.getElem?_eq_some_iff.1 hs
    have := List.pairwise_iff_getElem.1 h j k (by omega) hk (by omega)
    rw [this]
    decide
theorem rightZ_iff (xs : List SesX) : rightZ xs = true ↔ xs.length ≤ 16 ∧ (∀ x ∈ xs, goodZ x = true) ∧ xs.Pairwise (fun a b => a.id < b.id) ∧ xs.Pairwise (fun a b => clashZ b a = false) := by
  unfold rightZ
  rw [Bool.and_eq_true, right_iff (fun a b c h g => by simp only [decide_eq_true_eq] at h g ⊢; omega), apart_iff]
  simp only [decide_eq_true_eq, and_assoc]
theorem rightZ_len {xs : List SesX} (h : rightZ xs = true) : xs.length ≤ 16 := ((rightZ_iff xs).1 h).1
theorem rightZ_good {xs : List SesX} (h : rightZ xs = true) {i : Nat} {s : SesX} (hs : xs[i]? = some s) : goodZ s = true := ((rightZ_iff xs).1 h).2.1 s (List.mem_of_getElem? hs)
theorem rightZ_nil : rightZ [] = true := (rightZ_iff []).2 ⟨by simp, by simp, by simp, by simp⟩
theorem rightZ_sub {xs ys : List SesX} (h : rightZ xs = true) (hs : ys.Sublist xs) : rightZ ys = true := by
  obtain ⟨h1, h2, h3, h4⟩ := (rightZ_iff xs).1 h
  exact (rightZ_iff ys).2 ⟨Nat.le_trans hs.length_le h1, fun x hx => h2 x (hs.mem hx), h3.sublist hs, h4.sublist hs⟩
theorem goodZ_t {p : SesX} (h : goodZ p = true) : (1 ≤ p.id ∧ p.id ≤ 1099511627776) ∧ (1 ≤ p.att ∧ p.att ≤ 1000) ∧ (0 ≤ p.since ∧ p.since ≤ 1099511627776) ∧ (0 ≤ p.wrong ∧ p.wrong ≤ 3) := by
  unfold goodZ at h
  simp only [Bool.and_eq_true, decide_eq_true_eq] at h
  obtain ⟨h1, _, _, _, h2, h3, h4, _, h5, h6, _⟩ := h
  exact ⟨h1, ⟨h2, h3⟩, h4, h5, h6⟩
-- the loops' facts
theorem apart_step {xs : List SesX} {i : Nat} {a : SesX} (h : ∀ k s, k < i → xs[k]? = some s → (xs.take k).any (clashZ s) = false) (hi : xs[i]? = some a) (ha : (xs.take i).any (clashZ a) = false) : ∀ k s, k < i + 1 → xs[k]? = some s → (xs.take k).any (clashZ s) = false := fun k b hk hb => by
  rcases Nat.lt_or_ge k i with hl | hl
  · exact h k b hl hb
  · obtain rfl : k = i := by omega
    rw [hi] at hb
    cases hb
    exact ha
-- prune
abbrev liveZ (now : Int) (s : SesX) : Bool := !decide (86400 < now - s.since)
def pruneZ (xs : List SesX) (now : Int) : List SesX := if rightZ xs = true ∧ numZ now 0 = true then xs.filter (liveZ now) else []
theorem prune_sub (xs : List SesX) (now : Int) : (pruneZ xs now).Sublist xs := by
  unfold pruneZ
  split
  · exact List.filter_sublist
  · exact List.nil_sublist _
theorem prune_right {xs : List SesX} {now : Int} (h : rightZ xs = true) : rightZ (pruneZ xs now) = true := rightZ_sub h (prune_sub xs now)
theorem prune_rightA (xs : List SesX) (now : Int) : rightZ (pruneZ xs now) = true := by
  by_cases h : rightZ xs = true
  · exact prune_right h
  · unfold pruneZ
    rw [if_neg (fun hc => h hc.1)]
    exact rightZ_nil
theorem prune_len (xs : List SesX) (now : Int) : (pruneZ xs now).length ≤ xs.length := (prune_sub xs now).length_le
theorem prune_again (xs : List SesX) (now : Int) : pruneZ (pruneZ xs now) now = pruneZ xs now := by
  by_cases h : rightZ xs = true ∧ numZ now 0 = true
  · have e : pruneZ xs now = xs.filter (liveZ now) := by unfold pruneZ; rw [if_pos h]
    have h2 : rightZ (xs.filter (liveZ now)) = true := by rw [← e]; exact prune_right h.1
    rw [e]
    unfold pruneZ
    rw [if_pos ⟨h2, h.2⟩, List.filter_filter]
    simp only [Bool.and_self]
  · have e : pruneZ xs now = [] := by unfold pruneZ; rw [if_neg h]
    rw [e]
    unfold pruneZ
    split <;> rfl
-- find
abbrev idP (id : Int) (s : SesX) : Bool := decide (s.id = id)
def findZ (xs : List SesX) (id : Int) : SesX × Bool := if rightZ xs = true ∧ 0 ≤ idxX (idP id) xs 0 then ((xs[(idxX (idP id) xs 0).toNat]?).getD noZ, true) else (noZ, false)
theorem idZ_one {xs : List SesX} (hr : rightZ xs = true) {i j : Nat} {a b : SesX} (hi : xs[i]? = some a) (hj : xs[j]? = some b) (e : a.id = b.id) : i = j := by
  obtain ⟨_, _, hp, _⟩ := (rightZ_iff xs).1 hr
  obtain ⟨hii, ei⟩ := List.getElem?_eq_some_iff.1 hi
  obtain ⟨hjj, ej⟩ := List.getElem?_eq_some_iff.1 hj
  rcases Nat.lt_trichotomy i j with hl | hl | hl
  · have := List.pairwise_iff_getElem.1 hp i j hii hjj hl
    rw [ei, ej] at this
    omega
  · exact hl
  · have := List.pairwise_iff_getElem.1 hp j i hjj hii hl
    rw [ei, ej] at this
    omega
/-- The first place, known by one that is of the kind and none ahead of it that is. -/
theorem idxX_at {α : Type} {p : α → Bool} {xs : List α} {k : Nat} {a : α} (h : xs[k]? = some a) (hp : p a = true) (hn : ∀ j b, j < k → xs[j]? = some b → p b = false) : idxX p xs 0 = (k : Int) := by
  rcases Int.lt_or_le (idxX p xs 0) 0 with hl | hl
  · have := idxX_no xs 0 (by omega) hl a (List.mem_of_getElem? h)
    rw [hp] at this
    cases this
  · obtain ⟨m, b, h1, h2, h3, h4⟩ := idxX_is (p := p) xs 0 (by omega) hl
    rcases Nat.lt_trichotomy m k with hk | hk | hk
    · rw [hn m b hk h2] at h3
      cases h3
    · rw [h1, hk]; omega
    · rw [h4 k a hk h] at hp
      cases hp
theorem idxX_none {α : Type} {p : α → Bool} {xs : List α} (h : ∀ a ∈ xs, p a = false) : idxX p xs 0 < 0 := by
  rcases Int.lt_or_le (idxX p xs 0) 0 with hl | hl
  · exact hl
  · obtain ⟨m, b, h1, h2, h3, h4⟩ := idxX_is (p := p) xs 0 (by omega) hl
    rw [h b (List.mem_of_getElem? h2)] at h3
    cases h3
theorem findZ_is {xs : List SesX} (hr : rightZ xs = true) {i : Nat} {a : SesX} (hi : xs[i]? = some a) : findZ xs a.id = (a, true) := by
  have e : idxX (idP a.id) xs 0 = (i : Int) := idxX_at hi (by simp) fun j b hj hb => decide_eq_false fun e => by
    have := idZ_one hr hb hi e
    omega
  unfold findZ
  rw [e, if_pos ⟨hr, by omega⟩, Int.toNat_natCast, hi]
  rfl
theorem findZ_no {xs : List SesX} {id : Int} (h : ∀ a ∈ xs, a.id ≠ id) : findZ xs id = (noZ, false) := by
  unfold findZ
  rw [if_neg (fun hc => by have := idxX_none (p := idP id) (xs := xs) (fun a ha => decide_eq_false (h a ha)); omega)]
theorem findZ_bad {xs : List SesX} {id : Int} (h : rightZ xs = false) : findZ xs id = (noZ, false) := by
  unfold findZ
  rw [if_neg (fun hc => by rw [h] at hc; cases hc.1)]
-- request
abbrev opnZ (xs : List SesX) (w : SesX) : List SesX := pruneZ xs w.since
abbrev smP (w : SesX) (s : SesX) : Bool := sameZ s w
abbrev smAt (xs : List SesX) (w : SesX) : Int := idxX (smP w) (opnZ xs w) 0
abbrev hitZ (xs : List SesX) (w : SesX) : SesX := ((opnZ xs w)[(smAt xs w).toNat]?).getD noZ
def bumpZ (s : SesX) (n : Int) : SesX := { s with att := if n < s.att then s.att else n }
abbrev twP (w : SesX) (s : SesX) : Bool := decide (s.id = w.id) || decide (s.tok = w.tok)
abbrev gtP (id : Int) (s : SesX) : Bool := decide (id < s.id)
def reqAt (l : List SesX) (id : Int) : Nat := if idxX (gtP id) l 0 < 0 then l.length else (idxX (gtP id) l 0).toNat
def okReq (xs : List SesX) (w : SesX) : Prop := rightZ xs = true ∧ goodZ w = true ∧ w.wrong = 0 ∧ w.shown = false
instance (xs : List SesX) (w : SesX) : Decidable (okReq xs w) := by unfold okReq; exact inferInstance
def reqE (xs : List SesX) (w : SesX) : Int := if okReq xs w then (if 0 ≤ smAt xs w then 0 else if (opnZ xs w).any (twP w) = true then 6 else if ((opnZ xs w).length : Int) = 16 then 10 else 0) else 1
def reqL (xs : List SesX) (w : SesX) : List SesX := if reqE xs w = 0 then (if 0 ≤ smAt xs w then (opnZ xs w).set (smAt xs w).toNat (bumpZ (hitZ xs w) w.att) else (opnZ xs w).take (reqAt (opnZ xs w) w.id) ++ w :: (opnZ xs w).drop (reqAt (opnZ xs w) w.id)) else xs
def reqI (xs : List SesX) (w : SesX) : Int := if reqE xs w = 0 then (if 0 ≤ smAt xs w then (hitZ xs w).id else w.id) else 0
def reqS (xs : List SesX) (w : SesX) : Bool := if reqE xs w = 0 then (if 0 ≤ smAt xs w then decide ((hitZ xs w).att < w.att) else true) else false
theorem reqAt_le (l : List SesX) (id : Int) : reqAt l id ≤ l.length := by
  unfold reqAt
  rcases idxX_lt (p := gtP id) l 0 with h | h
  · rw [if_pos (by omega)]; omega
  · rw [if_neg (by omega)]; omega
/-- The place of a number: all ahead are less, all behind are more. -/
theorem reqAt_is {l : List SesX} {id : Int} {n : Nat} (hs : l.Pairwise (fun a b => a.id < b.id)) (hn : n ≤ l.length) (h1 : ∀ k a, k < n → l[k]? = some a → a.id ≤ id) (h2 : ∀ k a, n ≤ k → l[k]? = some a → id < a.id) : reqAt l id = n := by
  rcases Nat.lt_or_ge n l.length with hl | hl
  · have e : idxX (gtP id) l 0 = (n : Int) := idxX_at (List.getElem?_eq_getElem hl) (decide_eq_true (h2 n _ (Nat.le_refl _) (List.getElem?_eq_getElem hl))) fun j b hj hb => decide_eq_false (by have := h1 j b hj hb; omega)
    unfold reqAt
    rw [e, if_neg (by omega), Int.toNat_natCast]
  · have e := idxX_none (p := gtP id) (xs := l) fun a ha => by
      obtain ⟨k, hk⟩ := List.getElem?_of_mem ha
      have hk2 := (List.getElem?_eq_some_iff.1 hk).1
      exact decide_eq_false (by have := h1 k a (by omega) hk; omega)
    unfold reqAt
    rw [if_pos e]
    omega
theorem reqAt_ok {l : List SesX} {id : Int} (hs : l.Pairwise (fun a b => a.id < b.id)) : (∀ k a, k < reqAt l id → l[k]? = some a → a.id ≤ id) ∧ (∀ k a, reqAt l id ≤ k → l[k]? = some a → id < a.id) := by
  unfold reqAt
  split
  · rename_i h
    have h0 := idxX_no (p := gtP id) l 0 (by omega) h
    refine ⟨fun k a _ ha => ?_, fun k a hk ha => ?_⟩
    · have := of_decide_eq_false (h0 a (List.mem_of_getElem? ha)); omega
    · have := (List.getElem?_eq_some_iff.1 ha).1; omega
  · rename_i h
    obtain ⟨m, b, e1, e2, e3, e4⟩ := idxX_is (p := gtP id) l 0 (by omega) (by omega)
    rw [e1, show ((0 : Int) + (m : Nat)).toNat = m by omega]
    have e3 := of_decide_eq_true e3
    refine ⟨fun k a hk ha => ?_, fun k a hk ha => ?_⟩
    · have := of_decide_eq_false (e4 k a hk ha); omega
    · obtain ⟨hm, em⟩ := List.getElem?_eq_some_iff.1 e2
      obtain ⟨hkl, ek⟩ := List.getElem?_eq_some_iff.1 ha
      by_cases hmk : m = k
      · subst hmk
        rw [e2] at ha
        cases ha
        exact e3
      · have := List.pairwise_iff_getElem.1 hs m k hm hkl (by omega)
        rw [em, ek] at this
        omega
abbrev keyZ (s : SesX) : Int × ByteArray × ByteArray × ByteArray × ByteArray := (s.id, s.sec, s.med, s.whr, s.tok)
theorem rightZ_set {l : List SesX} {k : Nat} {s s' : SesX} (h : rightZ l = true) (hk : l[k]? = some s) (e : keyZ s' = keyZ s) (hg : goodZ s' = true) : rightZ (l.set k s') = true := by
  obtain ⟨h1, h2, h3, h4⟩ := (rightZ_iff l).1 h
  have em : (l.set k s').map keyZ = l.map keyZ := by
    rw [List.map_set, e]
    refine List.ext_getElem? fun i => ?_
    rw [List.getElem?_set]
    split
    · rename_i hik
      subst hik
      have hlt := (List.getElem?_eq_some_iff.1 hk).1
      rw [if_pos (by rw [List.length_map]; exact hlt), List.getElem?_map, hk]
      rfl
    · rfl
  refine (rightZ_iff _).2 ⟨by rw [List.length_set]; exact h1, fun x hx => ?_, ?_, ?_⟩
  · rcases List.mem_or_eq_of_mem_set hx with hx | rfl
    · exact h2 x hx
    · exact hg
  · have : ((l.set k s').map keyZ).Pairwise (fun a b => a.1 < b.1) := by rw [em]; exact List.pairwise_map.2 h3
    exact (List.pairwise_map (f := keyZ)).1 this
  · have : ((l.set k s').map keyZ).Pairwise (fun a b => ((decide (b.2.1 = a.2.1) && decide (b.2.2.1 = a.2.2.1 ∧ b.2.2.2.1 = a.2.2.2.1)) || decide (b.2.2.2.2 = a.2.2.2.2)) = false) := by rw [em]; exact List.pairwise_map.2 h4
    exact (List.pairwise_map (f := keyZ)).1 this
theorem clash_comm (a b : SesX) : clashZ a b = clashZ b a := by
  unfold clashZ sameZ
  have e : ∀ x y : ByteArray, decide (x = y) = decide (y = x) := fun x y => by by_cases h : x = y <;> simp [h, eq_comm]
  have e2 : decide (a.med = b.med ∧ a.whr = b.whr) = decide (b.med = a.med ∧ b.whr = a.whr) := by
    rw [Bool.decide_and, Bool.decide_and, e a.med, e a.whr]
  rw [e a.sec, e a.tok, e2]
theorem rightZ_ins {l : List SesX} {w : SesX} (h : rightZ l = true) (hg : goodZ w = true) (hn : ∀ s ∈ l, sameZ s w = false) (ht : l.any (twP w) = false) (hl : l.length < 16) : rightZ (l.take (reqAt l w.id) ++ w :: l.drop (reqAt l w.id)) = true := by
  obtain ⟨h1, h2, h3, h4⟩ := (rightZ_iff l).1 h
  obtain ⟨p1, p2⟩ := reqAt_ok (id := w.id) h3
  have hne : ∀ s ∈ l, s.id ≠ w.id ∧ s.tok ≠ w.tok := fun s hs => by
    have := List.any_eq_false.1 ht s hs
    simp only [Bool.or_eq_true, decide_eq_true_eq, not_or] at this
    exact this
  have hcl : ∀ s ∈ l, clashZ s w = false := fun s hs => by
    unfold clashZ
    rw [hn s hs, decide_eq_false (hne s hs).2]
    rfl
  have ha : ∀ a ∈ l.take (reqAt l w.id), a ∈ l := fun a ha => List.mem_of_mem_take ha
  have hd : ∀ a ∈ l.drop (reqAt l w.id), a ∈ l := fun a ha => List.mem_of_mem_drop ha
  have hlt : ∀ a ∈ l.take (reqAt l w.id), a.id < w.id := fun a ha' => by
    obtain ⟨j, hj, rfl⟩ := List.getElem_of_mem ha'
    rw [List.length_take] at hj
    rw [List.getElem_take]
    have q1 := p1 j l[j] (by omega) (List.getElem?_eq_getElem (by omega))
    have q2 := (hne l[j] (List.getElem_mem _)).1
    omega
  have hgt : ∀ a ∈ l.drop (reqAt l w.id), w.id < a.id := fun a ha' => by
    obtain ⟨j, hj, rfl⟩ := List.getElem_of_mem ha'
    rw [List.length_drop] at hj
    rw [List.getElem_drop]
    exact p2 _ _ (by omega) (List.getElem?_eq_getElem (by omega))
  refine (rightZ_iff _).2 ⟨by simp; omega, fun x hx => ?_, ?_, ?_⟩
  · rcases List.mem_append.1 hx with hx | hx
    · exact h2 x (ha x hx)
    · rcases List.mem_cons.1 hx with rfl | hx
      · exact hg
      · exact h2 x (hd x hx)
  · refine List.pairwise_append.2 ⟨h3.sublist (List.take_sublist _ _), List.pairwise_cons.2 ⟨hgt, h3.sublist (List.drop_sublist _ _)⟩, fun a ha' b hb => ?_⟩
    have q1 := hlt a ha'
    rcases List.mem_cons.1 hb with rfl | hb
    · exact q1
    · have := hgt b hb; omega
  · have hpa := h4
    rw [← List.take_append_drop (reqAt l w.id) l] at hpa
    obtain ⟨a1, a2, a3⟩ := List.pairwise_append.1 hpa
    refine List.pairwise_append.2 ⟨a1, List.pairwise_cons.2 ⟨fun a ha' => hcl a (hd a ha'), a2⟩, fun a ha' b hb => ?_⟩
    rcases List.mem_cons.1 hb with rfl | hb
    · rw [clash_comm]; exact hcl a (ha a ha')
    · exact a3 a ha' b hb
theorem sm_is {xs : List SesX} {w : SesX} (h : 0 ≤ smAt xs w) : ∃ k : Nat, smAt xs w = (k : Int) ∧ (opnZ xs w)[k]? = some (hitZ xs w) ∧ sameZ (hitZ xs w) w = true ∧ ∀ j b, j < k → (opnZ xs w)[j]? = some b → sameZ b w = false := by
  obtain ⟨k, a, h1, h2, h3, h4⟩ := idxX_is (p := smP w) (opnZ xs w) 0 (by omega) h
  have e : smAt xs w = (k : Int) := by rw [smAt, h1]; omega
  have e2 : hitZ xs w = a := by rw [hitZ, e, Int.toNat_natCast, h2]; rfl
  exact ⟨k, e, by rw [e2]; exact h2, by rw [e2]; exact h3, h4⟩
theorem bump_good {s : SesX} {w : SesX} (h : goodZ s = true) (hw : goodZ w = true) : goodZ (bumpZ s w.att) = true := by
  obtain ⟨_, ⟨q1, q2⟩, _⟩ := goodZ_t hw
  unfold goodZ at h ⊢
  unfold bumpZ
  simp only [Bool.and_eq_true, decide_eq_true_eq] at h ⊢
  obtain ⟨h1, h2, h3, h4, h5, h6, h7⟩ := h
  refine ⟨h1, h2, h3, h4, ?_, ?_, h7⟩
  · split <;> omega
  · split <;> omega
theorem req_right {xs : List SesX} {w : SesX} (h : reqE xs w = 0) : rightZ (reqL xs w) = true := by
  unfold reqL
  rw [if_pos h]
  unfold reqE at h
  split at h
  · rename_i hok
    obtain ⟨hr, hg, _, _⟩ := hok
    have hp : rightZ (opnZ xs w) = true := prune_right hr
    by_cases hs : 0 ≤ smAt xs w
    · rw [if_pos hs]
      obtain ⟨k, e1, e2, e3, _⟩ := sm_is hs
      rw [e1, Int.toNat_natCast]
      exact rightZ_set hp e2 rfl (bump_good (rightZ_good hp e2) hg)
    · rw [if_neg hs] at h ⊢
      split at h
      · cases h
      · rename_i ht
        split at h
        · cases h
        · rename_i hl
          have := rightZ_len hp
          refine rightZ_ins hp hg (fun s hs' => idxX_no (p := smP w) (opnZ xs w) 0 (by omega) (Int.not_le.1 hs) s hs') (Bool.eq_false_iff.2 ht) (by omega)
  · cases h
-- a token that is brought back
abbrev plP (now : Int) (w : SesX) (s : SesX) : Bool := decide (s.id = w.id) && (decide (s.sec = w.sec) && liveZ now s)
abbrev plAt (xs : List SesX) (now : Int) (w : SesX) : Int := idxX (plP now w) xs 0
def fndE (xs : List SesX) (now : Int) (w : SesX) : Int := if rightZ xs = true ∧ numZ now 0 = true then (if plAt xs now w < 0 then 11 else 0) else 1
def fndA (xs : List SesX) (now : Int) (w : SesX) : Int := if fndE xs now w = 0 then plAt xs now w else 0
def fndZ (xs : List SesX) (now : Int) (w : SesX) : SesX := (xs[(plAt xs now w).toNat]?).getD noZ
theorem fnd_ok {xs : List SesX} {now : Int} {w : SesX} (h : fndE xs now w = 0) : rightZ xs = true ∧ (0 ≤ now ∧ now ≤ 1099511627776) ∧ ∃ k : Nat, fndA xs now w = (k : Int) ∧ plAt xs now w = (k : Int) ∧ xs[k]? = some (fndZ xs now w) := by
  unfold fndE at h
  split at h
  · rename_i hr
    split at h
    · cases h
    · rename_i hl
      obtain ⟨k, a, h1, h2, h3, h4⟩ := idxX_is (p := plP now w) xs 0 (by omega) (Int.not_lt.1 hl)
      have e : plAt xs now w = (k : Int) := by rw [plAt, h1]; omega
      have h0 : fndE xs now w = 0 := by unfold fndE; rw [if_pos hr, if_neg hl]
      refine ⟨hr.1, by simpa using hr.2, k, by unfold fndA; rw [if_pos h0, e], e, ?_⟩
      unfold fndZ
      rw [e, Int.toNat_natCast, h2]
      rfl
  · cases h
def subE (xs : List SesX) (now : Int) (w : SesX) : Int := if fndE xs now w = 0 then (if (fndZ xs now w).wrong = 3 then 16 else if (fndZ xs now w).tok = w.tok then 0 else 12) else fndE xs now w
def hitS (s : SesX) (now : Int) (w : SesX) : SesX := if s.tok = w.tok then (if s.shown = true then s else { s with shown := true, sat := now }) else { s with wrong := s.wrong + 1 }
def subL (xs : List SesX) (now : Int) (w : SesX) : List SesX := if subE xs now w = 0 ∨ subE xs now w = 12 then xs.set (fndA xs now w).toNat (hitS (fndZ xs now w) now w) else xs
def shE (xs : List SesX) (now : Int) (w : SesX) : Int := if fndE xs now w = 0 then (if (fndZ xs now w).shown = true then 0 else 14) else fndE xs now w
def shM (xs : List SesX) (now : Int) (w : SesX) : ByteArray := if shE xs now w = 0 then (fndZ xs now w).med else ⟨#[]⟩
def shW (xs : List SesX) (now : Int) (w : SesX) : ByteArray := if shE xs now w = 0 then (fndZ xs now w).whr else ⟨#[]⟩
-- what DeleteFunc leaves
theorem at_drop {α : Type} {xs ys : List α} {j : Nat} (h : ys.drop j = xs.drop j) : ys[j]? = xs[j]? := by
  have := congrArg (fun l => l[0]?) h
  simpa [List.getElem?_drop] using this
theorem drop_on {α : Type} {xs ys : List α} {j : Nat} (h : ys.drop j = xs.drop j) : ys.drop (j + 1) = xs.drop (j + 1) := by
  rw [← List.drop_drop, h, List.drop_drop]
theorem del_out {α : Type} {p : α → Bool} {xs ys : List α} {i j : Nat} {r : α} (h : xs[j]? = some r) (hp : p r = true) (ht : ys.take i = (xs.take j).filter (fun x => !p x)) : ys.take i = (xs.take (j + 1)).filter (fun x => !p x) := by
  rw [ht, List.take_add_one, h, List.filter_append]
  simp [hp]
theorem del_move {α : Type} {p : α → Bool} {xs ys : List α} {i j : Nat} {r : α} (h : xs[j]? = some r) (hp : p r = false) (hij : i < ys.length) (ht : ys.take i = (xs.take j).filter (fun x => !p x)) : (ys.set i r).take (i + 1) = (xs.take (j + 1)).filter (fun x => !p x) := by
  rw [List.take_add_one (l := xs), h, List.filter_append, ← ht, List.take_add_one, List.take_set_of_le (Nat.le_refl _), List.getElem?_set_self hij]
  simp [hp]
theorem del_rest {α : Type} {xs ys : List α} {i j : Nat} {r : α} (hij : i < j) (hd : ys.drop j = xs.drop j) : (ys.set i r).drop (j + 1) = xs.drop (j + 1) := by
  rw [List.drop_set_of_lt (by omega)]
  exact drop_on hd
theorem del_first {α : Type} {p : α → Bool} {xs : List α} {k : Nat} {a : α} (h : xs[k]? = some a) (hp : p a = true) (hn : ∀ j b, j < k → xs[j]? = some b → p b = false) : xs.take k = (xs.take (k + 1)).filter (fun x => !p x) := by
  rw [List.take_add_one, h, List.filter_append]
  have e : (xs.take k).filter (fun x => !p x) = xs.take k := List.filter_eq_self.2 fun b hb => by
    obtain ⟨j, hj, rfl⟩ := List.getElem_of_mem hb
    rw [List.length_take] at hj
    rw [List.getElem_take, hn j _ (by omega) (List.getElem?_eq_getElem (by omega))]
    rfl
  rw [e]
  simp [hp]
theorem del_none {α : Type} {p : α → Bool} {xs : List α} (h : ∀ a ∈ xs, p a = false) : xs.filter (fun x => !p x) = xs := List.filter_eq_self.2 fun a ha => by rw [h a ha]; rfl
theorem geZ (x y : SesX) : decide (x.id ≤ y.id) = !ltZ y x := by
  by_cases h : x.id ≤ y.id
  · rw [decide_eq_true h, ltZ, decide_eq_false (by omega)]; rfl
  · rw [decide_eq_false h, ltZ, decide_eq_true (by omega)]; rfl
end Go.Proofs.YthllidchoodofaaGreatDoor
namespace Go.Proofs.YthllidchoodofaaGreatDoor
open Go.RowKit
set_option linter.unusedVariables false
set_option linter.unusedSimpArgs false
theorem flat_inj {s : Nat} : ∀ {xs ys : List (List Value)}, (∀ r ∈ xs, r.length = s) → (∀ r ∈ ys, r.length = s) → xs.length = ys.length → xs.flatten = ys.flatten → xs = ys
  | [], [], _, _, _, _ => rfl
  | [], _ :: _, _, _, hl, _ => by simp at hl
  | _ :: _, [], _, _, hl, _ => by simp at hl
  | x :: xs, y :: ys, hx, hy, hl, he => by
    have h1 : x.length = y.length := by rw [hx x (.head _), hy y (.head _)]
    rw [List.flatten_cons, List.flatten_cons] at he
    obtain ⟨e1, e2⟩ := List.append_inj he h1
    rw [e1, flat_inj (fun r hr => hx r (.tail _ hr)) (fun r hr => hy r (.tail _ hr)) (by simpa using hl) e2]
section
variable {P : Program} {ops : Array Oper} {o : Oper} {N : Nat} {f : Fl} {w : World}
theorem RwB.rd {s : Nat} {w : World} {C : Nat} {vs sp : List (List Value)} (h : RwB s w C (vs ++ sp)) {L : List Nat} (hC : C ∉ L) : RdF s L w (.slice (some ⟨C, 0, none⟩) vs.length (vs ++ sp).length) vs := h.own.rd hC
theorem dx_cap {t : TypeId} {x : Operand} {a : Option Addr} {e : TypeId} {n c : Nat} (ho : o.op = .call { callee := .builtin .cap, args := #[x], argTypes := #[t] }) (ht : P.underlying t = some (.slice e)) (hx : ev f x = some (.slice a n c)) (hw : wantF ops o f = some true := by rfl) : DV P ops o N f w (.int .i64 (c : Int)) := fun k ha => by
  have hx := ha.ev hx
  exact Does.pure (wantF_of ha hw) _ (by unfold execOp; simp [ho, resolve, invoke, builtin, hx, Builtin.cap_, Sem.run_bind, run_underlying ht, goInt]) ⟨rfl, rfl⟩
/-- x[0:] of nil. -/
theorem dx_slN {t s : Nat} {x y : Operand} {K : IntKind} (ho : o.op = .slice t x (some y) none none) (ht : sliceB P t s = true) (hx : ev f x = some (.slice none 0 0)) (hy : ev f y = some (.int K 0)) (hw : wantF ops o f = some true := by rfl) : DV P ops o N f w (.slice none 0 0) := fun a ha => by
  obtain ⟨e, hu, hs⟩ := of_sliceB ht
  have hx := ha.ev hx
  have hy := ha.ev hy
  cases hi : P.info? e with
  | none => rw [hi] at hs; cases hs
  | some q =>
    refine Does.pure (wantF_of ha hw) _ ?_ ⟨rfl, rfl⟩
    unfold execOp
    simp only [ho, Option.map_none, Option.map_some, hx, hy, Instr.sliceAt, Sem.run_bind, run_underlying hu, Result.andThen_ok, Instr.slice, Instr.sliceBounds, Instr.sliceBound, asIntOf, Sem.run_pure, sizeOf, typeInfo, run_program, hi]
    rw [if_pos (by decide)]
    exact rfl
/-- A slice that is none, or has an address. -/
theorem RdF.nil_or {s : Nat} {L : List Nat} {w : World} {v : Value} {rs : List (List Value)} (h : RdF s L w v rs) : (v = .slice none 0 0 ∧ rs = []) ∨ ∃ a n c, v = .slice (some a) n c := by
  obtain ⟨_, _, a, c, rfl, h1, h2, h3, h4⟩ := h
  cases a with
  | none =>
    have hr : rs = [] := Classical.byContradiction fun hn => by obtain ⟨X, o, he, _⟩ := h4 hn; cases he
    subst hr
    exact .inl ⟨by rw [h3 rfl]; rfl, rfl⟩
  | some a => exact .inr ⟨a, _, c, rfl⟩
theorem dx_nilS {t t' : TypeId} {x : Operand} {a : Addr} {n c : Nat} {v : Value} {e : TypeId} (ho : o.op = .binOp .eql t x (.const (.slice none 0 0)) t') (hu : P.underlying t = some (.slice e)) (hx : ev f x = some v) (hv : v = .slice (some a) n c) (hw : wantF ops o f = some true := by rfl) : DV P ops o N f w (.bool false) := fun k ha => by
  subst hv
  have hx := ha.ev hx
  have e1 : binOp .eql t (.slice (some a) n c) (.slice none 0 0) = (do pure (.bool (← Op.equal t (.slice (some a) n c) (.slice none 0 0)))) := rfl
  have e2 : (Op.equal t (.slice (some a) n c) (.slice none 0 0)).run P w = .ok false w := eqIn_nil hu 9999 _ _ _
  exact Does.pure (wantF_of ha hw) _ (by unfold execOp; simp only [ho, hx, eval_c, eqGuard, Sem.run_bind, Sem.run_pure, Result.andThen_ok, e1]; show ((((Sem.run P (Op.equal t (Value.slice (some a) n c) (Value.slice none 0 0)) w).andThen fun a w' => Result.ok (Value.bool a) w').andThen fun a w' => Result.ok (Next.value a) w') = _); rw [e2]; rfl) ⟨rfl, rfl⟩
theorem eqIn_nilT {t : TypeId} {e : TypeId} (hu : P.underlying t = some (.slice e)) (d : Nat) : (Op.equalIn (d + 1) t (.slice none 0 0) (.slice none 0 0)).run P w = .ok true w := by
  simp [Op.equalIn, run_underlying hu]
theorem dx_nilT {t t' : TypeId} {x : Operand} {e : TypeId} (ho : o.op = .binOp .eql t x (.const (.slice none 0 0)) t') (hu : P.underlying t = some (.slice e)) (hx : ev f x = some (.slice none 0 0)) (hw : wantF ops o f = some true := by rfl) : DV P ops o N f w (.bool true) := fun k ha => by
  have hx := ha.ev hx
  have e1 : binOp .eql t (.slice none 0 0) (.slice none 0 0) = (do pure (.bool (← Op.equal t (.slice none 0 0) (.slice none 0 0)))) := rfl
  have e2 : (Op.equal t (.slice none 0 0) (.slice none 0 0)).run P w = .ok true w := eqIn_nilT hu 9999
  exact Does.pure (wantF_of ha hw) _ (by unfold execOp; simp only [ho, hx, eval_c, eqGuard, Sem.run_bind, Sem.run_pure, Result.andThen_ok, e1]; show ((((Sem.run P (Op.equal t (Value.slice none 0 0) (Value.slice none 0 0)) w).andThen fun a w' => Result.ok (Value.bool a) w').andThen fun a w' => Result.ok (Next.value a) w') = _); rw [e2]; rfl) ⟨rfl, rfl⟩
/-- Slices in two blocks of one's own don't overlap. -/
theorem dx_ovl {F : FuncId} {fn : Func} {t tR s B C o0 o1 n c m c' : Nat} {x y : Operand} {ts : Array TypeId} {U V : List (List Value)} (ho : o.op = .call { callee := .value (.func F), args := #[x, y], argTypes := ts }) (hf : P.funcs[F]? = some fn) (hn : (fn.name == "runtime.NumGoroutine") = false) (hb : fn.body.isNone = true) (hnx : Extern.findNext fn = none) (he : Extern.find fn = some (Extern.SlicesOverlaps.overlaps #[t, t] #[tR])) (ht : sliceB P t s = true)
    (hx : ev f x = some (.slice (some ⟨C, o0, none⟩) n c)) (hy : ev f y = some (.slice (some ⟨B, o1, none⟩) m c')) (hC : RwB s w C V) (hB : RwB s w B U) (hne : C ≠ B) (hU : U ≠ []) (hw : wantF ops o f = some true := by rfl) : DV P ops o N f w (.bool false) := fun a ha => by
  have hx := ha.ev hx
  have hy := ha.ev hy
  obtain ⟨e, hu, hs⟩ := of_sliceB ht
  obtain ⟨hc0, hcr, hcm, tc, hcb⟩ := hC
  obtain ⟨hb0, hbr, hbm, tb, hbb⟩ := hB
  cases hi : P.info? e with
  | none => rw [hi] at hs; cases hs
  | some q =>
    have hq : q.size = s := by simpa [hi] using hs
    have hz : ∀ w, (Go.sizeOf e).run P w = .ok s w := fun w => by simp [sizeOf, typeInfo, hi, hq]
    have hkB : U.flatten.toArray.size ≠ 0 := by
      rw [List.size_toArray, flat_len hbr]
      exact Nat.mul_ne_zero (fun h => hU (List.length_eq_zero_iff.1 h)) (by omega)
    have hrun := Lib.run_overlaps_apart (P := P) w t tR e hu s hz ⟨C, o0, none⟩ ⟨B, o1, none⟩ n c m c' hne tc tb V.flatten.toArray.size U.flatten.toArray.size (by simp [World.shape?, hcb]) (by simp [World.shape?, hbb]) hkB (by simp [World.frozen?, hcb]) (by simp [World.frozen?, hcb])
    refine Does.pure (wantF_of ha hw) _ ?_ ⟨rfl, rfl⟩
    have h1 := run_callFunc_extern (P := P) hf hn hb hnx he #[.slice (some ⟨C, o0, none⟩) n c, .slice (some ⟨B, o1, none⟩) m c'] w
    rw [hrun] at h1
    simp only [Result.andThen_ok] at h1
    have hfe : a.eval (.func F) = .func (.func F) #[] #[] := rfl
    unfold execOp
    simp only [ho, resolve, hfe, Deferred.ofValue, Sem.run_bind, Sem.run_pure, Result.andThen_ok, invoke, List.map_toArray, List.map_cons, List.map_nil, hx, hy, Array.empty_append, Array.append_empty]
    rw [h1]
/-- An append of zeros that there is no room for: what comes is new. -/
theorem dx_apZ {t tn s bytes B i : Nat} {K kn : IntKind} {x y : Operand} {j : Int} (m : Nat) {R : List (List Value)} (ho : o.op = .call { callee := .builtin .append, args := #[x, y], argTypes := #[t, tn] }) (ht : apB P t s bytes = true) (htn : P.underlying tn = some (.int kn)) (hx : ev f x = some (.slice (some ⟨B, 0, none⟩) i R.length)) (hy : ev f y = some (.int K j)) (hj : j = (m : Int))
    (hR : RwB s w B R) (hi : i ≤ R.length) (hg : R.length < i + m) (hm : i + m ≤ maxLen) (hby : (i + m) * bytes ≤ 140737488355328) (hw : wantF ops o f = some true := by rfl) :
    DR P ops o N f w fun u W => ∃ Z : List (List Value), u = .slice (some ⟨w.heap.size, 0, none⟩) (i + m) Z.length ∧ i + m ≤ Z.length ∧ Z.take i = R.take i ∧ RwB s W w.heap.size Z ∧ Below w.heap.size w W ∧ w.heap.size < W.heap.size := fun a ha => by
  subst hj
  obtain ⟨e, q, Z, hu, hi', hz, rfl, rfl, hzs⟩ := of_apB ht
  have hx := ha.ev hx
  have hy := ha.ev hy
  obtain ⟨h0, hr, hmR, tt, hb⟩ := hR
  unfold maxLen at hm
  have hrt : ∀ r ∈ R.take i, r.length = q.size := fun r hr' => hr r (List.mem_of_mem_take hr')
  have hfl : (R.take i).flatten.length = i * q.size := by rw [flat_len hrt, List.length_take]; congr 1; omega
  have hfo := run_firstCells_some (P := P) w.drew q.size i ⟨B, 0, none⟩ i R.length (R.take i).flatten hfl (fun k u hk => by
    rw [addr_at, World.cell?_drew]
    refine ((Blk.range ⟨tt, hb⟩ : w.rangeAt B 0 R.flatten)) k u ?_
    rw [← flat_take i hr, List.getElem?_take] at hk
    split at hk
    · exact hk
    · cases hk)
  have hwr : IntKind.i64.wrap (m : Int) = m := by rw [IntKind.wrap_i64]; omega
  have hneg : ¬ ((m : Int) < 0) := by omega
  have hm0 : m ≠ 0 := by omega
  have hns : ¬ (m * q.size = 0) := Nat.mul_ne_zero hm0 (by omega)
  have hbm : m * q.bytes ≤ (i + m) * q.bytes := Nat.mul_le_mul_right _ (by omega)
  have h48i : ¬ (281474976710656 < (m : Int) * (q.bytes : Int)) := by rw [← Int.natCast_mul]; omega
  have hn : ¬ (i + m ≤ R.length) := by omega
  have h63' : ¬ (9223372036854775807 < ((i : Int) + (m : Int))) := by omega
  have hfit := growslice_fits (old := R.length) (by omega) hby
  have h48' : ¬ (281474976710656 < Builtin.nextslicecap (i + m) R.length * q.bytes) := by omega
  have hrun : (Builtin.append_ #[t, tn] o.type #[.slice (some ⟨B, 0, none⟩) i R.length, .int K m]).run P w = .ok (.slice (some ⟨w.heap.size, 0, none⟩) (i + m) (grownCap w (i + m) R.length e)) (w.drew.alloc (.cells ((R.take i).flatten.toArray ++ Builtin.zeroCells Z.cells m ++ Builtin.zeroCells Z.cells (grownCap w (i + m) R.length e - (i + m))) e)) := by
    simp [Builtin.append_, run_underlying hu, run_underlying htn, sizeOf, typeInfo, zeroValue, hi', hz, asInt, asIntOf, hwr, hneg, hns, hn, h63', h48', h48i, Question.forced, hfo, newRow, grownCap]
  have hcl : ((R.take i).flatten.toArray ++ Builtin.zeroCells Z.cells m ++ Builtin.zeroCells Z.cells (grownCap w (i + m) R.length e - (i + m))).toList.length = grownCap w (i + m) R.length e * q.size := by
    have hge : i + m ≤ grownCap w (i + m) R.length e := grownCap_ge _ _ _ _
    rw [Array.length_toList, Array.size_append, Array.size_append, size_zeroCells, size_zeroCells, hzs, List.size_toArray, hfl, ← Nat.add_mul, ← Nat.add_mul]
    congr 1
    omega
  obtain ⟨rows, k1, k2, k3⟩ := rows_of (s := q.size) _ _ hcl
  have hge : i + m ≤ grownCap w (i + m) R.length e := grownCap_ge _ _ _ _
  refine Does.of_wp (wantF_of ha hw) fun K hK => ?_
  unfold Oper.wp execOp
  simp only [ho, resolve, invoke, builtin, Sem.run_bind, Sem.run_pure, Result.andThen_ok, List.map_toArray, List.map_cons, List.map_nil, hx, hy, hrun]
  refine hK _ _ ⟨rows, by rw [k1], by rw [k1]; exact hge, ?_, ⟨h0, k2, by rw [k1]; exact grownCap_le_maxLen _ _ _ _ (by unfold maxLen; omega), e, ?_⟩, below_alloc (below_draws (Below.refl _ _) 1) _, ?_⟩
  · refine flat_inj (s := q.size) (fun r hr' => k2 r (List.mem_of_mem_take hr')) hrt (by rw [List.length_take, List.length_take, k1]; omega) ?_
    rw [← flat_take i k2, k3]
    simp only [Array.toList_append]
    rw [List.append_assoc, List.take_append_of_le_length (by simpa using Nat.le_of_eq hfl.symm), List.take_of_length_le (by simpa using Nat.le_of_eq hfl)]
  · rw [show w.heap.size = w.drew.heap.size from (World.size_drew w).symm, heap_alloc_new, k3]
  · have := (below_alloc (below_draws (Below.refl w.heap.size w) 1) (.cells ((R.take i).flatten.toArray ++ Builtin.zeroCells Z.cells m ++ Builtin.zeroCells Z.cells (grownCap w (i + m) R.length e - (i + m))) e))
    rw [World.size_alloc, World.size_drew]
    omega
end
theorem ins_room {α : Type} {rs sp vs : List α} {i : Nat} (hi : i ≤ rs.length) (hm : rs.length + vs.length ≤ (rs ++ sp).length) :
    let R0 := rs ++ sp
    let R1 := R0.take (i + vs.length) ++ (((R0.drop i).take (rs.length + vs.length - i)).take (rs.length - i) ++ R0.drop (i + vs.length + (rs.length - i)))
    R1.take i ++ (vs ++ R1.drop (i + vs.length)) = (rs.take i ++ (vs ++ rs.drop i)) ++ R0.drop (rs.length + vs.length) := by
  have hl : (rs ++ sp).length = rs.length + sp.length := List.length_append
  have e1 : (((rs ++ sp).drop i).take (rs.length + vs.length - i)).take (rs.length - i) = rs.drop i := by
    rw [List.take_take, show min (rs.length - i) (rs.length + vs.length - i) = rs.length - i by omega, List.drop_append_of_le_length hi, List.take_append_of_le_length (by rw [List.length_drop]; omega), List.take_of_length_le (by rw [List.length_drop]; omega)]
  have l1 : ((rs ++ sp).take (i + vs.length)).length = i + vs.length := by rw [List.length_take]; omega
  simp only [e1]
  rw [List.take_append_of_le_length (by omega), List.take_take, show min i (i + vs.length) = i by omega, List.take_append_of_le_length hi]
  rw [List.drop_append, List.drop_eq_nil_of_le (by omega), List.nil_append, l1, Nat.sub_self, List.drop_zero, show i + vs.length + (rs.length - i) = rs.length + vs.length by omega]
  simp
theorem ins_grow {α : Type} {rs vs R2 : List α} {i : Nat} (hi : i ≤ rs.length) (hm : rs.length + vs.length ≤ R2.length) (ht : R2.take i = rs.take i) :
    let R3 := R2.take i ++ (vs ++ R2.drop (i + vs.length))
    R3.take (i + vs.length) ++ (rs.drop i ++ R3.drop (i + vs.length + (rs.length - i))) = (rs.take i ++ (vs ++ rs.drop i)) ++ R2.drop (rs.length + vs.length) := by
  have l1 : (rs.take i).length = i := by rw [List.length_take]; omega
  have l2 : (rs.take i ++ vs).length = i + vs.length := by rw [List.length_append, l1]
  have e0 : R2.take i ++ (vs ++ R2.drop (i + vs.length)) = (rs.take i ++ vs) ++ R2.drop (i + vs.length) := by rw [ht, List.append_assoc]
  have e1 : ((rs.take i ++ vs) ++ R2.drop (i + vs.length)).take (i + vs.length) = rs.take i ++ vs := by
    rw [List.take_append_of_le_length (by omega), List.take_of_length_le (by omega)]
  have e2 : ((rs.take i ++ vs) ++ R2.drop (i + vs.length)).drop (i + vs.length + (rs.length - i)) = R2.drop (rs.length + vs.length) := by
    have e3 : (rs.take i ++ vs).drop (i + vs.length + (rs.length - i)) = [] := List.drop_eq_nil_of_le (by omega)
    rw [List.drop_append, e3, List.nil_append, l2, List.drop_drop, show i + vs.length + (i + vs.length + (rs.length - i) - (i + vs.length)) = rs.length + vs.length by omega]
  intro R3
  rw [show R3 = (rs.take i ++ vs) ++ R2.drop (i + vs.length) from e0, e1, e2]
  simp
end Go.Proofs.YthllidchoodofaaGreatDoor
namespace Go.Proofs.YthllidchoodofaaGreatDoor
open Go.RowKit
set_option linter.unusedVariables false
set_option linter.unusedSimpArgs false
set_option maxRecDepth 8000

theorem del_tail {α : Type} {rs sp : List α} {i : Nat} (hi : i ≤ rs.length) : ((rs ++ sp).drop i).take (rs.length - i) = rs.drop i := by
  rw [List.drop_append_of_le_length hi, List.take_append_of_le_length (by rw [List.length_drop]; omega), List.take_of_length_le (by rw [List.length_drop]; omega)]
theorem ins_own_eq {s : Nat} {w : World} {rs vs tl : List (List Value)} {B i n c : Nat} (h : OwS s w (.slice (some ⟨B, 0, none⟩) (rs.take i ++ (vs ++ rs.drop i)).length ((rs.take i ++ (vs ++ rs.drop i)) ++ tl).length) (rs.take i ++ (vs ++ rs.drop i)) B) (hi : i ≤ rs.length) (hn : rs.length + vs.length = n) (hc : ((rs.take i ++ (vs ++ rs.drop i)) ++ tl).length = c) : OwS s w (.slice (some ⟨B, 0, none⟩) n c) (rs.take i ++ (vs ++ rs.drop i)) B := by
  have e : (rs.take i ++ (vs ++ rs.drop i)).length = n := by simp; omega
  rw [e, hc] at h
  exact h
theorem GrowB.new_or {B B' : Nat} {w w' : World} (h : GrowB B B' w w') : B' = B ∨ w.heap.size ≤ B' := h.new
set_option maxHeartbeats 1000000 in
theorem insertSession_v (rs sp vs vp : List (List Value)) (i : Nat) (B C : Nat) (w : World) (L : List Nat) (hL : LL (B :: L) w) (hO : RwB 10 w B (rs ++ sp)) (hV : RwB 10 w C (vs ++ vp)) (hCB : C ≠ B) (hi : i ≤ rs.length) (hvs : vs ≠ []) (hsm : (rs.length + vs.length) * 112 ≤ 140737488355328) (hone : ∀ r ∈ rs, ∀ u ∈ r, u.oneCell' = true) (hvone : ∀ r ∈ vs, ∀ u ∈ r, u.oneCell' = true) : CW Tryz.prog 35 [.slice (some ⟨B, 0, none⟩) rs.length ((rs ++ sp).length), .int .i64 (i : Int), .slice (some ⟨C, 0, none⟩) vs.length ((vs ++ vp).length)] w B fun v W => ∃ B', OwS 10 W v (rs.take i ++ (vs ++ rs.drop i)) B' ∧ (B' = B ∨ w.heap.size ≤ B') := by
  refine cw_enter (N := 95) (f := [(0, .slice (some ⟨B, 0, none⟩) rs.length ((rs ++ sp).length)), (1, .int .i64 (i : Int)), (2, .slice (some ⟨C, 0, none⟩) vs.length ((vs ++ vp).length))]) Tryz.func35 rfl rfl rfl rfl fun Q hQ hE => ?_
  have hB := Chg.refl B w
  have hlen : (rs ++ sp).length = rs.length + sp.length := List.length_append
  have hm0 := List.length_pos_iff.2 hvs
  refine WC.seq fun K1 hK1 => ?_
  refine WC.region ?_
  refine WL.val (dx_assign rfl rfl) rfl rfl ?_
  refine WL.nil ?_
  refine hK1 ?_
  refine WC.seq fun K2 hK2 => ?_
  refine WC.region ?_
  refine WL.val (dx_move rfl rfl) rfl rfl ?_
  refine WL.val (dx_move rfl rfl) rfl rfl ?_
  refine WL.val (dx_slL i rfl ty_slice_22 rfl rfl rfl (by omega) (by omega)) rfl rfl ?_
  refine WL.nil ?_
  refine hK2 ?_
  refine WC.seq fun K3 hK3 => ?_
  refine WC.region ?_
  refine WL.val (dx_move rfl rfl) rfl rfl ?_
  refine WL.val (dx_len rfl Tryz.underlying22 rfl) rfl rfl ?_
  refine WL.val (dx_assign rfl rfl) rfl rfl ?_
  refine WL.nil ?_
  refine hK3 ?_
  refine WC.seq fun K4 hK4 => ?_
  refine WC.seq fun K5 hK5 => ?_
  refine WC.region ?_
  refine WL.val (dx_move rfl rfl) rfl rfl ?_
  refine WL.val (dx_eql rfl rfl rfl) rfl rfl ?_
  refine WL.nil ?_
  refine hK5 ?_
  refine WC.cond rfl (fun c6 => ?_) (fun c6 => ?_)
  ·
    replace c6 := of_decide_eq_true c6
    exfalso; omega
  ·
    replace c6 := of_decide_eq_false c6
    refine WC.skip ?_
    refine hK4 ?_
    refine WC.seq fun K7 hK7 => ?_
    refine WC.region ?_
    refine WL.val (dx_move rfl rfl) rfl rfl ?_
    refine WL.val (dx_len rfl Tryz.underlying22 rfl) rfl rfl ?_
    refine WL.val (dx_assign rfl rfl) rfl rfl ?_
    refine WL.nil ?_
    refine hK7 ?_
    refine WC.seq fun K8 hK8 => ?_
    refine WC.seq fun K9 hK9 => ?_
    refine WC.region ?_
    refine WL.val (dx_move rfl rfl) rfl rfl ?_
    refine WL.val (dx_move rfl rfl) rfl rfl ?_
    refine WL.val (dx_eql rfl rfl rfl) rfl rfl ?_
    refine WL.nil ?_
    refine hK9 ?_
    refine WC.cond rfl (fun c10 => ?_) (fun c10 => ?_)
    ·
      replace c10 := of_decide_eq_true c10
      refine WC.seq fun K11 hK11 => ?_
      refine WC.region ?_
      refine WL.val (dx_move rfl rfl) rfl rfl ?_
      refine WL.val (dx_move rfl rfl) rfl rfl ?_
      refine WL.get (dx_apO' (rs := rs) (news := vs) rfl ty_ap_22 rfl rfl hO.own (hV.rd (L := []) (by simp)) hvone (by unfold maxLen; omega) (by omega)) rfl rfl ?_
      rintro u16 W12 ⟨B13, k14, g15⟩
      replace hB := hB.grow g15 (.inl rfl)
      refine WL.val (dx_assign rfl rfl) rfl rfl ?_
      refine WL.nil ?_
      refine hK11 ?_
      refine WC.ret fun a_ ha_ => ?_
      exact hQ (cw_ret1 rfl (.tmp rfl) ⟨B13, (by have e : i = rs.length := (by omega); rw [e, List.take_length, List.drop_length, List.append_nil]; exact k14), g15.new_or⟩ hB ha_)
    ·
      replace c10 := of_decide_eq_false c10
      refine WC.skip ?_
      refine hK8 ?_
      refine WC.seq fun K17 hK17 => ?_
      refine WC.seq fun K18 hK18 => ?_
      refine WC.region ?_
      refine WL.val (dx_move rfl rfl) rfl rfl ?_
      refine WL.val (dx_move rfl rfl) rfl rfl ?_
      refine WL.val (dx_add (r := ((rs.length + vs.length : Nat) : Int)) rfl rfl rfl (by rw [wrap64_id (by omega)]; omega)) rfl rfl ?_
      refine WL.val (dx_move rfl rfl) rfl rfl ?_
      refine WL.val (dx_cap rfl Tryz.underlying22 rfl) rfl rfl ?_
      refine WL.val (dx_gtr rfl rfl rfl) rfl rfl ?_
      refine WL.nil ?_
      refine hK18 ?_
      refine WC.cond rfl (fun c19 => ?_) (fun c19 => ?_)
      ·
        replace c19 := of_decide_eq_true c19
        refine WC.seq fun K20 hK20 => ?_
        refine WC.region ?_
        refine WL.val (dx_move rfl rfl) rfl rfl ?_
        refine WL.val (dx_move rfl rfl) rfl rfl ?_
        refine WL.val (dx_slH i rfl ty_slice_22 rfl rfl rfl (by omega)) rfl rfl ?_
        refine WL.val (dx_move rfl rfl) rfl rfl ?_
        refine WL.val (dx_move rfl rfl) rfl rfl ?_
        refine WL.val (dx_add (r := ((rs.length + vs.length : Nat) : Int)) rfl rfl rfl (by rw [wrap64_id (by omega)]; omega)) rfl rfl ?_
        refine WL.val (dx_move rfl rfl) rfl rfl ?_
        refine WL.val (dx_sub (r := ((rs.length + vs.length - i : Nat) : Int)) rfl rfl rfl (by rw [wrap64_id (by omega)]; omega)) rfl rfl ?_
        refine WL.get (dx_apZ (rs.length + vs.length - i) (R := (rs ++ sp)) rfl ty_ap_22 Tryz.underlying3 rfl rfl rfl hO (by omega) (by omega) (by unfold maxLen; omega) (by omega)) rfl rfl ?_
        rintro _ W1 ⟨Z, rfl, hz1, hz2, kZ, bZ, zZ⟩
        have nB : B ≠ w.heap.size := Nat.ne_of_lt hO.lt
        have nC : C ≠ w.heap.size := Nat.ne_of_lt hV.lt
        replace hO := hO.below bZ
        replace hV := hV.below bZ
        replace hB := hB.thenB bZ
        replace hL := LL.more hL zZ
        have hz3 : Z.take i = rs.take i := (by rw [hz2]; exact List.take_append_of_le_length hi)
        have ez : i + (rs.length + vs.length - i) = rs.length + vs.length := (by omega)
        rw [ez] at hz1
        refine WL.val (dx_assign rfl rfl) rfl rfl ?_
        refine WL.nil ?_
        refine hK20 ?_
        refine WC.seq fun K21 hK21 => ?_
        refine WC.region ?_
        refine WL.val (dx_move rfl rfl) rfl rfl ?_
        refine WL.val (dx_move rfl rfl) rfl rfl ?_
        refine WL.val (dx_slL i rfl ty_slice_22 rfl rfl rfl (by omega) (by omega)) rfl rfl ?_
        refine WL.val (dx_move rfl rfl) rfl rfl ?_
        refine WL.get (dx_cpV (B := w.heap.size) (R := Z) (news := vs) (lo := i) (n := (i + (rs.length + vs.length - i) - i)) rfl ty_slice_22 rfl (fun hn => by rw [offV_in (n := (i + (rs.length + vs.length - i) - i)) hn (by omega)]; simp) rfl kZ (hV.rd (L := []) (by simp)) (fun r hr => hvone r (List.mem_of_mem_take hr)) (by omega)) rfl rfl ?_
        rintro _ W22 ⟨rfl, k23, o24⟩
        replace hB := hB.only o24 (.inr (Nat.le_refl _))
        replace hL := LL.only hL o24
        replace hO := hO.other o24 nB
        replace hV := hV.other o24 nC
        rw [List.take_of_length_le (l := vs) (by omega), show min vs.length (i + (rs.length + vs.length - i) - i) = vs.length by omega] at k23
        have l3 : (Z.take i ++ (vs ++ Z.drop (i + vs.length))).length = Z.length := (by simp; omega)
        have hg := ins_grow (vs := vs) hi hz1 hz3
        simp only at hg
        refine WL.nil ?_
        refine hK21 ?_
        refine WC.seq fun K25 hK25 => ?_
        refine WC.drawM 8 [(some 46, .is (.slice (some ⟨w.heap.size, 0, none⟩) (i + (rs.length + vs.length - i)) Z.length)), (some 47, .is (.int .i64 (i : Int))), (some 48, .is (.int .i64 (vs.length : Int))), (some 49, .is (.int .i64 ((i + vs.length : Nat) : Int))), (some 50, .is (.slice (some ⟨w.heap.size, (offV Z.length (i + vs.length) 0 10), none⟩) ((i + (rs.length + vs.length - i)) - (i + vs.length)) (Z.length - (i + vs.length)))), (some 51, .is (.slice (some ⟨B, 0, none⟩) rs.length ((rs ++ sp).length))), (some 52, .is (.int .i64 (i : Int))), (some 53, .is (.slice (some ⟨B, (offV ((rs ++ sp).length) i 0 10), none⟩) (rs.length - i) ((rs ++ sp).length - i)))] [[], [], [], [1, 2], [0, 3], [], [], [5, 6]] (by kernel_rfl) (by kernel_rfl) (by kernel_rfl) (by kernel_rfl) (by kernel_rfl) (by kernel_rfl) (by kernel_rfl) (by exact trivial) ?_ ?_
        ·
          refine DSteps.cons (fun Wd hd => ?_) ?_
          ·
            exact DV.dr (dx_move rfl rfl) ⟨Below.refl _ _, rfl⟩
          refine DSteps.cons (fun Wd hd => ?_) ?_
          ·
            exact DV.dr (dx_move rfl rfl) ⟨Below.refl _ _, rfl⟩
          refine DSteps.cons (fun Wd hd => ?_) ?_
          ·
            exact DV.dr (dx_move rfl rfl) ⟨Below.refl _ _, rfl⟩
          refine DSteps.cons (fun Wd hd => ?_) ?_
          ·
            exact DV.dr (dx_add (r := ((i + vs.length : Nat) : Int)) rfl rfl rfl (by rw [wrap64_id (by omega)]; omega)) ⟨Below.refl _ _, rfl⟩
          refine DSteps.cons (fun Wd hd => ?_) ?_
          ·
            exact DV.dr (dx_slL (i + vs.length) rfl ty_slice_22 rfl rfl rfl (by omega) (by omega)) ⟨Below.refl _ _, rfl⟩
          refine DSteps.cons (fun Wd hd => ?_) ?_
          ·
            exact DV.dr (dx_move rfl rfl) ⟨Below.refl _ _, rfl⟩
          refine DSteps.cons (fun Wd hd => ?_) ?_
          ·
            exact DV.dr (dx_move rfl rfl) ⟨Below.refl _ _, rfl⟩
          refine DSteps.cons (fun Wd hd => ?_) ?_
          ·
            exact DV.dr (dx_slL i rfl ty_slice_22 rfl rfl rfl (by omega) (by omega)) ⟨Below.refl _ _, rfl⟩
          exact trivial
        ·
          intro W26 b27
          replace hO := hO.below b27
          replace hV := hV.below b27
          replace k23 := k23.below b27
          replace hB := hB.thenB b27
          replace hL := LL.below hL b27
          refine WL.get (dx_cpV (B := w.heap.size) (R := (Z.take i ++ (vs ++ Z.drop (i + vs.length)))) (news := (((rs ++ sp).drop i).take (rs.length - i))) (lo := (i + vs.length)) (n := (i + (rs.length + vs.length - i) - (i + vs.length))) rfl ty_slice_22 rfl (fun hn => by rw [offV_in (n := (i + (rs.length + vs.length - i) - (i + vs.length))) hn (by omega)]; simp) rfl k23 (hO.part (L := []) (lo := i) (n := rs.length - i) (by simp) (fun hn => by rw [offV_in (n := rs.length - i) hn (by rw [hlen]; omega)]; simp) (by rw [hlen]; omega) (by rw [hlen]; omega)) (fun r hr => hone r (mem_tail hi (List.mem_of_mem_take hr))) (by omega)) rfl rfl ?_
          rintro _ W28 ⟨rfl, k29, o30⟩
          replace hB := hB.only o30 (.inr (Nat.le_refl _))
          replace hL := LL.only hL o30
          replace hO := hO.other o30 nB
          replace hV := hV.other o30 nC
          rw [show ((rs ++ sp).drop i).take (rs.length - i) = rs.drop i from del_tail hi] at k29
          rw [List.take_of_length_le (l := rs.drop i) (by rw [List.length_drop]; omega), List.length_drop, show min (rs.length - i) (i + (rs.length + vs.length - i) - (i + vs.length)) = rs.length - i by omega, hg] at k29
          have hown := k29.own
          refine WL.nil ?_
          refine hK25 ?_
          refine WC.seq fun K31 hK31 => ?_
          refine WC.region ?_
          refine WL.val (dx_move rfl rfl) rfl rfl ?_
          refine WL.val (dx_assign rfl rfl) rfl rfl ?_
          refine WL.nil ?_
          refine hK31 ?_
          refine WC.ret fun a_ ha_ => ?_
          exact hQ (cw_ret1 rfl (.tmp rfl) ⟨w.heap.size, ins_own_eq hown hi ez.symm (by simp; omega), .inr (Nat.le_refl _)⟩ hB ha_)
      ·
        replace c19 := of_decide_eq_false c19
        refine WC.skip ?_
        refine hK17 ?_
        refine WC.seq fun K32 hK32 => ?_
        refine WC.region ?_
        refine WL.val (dx_move rfl rfl) rfl rfl ?_
        refine WL.val (dx_move rfl rfl) rfl rfl ?_
        refine WL.val (dx_move rfl rfl) rfl rfl ?_
        refine WL.val (dx_add (r := ((rs.length + vs.length : Nat) : Int)) rfl rfl rfl (by rw [wrap64_id (by omega)]; omega)) rfl rfl ?_
        refine WL.val (dx_slH (rs.length + vs.length) rfl ty_slice_22 rfl rfl rfl (by omega)) rfl rfl ?_
        refine WL.val (dx_assign rfl rfl) rfl rfl ?_
        refine WL.nil ?_
        refine hK32 ?_
        refine WC.seq fun K33 hK33 => ?_
        refine WC.seq fun K34 hK34 => ?_
        refine WC.region ?_
        refine WL.val (dx_move rfl rfl) rfl rfl ?_
        refine WL.val (dx_move rfl rfl) rfl rfl ?_
        refine WL.val (dx_move rfl rfl) rfl rfl ?_
        refine WL.val (dx_move rfl rfl) rfl rfl ?_
        refine WL.val (dx_add (r := ((i + vs.length : Nat) : Int)) rfl rfl rfl (by rw [wrap64_id (by omega)]; omega)) rfl rfl ?_
        refine WL.val (dx_slL (i + vs.length) rfl ty_slice_22 rfl rfl rfl (by omega) (by omega)) rfl rfl ?_
        refine WL.val (dx_ovl (U := (rs ++ sp)) (V := (vs ++ vp)) (s := 10) (tR := 4) rfl Tryz.func41 (by kernel_rfl) (by kernel_rfl) (by kernel_rfl) (by kernel_rfl) ty_slice_22 rfl rfl hV hO hCB (by intro e; rw [e] at hlen; simp only [List.length_nil] at hlen; omega)) rfl rfl ?_
        refine WL.val (dx_not rfl rfl) rfl rfl ?_
        refine WL.nil ?_
        refine hK34 ?_
        refine WC.condT rfl ?_
        refine WC.seq fun K35 hK35 => ?_
        refine WC.drawM 8 [(some 69, .is (.slice (some ⟨B, 0, none⟩) (rs.length + vs.length) ((rs ++ sp).length))), (some 70, .is (.int .i64 (i : Int))), (some 71, .is (.int .i64 (vs.length : Int))), (some 72, .is (.int .i64 ((i + vs.length : Nat) : Int))), (some 73, .is (.slice (some ⟨B, (offV ((rs ++ sp).length) (i + vs.length) 0 10), none⟩) ((rs.length + vs.length) - (i + vs.length)) ((rs ++ sp).length - (i + vs.length)))), (some 74, .is (.slice (some ⟨B, 0, none⟩) (rs.length + vs.length) ((rs ++ sp).length))), (some 75, .is (.int .i64 (i : Int))), (some 76, .is (.slice (some ⟨B, (offV ((rs ++ sp).length) i 0 10), none⟩) ((rs.length + vs.length) - i) ((rs ++ sp).length - i)))] [[], [], [], [1, 2], [0, 3], [], [], [5, 6]] (by kernel_rfl) (by kernel_rfl) (by kernel_rfl) (by kernel_rfl) (by kernel_rfl) (by kernel_rfl) (by kernel_rfl) (by exact trivial) ?_ ?_
        ·
          refine DSteps.cons (fun Wd hd => ?_) ?_
          ·
            exact DV.dr (dx_move rfl rfl) ⟨Below.refl _ _, rfl⟩
          refine DSteps.cons (fun Wd hd => ?_) ?_
          ·
            exact DV.dr (dx_move rfl rfl) ⟨Below.refl _ _, rfl⟩
          refine DSteps.cons (fun Wd hd => ?_) ?_
          ·
            exact DV.dr (dx_move rfl rfl) ⟨Below.refl _ _, rfl⟩
          refine DSteps.cons (fun Wd hd => ?_) ?_
          ·
            exact DV.dr (dx_add (r := ((i + vs.length : Nat) : Int)) rfl rfl rfl (by rw [wrap64_id (by omega)]; omega)) ⟨Below.refl _ _, rfl⟩
          refine DSteps.cons (fun Wd hd => ?_) ?_
          ·
            exact DV.dr (dx_slL (i + vs.length) rfl ty_slice_22 rfl rfl rfl (by omega) (by omega)) ⟨Below.refl _ _, rfl⟩
          refine DSteps.cons (fun Wd hd => ?_) ?_
          ·
            exact DV.dr (dx_move rfl rfl) ⟨Below.refl _ _, rfl⟩
          refine DSteps.cons (fun Wd hd => ?_) ?_
          ·
            exact DV.dr (dx_move rfl rfl) ⟨Below.refl _ _, rfl⟩
          refine DSteps.cons (fun Wd hd => ?_) ?_
          ·
            exact DV.dr (dx_slL i rfl ty_slice_22 rfl rfl rfl (by omega) (by omega)) ⟨Below.refl _ _, rfl⟩
          exact trivial
        ·
          intro W36 b37
          replace hO := hO.below b37
          replace hV := hV.below b37
          replace hB := hB.thenB b37
          replace hL := LL.below hL b37
          refine WL.get (dx_cpV (B := B) (R := (rs ++ sp)) (news := (((rs ++ sp).drop i).take (rs.length + vs.length - i))) (lo := (i + vs.length)) (n := (rs.length + vs.length - (i + vs.length))) rfl ty_slice_22 rfl (fun hn => by rw [offV_in (n := (rs.length + vs.length - (i + vs.length))) hn (by omega)]; simp) rfl hO (hO.part (L := []) (lo := i) (n := rs.length + vs.length - i) (by simp) (fun hn => by rw [offV_in (n := rs.length + vs.length - i) hn (by omega)]; simp) (by omega) (by omega)) (fun r hr => hone r (mem_tail2 hi (by omega) (by omega) hr)) (by omega)) rfl rfl ?_
          rintro _ W38 ⟨rfl, k39, o40⟩
          replace hB := hB.only o40 (.inl rfl)
          replace hL := LL.only hL o40
          replace hV := hV.other o40 hCB
          have ll : (((rs ++ sp).drop i).take (rs.length + vs.length - i)).length = rs.length + vs.length - i := (by rw [List.length_take, List.length_drop]; omega)
          rw [ll, show min (rs.length + vs.length - i) (rs.length + vs.length - (i + vs.length)) = rs.length - i by omega, show rs.length + vs.length - (i + vs.length) = rs.length - i by omega] at k39
          have l3 : ((rs ++ sp).take (i + vs.length) ++ ((((rs ++ sp).drop i).take (rs.length + vs.length - i)).take (rs.length - i) ++ (rs ++ sp).drop (i + vs.length + (rs.length - i)))).length = (rs ++ sp).length := (by simp; omega)
          have hg := ins_room (vs := vs) (sp := sp) hi (by omega)
          simp only at hg
          refine WL.nil ?_
          refine hK35 ?_
          refine WC.seq fun K41 hK41 => ?_
          refine WC.region ?_
          refine WL.val (dx_move rfl rfl) rfl rfl ?_
          refine WL.val (dx_move rfl rfl) rfl rfl ?_
          refine WL.val (dx_slL i rfl ty_slice_22 rfl rfl rfl (by omega) (by omega)) rfl rfl ?_
          refine WL.val (dx_move rfl rfl) rfl rfl ?_
          refine WL.get (dx_cpV (B := B) (R := ((rs ++ sp).take (i + vs.length) ++ ((((rs ++ sp).drop i).take (rs.length + vs.length - i)).take (rs.length - i) ++ (rs ++ sp).drop (i + vs.length + (rs.length - i))))) (news := vs) (lo := i) (n := (rs.length + vs.length - i)) rfl ty_slice_22 rfl (fun hn => by rw [offV_in (n := (rs.length + vs.length - i)) hn (by omega)]; simp) rfl k39 (hV.rd (L := []) (by simp)) (fun r hr => hvone r (List.mem_of_mem_take hr)) (by omega)) rfl rfl ?_
          rintro _ W42 ⟨rfl, k43, o44⟩
          replace hB := hB.only o44 (.inl rfl)
          replace hL := LL.only hL o44
          replace hV := hV.other o44 hCB
          rw [List.take_of_length_le (l := vs) (by omega), show min vs.length (rs.length + vs.length - i) = vs.length by omega, hg] at k43
          have hown := k43.own
          refine WL.nil ?_
          refine hK41 ?_
          refine WC.seq fun K45 hK45 => ?_
          refine WC.region ?_
          refine WL.val (dx_move rfl rfl) rfl rfl ?_
          refine WL.val (dx_assign rfl rfl) rfl rfl ?_
          refine WL.nil ?_
          refine hK45 ?_
          refine WC.ret fun a_ ha_ => ?_
          exact hQ (cw_ret1 rfl (.tmp rfl) ⟨B, ins_own_eq hown hi rfl (by simp; omega), .inl rfl⟩ hB ha_)

set_option maxHeartbeats 1000000 in
theorem insertNSession_v (vs vp : List (List Value)) (C : Nat) (w : World) (L : List Nat) (hL : LL L w)   (hV : RwB 10 w C (vs ++ vp)) (hvs : vs ≠ []) (hsm : vs.length * 112 ≤ 140737488355328) : CV Tryz.prog 35 [.slice none 0 0, .int .i64 0, .slice (some ⟨C, 0, none⟩) vs.length ((vs ++ vp).length)] w fun v W => ∃ B, w.heap.size ≤ B ∧ OwS 10 W v vs B := by
  refine cv_enter (N := 95) (f := [(0, .slice none 0 0), (1, .int .i64 0), (2, .slice (some ⟨C, 0, none⟩) vs.length ((vs ++ vp).length))]) Tryz.func35 rfl rfl rfl rfl fun Q hQ hE => ?_
  have hB := Below.refl w.heap.size w
  have hm0 := List.length_pos_iff.2 hvs
  refine WC.seq fun K1 hK1 => ?_
  refine WC.region ?_
  refine WL.val (dx_assign rfl rfl) rfl rfl ?_
  refine WL.nil ?_
  refine hK1 ?_
  refine WC.seq fun K2 hK2 => ?_
  refine WC.region ?_
  refine WL.val (dx_move rfl rfl) rfl rfl ?_
  refine WL.val (dx_move rfl rfl) rfl rfl ?_
  refine WL.val (dx_slN rfl ty_slice_22 rfl rfl) rfl rfl ?_
  refine WL.nil ?_
  refine hK2 ?_
  refine WC.seq fun K3 hK3 => ?_
  refine WC.region ?_
  refine WL.val (dx_move rfl rfl) rfl rfl ?_
  refine WL.val (dx_len rfl Tryz.underlying22 rfl) rfl rfl ?_
  refine WL.val (dx_assign rfl rfl) rfl rfl ?_
  refine WL.nil ?_
  refine hK3 ?_
  refine WC.seq fun K4 hK4 => ?_
  refine WC.seq fun K5 hK5 => ?_
  refine WC.region ?_
  refine WL.val (dx_move rfl rfl) rfl rfl ?_
  refine WL.val (dx_eql rfl rfl rfl) rfl rfl ?_
  refine WL.nil ?_
  refine hK5 ?_
  refine WC.cond rfl (fun c6 => ?_) (fun c6 => ?_)
  ·
    replace c6 := of_decide_eq_true c6
    exfalso; omega
  ·
    replace c6 := of_decide_eq_false c6
    refine WC.skip ?_
    refine hK4 ?_
    refine WC.seq fun K7 hK7 => ?_
    refine WC.region ?_
    refine WL.val (dx_move rfl rfl) rfl rfl ?_
    refine WL.val (dx_len rfl Tryz.underlying22 rfl) rfl rfl ?_
    refine WL.val (dx_assign rfl rfl) rfl rfl ?_
    refine WL.nil ?_
    refine hK7 ?_
    refine WC.seq fun K8 hK8 => ?_
    refine WC.seq fun K9 hK9 => ?_
    refine WC.region ?_
    refine WL.val (dx_move rfl rfl) rfl rfl ?_
    refine WL.val (dx_move rfl rfl) rfl rfl ?_
    refine WL.val (dx_eql rfl rfl rfl) rfl rfl ?_
    refine WL.nil ?_
    refine hK9 ?_
    refine WC.cond rfl (fun c10 => ?_) (fun c10 => ?_)
    ·
      replace c10 := of_decide_eq_true c10
      refine WC.seq fun K11 hK11 => ?_
      refine WC.region ?_
      refine WL.val (dx_move rfl rfl) rfl rfl ?_
      refine WL.val (dx_move rfl rfl) rfl rfl ?_
      refine WL.get (dx_apF (rs := []) (news := vs) rfl ty_ap_22 rfl rfl (RdF.nil (L := []) (by decide)) (hV.rd (L := []) (by simp)) hvs (by simp; unfold maxLen; omega) (by simp; omega)) rfl rfl ?_
      rintro u16 W12 ⟨k13, b14, z15⟩
      replace hB := below_then hB b14
      refine WL.val (dx_assign rfl rfl) rfl rfl ?_
      refine WL.nil ?_
      refine hK11 ?_
      refine WC.ret fun a_ ha_ => ?_
      exact hQ (cv_ret1 rfl (.tmp rfl) ⟨w.heap.size, Nat.le_refl _, k13⟩ hB ha_)
    ·
      replace c10 := of_decide_eq_false c10
      exact absurd rfl c10

end Go.Proofs.YthllidchoodofaaGreatDoor
namespace Go.Proofs.YthllidchoodofaaGreatDoor
open Go.RowKit
set_option linter.unusedVariables false
set_option linter.unusedSimpArgs false
/-- Nil, or new since the base: a block of its own. -/
def NewS (s base : Nat) (rs : List (List Value)) (u : Value) (w : World) : Prop := (u = .slice none 0 0 ∧ rs = [] ∧ 0 < s) ∨ ∃ B sp, base ≤ B ∧ u = .slice (some ⟨B, 0, none⟩) rs.length (rs ++ sp).length ∧ RwB s w B (rs ++ sp) ∧ (rs = [] → sp = [])
theorem NewS.below {s base : Nat} {rs : List (List Value)} {u : Value} {w w' : World} (h : NewS s base rs u w) (hb : Below w.heap.size w w') : NewS s base rs u w' := by
  rcases h with h | ⟨B, sp, h1, h2, h3, h4⟩
  · exact .inl h
  · exact .inr ⟨B, sp, h1, h2, h3.below hb, h4⟩
theorem NewS.le {s base n : Nat} {rs : List (List Value)} {u : Value} {w : World} (h : NewS s base rs u w) (hn : n ≤ base) : NewS s n rs u w := by
  rcases h with h | ⟨B, sp, h1, h2⟩
  · exact .inl h
  · exact .inr ⟨B, sp, Nat.le_trans hn h1, h2⟩
theorem NewS.of_own {s base B : Nat} {rs : List (List Value)} {u : Value} {w : World} (h : OwS s w u rs B) (hb : base ≤ B) (hn : rs ≠ []) : NewS s base rs u w := by
  obtain ⟨sp, h1, h2⟩ := h.open
  exact .inr ⟨B, sp, hb, h1, h2, fun e => absurd e hn⟩
theorem NewS.of_lit {s base : Nat} {u : Value} {w : World} (h : NewE s base u w) : NewS s base [] u w := by
  obtain ⟨B, hb, rfl, ho⟩ := h
  obtain ⟨sp, h1, h2⟩ := ho.open
  have e : sp = [] := by
    have := congrArg (fun v : Value => match v with | .slice _ _ c => c | _ => 0) h1
    simp at this
    exact List.length_eq_zero_iff.1 this.symm
  subst e
  exact .inr ⟨B, [], hb, rfl, h2, fun _ => rfl⟩
theorem NewS.rd {s base : Nat} {rs : List (List Value)} {u : Value} {w : World} (h : NewS s base rs u w) {L : List Nat} (hL : ∀ x ∈ L, x < base) : RdF s L w u rs := by
  rcases h with ⟨rfl, rfl, h0⟩ | ⟨B, sp, h1, rfl, h3, h4⟩
  · exact RdF.nil h0
  · exact h3.rd (fun hx => by have := hL B hx; omega)
theorem rwb_ne {s : Nat} {w : World} {B C : Nat} {rs sp vp : List (List Value)} {row : List Value} (h : RwB s w B (rs ++ sp)) (hc : RwB s w C (row :: vp)) (he : rs = [] → sp = []) (hn : ∀ r ∈ rs, r ≠ row) : C ≠ B := fun e => by
  subst e
  obtain ⟨h0, hr, _, t, hb⟩ := h
  obtain ⟨_, hr', _, t', hb'⟩ := hc
  rw [hb] at hb'
  have e1 : (rs ++ sp).flatten = (row :: vp).flatten := by
    have := (Obj.cells.inj (Option.some.inj hb')).1
    simpa using this
  cases rs with
  | nil =>
    rw [he rfl] at e1
    have := congrArg List.length e1
    rw [List.flatten_cons, List.length_append, hr' row (.head _)] at this
    simp at this
    omega
  | cons r rs =>
    refine hn r (.head _) ?_
    rw [List.cons_append, List.flatten_cons, List.flatten_cons] at e1
    exact (List.append_inj e1 (by rw [hr r (.head _), hr' row (.head _)])).1
theorem Chg.from_base {B base : Nat} {w w' : World} (h : Chg B w w') (hB : base ≤ B) (hs : base ≤ w.heap.size) : Below base w w' := ⟨h.os, h.tape, h.output, h.size, fun k hk => h.block k (by omega) (by omega)⟩
section
variable {P : Program} {ops : Array Oper} {o : Oper} {N : Nat} {f : Fl} {w : World} {R : Value → World → Prop}
/-- An append to a literal of nothing. -/
theorem dx_apN {t s bytes base : Nat} {x y : Operand} {u v2 : Value} {news : List (List Value)} {L : List Nat} (ho : o.op = .call { callee := .builtin .append, args := #[x, y], argTypes := #[t, t] }) (ht : apB P t s bytes = true) (hx : ev f x = some u) (hy : ev f y = some v2)
    (h : NewE s base u w) (h2 : RdF s L w v2 news) (h1 : ∀ r ∈ news, ∀ u ∈ r, u.oneCell' = true) (hm : news.length ≤ maxLen) (hby : news.length * bytes ≤ 140737488355328) (hb : base ≤ w.heap.size) (hw : wantF ops o f = some true := by rfl) : DR P ops o N f w fun u W => Below w.heap.size w W ∧ NewS s base news u W := fun a ha => by
  by_cases hn : news = []
  · subst hn
    obtain ⟨e, q, Z, hu, hi, hz, rfl, rfl, hzs⟩ := of_apB ht
    have hx := ha.ev hx
    have hy := ha.ev hy
    have hN := NewS.of_lit h
    obtain ⟨B, hB, rfl, ho'⟩ := h
    obtain ⟨_, hl2, a2, cap2, rfl, hd1, hd2, hd3, hd4⟩ := h2
    have hr0 : (Builtin.append_ #[t, t] o.type #[.slice (some ⟨B, 0, none⟩) 0 0, .slice a2 0 cap2]).run P w = .ok (.slice (some ⟨B, 0, none⟩) 0 0) w := by
      cases a2 with
      | none => simp [Builtin.append_, run_underlying hu, sizeOf, typeInfo, hi, Builtin.lenOf, Builtin.firstCells, storeCells]
      | some a2 => simp [Builtin.append_, run_underlying hu, sizeOf, typeInfo, hi, Builtin.lenOf, Builtin.firstCells, loadCells, loadCellsFrom, storeCells]
    refine Does.of_wp (wantF_of ha hw) fun K hK => ?_
    unfold Oper.wp execOp
    simp only [List.length_nil] at hy
    simp only [ho, resolve, invoke, builtin, Sem.run_bind, Sem.run_pure, Result.andThen_ok, List.map_toArray, List.map_cons, List.map_nil, hx, hy, hr0]
    exact hK _ _ ⟨Below.refl _ _, hN⟩
  · exact Does.mono (dx_apE ho ht hx hy h h2 hm hby hb hw a ha) fun v W ⟨hb', B, hB, hO⟩ => ⟨hb', NewS.of_own hO hB hn⟩
/-- A call, by what it gives. -/
theorem dx_callA {F : FuncId} {fn : Func} {xs : List Operand} {ts : Array TypeId} {vs : List Value} (ho : o.op = .call { callee := .value (.func F), args := xs.toArray, argTypes := ts }) (hf : P.funcs[F]? = some fn) (hn : (fn.name == "runtime.NumGoroutine") = false) (hb : fn.body.isNone = false)
    (hx : evl f xs = some vs) (hc : Calls P F vs.toArray w fun e w' => ∃ v, e = .returned v ∧ R v w') (hw : wantF ops o f = some true := by rfl) : DR P ops o N f w R :=
  dx_call (cap := #[]) ho rfl hf hn hb hx (by rw [Array.append_empty]; exact hc) hw
end
/-- What was there at a base is as it was, behind what changed only what is newer. -/
theorem Below.then_base {base : Nat} {w0 w w' : World} (h : Below base w0 w) (k : Below base w w') : Below base w0 w' := h.trans k
end Go.Proofs.YthllidchoodofaaGreatDoor
namespace Go.Proofs.YthllidchoodofaaGreatDoor
open Go.RowKit
set_option linter.unusedVariables false
theorem bl_irrefl : ∀ x : List UInt8, Op.bytesLess x x = false
  | [] => rfl
  | a :: x => by
    have h : ¬ a < a := by simp
    rw [Op.bytesLess, bl_irrefl x, decide_eq_false h]; simp
theorem u8_tri (a b : UInt8) : a < b ∨ a = b ∨ b < a := by
  rcases Nat.lt_trichotomy a.toNat b.toNat with h | h | h
  · exact .inl (UInt8.lt_iff_toNat_lt.2 h)
  · exact .inr (.inl (UInt8.toNat_inj.1 h))
  · exact .inr (.inr (UInt8.lt_iff_toNat_lt.2 h))
theorem u8_no {a b : UInt8} (h : a < b) : ¬ b < a ∧ a ≠ b := by
  have := UInt8.lt_iff_toNat_lt.1 h
  constructor
  · intro g; have := UInt8.lt_iff_toNat_lt.1 g; omega
  · intro g; rw [g] at this; omega
theorem bl_tri : ∀ x y : List UInt8, (Op.bytesLess x y = true ∧ Op.bytesLess y x = false ∧ x ≠ y) ∨ (Op.bytesLess x y = false ∧ Op.bytesLess y x = true ∧ x ≠ y) ∨ x = y
  | [], [] => .inr (.inr rfl)
  | [], _ :: _ => .inl ⟨rfl, rfl, by simp⟩
  | _ :: _, [] => .inr (.inl ⟨rfl, rfl, by simp⟩)
  | a :: x, b :: y => by
    rcases u8_tri a b with h | h | h
    · obtain ⟨h1, h2⟩ := u8_no h
      exact .inl ⟨by simp [Op.bytesLess, h], by simp [Op.bytesLess, h1]; exact fun e => absurd e.symm h2, fun e => h2 (List.cons.inj e).1⟩
    · subst h
      have h0 : ¬ a < a := by simp
      rcases bl_tri x y with ⟨p, q, r⟩ | ⟨p, q, r⟩ | r
      · exact .inl ⟨by simp [Op.bytesLess, p], by simp [Op.bytesLess, h0, q], fun e => r (List.cons.inj e).2⟩
      · exact .inr (.inl ⟨by simp [Op.bytesLess, h0, p], by simp [Op.bytesLess, q], fun e => r (List.cons.inj e).2⟩)
      · exact .inr (.inr (by rw [r]))
    · obtain ⟨h1, h2⟩ := u8_no h
      exact .inr (.inl ⟨by simp [Op.bytesLess, h1]; exact fun e => absurd e.symm h2, by simp [Op.bytesLess, h], fun e => h2 (List.cons.inj e).1.symm⟩)
theorem bl_trans : ∀ x y z : List UInt8, Op.bytesLess x y = true → Op.bytesLess y z = true → Op.bytesLess x z = true
  | [], [], _, h, _ => by simp [Op.bytesLess] at h
  | _ :: _, [], _, h, _ => by simp [Op.bytesLess] at h
  | [], _ :: _, [], _, g => by simp [Op.bytesLess] at g
  | _ :: _, _ :: _, [], _, g => by simp [Op.bytesLess] at g
  | [], _ :: _, _ :: _, _, _ => rfl
  | a :: x, b :: y, c :: z, h, g => by
    have h' : a < b ∨ (a = b ∧ Op.bytesLess x y = true) := by simpa [Op.bytesLess] using h
    have g' : b < c ∨ (b = c ∧ Op.bytesLess y z = true) := by simpa [Op.bytesLess] using g
    have : a < c ∨ (a = c ∧ Op.bytesLess x z = true) := by
      rcases h' with h' | ⟨rfl, h'⟩
      · rcases g' with g' | ⟨rfl, g'⟩
        · exact .inl (UInt8.lt_iff_toNat_lt.2 (by have := UInt8.lt_iff_toNat_lt.1 h'; have := UInt8.lt_iff_toNat_lt.1 g'; omega))
        · exact .inl h'
      · rcases g' with g' | ⟨rfl, g'⟩
        · exact .inl g'
        · exact .inr ⟨rfl, bl_trans x y z h' g'⟩
    simpa [Op.bytesLess] using this
theorem toList_inj {a b : ByteArray} (h : a.toList = b.toList) : a = b := by
  rw [ByteArray.toList_eq, ByteArray.toList_eq] at h
  exact ByteArray.ext (Array.toList_inj.mp h)
theorem sless_irrefl (a : ByteArray) : sless a a = false := bl_irrefl _
theorem sless_trans (a b c : ByteArray) (h : sless a b = true) (g : sless b c = true) : sless a c = true := bl_trans _ _ _ h g
theorem sless_tri (a b : ByteArray) : (sless a b = true ∧ sless b a = false ∧ a ≠ b) ∨ (sless a b = false ∧ sless b a = true ∧ a ≠ b) ∨ a = b := by
  rcases bl_tri a.toList b.toList with ⟨p, q, r⟩ | ⟨p, q, r⟩ | r
  · exact .inl ⟨p, q, fun e => r (by rw [e])⟩
  · exact .inr (.inl ⟨p, q, fun e => r (by rw [e])⟩)
  · exact .inr (.inr (toList_inj r))
theorem sless_ne {a b : ByteArray} (h : sless a b = true) : a ≠ b := fun e => by rw [e, sless_irrefl] at h; cases h
theorem sless_asymm {a b : ByteArray} (h : sless a b = true) : sless b a = false := by
  rcases sless_tri a b with ⟨_, q, _⟩ | ⟨p, _, _⟩ | rfl
  · exact q
  · rw [p] at h; cases h
  · rw [sless_irrefl] at h; cases h
end Go.Proofs.YthllidchoodofaaGreatDoor
namespace Go.Proofs.YthllidchoodofaaGreatDoor
open Go.RowKit Go.Sort
set_option linter.unusedVariables false
set_option linter.unusedSimpArgs false
-- the order of lists of bytes
theorem bl_lt : ∀ x y : List UInt8, Op.bytesLess x y = decide (x < y)
  | _, [] => by cases ‹List UInt8› <;> simp [Op.bytesLess]
  | [], _ :: _ => by simp [Op.bytesLess]
  | a :: x, b :: y => by
    rw [Op.bytesLess, bl_lt x y]
    rcases u8_tri a b with h | h | h
    · simp [h, List.cons_lt_cons_iff]
    · subst h
      simp [List.cons_lt_cons_iff]
    · obtain ⟨h1, h2⟩ := u8_no h
      have h3 : ¬ a = b := fun e => h2 e.symm
      simp [h1, h3, List.cons_lt_cons_iff]
theorem bl_le (x y : List UInt8) : decide (x ≤ y) = !Op.bytesLess y x := by
  rw [bl_lt]
  by_cases h : y < x
  · simp [h, List.not_le.2 h]
  · simp [h, List.not_lt.1 h]
abbrev bL (s : ByteArray) : List UInt8 := s.data.toList
abbrev bA (l : List UInt8) : ByteArray := ⟨l.toArray⟩
theorem bA_bL (s : ByteArray) : bA (bL s) = s := rfl
/-- Sorted; each once. -/
def sortT (ts : List ByteArray) : List ByteArray := ((ts.map bL).mergeSort fun x y => decide (x ≤ y)).map bA
def onceT (ts : List ByteArray) : List ByteArray := (Lib.compact (ts.map bL)).map bA
theorem bL_bA (l : List UInt8) : bL (bA l) = l := rfl
theorem sless_bA (x y : List UInt8) : sless (bA x) (bA y) = Op.bytesLess x y := by
  unfold sless
  rw [ByteArray.toList_eq, ByteArray.toList_eq]
theorem sortT_len (ts : List ByteArray) : (sortT ts).length = ts.length := by simp [sortT, List.length_mergeSort]
theorem sortT_mem (ts : List ByteArray) (s : ByteArray) : s ∈ sortT ts ↔ s ∈ ts := by
  unfold sortT
  simp only [List.mem_map, List.mem_mergeSort]
  constructor
  · rintro ⟨l, ⟨t, ht, rfl⟩, rfl⟩
    exact ht
  · exact fun h => ⟨_, ⟨s, h, rfl⟩, rfl⟩
theorem sortT_le (ts : List ByteArray) : (sortT ts).Pairwise fun a b => sless b a = false := by
  unfold sortT
  rw [List.pairwise_map]
  have h := List.pairwise_mergeSort (le := fun x y : List UInt8 => decide (x ≤ y)) (fun a b c h1 h2 => ?_) (fun a b => ?_) (ts.map bL)
  · refine h.imp fun {a b} hab => ?_
    rw [sless_bA]
    rw [bl_le] at hab
    simpa using hab
  · simp only [bl_le, Bool.not_eq_true'] at h1 h2 ⊢
    rcases bl_tri c a with ⟨p, _, _⟩ | ⟨p, _, _⟩ | rfl
    · rcases bl_tri b a with ⟨q, _, _⟩ | ⟨_, q, _⟩ | rfl
      · rw [q] at h1; cases h1
      · rw [bl_trans _ _ _ p q] at h2; cases h2
      · rw [p] at h2; cases h2
    · exact p
    · exact bl_irrefl _
  · simp only [bl_le, Bool.or_eq_true, Bool.not_eq_true']
    rcases bl_tri a b with ⟨_, p, _⟩ | ⟨p, _, _⟩ | rfl
    · exact .inl p
    · exact .inr p
    · exact .inl (bl_irrefl _)
theorem once_mem (zs : List (List UInt8)) (x : List UInt8) : x ∈ Lib.compact zs ↔ x ∈ zs := by
  unfold Lib.compact Lib.compactUpTo
  simp only [List.mem_map, List.mem_filter, List.mem_range]
  constructor
  · rintro ⟨j, ⟨hj, _⟩, rfl⟩
    rw [getElem!_pos zs.toArray j (by simpa using hj)]
    exact List.getElem_mem _
  · intro hx
    obtain ⟨k, hk, rfl⟩ := List.getElem_of_mem hx
    have key : ∀ n k (hk : k < zs.length), k ≤ n → ∃ j, (j < zs.length ∧ Lib.keeps zs.toArray j = true) ∧ zs.toArray[j]! = zs[k] := by
      intro n
      induction n with
      | zero =>
        intro k hk hn
        obtain rfl : k = 0 := by omega
        exact ⟨0, ⟨hk, by simp [Lib.keeps]⟩, by rw [getElem!_pos zs.toArray 0 (by simpa using hk)]; rfl⟩
      | succ n ih =>
        intro k hk hn
        by_cases hq : Lib.keeps zs.toArray k = true
        · exact ⟨k, ⟨hk, hq⟩, by rw [getElem!_pos zs.toArray k (by simpa using hk)]; rfl⟩
        · have h1 : ¬ (k = 0 ∨ zs.toArray[k]! ≠ zs.toArray[k - 1]!) := fun h => hq (by unfold Lib.keeps; exact decide_eq_true h)
          have h2 : k ≠ 0 := fun e => h1 (.inl e)
          have h3 : zs.toArray[k]! = zs.toArray[k - 1]! := Classical.byContradiction fun e => h1 (.inr e)
          obtain ⟨j, hj, e⟩ := ih (k - 1) (by omega) (by omega)
          refine ⟨j, hj, ?_⟩
          rw [getElem!_pos zs.toArray k (by simpa using hk), getElem!_pos zs.toArray (k - 1) (by simp; omega)] at h3
          rw [e]
          simpa using h3.symm
    exact key k k hk (Nat.le_refl _)
theorem onceT_mem (ts : List ByteArray) (s : ByteArray) : s ∈ onceT ts ↔ s ∈ ts := by
  unfold onceT
  simp only [List.mem_map, once_mem]
  constructor
  · rintro ⟨l, ⟨t, ht, rfl⟩, rfl⟩
    exact ht
  · exact fun h => ⟨_, ⟨s, h, rfl⟩, rfl⟩
theorem onceT_up {ts : List ByteArray} (h : ts.Pairwise fun a b => sless b a = false) : (onceT ts).Pairwise fun a b => sless a b = true := by
  unfold onceT Lib.compact Lib.compactUpTo
  rw [List.map_map, List.pairwise_map]
  refine List.Pairwise.imp_of_mem ?_ (List.Pairwise.filter _ List.pairwise_lt_range)
  intro i j hi hj hij
  simp only [List.mem_filter, List.mem_range, List.length_map] at hi hj
  have gi : (ts.map bL).toArray[i]! = bL ts[i] := by rw [getElem!_pos _ i (by simpa using hi.1)]; simp
  have gj : (ts.map bL).toArray[j]! = bL ts[j] := by rw [getElem!_pos _ j (by simpa using hj.1)]; simp
  have gp : (ts.map bL).toArray[j - 1]! = bL (ts[j - 1]'(by omega)) := by rw [getElem!_pos _ (j - 1) (by simp; omega)]; simp
  have hk := of_decide_eq_true hj.2
  rw [gj, gp] at hk
  have hne : ts[j] ≠ ts[j - 1]'(by omega) := by
    rcases hk with hk | hk
    · omega
    · exact fun e => hk (by rw [e])
  have h1 := List.pairwise_iff_getElem.1 h (j - 1) j (by omega) hj.1 (by omega)
  show sless (bA (ts.map bL).toArray[i]!) (bA (ts.map bL).toArray[j]!) = true
  rw [gi, gj]
  show sless ts[i] ts[j] = true
  have h2 : sless (ts[j - 1]'(by omega)) ts[j] = true := by
    rcases sless_tri (ts[j - 1]'(by omega)) ts[j] with ⟨p, _, _⟩ | ⟨_, p, _⟩ | p
    · exact p
    · rw [p] at h1; cases h1
    · exact absurd p.symm hne
  by_cases hij' : i = j - 1
  · subst hij'; exact h2
  · have h3 := List.pairwise_iff_getElem.1 h i (j - 1) hi.1 (by omega) (by omega)
    rcases sless_tri ts[i] (ts[j - 1]'(by omega)) with ⟨p, _, _⟩ | ⟨_, p, _⟩ | p
    · exact sless_trans _ _ _ p h2
    · rw [p] at h3; cases h3
    · rw [p]; exact h2
-- texts of one's own
theorem flat_T {enc : ByteArray → List Value} (he : ∀ s, enc s = [.string s]) : ∀ ts : List ByteArray, (ts.map enc).flatten = (ts.map bL).map encStr
  | [] => rfl
  | a :: l => by rw [List.map_cons, List.flatten_cons, flat_T he l, he]; rfl
theorem OwS.holds {w : World} {v : Value} {ts : List ByteArray} {B : Nat} {enc : ByteArray → List Value} (he : ∀ s, enc s = [.string s]) (h : OwS 1 w v (ts.map enc) B) : ∃ cap cur t, v = .slice (some ⟨B, 0, none⟩) (ts.map bL).length cap ∧ ts.length ≤ cap ∧ cap ≤ maxLen ∧ w.heap[B]? = some (.cells cur t (0, 0)) ∧ cur.size = cap ∧ Holds encStr w B 0 (ts.map bL).toArray := by
  obtain ⟨_, hr, cap, sp, rfl, h1, h2, h3, t, hb⟩ := h
  simp only [List.length_map, Nat.mul_one] at h1 h3
  rw [flat_T he] at hb
  refine ⟨cap, _, t, by simp, h1, h2, hb, by simp; omega, fun j hj => ?_⟩
  have hj' : j < ts.length := by simpa using hj
  refine ⟨?_, by simp [World.frozen?, hb]⟩
  refine (Blk.range ⟨t, hb⟩) j _ ?_
  rw [List.getElem?_append_left (by simpa using hj'), getElem!_pos _ j hj]
  simp [hj']
theorem ows_cur {w : World} {B n cap : Nat} {t : TypeId} {cur : Array Value} {ts : List ByteArray} {enc : ByteArray → List Value} (he : ∀ s, enc s = [.string s]) (hb : w.heap[B]? = some (.cells cur t (0, 0))) (hs : cur.size = cap) (hn : n ≤ cap) (hc : cap ≤ maxLen) (ht : cur.toList.take n = (ts.map bL).map encStr) (hl : ts.length = n) : OwS 1 w (.slice (some ⟨B, 0, none⟩) n cap) (ts.map enc) B := by
  refine ⟨by decide, fun r hr => ?_, cap, cur.toList.drop n, by rw [List.length_map, hl], by rw [List.length_map, hl]; exact hn, hc, by rw [List.length_drop, Array.length_toList, hs, List.length_map, hl, Nat.mul_one], t, ?_⟩
  · obtain ⟨s, _, rfl⟩ := List.mem_map.1 hr
    rw [he]; rfl
  · rw [flat_T he, ← ht, List.take_append_drop]
    exact hb
theorem sort_own {P : Program} {F : FuncId} {enc : ByteArray → List Value} (he : ∀ s, enc s = [.string s]) (hS : ∀ (blk off cap : Nat) (ss : List (List UInt8)) (w : World), Holds encStr w blk off ss.toArray → blk < w.heap.size → ss.length < 4611686018427387904 → Calls P F #[.slice (some ⟨blk, off, none⟩) ss.length cap] w fun e w' => e = .returned (.tuple #[]) ∧ ∃ n os, w' = grow (putRow encStr (Sort.ahead w n) blk off (ss.mergeSort fun x y => decide (x ≤ y)).toArray) os)
    {w : World} {v : Value} {ts : List ByteArray} {B : Nat} (h : OwS 1 w v (ts.map enc) B) (hlen : ts.length ≤ 1000000) : Calls P F [v].toArray w fun e w' => ∃ x, e = .returned x ∧ x = .tuple #[] ∧ OwS 1 w' v ((sortT ts).map enc) B ∧ Chg B w w' := by
  have hlt := h.lt
  obtain ⟨cap, cur, t, rfl, h1, h2, h3, h4, h5⟩ := h.holds he
  refine (hS B 0 cap (ts.map bL) w h5 hlt (by simp; omega)).mono ?_
  rintro e w' ⟨rfl, n, os, rfl⟩
  have hg := grownBy_sorted (w := w) (g := B) (n := n) (os := os) ((ts.map bL).mergeSort fun x y => decide (x ≤ y)).toArray
  refine ⟨_, rfl, rfl, ?_, hg.os, hg.tape, hg.output, hg.size, fun k hk hne => hg.block k hk (by simpa using hne)⟩
  refine ows_cur he (heap_sorted _ h3) (by simp [putCells, h4]) (by simpa using h1) h2 ?_ (by simp [sortT_len])
  have hl : ((ts.map bL).mergeSort fun x y => decide (x ≤ y)).length = (ts.map bL).length := List.length_mergeSort _
  have := take_putCells cur ((ts.map bL).mergeSort fun x y => decide (x ≤ y)) (by rw [hl, List.length_map]; omega)
  rw [hl] at this
  rw [this]
  simp [sortT, Function.comp_def]
theorem once_own {P : Program} {F : FuncId} {enc : ByteArray → List Value} (he : ∀ s, enc s = [.string s]) (hS : ∀ (blk off cap : Nat) (zs : List (List UInt8)) (w : World), Holds encStr w blk off zs.toArray → zs.length ≤ 9223372036854775807 → zs.length ≤ cap → Calls P F #[.slice (some ⟨blk, off, none⟩) zs.length cap] w fun e w' => e = .returned (.slice (some ⟨blk, off, none⟩) (Lib.compact zs).length cap) ∧ ∃ q, w' = putRow encStr (Sort.ahead w q) blk off (Lib.compact zs ++ List.replicate (zs.length - (Lib.compact zs).length) []).toArray)
    {w : World} {v : Value} {ts : List ByteArray} {B : Nat} (h : OwS 1 w v (ts.map enc) B) (hlen : ts.length ≤ 1000000) : Calls P F [v].toArray w fun e w' => ∃ x, e = .returned x ∧ OwS 1 w' x ((onceT ts).map enc) B ∧ Chg B w w' := by
  have hlt := h.lt
  obtain ⟨cap, cur, t, rfl, h1, h2, h3, h4, h5⟩ := h.holds he
  have hle := Lib.compact_length_le (ts.map bL)
  rw [List.length_map] at hle
  refine (hS B 0 cap (ts.map bL) w h5 (by simp; omega) (by simpa using h1)).mono ?_
  rintro e w' ⟨rfl, q, rfl⟩
  refine ⟨_, rfl, ?_, ⟨rfl, rfl, rfl, by simp [putRow, mapBlock, Sort.ahead], fun k hk hne => ?_⟩⟩
  · have hb : (putRow encStr (Sort.ahead w q) B 0 (Lib.compact (ts.map bL) ++ List.replicate ((ts.map bL).length - (Lib.compact (ts.map bL)).length) []).toArray).heap[B]? = some (.cells (putCells encStr 0 (Lib.compact (ts.map bL) ++ List.replicate ((ts.map bL).length - (Lib.compact (ts.map bL)).length) []).toArray cur) t (0, 0)) := by
      simp [putRow, mapBlock, Sort.ahead, Array.getElem?_modify, h3, onCells]
    refine ows_cur he hb (by simp [putCells, h4]) (by omega) h2 ?_ (by simp [onceT])
    have hl : (Lib.compact (ts.map bL) ++ List.replicate ((ts.map bL).length - (Lib.compact (ts.map bL)).length) []).length = ts.length := by simp; omega
    have := take_putCells cur (Lib.compact (ts.map bL) ++ List.replicate ((ts.map bL).length - (Lib.compact (ts.map bL)).length) []) (by omega)
    rw [hl] at this
    have h6 : ∀ l : List Value, (l.take ts.length).take (Lib.compact (ts.map bL)).length = l.take (Lib.compact (ts.map bL)).length := fun l => by rw [List.take_take]; congr 1; omega
    rw [← h6, this, List.map_append, List.take_append_of_le_length (by simp), List.take_of_length_le (by simp)]
    simp [onceT, Function.comp_def]
  · simp [putRow, mapBlock, Sort.ahead, Array.getElem?_modify, Ne.symm hne]
/-- Nil, or a slice of one's own that is new since the base. -/
def NewW (s base : Nat) (rs : List (List Value)) (u : Value) (w : World) : Prop := (u = .slice none 0 0 ∧ rs = [] ∧ 0 < s) ∨ ∃ B, base ≤ B ∧ OwS s w u rs B
theorem NewW.below {s base : Nat} {rs : List (List Value)} {u : Value} {w w' : World} (h : NewW s base rs u w) (hb : Below w.heap.size w w') : NewW s base rs u w' := by
  rcases h with h | ⟨B, h1, h2⟩
  · exact .inl h
  · exact .inr ⟨B, h1, h2.below hb⟩
theorem NewW.le {s base n : Nat} {rs : List (List Value)} {u : Value} {w : World} (h : NewW s base rs u w) (hn : n ≤ base) : NewW s n rs u w := by
  rcases h with h | ⟨B, h1, h2⟩
  · exact .inl h
  · exact .inr ⟨B, Nat.le_trans hn h1, h2⟩
theorem NewW.rd {s base : Nat} {rs : List (List Value)} {u : Value} {w : World} (h : NewW s base rs u w) {L : List Nat} (hL : ∀ x ∈ L, x < base) : RdF s L w u rs := by
  rcases h with ⟨rfl, rfl, h0⟩ | ⟨B, h1, h2⟩
  · exact RdF.nil h0
  · exact h2.rd (fun hx => by have := hL B hx; omega)
theorem NewS.own {s base : Nat} {rs : List (List Value)} {u : Value} {w : World} (h : NewS s base rs u w) (hn : rs ≠ []) : ∃ B, base ≤ B ∧ OwS s w u rs B := by
  rcases h with ⟨_, h, _⟩ | ⟨B, sp, h1, rfl, h3, _⟩
  · exact absurd h hn
  · exact ⟨B, h1, h3.own⟩
theorem GrowB.from_base {B B' base : Nat} {w w' : World} (h : GrowB B B' w w') (hB : base ≤ B) (hs : base ≤ w.heap.size) : Below base w w' := ⟨h.os, h.tape, h.output, h.size, fun k hk => h.block k (by omega) (by omega)⟩
theorem sort_new {P : Program} {F : FuncId} {enc : ByteArray → List Value} (he : ∀ s, enc s = [.string s]) (hS : ∀ (blk off cap : Nat) (ss : List (List UInt8)) (w : World), Holds encStr w blk off ss.toArray → blk < w.heap.size → ss.length < 4611686018427387904 → Calls P F #[.slice (some ⟨blk, off, none⟩) ss.length cap] w fun e w' => e = .returned (.tuple #[]) ∧ ∃ n os, w' = grow (putRow encStr (Sort.ahead w n) blk off (ss.mergeSort fun x y => decide (x ≤ y)).toArray) os)
    (hN : ∀ (p : Option Addr) (cap : Nat) (w : World), Calls P F #[.slice p 0 cap] w fun e w' => e = .returned (.tuple #[]) ∧ w' = w)
    {w : World} {v : Value} {ts : List ByteArray} {base : Nat} (h : NewW 1 base (ts.map enc) v w) (hb : base ≤ w.heap.size) (hlen : ts.length ≤ 1000000) : Calls P F [v].toArray w fun e w' => ∃ x, e = .returned x ∧ NewW 1 base ((sortT ts).map enc) v w' ∧ Below base w w' := by
  rcases h with ⟨rfl, h, _⟩ | ⟨B, h1, h2⟩
  · have ht : ts = [] := by simpa using h
    subst ht
    exact (hN none 0 w).mono fun e w' ⟨h1, h2⟩ => ⟨_, h1, .inl ⟨rfl, by simp [sortT], by decide⟩, by rw [h2]; exact Below.refl _ _⟩
  · exact (sort_own he hS h2 hlen).mono fun e w' ⟨x, h3, _, h4, h5⟩ => ⟨x, h3, .inr ⟨B, h1, h4⟩, h5.from_base h1 hb⟩
theorem once_new {P : Program} {F : FuncId} {enc : ByteArray → List Value} (he : ∀ s, enc s = [.string s]) (hS : ∀ (blk off cap : Nat) (zs : List (List UInt8)) (w : World), Holds encStr w blk off zs.toArray → zs.length ≤ 9223372036854775807 → zs.length ≤ cap → Calls P F #[.slice (some ⟨blk, off, none⟩) zs.length cap] w fun e w' => e = .returned (.slice (some ⟨blk, off, none⟩) (Lib.compact zs).length cap) ∧ ∃ q, w' = putRow encStr (Sort.ahead w q) blk off (Lib.compact zs ++ List.replicate (zs.length - (Lib.compact zs).length) []).toArray)
    (hN : ∀ (p : Option Addr) (cap : Nat) (w : World), Calls P F #[.slice p 0 cap] w fun e w' => e = .returned (.slice p 0 cap) ∧ w' = w)
    {w : World} {v : Value} {ts : List ByteArray} {base : Nat} (h : NewW 1 base (ts.map enc) v w) (hb : base ≤ w.heap.size) (hlen : ts.length ≤ 1000000) : Calls P F [v].toArray w fun e w' => ∃ x, e = .returned x ∧ NewW 1 base ((onceT ts).map enc) x w' ∧ Below base w w' := by
  rcases h with ⟨rfl, h, _⟩ | ⟨B, h1, h2⟩
  · have ht : ts = [] := by simpa using h
    subst ht
    exact (hN none 0 w).mono fun e w' ⟨h1, h2⟩ => ⟨_, h1, .inl ⟨rfl, by simp [onceT, Lib.compact, Lib.compactUpTo], by decide⟩, by rw [h2]; exact Below.refl _ _⟩
  · exact (once_own he hS h2 hlen).mono fun e w' ⟨x, h3, h4, h5⟩ => ⟨x, h3, .inr ⟨B, h1, h4⟩, h5.from_base h1 hb⟩
section
variable {P : Program} {ops : Array Oper} {o : Oper} {N : Nat} {f : Fl} {w : World} {R : Value → World → Prop}
/-- A slice of two that is written out, of elements of one cell. -/
theorem dx_lit2 {t bytes : Nat} {x y : Operand} {V U : Value} (ho : o.op = .buildSlice t 2 #[(0, x), (1, y)]) (ht : apB P t 1 bytes = true) (hx : ev f x = some V) (hy : ev f y = some U) (hV : V.cells.toList = [V]) (hU : U.cells.toList = [U]) (hw : wantF ops o f = some true := by rfl) : DR P ops o N f w (NewO 1 w [[V], [U]]) := by
  have hV : V.cells = #[V] := Array.ext' hV
  have hU : U.cells = #[U] := Array.ext' hU
  obtain ⟨e, i, Z, hu, hi, hZ, hs, rfl, hzs⟩ := of_apB ht
  refine dx_lit (ps := [(0, V), (1, U)]) (rs := [[V], [U]]) ho hu hi hZ hs (by decide) (by simp [evl, hx, hy]) (by omega) ?_ (by simp) rfl (by unfold maxLen; omega) hw
  rw [if_neg (by decide)]
  have hl : ∀ c : Array Value, c.size = 2 → Instr.fill (fun k => some (k * 1, 1)) c [(0, V), (1, U)] = some #[V, U] := fun c hc => by
    obtain ⟨l⟩ := c
    match l, hc with
    | [a, b], _ => simp [Instr.fill, hV, hU]
  exact hl _ (by simp)
/-- A cell of an element of a slice of one's own, stored. -/
theorem dx_storeF {t s B k j o0 : Nat} {x y : Operand} {V v : Value} {rs : List (List Value)} {r : List Value} (ho : o.op = .store t x y) (ht : sizeB P t 1 = true) (hx : ev f x = some (.pointer (some ⟨B, o0, none⟩))) (hy : ev f y = some V) (hv : V.cells.toList = [V]) (h1 : V.oneCell' = true)
    (hr : OwS s w v rs B) (hk : k * s + j = o0) (hi : rs[k]? = some r) (hj : j < s) (hw : wantF ops o f = some true := by rfl) : DR P ops o N f w fun _ W => OwS s W v (rs.set k (r.set j V)) B ∧ Only B w W := by
  obtain ⟨h0, hrl, cap, sp, rfl, h2, h3, h4, h5⟩ := hr
  obtain ⟨hkl, hrk⟩ := List.getElem?_eq_some_iff.1 hi
  have hl : r.length = s := hrl r (List.mem_of_getElem? hi)
  have hlen : (k + 1) * s ≤ rs.flatten.length := by rw [flat_len hrl]; exact Nat.mul_le_mul_right _ hkl
  rw [Nat.succ_mul] at hlen
  have hf := flat_set hrl (r' := r.set j V) (by rw [List.length_set]; exact hl) hkl sp
  refine (dx_store (cs' := (rs.set k (r.set j V)).flatten ++ sp) (vs := [V]) ho ht hx hy hv (oc_cons h1 oc_nil) h5 rfl (by rw [List.length_append]; omega) ?_ hw).mono fun _ W h => ⟨⟨h0, fun r' hr' => ?_, cap, sp, by rw [List.length_set], by rw [List.length_set]; exact h2, h3, by rw [List.length_set]; exact h4, h.1⟩, h.2⟩
  · rw [← hf, ← hk]
    have hd : (rs.flatten ++ sp).drop (k * s) = r ++ (rs.flatten ++ sp).drop (k * s + s) := by
      have e1 : (rs.flatten ++ sp).drop (k * s) = ((rs.flatten ++ sp).drop (k * s)).take s ++ ((rs.flatten ++ sp).drop (k * s)).drop s := (List.take_append_drop _ _).symm
      have e2 : ((rs.flatten ++ sp).drop (k * s)).take s = r := by
        rw [List.drop_append_of_le_length (by omega), List.take_append_of_le_length (by rw [List.length_drop]; omega)]
        exact flat_row hrl hi
      rw [e1, e2, List.drop_drop]
    have hrs : r.set j V = r.take j ++ ([V] ++ r.drop (j + 1)) := by rw [List.set_eq_take_append_cons_drop, if_pos (by omega)]; rfl
    have e3 : (rs.flatten ++ sp).take (k * s + j) = (rs.flatten ++ sp).take (k * s) ++ r.take j := by
      rw [List.take_add, hd]
      congr 1
      exact List.take_append_of_le_length (by omega)
    have e4 : (rs.flatten ++ sp).drop (k * s + j + 1) = r.drop (j + 1) ++ (rs.flatten ++ sp).drop (k * s + s) := by
      rw [show k * s + j + 1 = k * s + (j + 1) by omega, ← List.drop_drop, hd, List.drop_append_of_le_length (by omega)]
    rw [e3, e4, hrs]
    simp [List.append_assoc]
  · rcases List.mem_or_eq_of_mem_set hr' with h | h
    · exact hrl r' h
    · rw [h, List.length_set]; exact hl
/-- An append to what is new. -/
theorem dx_apW {t s bytes base : Nat} {x y : Operand} {u v2 : Value} {rs news : List (List Value)} {L : List Nat} (ho : o.op = .call { callee := .builtin .append, args := #[x, y], argTypes := #[t, t] }) (ht : apB P t s bytes = true) (hx : ev f x = some u) (hy : ev f y = some v2)
    (h : NewW s base rs u w) (h2 : RdF s L w v2 news) (h1 : ∀ r ∈ news, ∀ u ∈ r, u.oneCell' = true) (hm : rs.length + news.length ≤ maxLen) (hby : (rs.length + news.length) * bytes ≤ 140737488355328) (hb : base ≤ w.heap.size) (hw : wantF ops o f = some true := by rfl) : DR P ops o N f w fun u' W => NewW s base (rs ++ news) u' W ∧ Below base w W := fun a ha => by
  rcases h with ⟨rfl, rfl, h0⟩ | ⟨B, hB, hO⟩
  · by_cases hn : news = []
    · subst hn
      obtain ⟨e, q, Z, hu, hi, hz, rfl, rfl, hzs⟩ := of_apB ht
      have hx := ha.ev hx
      have hy := ha.ev hy
      obtain ⟨_, hl2, a2, cap2, rfl, hd1, hd2, hd3, hd4⟩ := h2
      have hr0 : (Builtin.append_ #[t, t] o.type #[.slice none 0 0, .slice a2 0 cap2]).run P w = .ok (.slice none 0 0) w := by
        cases a2 with
        | none => simp [Builtin.append_, run_underlying hu, sizeOf, typeInfo, hi, Builtin.lenOf, Builtin.firstCells, storeCells]
        | some a2 => simp [Builtin.append_, run_underlying hu, sizeOf, typeInfo, hi, Builtin.lenOf, Builtin.firstCells, loadCells, loadCellsFrom, storeCells]
      refine Does.of_wp (wantF_of ha hw) fun K hK => ?_
      unfold Oper.wp execOp
      simp only [List.length_nil] at hy
      simp only [ho, resolve, invoke, builtin, Sem.run_bind, Sem.run_pure, Result.andThen_ok, List.map_toArray, List.map_cons, List.map_nil, hx, hy, hr0]
      exact hK _ _ ⟨.inl ⟨rfl, rfl, h0⟩, Below.refl _ _⟩
    · refine Does.mono (dx_apF (rs := []) ho ht hx hy (RdF.nil (L := L) h0) h2 hn hm hby hw a ha) fun v W ⟨k1, k2, k3⟩ => ⟨.inr ⟨_, hb, k1⟩, k2.mono hb⟩
  · exact Does.mono (dx_apO' ho ht hx hy hO h2 h1 hm hby hw a ha) fun v W ⟨B', k1, k2⟩ => ⟨.inr ⟨B', k2.le hB hb, k1⟩, k2.from_base hB hb⟩
/-- nil[:0] and nil[0:0]. -/
theorem dx_slNH {t s : Nat} {x y : Operand} {K : IntKind} (ho : o.op = .slice t x none (some y) none) (ht : sliceB P t s = true) (hx : ev f x = some (.slice none 0 0)) (hy : ev f y = some (.int K 0)) (hw : wantF ops o f = some true := by rfl) : DV P ops o N f w (.slice none 0 0) := fun a ha => by
  obtain ⟨e, hu, hs⟩ := of_sliceB ht
  have hx := ha.ev hx
  have hy := ha.ev hy
  cases hi : P.info? e with
  | none => rw [hi] at hs; cases hs
  | some q =>
    refine Does.pure (wantF_of ha hw) _ ?_ ⟨rfl, rfl⟩
    unfold execOp
    simp only [ho, Option.map_none, Option.map_some, hx, hy, Instr.sliceAt, Sem.run_bind, run_underlying hu, Result.andThen_ok, Instr.slice, Instr.sliceBounds, Instr.sliceBound, asIntOf, Sem.run_pure, sizeOf, typeInfo, run_program, hi]
    rw [if_pos (by decide)]
    exact rfl
/-- An append of zeros to nil: room for so many. -/
theorem dx_apZ0 {t tn s bytes : Nat} {K kn : IntKind} {x y : Operand} {j : Int} (m : Nat) (ho : o.op = .call { callee := .builtin .append, args := #[x, y], argTypes := #[t, tn] }) (ht : apB P t s bytes = true) (htn : P.underlying tn = some (.int kn)) (hs : 0 < s) (hx : ev f x = some (.slice none 0 0)) (hy : ev f y = some (.int K j)) (hj : j = (m : Int)) (hm0 : 0 < m) (hm : m ≤ 1000000) (hby : m * bytes ≤ 140737488355328) (hw : wantF ops o f = some true := by rfl) :
    DR P ops o N f w fun u W => ∃ c, u = .slice (some ⟨w.heap.size, 0, none⟩) m c ∧ m ≤ c ∧ OwS s W (.slice (some ⟨w.heap.size, 0, none⟩) 0 c) [] w.heap.size ∧ Below w.heap.size w W ∧ w.heap.size < W.heap.size := fun a ha => by
  subst hj
  obtain ⟨e, q, Z, hu, hi', hz, rfl, rfl, hzs⟩ := of_apB ht
  have hx := ha.ev hx
  have hy := ha.ev hy
  have hrun := Lib.run_append_nil_zeros (P := P) w t tn o.type e q Z K kn hu htn hi' hz m hm0 hs (by omega) (by omega)
  have hge : m ≤ grownCap w m 0 e := by have := grownCap_ge w m 0 e; omega
  refine Does.of_wp (wantF_of ha hw) fun K hK => ?_
  unfold Oper.wp execOp
  simp only [ho, resolve, invoke, builtin, Sem.run_bind, Sem.run_pure, Result.andThen_ok, List.map_toArray, List.map_cons, List.map_nil, hx, hy, hrun]
  refine hK _ _ ⟨_, rfl, hge, ⟨hs, by simp, grownCap w m 0 e, (Builtin.zeroCells Z.cells m ++ Builtin.zeroCells Z.cells (grownCap w m 0 e - m)).toList, by simp, by simp, grownCap_le_maxLen _ _ _ _ (by unfold maxLen; omega), ?_, e, ?_⟩, below_alloc (below_draws (Below.refl _ _) 1) _, ?_⟩
  · rw [Array.length_toList, Array.size_append, size_zeroCells, size_zeroCells, hzs, ← Nat.add_mul, List.length_nil, Nat.sub_zero]
    congr 1
    omega
  · rw [show w.heap.size = w.drew.heap.size from (World.size_drew w).symm, heap_alloc_new]
    simp
  · rw [World.size_alloc, World.size_drew]
    omega
end
end Go.Proofs.YthllidchoodofaaGreatDoor
namespace Go.Proofs.YthllidchoodofaaGreatDoor
open Go.RowKit
set_option linter.unusedVariables false
set_option linter.unusedSimpArgs false
/-- The steps, of which the one with number s is bound by rel alone. -/
def DStepsW (P : Program) (ops : Array Oper) (N : Nat) (w0 : World) (sd : List (Option Tmp × VS)) (dl : List (List Nat)) (f : Fl) (s : Nat) (rel : World → World → Prop) : Nat → List Oper → Prop
  | _, [] => True
  | k, o :: l => (∀ W, Below w0.heap.size w0 W → DStep P ops o N W sd (fun v W' => (if k = s then rel W W' else Below W.heap.size W W') ∧ okAt sd k v W') ((dl[k]?).getD []) f) ∧ DStepsW P ops N w0 sd dl f s rel (k + 1) l
section
variable {P : Program} {N : Nat} {sd : List (Option Tmp × VS)} {dl : List (List Nat)}
theorem DStepsW.cons {ops : Array Oper} {w0 : World} {f : Fl} {k s : Nat} {rel : World → World → Prop} {o : Oper} {l : List Oper} (hk : k ≠ s) (h : ∀ W, Below w0.heap.size w0 W → DStep P ops o N W sd (fun v W' => Below W.heap.size W W' ∧ okAt sd k v W') ((dl[k]?).getD []) f) (hl : DStepsW P ops N w0 sd dl f s rel (k + 1) l) : DStepsW P ops N w0 sd dl f s rel k (o :: l) := ⟨by simp only [if_neg hk]; exact h, hl⟩
theorem DStepsW.hit {ops : Array Oper} {w0 : World} {f : Fl} {s : Nat} {rel : World → World → Prop} {o : Oper} {l : List Oper} (h : ∀ W, Below w0.heap.size w0 W → DStep P ops o N W sd (fun v W' => rel W W' ∧ okAt sd s v W') ((dl[s]?).getD []) f) (hl : DStepsW P ops N w0 sd dl f s rel (s + 1) l) : DStepsW P ops N w0 sd dl f s rel s (o :: l) := ⟨by simp only [if_true]; exact h, hl⟩
theorem monoR_set {rel : World → World → Prop} {s : Nat} {x : Option Tmp × VS} (h : VS.monoR rel (sd.set s x)) {j : Nat} (hj : j ≠ s) {d : Option Tmp} {p : Value → World → Prop} (hp : sd[j]? = some (d, .by p)) : ∀ u W W', rel W W' → p u W → p u W' :=
  monoR_at h (j := j) (d := d) (by rw [List.getElem?_set_ne (fun e => hj e.symm)]; exact hp)
/-- The rule. -/
theorem WC.drawW {id : Nat} {f : Fl} {w : World} {Q : Exit → Act → World → Prop} (m s : Nat) (rel : World → World → Prop) {ops : List Oper} (sd : List (Option Tmp × VS)) (dl : List (List Nat)) (hm : P.follows .mixedOrders = true) (hb : ordB .any ops.toArray = true) (hbp : ordB .any (ops.take m).toArray = true) (ht : tailB .any ops.toArray (ops.take m).length = true) (hdl : (ops.take m).map (depsOf .any) = dl)
    (hds : (ops.take m).map (·.dst) = sd.map (·.1)) (hN : inN N sd = true) (hmono : VS.mono sd) (hrel : VS.monoR rel (sd.set s (none, .is undef))) (hbr : ∀ W W', Below w.heap.size w W → rel W W' → Below w.heap.size w W') (hst : DStepsW P (ops.take m).toArray N w sd dl f s rel 0 (ops.take m))
    (hend : ∀ W, Below w.heap.size w W → DEnd (fun f W => WL P ops.toArray Q N (ops.drop m) f W) W sd f) : WC P N (.region id ops.toArray true) Q f w := fun a ha => by
  obtain ⟨pre, hpre⟩ : ∃ pre, pre = ops.take m := ⟨_, rfl⟩
  obtain ⟨suf, hsuf⟩ : ∃ suf, suf = ops.drop m := ⟨_, rfl⟩
  have hops : pre ++ suf = ops := by rw [hpre, hsuf]; exact List.take_append_drop m ops
  rw [← hpre] at hbp ht hdl hds hst
  rw [← hsuf] at hend
  clear hpre hsuf
  subst hops
  have hlen : dl.length = sd.length := by rw [← hdl, List.length_map, ← List.length_map (f := (·.dst)), hds, List.length_map]
  have hpl : pre.length = dl.length := by rw [← hdl, List.length_map]
  refine wp_region_any hm ?_
  have hrep : Array.replicate (pre ++ suf).toArray.size false = Array.replicate pre.toArray.size false ++ Array.replicate suf.length false := by
    simp [Array.replicate_append_replicate]
  rw [hrep]
  have hsz : (pre ++ suf).toArray.size = pre.toArray.size + suf.length := by simp
  rw [hsz]
  refine pre_tail (pre := pre.toArray) (suf := suf) hb hbp (by simp) (by simpa using ht) pre.toArray.size _ (by simp) (fun j hj => by simp [Array.getD_eq_getD_getElem?, Array.getElem?_replicate] at hj; split at hj <;> simp_all) a w.drew ?_
  have hda : ∀ j, depsAt .any pre.toArray j = (dl[j]?).getD [] := by
    intro j
    subst hdl
    simp only [depsAt, List.getElem?_map, List.getElem?_toArray]
  have hF0 : ∀ j, (Array.replicate pre.toArray.size false).getD j false = true → False := fun j hj => by simp [Array.getD_eq_getD_getElem?, Array.getElem?_replicate] at hj; split at hj <;> simp_all
  refine wpAny_facts hbp a (fun _ W => Below w.heap.size w W) (fun j g W => okAt sd j (g j) W) (fun i _ W W' => if i = s then rel W W' else Below W.heap.size W W') ?_ ?_ ?_ pre.toArray.size _ (fun _ => undef) a w.drew (by simp) (by
      have := List.countP_le_length (p := fun b => !b) (l := (Array.replicate pre.toArray.size false).toList)
      simpa using this) (fun j hj => (hF0 j hj).elim) (Agrees.start fun j hj => hF0 j hj) (below_draws (Below.refl _ _) 1) (fun j hj => (hF0 j hj).elim)
  · intro i g W W' j g' hB hne h
    unfold okAt at h ⊢
    cases hs : sd[j]? with
    | none => trivial
    | some p =>
      obtain ⟨d, s'⟩ := p
      rw [hs] at h
      cases s' with
      | is v => exact h
      | «by» p =>
        by_cases hi : i = s
        · rw [if_pos hi] at hB
          exact monoR_set hrel (fun e => hne (e.trans hi.symm)) hs _ W W' hB h
        · rw [if_neg hi] at hB
          exact mono_at hmono hs _ W W' hB h
  · intro i o hoi L g W _ _ hG hd
    have key : ∀ (l : List Oper) (k : Nat), DStepsW P pre.toArray N w sd dl f s rel k l → ∀ j o, l[j]? = some o → ∀ W, Below w.heap.size w W → DStep P pre.toArray o N W sd (fun v W' => (if k + j = s then rel W W' else Below W.heap.size W W') ∧ okAt sd (k + j) v W') ((dl[k + j]?).getD []) f := by
      intro l
      induction l with
      | nil => intro k _ j o h; simp at h
      | cons x l ih =>
        intro k hs j o h
        cases j with
        | zero =>
          simp only [List.getElem?_cons_zero, Option.some.injEq] at h
          subst h
          exact hs.1
        | succ j =>
          have := ih (k + 1) hs.2 j o (by simpa using h)
          rw [show k + (j + 1) = k + 1 + j by omega]
          exact this
    have hk := key pre 0 hst i o (by simpa using hoi) W hG
    rw [Nat.zero_add] at hk
    have hdo : depsOf .any o = (dl[i]?).getD [] := by rw [← hda i, depsAt_eq hoi]
    rw [hdo] at hd ⊢
    rw [putL_eq (ds := sd.map (·.1)) (by simpa using hds)]
    have hH : HypL (fun j g w => okAt sd j (g j) w) dl g W ((dl[i]?).getD []) := HypL.of _ fun j hj => by have := hd j hj; rwa [hda j] at this
    refine (DStep.to hN _ f a hk ha hH).mono fun v W' h => ⟨h.1, ?_, ?_⟩
    · by_cases hi : i = s
      · exact hbr _ _ hG (by have := h.1; rwa [if_pos hi] at this)
      · have h1 := h.1
        rw [if_neg hi] at h1
        exact hG.trans (h1.mono hG.size)
    · simp only [restr_self]
      rw [show upd g i v i = v by simp [upd]]
      exact h.2
  · intro L g W hL hG hd
    rw [putL_eq (ds := sd.map (·.1)) (by simpa using hds)]
    have hH : HypL (fun j g w => okAt sd j (g j) w) dl g W (List.range' 0 sd.length) := HypL.of _ fun j hj => by
      have hj' : j < pre.toArray.size := by
        simp [List.mem_range'] at hj
        simp
        omega
      have := hd j hj'
      rwa [hda j] at this
    have hfin := DEnd.to (Q := fun a W => wpList P (pre ++ suf).toArray Q suf a W) hN (fun f h a ha => h a ha) sd 0 f a (by simp) (hend W hG) ha hH
    show wpOps P (pre ++ suf).toArray Q (List.range' pre.toArray.size suf.length) _ _
    rw [wpOps_eq_wpList suf pre.toArray.size (fun j => by simp [List.getElem?_append_right])]
    rw [List.range_eq_range', show pre.toArray.size = sd.length by simp; omega]
    exact hfin
end
/-- Rows read at a base: what is said of another world is nothing. -/
def RdZ (s : Nat) (L : List Nat) (w0 : World) (v : Value) (rs : List (List Value)) (w : World) : Prop := RdF s L w0 v rs
theorem RdZ.below {s : Nat} {L : List Nat} {w0 w w' : World} {v : Value} {rs : List (List Value)} (h : RdZ s L w0 v rs w) (hb : Below w.heap.size w w') : RdZ s L w0 v rs w' := h
/-- New things only, or a write behind the first rows of a block that is new since the base. -/
def KeepR (s base n : Nat) (w w' : World) : Prop := Below w.heap.size w w' ∨ ∃ B R R', base ≤ B ∧ base ≤ w.heap.size ∧ Only B w w' ∧ RwB s w B R ∧ RwB s w' B R' ∧ R.length = R'.length ∧ R.take n = R'.take n ∧ n < R.length ∧ 0 < n
theorem KeepR.base {s base n : Nat} {w0 w w' : World} (h : KeepR s base n w w') (hs : base ≤ w.heap.size) (hb : Below base w0 w) : Below base w0 w' := by
  rcases h with h | ⟨B, R, R', h1, h0, h2, _⟩
  · exact hb.trans (h.mono hs)
  · exact hb.trans ((GrowB.of_only h2).from_base h1 h0)
theorem RdZ.keep {s s' base n : Nat} {L : List Nat} {w0 w w' : World} {v : Value} {rs : List (List Value)} (h : RdZ s L w0 v rs w) (hk : KeepR s' base n w w') : RdZ s L w0 v rs w' := h
theorem rwb_same {s : Nat} {w : World} {B : Nat} {R R' : List (List Value)} (h : RwB s w B R) (h' : RwB s w B R') : R = R' := by
  obtain ⟨h0, hr, h1, t, hb⟩ := h
  obtain ⟨h2, hr', h3, t', hb'⟩ := h'
  rw [hb] at hb'
  have e1 : R.flatten = R'.flatten := by simpa using (Obj.cells.inj (Option.some.inj hb')).1
  clear hb hb' h1 h2 h3
  induction R generalizing R' with
  | nil =>
    cases R' with
    | nil => rfl
    | cons r l =>
      have := congrArg List.length e1
      rw [List.flatten_cons, List.length_append, hr' r (.head _)] at this
      simp at this
      omega
  | cons r l ih =>
    cases R' with
    | nil =>
      have := congrArg List.length e1
      rw [List.flatten_cons, List.length_append, hr r (.head _)] at this
      simp at this
      omega
    | cons r' l' =>
      rw [List.flatten_cons, List.flatten_cons] at e1
      obtain ⟨e2, e3⟩ := List.append_inj e1 (by rw [hr r (.head _), hr' r' (.head _)])
      rw [e2, ih (fun x hx => hr x (.tail _ hx)) (fun x hx => hr' x (.tail _ hx)) e3]
theorem NewS.keep {s base n : Nat} {rs : List (List Value)} {u : Value} {w w' : World} (h : NewS s base rs u w) (hk : KeepR s base n w w') (hn : rs.length ≤ n) : NewS s base rs u w' := by
  rcases hk with hk | ⟨B, R, R', h1, h0, h2, h3, h4, h5, h6, h7, h8⟩
  · exact h.below hk
  · rcases h with h | ⟨C, sp, k1, k2, k3, k4⟩
    · exact .inl h
    · by_cases e : C = B
      · subst e
        obtain rfl := rwb_same k3 h3
        have e2 : R'.take rs.length = rs := by
          have := congrArg (List.take rs.length) h6
          rw [List.take_take, List.take_take, Nat.min_eq_left hn, List.take_append_of_le_length (Nat.le_refl _), List.take_length] at this
          exact this.symm
        refine .inr ⟨C, R'.drop rs.length, k1, ?_, ?_, fun hr => ?_⟩
        · rw [k2, h5]
          congr 1
          rw [← List.take_append_drop rs.length R', e2]
          simp
        · have := List.take_append_drop rs.length R'
          rw [e2] at this
          rw [this]
          exact h4
        · subst hr
          have := k4 rfl
          subst this
          simp at h7
      · exact .inr ⟨C, sp, k1, k2, k3.other h2 e, k4⟩
theorem NewE.keep {s base n : Nat} {u : Value} {w w' : World} (h : NewE s base u w) (hk : KeepR s base n w w') : NewE s base u w' := by
  rcases hk with hk | ⟨B, R, R', h1, h0, h2, h3, h4, h5, h6, h7, h8⟩
  · exact h.below hk
  · obtain ⟨C, k1, rfl, k3⟩ := h
    by_cases e : C = B
    · subst e
      obtain ⟨sp, q1, q2⟩ := k3.open
      have e1 : sp = [] := by
        have := congrArg (fun v : Value => match v with | .slice _ _ c => c | _ => 0) q1
        simp at this
        exact List.length_eq_zero_iff.1 this.symm
      subst e1
      obtain rfl := rwb_same h3 q2
      simp at h7
    · exact ⟨C, k1, rfl, k3.other h2 e⟩
section
variable {P : Program} {ops : Array Oper} {o : Oper} {N : Nat} {f : Fl} {w : World}
/-- An append of one row to what the region has made. -/
theorem dx_apR {t s bytes base : Nat} {x y : Operand} {u v2 : Value} {rs : List (List Value)} {row : List Value} {L : List Nat} (ho : o.op = .call { callee := .builtin .append, args := #[x, y], argTypes := #[t, t] }) (ht : apB P t s bytes = true) (hx : ev f x = some u) (hy : ev f y = some v2)
    (h : NewS s base rs u w) (h2 : RdF s L w v2 [row]) (h1 : ∀ u ∈ row, u.oneCell' = true) (hm : rs.length + 1 ≤ maxLen) (hby : (rs.length + 1) * bytes ≤ 140737488355328) (hb : base ≤ w.heap.size) {n : Nat} (hn : rs.length ≤ n) (hn1 : 0 < rs.length → n = rs.length) (hw : wantF ops o f = some true := by rfl) : DR P ops o N f w fun u' W => KeepR s base n w W ∧ NewW s base (rs ++ [row]) u' W := fun a ha => by
  have hoc : ∀ r ∈ [row], ∀ u ∈ r, u.oneCell' = true := fun r hr => by rw [List.mem_singleton.1 hr]; exact h1
  rcases h with ⟨rfl, rfl, h0⟩ | ⟨B, sp, hB, rfl, hR, h4⟩
  · exact Does.mono (dx_apF (rs := []) ho ht hx hy (RdF.nil (L := L) h0) h2 (by simp) hm hby hw a ha) fun v W ⟨k1, k2, k3⟩ => ⟨.inl k2, .inr ⟨_, hb, k1⟩⟩
  · by_cases hsp : sp = []
    · subst hsp
      have hx' : ev f x = some (.slice (some ⟨B, 0, none⟩) rs.length rs.length) := by rw [hx]; simp
      have hrd : RdF s [] w (.slice (some ⟨B, 0, none⟩) rs.length rs.length) rs := by
        have := hR.rd (L := []) (vs := rs) (sp := []) (by simp)
        simpa using this
      exact Does.mono (dx_apF (rs := rs) (L := []) ho ht hx' hy hrd (h2.less (by simp)) (by simp) hm hby hw a ha) fun v W ⟨k1, k2, k3⟩ => ⟨.inl k2, .inr ⟨_, hb, k1⟩⟩
    · have hrs : rs ≠ [] := fun e => hsp (h4 e)
      have hspl := List.length_pos_iff.2 hsp
      have hrl := List.length_pos_iff.2 hrs
      have hnn := hn1 hrl
      refine Does.mono (dx_apV (m := 1) ho ht hx hy hR h2 hoc rfl (by rw [List.length_append]; omega) hw a ha) fun v W ⟨k1, k2, k3⟩ => ?_
      have et : (rs ++ sp).take rs.length = rs := by rw [List.take_append_of_le_length (Nat.le_refl _), List.take_length]
      have ed : (rs ++ sp).drop (rs.length + 1) = sp.drop 1 := by rw [List.drop_append]; simp
      rw [et, ed] at k2
      have elen : (rs ++ sp).length = (rs ++ ([row] ++ sp.drop 1)).length := by simp; omega
      refine ⟨.inr ⟨B, _, _, hB, hb, k3, hR, k2, elen, by rw [hnn, et, List.take_append_of_le_length (Nat.le_refl _), List.take_length], by rw [List.length_append]; omega, by omega⟩, .inr ⟨B, hB, ?_⟩⟩
      rw [k1, elen, ← List.append_assoc]
      rw [← List.append_assoc] at k2
      have := k2.own
      simpa using this
/-- x[:k] and x[k:] of rows that are read. -/
theorem dx_rdH {t s : Nat} {x y : Operand} {K : IntKind} {v : Value} {rs : List (List Value)} {L : List Nat} {w0 : World} {i : Int} (k : Nat) (ho : o.op = .slice t x none (some y) none) (ht : sliceB P t s = true) (hx : ev f x = some v) (hy : ev f y = some (.int K i)) (hi : i = (k : Int)) (hr : RdF s L w0 v rs) (hk : k ≤ rs.length) (hw : wantF ops o f = some true := by rfl) : DR P ops o N f w fun u W => w = W ∧ RdZ s L w0 u (rs.take k) W := fun a ha => by
  subst hi
  obtain ⟨h0, hl, ad, cap, rfl, h2, h3, h4, h5⟩ := hr
  have htl : (rs.take k).length = k := by rw [List.length_take]; omega
  cases ad with
  | none =>
    have hc := h4 rfl
    subst hc
    have e1 : rs.length = 0 := by omega
    have e2 := List.length_eq_zero_iff.1 e1
    subst e2
    have e3 : k = 0 := by simpa using hk
    subst e3
    exact Does.mono (dx_slNH ho ht hx hy hw a ha) fun u W ⟨q1, q2⟩ => ⟨q2.symm, by rw [q1]; exact RdF.nil h0⟩
  | some b =>
    obtain ⟨B, o0, sp⟩ := b
    have hgo : DV P ops o N f w (.slice (some ⟨B, o0, sp⟩) k cap) := fun a ha => by
      obtain ⟨e, hu, hs⟩ := of_sliceB ht
      have hx := ha.ev hx
      have hy := ha.ev hy
      cases hi : P.info? e with
      | none => rw [hi] at hs; cases hs
      | some q =>
        have hq : q.size = s := by simpa [hi] using hs
        refine Does.pure (wantF_of ha hw) _ ?_ ⟨rfl, rfl⟩
        have h1 : ((k : Int) ≤ (cap : Int)) := by omega
        have h3 : (0 : Int) ≤ (k : Int) := by omega
        unfold execOp
        simp only [ho, Option.map_none, Option.map_some, hx, hy, Instr.sliceAt, Sem.run_bind, run_underlying hu, Result.andThen_ok, Instr.slice, Instr.sliceBounds, Instr.sliceBound, asIntOf, Sem.run_pure, sizeOf, typeInfo, run_program, hi]
        simp [h1, h3, hq, addr_at, Addr.add]
    refine Does.mono (hgo a ha) fun u W ⟨q1, q2⟩ => ⟨q2.symm, ?_⟩
    rw [q1]
    refine ⟨h0, fun r hr => hl r (List.mem_of_mem_take hr), _, cap, by rw [htl], by omega, h3, (fun h => by cases h), fun hne => ?_⟩
    obtain ⟨X, o1, e, hX, hc⟩ := h5 (fun e => hne (by rw [e, List.take_nil]))
    refine ⟨X, o1, e, hX, ?_⟩
    have := range_part hc 0 (k * s)
    rw [Nat.add_zero, List.drop_zero, flat_take k hl] at this
    exact this
theorem dx_rdL {t s : Nat} {x y : Operand} {K : IntKind} {v : Value} {rs : List (List Value)} {L : List Nat} {w0 : World} {i : Int} (l : Nat) (ho : o.op = .slice t x (some y) none none) (ht : sliceB P t s = true) (hx : ev f x = some v) (hy : ev f y = some (.int K i)) (hi : i = (l : Int)) (hr : RdF s L w0 v rs) (hk : l ≤ rs.length) (hw : wantF ops o f = some true := by rfl) : DR P ops o N f w fun u W => w = W ∧ RdZ s L w0 u (rs.drop l) W := fun a ha => by
  subst hi
  obtain ⟨h0, hl, ad, cap, rfl, h2, h3, h4, h5⟩ := hr
  have htl : (rs.drop l).length = rs.length - l := List.length_drop
  cases ad with
  | none =>
    have hc := h4 rfl
    subst hc
    have e1 : rs.length = 0 := by omega
    have e2 := List.length_eq_zero_iff.1 e1
    subst e2
    have e3 : l = 0 := by simpa using hk
    subst e3
    exact Does.mono (dx_slN ho ht hx hy hw a ha) fun u W ⟨q1, q2⟩ => ⟨q2.symm, by rw [q1]; exact RdF.nil h0⟩
  | some b =>
    obtain ⟨B, o0, sp⟩ := b
    have hgo : DV P ops o N f w (.slice (some (if cap = l then ⟨B, o0, sp⟩ else if l * s = 0 then ⟨B, o0, sp⟩ else ⟨B, o0 + l * s, none⟩)) (rs.length - l) (cap - l)) := fun a ha => by
      obtain ⟨e, hu, hs⟩ := of_sliceB ht
      have hx := ha.ev hx
      have hy := ha.ev hy
      cases hi : P.info? e with
      | none => rw [hi] at hs; cases hs
      | some q =>
        have hq : q.size = s := by simpa [hi] using hs
        refine Does.pure (wantF_of ha hw) _ ?_ ⟨rfl, rfl⟩
        have h1 : ((l : Int) ≤ (rs.length : Int)) := by omega
        have h2' : ((rs.length : Int) ≤ (cap : Int)) := by omega
        have h3 : (0 : Int) ≤ (l : Int) := by omega
        unfold execOp
        simp only [ho, Option.map_none, Option.map_some, hx, hy, Instr.sliceAt, Sem.run_bind, run_underlying hu, Result.andThen_ok, Instr.slice, Instr.sliceBounds, Instr.sliceBound, asIntOf, Sem.run_pure, sizeOf, typeInfo, run_program, hi]
        simp [h1, h2', h3, hq, addr_at, Addr.add, hk]
        split
        · rfl
        · rfl
    refine Does.mono (hgo a ha) fun u W ⟨q1, q2⟩ => ⟨q2.symm, ?_⟩
    rw [q1]
    refine ⟨h0, fun r hr => hl r (List.mem_of_mem_drop hr), _, cap - l, by rw [htl], by omega, by omega, (fun h => by cases h), fun hne => ?_⟩
    have hlt : l < rs.length := by
      rcases Nat.lt_or_ge l rs.length with h | h
      · exact h
      · exact absurd (List.drop_eq_nil_of_le h) hne
    obtain ⟨X, o2, e, hX, hc⟩ := h5 (fun e => hne (by rw [e, List.drop_nil]))
    cases e
    refine ⟨_, o0 + l * s, ?_, hX, ?_⟩
    · rw [if_neg (by omega)]
      split
      · rename_i hz
        rw [hz]
        rfl
      · rfl
    · have := range_part hc (l * s) (rs.flatten.length)
      rw [List.take_of_length_le (by rw [List.length_drop]; omega), flat_drop l hl] at this
      exact this
end
end Go.Proofs.YthllidchoodofaaGreatDoor
namespace Go.Proofs.YthllidchoodofaaGreatDoor
open Go.RowKit
set_option linter.unusedVariables false
set_option linter.unusedSimpArgs false
section
variable {P : Program} {ops : Array Oper} {md : Region.Mode}
/-- The law of XOrd, where what waits for one is not asked to bear it. G holds throughout, said of which operations have run; what is shown of an operation (F) bears what others do to the world (R). -/
theorem wpAny_factsD {Q : Exit → Act → World → Prop} (hb : ordB md ops = true) (a : Act) (G : (Nat → Bool) → World → Prop) (F : Facts) (R : Nat → (Nat → Value) → World → World → Prop)
    (hF : ∀ i f w w' j g, R i f w w' → j ≠ i → i ∉ depsAt md ops j → F j g w → F j g w')
    (hstep : ∀ i o, ops[i]? = some o → ∀ L f w, L i = false → (∀ j, i ∈ depsAt md ops j → L j = false) → G L w → (∀ j ∈ depsOf md o, F j (restr f (j :: depsAt md ops j)) w) →
      Does P ops o (putDeps ops f (depsOf md o) a) w fun v w' => R i (restr f (depsOf md o)) w w' ∧ G (upd L i true) w' ∧ F i (restr (upd f i v) (i :: depsOf md o)) w')
    (hend : ∀ L f w, (∀ j, L j = decide (j < ops.size)) → G L w → (∀ j, j < ops.size → F j (restr f (j :: depsAt md ops j)) w) → Q .normal (putDeps ops f (List.range ops.size) a) w) :
    ∀ (fuel : Nat) (listed : Array Bool) (f : Nat → Value) (a' : Act) (w : World), listed.size = ops.size → (listed.toList.countP (fun b => !b) ≤ fuel) →
      (∀ j, listed.getD j false = true → ∀ k ∈ depsAt md ops j, listed.getD k false = true) →
      Agrees ops (fun j => listed.getD j false = true) f a a' → G (fun j => listed.getD j false) w → (∀ j, listed.getD j false = true → F j (restr f (j :: depsAt md ops j)) w) → wpAny P md ops Q fuel listed a' w := by
  have ho := ordB_own hb
  have fin : ∀ (listed : Array Bool) (f : Nat → Value) (a' : Act) (w : World), listed.size = ops.size → Region.ready md ops listed = [] →
      Agrees ops (fun j => listed.getD j false = true) f a a' → G (fun j => listed.getD j false) w → (∀ j, listed.getD j false = true → F j (restr f (j :: depsAt md ops j)) w) → Q .normal a' w := by
    intro listed f a' w hsz hr hag hg hf
    have hl := all_listed hb hsz hr
    have hout : ∀ j, listed.getD j false = true → j < ops.size := by
      intro j h
      rcases Nat.lt_or_ge j ops.size with h' | h'
      · exact h'
      · simp [Array.getElem?_eq_none (by omega : listed.size ≤ j)] at h
    have e : a' = putDeps ops f (List.range ops.size) a := by
      refine hag.unique ((Agrees.of ho f a (List.range ops.size)).congr (fun j => ?_) (fun _ _ => rfl))
      rw [List.mem_range]
      exact ⟨hl j, hout j⟩
    rw [e]
    refine hend _ f w (fun j => ?_) hg fun j hj => hf j (hl j hj)
    by_cases hj : j < ops.size
    · rw [hl j hj]; simp [hj]
    · have : ¬ listed.getD j false = true := fun h => hj (hout j h)
      rw [Bool.not_eq_true] at this
      rw [this]; simp [hj]
  intro fuel
  induction fuel with
  | zero =>
    intro listed f a' w hsz hc hcl hag hg hf
    have hr : Region.ready md ops listed = [] := by
      rw [List.eq_nil_iff_forall_not_mem]
      intro j hj
      obtain ⟨h0, o, hoj, _⟩ := mem_ready.1 hj
      have hjs : j < ops.size := (Array.getElem?_eq_some_iff.1 hoj).1
      have hc0 : listed.toList.countP (fun b => !b) = 0 := by omega
      rw [List.countP_eq_zero] at hc0
      have h1 := hc0 listed[j] (by simp)
      rw [Array.getD_eq_getD_getElem?, Array.getElem?_eq_getElem (by omega)] at h0
      simp only [Option.getD_some] at h0
      rw [h0] at h1
      exact h1 rfl
    exact ⟨hr, fin listed f a' w hsz hr hag hg hf⟩
  | succ fuel ih =>
    intro listed f a' w hsz hc hcl hag hg hf
    refine ⟨fun hr => fin listed f a' w hsz hr hag hg hf, fun i hi => ?_⟩
    obtain ⟨h0, o, hoi, hdep⟩ := mem_ready.1 hi
    have his : i < ops.size := (Array.getElem?_eq_some_iff.1 hoi).1
    obtain ⟨hsel, hlt, hlook⟩ := ordB_deps hb hoi
    have hdl : ∀ j ∈ depsOf md o, listed.getD j false = true := by
      intro j hj
      obtain ⟨e, he, rfl⟩ := List.mem_map.1 hj
      obtain ⟨he1, he2⟩ := List.mem_filter.1 he
      exact hdep e (by simpa using he1) he2
    have hun : ¬ listed.getD i false = true := by
      intro h
      rw [Array.getD_eq_getD_getElem?, Array.getElem?_eq_getElem (by omega)] at h0 h
      simp only [Option.getD_some] at h0 h
      rw [h0] at h
      cases h
    have hA := Agrees.of ho f a (depsOf md o)
    have hdst : o.dst = dstAt ops i := by simp [dstAt, hoi]
    have hset : ∀ j, (listed.setIfInBounds i true).getD j false = upd (fun j => listed.getD j false) i true j := by
      intro j
      unfold upd
      by_cases e : j = i
      · subst e
        simp [Array.getD_eq_getD_getElem?, hsz, his]
      · rw [getD_set_ne false (fun h => e h.symm), if_neg e]
    refine Does.wpOp hoi hsel (a := putDeps ops f (depsOf md o) a) (by rw [hag.size, hA.size]) (fun t ht => ?_)
      (hstep i o hoi (fun j => listed.getD j false) f w (by simpa using hun) (fun j hj => by
        rw [← Bool.not_eq_true]
        exact fun h => hun (hcl j h i hj)) hg fun j hj => hf j (hdl j hj)) fun v w' hR => ?_
    · by_cases hts : t < a.tmps.size
      · by_cases e : ∃ j, dstAt ops j = some t
        · obtain ⟨j, hd⟩ := e
          have hj' : j < ops.size := by
            rcases Nat.lt_or_ge j ops.size with h | h
            · exact h
            · simp [dstAt, Array.getElem?_eq_none h] at hd
          have hl := hlook j t hj' hd
          by_cases hjd : j ∈ depsOf md o
          · rw [hag.put j t (hdl j hjd) hd hts, hA.put j t hjd hd hts]
          · have hjl : ¬ listed.getD j false = true := by
              intro hjl
              rcases hl.1 ht with h | h | h
              · exact hun (h ▸ hjl)
              · exact hjd h
              · exact hun (hcl j hjl i h)
            rw [hag.same t (fun k hk hkd => hjl (ho k j t hkd hd ▸ hk)), hA.same t (fun k hk hkd => hjd (ho k j t hkd hd ▸ hk))]
        · have hn : ∀ j, dstAt ops j ≠ some t := fun j hj => e ⟨j, hj⟩
          rw [hag.same t (fun j _ => hn j), hA.same t (fun j _ => hn j)]
      · rw [Array.getElem?_eq_none (by rw [hag.size]; exact Nat.le_of_not_lt hts), Array.getElem?_eq_none (by rw [hA.size]; exact Nat.le_of_not_lt hts)]
    · obtain ⟨hR1, hR3, hR2⟩ := hR
      have hset' : ∀ j, (listed.setIfInBounds i true).getD j false = true ↔ (j = i ∨ listed.getD j false = true) := by
        intro j
        rw [hset j]
        unfold upd
        by_cases e : j = i <;> simp [e]
      rw [hdst]
      refine ih (listed.setIfInBounds i true) (upd f i v) _ w' (by simp [hsz]) ?_ ?_ ?_ (by rw [show (fun j => (listed.setIfInBounds i true).getD j false) = upd (fun j => listed.getD j false) i true from funext hset]; exact hR3) ?_
      · have hc2 : (listed.setIfInBounds i true).toList.countP (fun b => !b) + 1 ≤ listed.toList.countP (fun b => !b) := by
          rw [Array.toList_setIfInBounds]
          have hlen : i < listed.toList.length := by simpa [hsz] using his
          have hli : listed.toList[i] = false := by
            rw [Array.getD_eq_getD_getElem?, Array.getElem?_eq_getElem (by omega)] at h0
            simpa using h0
          rw [List.countP_set hlen, hli]
          have : 0 < listed.toList.countP (fun b => !b) := List.countP_pos_iff.2 ⟨false, by rw [← hli]; exact List.getElem_mem _, rfl⟩
          simp only [Bool.not_false, Bool.not_true, if_true, Bool.false_eq_true, if_false]
          omega
        omega
      · intro j hj k hk
        rw [hset'] at hj ⊢
        rcases hj with rfl | hj
        · rw [depsAt_eq hoi] at hk
          exact .inr (hdl k hk)
        · exact .inr (hcl j hj k hk)
      · exact hag.step ho i v hset' (fun j hji _ => by simp [upd, hji]) (by simp [upd])
      · intro j hj
        rw [hset'] at hj
        by_cases e : j = i
        · subst e
          rw [depsAt_eq hoi]
          exact hR2
        · have hjl := hj.resolve_left e
          have hnc : (j :: depsAt md ops j).contains i = false := by
            rw [← Bool.not_eq_true, List.contains_iff_mem, List.mem_cons]
            rintro (h | h)
            · exact e h.symm
            · exact hun (hcl j hjl i h)
          rw [restr_upd hnc]
          exact hF i _ w w' j _ hR1 e (fun h => hun (hcl j hjl i h)) (hf j hjl)
end
/-- The steps; G is what is known of the world, ahead of the one with number s (false) and behind it (true). -/
def DStepsG (P : Program) (ops : Array Oper) (N : Nat) (G : Bool → World → Prop) (sd : List (Option Tmp × VS)) (dl : List (List Nat)) (f : Fl) (s : Nat) (rel : World → World → Prop) : Nat → List Oper → Prop
  | _, [] => True
  | k, o :: l => (∀ d W, G d W → (k = s → d = false) → DStep P ops o N W sd (fun v W' => (if k = s then rel W W' ∧ G true W' else Below W.heap.size W W') ∧ okAt sd k v W') ((dl[k]?).getD []) f) ∧ DStepsG P ops N G sd dl f s rel (k + 1) l
section
variable {P : Program} {N : Nat} {sd : List (Option Tmp × VS)} {dl : List (List Nat)} {G : Bool → World → Prop}
theorem DStepsG.cons {ops : Array Oper} {f : Fl} {k s : Nat} {rel : World → World → Prop} {o : Oper} {l : List Oper} (hk : k ≠ s) (h : ∀ d W, G d W → DStep P ops o N W sd (fun v W' => Below W.heap.size W W' ∧ okAt sd k v W') ((dl[k]?).getD []) f) (hl : DStepsG P ops N G sd dl f s rel (k + 1) l) : DStepsG P ops N G sd dl f s rel k (o :: l) := ⟨by simp only [if_neg hk]; exact fun d W hG _ => h d W hG, hl⟩
theorem DStepsG.hit {ops : Array Oper} {f : Fl} {s : Nat} {rel : World → World → Prop} {o : Oper} {l : List Oper} (h : ∀ W, G false W → DStep P ops o N W sd (fun v W' => (rel W W' ∧ G true W') ∧ okAt sd s v W') ((dl[s]?).getD []) f) (hl : DStepsG P ops N G sd dl f s rel (s + 1) l) : DStepsG P ops N G sd dl f s rel s (o :: l) := ⟨by simp only [if_true]; exact fun d W hG hd => by cases hd trivial; exact h W hG, hl⟩
theorem foldl_set_ne {α : Type} {x : α} : ∀ (ex : List Nat) (l : List α) {j : Nat}, j ∉ ex → (ex.foldl (fun l k => l.set k x) l)[j]? = l[j]?
  | [], l, j, _ => rfl
  | k :: ex, l, j, h => by
    rw [List.foldl_cons, foldl_set_ne ex _ (fun hj => h (.tail _ hj)), List.getElem?_set_ne (fun e : k = j => h (by rw [e]; exact .head _))]
/-- The rule. -/
theorem WC.drawG {id : Nat} {f : Fl} {w : World} {Q : Exit → Act → World → Prop} (m s : Nat) (rel : World → World → Prop) {ops : List Oper} (sd : List (Option Tmp × VS)) (dl : List (List Nat)) (hm : P.follows .mixedOrders = true) (hb : ordB .any ops.toArray = true) (hbp : ordB .any (ops.take m).toArray = true) (ht : tailB .any ops.toArray (ops.take m).length = true) (hdl : (ops.take m).map (depsOf .any) = dl)
    (hds : (ops.take m).map (·.dst) = sd.map (·.1)) (hN : inN N sd = true) (hmono : VS.mono sd) (ex : List Nat) (hex : (ex.all fun j => j == s || ((dl[j]?).getD []).contains s) = true) (hrel : VS.monoR rel (ex.foldl (fun l k => l.set k (none, .is undef)) sd)) (hG0 : ∀ W, Below w.heap.size w W → G false W) (hGb : ∀ d W W', G d W → Below W.heap.size W W' → G d W') (hsl : s < sd.length) (hst : DStepsG P (ops.take m).toArray N G sd dl f s rel 0 (ops.take m))
    (hend : ∀ W, G true W → DEnd (fun f W => WL P ops.toArray Q N (ops.drop m) f W) W sd f) : WC P N (.region id ops.toArray true) Q f w := fun a ha => by
  obtain ⟨pre, hpre⟩ : ∃ pre, pre = ops.take m := ⟨_, rfl⟩
  obtain ⟨suf, hsuf⟩ : ∃ suf, suf = ops.drop m := ⟨_, rfl⟩
  have hops : pre ++ suf = ops := by rw [hpre, hsuf]; exact List.take_append_drop m ops
  rw [← hpre] at hbp ht hdl hds hst
  rw [← hsuf] at hend
  clear hpre hsuf
  subst hops
  have hlen : dl.length = sd.length := by rw [← hdl, List.length_map, ← List.length_map (f := (·.dst)), hds, List.length_map]
  have hpl : pre.length = dl.length := by rw [← hdl, List.length_map]
  refine wp_region_any hm ?_
  have hrep : Array.replicate (pre ++ suf).toArray.size false = Array.replicate pre.toArray.size false ++ Array.replicate suf.length false := by
    simp [Array.replicate_append_replicate]
  rw [hrep]
  have hsz : (pre ++ suf).toArray.size = pre.toArray.size + suf.length := by simp
  rw [hsz]
  refine pre_tail (pre := pre.toArray) (suf := suf) hb hbp (by simp) (by simpa using ht) pre.toArray.size _ (by simp) (fun j hj => by simp [Array.getD_eq_getD_getElem?, Array.getElem?_replicate] at hj; split at hj <;> simp_all) a w.drew ?_
  have hda : ∀ j, depsAt .any pre.toArray j = (dl[j]?).getD [] := by
    intro j
    subst hdl
    simp only [depsAt, List.getElem?_map, List.getElem?_toArray]
  have hF0 : ∀ j, (Array.replicate pre.toArray.size false).getD j false = true → False := fun j hj => by simp [Array.getD_eq_getD_getElem?, Array.getElem?_replicate] at hj; split at hj <;> simp_all
  refine wpAny_factsD hbp a (fun L W => G (L s) W) (fun j g W => okAt sd j (g j) W) (fun i _ W W' => if i = s then rel W W' else Below W.heap.size W W') ?_ ?_ ?_ pre.toArray.size _ (fun _ => undef) a w.drew (by simp) (by
      have := List.countP_le_length (p := fun b => !b) (l := (Array.replicate pre.toArray.size false).toList)
      simpa using this) (fun j hj => (hF0 j hj).elim) (Agrees.start fun j hj => hF0 j hj) (by
      have h0 : (Array.replicate pre.toArray.size false).getD s false = false := by
        cases hq : (Array.replicate pre.toArray.size false).getD s false with
        | false => rfl
        | true => exact (hF0 s hq).elim
      show G ((Array.replicate pre.toArray.size false).getD s false) w.drew
      rw [h0]
      exact hG0 _ (below_draws (Below.refl _ _) 1)) (fun j hj => (hF0 j hj).elim)
  · intro i g W W' j g' hB hne hnd h
    unfold okAt at h ⊢
    cases hs : sd[j]? with
    | none => trivial
    | some p =>
      obtain ⟨d, s'⟩ := p
      rw [hs] at h
      cases s' with
      | is v => exact h
      | «by» p =>
        by_cases hi : i = s
        · rw [if_pos hi] at hB
          refine monoR_at hrel (j := j) (d := d) ?_ _ W W' hB h
          rw [foldl_set_ne ex sd fun hj => ?_, hs]
          have := List.all_eq_true.1 hex j hj
          simp only [Bool.or_eq_true, beq_iff_eq] at this
          rcases this with h1 | h1
          · exact hne (h1.trans hi.symm)
          · refine hnd ?_
            rw [hda j, hi]
            exact List.contains_iff_mem.1 h1
        · rw [if_neg hi] at hB
          exact mono_at hmono hs _ W W' hB h
  · intro i o hoi L g W hLi _ hG hd
    have key : ∀ (l : List Oper) (k : Nat), DStepsG P pre.toArray N G sd dl f s rel k l → ∀ j o, l[j]? = some o → ∀ d W, G d W → (k + j = s → d = false) → DStep P pre.toArray o N W sd (fun v W' => (if k + j = s then rel W W' ∧ G true W' else Below W.heap.size W W') ∧ okAt sd (k + j) v W') ((dl[k + j]?).getD []) f := by
      intro l
      induction l with
      | nil => intro k _ j o h; simp at h
      | cons x l ih =>
        intro k hs j o h
        cases j with
        | zero =>
          simp only [List.getElem?_cons_zero, Option.some.injEq] at h
          subst h
          exact hs.1
        | succ j =>
          have := ih (k + 1) hs.2 j o (by simpa using h)
          rw [show k + (j + 1) = k + 1 + j by omega]
          exact this
    have hk := key pre 0 hst i o (by simpa using hoi) (L s) W hG (fun e => by rw [← e, Nat.zero_add]; exact hLi)
    rw [Nat.zero_add] at hk
    have hdo : depsOf .any o = (dl[i]?).getD [] := by rw [← hda i, depsAt_eq hoi]
    rw [hdo] at hd ⊢
    rw [putL_eq (ds := sd.map (·.1)) (by simpa using hds)]
    have hH : HypL (fun j g w => okAt sd j (g j) w) dl g W ((dl[i]?).getD []) := HypL.of _ fun j hj => by have := hd j hj; rwa [hda j] at this
    refine (DStep.to hN _ f a hk ha hH).mono fun v W' h => ⟨?_, ?_, ?_⟩
    · by_cases hi : i = s
      · have h1 := h.1
        rw [if_pos hi] at h1 ⊢
        exact h1.1
      · have h1 := h.1
        rw [if_neg hi] at h1 ⊢
        exact h1
    · show G (upd L i true s) W'
      by_cases hi : i = s
      · have h1 := h.1
        rw [if_pos hi] at h1
        rw [upd, if_pos hi.symm]
        exact h1.2
      · have h1 := h.1
        rw [if_neg hi] at h1
        rw [upd, if_neg (fun h => hi h.symm)]
        exact hGb _ _ _ hG h1
    · simp only [restr_self]
      rw [show upd g i v i = v by simp [upd]]
      exact h.2
  · intro L g W hL hG hd
    have hLs : L s = true := by
      rw [hL s]
      have : s < pre.toArray.size := by
        simp
        omega
      simpa using this
    replace hG : G true W := by rw [← hLs]; exact hG
    rw [putL_eq (ds := sd.map (·.1)) (by simpa using hds)]
    have hH : HypL (fun j g w => okAt sd j (g j) w) dl g W (List.range' 0 sd.length) := HypL.of _ fun j hj => by
      have hj' : j < pre.toArray.size := by
        simp [List.mem_range'] at hj
        simp
        omega
      have := hd j hj'
      rwa [hda j] at this
    have hfin := DEnd.to (Q := fun a W => wpList P (pre ++ suf).toArray Q suf a W) hN (fun f h a ha => h a ha) sd 0 f a (by simp) (hend W hG) ha hH
    show wpOps P (pre ++ suf).toArray Q (List.range' pre.toArray.size suf.length) _ _
    rw [wpOps_eq_wpList suf pre.toArray.size (fun j => by simp [List.getElem?_append_right])]
    rw [List.range_eq_range', show pre.toArray.size = sd.length by simp; omega]
    exact hfin
end
theorem Blk.chg {w w' : World} {B C : Nat} {cs : List Value} (h : Blk w C cs) (g : Chg B w w') (hn : C ≠ B) : Blk w' C cs := by
  obtain ⟨t, h'⟩ := h
  exact ⟨t, by rw [g.block C (Blk.lt ⟨t, h'⟩) hn]; exact h'⟩
theorem Chg.of_below {B : Nat} {w w' : World} (h : Below w.heap.size w w') : Chg B w w' := ⟨h.os, h.tape, h.output, h.size, fun k hk _ => h.block k hk⟩
end Go.Proofs.YthllidchoodofaaGreatDoor
namespace Go.Proofs.YthllidchoodofaaGreatDoor
open Go.RowKit
set_option linter.unusedVariables false
set_option linter.unusedSimpArgs false
set_option maxRecDepth 8000

section
variable {P : Program} {ops : Array Oper} {o : Oper} {N : Nat} {f : Fl} {w : World}
theorem dx_lenOM {α : Type} {enc : α → List Value} {xs : List α} {t s s' B : Nat} {x : Operand} {v : Value} (ho : o.op = .call { callee := .builtin .len, args := #[x], argTypes := #[t] }) (ht : sliceB P t s' = true) (hx : ev f x = some v) (hr : OwS s w v (xs.map enc) B) (hw : wantF ops o f = some true := by rfl) : DV P ops o N f w (.int .i64 (xs.length : Int)) := by
  have := dx_lenO (N := N) ho ht hx hr hw
  rwa [List.length_map] at this
end
set_option maxHeartbeats 1000000 in
theorem indexFuncZ_v (xs : List (SesX)) (p : SesX → Bool) (sv g : Value) (w : World) (L : List Nat) (hL : LL L w) (h1 : RdF 10 L w sv (xs.map encZ))  (hg : ∀ W, Below w.heap.size w W → ∀ x ∈ xs, FV Tryz.prog g [.agg (encZ x).toArray] W fun v _ => v = .bool (p x)) : CV Tryz.prog 23 [sv, g] w fun v W => v = .int .i64 (idxX p xs 0) := by
  refine cv_enter (N := 19) (f := [(0, sv), (1, g)]) Tryz.func23 rfl rfl rfl rfl fun Q hQ hE => ?_
  have hB := Below.refl w.heap.size w
  have h1m : xs.length ≤ maxLen := by have := h1.len; rwa [List.length_map] at this
  unfold maxLen at h1m
  refine WC.seq fun K1 hK1 => ?_
  refine WC.region ?_
  refine WL.val (dx_assign rfl rfl) rfl rfl ?_
  refine WL.nil ?_
  refine hK1 ?_
  refine WC.seq fun K2 hK2 => ?_
  refine WC.seq fun K3 hK3 => ?_
  refine WC.region ?_
  refine WL.val (dx_move rfl rfl) rfl rfl ?_
  refine WL.val (dx_lenX rfl ty_slice_22 rfl h1) rfl rfl ?_
  refine WL.val (dx_move rfl rfl) rfl rfl ?_
  refine WL.nil ?_
  refine hK3 ?_
  refine WC.block ?_
  refine WC.loop (fun (i : Nat) => [(0, sv), (1, g), (7, .int .i64 (xs.length : Int)), (8, .int .i64 (i : Int))]) (fun (i : Nat) W => i ≤ xs.length ∧ idxX p xs 0 = idxX p (xs.drop i) i ∧ Below w.heap.size w W ∧ LL (L) W ∧ RdF 10 (L) W sv (xs.map encZ)) (fun (i : Nat) => xs.length - i) 0 (by repeat first | exact trivial | exact And.intro rfl trivial | refine And.intro rfl ?_ | refine And.intro (congrArg (fun z : Int => some (Value.int .i64 z)) (by omega)) ?_) ⟨Nat.zero_le _, rfl, hB, hL, h1⟩ ?_
  clear h1 hB hL
  rintro K4 i W5 ⟨hi, hv, hB, hL, h1⟩ hK4
  refine WC.seq fun K6 hK6 => ?_
  refine WC.region ?_
  refine WL.val (dx_lss rfl rfl rfl) rfl rfl ?_
  refine WL.nil ?_
  refine hK6 ?_
  refine WC.seq fun K7 hK7 => ?_
  refine WC.cond rfl (fun c8 => ?_) (fun c8 => ?_)
  ·
    replace c8 := of_decide_eq_true c8
    refine WC.skip ?_
    refine hK7 ?_
    refine WC.seq fun K9 hK9 => ?_
    refine WC.block ?_
    refine WC.seq fun K10 hK10 => ?_
    refine WC.region ?_
    refine WL.val (dx_move rfl rfl) rfl rfl ?_
    refine WL.val (dx_assign rfl rfl) rfl rfl ?_
    refine WL.nil ?_
    refine hK10 ?_
    refine WC.seq fun K11 hK11 => ?_
    refine WC.region ?_
    refine WL.val (dx_move rfl rfl) rfl rfl ?_
    refine WL.val (dx_move rfl rfl) rfl rfl ?_
    refine WL.val (dx_move rfl rfl) rfl rfl ?_
    obtain ⟨r12, e13⟩ : ∃ x, xs[i]? = some x := ⟨_, List.getElem?_eq_getElem (by omega)⟩
    refine WL.get (dx_idxF i rfl ty_slice_22 rfl rfl h1 (by omega) (at_mapX e13)) rfl rfl ?_
    rintro u14 _ ⟨rfl, p15⟩
    refine WL.val (dx_loadPN rfl ty_agg_26_10 rfl p15 rfl) rfl rfl ?_
    refine WL.get (dx_fv rfl rfl rfl (hg _ hB r12 (List.mem_of_getElem? e13))) rfl rfl ?_
    rintro _ W17 ⟨rfl, b16⟩
    replace h1 := h1.below b16
    replace p15 := p15.below b16
    replace hB := below_then hB b16
    replace hL := LL.below hL b16
    refine WL.nil ?_
    refine hK11 ?_
    refine WC.cond rfl (fun c18 => ?_) (fun c18 => ?_)
    ·
      refine WC.seq fun K19 hK19 => ?_
      refine WC.region ?_
      refine WL.val (dx_move rfl rfl) rfl rfl ?_
      refine WL.val (dx_assign rfl rfl) rfl rfl ?_
      refine WL.nil ?_
      refine hK19 ?_
      refine WC.ret fun a_ ha_ => ?_
      exact hQ (cv_ret1 rfl (.tmp rfl) (by rw [hv, idxX_here e13 (by assumption)]) hB ha_)
    ·
      refine WC.skip ?_
      refine hK9 ?_
      refine WC.region ?_
      refine WL.val (dx_add (r := (i : Int) + 1) rfl rfl rfl (wrap64_id (by omega))) rfl rfl ?_
      refine WL.val (dx_move rfl rfl) rfl rfl ?_
      refine WL.nil ?_
      exact hK4 (i + 1) ⟨(by omega), (by rw [hv]; exact idxX_step e13 (by assumption)), hB, hL, h1⟩ (by omega) (by repeat first | exact trivial | exact And.intro rfl trivial | refine And.intro rfl ?_ | refine And.intro (congrArg (fun z : Int => some (Value.int .i64 z)) (by omega)) ?_)
  ·
    replace c8 := of_decide_eq_false c8
    refine WC.exit ?_
    refine hK2 ?_
    refine WC.seq fun K20 hK20 => ?_
    refine WC.region ?_
    refine WL.val (dx_assign rfl rfl) rfl rfl ?_
    refine WL.nil ?_
    refine hK20 ?_
    refine WC.ret fun a_ ha_ => ?_
    exact hQ (cv_ret1 rfl (.tmp rfl) (by rw [hv, idxX_end (by omega)]) hB ha_)

set_option maxHeartbeats 1000000 in
theorem containsFuncZ_v (xs : List (SesX)) (p : SesX → Bool) (sv g : Value) (w : World) (L : List Nat) (hL : LL L w) (h1 : RdF 10 L w sv (xs.map encZ))  (hg : ∀ W, Below w.heap.size w W → ∀ x ∈ xs, FV Tryz.prog g [.agg (encZ x).toArray] W fun v _ => v = .bool (p x)) : CV Tryz.prog 32 [sv, g] w fun v W => v = .bool (xs.any p) := by
  refine cv_enter (N := 9) (f := [(0, sv), (1, g)]) Tryz.func32 rfl rfl rfl rfl fun Q hQ hE => ?_
  have hB := Below.refl w.heap.size w
  have h1m : xs.length ≤ maxLen := by have := h1.len; rwa [List.length_map] at this
  unfold maxLen at h1m
  refine WC.seq fun K1 hK1 => ?_
  refine WC.region ?_
  refine WL.val (dx_assign rfl rfl) rfl rfl ?_
  refine WL.nil ?_
  refine hK1 ?_
  refine WC.seq fun K2 hK2 => ?_
  refine WC.region ?_
  refine WL.val (dx_move rfl rfl) rfl rfl ?_
  refine WL.val (dx_move rfl rfl) rfl rfl ?_
  refine WL.get (dx_cv rfl Tryz.func23 rfl rfl rfl (indexFuncZ_v xs p _ _ w L (by first | exact hL | exact LL.below hL hB) h1 (fun W hW => hg W (below_then hB hW)))) rfl rfl ?_
  rintro _ W4 ⟨rfl, b3⟩
  replace h1 := h1.below b3
  replace hB := below_then hB b3
  replace hL := LL.below hL b3
  refine WL.val (dx_geq rfl rfl rfl) rfl rfl ?_
  refine WL.val (dx_assign rfl rfl) rfl rfl ?_
  refine WL.nil ?_
  refine hK2 ?_
  refine WC.ret fun a_ ha_ => ?_
  exact hQ (cv_ret1 rfl (.tmp rfl) (by rw [idxX_any xs 0 (by omega)]) hB ha_)

set_option maxHeartbeats 1000000 in
theorem cloneNSession_v  (w : World) (L : List Nat) (hL : LL L w)  : CV Tryz.prog 18 [.slice none 0 0] w fun v W => v = .slice none 0 0 := by
  refine cv_enter (N := 8) (f := [(0, .slice none 0 0)]) Tryz.func18 rfl rfl rfl rfl fun Q hQ hE => ?_
  have hB := Below.refl w.heap.size w
  refine WC.seq fun K1 hK1 => ?_
  refine WC.region ?_
  refine WL.val (dx_assign rfl rfl) rfl rfl ?_
  refine WL.nil ?_
  refine hK1 ?_
  refine WC.seq fun K2 hK2 => ?_
  refine WC.seq fun K3 hK3 => ?_
  refine WC.region ?_
  refine WL.val (dx_move rfl rfl) rfl rfl ?_
  refine WL.val (dx_nilT rfl Tryz.underlying22 rfl) rfl rfl ?_
  refine WL.nil ?_
  refine hK3 ?_
  refine WC.condT rfl ?_
  refine WC.seq fun K4 hK4 => ?_
  refine WC.region ?_
  refine WL.val (dx_assign rfl rfl) rfl rfl ?_
  refine WL.nil ?_
  refine hK4 ?_
  refine WC.ret fun a_ ha_ => ?_
  exact hQ (cv_ret1 rfl (.tmp rfl) rfl hB ha_)

set_option maxHeartbeats 1000000 in
theorem cloneESession_v (rs : List (List Value)) (sv : Value) (a : Addr) (n c : Nat) (w : World) (L : List Nat) (hL : LL L w) (h1 : RdF 10 L w sv rs)  (hs : sv = .slice (some a) n c) (hone : ∀ r ∈ rs, ∀ u ∈ r, u.oneCell' = true) (hsm : rs.length * 112 ≤ 140737488355328) : CV Tryz.prog 18 [sv] w fun v W => NewS 10 w.heap.size rs v W := by
  refine cv_enter (N := 8) (f := [(0, sv)]) Tryz.func18 rfl rfl rfl rfl fun Q hQ hE => ?_
  have hB := Below.refl w.heap.size w
  refine WC.seq fun K1 hK1 => ?_
  refine WC.region ?_
  refine WL.val (dx_assign rfl rfl) rfl rfl ?_
  refine WL.nil ?_
  refine hK1 ?_
  refine WC.seq fun K2 hK2 => ?_
  refine WC.seq fun K3 hK3 => ?_
  refine WC.region ?_
  refine WL.val (dx_move rfl rfl) rfl rfl ?_
  refine WL.val (dx_nilS rfl Tryz.underlying22 rfl hs) rfl rfl ?_
  refine WL.nil ?_
  refine hK3 ?_
  refine WC.condF rfl ?_
  refine WC.skip ?_
  refine hK2 ?_
  refine WC.seq fun K4 hK4 => ?_
  refine WC.region ?_
  refine WL.get (dx_lit0E rfl ty_ap_22 (by decide)) rfl rfl ?_
  rintro u5 W6 ⟨b7, e8⟩
  replace h1 := h1.below b7
  replace hB := below_then hB b7
  replace hL := LL.below hL b7
  refine WL.val (dx_move rfl rfl) rfl rfl ?_
  refine WL.get (dx_apN rfl ty_ap_22 rfl rfl e8 h1 hone (by unfold maxLen; omega) (by omega) hB.size) rfl rfl ?_
  rintro u9 W10 ⟨b11, e12⟩
  replace h1 := h1.below b11
  replace hB := below_then hB b11
  replace hL := LL.below hL b11
  refine WL.val (dx_assign rfl rfl) rfl rfl ?_
  refine WL.nil ?_
  refine hK4 ?_
  refine WC.ret fun a_ ha_ => ?_
  exact hQ (cv_ret1 rfl (.tmp rfl) e12 hB ha_)

theorem cloneSSession_v (rs : List (List Value)) (sv : Value) (w : World) (L : List Nat) (hL : LL L w) (h1 : RdF 10 L w sv rs) (hone : ∀ r ∈ rs, ∀ u ∈ r, u.oneCell' = true) (hsm : rs.length * 112 ≤ 140737488355328) : CV Tryz.prog 18 [sv] w fun v W => NewS 10 w.heap.size rs v W := by
  rcases h1.nil_or with ⟨rfl, rfl⟩ | ⟨a, n, c, hs⟩
  · exact (cloneNSession_v w L hL).mono fun v W _ h => .inl ⟨h, rfl, by decide⟩
  · exact cloneESession_v rs sv a n c w L hL h1 hs hone hsm
/-- An insert of one behind a clone. -/
theorem insertSSession_v (rs : List (List Value)) (row : List Value) (i base : Nat) (j : Int) (u v : Value) (w : World) (hj : j = (i : Int)) (hu : NewS 10 base rs u w) (hv : NewS 10 base [row] v w) (hb : base ≤ w.heap.size) (hi : i ≤ rs.length) (hsm : (rs.length + 1) * 112 ≤ 140737488355328) (hone : ∀ r ∈ rs, ∀ u ∈ r, u.oneCell' = true) (hrow : ∀ u ∈ row, u.oneCell' = true) (hne : ∀ r ∈ rs, r ≠ row) :
    Calls Tryz.prog 35 [u, .int .i64 j, v].toArray w fun e w' => ∃ x, e = .returned x ∧ (∃ B, base ≤ B ∧ OwS 10 w' x (rs.take i ++ ([row] ++ rs.drop i)) B) ∧ Below base w w' := by
  subst hj
  have hrow' : ∀ r ∈ [row], ∀ u ∈ r, u.oneCell' = true := fun r hr => by rw [List.mem_singleton.1 hr]; exact hrow
  rcases hv with ⟨_, h, _⟩ | ⟨C, vp, hC, rfl, hV, _⟩
  · cases h
  rcases hu with ⟨rfl, rfl, _⟩ | ⟨B, sp, hB, rfl, hO, he⟩
  · have hi0 : i = 0 := by simpa using hi
    subst hi0
    refine Calls.mono (insertNSession_v [row] vp C w [] (LL.nil _) hV (by simp) (by simp)) fun e w' ⟨x, h1, ⟨B, h2, h3⟩, h4⟩ => ⟨x, h1, ⟨B, Nat.le_trans hb h2, by simpa using h3⟩, h4.mono hb⟩
  · have hCB : C ≠ B := rwb_ne hO hV he hne
    refine Calls.mono (insertSession_v rs sp [row] vp i B C w [] (fun x hx => by rw [List.mem_singleton.1 hx]; exact hO.lt) hO hV hCB hi (by simp) (by simpa using hsm) hone hrow') fun e w' ⟨x, h1, ⟨B', h2, h3⟩, h4⟩ => ⟨x, h1, ⟨B', ?_, h2⟩, h4.from_base hB hb⟩
    rcases h3 with rfl | h3
    · exact hB
    · exact Nat.le_trans hb h3
theorem cl_Z : clB Tryz.prog 22 10 = true := by kernel_rfl
set_option maxHeartbeats 1000000 in
theorem deleteFuncZ_v (xs : List SesX) (p : SesX → Bool) (g : Value) (B c : Nat) (w : World) (L : List Nat) (hL : LL (B :: L) w) (hO : OwS 10 w (.slice (some ⟨B, 0, none⟩) xs.length c) (xs.map encZ) B) (hg : ∀ W, Chg B w W → ∀ x ∈ xs, FV Tryz.prog g [.agg (encZ x).toArray] W fun v _ => v = .bool (p x)) : CW Tryz.prog 26 [.slice (some ⟨B, 0, none⟩) xs.length c, g] w B fun v W => OwS 10 W v ((xs.filter (fun x => !p x)).map encZ) B := by
  refine cw_enter (N := 42) (f := [(0, .slice (some ⟨B, 0, none⟩) xs.length c), (1, g)]) Tryz.func26 rfl rfl rfl rfl fun Q hQ hE => ?_
  have hB := Chg.refl B w
  refine WC.seq fun K1 hK1 => ?_
  refine WC.region ?_
  refine WL.val (dx_assign rfl rfl) rfl rfl ?_
  refine WL.nil ?_
  refine hK1 ?_
  refine WC.seq fun K2 hK2 => ?_
  refine WC.region ?_
  refine WL.val (dx_move rfl rfl) rfl rfl ?_
  refine WL.val (dx_move rfl rfl) rfl rfl ?_
  refine WL.get (dx_cv rfl Tryz.func23 rfl rfl rfl (indexFuncZ_v xs p _ _ w [] (LL.nil _) (hO.rd (by simp)) (fun W hW x hx => hg W (Chg.of_below hW) x hx))) rfl rfl ?_
  rintro _ W3 ⟨rfl, b4⟩
  replace hO := hO.below b4
  replace hB := hB.thenB b4
  replace hL := LL.below hL b4
  have hix := idxX_lt (p := p) xs 0
  refine WL.val (dx_assign rfl rfl) rfl rfl ?_
  refine WL.nil ?_
  refine hK2 ?_
  refine WC.seq fun K5 hK5 => ?_
  refine WC.seq fun K6 hK6 => ?_
  refine WC.region ?_
  refine WL.val (dx_move rfl rfl) rfl rfl ?_
  refine WL.val (dx_eql rfl rfl rfl) rfl rfl ?_
  refine WL.nil ?_
  refine hK6 ?_
  refine WC.cond rfl (fun c7 => ?_) (fun c7 => ?_)
  ·
    replace c7 := of_decide_eq_true c7
    refine WC.seq fun K8 hK8 => ?_
    refine WC.region ?_
    refine WL.val (dx_move rfl rfl) rfl rfl ?_
    refine WL.val (dx_assign rfl rfl) rfl rfl ?_
    refine WL.nil ?_
    refine hK8 ?_
    refine WC.ret fun a_ ha_ => ?_
    exact hQ (cw_ret1 rfl (.tmp rfl) (by rw [del_none (fun a ha => idxX_no (p := p) xs 0 (by omega) (by omega) a ha)]; exact hO) hB ha_)
  ·
    replace c7 := of_decide_eq_false c7
    refine WC.skip ?_
    refine hK5 ?_
    refine WC.seq fun K9 hK9 => ?_
    refine WC.seq fun K10 hK10 => ?_
    obtain ⟨k0, r0, hk0, hr0, hp0, hn0⟩ := idxX_is (p := p) xs 0 (by omega) (by omega)
    have hl0 := (List.getElem?_eq_some_iff.1 hr0).1
    rw [Int.zero_add] at hk0
    have hcm := hO.len
    rw [List.length_map] at hcm
    unfold maxLen at hcm
    refine WC.region ?_
    refine WL.val (dx_move rfl rfl) rfl rfl ?_
    refine WL.val (dx_add (r := ((k0 + 1 : Nat) : Int)) rfl rfl rfl (by rw [hk0, wrap64_id (by omega)]; omega)) rfl rfl ?_
    refine WL.val (dx_assign rfl rfl) rfl rfl ?_
    refine WL.nil ?_
    refine hK10 ?_
    refine WC.block ?_
    refine WC.loop3 (fun (i : Nat) (j : Nat) (ys : List SesX) => [(0, .slice (some ⟨B, 0, none⟩) xs.length c), (1, g), (5, .int .i64 (i : Int)), (6, .int .i64 (j : Int))]) (fun (i : Nat) (j : Nat) (ys : List SesX) W => i < j ∧ j ≤ xs.length ∧ ys.length = xs.length ∧ ys.take i = (xs.take j).filter (fun x => !p x) ∧ ys.drop j = xs.drop j ∧ Chg B w W ∧ LL (B :: L) W ∧ OwS 10 W (.slice (some ⟨B, 0, none⟩) xs.length c) (ys.map encZ) B) (fun (i : Nat) (j : Nat) (ys : List SesX) => xs.length - j) k0 (k0 + 1) xs (by repeat first | exact trivial | exact And.intro rfl trivial | refine And.intro rfl ?_ | refine And.intro (congrArg (fun z : Int => some (Value.int .i64 z)) (by omega)) ?_) ⟨(Nat.lt_succ_self _), (by omega), rfl, (del_first hr0 hp0 hn0), rfl, hB, hL, hO⟩ ?_
    clear hO hB hL
    rintro K11 i j ys W12 ⟨hi, hj, hl, ht, hd, hB, hL, hO⟩ hK11
    refine WC.seq fun K13 hK13 => ?_
    refine WC.seq fun K14 hK14 => ?_
    refine WC.region ?_
    refine WL.val (dx_move rfl rfl) rfl rfl ?_
    refine WL.val (dx_move rfl rfl) rfl rfl ?_
    refine WL.val (dx_lenOM rfl ty_slice_22 rfl hO) rfl rfl ?_
    refine WL.val (dx_lss rfl rfl rfl) rfl rfl ?_
    refine WL.nil ?_
    refine hK14 ?_
    refine WC.cond rfl (fun c15 => ?_) (fun c15 => ?_)
    ·
      replace c15 := of_decide_eq_true c15
      refine WC.skip ?_
      refine hK13 ?_
      refine WC.seq fun K16 hK16 => ?_
      refine WC.block ?_
      refine WC.seq fun K17 hK17 => ?_
      refine WC.region ?_
      refine WL.val (dx_move rfl rfl) rfl rfl ?_
      refine WL.val (dx_move rfl rfl) rfl rfl ?_
      refine WL.val (dx_idxO j rfl ty_slice_22 rfl rfl hO (by omega) (by rw [List.length_map]; omega) rfl) rfl rfl ?_
      obtain ⟨r18, e19⟩ : ∃ x, ys[j]? = some x := ⟨_, List.getElem?_eq_getElem (by omega)⟩
      have hxe19 : xs[j]? = some r18 := (at_drop hd).symm.trans e19
      refine WL.val (dx_loadO rfl ty_agg_26_10 rfl hO rfl (at_mapX e19)) rfl rfl ?_
      refine WL.get (dx_alloc rfl ty_zero_26 rfl) rfl rfl ?_
      rintro _ W20 ⟨rfl, k21, b22, z23⟩
      have n24 : B ≠ W12.heap.size := Nat.ne_of_lt hO.lt
      have l25 := hB.size
      replace hO := hO.below b22
      replace hB := hB.thenB b22
      replace hL := LL.more hL z23
      refine WL.do (dx_store (cs' := [.int .i64 r18.id, .string r18.sec, .string r18.med, .string r18.whr, .string r18.tok, .int .i64 r18.att, .int .i64 r18.since, .int .i64 r18.wrong, .bool r18.shown, .int .i64 r18.sat]) (vs := [.int .i64 r18.id, .string r18.sec, .string r18.med, .string r18.whr, .string r18.tok, .int .i64 r18.att, .int .i64 r18.since, .int .i64 r18.wrong, .bool r18.shown, .int .i64 r18.sat]) rfl ty_size_26_10 rfl rfl rfl (oc_cons rfl (oc_cons rfl (oc_cons rfl (oc_cons rfl (oc_cons rfl (oc_cons rfl (oc_cons rfl (oc_cons rfl (oc_cons rfl (oc_cons rfl oc_nil)))))))))) k21 rfl (Nat.le_of_ble_eq_true rfl) rfl) rfl ?_
      rintro _ W26 ⟨k28, o27⟩
      replace hO := hO.other o27 n24
      clear k21
      replace hB := hB.only o27 (.inr l25)
      replace hL := LL.only hL o27
      refine WL.nil ?_
      refine hK17 ?_
      refine WC.seq fun K29 hK29 => ?_
      refine WC.region ?_
      refine WL.val (dx_move rfl rfl) rfl rfl ?_
      refine WL.val (dx_loadN rfl ty_agg_26_10 rfl k28.range rfl) rfl rfl ?_
      refine WL.get (dx_fv rfl rfl rfl (hg _ hB r18 (List.mem_of_getElem? hxe19))) rfl rfl ?_
      rintro _ W31 ⟨rfl, b30⟩
      replace hO := hO.below b30
      replace k28 := k28.below b30
      replace hB := hB.thenB b30
      replace hL := LL.below hL b30
      refine WL.val (dx_not rfl rfl) rfl rfl ?_
      refine WL.nil ?_
      refine hK29 ?_
      refine WC.cond rfl (fun c32 => ?_) (fun c32 => ?_)
      ·
        replace c32 := bnot_t c32
        refine WC.seq fun K33 hK33 => ?_
        refine WC.region ?_
        refine WL.val (dx_move rfl rfl) rfl rfl ?_
        refine WL.val (dx_move rfl rfl) rfl rfl ?_
        refine WL.val (dx_loadN rfl ty_agg_26_10 rfl k28.range rfl) rfl rfl ?_
        refine WL.val (dx_idxO i rfl ty_slice_22 rfl rfl hO (by omega) (by rw [List.length_map]; omega) rfl) rfl rfl ?_
        refine WL.do (dx_storeO (k := i) (r := encZ r18) rfl ty_size_26_10 rfl rfl rfl (oc_Z r18) hO rfl (by rw [List.length_map]; omega) rfl) rfl ?_
        rintro _ W34 ⟨k36, o35⟩
        replace k28 := k28.other o35 n24.symm
        clear hO
        replace hB := hB.only o35 (.inl rfl)
        replace hL := LL.only hL o35
        rw [← List.map_set] at k36
        refine WL.nil ?_
        refine hK33 ?_
        refine WC.region ?_
        refine WL.val (dx_move rfl rfl) rfl rfl ?_
        refine WL.val (dx_add (r := ((i + 1 : Nat) : Int)) rfl rfl rfl (by rw [wrap64_id (by omega)]; omega)) rfl rfl ?_
        refine WL.val (dx_assign rfl rfl) rfl rfl ?_
        refine WL.nil ?_
        refine hK16 ?_
        refine WC.region ?_
        refine WL.val (dx_move rfl rfl) rfl rfl ?_
        refine WL.val (dx_add (r := ((j + 1 : Nat) : Int)) rfl rfl rfl (by rw [wrap64_id (by omega)]; omega)) rfl rfl ?_
        refine WL.val (dx_assign rfl rfl) rfl rfl ?_
        refine WL.nil ?_
        replace hL := hL.less (fun x hx => (.tail _ hx))
        exact hK11 (i + 1) (j + 1) (ys.set i r18) ⟨(by omega), (by omega), (by rw [List.length_set]; exact hl), (del_move hxe19 (by first | assumption | simp_all) (by omega) ht), (del_rest hi hd), hB, hL, k36⟩ (by omega) (by repeat first | exact trivial | exact And.intro rfl trivial | refine And.intro rfl ?_ | refine And.intro (congrArg (fun z : Int => some (Value.int .i64 z)) (by omega)) ?_)
      ·
        replace c32 := bnot_f c32
        refine WC.skip ?_
        refine hK16 ?_
        refine WC.region ?_
        refine WL.val (dx_move rfl rfl) rfl rfl ?_
        refine WL.val (dx_add (r := ((j + 1 : Nat) : Int)) rfl rfl rfl (by rw [wrap64_id (by omega)]; omega)) rfl rfl ?_
        refine WL.val (dx_assign rfl rfl) rfl rfl ?_
        refine WL.nil ?_
        replace hL := hL.less (fun x hx => (.tail _ hx))
        exact hK11 i (j + 1) ys ⟨(by omega), (by omega), hl, (del_out hxe19 (by first | assumption | simp_all) ht), (drop_on hd), hB, hL, hO⟩ (by omega) (by repeat first | exact trivial | exact And.intro rfl trivial | refine And.intro rfl ?_ | refine And.intro (congrArg (fun z : Int => some (Value.int .i64 z)) (by omega)) ?_)
    ·
      replace c15 := of_decide_eq_false c15
      refine WC.exit ?_
      refine hK9 ?_
      refine WC.seq fun K37 hK37 => ?_
      refine WC.region ?_
      refine WL.val (dx_move rfl rfl) rfl rfl ?_
      refine WL.val (dx_move rfl rfl) rfl rfl ?_
      have hjn : j = xs.length := by omega
      subst hjn
      rw [List.take_length] at ht
      obtain ⟨sp, hv, hR⟩ := hO.open
      simp only [Value.slice.injEq, List.length_map, true_and] at hv
      obtain ⟨hv1, hv2⟩ := hv
      have hRl : (ys.map encZ ++ sp).length = xs.length + sp.length := (by rw [List.length_append, List.length_map]; omega)
      refine WL.val (dx_slL i rfl ty_slice_22 rfl rfl rfl (by omega) (by omega)) rfl rfl ?_
      refine WL.do (dx_clV (R := ys.map encZ ++ sp) (lo := i) (n := xs.length - i) rfl cl_Z rfl (fun hn => by rw [offV_in (n := xs.length - i) hn (by omega)]; simp) hR (by omega)) rfl ?_
      rintro _ W38 ⟨zs, hz, k39, o40⟩
      replace hB := hB.only o40 (.inl rfl)
      replace hL := LL.only hL o40
      refine WL.nil ?_
      refine hK37 ?_
      refine WC.seq fun K41 hK41 => ?_
      refine WC.region ?_
      refine WL.val (dx_move rfl rfl) rfl rfl ?_
      refine WL.val (dx_move rfl rfl) rfl rfl ?_
      refine WL.val (dx_slH i rfl ty_slice_22 rfl rfl rfl (by omega)) rfl rfl ?_
      refine WL.val (dx_assign rfl rfl) rfl rfl ?_
      refine WL.nil ?_
      refine hK41 ?_
      refine WC.ret fun a_ ha_ => ?_
      exact hQ (cw_ret1 rfl (.tmp rfl) (by rw [← ht]; have e1 : (ys.take i).map encZ = (ys.map encZ).take i := List.map_take; rw [e1]; have l1 : ((ys.map encZ).take i).length = i := (by rw [List.length_take, List.length_map]; omega); have l0 : (ys.map encZ ++ sp).take i = (ys.map encZ).take i := List.take_append_of_le_length (by rw [List.length_map]; omega); rw [l0] at k39; have := k39.own; rw [l1] at this; have l2 : ((ys.map encZ).take i ++ (zs ++ (ys.map encZ ++ sp).drop (i + (xs.length - i)))).length = c := (by rw [List.length_append, List.length_append, l1, List.length_drop]; omega); rw [l2] at this; exact this) hB ha_)

end Go.Proofs.YthllidchoodofaaGreatDoor
namespace Go.Proofs.YthllidchoodofaaGreatDoor
open Go.RowKit
set_option linter.unusedVariables false
set_option linter.unusedSimpArgs false
theorem OwS.cellF {s : Nat} {w : World} {v : Value} {rs : List (List Value)} {B k j o0 : Nat} {r : List Value} {V : Value} (h : OwS s w v rs B) (hi : rs[k]? = some r) (hj : r[j]? = some V) (ho : k * s + j = o0) : w.cell? ⟨B, o0, none⟩ = some V := by
  obtain ⟨h0, hl, cap, sp, rfl, h2, h3, h4, h5⟩ := h
  refine h5.cell ?_
  have hlt := (List.getElem?_eq_some_iff.1 hi).1
  have hrl := hl r (List.mem_of_getElem? hi)
  have hjl := (List.getElem?_eq_some_iff.1 hj).1
  have hlen : (k + 1) * s ≤ rs.flatten.length := by rw [flat_len hl]; exact Nat.mul_le_mul_right _ hlt
  rw [Nat.succ_mul] at hlen
  rw [← ho, List.getElem?_append_left (by omega)]
  have e := congrArg (fun l => l[j]?) (flat_row hl hi)
  simp only [List.getElem?_take, List.getElem?_drop] at e
  rw [if_pos (by omega)] at e
  rw [e]
  exact hj
theorem NewS.chg {s base B : Nat} {rs : List (List Value)} {u : Value} {w w' : World} (h : NewS s base rs u w) (g : Chg B w w') (hB : B < base) : NewS s base rs u w' := by
  rcases h with h | ⟨C, sp, h1, h2, h3, h4⟩
  · exact .inl h
  · obtain ⟨q1, q2, q3, q4⟩ := h3
    exact .inr ⟨C, sp, h1, h2, ⟨q1, q2, q3, q4.chg g (by omega)⟩, h4⟩
/-- What was there at a base is as it was (the list is of no weight). -/
def SinceB (w1 : World) (L : List Nat) (w : World) : Prop := Below w1.heap.size w1 w
theorem SinceB.below {w1 w w' : World} {L : List Nat} (h : SinceB w1 L w) (hb : Below w.heap.size w w') : SinceB w1 L w' := Below.trans h (hb.mono (Below.size h))
theorem SinceB.more {w1 w w' : World} {L : List Nat} (h : SinceB w1 L w) (hb : Below w.heap.size w w') {B : Nat} (hB : w.heap.size ≤ B) : SinceB w1 (B :: L) w' := h.below hb
theorem SinceB.less {w1 w : World} {L L' : List Nat} (h : SinceB w1 L w) (hl : ∀ x, x ∈ L' → x ∈ L) : SinceB w1 L' w := h
section
variable {P : Program} {ops : Array Oper} {o : Oper} {N : Nat} {f : Fl} {w : World}
theorem dv_Fz {p : Prop} [Decidable p] (h : DV P ops o N f w (.bool (!decide p))) (hp : p) : DV P ops o N f w (.bool false) := by rw [decide_eq_true hp] at h; exact h
theorem dv_N {p : Prop} [Decidable p] (h : DV P ops o N f w (.bool (decide p))) (hp : ¬ p) : DV P ops o N f w (.bool false) := by rwa [decide_eq_false hp] at h
theorem dx_nilCheck {x : Operand} {a : Addr} (ho : o.op = .nilCheck x) (hx : ev f x = some (.pointer (some a))) (hw : wantF ops o f = some true := by rfl) : DV P ops o N f w (.pointer (some a)) := fun k ha => by
  have hx := ha.ev hx
  exact Does.pure (wantF_of ha hw) _ (by unfold execOp; simp [ho, hx, Sem.run_bind, Sem.run_pure]) ⟨rfl, rfl⟩
end
end Go.Proofs.YthllidchoodofaaGreatDoor
