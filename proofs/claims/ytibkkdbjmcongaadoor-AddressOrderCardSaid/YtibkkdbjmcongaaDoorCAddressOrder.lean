/- The law AddressOrder: for every input the call returns true, and each argument reads behind it as it read before. No condition is asked beside the row's own. -/
import Derived.Test.YtibkkdbjmcongaaDoorClose
import Derived.Test.YtibkkdbjmcongaaDoorTie
import Derived.Test.YtibkkdbjmcongaaDoorCards
import Derived.Deep.DeepHandedRow
import Derived.Lay
import Derived.LaidLaws
import Derived.SevenTiedAt
import Derived.Test.YtibkkdbjmcongaaDoorAddrH
import Derived.Lib.SmallJoins
namespace Go.Proofs.YtibkkdbjmcongaaDoor.addressOrder
open Go.ChangeShapes Go.WideShapes Go.ChangeAt Go.RowKit
open Go.ChangeMaps (open_string shut_string)
set_option linter.unusedVariables false


set_option maxRecDepth 100000 in
theorem lifted (os : Os) (started : os.Started) (H : Type) (enc : TypeId × Value → H) :
    ReturnsInHanded {} Tryd.checked os 10 .any ((OpenSpec.ofChange Rows.addressOrderSpec).preRow enc Tryd.prog Tryd.f10 Rows.addressOrderRow.domain false Rows.addressOrderRow.laid) (Rows.addressOrderSpec.post enc Tryd.prog Tryd.f10 false true false false) := by
  refine returnsInHanded_of_row (C := Tryd.checked) (s := OpenSpec.ofChange Rows.addressOrderSpec) (F := fun _ _ _ => 0) own started (by kernel_rfl) Tryd.func10
    (ChangeSpec.witness_shaped (enc := enc) (C := Tryd.checked) (os := os) (X := fun w _ => laidMetH Tryd.prog Rows.addressOrderRow.laid w) false (World.laidAll Tryd.prog os Rows.addressOrderRow.laid) #[.agg #[.string .empty, .string .empty], .agg #[.string .empty, .string .empty], .agg #[.string .empty, .string .empty]] 8 (World.laidAll_os _ _ _)
      (World.shaped_of_ZipB (by kernel_rfl) (by kernel_rfl)) (by kernel_rfl) (by kernel_rfl) (by kernel_rfl)
      (by rw [MakeChecks.laidMetH_plain _ _ _ (by kernel_rfl)]; exact laidMet_laidAll _ (by kernel_rfl) (by kernel_rfl))) ?_
  intro W base args ds gs before hval hW _ _ _ _ hsh _
  have hmax : MaxC W := Tryd.laysM144.s1_3 W hsh
  have hW' := hW
  obtain ⟨p, q, hA0, hV, rfl, hfz, hnd⟩ := hW
  have hA : DataW.TrodAll enc Tryd.prog W 0 (fun _ => true) true Tryd.f10.params.toList args.toList ds p := hA0
  rw [Tryd.params10] at hA hval
  obtain ⟨v0, vs0, d0, ds0, p0, q0, hargs, rfl, rfl, h0, r0⟩ := trodAll_cons hA
  obtain ⟨v1, vs1, d1, ds1, p1, q1, rfl, rfl, rfl, h1, r1⟩ := trodAll_cons r0
  obtain ⟨v2, vs2, d2, ds2, p2, q2, rfl, rfl, rfl, h2, r2⟩ := trodAll_cons r1
  obtain ⟨rfl, rfl, rfl⟩ := trodAll_nil r2
  obtain rfl : args = #[v0, v1, v2] := by cases args; simp_all
  obtain ⟨rfl, rfl⟩ := trodVars_none hV
  have k0 := h0
  have k1 := h1
  have k2 := h2
  obtain ⟨a0, b0, ya0, yb0, na0, rfl, rfl, rfl, ha0, hb0⟩ := Joins.open_agg2 Tryd.underlying35 (by kernel_rfl) (by kernel_rfl) (hval 0 35 v0 rfl rfl) h0
  obtain ⟨s0, es0, rfl, hs0⟩ := DataW.trod_string Tryd.underlying9 ha0
  obtain ⟨t0, et0, rfl, ht0⟩ := DataW.trod_string Tryd.underlying9 hb0
  obtain rfl : a0 = .string s0 := by simpa using es0
  obtain rfl : b0 = .string t0 := by simpa using et0
  obtain ⟨a1, b1, ya1, yb1, na1, rfl, rfl, rfl, ha1, hb1⟩ := Joins.open_agg2 Tryd.underlying35 (by kernel_rfl) (by kernel_rfl) (hval 1 35 v1 rfl rfl) h1
  obtain ⟨s1, es1, rfl, hs1⟩ := DataW.trod_string Tryd.underlying9 ha1
  obtain ⟨t1, et1, rfl, ht1⟩ := DataW.trod_string Tryd.underlying9 hb1
  obtain rfl : a1 = .string s1 := by simpa using es1
  obtain rfl : b1 = .string t1 := by simpa using et1
  obtain ⟨a2, b2, ya2, yb2, na2, rfl, rfl, rfl, ha2, hb2⟩ := Joins.open_agg2 Tryd.underlying35 (by kernel_rfl) (by kernel_rfl) (hval 2 35 v2 rfl rfl) h2
  obtain ⟨s2, es2, rfl, hs2⟩ := DataW.trod_string Tryd.underlying9 ha2
  obtain ⟨t2, et2, rfl, ht2⟩ := DataW.trod_string Tryd.underlying9 hb2
  obtain rfl : a2 = .string s2 := by simpa using es2
  obtain rfl : b2 = .string t2 := by simpa using et2
  clear hA0
  refine (law_order s0 t0 s1 t1 s2 t2 W hmax hs0 ht0 hs1 ht1 hs2 ht2).mono fun e W' ⟨he, hB⟩ => ?_
  subst he
  refine ⟨_, rfl, _, _, _, [] ++ [], _, [], hW', (trodAll_cons_mk (shut_bool Tryd.underlying4 _) trodAll_mk0), (trodAll_cons_mk (Below.trod laidOut (by kernel_rfl) (of_decide_eq_true (by kernel_rfl)) k0 hB (fun x hx => by simp at hx)) (trodAll_cons_mk (Below.trod laidOut (by kernel_rfl) (of_decide_eq_true (by kernel_rfl)) k1 hB (fun x hx => by simp at hx)) (trodAll_cons_mk (Below.trod laidOut (by kernel_rfl) (of_decide_eq_true (by kernel_rfl)) k2 hB (fun x hx => by simp at hx)) trodAll_mk0))), rfl, hB.frame _, fun h => by cases h⟩

theorem row_holds : Rows.AddressOrderSaid :=
  OpenClaim.holds_of_wide 10 Tryd.f10 rfl rfl rfl rfl rfl rfl rfl ⟨rfl, rfl, rfl, rfl, rfl⟩ rfl rfl rfl rfl rfl (by kernel_rfl) Tryd.func10 (by kernel_rfl)
    (of_decide_eq_true (by kernel_rfl)) (by unfold Func.isWrapper; first | (rw [if_pos (by decide +kernel)]; kernel_rfl) | (rw [if_neg (by decide +kernel)]; exact ⟨rfl, rfl⟩))
    (fun os started H enc _ => by rw [OpenClaim.pre_eq_preRow]; exact lifted os started H enc)

theorem proved : Rows.AddressOrderCardSaid :=
  Claim7.holds_tied_plain_at .later [] [.data, .pinned] true Rows.addressOrderCard.stood.harness false
    row_holds (fun _ h => by cases h) (by kernel_rfl) (fun _ h => by cases h) addressOrder_row_tie rfl ⟨rfl, rfl⟩ (by kernel_rfl) rfl
    (fun f fn hf hfn => by
      obtain rfl : f = 10 := Option.some.inj ((show Tryd.prog.funcNamed Rows.addressOrderRow.func = some 10 by kernel_rfl).symm.trans hf) |>.symm
      obtain rfl : fn = Tryd.f10 := (Option.some.inj (Tryd.func10.symm.trans hfn)).symm
      exact ⟨by kernel_rfl, fun j t ht => by
        rw [Tryd.params10] at ht
        have hm : t ∈ [35, 35, 35] := by simpa using Array.mem_of_getElem? ht
        have hall : ([35, 35, 35].all fun u => !Tryd.prog.wantsStandIn u) = true := by kernel_rfl
        exact (show Tryd.prog.wantsStandIn t = false by simpa using List.all_eq_true.1 hall t hm)⟩)
    (by kernel_rfl)
end Go.Proofs.YtibkkdbjmcongaaDoor.addressOrder
