/- The law AddressMakes: for every input the call returns true, and each argument reads behind it as it read before. No condition is asked beside the row's own. -/
import Derived.Test.YtibkkdbjmcongaaDoorClose
import Derived.Test.YtibkkdbjmcongaaDoorTie
import Derived.Test.YtibkkdbjmcongaaDoorCards
import Derived.Deep.DeepHandedRow
import Derived.Lay
import Derived.LaidLaws
import Derived.SevenTiedAt
import Derived.Test.YtibkkdbjmcongaaDoorAddrL
import Derived.Lib.SmallJoins
namespace Go.Proofs.YtibkkdbjmcongaaDoor.addressMakes
open Go.ChangeShapes Go.WideShapes Go.ChangeAt Go.RowKit
open Go.ChangeMaps (open_string shut_string)
set_option linter.unusedVariables false


set_option maxRecDepth 100000 in
theorem lifted (os : Os) (started : os.Started) (H : Type) (enc : TypeId × Value → H) :
    ReturnsInHanded {} Tryd.checked os 8 .any ((OpenSpec.ofChange Rows.addressMakesSpec).preRow enc Tryd.prog Tryd.f8 Rows.addressMakesRow.domain false Rows.addressMakesRow.laid) (Rows.addressMakesSpec.post enc Tryd.prog Tryd.f8 false true false false) := by
  refine returnsInHanded_of_row (C := Tryd.checked) (s := OpenSpec.ofChange Rows.addressMakesSpec) (F := fun _ _ _ => 0) own started (by kernel_rfl) Tryd.func8
    (ChangeSpec.witness_shaped (enc := enc) (C := Tryd.checked) (os := os) (X := fun w _ => laidMetH Tryd.prog Rows.addressMakesRow.laid w) false (World.laidAll Tryd.prog os Rows.addressMakesRow.laid) #[.agg #[.string .empty, .string .empty], .agg #[.string .empty, .string .empty]] 8 (World.laidAll_os _ _ _)
      (World.shaped_of_ZipB (by kernel_rfl) (by kernel_rfl)) (by kernel_rfl) (by kernel_rfl) (by kernel_rfl)
      (by rw [MakeChecks.laidMetH_plain _ _ _ (by kernel_rfl)]; exact laidMet_laidAll _ (by kernel_rfl) (by kernel_rfl))) ?_
  intro W base args ds gs before hval hW _ _ hrch _ hsh _
  have hmax : MaxC W := Tryd.laysM144.s1_3 W hsh
  have hW' := hW
  obtain ⟨p, q, hA0, hV, rfl, hfz, hnd⟩ := hW
  have hA : DataW.TrodAll enc Tryd.prog W 0 (fun _ => true) true Tryd.f8.params.toList args.toList ds p := hA0
  rw [Tryd.params8] at hA hval
  obtain ⟨v0, vs0, d0, ds0, p0, q0, hargs, rfl, rfl, h0, r0⟩ := trodAll_cons hA
  obtain ⟨v1, vs1, d1, ds1, p1, q1, rfl, rfl, rfl, h1, r1⟩ := trodAll_cons r0
  obtain ⟨rfl, rfl, rfl⟩ := trodAll_nil r1
  obtain rfl : args = #[v0, v1] := by cases args; simp_all
  obtain ⟨rfl, rfl⟩ := trodVars_none hV
  have k0 := h0
  have k1 := h1
  obtain ⟨a0, b0, ya0, yb0, na0, rfl, rfl, rfl, ha0, hb0⟩ := Joins.open_agg2 Tryd.underlying35 (by kernel_rfl) (by kernel_rfl) (hval 0 35 v0 rfl rfl) h0
  obtain ⟨s0, es0, rfl, hs0⟩ := DataW.trod_string Tryd.underlying9 ha0
  obtain ⟨t0, et0, rfl, ht0⟩ := DataW.trod_string Tryd.underlying9 hb0
  obtain rfl : a0 = .string s0 := by simpa using es0
  obtain rfl : b0 = .string t0 := by simpa using et0
  obtain ⟨a1, b1, ya1, yb1, na1, rfl, rfl, rfl, ha1, hb1⟩ := Joins.open_agg2 Tryd.underlying35 (by kernel_rfl) (by kernel_rfl) (hval 1 35 v1 rfl rfl) h1
  obtain ⟨s1, es1, rfl, hs1⟩ := DataW.trod_string Tryd.underlying9 ha1
  obtain ⟨t1, et1, rfl, ht1⟩ := DataW.trod_string Tryd.underlying9 hb1
  obtain rfl : a1 = .string s1 := by simpa using es1
  obtain rfl : b1 = .string t1 := by simpa using et1
  have rch0 : s0.size ≤ 140737488355328 := by
    have hu : Tryd.checked.prog.underlying 35 = Tryd.prog.underlying 35 := rfl
    rw [Tryd.underlying35] at hu
    have hm := List.all_eq_true.1 hrch s0.data.toList.length (by simp [DataW.weightsEach, DataW.weights, Tryd.params8, hu])
    have hm2 : s0.data.toList.length ≤ reachBytes := of_decide_eq_true hm
    have hm3 : s0.data.toList.length = s0.size := Array.length_toList
    unfold reachBytes at hm2
    omega
  have rch1 : s1.size ≤ 140737488355328 := by
    have hu : Tryd.checked.prog.underlying 35 = Tryd.prog.underlying 35 := rfl
    rw [Tryd.underlying35] at hu
    have hm := List.all_eq_true.1 hrch s1.data.toList.length (by simp [DataW.weightsEach, DataW.weights, Tryd.params8, hu])
    have hm2 : s1.data.toList.length ≤ reachBytes := of_decide_eq_true hm
    have hm3 : s1.data.toList.length = s1.size := Array.length_toList
    unfold reachBytes at hm2
    omega
  clear hA0
  refine (law_makes s0 t0 s1 t1 W hmax hs0 ht0 hs1 ht1 rch0).mono fun e W' ⟨he, hB⟩ => ?_
  subst he
  refine ⟨_, rfl, _, _, _, [] ++ [], _, [], hW', (trodAll_cons_mk (shut_bool Tryd.underlying4 _) trodAll_mk0), (trodAll_cons_mk (Below.trod laidOut (by kernel_rfl) (of_decide_eq_true (by kernel_rfl)) k0 hB (fun x hx => by simp at hx)) (trodAll_cons_mk (Below.trod laidOut (by kernel_rfl) (of_decide_eq_true (by kernel_rfl)) k1 hB (fun x hx => by simp at hx)) trodAll_mk0)), rfl, hB.frame _, fun h => by cases h⟩

theorem row_holds : Rows.AddressMakesSaid :=
  OpenClaim.holds_of_wide 8 Tryd.f8 rfl rfl rfl rfl rfl rfl rfl ⟨rfl, rfl, rfl, rfl, rfl⟩ rfl rfl rfl rfl rfl (by kernel_rfl) Tryd.func8 (by kernel_rfl)
    (of_decide_eq_true (by kernel_rfl)) (by unfold Func.isWrapper; first | (rw [if_pos (by decide +kernel)]; kernel_rfl) | (rw [if_neg (by decide +kernel)]; exact ⟨rfl, rfl⟩))
    (fun os started H enc _ => by rw [OpenClaim.pre_eq_preRow]; exact lifted os started H enc)

theorem proved : Rows.AddressMakesCardSaid :=
  Claim7.holds_tied_plain_at .later [] [.data, .pinned] true Rows.addressMakesCard.stood.harness false
    row_holds (fun _ h => by cases h) (by kernel_rfl) (fun _ h => by cases h) addressMakes_row_tie rfl ⟨rfl, rfl⟩ (by kernel_rfl) rfl
    (fun f fn hf hfn => by
      obtain rfl : f = 8 := Option.some.inj ((show Tryd.prog.funcNamed Rows.addressMakesRow.func = some 8 by kernel_rfl).symm.trans hf) |>.symm
      obtain rfl : fn = Tryd.f8 := (Option.some.inj (Tryd.func8.symm.trans hfn)).symm
      exact ⟨by kernel_rfl, fun j t ht => by
        rw [Tryd.params8] at ht
        have hm : t ∈ [35, 35] := by simpa using Array.mem_of_getElem? ht
        have hall : ([35, 35].all fun u => !Tryd.prog.wantsStandIn u) = true := by kernel_rfl
        exact (show Tryd.prog.wantsStandIn t = false by simpa using List.all_eq_true.1 hall t hm)⟩)
    (by kernel_rfl)
end Go.Proofs.YtibkkdbjmcongaaDoor.addressMakes
