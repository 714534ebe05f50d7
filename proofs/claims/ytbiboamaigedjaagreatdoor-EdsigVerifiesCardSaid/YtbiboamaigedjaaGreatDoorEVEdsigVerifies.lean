/- The law EdsigVerifies: for every input the call returns true, and each argument reads behind it as it read before. No condition is asked beside the row's own. -/
import Derived.Test.YtbiboamaigedjaaGreatDoorTie
import Derived.Test.YtbiboamaigedjaaGreatDoorCards
import Derived.Deep.DeepHandedRow
import Derived.Lay
import Derived.LaidLaws
import Derived.SevenTiedAt
import Derived.Test.YtbiboamaigedjaaGreatDoorEVF
namespace Go.Proofs.YtbiboamaigedjaaGreatDoor.edsigVerifies
open Go.ChangeShapes Go.WideShapes Go.ChangeAt Go.RowKit
open Go.ChangeMaps (open_string shut_string)
set_option linter.unusedVariables false

theorem QjU : Tryz.prog.cellsOf 5 = 1 := by kernel_rfl

set_option maxRecDepth 100000 in
theorem lifted (os : Os) (started : os.Started) (H : Type) (enc : TypeId × Value -> H) :
    ReturnsInHanded {} Tryz.checked os 4 .any ((OpenSpec.ofChange Rows.edsigVerifiesSpec).preRow enc Tryz.prog Tryz.f4 Rows.edsigVerifiesRow.domain false Rows.edsigVerifiesRow.laid) (Rows.edsigVerifiesSpec.post enc Tryz.prog Tryz.f4 false true false false) := by
  refine returnsInHanded_of_row (C := Tryz.checked) (s := OpenSpec.ofChange Rows.edsigVerifiesSpec) (F := fun _ _ _ => 0) Qls started (by kernel_rfl) Tryz.func4
    (ChangeSpec.witness_shaped (enc := enc) (C := Tryz.checked) (os := os) (X := fun w _ => laidMetH Tryz.prog Rows.edsigVerifiesRow.laid w) false (World.laidAll Tryz.prog os Rows.edsigVerifiesRow.laid) #[.agg (Array.replicate 32 (.int .u8 0)), .slice none 0 0, .agg (Array.replicate 64 (.int .u8 0))] 8 (World.laidAll_os _ _ _)
      (World.shaped_of_ZipB (by kernel_rfl) (by kernel_rfl)) (by kernel_rfl) (by kernel_rfl) (by kernel_rfl)
      (by rw [MakeChecks.laidMetH_plain _ _ _ (by kernel_rfl)]; exact laidMet_laidAll _ (by kernel_rfl) (by kernel_rfl))) ?_
  intro W base args ds gs before hval hW _ _ _ hL hsh _
  have hT : Hs gR [] W := Dk hL
  have hW' := hW
  obtain ⟨p, q, hA0, hV, rfl, hfz, hnd⟩ := hW
  have hA : DataW.TrodAll enc Tryz.prog W 0 (fun _ => true) true Tryz.f4.params.toList args.toList ds p := hA0
  rw [Tryz.params4] at hA hval
  obtain ⟨v0, vs0, d0, ds0, p0, q0, hargs, rfl, rfl, h0, r0⟩ := trodAll_cons hA
  obtain ⟨v1, vs1, d1, ds1, p1, q1, rfl, rfl, rfl, h1, r1⟩ := trodAll_cons r0
  obtain ⟨v2, vs2, d2, ds2, p2, q2, rfl, rfl, rfl, h2, r2⟩ := trodAll_cons r1
  obtain ⟨rfl, rfl, rfl⟩ := trodAll_nil r2
  obtain rfl : args = #[v0, v1, v2] := by cases args; simp_all
  obtain ⟨rfl, rfl⟩ := trodVars_none hV
  have k0 := h0
  have k1 := h1
  have k2 := h2
  obtain ⟨z0, rfl, hz0, rfl, hw0⟩ := Fe Tryz.underlying22 Tryz.underlying5 (by kernel_rfl) (by kernel_rfl) (by decide) h0
  obtain ⟨z1, hz1, hw1⟩ := Qhj Tryz.underlying23 Tryz.underlying5 QjU (hval 1 23 v1 rfl rfl) h1
  obtain ⟨z2, rfl, hz2, rfl, hw2⟩ := Fe Tryz.underlying26 Tryz.underlying5 (by kernel_rfl) (by kernel_rfl) (by decide) h2
  clear hA0
  refine (KE z0 v1 z1 z2 W hT (Gn hw0) hz0 hz1 (Gn hw1) (Gn hw2) hz2).mono fun e W' ⟨he, hB⟩ => ?_
  subst he
  refine ⟨_, rfl, _, _, _, [] ++ [], _, [], hW', (trodAll_cons_mk (shut_bool Tryz.underlying4 _) trodAll_mk0), (trodAll_cons_mk (Below.trod Ej (by kernel_rfl) (of_decide_eq_true (by kernel_rfl)) k0 hB (fun x hx => by cases hx)) (trodAll_cons_mk (Below.trod Ej (by kernel_rfl) (of_decide_eq_true (by kernel_rfl)) k1 hB (fun x hx => by have := hW'.lt x (by simp [hx]); simpa using this)) (trodAll_cons_mk (Below.trod Ej (by kernel_rfl) (of_decide_eq_true (by kernel_rfl)) k2 hB (fun x hx => by cases hx)) trodAll_mk0))), rfl, hB.frame _, fun h => by cases h⟩

theorem row_holds : Rows.EdsigVerifiesSaid :=
  OpenClaim.holds_of_wide 4 Tryz.f4 rfl rfl rfl rfl rfl rfl rfl ⟨rfl, rfl, rfl, rfl, rfl⟩ rfl rfl rfl rfl rfl (by kernel_rfl) Tryz.func4 (by kernel_rfl)
    (of_decide_eq_true (by kernel_rfl)) (by unfold Func.isWrapper; first | (rw [if_pos (by decide +kernel)]; kernel_rfl) | (rw [if_neg (by decide +kernel)]; exact ⟨rfl, rfl⟩))
    (fun os started H enc _ => by rw [OpenClaim.pre_eq_preRow]; exact lifted os started H enc)

theorem proved : Rows.EdsigVerifiesCardSaid :=
  Claim7.holds_tied_plain_at .later [] [.data, .data, .wider, .data, .data, .data, .data] true Rows.edsigVerifiesCard.stood.harness false
    row_holds (fun _ h => by cases h) (by kernel_rfl) (fun _ h => by cases h) edsigVerifies_row_tie rfl ⟨rfl, rfl⟩ (by kernel_rfl) rfl
    (fun f fn hf hfn => by
      obtain rfl : f = 4 := Option.some.inj ((show Tryz.prog.funcNamed Rows.edsigVerifiesRow.func = some 4 by kernel_rfl).symm.trans hf) |>.symm
      obtain rfl : fn = Tryz.f4 := (Option.some.inj (Tryz.func4.symm.trans hfn)).symm
      exact ⟨by kernel_rfl, fun j t ht => by
        rw [Tryz.params4] at ht
        have hm : t ∈ [22, 23, 26] := by simpa using Array.mem_of_getElem? ht
        have hall : ([22, 23, 26].all fun u => !Tryz.prog.wantsStandIn u) = true := by kernel_rfl
        exact (show Tryz.prog.wantsStandIn t = false by simpa using List.all_eq_true.1 hall t hm)⟩)
    (by kernel_rfl)
end Go.Proofs.YtbiboamaigedjaaGreatDoor.edsigVerifies
