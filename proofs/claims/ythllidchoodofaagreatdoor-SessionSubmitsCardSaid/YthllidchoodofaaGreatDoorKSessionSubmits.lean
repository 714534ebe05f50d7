/- The law SessionSubmits: for every input the call returns true, and each argument reads behind it as it read before. No condition is asked beside the row's own. -/
import Derived.Test.YthllidchoodofaaGreatDoorKF
namespace Go.Proofs.YthllidchoodofaaGreatDoor.sessionSubmits
open Go.ChangeShapes Go.WideShapes Go.ChangeAt Go.RowKit
open Go.ChangeMaps (open_string shut_string)
set_option linter.unusedVariables false

set_option maxRecDepth 100000 in
theorem lifted (os : Os) (started : os.Started) (H : Type) (enc : TypeId × Value → H) :
    ReturnsInHanded {} Tryz.checked os 3 .any ((OpenSpec.ofChange Rows.sessionSubmitsSpec).preRow enc Tryz.prog Tryz.f3 Rows.sessionSubmitsRow.domain false Rows.sessionSubmitsRow.laid) (Rows.sessionSubmitsSpec.post enc Tryz.prog Tryz.f3 false true false false) := by
  refine returnsInHanded_of_row (C := Tryz.checked) (s := OpenSpec.ofChange Rows.sessionSubmitsSpec) (F := fun _ _ _ => 0) own started (by kernel_rfl) Tryz.func3
    (ChangeSpec.witness_shaped (enc := enc) (C := Tryz.checked) (os := os) (X := fun w _ => laidMetH Tryz.prog Rows.sessionSubmitsRow.laid w) false (World.laidAll Tryz.prog os Rows.sessionSubmitsRow.laid) #[.slice none 0 0, .int .i64 0, .agg #[.int .i64 0, .string .empty, .string .empty, .string .empty, .string .empty, .int .i64 0, .int .i64 0, .int .i64 0, .bool false, .int .i64 0]] 8 (World.laidAll_os _ _ _)
      (World.shaped_of_ZipB (by kernel_rfl) (by kernel_rfl)) (by kernel_rfl) (by kernel_rfl) (by kernel_rfl)
      (by rw [MakeChecks.laidMetH_plain _ _ _ (by kernel_rfl)]; exact laidMet_laidAll _ (by kernel_rfl) (by kernel_rfl))) ?_
  intro W base args ds gs before hval hW _ _ hrch _ hsh _
  have hmax : MaxC W := Tryz.laysM219.s1_3 W hsh
  have hW' := hW
  obtain ⟨p, q, hA0, hV, rfl, hfz, hnd⟩ := hW
  have hA : DataW.TrodAll enc Tryz.prog W 0 (fun _ => true) true Tryz.f3.params.toList args.toList ds p := hA0
  rw [Tryz.params3] at hA hval
  obtain ⟨v0, vs0, d0, ds0, p0, q0, hargs, rfl, rfl, h0, r0⟩ := trodAll_cons hA
  obtain ⟨v1, vs1, d1, ds1, p1, q1, rfl, rfl, rfl, h1, r1⟩ := trodAll_cons r0
  obtain ⟨v2, vs2, d2, ds2, p2, q2, rfl, rfl, rfl, h2, r2⟩ := trodAll_cons r1
  obtain ⟨rfl, rfl, rfl⟩ := trodAll_nil r2
  obtain rfl : args = #[v0, v1, v2] := by cases args; simp_all
  obtain ⟨rfl, rfl⟩ := trodVars_none hV
  have k0 := h0
  have k1 := h1
  have k2 := h2
  obtain ⟨xs0, rd0, sz0⟩ := open_sess (hval 0 22 v0 rfl rfl) h0 (fun n hn => of_decide_eq_true (List.all_eq_true.1 hrch n (by simp only [DataW.weightsEach, List.cons_append, List.nil_append, Tryz.params3, List.mem_append]; exact .inl hn)))
  have sm0 : smallZ xs0 := fun b hb => (sz0 b hb).2.2
  obtain ⟨n1, rfl, rfl, rfl, hw1⟩ := open_int Tryz.underlying3 (hval 1 3 v1 rfl rfl) h1
  obtain ⟨b2, rfl, hw2⟩ := open_ses h2
  have key2 : ∀ n ∈ d2.weights Tryz.prog 26, n ≤ 140737488355328 := fun n hn => by
    have := of_decide_eq_true (List.all_eq_true.1 hrch n (by simp only [DataW.weightsEach, List.cons_append, List.nil_append, Tryz.params3, List.mem_append]; exact .inr (.inr (.inl hn))))
    unfold reachBytes at this
    omega
  have so2 : SzO b2 := ⟨key2 _ hw2.1, key2 _ hw2.2.1, key2 _ hw2.2.2⟩
  clear hA0
  refine Calls.mono (sessionSubmits_v xs0 n1 b2 v0 W [] (LL.nil _) rd0 ⟨hmax, by simp⟩ sz0) fun e W' ⟨v, he, hv, hB⟩ => ?_
  subst hv
  subst he
  refine ⟨_, rfl, _, _, _, [] ++ [], _, [], hW', (trodAll_cons_mk (shut_bool Tryz.underlying4 _) trodAll_mk0), (trodAll_cons_mk (Below.trod laidOut (by kernel_rfl) (of_decide_eq_true (by kernel_rfl)) k0 hB (fun x hx => by first | (cases hx; done) | (have := hW'.lt x (by simp [hx]); simpa using this))) (trodAll_cons_mk (Below.trod laidOut (by kernel_rfl) (of_decide_eq_true (by kernel_rfl)) k1 hB (fun x hx => by first | (cases hx; done) | (have := hW'.lt x (by simp [hx]); simpa using this))) (trodAll_cons_mk (Below.trod laidOut (by kernel_rfl) (of_decide_eq_true (by kernel_rfl)) k2 hB (fun x hx => by first | (cases hx; done) | (have := hW'.lt x (by simp [hx]); simpa using this))) trodAll_mk0))), rfl, hB.frame _, fun h => by cases h⟩
theorem row_holds : Rows.SessionSubmitsSaid :=
  OpenClaim.holds_of_wide 3 Tryz.f3 rfl rfl rfl rfl rfl rfl rfl ⟨rfl, rfl, rfl, rfl, rfl⟩ rfl rfl rfl rfl rfl (by kernel_rfl) Tryz.func3 (by kernel_rfl)
    (of_decide_eq_true (by kernel_rfl)) (by unfold Func.isWrapper; first | (rw [if_pos (by decide +kernel)]; kernel_rfl) | (rw [if_neg (by decide +kernel)]; exact ⟨rfl, rfl⟩))
    (fun os started H enc _ => by rw [OpenClaim.pre_eq_preRow]; exact lifted os started H enc)
theorem proved : Rows.SessionSubmitsCardSaid :=
  Claim7.holds_tied_plain_at .later [] [.data, .pinned] true Rows.sessionSubmitsCard.stood.harness false
    row_holds (fun _ h => by cases h) (by kernel_rfl) (fun _ h => by cases h) sessionSubmits_row_tie rfl ⟨rfl, rfl⟩ (by kernel_rfl) rfl
    (fun f fn hf hfn => by
      obtain rfl : f = 3 := Option.some.inj ((show Tryz.prog.funcNamed Rows.sessionSubmitsRow.func = some 3 by kernel_rfl).symm.trans hf) |>.symm
      obtain rfl : fn = Tryz.f3 := (Option.some.inj (Tryz.func3.symm.trans hfn)).symm
      exact ⟨by kernel_rfl, fun j t ht => by
        rw [Tryz.params3] at ht
        have hm : t ∈ [22, 3, 26] := by simpa using Array.mem_of_getElem? ht
        have hall : ([22, 3, 26].all fun u => !Tryz.prog.wantsStandIn u) = true := by kernel_rfl
        exact (show Tryz.prog.wantsStandIn t = false by simpa using List.all_eq_true.1 hall t hm)⟩)
    (by kernel_rfl)
end Go.Proofs.YthllidchoodofaaGreatDoor.sessionSubmits
