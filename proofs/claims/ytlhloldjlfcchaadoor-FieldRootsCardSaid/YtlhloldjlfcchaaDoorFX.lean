/- The reference's root. -/
import Derived.Test.YtlhloldjlfcchaaDoorFW
import Derived.Test.YtlhloldjlfcchaaDoorRootM
namespace Go.Proofs.YtlhloldjlfcchaaDoor
open Go.RowKit Go.Shelf
set_option linter.unusedVariables false
set_option maxRecDepth 8000

def esL : List Int := [18446744073709551614, 18446744073709551615, 18446744073709551615, 1152921504606846975]
def qsL : List Int := [18446744073709551611, 18446744073709551615, 18446744073709551615, 2305843009213693951]
def ttL : List Int := [2, 0, 0, 0]
def zzL : List Int := [0, 0, 0, 0]
theorem built_es : Tryd.prog.built 35 [(0, .int .u64 18446744073709551614), (1, .int .u64 18446744073709551615), (2, .int .u64 18446744073709551615), (3, .int .u64 1152921504606846975)] = some (esL.map (Value.int .u64)).toArray := by kernel_rfl
theorem built_qs : Tryd.prog.built 35 [(0, .int .u64 18446744073709551611), (1, .int .u64 18446744073709551615), (2, .int .u64 18446744073709551615), (3, .int .u64 2305843009213693951)] = some (qsL.map (Value.int .u64)).toArray := by kernel_rfl
theorem built_tt : Tryd.prog.built 35 [(0, .int .u64 2)] = some (ttL.map (Value.int .u64)).toArray := by kernel_rfl
theorem built_zz : Tryd.prog.built 35 [] = some (zzL.map (Value.int .u64)).toArray := by kernel_rfl
theorem esL_num : esL = numW 4 (valB (powN 254 15) 32) := by decide +kernel
theorem qsL_num : qsL = numW 4 ((kN : Nat) : Int) := by decide +kernel
theorem ttL_num : ttL = numW 4 2 := by decide +kernel
theorem zzL_num : zzL = numW 4 0 := by decide +kernel
theorem es_lt : 0 ≤ valB (powN 254 15) 32 ∧ valB (powN 254 15) 32 < 2 ^ 256 := by decide +kernel
theorem qs_lt : 0 ≤ ((kN : Nat) : Int) ∧ ((kN : Nat) : Int) < 2 ^ 256 := by decide +kernel
theorem two_kN : (2 : Int) ^ kN % pV = iV := by
  have h : pmo pN 2 256 kN = 2 ^ kN % pN := pmo_eq _ _ _ _ (by decide +kernel)
  have h2 : ((2 ^ kN % pN : Nat) : Int) = iV := by rw [← h]; decide +kernel
  rw [← h2, Int.natCast_emod, Int.natCast_pow, pV_nat]
  rfl
theorem odd_numW {c : Int} (h : 0 ≤ c) : bits BinOp.and IntKind.u64 (at0 (numW 4 c) 0) 1 = c % 2 := by
  have h0 := (numW_words 4 c).at 0
  rw [u64_and_one h0.1 h0.2]
  have e : at0 (numW 4 c) 0 = c / 2 ^ (64 * 0) % 18446744073709551616 := rfl
  rw [e, Nat.mul_zero, Int.pow_zero, Int.ediv_one]
  omega
theorem numW_inj {u v : Int} (hu : 0 ≤ u ∧ u < 2 ^ 256) (hv : 0 ≤ v ∧ v < 2 ^ 256) : decide (numW 4 u = numW 4 v) = decide (u = v) := by
  refine decide_eq_decide.2 ⟨fun h => ?_, fun h => by rw [h]⟩
  rw [← numW_val hu.1 hu.2, h, numW_val hv.1 hv.2]
theorem ref_square_v (u : Int) (w : World) (hu : 0 ≤ u ∧ u < pV) :
    Calls Tryd.prog 45 #[aggI .u64 (numW 4 u)] w fun e w' => e = .returned (.tuple #[aggI .u64 (numW 4 (rV u)), .bool (okV u)]) ∧ Below w.heap.size w w' := by
  have hp := pV_lt
  have nl := numW_length
  have l0 := rt0_lt u
  have l1 := rt1_lt u
  have HT0 := fun W => ref_take_v u (valB (powN 254 15) 32) W (by omega) es_lt
  rw [show u ^ (valB (powN 254 15) 32).toNat % pV = rt0 u from rfl, ← esL_num] at HT0
  have HP0 := fun W => ref_prod_v (rt0 u) (rt0 u) W (by omega) (by omega)
  have HT1 := fun W => ref_take_v 2 ((kN : Nat) : Int) W (by omega) qs_lt
  rw [Int.toNat_natCast, two_kN, ← qsL_num, ← ttL_num] at HT1
  have hi : 0 ≤ iV ∧ iV < 2 ^ 256 := by decide +kernel
  have HP1 := fun W => ref_prod_v (rt0 u) iV W (by omega) hi
  rw [show rt0 u * iV % pV = rt1 u from rfl] at HP1
  have HP2 := fun W => ref_prod_v (rt1 u) (rt1 u) W (by omega) (by omega)
  have s0 := pV_mod (rt0 u * rt0 u)
  have s1 := pV_mod (rt1 u * rt1 u)
  have hs0 : decide (numW 4 (rt0 u * rt0 u % pV) = numW 4 u) = sq0 u := numW_inj (by omega) (by omega)
  have hs1 : decide (numW 4 (rt1 u * rt1 u % pV) = numW 4 u) = sq1 u := numW_inj (by omega) (by omega)
  have HN0 := fun W => ref_diff_v 0 (rt0 u) W (by decide +kernel) l0
  have HN1 := fun W => ref_diff_v 0 (rt1 u) W (by decide +kernel) l1
  rw [← zzL_num] at HN0 HN1
  have o0 := odd_numW l0.1
  have o1 := odd_numW l1.1
  have hok : okV u = (sq0 u || sq1 u) := rfl
  cases h0 : sq0 u
  · rw [h0] at hs0 hok
    cases h1 : sq1 u
    · rw [h1] at hs1 hok
      rw [hok, show rV u = 0 by simp [rV, h0, h1], ← zzL_num]
      exact square_n (numW 4 u) zzL esL qsL ttL _ _ _ _ _ zzL w built_zz built_es built_qs built_tt (nl _ _) rfl rfl rfl rfl (nl _ _) (nl _ _) (nl _ _) (nl _ _) (nl _ _) rfl HT0 HP0 HT1 HP1 HP2 hs0 hs1
    · rw [h1] at hs1 hok
      rw [hok]
      by_cases h2 : rt1 u % 2 = 1
      · rw [show rV u = (0 - rt1 u) % pV by simp [rV, h0, h1, evenV, h2]]
        exact square_bt (numW 4 u) zzL esL qsL ttL _ _ _ _ _ _ w built_zz built_es built_qs built_tt (nl _ _) rfl rfl rfl rfl (nl _ _) (nl _ _) (nl _ _) (nl _ _) (nl _ _) (nl _ _) HT0 HP0 HT1 HP1 HP2 hs0 hs1 (Lib.hid (by rw [o1, h2])) HN1
      · rw [show rV u = rt1 u by simp [rV, h0, h1, evenV, h2]]
        exact square_bf (numW 4 u) zzL esL qsL ttL _ _ _ _ _ zzL w built_zz built_es built_qs built_tt (nl _ _) rfl rfl rfl rfl (nl _ _) (nl _ _) (nl _ _) (nl _ _) (nl _ _) rfl HT0 HP0 HT1 HP1 HP2 hs0 hs1 (Lib.hid (by rw [o1]; omega))
  · rw [h0] at hs0 hok
    rw [hok]
    by_cases h2 : rt0 u % 2 = 1
    · rw [show rV u = (0 - rt0 u) % pV by simp [rV, h0, evenV, h2]]
      exact square_at (numW 4 u) zzL esL qsL ttL _ _ zzL zzL zzL _ w built_zz built_es built_qs built_tt (nl _ _) rfl rfl rfl rfl (nl _ _) (nl _ _) rfl rfl rfl (nl _ _) HT0 HP0 hs0 (Lib.hid (by rw [o0, h2])) HN0
    · rw [show rV u = rt0 u by simp [rV, h0, evenV, h2]]
      exact square_af (numW 4 u) zzL esL qsL ttL _ _ zzL zzL zzL zzL w built_zz built_es built_qs built_tt (nl _ _) rfl rfl rfl rfl (nl _ _) (nl _ _) rfl rfl rfl rfl HT0 HP0 hs0 (Lib.hid (by rw [o0]; omega))
set_option maxHeartbeats 1000000 in
theorem ref_root_walk (xb us vs rs rb : List Int) (ok : Bool) (w : World) (hxl : xb.length = 32) (hrs : rs.length = 4) (hrb : rb.length = 32)
    (LX : ∀ W, Calls Tryd.prog 34 #[aggI .u8 xb] W fun e w' => e = .returned (aggI .u64 us) ∧ Below W.heap.size W w')
    (CX : ∀ W, Calls Tryd.prog 33 #[aggI .u64 us] W fun e w' => e = .returned (aggI .u64 vs) ∧ Below W.heap.size W w')
    (SQ : ∀ W, Calls Tryd.prog 45 #[aggI .u64 vs] W fun e w' => e = .returned (.tuple #[aggI .u64 rs, .bool ok]) ∧ Below W.heap.size W w')
    (BY : ∀ W, Calls Tryd.prog 27 #[aggI .u64 rs] W fun e w' => e = .returned (aggI .u8 rb) ∧ Below W.heap.size W w') :
    Calls Tryd.prog 26 #[aggI .u8 xb] w fun e w' => e = .returned (.tuple #[aggI .u8 rb, .bool ok]) ∧ Below w.heap.size w w' := by
  go_enter Tryd.func26, Tryd.ntmps26
  go_wp2_with (first
    | (with_reducible refine at_op (o := ⟨some 1, _, _, _, _, _⟩) ?_; refine wpList_boxI rfl 22 _ rfl .u8 xb rfl ?_; intro w1 A1 s1 b1; have BB := b1; have y1 := BB.size)
    | (with_reducible refine at_op (o := ⟨some 2, _, _, _, _, _⟩) ?_; refine wpList_allocI rfl 22 rfl .u8 32 zero_a32 ?_; intro w2 A2 s2 b2; have q2A1 := A1.lt; replace A1 := A1.below b2; replace BB := below_then BB b2; have y2 := BB.size)
    | (with_reducible refine at_op (o := ⟨some 7, _, _, _, _, _⟩) ?_; refine wpList_val (fun R hR => Does.loadI rfl 22 _ rfl 32 5 und_a32 info_a32 (w.heap.size) rfl .u8 (xb) (A1) (hxl) hR) ?_)
    | (with_reducible refine at_op (o := ⟨some 4, _, _, _, _, _⟩) ?_; refine wpList_allocI rfl 35 rfl .u64 4 zero_num ?_; intro w6 A6 s6 b6; have q6A1 := A1.lt; have q6A2 := A2.lt; replace A1 := A1.below b6; replace A2 := A2.below b6; replace BB := below_then BB b6; have y6 := BB.size)
    | (with_reducible refine at_op (o := ⟨_, .store 35 (.tmp 4) _, _, _, _, _⟩) ?_; refine wpList_storeI rfl 35 _ _ rfl 4 info_num (w5.heap.size) rfl .u64 _ (rs) rfl (A6) (rfl) (hrs) ?_; intro D7; replace A1 := A1.rowOther (B' := w5.heap.size) (by omega) ((rs).map (Value.int .u64)).toArray; replace A2 := A2.rowOther (B' := w5.heap.size) (by omega) ((rs).map (Value.int .u64)).toArray; replace BB := Below.setRow BB (g := w5.heap.size) (by omega) ((rs).map (Value.int .u64)).toArray; clear A6; have A6 := D7)
    | (with_reducible refine at_op (o := ⟨some 13, _, _, _, _, _⟩) ?_; refine wpList_val (fun R hR => Does.loadI rfl 35 _ rfl 4 33 und_num info_num (w5.heap.size) rfl .u64 (rs) (A6) (hrs) hR) ?_)
    | (with_reducible refine at_op (o := ⟨_, .store 22 (.tmp 2) _, _, _, _, _⟩) ?_; refine wpList_storeI rfl 22 _ _ rfl 32 info_a32 (w1.heap.size) rfl .u8 _ (rb) rfl (A2) (rfl) (hrb) ?_; intro D9; replace A1 := A1.rowOther (B' := w1.heap.size) (by omega) ((rb).map (Value.int .u8)).toArray; replace A6 := A6.rowOther (B' := w1.heap.size) (by omega) ((rb).map (Value.int .u8)).toArray; replace BB := Below.setRow BB (g := w1.heap.size) (by omega) ((rb).map (Value.int .u8)).toArray; clear A2; have A2 := D9)
    | (go_at_call 34; first | ((with_reducible refine (LX _).mono ?_); rintro e w3 ⟨rfl, b3⟩; replace A1 := A1.below b3; replace A2 := A2.below b3; replace BB := below_then BB b3; have z3 := BB.size))
    | (go_at_call 33; first | ((with_reducible refine (CX _).mono ?_); rintro e w4 ⟨rfl, b4⟩; replace A1 := A1.below b4; replace A2 := A2.below b4; replace BB := below_then BB b4; have z4 := BB.size))
    | (go_at_call 45; first | ((with_reducible refine (SQ _).mono ?_); rintro e w5 ⟨rfl, b5⟩; replace A1 := A1.below b5; replace A2 := A2.below b5; replace BB := below_then BB b5; have z5 := BB.size))
    | (go_at_call 27; first | ((with_reducible refine (BY _).mono ?_); rintro e w8 ⟨rfl, b8⟩; replace A1 := A1.below b8; replace A2 := A2.below b8; replace A6 := A6.below b8; replace BB := below_then BB b8; have z8 := BB.size)))
  refine bodyPost_ret (results_cell_tmpI rfl _ 32 5 und_a32 info_a32 (w1.heap.size) rfl .u8 _ A2 hrb) rfl ?_
  exact ⟨rfl, BB⟩
theorem ref_root_v (xb : List Int) (w : World) (hxb : Bytes xb) (hxl : xb.length = 32) :
    Calls Tryd.prog 26 #[aggI .u8 xb] w fun e w' => e = .returned (.tuple #[aggI .u8 (numB (rV (valB xb 32 % pV))), .bool (okV (valB xb 32 % pV))]) ∧ Below w.heap.size w w' :=
  ref_root_walk xb _ _ _ _ _ w hxl (numW_length _ _) (numB_length _) (fun W => ref_load_v xb W hxb hxl) (fun W => ref_cut_v _ W (valB_32 xb hxb)) (fun W => ref_square_v _ W (pV_mod _)) (fun W => ref_bytes_v _ W)
end Go.Proofs.YtlhloldjlfcchaaDoor
