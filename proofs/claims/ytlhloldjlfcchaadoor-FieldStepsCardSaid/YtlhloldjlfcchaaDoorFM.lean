/- The root in package field: of limbs, of bytes. -/
import Derived.Test.YtlhloldjlfcchaaDoorFL
namespace Go.Proofs.YtlhloldjlfcchaaDoor
open Go.RowKit Go.Shelf
set_option linter.unusedVariables false
set_option maxRecDepth 8000

def rootL : List Int := [1718705420411056, 234908883556509, 2233514472574048, 2117202627021982, 765476049583133]
theorem rootL_agg : aggI .u64 rootL = .agg #[.int .u64 1718705420411056, .int .u64 234908883556509, .int .u64 2233514472574048, .int .u64 2117202627021982, .int .u64 765476049583133] := rfl
/-- The root of -1. -/
def iV : Int := valL rootL % pV
theorem rootL_fel : Fel rootL iV := ⟨rfl, small_of5 (by omega) (by omega) (by omega) (by omega) (by omega), rfl⟩
def rt0 (u : Int) : Int := u ^ (valB (powN 254 15) 32).toNat % pV
def rt1 (u : Int) : Int := rt0 u * iV % pV
def sq0 (u : Int) : Bool := decide (rt0 u * rt0 u % pV = u)
def sq1 (u : Int) : Bool := decide (rt1 u * rt1 u % pV = u)
/-- Is there a root? -/
def okV (u : Int) : Bool := sq0 u || sq1 u
/-- The even one of a number and its negative. -/
def evenV (c : Int) : Int := if c % 2 = 1 then (0 - c) % pV else c
def rV (u : Int) : Int := if sq0 u then evenV (rt0 u) else if sq1 u then evenV (rt1 u) else 0
/-- The variable rootOfMinusOne holds what the program gave it. -/
structure Tab (w : World) : Prop where
  g0 : w.cell? ⟨0, 0, none⟩ = some (.int .u64 1718705420411056)
  g1 : w.cell? ⟨0, 1, none⟩ = some (.int .u64 234908883556509)
  g2 : w.cell? ⟨0, 2, none⟩ = some (.int .u64 2233514472574048)
  g3 : w.cell? ⟨0, 3, none⟩ = some (.int .u64 2117202627021982)
  g4 : w.cell? ⟨0, 4, none⟩ = some (.int .u64 765476049583133)
theorem Tab.below {w w' : World} (h : Tab w) (hb : Below w.heap.size w w') : Tab w' :=
  ⟨Go.Lib.Below.cellOf hb h.g0 (Nat.le_refl _), Go.Lib.Below.cellOf hb h.g1 (Nat.le_refl _), Go.Lib.Below.cellOf hb h.g2 (Nat.le_refl _), Go.Lib.Below.cellOf hb h.g3 (Nat.le_refl _), Go.Lib.Below.cellOf hb h.g4 (Nat.le_refl _)⟩
theorem root_any (xs : List Int) (u : Int) (w : World) (hx : Fel xs u) (hT : Tab w) :
    Calls Tryd.prog 44 #[aggI .u64 xs] w fun e w' => (∃ zs, e = .returned (.tuple #[aggI .u64 zs, .bool (okV u)]) ∧ Fel zs (rV u)) ∧ Below w.heap.size w w' := by
  have hc0 : Fel (powS xs (powN 254 15) 256) (rt0 u) := powS_last hx powN_root
  have PW := fun W => power_any xs (powN 254 15) u W hx powN_root (by simp [powN])
  generalize powS xs (powN 254 15) 256 = c0 at *
  have hc1 : Fel (carriedS (timesL c0 rootL)) (rt1 u) := times_fel hc0 rootL_fel
  have T1 := fun W => times_any c0 rootL W hc0.small rootL_fel.small hc0.len rootL_fel.len
  generalize carriedS (timesL c0 rootL) = c1 at *
  rw [rootL_agg] at T1
  have hs0 := times_fel hc0 hc0
  have hs1 := times_fel hc1 hc1
  have hn0 := minus_fel zero_fel hc0
  have hn1 := minus_fel zero_fel hc1
  have T0 := fun W => times_any c0 c0 W hc0.small hc0.small hc0.len hc0.len
  have T2 := fun W => times_any c1 c1 W hc1.small hc1.small hc1.len hc1.len
  have N0 := fun W => negative_any c0 _ W hc0
  have N1 := fun W => negative_any c1 _ W hc1
  have S0 := fun W => same_any _ xs _ u W hs0 hx
  have S1 := fun W => same_any _ xs _ u W hs1 hx
  have O0 := fun W => odd_any c0 _ W hc0
  have O1 := fun W => odd_any c1 _ W hc1
  have key : ∀ rl : List Int, (sq0 u = true → decide (rt0 u % 2 = 1) = true → rl = carriedS (minusL [0, 0, 0, 0, 0] c0) ∧ okV u = true) → (sq0 u = true → decide (rt0 u % 2 = 1) = false → rl = c0 ∧ okV u = true) →
      (sq0 u = false → sq1 u = true → decide (rt1 u % 2 = 1) = true → rl = carriedS (minusL [0, 0, 0, 0, 0] c1) ∧ okV u = true) → (sq0 u = false → sq1 u = true → decide (rt1 u % 2 = 1) = false → rl = c1 ∧ okV u = true) →
      (sq0 u = false → sq1 u = false → rl = [0, 0, 0, 0, 0] ∧ okV u = false) → Fel rl (rV u) →
      Calls Tryd.prog 44 #[aggI .u64 xs] w fun e w' => (∃ zs, e = .returned (.tuple #[aggI .u64 zs, .bool (okV u)]) ∧ Fel zs (rV u)) ∧ Below w.heap.size w w' := by
    intro rl h1 h2 h3 h4 h5 hf
    refine (root_walk (sq0 u) (sq1 u) (okV u) (decide (rt0 u % 2 = 1)) (decide (rt1 u % 2 = 1)) xs c0 _ c1 _ _ _ rl w hx.len hc0.len hc1.len hn0.len hn1.len PW T0 S0 T1 T2 S1 O0 O1 N0 N1 (Lib.hid h1) (Lib.hid h2) (Lib.hid h3) (Lib.hid h4) (Lib.hid h5) hT.g0 hT.g1 hT.g2 hT.g3 hT.g4).mono ?_
    rintro e w' ⟨he, hb⟩
    exact ⟨⟨rl, he, hf⟩, hb⟩
  clear PW T0 T1 T2 N0 N1 S0 S1 O0 O1
  have hv : okV u = (sq0 u || sq1 u) := rfl
  cases h0 : sq0 u
  · cases h1 : sq1 u
    · refine key [0, 0, 0, 0, 0] (fun h => by simp [h0] at h) (fun h => by simp [h0] at h) (fun _ h => by simp [h1] at h) (fun _ h => by simp [h1] at h) (fun _ _ => ⟨rfl, by rw [hv, h0, h1]; rfl⟩) ?_
      have e : rV u = 0 := by simp [rV, h0, h1]
      rw [e]; exact zero_fel
    · by_cases h2 : rt1 u % 2 = 1
      · refine key _ (fun h => by simp [h0] at h) (fun h => by simp [h0] at h) (fun _ _ _ => ⟨rfl, by rw [hv, h0, h1]; rfl⟩) (fun _ _ h => by simp [h2] at h) (fun _ h => by simp [h1] at h) ?_
        have e : rV u = (0 - rt1 u) % pV := by simp [rV, h0, h1, evenV, h2]
        rw [e]; exact hn1
      · refine key _ (fun h => by simp [h0] at h) (fun h => by simp [h0] at h) (fun _ _ h => by simp [h2] at h) (fun _ _ _ => ⟨rfl, by rw [hv, h0, h1]; rfl⟩) (fun _ h => by simp [h1] at h) ?_
        have e : rV u = rt1 u := by simp [rV, h0, h1, evenV, h2]
        rw [e]; exact hc1
  · by_cases h2 : rt0 u % 2 = 1
    · refine key _ (fun _ _ => ⟨rfl, by rw [hv, h0]; rfl⟩) (fun _ h => by simp [h2] at h) (fun h => by simp [h0] at h) (fun h => by simp [h0] at h) (fun h => by simp [h0] at h) ?_
      have e : rV u = (0 - rt0 u) % pV := by simp [rV, h0, evenV, h2]
      rw [e]; exact hn0
    · refine key _ (fun _ h => by simp [h2] at h) (fun _ _ => ⟨rfl, by rw [hv, h0]; rfl⟩) (fun h => by simp [h0] at h) (fun h => by simp [h0] at h) (fun h => by simp [h0] at h) ?_
      have e : rV u = rt0 u := by simp [rV, h0, evenV, h2]
      rw [e]; exact hc0
set_option maxHeartbeats 4000000 in
theorem root_v (xb : List Int) (w : World) (hxb : Bytes xb) (hxl : xb.length = 32) (hT : Tab w) :
    Calls Tryd.prog 25 #[aggI .u8 xb] w fun e w' => e = .returned (.tuple #[aggI .u8 (numB (rV (valB xb 32 % pV))), .bool (okV (valB xb 32 % pV))]) ∧ Below w.heap.size w w' := by
  have LX := fun W => load_any xb W hxb hxl
  have RT := fun W => root_any _ _ W (loadL_fel xb hxb)
  generalize valB xb 32 % pV = u at *
  generalize carriedS (loadL xb) = xs at *
  generalize rV u = v at *
  generalize okV u = ok at *
  go_enter Tryd.func25, Tryd.ntmps25
  go_wp2_with (first
    | (with_reducible refine at_op (o := ⟨some 1, _, _, _, _, _⟩) ?_; refine wpList_boxI rfl 22 _ rfl .u8 xb rfl ?_; intro w1 A1 s1 b1)
    | (with_reducible refine at_op (o := ⟨some 2, _, _, _, _, _⟩) ?_; refine wpList_allocI rfl 22 rfl .u8 32 zero_a32 ?_; intro w2 A2 s2 b2; have X2 := A1.below b2)
    | (with_reducible refine at_op (o := ⟨some 7, _, _, _, _, _⟩) ?_; refine wpList_loadI rfl 22 _ rfl 32 5 und_a32 info_a32 (w.heap.size) rfl .u8 (xb) (X2) (hxl) ?_)
    | (go_at_call 29; refine (LX _).mono ?_; rintro e w3 ⟨rfl, b3⟩; have R3 := A2.below b3; have B3 := below_then (below_then b1 b2) b3; have T3 := hT.below B3)
    | (go_at_call 44; refine (RT _ T3).mono ?_; rintro e w4 ⟨⟨zs, rfl, hz⟩, b4⟩; have R4 := R3.below b4; have B4 := below_then B3 b4; have BZ := fun W => bytes_v _ _ W hz; have hzl := hz.len; clear hz)
    | (with_reducible refine at_op (o := ⟨some 4, _, _, _, _, _⟩) ?_; refine wpList_allocI rfl 38 rfl .u64 5 zero_limbs ?_; intro w5 A5 s5 b5; have R5 := R4.below b5; have B5 := below_then B4 b5)
    | (with_reducible refine at_op (o := ⟨_, .store 38 _ _, _, _, _, _⟩) ?_; refine wpList_storeI rfl 38 _ _ rfl 5 info_limbs (w4.heap.size) rfl .u64 _ (zs) rfl (A5) (rfl) (hzl) ?_; intro D; have hR4 := R4.lt; have hB4 := B4.size; have R6 := R5.rowOther (B' := w4.heap.size) (by omega) ((zs).map (Value.int .u64)).toArray; have B6 := Below.setRow B5 (g := w4.heap.size) (by omega) ((zs).map (Value.int .u64)).toArray)
    | (with_reducible refine at_op (o := ⟨some 12, _, _, _, _, _⟩) ?_; refine wpList_loadI rfl 38 _ rfl 5 33 und_limbs info_limbs (w4.heap.size) rfl .u64 (zs) (D) (hzl) ?_)
    | (go_at_call 31; refine (BZ _).mono ?_; rintro e w7 ⟨rfl, b7⟩; have R7 := R6.below b7; have B7 := below_then B6 b7)
    | (with_reducible refine at_op (o := ⟨_, .store 22 _ _, _, _, _, _⟩) ?_; refine wpList_storeI rfl 22 _ _ rfl 32 info_a32 (w1.heap.size) rfl .u8 _ (numB v) rfl (R7) (rfl) (numB_length _) ?_; intro A9))
  refine bodyPost_ret (results_cell_tmpI rfl _ 32 5 und_a32 info_a32 (w1.heap.size) rfl .u8 _ A9 (numB_length _)) rfl ?_
  exact ⟨rfl, Below.setRow B7 (by omega) _⟩
end Go.Proofs.YtlhloldjlfcchaaDoor
