/- Merged: Which bytes are a point's: what load says. What the reference's Read says; the bytes of a point. -/
import Derived.Test.YtelppapkffjmpaaDoorQMI
import Derived.Test.YtelppapkffjmpaaDoorQML
import Derived.Test.YtelppapkffjmpaaDoorQMG
import Derived.Test.YtelppapkffjmpaaDoorQMJ
import Derived.Test.YtelppapkffjmpaaDoorQMM
section
namespace Go.Proofs.YtelppapkffjmpaaDoor
open Go.RowKit Go.Shelf
set_option linter.unusedVariables false
set_option maxRecDepth 8000

theorem root_c {xs : List Int} {u : Int} (hx : Fel xs u) : ∃ rl, Fel rl (rV u) ∧ ∀ w, Tab w → Calls Tryd.prog 69 #[aggI .u64 xs] w fun e w' => e = .returned (.tuple #[aggI .u64 rl, .bool (okV u)]) ∧ Below w.heap.size w w' := by
  have hc0 : Fel (powS xs (powN 254 15) 256) (rt0 u) := powS_last hx powN_root
  have PW := fun W => power_any xs (powN 254 15) u W hx powN_root (by simp [powN])
  generalize powS xs (powN 254 15) 256 = c0 at *
  have hc1 : Fel (carriedS (timesL c0 rootL)) (rt1 u) := times_fel hc0 rootL_fel
  have T1 := fun W => times_any c0 rootL W hc0.small rootL_fel.small hc0.len rootL_fel.len
  generalize carriedS (timesL c0 rootL) = c1 at *
  rw [rootL_agg] at T1
  have hs0 := times_fel hc0 hc0
  have hs1 := times_fel hc1 hc1
  have hn0 := minus_fel zero_fel hc0
  have hn1 := minus_fel zero_fel hc1
  have T0 := fun W => times_any c0 c0 W hc0.small hc0.small hc0.len hc0.len
  have T2 := fun W => times_any c1 c1 W hc1.small hc1.small hc1.len hc1.len
  have N0 := fun W => negative_any c0 _ W hc0
  have N1 := fun W => negative_any c1 _ W hc1
  have S0 := fun W => same_any _ xs _ u W hs0 hx
  have S1 := fun W => same_any _ xs _ u W hs1 hx
  have O0 := fun W => odd_any c0 _ W hc0
  have O1 := fun W => odd_any c1 _ W hc1
  have key : ∀ rl : List Int, (sq0 u = true → decide (rt0 u % 2 = 1) = true → rl = carriedS (minusL [0, 0, 0, 0, 0] c0) ∧ okV u = true) → (sq0 u = true → decide (rt0 u % 2 = 1) = false → rl = c0 ∧ okV u = true) →
      (sq0 u = false → sq1 u = true → decide (rt1 u % 2 = 1) = true → rl = carriedS (minusL [0, 0, 0, 0, 0] c1) ∧ okV u = true) → (sq0 u = false → sq1 u = true → decide (rt1 u % 2 = 1) = false → rl = c1 ∧ okV u = true) →
      (sq0 u = false → sq1 u = false → rl = [0, 0, 0, 0, 0] ∧ okV u = false) → Fel rl (rV u) →
      ∃ rl, Fel rl (rV u) ∧ ∀ w, Tab w → Calls Tryd.prog 69 #[aggI .u64 xs] w fun e w' => e = .returned (.tuple #[aggI .u64 rl, .bool (okV u)]) ∧ Below w.heap.size w w' := by
    intro rl h1 h2 h3 h4 h5 hf
    refine ⟨rl, hf, fun w hT => ?_⟩
    refine (root_walk (sq0 u) (sq1 u) (okV u) (decide (rt0 u % 2 = 1)) (decide (rt1 u % 2 = 1)) xs c0 _ c1 _ _ _ rl w hx.len hc0.len hc1.len hn0.len hn1.len PW T0 S0 T1 T2 S1 O0 O1 N0 N1 (Lib.hid h1) (Lib.hid h2) (Lib.hid h3) (Lib.hid h4) (Lib.hid h5) hT.g0 hT.g1 hT.g2 hT.g3 hT.g4).mono ?_
    rintro e w' ⟨he, hb⟩
    exact ⟨he, hb⟩
  clear PW T0 T1 T2 N0 N1 S0 S1 O0 O1
  have hv : okV u = (sq0 u || sq1 u) := rfl
  cases h0 : sq0 u
  · cases h1 : sq1 u
    · refine key [0, 0, 0, 0, 0] (fun h => by simp [h0] at h) (fun h => by simp [h0] at h) (fun _ h => by simp [h1] at h) (fun _ h => by simp [h1] at h) (fun _ _ => ⟨rfl, by rw [hv, h0, h1]; rfl⟩) ?_
      have e : rV u = 0 := by simp [rV, h0, h1]
      rw [e]; exact zero_fel
    · by_cases h2 : rt1 u % 2 = 1
      · refine key _ (fun h => by simp [h0] at h) (fun h => by simp [h0] at h) (fun _ _ _ => ⟨rfl, by rw [hv, h0, h1]; rfl⟩) (fun _ _ h => by simp [h2] at h) (fun _ h => by simp [h1] at h) ?_
        have e : rV u = (0 - rt1 u) % pV := by simp [rV, h0, h1, evenV, h2]
        rw [e]; exact hn1
      · refine key _ (fun h => by simp [h0] at h) (fun h => by simp [h0] at h) (fun _ _ h => by simp [h2] at h) (fun _ _ _ => ⟨rfl, by rw [hv, h0, h1]; rfl⟩) (fun _ h => by simp [h1] at h) ?_
        have e : rV u = rt1 u := by simp [rV, h0, h1, evenV, h2]
        rw [e]; exact hc1
  · by_cases h2 : rt0 u % 2 = 1
    · refine key _ (fun _ _ => ⟨rfl, by rw [hv, h0]; rfl⟩) (fun _ h => by simp [h2] at h) (fun h => by simp [h0] at h) (fun h => by simp [h0] at h) (fun h => by simp [h0] at h) ?_
      have e : rV u = (0 - rt0 u) % pV := by simp [rV, h0, evenV, h2]
      rw [e]; exact hn0
    · refine key _ (fun _ h => by simp [h2] at h) (fun _ _ => ⟨rfl, by rw [hv, h0]; rfl⟩) (fun h => by simp [h0] at h) (fun h => by simp [h0] at h) (fun h => by simp [h0] at h) ?_
      have e : rV u = rt0 u := by simp [rV, h0, evenV, h2]
      rw [e]; exact hc0
theorem toF_lt (v : Int) : (v % pV).toNat < pN := by
  have h := pV_mod v
  have e := pV_nat
  omega
def ofI (v : Int) : FF := ⟨(v % pV).toNat, toF_lt v⟩
theorem ofI_val (v : Int) : ((ofI v).val : Int) = v % pV := by
  have h := pV_mod v
  show (((v % pV).toNat : Nat) : Int) = v % pV
  omega
theorem ff_eq {a b : FF} (h : (a.val : Int) = (b.val : Int)) : a = b := Fin.ext (by omega)
/-- The square of x, by y. -/
def uF (y : FF) : FF := (y*y - 1) * finv (y*y*dF + 1)
def rF (u : FF) : FF := ofI (rV (u.val : Int))
def okF (u : FF) : Bool := okV (u.val : Int)
theorem rF_val (u : FF) : ((rF u).val : Int) = rV (u.val : Int) := by
  have h := rV_lt (u.val : Int)
  rw [rF, ofI_val, Int.emod_eq_of_lt h.1 h.2]
theorem rF_sq {u : FF} (h : okF u = true) : rF u * rF u = u := by
  refine ff_eq ?_
  rw [val_mul, rF_val]
  exact rV_sq h
theorem dy_ne (y : FF) : y*y*dF + 1 ≠ 0 := by
  intro h
  by_cases hy : y = 0
  · subst hy
    exact absurd h (by decide +kernel)
  · have hi := mul_finv hy
    refine dF_no (iF * finv y) ?_
    generalize finv y = f at *
    have hq := iF_sq
    grobner
theorem on_dec {x y : FF} (hx : x*x = uF y) : On dF x y := by
  have hi := mul_finv (dy_ne y)
  unfold uF at hx
  unfold On
  generalize finv (y*y*dF + 1) = f at *
  grobner
/-- What 32 bytes say: y, whether x is odd, and x's even value. -/
def lowB (b : List Int) : List Int := b.set 31 (at0 b 31 % 128)
def yI (b : List Int) : Int := valB (lowB b) 32
def yF (b : List Int) : FF := ofI (yI b)
def odB (b : List Int) : Bool := decide (128 ≤ at0 b 31)
def rtB (b : List Int) : FF := rF (uF (yF b))
structure IsPt (b : List Int) : Prop where
  low : yI b < pV
  ok : okF (uF (yF b)) = true
  one : ¬ (odB b = true ∧ rtB b = 0)
def xF (b : List Int) : FF := if odB b then -rtB b else rtB b
theorem xF_on {b : List Int} (h : IsPt b) : On dF (xF b) (yF b) := by
  refine on_dec ?_
  have hs : rtB b * rtB b = uF (yF b) := rF_sq h.ok
  unfold xF
  cases odB b
  · exact hs
  · rw [← hs]
    show -rtB b * -rtB b = _
    grobner
def ptB (b : List Int) (h : IsPt b) : Pt := ⟨xF b, yF b, xF_on h⟩
theorem lowB_len {b : List Int} (h : b.length = 32) : (lowB b).length = 32 := by simp [lowB, h]
theorem lowB_bytes {b : List Int} (h : Bytes b) : Bytes (lowB b) := by
  intro x hx
  rcases List.mem_or_eq_of_mem_set hx with h1 | h1
  · exact h x h1
  · have := h.at 31
    omega
theorem and_hi_t {x : Int} (hx : 0 ≤ x ∧ x ≤ 255) (h : 128 ≤ x) : bits BinOp.and IntKind.u8 x 128 = 128 := by
  have := byte_of (p := fun x => 128 ≤ x → bits BinOp.and IntKind.u8 x 128 = 128) (by decide +kernel) hx
  exact this h
theorem and_hi_f {x : Int} (hx : 0 ≤ x ∧ x ≤ 255) (h : ¬ 128 ≤ x) : bits BinOp.and IntKind.u8 x 128 = 0 := by
  have := byte_of (p := fun x => ¬ 128 ≤ x → bits BinOp.and IntKind.u8 x 128 = 0) (by decide +kernel) hx
  exact this h
theorem and_low {x : Int} (hx : 0 ≤ x ∧ x ≤ 255) : bits BinOp.and IntKind.u8 x 127 = x % 128 := byte_of (p := fun x => bits BinOp.and IntKind.u8 x 127 = x % 128) (by decide +kernel) hx
theorem built_point0 : Tryd.prog.built 46 [] = some ((List.replicate 20 0).map (Value.int .u64)).toArray := by kernel_rfl
theorem built_limbsZ : Tryd.prog.built 42 [] = some (([0, 0, 0, 0, 0] : List Int).map (Value.int .u64)).toArray := by kernel_rfl
theorem right_c {b : List Int} (hb : Bytes b) (hl : b.length = 32) (W : World) : Calls Tryd.prog 66 #[aggI .u8 (lowB b)] W fun e w' => e = .returned (.bool (decide (yI b < pV))) ∧ Below W.heap.size W w' := fright_v _ W (lowB_bytes hb) (lowB_len hl)
theorem y_lf {b : List Int} (hb : Bytes b) : LF (carriedS (loadL (lowB b))) (yF b) := ⟨by rw [yF, ofI_val]; exact loadL_fel _ (lowB_bytes hb)⟩
theorem same_z {rx : List Int} {a : FF} (h : LF rx a) (W : World) : Calls Tryd.prog 70 #[aggI .u64 rx, aggI .u64 [0, 0, 0, 0, 0]] W fun e w' => e = .returned (.bool (decide (a = 0))) ∧ Below W.heap.size W w' := by
  have e : decide (a = 0) = decide ((a.val : Int) = 0) := decide_eq_decide.2 ⟨fun h => by rw [h]; decide +kernel, fun h => ff_eq (by rw [h]; decide +kernel)⟩
  rw [e]
  exact same_any _ _ _ _ W h.fel zero_fel
theorem load_one {b : List Int} (hb : Bytes b) (hl : b.length = 32) (h : IsPt b) : ∃ rs, PoL rs (xF b) (yF b) 1 (xF b * yF b) ∧ ∀ w, TabD w → Calls Tryd.prog 36 #[aggI .u8 b] w fun e w' => e = .returned (.tuple #[aggI .u64 rs, .bool true]) ∧ Below w.heap.size w w' := by
  have hlow := and_low (hb.at 31)
  have H0 := right_c hb hl
  rw [decide_eq_true h.low] at H0
  have k1 := y_lf hb
  have H1 := fun W => load_any (lowB b) W (lowB_bytes hb) (lowB_len hl)
  have k2 := k1.tm k1
  have k4 := k2.mi LF.one
  have k5 := k2.tm dLn_lf
  have k6 := k5.pl LF.one
  have k7 := k6.iv
  have k8 := k4.tm k7
  obtain ⟨rx, hr, H9⟩ := root_c k8.fel
  have kr : LF rx (rtB b) := ⟨by rw [show ((rtB b).val : Int) = rV ((uF (yF b)).val : Int) from rF_val _]; exact hr⟩
  rw [show okV ((((yF b * yF b - 1) * finv (yF b * yF b * dF + 1) : FF).val : Nat) : Int) = true from h.ok] at H9
  have kp := PlL.mk2 kr k1
  by_cases ho : 128 ≤ at0 b 31
  · have hand := and_hi_t (hb.at 31) ho
    have hz : decide (rtB b = 0) = false := decide_eq_false fun hz => h.one ⟨decide_eq_true ho, hz⟩
    have H10 := same_z kr
    rw [hz] at H10
    obtain ⟨ns, hn, H11⟩ := pneg_c kp
    have hx : xF b = -rtB b := by unfold xF odB; rw [decide_eq_true ho]; rfl
    rw [← hx] at hn
    obtain ⟨rs, hrs, H12⟩ := raised_c hn
    exact ⟨rs, hrs, fun w hT => load_t (l_xb := hl) (l_xb_set31 := lowB_len hl) (h_xb_at31 := rfl) (h_xb_set31 := rfl) (hand := hand) (hlow := hlow) (hT := hT) (l_cr1 := k1.len) (l_cr2 := k2.len) (l_cr3 := LF.one.len) (l_cr4 := k4.len) (l_cr5 := k5.len) (l_cr6 := k6.len) (l_cr7 := k7.len) (l_cr8 := k8.len) (l_rx := kr.len) (H0 := H0) (H1 := H1) (H2 := times_c k1 k1) (H3 := small_any) (H4 := minus_c k2 LF.one) (H5 := times_c k2 dLn_lf) (H6 := plus_c k5 LF.one) (H7 := inv_c k6) (H8 := times_c k4 k7) (H9 := fun W hW => H9 W hW.r) (l_bu0 := rfl) (l_bu1 := kp.len) (l_cr11 := hn.len) (l_cr12 := hrs.len) (hbu0 := built_limbsZ) (hbu1 := built_plane kr.len k1.len) (H10 := H10) (H11 := H11) (H12 := H12)⟩
  · have hand := and_hi_f (hb.at 31) ho
    have hx : xF b = rtB b := by unfold xF odB; rw [decide_eq_false ho]; rfl
    have hn := kp
    rw [← hx] at hn
    obtain ⟨rs, hrs, H10⟩ := raised_c hn
    exact ⟨rs, hrs, fun w hT => load_f (l_xb := hl) (l_xb_set31 := lowB_len hl) (h_xb_at31 := rfl) (h_xb_set31 := rfl) (hand := hand) (hlow := hlow) (hT := hT) (l_cr1 := k1.len) (l_cr2 := k2.len) (l_cr3 := LF.one.len) (l_cr4 := k4.len) (l_cr5 := k5.len) (l_cr6 := k6.len) (l_cr7 := k7.len) (l_cr8 := k8.len) (l_rx := kr.len) (H0 := H0) (H1 := H1) (H2 := times_c k1 k1) (H3 := small_any) (H4 := minus_c k2 LF.one) (H5 := times_c k2 dLn_lf) (H6 := plus_c k5 LF.one) (H7 := inv_c k6) (H8 := times_c k4 k7) (H9 := fun W hW => H9 W hW.r) (l_bu0 := kp.len) (l_cr10 := hrs.len) (hbu0 := built_plane kr.len k1.len) (H10 := H10)⟩
theorem RepP.one {rs : List Int} {P : Pt} (h : PoL rs P.x P.y 1 (P.x * P.y)) : RepP rs P := RepP.of h (by decide +kernel) (by grobner) (by grobner) (by grobner)
theorem load_yes {b : List Int} (hb : Bytes b) (hl : b.length = 32) (h : IsPt b) : ∃ rs, RepP rs (ptB b h) ∧ ∀ w, TabD w → Calls Tryd.prog 36 #[aggI .u8 b] w fun e w' => e = .returned (.tuple #[aggI .u64 rs, .bool true]) ∧ Below w.heap.size w w' := by
  obtain ⟨rs, hr, H⟩ := load_one hb hl h
  exact ⟨rs, RepP.one (P := ptB b h) hr, H⟩
theorem load_not {b : List Int} (hb : Bytes b) (hl : b.length = 32) (h : ¬ IsPt b) (w : World) (hT : TabD w) : Calls Tryd.prog 36 #[aggI .u8 b] w fun e w' => e = .returned (.tuple #[aggI .u64 (List.replicate 20 0), .bool false]) ∧ Below w.heap.size w w' := by
  have hlow := and_low (hb.at 31)
  have H0 := right_c hb hl
  by_cases h1 : yI b < pV
  · rw [decide_eq_true h1] at H0
    have k1 := y_lf hb
    have H1 := fun W => load_any (lowB b) W (lowB_bytes hb) (lowB_len hl)
    have k2 := k1.tm k1
    have k4 := k2.mi LF.one
    have k5 := k2.tm dLn_lf
    have k6 := k5.pl LF.one
    have k7 := k6.iv
    have k8 := k4.tm k7
    obtain ⟨rx, hr, H9⟩ := root_c k8.fel
    have kr : LF rx (rtB b) := ⟨by rw [show ((rtB b).val : Int) = rV ((uF (yF b)).val : Int) from rF_val _]; exact hr⟩
    have e9 : ∀ ok, okF (uF (yF b)) = ok → okV ((((yF b * yF b - 1) * finv (yF b * yF b * dF + 1) : FF).val : Nat) : Int) = ok := fun ok h => h
    cases h2 : okF (uF (yF b))
    · rw [e9 _ h2] at H9
      by_cases ho : 128 ≤ at0 b 31
      · have hand := and_hi_t (hb.at 31) ho
        exact load_zt (l_xb := hl) (l_xb_set31 := lowB_len hl) (h_xb_at31 := rfl) (h_xb_set31 := rfl) (hand := hand) (hlow := hlow) (hT := hT) (l_cr1 := k1.len) (l_cr2 := k2.len) (l_cr3 := LF.one.len) (l_cr4 := k4.len) (l_cr5 := k5.len) (l_cr6 := k6.len) (l_cr7 := k7.len) (l_cr8 := k8.len) (l_rx := kr.len) (H0 := H0) (H1 := H1) (H2 := times_c k1 k1) (H3 := small_any) (H4 := minus_c k2 LF.one) (H5 := times_c k2 dLn_lf) (H6 := plus_c k5 LF.one) (H7 := inv_c k6) (H8 := times_c k4 k7) (H9 := fun W hW => H9 W hW.r) (l_bu0 := rfl) (hbu0 := built_point0)
      · have hand := and_hi_f (hb.at 31) ho
        exact load_zf (l_xb := hl) (l_xb_set31 := lowB_len hl) (h_xb_at31 := rfl) (h_xb_set31 := rfl) (hand := hand) (hlow := hlow) (hT := hT) (l_cr1 := k1.len) (l_cr2 := k2.len) (l_cr3 := LF.one.len) (l_cr4 := k4.len) (l_cr5 := k5.len) (l_cr6 := k6.len) (l_cr7 := k7.len) (l_cr8 := k8.len) (l_rx := kr.len) (H0 := H0) (H1 := H1) (H2 := times_c k1 k1) (H3 := small_any) (H4 := minus_c k2 LF.one) (H5 := times_c k2 dLn_lf) (H6 := plus_c k5 LF.one) (H7 := inv_c k6) (H8 := times_c k4 k7) (H9 := fun W hW => H9 W hW.r) (l_bu0 := rfl) (hbu0 := built_point0)
    · rw [e9 _ h2] at H9
      by_cases ho : 128 ≤ at0 b 31
      · have hand := and_hi_t (hb.at 31) ho
        by_cases hz : rtB b = 0
        · have H10 := same_z kr
          rw [decide_eq_true hz] at H10
          exact load_0 (l_xb := hl) (l_xb_set31 := lowB_len hl) (h_xb_at31 := rfl) (h_xb_set31 := rfl) (hand := hand) (hlow := hlow) (hT := hT) (l_cr1 := k1.len) (l_cr2 := k2.len) (l_cr3 := LF.one.len) (l_cr4 := k4.len) (l_cr5 := k5.len) (l_cr6 := k6.len) (l_cr7 := k7.len) (l_cr8 := k8.len) (l_rx := kr.len) (H0 := H0) (H1 := H1) (H2 := times_c k1 k1) (H3 := small_any) (H4 := minus_c k2 LF.one) (H5 := times_c k2 dLn_lf) (H6 := plus_c k5 LF.one) (H7 := inv_c k6) (H8 := times_c k4 k7) (H9 := fun W hW => H9 W hW.r) (l_bu0 := rfl) (l_bu1 := rfl) (hbu0 := built_limbsZ) (hbu1 := built_point0) (H10 := H10)
        · exact absurd ⟨h1, h2, fun h => hz h.2⟩ h
      · exact absurd ⟨h1, h2, fun h => ho (of_decide_eq_true h.1)⟩ h
  · rw [decide_eq_false h1] at H0
    by_cases ho : 128 ≤ at0 b 31
    · have hand := and_hi_t (hb.at 31) ho
      exact load_nt (l_xb := hl) (l_xb_set31 := lowB_len hl) (h_xb_at31 := rfl) (h_xb_set31 := rfl) (hand := hand) (hlow := hlow) (w := w) (l_bu0 := rfl) (hbu0 := built_point0) (H0 := H0)
    · have hand := and_hi_f (hb.at 31) ho
      exact load_nf (l_xb := hl) (l_xb_set31 := lowB_len hl) (h_xb_at31 := rfl) (h_xb_set31 := rfl) (hand := hand) (hlow := hlow) (w := w) (l_bu0 := rfl) (hbu0 := built_point0) (H0 := H0)
end Go.Proofs.YtelppapkffjmpaaDoor
end
section
namespace Go.Proofs.YtelppapkffjmpaaDoor
open Go.RowKit Go.Shelf
set_option linter.unusedVariables false
set_option maxRecDepth 8000

theorem RepN.one {rs : List Int} {P : Pt} (h : PnL rs P.x P.y 1) : RepN rs P := RepN.of h (by decide +kernel) (by grobner) (by grobner)
/-- A point's bytes. -/
def encB (P : Pt) : List Int := if (P.x.val : Int) % 2 = 1 then (numB (P.y.val : Int)).set 31 (at0 (numB (P.y.val : Int)) 31 + 128) else numB (P.y.val : Int)
theorem encB_len (P : Pt) : (encB P).length = 32 := by unfold encB; split <;> simp [numB_length]
theorem top_lt (a : FF) : 0 ≤ at0 (numB (a.val : Int)) 31 ∧ at0 (numB (a.val : Int)) 31 < 128 := by
  have h := at0_numB (a.val : Int) 31 (by omega)
  have hv := val_lt a
  have hp : pV < 2 ^ 255 := by decide +kernel
  rw [h]
  omega
theorem or_hi {x : Int} (hx : 0 ≤ x ∧ x < 128) : bits BinOp.or IntKind.u8 x 128 = x + 128 := by
  have := byte_of (p := fun x => x < 128 → bits BinOp.or IntKind.u8 x 128 = x + 128) (by decide +kernel) (x := x) (by omega)
  exact this hx.2
theorem pbytes_r {ps : List Int} {P : Pt} (h : PlL ps P.x P.y) (w : World) : Calls Tryd.prog 41 #[aggI .u64 ps] w fun e w' => e = .returned (aggI .u8 (encB P)) ∧ Below w.heap.size w w' := by
  have HB := fun W => bytes_v _ _ W h.y.fel
  have HO := fun W => odd_any _ _ W h.x.fel
  unfold encB
  by_cases ho : (P.x.val : Int) % 2 = 1
  · rw [decide_eq_true ho] at HO
    rw [if_pos ho]
    exact pbytes_t (w := w) (l_ps := h.len) (l_cr0 := numB_length _) (l_cr0_set31 := by simp [numB_length]) (l_ps_5_5 := h.y.len) (l_ps_0_5 := h.x.len) (h_ps_5_5 := rfl) (h_ps_0_5 := rfl) (h_cr0_at31 := rfl) (h_cr0_set31 := rfl) (hor := or_hi (top_lt P.y)) (H0 := HB) (H1 := HO)
  · rw [decide_eq_false ho] at HO
    rw [if_neg ho]
    exact pbytes_f (w := w) (l_ps := h.len) (l_cr0 := numB_length _) (l_ps_5_5 := h.y.len) (l_ps_0_5 := h.x.len) (h_ps_5_5 := rfl) (h_ps_0_5 := rfl) (H0 := HB) (H1 := HO)
theorem encB_set (P : Pt) : encB P = (numB (P.y.val : Int)).set 31 (at0 (numB (P.y.val : Int)) 31 + (P.x.val : Int) % 2 * 128) := by
  unfold encB
  split
  · next h => rw [h]; rfl
  · next h =>
    rw [show (P.x.val : Int) % 2 = 0 by omega, Int.zero_mul, Int.add_zero]
    have hl := numB_length (P.y.val : Int)
    generalize numB (P.y.val : Int) = b at *
    unfold at0
    refine List.ext_getElem (by simp) fun i h1 h2 => ?_
    rw [List.getElem_set]
    split
    · next hi => subst hi; simp [h1]
    · rfl
end Go.Proofs.YtelppapkffjmpaaDoor
end
