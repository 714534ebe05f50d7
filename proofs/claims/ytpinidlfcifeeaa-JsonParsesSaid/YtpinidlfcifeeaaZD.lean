/- Numbers in the reference. Texts in the reference. Words: letter by letter, or all at once. A region whose order is drawn, of which several operations  -/
import Derived.Test.YtpinidlfcifeeaaZC
namespace Go.Proofs.Ytpinidlfcifeeaa
open Go.RowKit
set_option linter.unusedVariables false
set_option linter.unusedSimpArgs false
set_option maxRecDepth 8000
set_option maxHeartbeats 2000000

def numV : Except Int (Int × Nat) → Value
 | .error e => .tuple #[.int .i64 0, .int .i64 0, .int .i64 e]
 | .ok (n, k) => .tuple #[.int .i64 n, .int .i64 (k : Int), .int .i64 0]
def ClN (s : ByteArray) (kf kb : Nat) (n : Int) : Prop := digS s kf = digS s kb ∧ (kf < kb → 1 ≤ n) ∧ (kf = kb → n = 0) ∧ ((n < 9007199254740992 ∧ accN s (digS s kf - kf) kf 0 = accN s (digS s kf - kb) kb n) ∨ (n = 9007199254740992 ∧ accN s (digS s kf - kf) kf 0 = none))
theorem cl_step {s : ByteArray} {kf kb : Nat} {n m : Int} (h : ClN s kf kb n) (hk : kf ≤ kb) (hs : kb < s.size) (h0 : 0 ≤ n) (h1 : 48 ≤ atS s kb) (h2 : atS s kb ≤ 57) (hf : kb = kf → ¬ atS s kb = 48) (hm : m = if 9007199254740992 < n * 10 + (atS s kb - 48) then 9007199254740992 else n * 10 + (atS s kb - 48)) : ClN s kf (kb + 1) m := by
  obtain ⟨a1, a2, a3, a4⟩ := h
  have hd : isDig (atS s kb) = true := by unfold isDig; rw [decide_eq_true h1, decide_eq_true h2]; rfl
  have hg := dig_go hs hd
  have hle := digS_le (s := s) (k := kb + 1) (by omega)
  have hn1 : 1 ≤ n * 10 + (atS s kb - 48) := by
    rcases Nat.eq_or_lt_of_le hk with h | h
    · have := hf h.symm; omega
    · have := a2 h; omega
  obtain ⟨q, hq⟩ : ∃ q, digS s kf - kb = q + 1 := ⟨digS s kf - kb - 1, by omega⟩
  refine ⟨a1.trans hg, fun _ => by subst hm; split <;> omega, fun h => by omega, ?_⟩
  rcases a4 with ⟨b1, b2⟩ | ⟨b1, b2⟩
  · by_cases hx : 9007199254740991 < n * 10 + (atS s kb - 48)
    · refine .inr ⟨by subst hm; split <;> omega, ?_⟩
      rw [b2, hq]
      exact acc_no hx
    · refine .inl ⟨by subst hm; split <;> omega, ?_⟩
      rw [b2, hq, acc_go hx, hm, if_neg (by omega), show digS s kf - (kb + 1) = q by omega]
  · exact .inr ⟨by subst hm; rw [if_pos (by omega)], b2⟩
theorem cl_end {s : ByteArray} {kf kb : Nat} {n : Int} (h : ClN s kf kb n) (he : digS s kb = kb) : digS s kf = kb ∧ ((n < 9007199254740992 ∧ accN s (digS s kf - kf) kf 0 = some n) ∨ (n = 9007199254740992 ∧ accN s (digS s kf - kf) kf 0 = none)) := by
  obtain ⟨a1, a2, a3, a4⟩ := h
  have e : digS s kf = kb := a1.trans he
  refine ⟨e, ?_⟩
  rcases a4 with ⟨b1, b2⟩ | h
  · refine .inl ⟨b1, b2.trans ?_⟩
    rw [e, Nat.sub_self]
    rfl
  · exact .inr h
theorem dig_no {s : ByteArray} {k : Nat} (h : ¬ (k < s.size ∧ 48 ≤ atS s k ∧ atS s k ≤ 57)) : digS s k = k := dig_stop fun ⟨h1, h2⟩ => h ⟨h1, by unfold isDig at h2; rw [Bool.and_eq_true, decide_eq_true_eq, decide_eq_true_eq] at h2; exact h2⟩
set_option maxHeartbeats 1000000 in
theorem refNumber_v (s : ByteArray) (ka : Nat) (w : World) (L : List Nat) (hL : LL L w)   (hs : s.size ≤ 1000000) (hk : ka ≤ s.size) (hk1 : ka < s.size) : CV Try.prog 69 [.string s, .int .i64 (ka : Int)] w fun v W => v = numV (numS s ka) := by
 refine cv_enter (N := 84) (f := [(0, .string s), (1, .int .i64 (ka : Int))]) Try.func69 rfl rfl rfl rfl fun Q hQ hE => ?_
 have hB := Below.refl w.heap.size w
 refine Sq fun K1 hK1 => (Rg (Pu rfl (Pu rfl (Pu rfl (Ni (hK1 (Sq fun K2 hK2 => ?_)))))))
 refine Rg (Pu rfl (Pu rfl (Va (dx_at ka rfl Try.underlying9 rfl rfl (by omega) (by omega)) rfl rfl (Va (dx_eql rfl rfl rfl) rfl rfl (Pu rfl (Ni (hK2 ?_)))))))
 refine Sq fun K3 hK3 => (Sq fun K4 hK4 => (Rg (Pu rfl (Ni (hK4 ?_)))))
 refine WC.cond rfl (fun c5 => ?_) (fun c5 => ?_)
 ·
  replace c5 := dT c5
  refine Rg (Pu rfl (Va (dx_add (r := ((ka + 1 : Nat) : Int)) rfl rfl rfl (by rw [wrap64_id (by omega)]; omega)) rfl rfl (Pu rfl (Ni (hK3 (Sq fun K6 hK6 => (Sq fun K7 hK7 => ?_)))))))
  have hnum : numS s ka = numT s true (ka + 1) := numS_t (take_of hk1 (Eq.symm (by omega))) rfl
  refine Rg (Pu rfl (Pu rfl (Va (dx_lenT rfl Try.underlying9 rfl) rfl rfl (Va (dx_geq rfl rfl rfl) rfl rfl (Pu rfl ?_)))))
  refine WL.split 21 rfl (fun g8 => ?_) (fun g8 => ?_)
  ·
   replace g8 := dT g8
   refine Of rfl (Of rfl (Of rfl (Of rfl (Pu rfl (Pu rfl (Of rfl (Of rfl ?_)))))))
   refine Of rfl (Of rfl (Pu rfl (Ni (hK7 (WC.condT rfl (Sq fun K9 hK9 => (Rg ?_)))))))
   refine Pu rfl (Pu rfl (Pu rfl (Ni (hK9 ?_))))
   exact WC.ret fun a_ ha_ => hQ (cv_ret3 rfl (.tmp rfl) (.tmp rfl) (.tmp rfl) (by rw [hnum, numT_0 (by omega) (dig_no (by omega))]; rfl) hB ha_)
  ·
   replace g8 := dF g8
   refine Pu rfl (Pu rfl (Va (dx_at (ka + 1) rfl Try.underlying9 rfl rfl (by omega) (by omega)) rfl rfl (Va (dx_lss rfl rfl rfl) rfl rfl (Pu rfl (Pu rfl ?_)))))
   refine WL.split 27 rfl (fun g10 => ?_) (fun g10 => ?_)
   ·
    replace g10 := dT g10
    refine Of rfl (Of rfl (Of rfl (Of rfl (Pu rfl (Ni (hK7 (WC.condT rfl ?_)))))))
    refine Sq fun K11 hK11 => (Rg (Pu rfl (Pu rfl (Pu rfl (Ni (hK11 ?_))))))
    exact WC.ret fun a_ ha_ => hQ (cv_ret3 rfl (.tmp rfl) (.tmp rfl) (.tmp rfl) (by rw [hnum, numT_0 (by omega) (dig_no (by omega))]; rfl) hB ha_)
   ·
    replace g10 := dF g10
    refine Pu rfl (Pu rfl (Va (dx_at (ka + 1) rfl Try.underlying9 rfl rfl (by omega) (by omega)) rfl rfl (Va (dx_gtr rfl rfl rfl) rfl rfl (Pu rfl (Ni (hK7 ?_))))))
    refine WC.cond rfl (fun c12 => ?_) (fun c12 => ?_)
    ·
     replace c12 := dT c12
     refine Sq fun K13 hK13 => (Rg (Pu rfl (Pu rfl (Pu rfl (Ni (hK13 ?_))))))
     exact WC.ret fun a_ ha_ => hQ (cv_ret3 rfl (.tmp rfl) (.tmp rfl) (.tmp rfl) (by rw [hnum, numT_0 (by omega) (dig_no (by omega))]; rfl) hB ha_)
    ·
     replace c12 := dF c12
     refine WC.skip (hK6 (Sq fun K14 hK14 => ?_))
     have hfd : (ka + 1) < s.size := by omega
     by_cases hz : atS s (ka + 1) = 48
     ·
      refine Rg (Pu rfl (Pu rfl (Pu rfl (Ni (hK14 (Sq fun K15 hK15 => (WC.block ?_)))))))
      refine WC.loop2 (fun (kb : Nat) (n : Int) => [(0, .string s), (7, .bool (decide (atS s ka = 45))), (9, .int .i64 ((ka + 1 : Nat) : Int)), (1, .int .i64 (kb : Int)), (8, .int .i64 n)]) (fun (kb : Nat) (n : Int) W => kb ≤ s.size ∧ (ka + 1) ≤ kb ∧ 0 ≤ n ∧ n ≤ 9007199254740992 ∧ ((kb = (ka + 1) ∧ n = 0) ∨ (kb = (ka + 1) + 1 ∧ n = 0)) ∧ Below w.heap.size w W ∧ LL (L) W) (fun (kb : Nat) (n : Int) => s.size - kb) (ka + 1) 0 (by repeat first | exact trivial | exact And.intro rfl trivial | refine And.intro rfl ?_ | refine And.intro (congrArg (fun z : Int => some (Value.int .i64 z)) (by omega)) ?_) ⟨(by omega), (by omega), (by omega), (by omega), (.inl ⟨rfl, rfl⟩), hB, hL⟩ ?_
      clear hB hL
      rintro K16 kb n W17 ⟨hkb, hkk, hn0, hn1, hv, hB, hL⟩ hK16
      refine Sq fun K18 hK18 => (Sq fun K19 hK19 => (Rg (Pu rfl (Pu rfl (Va (dx_lenT rfl Try.underlying9 rfl) rfl rfl (Va (dx_lss rfl rfl rfl) rfl rfl (Pu rfl ?_)))))))
      refine WL.split 38 rfl (fun g20 => ?_) (fun g20 => ?_)
      ·
       replace g20 := dT g20
       refine Pu rfl (Pu rfl (Va (dx_at kb rfl Try.underlying9 rfl rfl (by omega) (by omega)) rfl rfl (Va (dx_geq rfl rfl rfl) rfl rfl (Pu rfl (Pu rfl ?_)))))
       refine WL.split 44 rfl (fun g21 => ?_) (fun g21 => ?_)
       ·
        replace g21 := dT g21
        refine Pu rfl (Pu rfl (Va (dx_at kb rfl Try.underlying9 rfl rfl (by omega) (by omega)) rfl rfl (Va (dx_leq rfl rfl rfl) rfl rfl (Pu rfl (Pu rfl ?_)))))
        refine WL.split 50 rfl (fun g22 => ?_) (fun g22 => ?_)
        ·
         replace g22 := dT g22
         refine Pu rfl (Pu rfl (Va (dx_eql rfl rfl rfl) rfl rfl (Pu rfl ?_)))
         refine WL.split 54 rfl (fun g23 => ?_) (fun g23 => ?_)
         ·
          replace g23 := dT g23
          refine Of rfl (Of rfl (Of rfl (Of rfl (Pu rfl (Pu rfl (Ni (hK19 ?_)))))))
          refine WC.condT rfl (WC.skip (hK18 (WC.block (Sq fun K24 hK24 => (Rg (Pu rfl (Va (dx_mul (r := n * 10) rfl rfl rfl (wrap64_id (by omega))) rfl rfl ?_)))))))
          refine Pu rfl (Pu rfl (Va (dx_at kb rfl Try.underlying9 rfl rfl (by omega) (by omega)) rfl rfl (Va (dx_sub (r := (atS s kb) - 48) rfl rfl rfl (wrapu8_id (by omega))) rfl rfl (Va (dx_conv (r := (atS s kb) - 48) rfl Try.underlying5 Try.underlying3 rfl (wrap64_id (by omega))) rfl rfl (Va (dx_add (r := (n * 10) + ((atS s kb) - 48)) rfl rfl rfl (wrap64_id (by omega))) rfl rfl (Va (dx_min rfl rfl rfl) rfl rfl (Pu rfl ?_)))))))
          refine Ni (hK24 (Rg (Pu rfl (Va (dx_add (r := (kb : Int) + 1) rfl rfl rfl (wrap64_id (by omega))) rfl rfl (Pu rfl (Ni ?_))))))
          exact hK16 (kb + 1) (if 9007199254740992 < (n * 10) + ((atS s kb) - 48) then 9007199254740992 else (n * 10) + ((atS s kb) - 48)) ⟨(by omega), (by omega), (by split <;> omega), (by split <;> omega), (by have h_ : kb = (ka + 1) ∧ n = 0 := (by omega); obtain ⟨h1_, h2_⟩ := h_; have h3_ : atS s kb = 48 := (by rw [h1_]; exact hz); refine .inr ⟨by omega, ?_⟩; rw [if_neg (by omega)]; omega), hB, hL⟩ (by omega) (by repeat first | exact trivial | exact And.intro rfl trivial | refine And.intro rfl ?_ | refine And.intro (congrArg (fun z : Int => some (Value.int .i64 z)) (by omega)) ?_)
         ·
          replace g23 := dF g23
          refine Pu rfl (Pu rfl (Va (dx_at (ka + 1) rfl Try.underlying9 rfl rfl (by omega) (by omega)) rfl rfl (Va (dx_neq rfl rfl rfl) rfl rfl (Pu rfl (Pu rfl (Ni (hK19 ?_)))))))
          refine WC.cond rfl (fun c25 => ?_) (fun c25 => ?_)
          ·
           replace c25 := bnot_t c25
           replace c25 := dF c25
           refine WC.skip (hK18 (WC.block (Sq fun K26 hK26 => (Rg (Pu rfl (Va (dx_mul (r := n * 10) rfl rfl rfl (wrap64_id (by omega))) rfl rfl (Pu rfl ?_)))))))
           refine Pu rfl (Va (dx_at kb rfl Try.underlying9 rfl rfl (by omega) (by omega)) rfl rfl (Va (dx_sub (r := (atS s kb) - 48) rfl rfl rfl (wrapu8_id (by omega))) rfl rfl (Va (dx_conv (r := (atS s kb) - 48) rfl Try.underlying5 Try.underlying3 rfl (wrap64_id (by omega))) rfl rfl (Va (dx_add (r := (n * 10) + ((atS s kb) - 48)) rfl rfl rfl (wrap64_id (by omega))) rfl rfl (Va (dx_min rfl rfl rfl) rfl rfl (Pu rfl (Ni ?_)))))))
           refine hK26 (Rg (Pu rfl (Va (dx_add (r := (kb : Int) + 1) rfl rfl rfl (wrap64_id (by omega))) rfl rfl (Pu rfl (Ni ?_)))))
           exact hK16 (kb + 1) (if 9007199254740992 < (n * 10) + ((atS s kb) - 48) then 9007199254740992 else (n * 10) + ((atS s kb) - 48)) ⟨(by omega), (by omega), (by split <;> omega), (by split <;> omega), (by have h_ : kb = (ka + 1) ∧ n = 0 := (by omega); obtain ⟨h1_, h2_⟩ := h_; have h3_ : atS s kb = 48 := (by rw [h1_]; exact hz); refine .inr ⟨by omega, ?_⟩; rw [if_neg (by omega)]; omega), hB, hL⟩ (by omega) (by repeat first | exact trivial | exact And.intro rfl trivial | refine And.intro rfl ?_ | refine And.intro (congrArg (fun z : Int => some (Value.int .i64 z)) (by omega)) ?_)
          ·
           replace c25 := bnot_f c25
           replace c25 := dT c25
           refine WC.exit ?_
           refine hK15 (Sq fun K27 hK27 => (Sq fun K28 hK28 => (Rg (Pu rfl (Pu rfl ?_)))))
           refine WL.split 73 rfl (fun g29 => ?_) (fun g29 => ?_)
           ·
            replace g29 := dT g29
            refine Pu rfl (Va (dx_eql rfl rfl rfl) rfl rfl (Pu rfl (Ni (hK28 ?_))))
            refine WC.cond rfl (fun c30 => ?_) (fun c30 => ?_)
            ·
             replace c30 := dT c30
             refine Sq fun K31 hK31 => (Rg (Pu rfl (Pu rfl (Pu rfl (Ni (hK31 ?_))))))
             exact WC.ret fun a_ ha_ => hQ (cv_ret3 rfl (.tmp rfl) (.tmp rfl) (.tmp rfl) (by have hkz : kb = (ka + 1) + 1 ∧ n = 0 := (by rcases hv with ⟨h1_, h2_⟩ | h_; (exfalso; rw [← h1_] at hz hfd; omega); exact h_); first | (exfalso; omega) | (rw [hnum, numT_m ⟨hfd, hz⟩]; rfl)) hB ha_)
            ·
             replace c30 := dF c30
             refine WC.skip (hK27 (Sq fun K32 hK32 => (Sq fun K33 hK33 => (Rg (Pu rfl (Va (dx_eql rfl rfl rfl) rfl rfl (Ni ?_)))))))
             refine hK33 ?_
             refine WC.cond rfl (fun c34 => ?_) (fun c34 => ?_)
             ·
              replace c34 := dT c34
              refine Sq fun K35 hK35 => (Rg (Pu rfl (Pu rfl (Pu rfl (Ni (hK35 ?_))))))
              exact WC.ret fun a_ ha_ => hQ (cv_ret3 rfl (.tmp rfl) (.tmp rfl) (.tmp rfl) (by have hkz : kb = (ka + 1) + 1 ∧ n = 0 := (by rcases hv with ⟨h1_, h2_⟩ | h_; (exfalso; rw [← h1_] at hz hfd; omega); exact h_); first | (exfalso; omega) | (rw [hnum, numT_z (k1 := kb) ⟨hfd, hz⟩ hkz.1, hkz.2]; rfl)) hB ha_)
             ·
              replace c34 := dF c34
              refine WC.skip (hK32 (Sq fun K36 hK36 => (Sq fun K37 hK37 => (Rg (Pu rfl (Ni (hK37 ?_)))))))
              refine WC.cond rfl (fun c38 => ?_) (fun c38 => ?_)
              ·
               replace c38 := dT c38
               refine Rg (Pu rfl (Va (dx_neg rfl rfl (wrap64_id (by omega))) rfl rfl (Pu rfl (Ni (hK36 (Sq fun K39 hK39 => (Rg ?_)))))))
               refine Pu rfl (Pu rfl (Pu rfl (Pu rfl (Pu rfl (Ni (hK39 ?_))))))
               exact WC.ret fun a_ ha_ => hQ (cv_ret3 rfl (.tmp rfl) (.tmp rfl) (.tmp rfl) (by have hkz : kb = (ka + 1) + 1 ∧ n = 0 := (by rcases hv with ⟨h1_, h2_⟩ | h_; (exfalso; rw [← h1_] at hz hfd; omega); exact h_); first | (exfalso; omega) | (rw [hnum, numT_z (k1 := kb) ⟨hfd, hz⟩ hkz.1, hkz.2]; rfl)) hB ha_)
              ·
               replace c38 := dF c38
               refine WC.skip (hK36 (Sq fun K40 hK40 => (Rg (Pu rfl (Pu rfl (Pu rfl (Pu rfl ?_)))))))
               refine Pu rfl (Ni (hK40 ?_))
               exact WC.ret fun a_ ha_ => hQ (cv_ret3 rfl (.tmp rfl) (.tmp rfl) (.tmp rfl) (by have hkz : kb = (ka + 1) + 1 ∧ n = 0 := (by rcases hv with ⟨h1_, h2_⟩ | h_; (exfalso; rw [← h1_] at hz hfd; omega); exact h_); first | (exfalso; omega) | (rw [hnum, numT_z (k1 := kb) ⟨hfd, hz⟩ hkz.1, hkz.2]; rfl)) hB ha_)
           ·
            replace g29 := dF g29
            refine Of rfl (Of rfl (Pu rfl (Ni (hK28 (WC.condF rfl (WC.skip (hK27 ?_)))))))
            refine Sq fun K41 hK41 => (Sq fun K42 hK42 => (Rg (Pu rfl (Va (dx_eql rfl rfl rfl) rfl rfl (Ni (hK42 ?_))))))
            refine WC.cond rfl (fun c43 => ?_) (fun c43 => ?_)
            ·
             replace c43 := dT c43
             refine Sq fun K44 hK44 => (Rg (Pu rfl (Pu rfl (Pu rfl (Ni (hK44 ?_))))))
             exact WC.ret fun a_ ha_ => hQ (cv_ret3 rfl (.tmp rfl) (.tmp rfl) (.tmp rfl) (by have hkz : kb = (ka + 1) + 1 ∧ n = 0 := (by rcases hv with ⟨h1_, h2_⟩ | h_; (exfalso; rw [← h1_] at hz hfd; omega); exact h_); first | (exfalso; omega) | (rw [hnum, numT_z (k1 := kb) ⟨hfd, hz⟩ hkz.1, hkz.2]; rfl)) hB ha_)
            ·
             replace c43 := dF c43
             refine WC.skip (hK41 (Sq fun K45 hK45 => (Sq fun K46 hK46 => (Rg (Pu rfl (Ni (hK46 ?_)))))))
             refine WC.cond rfl (fun c47 => ?_) (fun c47 => ?_)
             ·
              replace c47 := dT c47
              refine Rg (Pu rfl (Va (dx_neg rfl rfl (wrap64_id (by omega))) rfl rfl (Pu rfl (Ni (hK45 (Sq fun K48 hK48 => (Rg ?_)))))))
              refine Pu rfl (Pu rfl (Pu rfl (Pu rfl (Pu rfl (Ni (hK48 ?_))))))
              exact WC.ret fun a_ ha_ => hQ (cv_ret3 rfl (.tmp rfl) (.tmp rfl) (.tmp rfl) (by have hkz : kb = (ka + 1) + 1 ∧ n = 0 := (by rcases hv with ⟨h1_, h2_⟩ | h_; (exfalso; rw [← h1_] at hz hfd; omega); exact h_); first | (exfalso; omega) | (rw [hnum, numT_z (k1 := kb) ⟨hfd, hz⟩ hkz.1, hkz.2]; rfl)) hB ha_)
             ·
              replace c47 := dF c47
              refine WC.skip (hK45 (Sq fun K49 hK49 => (Rg (Pu rfl (Pu rfl (Pu rfl (Pu rfl ?_)))))))
              refine Pu rfl (Ni (hK49 ?_))
              exact WC.ret fun a_ ha_ => hQ (cv_ret3 rfl (.tmp rfl) (.tmp rfl) (.tmp rfl) (by have hkz : kb = (ka + 1) + 1 ∧ n = 0 := (by rcases hv with ⟨h1_, h2_⟩ | h_; (exfalso; rw [← h1_] at hz hfd; omega); exact h_); first | (exfalso; omega) | (rw [hnum, numT_z (k1 := kb) ⟨hfd, hz⟩ hkz.1, hkz.2]; rfl)) hB ha_)
        ·
         replace g22 := dF g22
         refine Of rfl (Of rfl (Of rfl (Of rfl (Of rfl (Of rfl (Of rfl (Of rfl ?_)))))))
         refine Of rfl (Pu rfl (Ni (hK19 (WC.condF rfl ?_))))
         refine WC.exit ?_
         refine hK15 (Sq fun K50 hK50 => (Sq fun K51 hK51 => (Rg (Pu rfl (Pu rfl ?_)))))
         refine WL.split 73 rfl (fun g52 => ?_) (fun g52 => ?_)
         ·
          replace g52 := dT g52
          refine Pu rfl (Va (dx_eql rfl rfl rfl) rfl rfl (Pu rfl (Ni (hK51 ?_))))
          refine WC.cond rfl (fun c53 => ?_) (fun c53 => ?_)
          ·
           replace c53 := dT c53
           refine Sq fun K54 hK54 => (Rg (Pu rfl (Pu rfl (Pu rfl (Ni (hK54 ?_))))))
           exact WC.ret fun a_ ha_ => hQ (cv_ret3 rfl (.tmp rfl) (.tmp rfl) (.tmp rfl) (by have hkz : kb = (ka + 1) + 1 ∧ n = 0 := (by rcases hv with ⟨h1_, h2_⟩ | h_; (exfalso; rw [← h1_] at hz hfd; omega); exact h_); first | (exfalso; omega) | (rw [hnum, numT_m ⟨hfd, hz⟩]; rfl)) hB ha_)
          ·
           replace c53 := dF c53
           refine WC.skip (hK50 (Sq fun K55 hK55 => (Sq fun K56 hK56 => (Rg (Pu rfl (Va (dx_eql rfl rfl rfl) rfl rfl (Ni ?_)))))))
           refine hK56 ?_
           refine WC.cond rfl (fun c57 => ?_) (fun c57 => ?_)
           ·
            replace c57 := dT c57
            refine Sq fun K58 hK58 => (Rg (Pu rfl (Pu rfl (Pu rfl (Ni (hK58 ?_))))))
            exact WC.ret fun a_ ha_ => hQ (cv_ret3 rfl (.tmp rfl) (.tmp rfl) (.tmp rfl) (by have hkz : kb = (ka + 1) + 1 ∧ n = 0 := (by rcases hv with ⟨h1_, h2_⟩ | h_; (exfalso; rw [← h1_] at hz hfd; omega); exact h_); first | (exfalso; omega) | (rw [hnum, numT_z (k1 := kb) ⟨hfd, hz⟩ hkz.1, hkz.2]; rfl)) hB ha_)
           ·
            replace c57 := dF c57
            refine WC.skip (hK55 (Sq fun K59 hK59 => (Sq fun K60 hK60 => (Rg (Pu rfl (Ni (hK60 ?_)))))))
            refine WC.cond rfl (fun c61 => ?_) (fun c61 => ?_)
            ·
             replace c61 := dT c61
             refine Rg (Pu rfl (Va (dx_neg rfl rfl (wrap64_id (by omega))) rfl rfl (Pu rfl (Ni (hK59 (Sq fun K62 hK62 => (Rg ?_)))))))
             refine Pu rfl (Pu rfl (Pu rfl (Pu rfl (Pu rfl (Ni (hK62 ?_))))))
             exact WC.ret fun a_ ha_ => hQ (cv_ret3 rfl (.tmp rfl) (.tmp rfl) (.tmp rfl) (by have hkz : kb = (ka + 1) + 1 ∧ n = 0 := (by rcases hv with ⟨h1_, h2_⟩ | h_; (exfalso; rw [← h1_] at hz hfd; omega); exact h_); first | (exfalso; omega) | (rw [hnum, numT_z (k1 := kb) ⟨hfd, hz⟩ hkz.1, hkz.2]; rfl)) hB ha_)
            ·
             replace c61 := dF c61
             refine WC.skip (hK59 (Sq fun K63 hK63 => (Rg (Pu rfl (Pu rfl (Pu rfl (Pu rfl ?_)))))))
             refine Pu rfl (Ni (hK63 ?_))
             exact WC.ret fun a_ ha_ => hQ (cv_ret3 rfl (.tmp rfl) (.tmp rfl) (.tmp rfl) (by have hkz : kb = (ka + 1) + 1 ∧ n = 0 := (by rcases hv with ⟨h1_, h2_⟩ | h_; (exfalso; rw [← h1_] at hz hfd; omega); exact h_); first | (exfalso; omega) | (rw [hnum, numT_z (k1 := kb) ⟨hfd, hz⟩ hkz.1, hkz.2]; rfl)) hB ha_)
         ·
          replace g52 := dF g52
          refine Of rfl (Of rfl (Pu rfl (Ni (hK51 (WC.condF rfl (WC.skip (hK50 ?_)))))))
          refine Sq fun K64 hK64 => (Sq fun K65 hK65 => (Rg (Pu rfl (Va (dx_eql rfl rfl rfl) rfl rfl (Ni (hK65 ?_))))))
          refine WC.cond rfl (fun c66 => ?_) (fun c66 => ?_)
          ·
           replace c66 := dT c66
           refine Sq fun K67 hK67 => (Rg (Pu rfl (Pu rfl (Pu rfl (Ni (hK67 ?_))))))
           exact WC.ret fun a_ ha_ => hQ (cv_ret3 rfl (.tmp rfl) (.tmp rfl) (.tmp rfl) (by have hkz : kb = (ka + 1) + 1 ∧ n = 0 := (by rcases hv with ⟨h1_, h2_⟩ | h_; (exfalso; rw [← h1_] at hz hfd; omega); exact h_); first | (exfalso; omega) | (rw [hnum, numT_z (k1 := kb) ⟨hfd, hz⟩ hkz.1, hkz.2]; rfl)) hB ha_)
          ·
           replace c66 := dF c66
           refine WC.skip (hK64 (Sq fun K68 hK68 => (Sq fun K69 hK69 => (Rg (Pu rfl (Ni (hK69 ?_)))))))
           refine WC.cond rfl (fun c70 => ?_) (fun c70 => ?_)
           ·
            replace c70 := dT c70
            refine Rg (Pu rfl (Va (dx_neg rfl rfl (wrap64_id (by omega))) rfl rfl (Pu rfl (Ni (hK68 (Sq fun K71 hK71 => (Rg ?_)))))))
            refine Pu rfl (Pu rfl (Pu rfl (Pu rfl (Pu rfl (Ni (hK71 ?_))))))
            exact WC.ret fun a_ ha_ => hQ (cv_ret3 rfl (.tmp rfl) (.tmp rfl) (.tmp rfl) (by have hkz : kb = (ka + 1) + 1 ∧ n = 0 := (by rcases hv with ⟨h1_, h2_⟩ | h_; (exfalso; rw [← h1_] at hz hfd; omega); exact h_); first | (exfalso; omega) | (rw [hnum, numT_z (k1 := kb) ⟨hfd, hz⟩ hkz.1, hkz.2]; rfl)) hB ha_)
           ·
            replace c70 := dF c70
            refine WC.skip (hK68 (Sq fun K72 hK72 => (Rg (Pu rfl (Pu rfl (Pu rfl (Pu rfl ?_)))))))
            refine Pu rfl (Ni (hK72 ?_))
            exact WC.ret fun a_ ha_ => hQ (cv_ret3 rfl (.tmp rfl) (.tmp rfl) (.tmp rfl) (by have hkz : kb = (ka + 1) + 1 ∧ n = 0 := (by rcases hv with ⟨h1_, h2_⟩ | h_; (exfalso; rw [← h1_] at hz hfd; omega); exact h_); first | (exfalso; omega) | (rw [hnum, numT_z (k1 := kb) ⟨hfd, hz⟩ hkz.1, hkz.2]; rfl)) hB ha_)
       ·
        replace g21 := dF g21
        refine Of rfl (Of rfl (Of rfl (Of rfl (Pu rfl (Pu rfl (Of rfl (Of rfl ?_)))))))
        refine Of rfl (Of rfl (Of rfl (Of rfl (Of rfl (Of rfl (Of rfl (Pu rfl ?_)))))))
        refine Ni (hK19 (WC.condF rfl ?_))
        refine WC.exit ?_
        refine hK15 (Sq fun K73 hK73 => (Sq fun K74 hK74 => (Rg (Pu rfl (Pu rfl ?_)))))
        refine WL.split 73 rfl (fun g75 => ?_) (fun g75 => ?_)
        ·
         replace g75 := dT g75
         refine Pu rfl (Va (dx_eql rfl rfl rfl) rfl rfl (Pu rfl (Ni (hK74 ?_))))
         refine WC.cond rfl (fun c76 => ?_) (fun c76 => ?_)
         ·
          replace c76 := dT c76
          refine Sq fun K77 hK77 => (Rg (Pu rfl (Pu rfl (Pu rfl (Ni (hK77 ?_))))))
          exact WC.ret fun a_ ha_ => hQ (cv_ret3 rfl (.tmp rfl) (.tmp rfl) (.tmp rfl) (by have hkz : kb = (ka + 1) + 1 ∧ n = 0 := (by rcases hv with ⟨h1_, h2_⟩ | h_; (exfalso; rw [← h1_] at hz hfd; omega); exact h_); first | (exfalso; omega) | (rw [hnum, numT_m ⟨hfd, hz⟩]; rfl)) hB ha_)
         ·
          replace c76 := dF c76
          refine WC.skip (hK73 (Sq fun K78 hK78 => (Sq fun K79 hK79 => (Rg (Pu rfl (Va (dx_eql rfl rfl rfl) rfl rfl (Ni ?_)))))))
          refine hK79 ?_
          refine WC.cond rfl (fun c80 => ?_) (fun c80 => ?_)
          ·
           replace c80 := dT c80
           refine Sq fun K81 hK81 => (Rg (Pu rfl (Pu rfl (Pu rfl (Ni (hK81 ?_))))))
           exact WC.ret fun a_ ha_ => hQ (cv_ret3 rfl (.tmp rfl) (.tmp rfl) (.tmp rfl) (by have hkz : kb = (ka + 1) + 1 ∧ n = 0 := (by rcases hv with ⟨h1_, h2_⟩ | h_; (exfalso; rw [← h1_] at hz hfd; omega); exact h_); first | (exfalso; omega) | (rw [hnum, numT_z (k1 := kb) ⟨hfd, hz⟩ hkz.1, hkz.2]; rfl)) hB ha_)
          ·
           replace c80 := dF c80
           refine WC.skip (hK78 (Sq fun K82 hK82 => (Sq fun K83 hK83 => (Rg (Pu rfl (Ni (hK83 ?_)))))))
           refine WC.cond rfl (fun c84 => ?_) (fun c84 => ?_)
           ·
            replace c84 := dT c84
            refine Rg (Pu rfl (Va (dx_neg rfl rfl (wrap64_id (by omega))) rfl rfl (Pu rfl (Ni (hK82 (Sq fun K85 hK85 => (Rg ?_)))))))
            refine Pu rfl (Pu rfl (Pu rfl (Pu rfl (Pu rfl (Ni (hK85 ?_))))))
            exact WC.ret fun a_ ha_ => hQ (cv_ret3 rfl (.tmp rfl) (.tmp rfl) (.tmp rfl) (by have hkz : kb = (ka + 1) + 1 ∧ n = 0 := (by rcases hv with ⟨h1_, h2_⟩ | h_; (exfalso; rw [← h1_] at hz hfd; omega); exact h_); first | (exfalso; omega) | (rw [hnum, numT_z (k1 := kb) ⟨hfd, hz⟩ hkz.1, hkz.2]; rfl)) hB ha_)
           ·
            replace c84 := dF c84
            refine WC.skip (hK82 (Sq fun K86 hK86 => (Rg (Pu rfl (Pu rfl (Pu rfl (Pu rfl ?_)))))))
            refine Pu rfl (Ni (hK86 ?_))
            exact WC.ret fun a_ ha_ => hQ (cv_ret3 rfl (.tmp rfl) (.tmp rfl) (.tmp rfl) (by have hkz : kb = (ka + 1) + 1 ∧ n = 0 := (by rcases hv with ⟨h1_, h2_⟩ | h_; (exfalso; rw [← h1_] at hz hfd; omega); exact h_); first | (exfalso; omega) | (rw [hnum, numT_z (k1 := kb) ⟨hfd, hz⟩ hkz.1, hkz.2]; rfl)) hB ha_)
        ·
         replace g75 := dF g75
         refine Of rfl (Of rfl (Pu rfl (Ni (hK74 (WC.condF rfl (WC.skip (hK73 ?_)))))))
         refine Sq fun K87 hK87 => (Sq fun K88 hK88 => (Rg (Pu rfl (Va (dx_eql rfl rfl rfl) rfl rfl (Ni (hK88 ?_))))))
         refine WC.cond rfl (fun c89 => ?_) (fun c89 => ?_)
         ·
          replace c89 := dT c89
          refine Sq fun K90 hK90 => (Rg (Pu rfl (Pu rfl (Pu rfl (Ni (hK90 ?_))))))
          exact WC.ret fun a_ ha_ => hQ (cv_ret3 rfl (.tmp rfl) (.tmp rfl) (.tmp rfl) (by have hkz : kb = (ka + 1) + 1 ∧ n = 0 := (by rcases hv with ⟨h1_, h2_⟩ | h_; (exfalso; rw [← h1_] at hz hfd; omega); exact h_); first | (exfalso; omega) | (rw [hnum, numT_z (k1 := kb) ⟨hfd, hz⟩ hkz.1, hkz.2]; rfl)) hB ha_)
         ·
          replace c89 := dF c89
          refine WC.skip (hK87 (Sq fun K91 hK91 => (Sq fun K92 hK92 => (Rg (Pu rfl (Ni (hK92 ?_)))))))
          refine WC.cond rfl (fun c93 => ?_) (fun c93 => ?_)
          ·
           replace c93 := dT c93
           refine Rg (Pu rfl (Va (dx_neg rfl rfl (wrap64_id (by omega))) rfl rfl (Pu rfl (Ni (hK91 (Sq fun K94 hK94 => (Rg ?_)))))))
           refine Pu rfl (Pu rfl (Pu rfl (Pu rfl (Pu rfl (Ni (hK94 ?_))))))
           exact WC.ret fun a_ ha_ => hQ (cv_ret3 rfl (.tmp rfl) (.tmp rfl) (.tmp rfl) (by have hkz : kb = (ka + 1) + 1 ∧ n = 0 := (by rcases hv with ⟨h1_, h2_⟩ | h_; (exfalso; rw [← h1_] at hz hfd; omega); exact h_); first | (exfalso; omega) | (rw [hnum, numT_z (k1 := kb) ⟨hfd, hz⟩ hkz.1, hkz.2]; rfl)) hB ha_)
          ·
           replace c93 := dF c93
           refine WC.skip (hK91 (Sq fun K95 hK95 => (Rg (Pu rfl (Pu rfl (Pu rfl (Pu rfl ?_)))))))
           refine Pu rfl (Ni (hK95 ?_))
           exact WC.ret fun a_ ha_ => hQ (cv_ret3 rfl (.tmp rfl) (.tmp rfl) (.tmp rfl) (by have hkz : kb = (ka + 1) + 1 ∧ n = 0 := (by rcases hv with ⟨h1_, h2_⟩ | h_; (exfalso; rw [← h1_] at hz hfd; omega); exact h_); first | (exfalso; omega) | (rw [hnum, numT_z (k1 := kb) ⟨hfd, hz⟩ hkz.1, hkz.2]; rfl)) hB ha_)
      ·
       replace g20 := dF g20
       refine Of rfl (Of rfl (Of rfl (Of rfl (Pu rfl (Pu rfl (Of rfl (Of rfl ?_)))))))
       refine Of rfl (Of rfl (Pu rfl (Pu rfl (Of rfl (Of rfl (Of rfl (Of rfl ?_)))))))
       refine Of rfl (Of rfl (Of rfl (Of rfl (Of rfl (Pu rfl (Ni (hK19 ?_)))))))
       refine WC.condF rfl ?_
       refine WC.exit ?_
       refine hK15 (Sq fun K96 hK96 => (Sq fun K97 hK97 => (Rg (Pu rfl (Pu rfl ?_)))))
       refine WL.split 73 rfl (fun g98 => ?_) (fun g98 => ?_)
       ·
        replace g98 := dT g98
        refine Pu rfl (Va (dx_eql rfl rfl rfl) rfl rfl (Pu rfl (Ni (hK97 ?_))))
        refine WC.cond rfl (fun c99 => ?_) (fun c99 => ?_)
        ·
         replace c99 := dT c99
         refine Sq fun K100 hK100 => (Rg (Pu rfl (Pu rfl (Pu rfl (Ni (hK100 ?_))))))
         exact WC.ret fun a_ ha_ => hQ (cv_ret3 rfl (.tmp rfl) (.tmp rfl) (.tmp rfl) (by have hkz : kb = (ka + 1) + 1 ∧ n = 0 := (by rcases hv with ⟨h1_, h2_⟩ | h_; (exfalso; rw [← h1_] at hz hfd; omega); exact h_); first | (exfalso; omega) | (rw [hnum, numT_m ⟨hfd, hz⟩]; rfl)) hB ha_)
        ·
         replace c99 := dF c99
         refine WC.skip (hK96 (Sq fun K101 hK101 => (Sq fun K102 hK102 => (Rg (Pu rfl (Va (dx_eql rfl rfl rfl) rfl rfl (Ni ?_)))))))
         refine hK102 ?_
         refine WC.cond rfl (fun c103 => ?_) (fun c103 => ?_)
         ·
          replace c103 := dT c103
          refine Sq fun K104 hK104 => (Rg (Pu rfl (Pu rfl (Pu rfl (Ni (hK104 ?_))))))
          exact WC.ret fun a_ ha_ => hQ (cv_ret3 rfl (.tmp rfl) (.tmp rfl) (.tmp rfl) (by have hkz : kb = (ka + 1) + 1 ∧ n = 0 := (by rcases hv with ⟨h1_, h2_⟩ | h_; (exfalso; rw [← h1_] at hz hfd; omega); exact h_); first | (exfalso; omega) | (rw [hnum, numT_z (k1 := kb) ⟨hfd, hz⟩ hkz.1, hkz.2]; rfl)) hB ha_)
         ·
          replace c103 := dF c103
          refine WC.skip (hK101 (Sq fun K105 hK105 => (Sq fun K106 hK106 => (Rg (Pu rfl (Ni (hK106 ?_)))))))
          refine WC.cond rfl (fun c107 => ?_) (fun c107 => ?_)
          ·
           replace c107 := dT c107
           refine Rg (Pu rfl (Va (dx_neg rfl rfl (wrap64_id (by omega))) rfl rfl (Pu rfl (Ni (hK105 (Sq fun K108 hK108 => (Rg ?_)))))))
           refine Pu rfl (Pu rfl (Pu rfl (Pu rfl (Pu rfl (Ni (hK108 ?_))))))
           exact WC.ret fun a_ ha_ => hQ (cv_ret3 rfl (.tmp rfl) (.tmp rfl) (.tmp rfl) (by have hkz : kb = (ka + 1) + 1 ∧ n = 0 := (by rcases hv with ⟨h1_, h2_⟩ | h_; (exfalso; rw [← h1_] at hz hfd; omega); exact h_); first | (exfalso; omega) | (rw [hnum, numT_z (k1 := kb) ⟨hfd, hz⟩ hkz.1, hkz.2]; rfl)) hB ha_)
          ·
           replace c107 := dF c107
           refine WC.skip (hK105 (Sq fun K109 hK109 => (Rg (Pu rfl (Pu rfl (Pu rfl (Pu rfl ?_)))))))
           refine Pu rfl (Ni (hK109 ?_))
           exact WC.ret fun a_ ha_ => hQ (cv_ret3 rfl (.tmp rfl) (.tmp rfl) (.tmp rfl) (by have hkz : kb = (ka + 1) + 1 ∧ n = 0 := (by rcases hv with ⟨h1_, h2_⟩ | h_; (exfalso; rw [← h1_] at hz hfd; omega); exact h_); first | (exfalso; omega) | (rw [hnum, numT_z (k1 := kb) ⟨hfd, hz⟩ hkz.1, hkz.2]; rfl)) hB ha_)
       ·
        replace g98 := dF g98
        refine Of rfl (Of rfl (Pu rfl (Ni (hK97 (WC.condF rfl (WC.skip (hK96 ?_)))))))
        refine Sq fun K110 hK110 => (Sq fun K111 hK111 => (Rg (Pu rfl (Va (dx_eql rfl rfl rfl) rfl rfl (Ni (hK111 ?_))))))
        refine WC.cond rfl (fun c112 => ?_) (fun c112 => ?_)
        ·
         replace c112 := dT c112
         refine Sq fun K113 hK113 => (Rg (Pu rfl (Pu rfl (Pu rfl (Ni (hK113 ?_))))))
         exact WC.ret fun a_ ha_ => hQ (cv_ret3 rfl (.tmp rfl) (.tmp rfl) (.tmp rfl) (by have hkz : kb = (ka + 1) + 1 ∧ n = 0 := (by rcases hv with ⟨h1_, h2_⟩ | h_; (exfalso; rw [← h1_] at hz hfd; omega); exact h_); first | (exfalso; omega) | (rw [hnum, numT_z (k1 := kb) ⟨hfd, hz⟩ hkz.1, hkz.2]; rfl)) hB ha_)
        ·
         replace c112 := dF c112
         refine WC.skip (hK110 (Sq fun K114 hK114 => (Sq fun K115 hK115 => (Rg (Pu rfl (Ni (hK115 ?_)))))))
         refine WC.cond rfl (fun c116 => ?_) (fun c116 => ?_)
         ·
          replace c116 := dT c116
          refine Rg (Pu rfl (Va (dx_neg rfl rfl (wrap64_id (by omega))) rfl rfl (Pu rfl (Ni (hK114 (Sq fun K117 hK117 => (Rg ?_)))))))
          refine Pu rfl (Pu rfl (Pu rfl (Pu rfl (Pu rfl (Ni (hK117 ?_))))))
          exact WC.ret fun a_ ha_ => hQ (cv_ret3 rfl (.tmp rfl) (.tmp rfl) (.tmp rfl) (by have hkz : kb = (ka + 1) + 1 ∧ n = 0 := (by rcases hv with ⟨h1_, h2_⟩ | h_; (exfalso; rw [← h1_] at hz hfd; omega); exact h_); first | (exfalso; omega) | (rw [hnum, numT_z (k1 := kb) ⟨hfd, hz⟩ hkz.1, hkz.2]; rfl)) hB ha_)
         ·
          replace c116 := dF c116
          refine WC.skip (hK114 (Sq fun K118 hK118 => (Rg (Pu rfl (Pu rfl (Pu rfl (Pu rfl ?_)))))))
          refine Pu rfl (Ni (hK118 ?_))
          exact WC.ret fun a_ ha_ => hQ (cv_ret3 rfl (.tmp rfl) (.tmp rfl) (.tmp rfl) (by have hkz : kb = (ka + 1) + 1 ∧ n = 0 := (by rcases hv with ⟨h1_, h2_⟩ | h_; (exfalso; rw [← h1_] at hz hfd; omega); exact h_); first | (exfalso; omega) | (rw [hnum, numT_z (k1 := kb) ⟨hfd, hz⟩ hkz.1, hkz.2]; rfl)) hB ha_)
     ·
      refine Rg (Pu rfl (Pu rfl (Pu rfl (Ni (hK14 (Sq fun K119 hK119 => (WC.block ?_)))))))
      refine WC.loop2 (fun (kb : Nat) (n : Int) => [(0, .string s), (7, .bool (decide (atS s ka = 45))), (9, .int .i64 ((ka + 1 : Nat) : Int)), (1, .int .i64 (kb : Int)), (8, .int .i64 n)]) (fun (kb : Nat) (n : Int) W => kb ≤ s.size ∧ (ka + 1) ≤ kb ∧ 0 ≤ n ∧ n ≤ 9007199254740992 ∧ ClN s (ka + 1) kb n ∧ Below w.heap.size w W ∧ LL (L) W) (fun (kb : Nat) (n : Int) => s.size - kb) (ka + 1) 0 (by repeat first | exact trivial | exact And.intro rfl trivial | refine And.intro rfl ?_ | refine And.intro (congrArg (fun z : Int => some (Value.int .i64 z)) (by omega)) ?_) ⟨(by omega), (by omega), (by omega), (by omega), ⟨rfl, fun h => by omega, fun _ => rfl, .inl ⟨by decide, rfl⟩⟩, hB, hL⟩ ?_
      clear hB hL
      rintro K120 kb n W121 ⟨hkb, hkk, hn0, hn1, hv, hB, hL⟩ hK120
      refine Sq fun K122 hK122 => (Sq fun K123 hK123 => (Rg (Pu rfl (Pu rfl (Va (dx_lenT rfl Try.underlying9 rfl) rfl rfl (Va (dx_lss rfl rfl rfl) rfl rfl (Pu rfl ?_)))))))
      refine WL.split 38 rfl (fun g124 => ?_) (fun g124 => ?_)
      ·
       replace g124 := dT g124
       refine Pu rfl (Pu rfl (Va (dx_at kb rfl Try.underlying9 rfl rfl (by omega) (by omega)) rfl rfl (Va (dx_geq rfl rfl rfl) rfl rfl (Pu rfl (Pu rfl ?_)))))
       refine WL.split 44 rfl (fun g125 => ?_) (fun g125 => ?_)
       ·
        replace g125 := dT g125
        refine Pu rfl (Pu rfl (Va (dx_at kb rfl Try.underlying9 rfl rfl (by omega) (by omega)) rfl rfl (Va (dx_leq rfl rfl rfl) rfl rfl (Pu rfl (Pu rfl ?_)))))
        refine WL.split 50 rfl (fun g126 => ?_) (fun g126 => ?_)
        ·
         replace g126 := dT g126
         refine Pu rfl (Pu rfl (Va (dx_eql rfl rfl rfl) rfl rfl (Pu rfl ?_)))
         refine WL.split 54 rfl (fun g127 => ?_) (fun g127 => ?_)
         ·
          replace g127 := dT g127
          refine Of rfl (Of rfl (Of rfl (Of rfl (Pu rfl (Pu rfl (Ni (hK123 ?_)))))))
          refine WC.condT rfl (WC.skip (hK122 (WC.block (Sq fun K128 hK128 => (Rg (Pu rfl (Va (dx_mul (r := n * 10) rfl rfl rfl (wrap64_id (by omega))) rfl rfl ?_)))))))
          refine Pu rfl (Pu rfl (Va (dx_at kb rfl Try.underlying9 rfl rfl (by omega) (by omega)) rfl rfl (Va (dx_sub (r := (atS s kb) - 48) rfl rfl rfl (wrapu8_id (by omega))) rfl rfl (Va (dx_conv (r := (atS s kb) - 48) rfl Try.underlying5 Try.underlying3 rfl (wrap64_id (by omega))) rfl rfl (Va (dx_add (r := (n * 10) + ((atS s kb) - 48)) rfl rfl rfl (wrap64_id (by omega))) rfl rfl (Va (dx_min rfl rfl rfl) rfl rfl (Pu rfl ?_)))))))
          refine Ni (hK128 (Rg (Pu rfl (Va (dx_add (r := (kb : Int) + 1) rfl rfl rfl (wrap64_id (by omega))) rfl rfl (Pu rfl (Ni ?_))))))
          exact hK120 (kb + 1) (if 9007199254740992 < (n * 10) + ((atS s kb) - 48) then 9007199254740992 else (n * 10) + ((atS s kb) - 48)) ⟨(by omega), (by omega), (by split <;> omega), (by split <;> omega), (cl_step hv (by omega) (by omega) (by omega) (by omega) (by omega) (fun e_ => by subst e_; assumption) rfl), hB, hL⟩ (by omega) (by repeat first | exact trivial | exact And.intro rfl trivial | refine And.intro rfl ?_ | refine And.intro (congrArg (fun z : Int => some (Value.int .i64 z)) (by omega)) ?_)
         ·
          replace g127 := dF g127
          refine Pu rfl (Pu rfl (Va (dx_at (ka + 1) rfl Try.underlying9 rfl rfl (by omega) (by omega)) rfl rfl (Va (dx_neq rfl rfl rfl) rfl rfl (Pu rfl (Pu rfl (Ni (hK123 ?_)))))))
          refine WC.cond rfl (fun c129 => ?_) (fun c129 => ?_)
          ·
           replace c129 := bnot_t c129
           replace c129 := dF c129
           refine WC.skip (hK122 (WC.block (Sq fun K130 hK130 => (Rg (Pu rfl (Va (dx_mul (r := n * 10) rfl rfl rfl (wrap64_id (by omega))) rfl rfl (Pu rfl ?_)))))))
           refine Pu rfl (Va (dx_at kb rfl Try.underlying9 rfl rfl (by omega) (by omega)) rfl rfl (Va (dx_sub (r := (atS s kb) - 48) rfl rfl rfl (wrapu8_id (by omega))) rfl rfl (Va (dx_conv (r := (atS s kb) - 48) rfl Try.underlying5 Try.underlying3 rfl (wrap64_id (by omega))) rfl rfl (Va (dx_add (r := (n * 10) + ((atS s kb) - 48)) rfl rfl rfl (wrap64_id (by omega))) rfl rfl (Va (dx_min rfl rfl rfl) rfl rfl (Pu rfl (Ni ?_)))))))
           refine hK130 (Rg (Pu rfl (Va (dx_add (r := (kb : Int) + 1) rfl rfl rfl (wrap64_id (by omega))) rfl rfl (Pu rfl (Ni ?_)))))
           exact hK120 (kb + 1) (if 9007199254740992 < (n * 10) + ((atS s kb) - 48) then 9007199254740992 else (n * 10) + ((atS s kb) - 48)) ⟨(by omega), (by omega), (by split <;> omega), (by split <;> omega), (cl_step hv (by omega) (by omega) (by omega) (by omega) (by omega) (fun e_ => by subst e_; assumption) rfl), hB, hL⟩ (by omega) (by repeat first | exact trivial | exact And.intro rfl trivial | refine And.intro rfl ?_ | refine And.intro (congrArg (fun z : Int => some (Value.int .i64 z)) (by omega)) ?_)
          ·
           replace c129 := bnot_f c129
           replace c129 := dT c129
           refine WC.exit ?_
           refine hK119 (Sq fun K131 hK131 => (Sq fun K132 hK132 => (Rg (Pu rfl (Pu rfl ?_)))))
           refine WL.split 73 rfl (fun g133 => ?_) (fun g133 => ?_)
           ·
            replace g133 := dT g133
            refine Pu rfl (Va (dx_eql rfl rfl rfl) rfl rfl (Pu rfl (Ni (hK132 ?_))))
            refine WC.cond rfl (fun c134 => ?_) (fun c134 => ?_)
            ·
             replace c134 := dT c134
             refine Sq fun K135 hK135 => (Rg (Pu rfl (Pu rfl (Pu rfl (Ni (hK135 ?_))))))
             exact WC.ret fun a_ ha_ => hQ (cv_ret3 rfl (.tmp rfl) (.tmp rfl) (.tmp rfl) (by have hq := cl_end hv (dig_no (by omega)); have hgt : (ka + 1) < kb := (by rcases Nat.eq_or_lt_of_le hkk with h_ | h_; (exfalso; have h3_ : atS s (ka + 1) = atS s kb := (by rw [h_]); omega); exact h_); have hn2 := hv.2.1 hgt; first | (exfalso; omega) | (rw [hnum, numT_s (n := n) (fun h_ => hz h_.2) (by omega) (by rcases hq.2 with ⟨q1, q2⟩ | ⟨q1, q2⟩; exact q2; (exfalso; omega)), hq.1]; rfl)) hB ha_)
            ·
             replace c134 := dF c134
             refine WC.skip (hK131 (Sq fun K136 hK136 => (Sq fun K137 hK137 => (Rg (Pu rfl (Va (dx_eql rfl rfl rfl) rfl rfl (Ni ?_)))))))
             refine hK137 ?_
             refine WC.cond rfl (fun c138 => ?_) (fun c138 => ?_)
             ·
              replace c138 := dT c138
              refine Sq fun K139 hK139 => (Rg (Pu rfl (Pu rfl (Pu rfl (Ni (hK139 ?_))))))
              exact WC.ret fun a_ ha_ => hQ (cv_ret3 rfl (.tmp rfl) (.tmp rfl) (.tmp rfl) (by have hq := cl_end hv (dig_no (by omega)); have hgt : (ka + 1) < kb := (by rcases Nat.eq_or_lt_of_le hkk with h_ | h_; (exfalso; have h3_ : atS s (ka + 1) = atS s kb := (by rw [h_]); omega); exact h_); have hn2 := hv.2.1 hgt; first | (exfalso; omega) | (rw [hnum, numT_n (fun h_ => hz h_.2) (by omega) (by rcases hq.2 with ⟨q1, q2⟩ | ⟨q1, q2⟩; (exfalso; omega); exact q2)]; rfl)) hB ha_)
             ·
              replace c138 := dF c138
              refine WC.skip (hK136 (Sq fun K140 hK140 => (Sq fun K141 hK141 => (Rg (Pu rfl (Ni (hK141 ?_)))))))
              refine WC.cond rfl (fun c142 => ?_) (fun c142 => ?_)
              ·
               replace c142 := dT c142
               refine Rg (Pu rfl (Va (dx_neg rfl rfl (wrap64_id (by omega))) rfl rfl (Pu rfl (Ni (hK140 (Sq fun K143 hK143 => (Rg ?_)))))))
               refine Pu rfl (Pu rfl (Pu rfl (Pu rfl (Pu rfl (Ni (hK143 ?_))))))
               exact WC.ret fun a_ ha_ => hQ (cv_ret3 rfl (.tmp rfl) (.tmp rfl) (.tmp rfl) (by have hq := cl_end hv (dig_no (by omega)); have hgt : (ka + 1) < kb := (by rcases Nat.eq_or_lt_of_le hkk with h_ | h_; (exfalso; have h3_ : atS s (ka + 1) = atS s kb := (by rw [h_]); omega); exact h_); have hn2 := hv.2.1 hgt; first | (exfalso; omega) | (rw [hnum, numT_s (n := n) (fun h_ => hz h_.2) (by omega) (by rcases hq.2 with ⟨q1, q2⟩ | ⟨q1, q2⟩; exact q2; (exfalso; omega)), hq.1]; rfl)) hB ha_)
              ·
               replace c142 := dF c142
               refine WC.skip (hK140 (Sq fun K144 hK144 => (Rg (Pu rfl (Pu rfl (Pu rfl (Pu rfl ?_)))))))
               refine Pu rfl (Ni (hK144 ?_))
               exact WC.ret fun a_ ha_ => hQ (cv_ret3 rfl (.tmp rfl) (.tmp rfl) (.tmp rfl) (by have hq := cl_end hv (dig_no (by omega)); have hgt : (ka + 1) < kb := (by rcases Nat.eq_or_lt_of_le hkk with h_ | h_; (exfalso; have h3_ : atS s (ka + 1) = atS s kb := (by rw [h_]); omega); exact h_); have hn2 := hv.2.1 hgt; first | (exfalso; omega) | (rw [hnum, numT_s (n := n) (fun h_ => hz h_.2) (by omega) (by rcases hq.2 with ⟨q1, q2⟩ | ⟨q1, q2⟩; exact q2; (exfalso; omega)), hq.1]; rfl)) hB ha_)
           ·
            replace g133 := dF g133
            refine Of rfl (Of rfl (Pu rfl (Ni (hK132 (WC.condF rfl (WC.skip (hK131 ?_)))))))
            refine Sq fun K145 hK145 => (Sq fun K146 hK146 => (Rg (Pu rfl (Va (dx_eql rfl rfl rfl) rfl rfl (Ni (hK146 ?_))))))
            refine WC.cond rfl (fun c147 => ?_) (fun c147 => ?_)
            ·
             replace c147 := dT c147
             refine Sq fun K148 hK148 => (Rg (Pu rfl (Pu rfl (Pu rfl (Ni (hK148 ?_))))))
             exact WC.ret fun a_ ha_ => hQ (cv_ret3 rfl (.tmp rfl) (.tmp rfl) (.tmp rfl) (by have hq := cl_end hv (dig_no (by omega)); have hgt : (ka + 1) < kb := (by rcases Nat.eq_or_lt_of_le hkk with h_ | h_; (exfalso; have h3_ : atS s (ka + 1) = atS s kb := (by rw [h_]); omega); exact h_); have hn2 := hv.2.1 hgt; first | (exfalso; omega) | (rw [hnum, numT_n (fun h_ => hz h_.2) (by omega) (by rcases hq.2 with ⟨q1, q2⟩ | ⟨q1, q2⟩; (exfalso; omega); exact q2)]; rfl)) hB ha_)
            ·
             replace c147 := dF c147
             refine WC.skip (hK145 (Sq fun K149 hK149 => (Sq fun K150 hK150 => (Rg (Pu rfl (Ni (hK150 ?_)))))))
             refine WC.cond rfl (fun c151 => ?_) (fun c151 => ?_)
             ·
              replace c151 := dT c151
              refine Rg (Pu rfl (Va (dx_neg rfl rfl (wrap64_id (by omega))) rfl rfl (Pu rfl (Ni (hK149 (Sq fun K152 hK152 => (Rg ?_)))))))
              refine Pu rfl (Pu rfl (Pu rfl (Pu rfl (Pu rfl (Ni (hK152 ?_))))))
              exact WC.ret fun a_ ha_ => hQ (cv_ret3 rfl (.tmp rfl) (.tmp rfl) (.tmp rfl) (by have hq := cl_end hv (dig_no (by omega)); have hgt : (ka + 1) < kb := (by rcases Nat.eq_or_lt_of_le hkk with h_ | h_; (exfalso; have h3_ : atS s (ka + 1) = atS s kb := (by rw [h_]); omega); exact h_); have hn2 := hv.2.1 hgt; first | (exfalso; omega) | (rw [hnum, numT_s (n := n) (fun h_ => hz h_.2) (by omega) (by rcases hq.2 with ⟨q1, q2⟩ | ⟨q1, q2⟩; exact q2; (exfalso; omega)), hq.1]; rfl)) hB ha_)
             ·
              replace c151 := dF c151
              refine WC.skip (hK149 (Sq fun K153 hK153 => (Rg (Pu rfl (Pu rfl (Pu rfl (Pu rfl ?_)))))))
              refine Pu rfl (Ni (hK153 ?_))
              exact WC.ret fun a_ ha_ => hQ (cv_ret3 rfl (.tmp rfl) (.tmp rfl) (.tmp rfl) (by have hq := cl_end hv (dig_no (by omega)); have hgt : (ka + 1) < kb := (by rcases Nat.eq_or_lt_of_le hkk with h_ | h_; (exfalso; have h3_ : atS s (ka + 1) = atS s kb := (by rw [h_]); omega); exact h_); have hn2 := hv.2.1 hgt; first | (exfalso; omega) | (rw [hnum, numT_s (n := n) (fun h_ => hz h_.2) (by omega) (by rcases hq.2 with ⟨q1, q2⟩ | ⟨q1, q2⟩; exact q2; (exfalso; omega)), hq.1]; rfl)) hB ha_)
        ·
         replace g126 := dF g126
         refine Of rfl (Of rfl (Of rfl (Of rfl (Of rfl (Of rfl (Of rfl (Of rfl ?_)))))))
         refine Of rfl (Pu rfl (Ni (hK123 (WC.condF rfl ?_))))
         refine WC.exit ?_
         refine hK119 (Sq fun K154 hK154 => (Sq fun K155 hK155 => (Rg (Pu rfl (Pu rfl ?_)))))
         refine WL.split 73 rfl (fun g156 => ?_) (fun g156 => ?_)
         ·
          replace g156 := dT g156
          refine Pu rfl (Va (dx_eql rfl rfl rfl) rfl rfl (Pu rfl (Ni (hK155 ?_))))
          refine WC.cond rfl (fun c157 => ?_) (fun c157 => ?_)
          ·
           replace c157 := dT c157
           refine Sq fun K158 hK158 => (Rg (Pu rfl (Pu rfl (Pu rfl (Ni (hK158 ?_))))))
           exact WC.ret fun a_ ha_ => hQ (cv_ret3 rfl (.tmp rfl) (.tmp rfl) (.tmp rfl) (by have hq := cl_end hv (dig_no (by omega)); have hgt : (ka + 1) < kb := (by rcases Nat.eq_or_lt_of_le hkk with h_ | h_; (exfalso; have h3_ : atS s (ka + 1) = atS s kb := (by rw [h_]); omega); exact h_); have hn2 := hv.2.1 hgt; first | (exfalso; omega) | (rw [hnum, numT_s (n := n) (fun h_ => hz h_.2) (by omega) (by rcases hq.2 with ⟨q1, q2⟩ | ⟨q1, q2⟩; exact q2; (exfalso; omega)), hq.1]; rfl)) hB ha_)
          ·
           replace c157 := dF c157
           refine WC.skip (hK154 (Sq fun K159 hK159 => (Sq fun K160 hK160 => (Rg (Pu rfl (Va (dx_eql rfl rfl rfl) rfl rfl (Ni ?_)))))))
           refine hK160 ?_
           refine WC.cond rfl (fun c161 => ?_) (fun c161 => ?_)
           ·
            replace c161 := dT c161
            refine Sq fun K162 hK162 => (Rg (Pu rfl (Pu rfl (Pu rfl (Ni (hK162 ?_))))))
            exact WC.ret fun a_ ha_ => hQ (cv_ret3 rfl (.tmp rfl) (.tmp rfl) (.tmp rfl) (by have hq := cl_end hv (dig_no (by omega)); have hgt : (ka + 1) < kb := (by rcases Nat.eq_or_lt_of_le hkk with h_ | h_; (exfalso; have h3_ : atS s (ka + 1) = atS s kb := (by rw [h_]); omega); exact h_); have hn2 := hv.2.1 hgt; first | (exfalso; omega) | (rw [hnum, numT_n (fun h_ => hz h_.2) (by omega) (by rcases hq.2 with ⟨q1, q2⟩ | ⟨q1, q2⟩; (exfalso; omega); exact q2)]; rfl)) hB ha_)
           ·
            replace c161 := dF c161
            refine WC.skip (hK159 (Sq fun K163 hK163 => (Sq fun K164 hK164 => (Rg (Pu rfl (Ni (hK164 ?_)))))))
            refine WC.cond rfl (fun c165 => ?_) (fun c165 => ?_)
            ·
             replace c165 := dT c165
             refine Rg (Pu rfl (Va (dx_neg rfl rfl (wrap64_id (by omega))) rfl rfl (Pu rfl (Ni (hK163 (Sq fun K166 hK166 => (Rg ?_)))))))
             refine Pu rfl (Pu rfl (Pu rfl (Pu rfl (Pu rfl (Ni (hK166 ?_))))))
             exact WC.ret fun a_ ha_ => hQ (cv_ret3 rfl (.tmp rfl) (.tmp rfl) (.tmp rfl) (by have hq := cl_end hv (dig_no (by omega)); have hgt : (ka + 1) < kb := (by rcases Nat.eq_or_lt_of_le hkk with h_ | h_; (exfalso; have h3_ : atS s (ka + 1) = atS s kb := (by rw [h_]); omega); exact h_); have hn2 := hv.2.1 hgt; first | (exfalso; omega) | (rw [hnum, numT_s (n := n) (fun h_ => hz h_.2) (by omega) (by rcases hq.2 with ⟨q1, q2⟩ | ⟨q1, q2⟩; exact q2; (exfalso; omega)), hq.1]; rfl)) hB ha_)
            ·
             replace c165 := dF c165
             refine WC.skip (hK163 (Sq fun K167 hK167 => (Rg (Pu rfl (Pu rfl (Pu rfl (Pu rfl ?_)))))))
             refine Pu rfl (Ni (hK167 ?_))
             exact WC.ret fun a_ ha_ => hQ (cv_ret3 rfl (.tmp rfl) (.tmp rfl) (.tmp rfl) (by have hq := cl_end hv (dig_no (by omega)); have hgt : (ka + 1) < kb := (by rcases Nat.eq_or_lt_of_le hkk with h_ | h_; (exfalso; have h3_ : atS s (ka + 1) = atS s kb := (by rw [h_]); omega); exact h_); have hn2 := hv.2.1 hgt; first | (exfalso; omega) | (rw [hnum, numT_s (n := n) (fun h_ => hz h_.2) (by omega) (by rcases hq.2 with ⟨q1, q2⟩ | ⟨q1, q2⟩; exact q2; (exfalso; omega)), hq.1]; rfl)) hB ha_)
         ·
          replace g156 := dF g156
          refine Of rfl (Of rfl (Pu rfl (Ni (hK155 (WC.condF rfl (WC.skip (hK154 ?_)))))))
          refine Sq fun K168 hK168 => (Sq fun K169 hK169 => (Rg (Pu rfl (Va (dx_eql rfl rfl rfl) rfl rfl (Ni (hK169 ?_))))))
          refine WC.cond rfl (fun c170 => ?_) (fun c170 => ?_)
          ·
           replace c170 := dT c170
           refine Sq fun K171 hK171 => (Rg (Pu rfl (Pu rfl (Pu rfl (Ni (hK171 ?_))))))
           exact WC.ret fun a_ ha_ => hQ (cv_ret3 rfl (.tmp rfl) (.tmp rfl) (.tmp rfl) (by have hq := cl_end hv (dig_no (by omega)); have hgt : (ka + 1) < kb := (by rcases Nat.eq_or_lt_of_le hkk with h_ | h_; (exfalso; have h3_ : atS s (ka + 1) = atS s kb := (by rw [h_]); omega); exact h_); have hn2 := hv.2.1 hgt; first | (exfalso; omega) | (rw [hnum, numT_n (fun h_ => hz h_.2) (by omega) (by rcases hq.2 with ⟨q1, q2⟩ | ⟨q1, q2⟩; (exfalso; omega); exact q2)]; rfl)) hB ha_)
          ·
           replace c170 := dF c170
           refine WC.skip (hK168 (Sq fun K172 hK172 => (Sq fun K173 hK173 => (Rg (Pu rfl (Ni (hK173 ?_)))))))
           refine WC.cond rfl (fun c174 => ?_) (fun c174 => ?_)
           ·
            replace c174 := dT c174
            refine Rg (Pu rfl (Va (dx_neg rfl rfl (wrap64_id (by omega))) rfl rfl (Pu rfl (Ni (hK172 (Sq fun K175 hK175 => (Rg ?_)))))))
            refine Pu rfl (Pu rfl (Pu rfl (Pu rfl (Pu rfl (Ni (hK175 ?_))))))
            exact WC.ret fun a_ ha_ => hQ (cv_ret3 rfl (.tmp rfl) (.tmp rfl) (.tmp rfl) (by have hq := cl_end hv (dig_no (by omega)); have hgt : (ka + 1) < kb := (by rcases Nat.eq_or_lt_of_le hkk with h_ | h_; (exfalso; have h3_ : atS s (ka + 1) = atS s kb := (by rw [h_]); omega); exact h_); have hn2 := hv.2.1 hgt; first | (exfalso; omega) | (rw [hnum, numT_s (n := n) (fun h_ => hz h_.2) (by omega) (by rcases hq.2 with ⟨q1, q2⟩ | ⟨q1, q2⟩; exact q2; (exfalso; omega)), hq.1]; rfl)) hB ha_)
           ·
            replace c174 := dF c174
            refine WC.skip (hK172 (Sq fun K176 hK176 => (Rg (Pu rfl (Pu rfl (Pu rfl (Pu rfl ?_)))))))
            refine Pu rfl (Ni (hK176 ?_))
            exact WC.ret fun a_ ha_ => hQ (cv_ret3 rfl (.tmp rfl) (.tmp rfl) (.tmp rfl) (by have hq := cl_end hv (dig_no (by omega)); have hgt : (ka + 1) < kb := (by rcases Nat.eq_or_lt_of_le hkk with h_ | h_; (exfalso; have h3_ : atS s (ka + 1) = atS s kb := (by rw [h_]); omega); exact h_); have hn2 := hv.2.1 hgt; first | (exfalso; omega) | (rw [hnum, numT_s (n := n) (fun h_ => hz h_.2) (by omega) (by rcases hq.2 with ⟨q1, q2⟩ | ⟨q1, q2⟩; exact q2; (exfalso; omega)), hq.1]; rfl)) hB ha_)
       ·
        replace g125 := dF g125
        refine Of rfl (Of rfl (Of rfl (Of rfl (Pu rfl (Pu rfl (Of rfl (Of rfl ?_)))))))
        refine Of rfl (Of rfl (Of rfl (Of rfl (Of rfl (Of rfl (Of rfl (Pu rfl ?_)))))))
        refine Ni (hK123 (WC.condF rfl ?_))
        refine WC.exit ?_
        refine hK119 (Sq fun K177 hK177 => (Sq fun K178 hK178 => (Rg (Pu rfl (Pu rfl ?_)))))
        refine WL.split 73 rfl (fun g179 => ?_) (fun g179 => ?_)
        ·
         replace g179 := dT g179
         refine Pu rfl (Va (dx_eql rfl rfl rfl) rfl rfl (Pu rfl (Ni (hK178 ?_))))
         refine WC.cond rfl (fun c180 => ?_) (fun c180 => ?_)
         ·
          replace c180 := dT c180
          refine Sq fun K181 hK181 => (Rg (Pu rfl (Pu rfl (Pu rfl (Ni (hK181 ?_))))))
          exact WC.ret fun a_ ha_ => hQ (cv_ret3 rfl (.tmp rfl) (.tmp rfl) (.tmp rfl) (by have hq := cl_end hv (dig_no (by omega)); have hgt : (ka + 1) < kb := (by rcases Nat.eq_or_lt_of_le hkk with h_ | h_; (exfalso; have h3_ : atS s (ka + 1) = atS s kb := (by rw [h_]); omega); exact h_); have hn2 := hv.2.1 hgt; first | (exfalso; omega) | (rw [hnum, numT_s (n := n) (fun h_ => hz h_.2) (by omega) (by rcases hq.2 with ⟨q1, q2⟩ | ⟨q1, q2⟩; exact q2; (exfalso; omega)), hq.1]; rfl)) hB ha_)
         ·
          replace c180 := dF c180
          refine WC.skip (hK177 (Sq fun K182 hK182 => (Sq fun K183 hK183 => (Rg (Pu rfl (Va (dx_eql rfl rfl rfl) rfl rfl (Ni ?_)))))))
          refine hK183 ?_
          refine WC.cond rfl (fun c184 => ?_) (fun c184 => ?_)
          ·
           replace c184 := dT c184
           refine Sq fun K185 hK185 => (Rg (Pu rfl (Pu rfl (Pu rfl (Ni (hK185 ?_))))))
           exact WC.ret fun a_ ha_ => hQ (cv_ret3 rfl (.tmp rfl) (.tmp rfl) (.tmp rfl) (by have hq := cl_end hv (dig_no (by omega)); have hgt : (ka + 1) < kb := (by rcases Nat.eq_or_lt_of_le hkk with h_ | h_; (exfalso; have h3_ : atS s (ka + 1) = atS s kb := (by rw [h_]); omega); exact h_); have hn2 := hv.2.1 hgt; first | (exfalso; omega) | (rw [hnum, numT_n (fun h_ => hz h_.2) (by omega) (by rcases hq.2 with ⟨q1, q2⟩ | ⟨q1, q2⟩; (exfalso; omega); exact q2)]; rfl)) hB ha_)
          ·
           replace c184 := dF c184
           refine WC.skip (hK182 (Sq fun K186 hK186 => (Sq fun K187 hK187 => (Rg (Pu rfl (Ni (hK187 ?_)))))))
           refine WC.cond rfl (fun c188 => ?_) (fun c188 => ?_)
           ·
            replace c188 := dT c188
            refine Rg (Pu rfl (Va (dx_neg rfl rfl (wrap64_id (by omega))) rfl rfl (Pu rfl (Ni (hK186 (Sq fun K189 hK189 => (Rg ?_)))))))
            refine Pu rfl (Pu rfl (Pu rfl (Pu rfl (Pu rfl (Ni (hK189 ?_))))))
            exact WC.ret fun a_ ha_ => hQ (cv_ret3 rfl (.tmp rfl) (.tmp rfl) (.tmp rfl) (by have hq := cl_end hv (dig_no (by omega)); have hgt : (ka + 1) < kb := (by rcases Nat.eq_or_lt_of_le hkk with h_ | h_; (exfalso; have h3_ : atS s (ka + 1) = atS s kb := (by rw [h_]); omega); exact h_); have hn2 := hv.2.1 hgt; first | (exfalso; omega) | (rw [hnum, numT_s (n := n) (fun h_ => hz h_.2) (by omega) (by rcases hq.2 with ⟨q1, q2⟩ | ⟨q1, q2⟩; exact q2; (exfalso; omega)), hq.1]; rfl)) hB ha_)
           ·
            replace c188 := dF c188
            refine WC.skip (hK186 (Sq fun K190 hK190 => (Rg (Pu rfl (Pu rfl (Pu rfl (Pu rfl ?_)))))))
            refine Pu rfl (Ni (hK190 ?_))
            exact WC.ret fun a_ ha_ => hQ (cv_ret3 rfl (.tmp rfl) (.tmp rfl) (.tmp rfl) (by have hq := cl_end hv (dig_no (by omega)); have hgt : (ka + 1) < kb := (by rcases Nat.eq_or_lt_of_le hkk with h_ | h_; (exfalso; have h3_ : atS s (ka + 1) = atS s kb := (by rw [h_]); omega); exact h_); have hn2 := hv.2.1 hgt; first | (exfalso; omega) | (rw [hnum, numT_s (n := n) (fun h_ => hz h_.2) (by omega) (by rcases hq.2 with ⟨q1, q2⟩ | ⟨q1, q2⟩; exact q2; (exfalso; omega)), hq.1]; rfl)) hB ha_)
        ·
         replace g179 := dF g179
         refine Of rfl (Of rfl (Pu rfl (Ni (hK178 (WC.condF rfl (WC.skip (hK177 ?_)))))))
         refine Sq fun K191 hK191 => (Sq fun K192 hK192 => (Rg (Pu rfl (Va (dx_eql rfl rfl rfl) rfl rfl (Ni (hK192 ?_))))))
         refine WC.cond rfl (fun c193 => ?_) (fun c193 => ?_)
         ·
          replace c193 := dT c193
          refine Sq fun K194 hK194 => (Rg (Pu rfl (Pu rfl (Pu rfl (Ni (hK194 ?_))))))
          exact WC.ret fun a_ ha_ => hQ (cv_ret3 rfl (.tmp rfl) (.tmp rfl) (.tmp rfl) (by have hq := cl_end hv (dig_no (by omega)); have hgt : (ka + 1) < kb := (by rcases Nat.eq_or_lt_of_le hkk with h_ | h_; (exfalso; have h3_ : atS s (ka + 1) = atS s kb := (by rw [h_]); omega); exact h_); have hn2 := hv.2.1 hgt; first | (exfalso; omega) | (rw [hnum, numT_n (fun h_ => hz h_.2) (by omega) (by rcases hq.2 with ⟨q1, q2⟩ | ⟨q1, q2⟩; (exfalso; omega); exact q2)]; rfl)) hB ha_)
         ·
          replace c193 := dF c193
          refine WC.skip (hK191 (Sq fun K195 hK195 => (Sq fun K196 hK196 => (Rg (Pu rfl (Ni (hK196 ?_)))))))
          refine WC.cond rfl (fun c197 => ?_) (fun c197 => ?_)
          ·
           replace c197 := dT c197
           refine Rg (Pu rfl (Va (dx_neg rfl rfl (wrap64_id (by omega))) rfl rfl (Pu rfl (Ni (hK195 (Sq fun K198 hK198 => (Rg ?_)))))))
           refine Pu rfl (Pu rfl (Pu rfl (Pu rfl (Pu rfl (Ni (hK198 ?_))))))
           exact WC.ret fun a_ ha_ => hQ (cv_ret3 rfl (.tmp rfl) (.tmp rfl) (.tmp rfl) (by have hq := cl_end hv (dig_no (by omega)); have hgt : (ka + 1) < kb := (by rcases Nat.eq_or_lt_of_le hkk with h_ | h_; (exfalso; have h3_ : atS s (ka + 1) = atS s kb := (by rw [h_]); omega); exact h_); have hn2 := hv.2.1 hgt; first | (exfalso; omega) | (rw [hnum, numT_s (n := n) (fun h_ => hz h_.2) (by omega) (by rcases hq.2 with ⟨q1, q2⟩ | ⟨q1, q2⟩; exact q2; (exfalso; omega)), hq.1]; rfl)) hB ha_)
          ·
           replace c197 := dF c197
           refine WC.skip (hK195 (Sq fun K199 hK199 => (Rg (Pu rfl (Pu rfl (Pu rfl (Pu rfl ?_)))))))
           refine Pu rfl (Ni (hK199 ?_))
           exact WC.ret fun a_ ha_ => hQ (cv_ret3 rfl (.tmp rfl) (.tmp rfl) (.tmp rfl) (by have hq := cl_end hv (dig_no (by omega)); have hgt : (ka + 1) < kb := (by rcases Nat.eq_or_lt_of_le hkk with h_ | h_; (exfalso; have h3_ : atS s (ka + 1) = atS s kb := (by rw [h_]); omega); exact h_); have hn2 := hv.2.1 hgt; first | (exfalso; omega) | (rw [hnum, numT_s (n := n) (fun h_ => hz h_.2) (by omega) (by rcases hq.2 with ⟨q1, q2⟩ | ⟨q1, q2⟩; exact q2; (exfalso; omega)), hq.1]; rfl)) hB ha_)
      ·
       replace g124 := dF g124
       refine Of rfl (Of rfl (Of rfl (Of rfl (Pu rfl (Pu rfl (Of rfl (Of rfl ?_)))))))
       refine Of rfl (Of rfl (Pu rfl (Pu rfl (Of rfl (Of rfl (Of rfl (Of rfl ?_)))))))
       refine Of rfl (Of rfl (Of rfl (Of rfl (Of rfl (Pu rfl (Ni (hK123 ?_)))))))
       refine WC.condF rfl ?_
       refine WC.exit ?_
       refine hK119 (Sq fun K200 hK200 => (Sq fun K201 hK201 => (Rg (Pu rfl (Pu rfl ?_)))))
       refine WL.split 73 rfl (fun g202 => ?_) (fun g202 => ?_)
       ·
        replace g202 := dT g202
        refine Pu rfl (Va (dx_eql rfl rfl rfl) rfl rfl (Pu rfl (Ni (hK201 ?_))))
        refine WC.cond rfl (fun c203 => ?_) (fun c203 => ?_)
        ·
         replace c203 := dT c203
         refine Sq fun K204 hK204 => (Rg (Pu rfl (Pu rfl (Pu rfl (Ni (hK204 ?_))))))
         exact WC.ret fun a_ ha_ => hQ (cv_ret3 rfl (.tmp rfl) (.tmp rfl) (.tmp rfl) (by have hq := cl_end hv (dig_no (by omega)); have hgt : (ka + 1) < kb := (by rcases Nat.eq_or_lt_of_le hkk with h_ | h_; (exfalso; have h3_ : atS s (ka + 1) = atS s kb := (by rw [h_]); omega); exact h_); have hn2 := hv.2.1 hgt; first | (exfalso; omega) | (rw [hnum, numT_s (n := n) (fun h_ => hz h_.2) (by omega) (by rcases hq.2 with ⟨q1, q2⟩ | ⟨q1, q2⟩; exact q2; (exfalso; omega)), hq.1]; rfl)) hB ha_)
        ·
         replace c203 := dF c203
         refine WC.skip (hK200 (Sq fun K205 hK205 => (Sq fun K206 hK206 => (Rg (Pu rfl (Va (dx_eql rfl rfl rfl) rfl rfl (Ni ?_)))))))
         refine hK206 ?_
         refine WC.cond rfl (fun c207 => ?_) (fun c207 => ?_)
         ·
          replace c207 := dT c207
          refine Sq fun K208 hK208 => (Rg (Pu rfl (Pu rfl (Pu rfl (Ni (hK208 ?_))))))
          exact WC.ret fun a_ ha_ => hQ (cv_ret3 rfl (.tmp rfl) (.tmp rfl) (.tmp rfl) (by have hq := cl_end hv (dig_no (by omega)); have hgt : (ka + 1) < kb := (by rcases Nat.eq_or_lt_of_le hkk with h_ | h_; (exfalso; have h3_ : atS s (ka + 1) = atS s kb := (by rw [h_]); omega); exact h_); have hn2 := hv.2.1 hgt; first | (exfalso; omega) | (rw [hnum, numT_n (fun h_ => hz h_.2) (by omega) (by rcases hq.2 with ⟨q1, q2⟩ | ⟨q1, q2⟩; (exfalso; omega); exact q2)]; rfl)) hB ha_)
         ·
          replace c207 := dF c207
          refine WC.skip (hK205 (Sq fun K209 hK209 => (Sq fun K210 hK210 => (Rg (Pu rfl (Ni (hK210 ?_)))))))
          refine WC.cond rfl (fun c211 => ?_) (fun c211 => ?_)
          ·
           replace c211 := dT c211
           refine Rg (Pu rfl (Va (dx_neg rfl rfl (wrap64_id (by omega))) rfl rfl (Pu rfl (Ni (hK209 (Sq fun K212 hK212 => (Rg ?_)))))))
           refine Pu rfl (Pu rfl (Pu rfl (Pu rfl (Pu rfl (Ni (hK212 ?_))))))
           exact WC.ret fun a_ ha_ => hQ (cv_ret3 rfl (.tmp rfl) (.tmp rfl) (.tmp rfl) (by have hq := cl_end hv (dig_no (by omega)); have hgt : (ka + 1) < kb := (by rcases Nat.eq_or_lt_of_le hkk with h_ | h_; (exfalso; have h3_ : atS s (ka + 1) = atS s kb := (by rw [h_]); omega); exact h_); have hn2 := hv.2.1 hgt; first | (exfalso; omega) | (rw [hnum, numT_s (n := n) (fun h_ => hz h_.2) (by omega) (by rcases hq.2 with ⟨q1, q2⟩ | ⟨q1, q2⟩; exact q2; (exfalso; omega)), hq.1]; rfl)) hB ha_)
          ·
           replace c211 := dF c211
           refine WC.skip (hK209 (Sq fun K213 hK213 => (Rg (Pu rfl (Pu rfl (Pu rfl (Pu rfl ?_)))))))
           refine Pu rfl (Ni (hK213 ?_))
           exact WC.ret fun a_ ha_ => hQ (cv_ret3 rfl (.tmp rfl) (.tmp rfl) (.tmp rfl) (by have hq := cl_end hv (dig_no (by omega)); have hgt : (ka + 1) < kb := (by rcases Nat.eq_or_lt_of_le hkk with h_ | h_; (exfalso; have h3_ : atS s (ka + 1) = atS s kb := (by rw [h_]); omega); exact h_); have hn2 := hv.2.1 hgt; first | (exfalso; omega) | (rw [hnum, numT_s (n := n) (fun h_ => hz h_.2) (by omega) (by rcases hq.2 with ⟨q1, q2⟩ | ⟨q1, q2⟩; exact q2; (exfalso; omega)), hq.1]; rfl)) hB ha_)
       ·
        replace g202 := dF g202
        refine Of rfl (Of rfl (Pu rfl (Ni (hK201 (WC.condF rfl (WC.skip (hK200 ?_)))))))
        refine Sq fun K214 hK214 => (Sq fun K215 hK215 => (Rg (Pu rfl (Va (dx_eql rfl rfl rfl) rfl rfl (Ni (hK215 ?_))))))
        refine WC.cond rfl (fun c216 => ?_) (fun c216 => ?_)
        ·
         replace c216 := dT c216
         refine Sq fun K217 hK217 => (Rg (Pu rfl (Pu rfl (Pu rfl (Ni (hK217 ?_))))))
         exact WC.ret fun a_ ha_ => hQ (cv_ret3 rfl (.tmp rfl) (.tmp rfl) (.tmp rfl) (by have hq := cl_end hv (dig_no (by omega)); have hgt : (ka + 1) < kb := (by rcases Nat.eq_or_lt_of_le hkk with h_ | h_; (exfalso; have h3_ : atS s (ka + 1) = atS s kb := (by rw [h_]); omega); exact h_); have hn2 := hv.2.1 hgt; first | (exfalso; omega) | (rw [hnum, numT_n (fun h_ => hz h_.2) (by omega) (by rcases hq.2 with ⟨q1, q2⟩ | ⟨q1, q2⟩; (exfalso; omega); exact q2)]; rfl)) hB ha_)
        ·
         replace c216 := dF c216
         refine WC.skip (hK214 (Sq fun K218 hK218 => (Sq fun K219 hK219 => (Rg (Pu rfl (Ni (hK219 ?_)))))))
         refine WC.cond rfl (fun c220 => ?_) (fun c220 => ?_)
         ·
          replace c220 := dT c220
          refine Rg (Pu rfl (Va (dx_neg rfl rfl (wrap64_id (by omega))) rfl rfl (Pu rfl (Ni (hK218 (Sq fun K221 hK221 => (Rg ?_)))))))
          refine Pu rfl (Pu rfl (Pu rfl (Pu rfl (Pu rfl (Ni (hK221 ?_))))))
          exact WC.ret fun a_ ha_ => hQ (cv_ret3 rfl (.tmp rfl) (.tmp rfl) (.tmp rfl) (by have hq := cl_end hv (dig_no (by omega)); have hgt : (ka + 1) < kb := (by rcases Nat.eq_or_lt_of_le hkk with h_ | h_; (exfalso; have h3_ : atS s (ka + 1) = atS s kb := (by rw [h_]); omega); exact h_); have hn2 := hv.2.1 hgt; first | (exfalso; omega) | (rw [hnum, numT_s (n := n) (fun h_ => hz h_.2) (by omega) (by rcases hq.2 with ⟨q1, q2⟩ | ⟨q1, q2⟩; exact q2; (exfalso; omega)), hq.1]; rfl)) hB ha_)
         ·
          replace c220 := dF c220
          refine WC.skip (hK218 (Sq fun K222 hK222 => (Rg (Pu rfl (Pu rfl (Pu rfl (Pu rfl ?_)))))))
          refine Pu rfl (Ni (hK222 ?_))
          exact WC.ret fun a_ ha_ => hQ (cv_ret3 rfl (.tmp rfl) (.tmp rfl) (.tmp rfl) (by have hq := cl_end hv (dig_no (by omega)); have hgt : (ka + 1) < kb := (by rcases Nat.eq_or_lt_of_le hkk with h_ | h_; (exfalso; have h3_ : atS s (ka + 1) = atS s kb := (by rw [h_]); omega); exact h_); have hn2 := hv.2.1 hgt; first | (exfalso; omega) | (rw [hnum, numT_s (n := n) (fun h_ => hz h_.2) (by omega) (by rcases hq.2 with ⟨q1, q2⟩ | ⟨q1, q2⟩; exact q2; (exfalso; omega)), hq.1]; rfl)) hB ha_)
 ·
  replace c5 := dF c5
  refine WC.skip (hK3 (Sq fun K223 hK223 => (Sq fun K224 hK224 => ?_)))
  have hnum : numS s ka = numT s false ka := numS_f (by unfold takeS; rw [decide_eq_false (show ¬ atS s ka = 45 by omega), Bool.and_false])
  refine Rg (Pu rfl (Pu rfl (Va (dx_lenT rfl Try.underlying9 rfl) rfl rfl (Va (dx_geq rfl rfl rfl) rfl rfl (Pu rfl ?_)))))
  refine WL.split 21 rfl (fun g225 => ?_) (fun g225 => ?_)
  ·
   replace g225 := dT g225
   refine Of rfl (Of rfl (Of rfl (Of rfl (Pu rfl (Pu rfl (Of rfl (Of rfl ?_)))))))
   refine Of rfl (Of rfl (Pu rfl (Ni (hK224 (WC.condT rfl (Sq fun K226 hK226 => (Rg ?_)))))))
   refine Pu rfl (Pu rfl (Pu rfl (Ni (hK226 ?_))))
   exact WC.ret fun a_ ha_ => hQ (cv_ret3 rfl (.tmp rfl) (.tmp rfl) (.tmp rfl) (by rw [hnum, numT_0 (by omega) (dig_no (by omega))]; rfl) hB ha_)
  ·
   replace g225 := dF g225
   refine Pu rfl (Pu rfl (Va (dx_at ka rfl Try.underlying9 rfl rfl (by omega) (by omega)) rfl rfl (Va (dx_lss rfl rfl rfl) rfl rfl (Pu rfl (Pu rfl ?_)))))
   refine WL.split 27 rfl (fun g227 => ?_) (fun g227 => ?_)
   ·
    replace g227 := dT g227
    refine Of rfl (Of rfl (Of rfl (Of rfl (Pu rfl (Ni (hK224 (WC.condT rfl ?_)))))))
    refine Sq fun K228 hK228 => (Rg (Pu rfl (Pu rfl (Pu rfl (Ni (hK228 ?_))))))
    exact WC.ret fun a_ ha_ => hQ (cv_ret3 rfl (.tmp rfl) (.tmp rfl) (.tmp rfl) (by rw [hnum, numT_0 (by omega) (dig_no (by omega))]; rfl) hB ha_)
   ·
    replace g227 := dF g227
    refine Pu rfl (Pu rfl (Va (dx_at ka rfl Try.underlying9 rfl rfl (by omega) (by omega)) rfl rfl (Va (dx_gtr rfl rfl rfl) rfl rfl (Pu rfl (Ni (hK224 ?_))))))
    refine WC.cond rfl (fun c229 => ?_) (fun c229 => ?_)
    ·
     replace c229 := dT c229
     refine Sq fun K230 hK230 => (Rg (Pu rfl (Pu rfl (Pu rfl (Ni (hK230 ?_))))))
     exact WC.ret fun a_ ha_ => hQ (cv_ret3 rfl (.tmp rfl) (.tmp rfl) (.tmp rfl) (by rw [hnum, numT_0 (by omega) (dig_no (by omega))]; rfl) hB ha_)
    ·
     replace c229 := dF c229
     refine WC.skip (hK223 (Sq fun K231 hK231 => ?_))
     have hfd : ka < s.size := by omega
     by_cases hz : atS s ka = 48
     ·
      refine Rg (Pu rfl (Pu rfl (Pu rfl (Ni (hK231 (Sq fun K232 hK232 => (WC.block ?_)))))))
      refine WC.loop2 (fun (kb : Nat) (n : Int) => [(0, .string s), (7, .bool (decide (atS s ka = 45))), (9, .int .i64 (ka : Int)), (1, .int .i64 (kb : Int)), (8, .int .i64 n)]) (fun (kb : Nat) (n : Int) W => kb ≤ s.size ∧ ka ≤ kb ∧ 0 ≤ n ∧ n ≤ 9007199254740992 ∧ ((kb = ka ∧ n = 0) ∨ (kb = ka + 1 ∧ n = 0)) ∧ Below w.heap.size w W ∧ LL (L) W) (fun (kb : Nat) (n : Int) => s.size - kb) ka 0 (by repeat first | exact trivial | exact And.intro rfl trivial | refine And.intro rfl ?_ | refine And.intro (congrArg (fun z : Int => some (Value.int .i64 z)) (by omega)) ?_) ⟨(by omega), (by omega), (by omega), (by omega), (.inl ⟨rfl, rfl⟩), hB, hL⟩ ?_
      clear hB hL
      rintro K233 kb n W234 ⟨hkb, hkk, hn0, hn1, hv, hB, hL⟩ hK233
      refine Sq fun K235 hK235 => (Sq fun K236 hK236 => (Rg (Pu rfl (Pu rfl (Va (dx_lenT rfl Try.underlying9 rfl) rfl rfl (Va (dx_lss rfl rfl rfl) rfl rfl (Pu rfl ?_)))))))
      refine WL.split 38 rfl (fun g237 => ?_) (fun g237 => ?_)
      ·
       replace g237 := dT g237
       refine Pu rfl (Pu rfl (Va (dx_at kb rfl Try.underlying9 rfl rfl (by omega) (by omega)) rfl rfl (Va (dx_geq rfl rfl rfl) rfl rfl (Pu rfl (Pu rfl ?_)))))
       refine WL.split 44 rfl (fun g238 => ?_) (fun g238 => ?_)
       ·
        replace g238 := dT g238
        refine Pu rfl (Pu rfl (Va (dx_at kb rfl Try.underlying9 rfl rfl (by omega) (by omega)) rfl rfl (Va (dx_leq rfl rfl rfl) rfl rfl (Pu rfl (Pu rfl ?_)))))
        refine WL.split 50 rfl (fun g239 => ?_) (fun g239 => ?_)
        ·
         replace g239 := dT g239
         refine Pu rfl (Pu rfl (Va (dx_eql rfl rfl rfl) rfl rfl (Pu rfl ?_)))
         refine WL.split 54 rfl (fun g240 => ?_) (fun g240 => ?_)
         ·
          replace g240 := dT g240
          refine Of rfl (Of rfl (Of rfl (Of rfl (Pu rfl (Pu rfl (Ni (hK236 ?_)))))))
          refine WC.condT rfl (WC.skip (hK235 (WC.block (Sq fun K241 hK241 => (Rg (Pu rfl (Va (dx_mul (r := n * 10) rfl rfl rfl (wrap64_id (by omega))) rfl rfl ?_)))))))
          refine Pu rfl (Pu rfl (Va (dx_at kb rfl Try.underlying9 rfl rfl (by omega) (by omega)) rfl rfl (Va (dx_sub (r := (atS s kb) - 48) rfl rfl rfl (wrapu8_id (by omega))) rfl rfl (Va (dx_conv (r := (atS s kb) - 48) rfl Try.underlying5 Try.underlying3 rfl (wrap64_id (by omega))) rfl rfl (Va (dx_add (r := (n * 10) + ((atS s kb) - 48)) rfl rfl rfl (wrap64_id (by omega))) rfl rfl (Va (dx_min rfl rfl rfl) rfl rfl (Pu rfl ?_)))))))
          refine Ni (hK241 (Rg (Pu rfl (Va (dx_add (r := (kb : Int) + 1) rfl rfl rfl (wrap64_id (by omega))) rfl rfl (Pu rfl (Ni ?_))))))
          exact hK233 (kb + 1) (if 9007199254740992 < (n * 10) + ((atS s kb) - 48) then 9007199254740992 else (n * 10) + ((atS s kb) - 48)) ⟨(by omega), (by omega), (by split <;> omega), (by split <;> omega), (by have h_ : kb = ka ∧ n = 0 := (by omega); obtain ⟨h1_, h2_⟩ := h_; have h3_ : atS s kb = 48 := (by rw [h1_]; exact hz); refine .inr ⟨by omega, ?_⟩; rw [if_neg (by omega)]; omega), hB, hL⟩ (by omega) (by repeat first | exact trivial | exact And.intro rfl trivial | refine And.intro rfl ?_ | refine And.intro (congrArg (fun z : Int => some (Value.int .i64 z)) (by omega)) ?_)
         ·
          replace g240 := dF g240
          refine Pu rfl (Pu rfl (Va (dx_at ka rfl Try.underlying9 rfl rfl (by omega) (by omega)) rfl rfl (Va (dx_neq rfl rfl rfl) rfl rfl (Pu rfl (Pu rfl (Ni (hK236 ?_)))))))
          refine WC.cond rfl (fun c242 => ?_) (fun c242 => ?_)
          ·
           replace c242 := bnot_t c242
           replace c242 := dF c242
           refine WC.skip (hK235 (WC.block (Sq fun K243 hK243 => (Rg (Pu rfl (Va (dx_mul (r := n * 10) rfl rfl rfl (wrap64_id (by omega))) rfl rfl (Pu rfl ?_)))))))
           refine Pu rfl (Va (dx_at kb rfl Try.underlying9 rfl rfl (by omega) (by omega)) rfl rfl (Va (dx_sub (r := (atS s kb) - 48) rfl rfl rfl (wrapu8_id (by omega))) rfl rfl (Va (dx_conv (r := (atS s kb) - 48) rfl Try.underlying5 Try.underlying3 rfl (wrap64_id (by omega))) rfl rfl (Va (dx_add (r := (n * 10) + ((atS s kb) - 48)) rfl rfl rfl (wrap64_id (by omega))) rfl rfl (Va (dx_min rfl rfl rfl) rfl rfl (Pu rfl (Ni ?_)))))))
           refine hK243 (Rg (Pu rfl (Va (dx_add (r := (kb : Int) + 1) rfl rfl rfl (wrap64_id (by omega))) rfl rfl (Pu rfl (Ni ?_)))))
           exact hK233 (kb + 1) (if 9007199254740992 < (n * 10) + ((atS s kb) - 48) then 9007199254740992 else (n * 10) + ((atS s kb) - 48)) ⟨(by omega), (by omega), (by split <;> omega), (by split <;> omega), (by have h_ : kb = ka ∧ n = 0 := (by omega); obtain ⟨h1_, h2_⟩ := h_; have h3_ : atS s kb = 48 := (by rw [h1_]; exact hz); refine .inr ⟨by omega, ?_⟩; rw [if_neg (by omega)]; omega), hB, hL⟩ (by omega) (by repeat first | exact trivial | exact And.intro rfl trivial | refine And.intro rfl ?_ | refine And.intro (congrArg (fun z : Int => some (Value.int .i64 z)) (by omega)) ?_)
          ·
           replace c242 := bnot_f c242
           replace c242 := dT c242
           refine WC.exit ?_
           refine hK232 (Sq fun K244 hK244 => (Sq fun K245 hK245 => (Rg (Pu rfl (Pu rfl ?_)))))
           refine WL.split 73 rfl (fun g246 => ?_) (fun g246 => ?_)
           ·
            replace g246 := dT g246
            refine Pu rfl (Va (dx_eql rfl rfl rfl) rfl rfl (Pu rfl (Ni (hK245 ?_))))
            refine WC.cond rfl (fun c247 => ?_) (fun c247 => ?_)
            ·
             replace c247 := dT c247
             refine Sq fun K248 hK248 => (Rg (Pu rfl (Pu rfl (Pu rfl (Ni (hK248 ?_))))))
             exact WC.ret fun a_ ha_ => hQ (cv_ret3 rfl (.tmp rfl) (.tmp rfl) (.tmp rfl) (by have hkz : kb = ka + 1 ∧ n = 0 := (by rcases hv with ⟨h1_, h2_⟩ | h_; (exfalso; rw [← h1_] at hz hfd; omega); exact h_); first | (exfalso; omega) | (rw [hnum, numT_m ⟨hfd, hz⟩]; rfl)) hB ha_)
            ·
             replace c247 := dF c247
             refine WC.skip (hK244 (Sq fun K249 hK249 => (Sq fun K250 hK250 => (Rg (Pu rfl (Va (dx_eql rfl rfl rfl) rfl rfl (Ni ?_)))))))
             refine hK250 ?_
             refine WC.cond rfl (fun c251 => ?_) (fun c251 => ?_)
             ·
              replace c251 := dT c251
              refine Sq fun K252 hK252 => (Rg (Pu rfl (Pu rfl (Pu rfl (Ni (hK252 ?_))))))
              exact WC.ret fun a_ ha_ => hQ (cv_ret3 rfl (.tmp rfl) (.tmp rfl) (.tmp rfl) (by have hkz : kb = ka + 1 ∧ n = 0 := (by rcases hv with ⟨h1_, h2_⟩ | h_; (exfalso; rw [← h1_] at hz hfd; omega); exact h_); first | (exfalso; omega) | (rw [hnum, numT_z (k1 := kb) ⟨hfd, hz⟩ hkz.1, hkz.2]; rfl)) hB ha_)
             ·
              replace c251 := dF c251
              refine WC.skip (hK249 (Sq fun K253 hK253 => (Sq fun K254 hK254 => (Rg (Pu rfl (Ni (hK254 ?_)))))))
              refine WC.cond rfl (fun c255 => ?_) (fun c255 => ?_)
              ·
               replace c255 := dT c255
               refine Rg (Pu rfl (Va (dx_neg rfl rfl (wrap64_id (by omega))) rfl rfl (Pu rfl (Ni (hK253 (Sq fun K256 hK256 => (Rg ?_)))))))
               refine Pu rfl (Pu rfl (Pu rfl (Pu rfl (Pu rfl (Ni (hK256 ?_))))))
               exact WC.ret fun a_ ha_ => hQ (cv_ret3 rfl (.tmp rfl) (.tmp rfl) (.tmp rfl) (by have hkz : kb = ka + 1 ∧ n = 0 := (by rcases hv with ⟨h1_, h2_⟩ | h_; (exfalso; rw [← h1_] at hz hfd; omega); exact h_); first | (exfalso; omega) | (rw [hnum, numT_z (k1 := kb) ⟨hfd, hz⟩ hkz.1, hkz.2]; rfl)) hB ha_)
              ·
               replace c255 := dF c255
               refine WC.skip (hK253 (Sq fun K257 hK257 => (Rg (Pu rfl (Pu rfl (Pu rfl (Pu rfl ?_)))))))
               refine Pu rfl (Ni (hK257 ?_))
               exact WC.ret fun a_ ha_ => hQ (cv_ret3 rfl (.tmp rfl) (.tmp rfl) (.tmp rfl) (by have hkz : kb = ka + 1 ∧ n = 0 := (by rcases hv with ⟨h1_, h2_⟩ | h_; (exfalso; rw [← h1_] at hz hfd; omega); exact h_); first | (exfalso; omega) | (rw [hnum, numT_z (k1 := kb) ⟨hfd, hz⟩ hkz.1, hkz.2]; rfl)) hB ha_)
           ·
            replace g246 := dF g246
            refine Of rfl (Of rfl (Pu rfl (Ni (hK245 (WC.condF rfl (WC.skip (hK244 ?_)))))))
            refine Sq fun K258 hK258 => (Sq fun K259 hK259 => (Rg (Pu rfl (Va (dx_eql rfl rfl rfl) rfl rfl (Ni (hK259 ?_))))))
            refine WC.cond rfl (fun c260 => ?_) (fun c260 => ?_)
            ·
             replace c260 := dT c260
             refine Sq fun K261 hK261 => (Rg (Pu rfl (Pu rfl (Pu rfl (Ni (hK261 ?_))))))
             exact WC.ret fun a_ ha_ => hQ (cv_ret3 rfl (.tmp rfl) (.tmp rfl) (.tmp rfl) (by have hkz : kb = ka + 1 ∧ n = 0 := (by rcases hv with ⟨h1_, h2_⟩ | h_; (exfalso; rw [← h1_] at hz hfd; omega); exact h_); first | (exfalso; omega) | (rw [hnum, numT_z (k1 := kb) ⟨hfd, hz⟩ hkz.1, hkz.2]; rfl)) hB ha_)
            ·
             replace c260 := dF c260
             refine WC.skip (hK258 (Sq fun K262 hK262 => (Sq fun K263 hK263 => (Rg (Pu rfl (Ni (hK263 ?_)))))))
             refine WC.cond rfl (fun c264 => ?_) (fun c264 => ?_)
             ·
              replace c264 := dT c264
              refine Rg (Pu rfl (Va (dx_neg rfl rfl (wrap64_id (by omega))) rfl rfl (Pu rfl (Ni (hK262 (Sq fun K265 hK265 => (Rg ?_)))))))
              refine Pu rfl (Pu rfl (Pu rfl (Pu rfl (Pu rfl (Ni (hK265 ?_))))))
              exact WC.ret fun a_ ha_ => hQ (cv_ret3 rfl (.tmp rfl) (.tmp rfl) (.tmp rfl) (by have hkz : kb = ka + 1 ∧ n = 0 := (by rcases hv with ⟨h1_, h2_⟩ | h_; (exfalso; rw [← h1_] at hz hfd; omega); exact h_); first | (exfalso; omega) | (rw [hnum, numT_z (k1 := kb) ⟨hfd, hz⟩ hkz.1, hkz.2]; rfl)) hB ha_)
             ·
              replace c264 := dF c264
              refine WC.skip (hK262 (Sq fun K266 hK266 => (Rg (Pu rfl (Pu rfl (Pu rfl (Pu rfl ?_)))))))
              refine Pu rfl (Ni (hK266 ?_))
              exact WC.ret fun a_ ha_ => hQ (cv_ret3 rfl (.tmp rfl) (.tmp rfl) (.tmp rfl) (by have hkz : kb = ka + 1 ∧ n = 0 := (by rcases hv with ⟨h1_, h2_⟩ | h_; (exfalso; rw [← h1_] at hz hfd; omega); exact h_); first | (exfalso; omega) | (rw [hnum, numT_z (k1 := kb) ⟨hfd, hz⟩ hkz.1, hkz.2]; rfl)) hB ha_)
        ·
         replace g239 := dF g239
         refine Of rfl (Of rfl (Of rfl (Of rfl (Of rfl (Of rfl (Of rfl (Of rfl ?_)))))))
         refine Of rfl (Pu rfl (Ni (hK236 (WC.condF rfl ?_))))
         refine WC.exit ?_
         refine hK232 (Sq fun K267 hK267 => (Sq fun K268 hK268 => (Rg (Pu rfl (Pu rfl ?_)))))
         refine WL.split 73 rfl (fun g269 => ?_) (fun g269 => ?_)
         ·
          replace g269 := dT g269
          refine Pu rfl (Va (dx_eql rfl rfl rfl) rfl rfl (Pu rfl (Ni (hK268 ?_))))
          refine WC.cond rfl (fun c270 => ?_) (fun c270 => ?_)
          ·
           replace c270 := dT c270
           refine Sq fun K271 hK271 => (Rg (Pu rfl (Pu rfl (Pu rfl (Ni (hK271 ?_))))))
           exact WC.ret fun a_ ha_ => hQ (cv_ret3 rfl (.tmp rfl) (.tmp rfl) (.tmp rfl) (by have hkz : kb = ka + 1 ∧ n = 0 := (by rcases hv with ⟨h1_, h2_⟩ | h_; (exfalso; rw [← h1_] at hz hfd; omega); exact h_); first | (exfalso; omega) | (rw [hnum, numT_m ⟨hfd, hz⟩]; rfl)) hB ha_)
          ·
           replace c270 := dF c270
           refine WC.skip (hK267 (Sq fun K272 hK272 => (Sq fun K273 hK273 => (Rg (Pu rfl (Va (dx_eql rfl rfl rfl) rfl rfl (Ni ?_)))))))
           refine hK273 ?_
           refine WC.cond rfl (fun c274 => ?_) (fun c274 => ?_)
           ·
            replace c274 := dT c274
            refine Sq fun K275 hK275 => (Rg (Pu rfl (Pu rfl (Pu rfl (Ni (hK275 ?_))))))
            exact WC.ret fun a_ ha_ => hQ (cv_ret3 rfl (.tmp rfl) (.tmp rfl) (.tmp rfl) (by have hkz : kb = ka + 1 ∧ n = 0 := (by rcases hv with ⟨h1_, h2_⟩ | h_; (exfalso; rw [← h1_] at hz hfd; omega); exact h_); first | (exfalso; omega) | (rw [hnum, numT_z (k1 := kb) ⟨hfd, hz⟩ hkz.1, hkz.2]; rfl)) hB ha_)
           ·
            replace c274 := dF c274
            refine WC.skip (hK272 (Sq fun K276 hK276 => (Sq fun K277 hK277 => (Rg (Pu rfl (Ni (hK277 ?_)))))))
            refine WC.cond rfl (fun c278 => ?_) (fun c278 => ?_)
            ·
             replace c278 := dT c278
             refine Rg (Pu rfl (Va (dx_neg rfl rfl (wrap64_id (by omega))) rfl rfl (Pu rfl (Ni (hK276 (Sq fun K279 hK279 => (Rg ?_)))))))
             refine Pu rfl (Pu rfl (Pu rfl (Pu rfl (Pu rfl (Ni (hK279 ?_))))))
             exact WC.ret fun a_ ha_ => hQ (cv_ret3 rfl (.tmp rfl) (.tmp rfl) (.tmp rfl) (by have hkz : kb = ka + 1 ∧ n = 0 := (by rcases hv with ⟨h1_, h2_⟩ | h_; (exfalso; rw [← h1_] at hz hfd; omega); exact h_); first | (exfalso; omega) | (rw [hnum, numT_z (k1 := kb) ⟨hfd, hz⟩ hkz.1, hkz.2]; rfl)) hB ha_)
            ·
             replace c278 := dF c278
             refine WC.skip (hK276 (Sq fun K280 hK280 => (Rg (Pu rfl (Pu rfl (Pu rfl (Pu rfl ?_)))))))
             refine Pu rfl (Ni (hK280 ?_))
             exact WC.ret fun a_ ha_ => hQ (cv_ret3 rfl (.tmp rfl) (.tmp rfl) (.tmp rfl) (by have hkz : kb = ka + 1 ∧ n = 0 := (by rcases hv with ⟨h1_, h2_⟩ | h_; (exfalso; rw [← h1_] at hz hfd; omega); exact h_); first | (exfalso; omega) | (rw [hnum, numT_z (k1 := kb) ⟨hfd, hz⟩ hkz.1, hkz.2]; rfl)) hB ha_)
         ·
          replace g269 := dF g269
          refine Of rfl (Of rfl (Pu rfl (Ni (hK268 (WC.condF rfl (WC.skip (hK267 ?_)))))))
          refine Sq fun K281 hK281 => (Sq fun K282 hK282 => (Rg (Pu rfl (Va (dx_eql rfl rfl rfl) rfl rfl (Ni (hK282 ?_))))))
          refine WC.cond rfl (fun c283 => ?_) (fun c283 => ?_)
          ·
           replace c283 := dT c283
           refine Sq fun K284 hK284 => (Rg (Pu rfl (Pu rfl (Pu rfl (Ni (hK284 ?_))))))
           exact WC.ret fun a_ ha_ => hQ (cv_ret3 rfl (.tmp rfl) (.tmp rfl) (.tmp rfl) (by have hkz : kb = ka + 1 ∧ n = 0 := (by rcases hv with ⟨h1_, h2_⟩ | h_; (exfalso; rw [← h1_] at hz hfd; omega); exact h_); first | (exfalso; omega) | (rw [hnum, numT_z (k1 := kb) ⟨hfd, hz⟩ hkz.1, hkz.2]; rfl)) hB ha_)
          ·
           replace c283 := dF c283
           refine WC.skip (hK281 (Sq fun K285 hK285 => (Sq fun K286 hK286 => (Rg (Pu rfl (Ni (hK286 ?_)))))))
           refine WC.cond rfl (fun c287 => ?_) (fun c287 => ?_)
           ·
            replace c287 := dT c287
            refine Rg (Pu rfl (Va (dx_neg rfl rfl (wrap64_id (by omega))) rfl rfl (Pu rfl (Ni (hK285 (Sq fun K288 hK288 => (Rg ?_)))))))
            refine Pu rfl (Pu rfl (Pu rfl (Pu rfl (Pu rfl (Ni (hK288 ?_))))))
            exact WC.ret fun a_ ha_ => hQ (cv_ret3 rfl (.tmp rfl) (.tmp rfl) (.tmp rfl) (by have hkz : kb = ka + 1 ∧ n = 0 := (by rcases hv with ⟨h1_, h2_⟩ | h_; (exfalso; rw [← h1_] at hz hfd; omega); exact h_); first | (exfalso; omega) | (rw [hnum, numT_z (k1 := kb) ⟨hfd, hz⟩ hkz.1, hkz.2]; rfl)) hB ha_)
           ·
            replace c287 := dF c287
            refine WC.skip (hK285 (Sq fun K289 hK289 => (Rg (Pu rfl (Pu rfl (Pu rfl (Pu rfl ?_)))))))
            refine Pu rfl (Ni (hK289 ?_))
            exact WC.ret fun a_ ha_ => hQ (cv_ret3 rfl (.tmp rfl) (.tmp rfl) (.tmp rfl) (by have hkz : kb = ka + 1 ∧ n = 0 := (by rcases hv with ⟨h1_, h2_⟩ | h_; (exfalso; rw [← h1_] at hz hfd; omega); exact h_); first | (exfalso; omega) | (rw [hnum, numT_z (k1 := kb) ⟨hfd, hz⟩ hkz.1, hkz.2]; rfl)) hB ha_)
       ·
        replace g238 := dF g238
        refine Of rfl (Of rfl (Of rfl (Of rfl (Pu rfl (Pu rfl (Of rfl (Of rfl ?_)))))))
        refine Of rfl (Of rfl (Of rfl (Of rfl (Of rfl (Of rfl (Of rfl (Pu rfl ?_)))))))
        refine Ni (hK236 (WC.condF rfl ?_))
        refine WC.exit ?_
        refine hK232 (Sq fun K290 hK290 => (Sq fun K291 hK291 => (Rg (Pu rfl (Pu rfl ?_)))))
        refine WL.split 73 rfl (fun g292 => ?_) (fun g292 => ?_)
        ·
         replace g292 := dT g292
         refine Pu rfl (Va (dx_eql rfl rfl rfl) rfl rfl (Pu rfl (Ni (hK291 ?_))))
         refine WC.cond rfl (fun c293 => ?_) (fun c293 => ?_)
         ·
          replace c293 := dT c293
          refine Sq fun K294 hK294 => (Rg (Pu rfl (Pu rfl (Pu rfl (Ni (hK294 ?_))))))
          exact WC.ret fun a_ ha_ => hQ (cv_ret3 rfl (.tmp rfl) (.tmp rfl) (.tmp rfl) (by have hkz : kb = ka + 1 ∧ n = 0 := (by rcases hv with ⟨h1_, h2_⟩ | h_; (exfalso; rw [← h1_] at hz hfd; omega); exact h_); first | (exfalso; omega) | (rw [hnum, numT_m ⟨hfd, hz⟩]; rfl)) hB ha_)
         ·
          replace c293 := dF c293
          refine WC.skip (hK290 (Sq fun K295 hK295 => (Sq fun K296 hK296 => (Rg (Pu rfl (Va (dx_eql rfl rfl rfl) rfl rfl (Ni ?_)))))))
          refine hK296 ?_
          refine WC.cond rfl (fun c297 => ?_) (fun c297 => ?_)
          ·
           replace c297 := dT c297
           refine Sq fun K298 hK298 => (Rg (Pu rfl (Pu rfl (Pu rfl (Ni (hK298 ?_))))))
           exact WC.ret fun a_ ha_ => hQ (cv_ret3 rfl (.tmp rfl) (.tmp rfl) (.tmp rfl) (by have hkz : kb = ka + 1 ∧ n = 0 := (by rcases hv with ⟨h1_, h2_⟩ | h_; (exfalso; rw [← h1_] at hz hfd; omega); exact h_); first | (exfalso; omega) | (rw [hnum, numT_z (k1 := kb) ⟨hfd, hz⟩ hkz.1, hkz.2]; rfl)) hB ha_)
          ·
           replace c297 := dF c297
           refine WC.skip (hK295 (Sq fun K299 hK299 => (Sq fun K300 hK300 => (Rg (Pu rfl (Ni (hK300 ?_)))))))
           refine WC.cond rfl (fun c301 => ?_) (fun c301 => ?_)
           ·
            replace c301 := dT c301
            refine Rg (Pu rfl (Va (dx_neg rfl rfl (wrap64_id (by omega))) rfl rfl (Pu rfl (Ni (hK299 (Sq fun K302 hK302 => (Rg ?_)))))))
            refine Pu rfl (Pu rfl (Pu rfl (Pu rfl (Pu rfl (Ni (hK302 ?_))))))
            exact WC.ret fun a_ ha_ => hQ (cv_ret3 rfl (.tmp rfl) (.tmp rfl) (.tmp rfl) (by have hkz : kb = ka + 1 ∧ n = 0 := (by rcases hv with ⟨h1_, h2_⟩ | h_; (exfalso; rw [← h1_] at hz hfd; omega); exact h_); first | (exfalso; omega) | (rw [hnum, numT_z (k1 := kb) ⟨hfd, hz⟩ hkz.1, hkz.2]; rfl)) hB ha_)
           ·
            replace c301 := dF c301
            refine WC.skip (hK299 (Sq fun K303 hK303 => (Rg (Pu rfl (Pu rfl (Pu rfl (Pu rfl ?_)))))))
            refine Pu rfl (Ni (hK303 ?_))
            exact WC.ret fun a_ ha_ => hQ (cv_ret3 rfl (.tmp rfl) (.tmp rfl) (.tmp rfl) (by have hkz : kb = ka + 1 ∧ n = 0 := (by rcases hv with ⟨h1_, h2_⟩ | h_; (exfalso; rw [← h1_] at hz hfd; omega); exact h_); first | (exfalso; omega) | (rw [hnum, numT_z (k1 := kb) ⟨hfd, hz⟩ hkz.1, hkz.2]; rfl)) hB ha_)
        ·
         replace g292 := dF g292
         refine Of rfl (Of rfl (Pu rfl (Ni (hK291 (WC.condF rfl (WC.skip (hK290 ?_)))))))
         refine Sq fun K304 hK304 => (Sq fun K305 hK305 => (Rg (Pu rfl (Va (dx_eql rfl rfl rfl) rfl rfl (Ni (hK305 ?_))))))
         refine WC.cond rfl (fun c306 => ?_) (fun c306 => ?_)
         ·
          replace c306 := dT c306
          refine Sq fun K307 hK307 => (Rg (Pu rfl (Pu rfl (Pu rfl (Ni (hK307 ?_))))))
          exact WC.ret fun a_ ha_ => hQ (cv_ret3 rfl (.tmp rfl) (.tmp rfl) (.tmp rfl) (by have hkz : kb = ka + 1 ∧ n = 0 := (by rcases hv with ⟨h1_, h2_⟩ | h_; (exfalso; rw [← h1_] at hz hfd; omega); exact h_); first | (exfalso; omega) | (rw [hnum, numT_z (k1 := kb) ⟨hfd, hz⟩ hkz.1, hkz.2]; rfl)) hB ha_)
         ·
          replace c306 := dF c306
          refine WC.skip (hK304 (Sq fun K308 hK308 => (Sq fun K309 hK309 => (Rg (Pu rfl (Ni (hK309 ?_)))))))
          refine WC.cond rfl (fun c310 => ?_) (fun c310 => ?_)
          ·
           replace c310 := dT c310
           refine Rg (Pu rfl (Va (dx_neg rfl rfl (wrap64_id (by omega))) rfl rfl (Pu rfl (Ni (hK308 (Sq fun K311 hK311 => (Rg ?_)))))))
           refine Pu rfl (Pu rfl (Pu rfl (Pu rfl (Pu rfl (Ni (hK311 ?_))))))
           exact WC.ret fun a_ ha_ => hQ (cv_ret3 rfl (.tmp rfl) (.tmp rfl) (.tmp rfl) (by have hkz : kb = ka + 1 ∧ n = 0 := (by rcases hv with ⟨h1_, h2_⟩ | h_; (exfalso; rw [← h1_] at hz hfd; omega); exact h_); first | (exfalso; omega) | (rw [hnum, numT_z (k1 := kb) ⟨hfd, hz⟩ hkz.1, hkz.2]; rfl)) hB ha_)
          ·
           replace c310 := dF c310
           refine WC.skip (hK308 (Sq fun K312 hK312 => (Rg (Pu rfl (Pu rfl (Pu rfl (Pu rfl ?_)))))))
           refine Pu rfl (Ni (hK312 ?_))
           exact WC.ret fun a_ ha_ => hQ (cv_ret3 rfl (.tmp rfl) (.tmp rfl) (.tmp rfl) (by have hkz : kb = ka + 1 ∧ n = 0 := (by rcases hv with ⟨h1_, h2_⟩ | h_; (exfalso; rw [← h1_] at hz hfd; omega); exact h_); first | (exfalso; omega) | (rw [hnum, numT_z (k1 := kb) ⟨hfd, hz⟩ hkz.1, hkz.2]; rfl)) hB ha_)
      ·
       replace g237 := dF g237
       refine Of rfl (Of rfl (Of rfl (Of rfl (Pu rfl (Pu rfl (Of rfl (Of rfl ?_)))))))
       refine Of rfl (Of rfl (Pu rfl (Pu rfl (Of rfl (Of rfl (Of rfl (Of rfl ?_)))))))
       refine Of rfl (Of rfl (Of rfl (Of rfl (Of rfl (Pu rfl (Ni (hK236 ?_)))))))
       refine WC.condF rfl ?_
       refine WC.exit ?_
       refine hK232 (Sq fun K313 hK313 => (Sq fun K314 hK314 => (Rg (Pu rfl (Pu rfl ?_)))))
       refine WL.split 73 rfl (fun g315 => ?_) (fun g315 => ?_)
       ·
        replace g315 := dT g315
        refine Pu rfl (Va (dx_eql rfl rfl rfl) rfl rfl (Pu rfl (Ni (hK314 ?_))))
        refine WC.cond rfl (fun c316 => ?_) (fun c316 => ?_)
        ·
         replace c316 := dT c316
         refine Sq fun K317 hK317 => (Rg (Pu rfl (Pu rfl (Pu rfl (Ni (hK317 ?_))))))
         exact WC.ret fun a_ ha_ => hQ (cv_ret3 rfl (.tmp rfl) (.tmp rfl) (.tmp rfl) (by have hkz : kb = ka + 1 ∧ n = 0 := (by rcases hv with ⟨h1_, h2_⟩ | h_; (exfalso; rw [← h1_] at hz hfd; omega); exact h_); first | (exfalso; omega) | (rw [hnum, numT_m ⟨hfd, hz⟩]; rfl)) hB ha_)
        ·
         replace c316 := dF c316
         refine WC.skip (hK313 (Sq fun K318 hK318 => (Sq fun K319 hK319 => (Rg (Pu rfl (Va (dx_eql rfl rfl rfl) rfl rfl (Ni ?_)))))))
         refine hK319 ?_
         refine WC.cond rfl (fun c320 => ?_) (fun c320 => ?_)
         ·
          replace c320 := dT c320
          refine Sq fun K321 hK321 => (Rg (Pu rfl (Pu rfl (Pu rfl (Ni (hK321 ?_))))))
          exact WC.ret fun a_ ha_ => hQ (cv_ret3 rfl (.tmp rfl) (.tmp rfl) (.tmp rfl) (by have hkz : kb = ka + 1 ∧ n = 0 := (by rcases hv with ⟨h1_, h2_⟩ | h_; (exfalso; rw [← h1_] at hz hfd; omega); exact h_); first | (exfalso; omega) | (rw [hnum, numT_z (k1 := kb) ⟨hfd, hz⟩ hkz.1, hkz.2]; rfl)) hB ha_)
         ·
          replace c320 := dF c320
          refine WC.skip (hK318 (Sq fun K322 hK322 => (Sq fun K323 hK323 => (Rg (Pu rfl (Ni (hK323 ?_)))))))
          refine WC.cond rfl (fun c324 => ?_) (fun c324 => ?_)
          ·
           replace c324 := dT c324
           refine Rg (Pu rfl (Va (dx_neg rfl rfl (wrap64_id (by omega))) rfl rfl (Pu rfl (Ni (hK322 (Sq fun K325 hK325 => (Rg ?_)))))))
           refine Pu rfl (Pu rfl (Pu rfl (Pu rfl (Pu rfl (Ni (hK325 ?_))))))
           exact WC.ret fun a_ ha_ => hQ (cv_ret3 rfl (.tmp rfl) (.tmp rfl) (.tmp rfl) (by have hkz : kb = ka + 1 ∧ n = 0 := (by rcases hv with ⟨h1_, h2_⟩ | h_; (exfalso; rw [← h1_] at hz hfd; omega); exact h_); first | (exfalso; omega) | (rw [hnum, numT_z (k1 := kb) ⟨hfd, hz⟩ hkz.1, hkz.2]; rfl)) hB ha_)
          ·
           replace c324 := dF c324
           refine WC.skip (hK322 (Sq fun K326 hK326 => (Rg (Pu rfl (Pu rfl (Pu rfl (Pu rfl ?_)))))))
           refine Pu rfl (Ni (hK326 ?_))
           exact WC.ret fun a_ ha_ => hQ (cv_ret3 rfl (.tmp rfl) (.tmp rfl) (.tmp rfl) (by have hkz : kb = ka + 1 ∧ n = 0 := (by rcases hv with ⟨h1_, h2_⟩ | h_; (exfalso; rw [← h1_] at hz hfd; omega); exact h_); first | (exfalso; omega) | (rw [hnum, numT_z (k1 := kb) ⟨hfd, hz⟩ hkz.1, hkz.2]; rfl)) hB ha_)
       ·
        replace g315 := dF g315
        refine Of rfl (Of rfl (Pu rfl (Ni (hK314 (WC.condF rfl (WC.skip (hK313 ?_)))))))
        refine Sq fun K327 hK327 => (Sq fun K328 hK328 => (Rg (Pu rfl (Va (dx_eql rfl rfl rfl) rfl rfl (Ni (hK328 ?_))))))
        refine WC.cond rfl (fun c329 => ?_) (fun c329 => ?_)
        ·
         replace c329 := dT c329
         refine Sq fun K330 hK330 => (Rg (Pu rfl (Pu rfl (Pu rfl (Ni (hK330 ?_))))))
         exact WC.ret fun a_ ha_ => hQ (cv_ret3 rfl (.tmp rfl) (.tmp rfl) (.tmp rfl) (by have hkz : kb = ka + 1 ∧ n = 0 := (by rcases hv with ⟨h1_, h2_⟩ | h_; (exfalso; rw [← h1_] at hz hfd; omega); exact h_); first | (exfalso; omega) | (rw [hnum, numT_z (k1 := kb) ⟨hfd, hz⟩ hkz.1, hkz.2]; rfl)) hB ha_)
        ·
         replace c329 := dF c329
         refine WC.skip (hK327 (Sq fun K331 hK331 => (Sq fun K332 hK332 => (Rg (Pu rfl (Ni (hK332 ?_)))))))
         refine WC.cond rfl (fun c333 => ?_) (fun c333 => ?_)
         ·
          replace c333 := dT c333
          refine Rg (Pu rfl (Va (dx_neg rfl rfl (wrap64_id (by omega))) rfl rfl (Pu rfl (Ni (hK331 (Sq fun K334 hK334 => (Rg ?_)))))))
          refine Pu rfl (Pu rfl (Pu rfl (Pu rfl (Pu rfl (Ni (hK334 ?_))))))
          exact WC.ret fun a_ ha_ => hQ (cv_ret3 rfl (.tmp rfl) (.tmp rfl) (.tmp rfl) (by have hkz : kb = ka + 1 ∧ n = 0 := (by rcases hv with ⟨h1_, h2_⟩ | h_; (exfalso; rw [← h1_] at hz hfd; omega); exact h_); first | (exfalso; omega) | (rw [hnum, numT_z (k1 := kb) ⟨hfd, hz⟩ hkz.1, hkz.2]; rfl)) hB ha_)
         ·
          replace c333 := dF c333
          refine WC.skip (hK331 (Sq fun K335 hK335 => (Rg (Pu rfl (Pu rfl (Pu rfl (Pu rfl ?_)))))))
          refine Pu rfl (Ni (hK335 ?_))
          exact WC.ret fun a_ ha_ => hQ (cv_ret3 rfl (.tmp rfl) (.tmp rfl) (.tmp rfl) (by have hkz : kb = ka + 1 ∧ n = 0 := (by rcases hv with ⟨h1_, h2_⟩ | h_; (exfalso; rw [← h1_] at hz hfd; omega); exact h_); first | (exfalso; omega) | (rw [hnum, numT_z (k1 := kb) ⟨hfd, hz⟩ hkz.1, hkz.2]; rfl)) hB ha_)
     ·
      refine Rg (Pu rfl (Pu rfl (Pu rfl (Ni (hK231 (Sq fun K336 hK336 => (WC.block ?_)))))))
      refine WC.loop2 (fun (kb : Nat) (n : Int) => [(0, .string s), (7, .bool (decide (atS s ka = 45))), (9, .int .i64 (ka : Int)), (1, .int .i64 (kb : Int)), (8, .int .i64 n)]) (fun (kb : Nat) (n : Int) W => kb ≤ s.size ∧ ka ≤ kb ∧ 0 ≤ n ∧ n ≤ 9007199254740992 ∧ ClN s ka kb n ∧ Below w.heap.size w W ∧ LL (L) W) (fun (kb : Nat) (n : Int) => s.size - kb) ka 0 (by repeat first | exact trivial | exact And.intro rfl trivial | refine And.intro rfl ?_ | refine And.intro (congrArg (fun z : Int => some (Value.int .i64 z)) (by omega)) ?_) ⟨(by omega), (by omega), (by omega), (by omega), ⟨rfl, fun h => by omega, fun _ => rfl, .inl ⟨by decide, rfl⟩⟩, hB, hL⟩ ?_
      clear hB hL
      rintro K337 kb n W338 ⟨hkb, hkk, hn0, hn1, hv, hB, hL⟩ hK337
      refine Sq fun K339 hK339 => (Sq fun K340 hK340 => (Rg (Pu rfl (Pu rfl (Va (dx_lenT rfl Try.underlying9 rfl) rfl rfl (Va (dx_lss rfl rfl rfl) rfl rfl (Pu rfl ?_)))))))
      refine WL.split 38 rfl (fun g341 => ?_) (fun g341 => ?_)
      ·
       replace g341 := dT g341
       refine Pu rfl (Pu rfl (Va (dx_at kb rfl Try.underlying9 rfl rfl (by omega) (by omega)) rfl rfl (Va (dx_geq rfl rfl rfl) rfl rfl (Pu rfl (Pu rfl ?_)))))
       refine WL.split 44 rfl (fun g342 => ?_) (fun g342 => ?_)
       ·
        replace g342 := dT g342
        refine Pu rfl (Pu rfl (Va (dx_at kb rfl Try.underlying9 rfl rfl (by omega) (by omega)) rfl rfl (Va (dx_leq rfl rfl rfl) rfl rfl (Pu rfl (Pu rfl ?_)))))
        refine WL.split 50 rfl (fun g343 => ?_) (fun g343 => ?_)
        ·
         replace g343 := dT g343
         refine Pu rfl (Pu rfl (Va (dx_eql rfl rfl rfl) rfl rfl (Pu rfl ?_)))
         refine WL.split 54 rfl (fun g344 => ?_) (fun g344 => ?_)
         ·
          replace g344 := dT g344
          refine Of rfl (Of rfl (Of rfl (Of rfl (Pu rfl (Pu rfl (Ni (hK340 ?_)))))))
          refine WC.condT rfl (WC.skip (hK339 (WC.block (Sq fun K345 hK345 => (Rg (Pu rfl (Va (dx_mul (r := n * 10) rfl rfl rfl (wrap64_id (by omega))) rfl rfl ?_)))))))
          refine Pu rfl (Pu rfl (Va (dx_at kb rfl Try.underlying9 rfl rfl (by omega) (by omega)) rfl rfl (Va (dx_sub (r := (atS s kb) - 48) rfl rfl rfl (wrapu8_id (by omega))) rfl rfl (Va (dx_conv (r := (atS s kb) - 48) rfl Try.underlying5 Try.underlying3 rfl (wrap64_id (by omega))) rfl rfl (Va (dx_add (r := (n * 10) + ((atS s kb) - 48)) rfl rfl rfl (wrap64_id (by omega))) rfl rfl (Va (dx_min rfl rfl rfl) rfl rfl (Pu rfl ?_)))))))
          refine Ni (hK345 (Rg (Pu rfl (Va (dx_add (r := (kb : Int) + 1) rfl rfl rfl (wrap64_id (by omega))) rfl rfl (Pu rfl (Ni ?_))))))
          exact hK337 (kb + 1) (if 9007199254740992 < (n * 10) + ((atS s kb) - 48) then 9007199254740992 else (n * 10) + ((atS s kb) - 48)) ⟨(by omega), (by omega), (by split <;> omega), (by split <;> omega), (cl_step hv (by omega) (by omega) (by omega) (by omega) (by omega) (fun e_ => by subst e_; assumption) rfl), hB, hL⟩ (by omega) (by repeat first | exact trivial | exact And.intro rfl trivial | refine And.intro rfl ?_ | refine And.intro (congrArg (fun z : Int => some (Value.int .i64 z)) (by omega)) ?_)
         ·
          replace g344 := dF g344
          refine Pu rfl (Pu rfl (Va (dx_at ka rfl Try.underlying9 rfl rfl (by omega) (by omega)) rfl rfl (Va (dx_neq rfl rfl rfl) rfl rfl (Pu rfl (Pu rfl (Ni (hK340 ?_)))))))
          refine WC.cond rfl (fun c346 => ?_) (fun c346 => ?_)
          ·
           replace c346 := bnot_t c346
           replace c346 := dF c346
           refine WC.skip (hK339 (WC.block (Sq fun K347 hK347 => (Rg (Pu rfl (Va (dx_mul (r := n * 10) rfl rfl rfl (wrap64_id (by omega))) rfl rfl (Pu rfl ?_)))))))
           refine Pu rfl (Va (dx_at kb rfl Try.underlying9 rfl rfl (by omega) (by omega)) rfl rfl (Va (dx_sub (r := (atS s kb) - 48) rfl rfl rfl (wrapu8_id (by omega))) rfl rfl (Va (dx_conv (r := (atS s kb) - 48) rfl Try.underlying5 Try.underlying3 rfl (wrap64_id (by omega))) rfl rfl (Va (dx_add (r := (n * 10) + ((atS s kb) - 48)) rfl rfl rfl (wrap64_id (by omega))) rfl rfl (Va (dx_min rfl rfl rfl) rfl rfl (Pu rfl (Ni ?_)))))))
           refine hK347 (Rg (Pu rfl (Va (dx_add (r := (kb : Int) + 1) rfl rfl rfl (wrap64_id (by omega))) rfl rfl (Pu rfl (Ni ?_)))))
           exact hK337 (kb + 1) (if 9007199254740992 < (n * 10) + ((atS s kb) - 48) then 9007199254740992 else (n * 10) + ((atS s kb) - 48)) ⟨(by omega), (by omega), (by split <;> omega), (by split <;> omega), (cl_step hv (by omega) (by omega) (by omega) (by omega) (by omega) (fun e_ => by subst e_; assumption) rfl), hB, hL⟩ (by omega) (by repeat first | exact trivial | exact And.intro rfl trivial | refine And.intro rfl ?_ | refine And.intro (congrArg (fun z : Int => some (Value.int .i64 z)) (by omega)) ?_)
          ·
           replace c346 := bnot_f c346
           replace c346 := dT c346
           refine WC.exit ?_
           refine hK336 (Sq fun K348 hK348 => (Sq fun K349 hK349 => (Rg (Pu rfl (Pu rfl ?_)))))
           refine WL.split 73 rfl (fun g350 => ?_) (fun g350 => ?_)
           ·
            replace g350 := dT g350
            refine Pu rfl (Va (dx_eql rfl rfl rfl) rfl rfl (Pu rfl (Ni (hK349 ?_))))
            refine WC.cond rfl (fun c351 => ?_) (fun c351 => ?_)
            ·
             replace c351 := dT c351
             refine Sq fun K352 hK352 => (Rg (Pu rfl (Pu rfl (Pu rfl (Ni (hK352 ?_))))))
             exact WC.ret fun a_ ha_ => hQ (cv_ret3 rfl (.tmp rfl) (.tmp rfl) (.tmp rfl) (by have hq := cl_end hv (dig_no (by omega)); have hgt : ka < kb := (by rcases Nat.eq_or_lt_of_le hkk with h_ | h_; (exfalso; have h3_ : atS s ka = atS s kb := (by rw [h_]); omega); exact h_); have hn2 := hv.2.1 hgt; first | (exfalso; omega) | (rw [hnum, numT_s (n := n) (fun h_ => hz h_.2) (by omega) (by rcases hq.2 with ⟨q1, q2⟩ | ⟨q1, q2⟩; exact q2; (exfalso; omega)), hq.1]; rfl)) hB ha_)
            ·
             replace c351 := dF c351
             refine WC.skip (hK348 (Sq fun K353 hK353 => (Sq fun K354 hK354 => (Rg (Pu rfl (Va (dx_eql rfl rfl rfl) rfl rfl (Ni ?_)))))))
             refine hK354 ?_
             refine WC.cond rfl (fun c355 => ?_) (fun c355 => ?_)
             ·
              replace c355 := dT c355
              refine Sq fun K356 hK356 => (Rg (Pu rfl (Pu rfl (Pu rfl (Ni (hK356 ?_))))))
              exact WC.ret fun a_ ha_ => hQ (cv_ret3 rfl (.tmp rfl) (.tmp rfl) (.tmp rfl) (by have hq := cl_end hv (dig_no (by omega)); have hgt : ka < kb := (by rcases Nat.eq_or_lt_of_le hkk with h_ | h_; (exfalso; have h3_ : atS s ka = atS s kb := (by rw [h_]); omega); exact h_); have hn2 := hv.2.1 hgt; first | (exfalso; omega) | (rw [hnum, numT_n (fun h_ => hz h_.2) (by omega) (by rcases hq.2 with ⟨q1, q2⟩ | ⟨q1, q2⟩; (exfalso; omega); exact q2)]; rfl)) hB ha_)
             ·
              replace c355 := dF c355
              refine WC.skip (hK353 (Sq fun K357 hK357 => (Sq fun K358 hK358 => (Rg (Pu rfl (Ni (hK358 ?_)))))))
              refine WC.cond rfl (fun c359 => ?_) (fun c359 => ?_)
              ·
               replace c359 := dT c359
               refine Rg (Pu rfl (Va (dx_neg rfl rfl (wrap64_id (by omega))) rfl rfl (Pu rfl (Ni (hK357 (Sq fun K360 hK360 => (Rg ?_)))))))
               refine Pu rfl (Pu rfl (Pu rfl (Pu rfl (Pu rfl (Ni (hK360 ?_))))))
               exact WC.ret fun a_ ha_ => hQ (cv_ret3 rfl (.tmp rfl) (.tmp rfl) (.tmp rfl) (by have hq := cl_end hv (dig_no (by omega)); have hgt : ka < kb := (by rcases Nat.eq_or_lt_of_le hkk with h_ | h_; (exfalso; have h3_ : atS s ka = atS s kb := (by rw [h_]); omega); exact h_); have hn2 := hv.2.1 hgt; first | (exfalso; omega) | (rw [hnum, numT_s (n := n) (fun h_ => hz h_.2) (by omega) (by rcases hq.2 with ⟨q1, q2⟩ | ⟨q1, q2⟩; exact q2; (exfalso; omega)), hq.1]; rfl)) hB ha_)
              ·
               replace c359 := dF c359
               refine WC.skip (hK357 (Sq fun K361 hK361 => (Rg (Pu rfl (Pu rfl (Pu rfl (Pu rfl ?_)))))))
               refine Pu rfl (Ni (hK361 ?_))
               exact WC.ret fun a_ ha_ => hQ (cv_ret3 rfl (.tmp rfl) (.tmp rfl) (.tmp rfl) (by have hq := cl_end hv (dig_no (by omega)); have hgt : ka < kb := (by rcases Nat.eq_or_lt_of_le hkk with h_ | h_; (exfalso; have h3_ : atS s ka = atS s kb := (by rw [h_]); omega); exact h_); have hn2 := hv.2.1 hgt; first | (exfalso; omega) | (rw [hnum, numT_s (n := n) (fun h_ => hz h_.2) (by omega) (by rcases hq.2 with ⟨q1, q2⟩ | ⟨q1, q2⟩; exact q2; (exfalso; omega)), hq.1]; rfl)) hB ha_)
           ·
            replace g350 := dF g350
            refine Of rfl (Of rfl (Pu rfl (Ni (hK349 (WC.condF rfl (WC.skip (hK348 ?_)))))))
            refine Sq fun K362 hK362 => (Sq fun K363 hK363 => (Rg (Pu rfl (Va (dx_eql rfl rfl rfl) rfl rfl (Ni (hK363 ?_))))))
            refine WC.cond rfl (fun c364 => ?_) (fun c364 => ?_)
            ·
             replace c364 := dT c364
             refine Sq fun K365 hK365 => (Rg (Pu rfl (Pu rfl (Pu rfl (Ni (hK365 ?_))))))
             exact WC.ret fun a_ ha_ => hQ (cv_ret3 rfl (.tmp rfl) (.tmp rfl) (.tmp rfl) (by have hq := cl_end hv (dig_no (by omega)); have hgt : ka < kb := (by rcases Nat.eq_or_lt_of_le hkk with h_ | h_; (exfalso; have h3_ : atS s ka = atS s kb := (by rw [h_]); omega); exact h_); have hn2 := hv.2.1 hgt; first | (exfalso; omega) | (rw [hnum, numT_n (fun h_ => hz h_.2) (by omega) (by rcases hq.2 with ⟨q1, q2⟩ | ⟨q1, q2⟩; (exfalso; omega); exact q2)]; rfl)) hB ha_)
            ·
             replace c364 := dF c364
             refine WC.skip (hK362 (Sq fun K366 hK366 => (Sq fun K367 hK367 => (Rg (Pu rfl (Ni (hK367 ?_)))))))
             refine WC.cond rfl (fun c368 => ?_) (fun c368 => ?_)
             ·
              replace c368 := dT c368
              refine Rg (Pu rfl (Va (dx_neg rfl rfl (wrap64_id (by omega))) rfl rfl (Pu rfl (Ni (hK366 (Sq fun K369 hK369 => (Rg ?_)))))))
              refine Pu rfl (Pu rfl (Pu rfl (Pu rfl (Pu rfl (Ni (hK369 ?_))))))
              exact WC.ret fun a_ ha_ => hQ (cv_ret3 rfl (.tmp rfl) (.tmp rfl) (.tmp rfl) (by have hq := cl_end hv (dig_no (by omega)); have hgt : ka < kb := (by rcases Nat.eq_or_lt_of_le hkk with h_ | h_; (exfalso; have h3_ : atS s ka = atS s kb := (by rw [h_]); omega); exact h_); have hn2 := hv.2.1 hgt; first | (exfalso; omega) | (rw [hnum, numT_s (n := n) (fun h_ => hz h_.2) (by omega) (by rcases hq.2 with ⟨q1, q2⟩ | ⟨q1, q2⟩; exact q2; (exfalso; omega)), hq.1]; rfl)) hB ha_)
             ·
              replace c368 := dF c368
              refine WC.skip (hK366 (Sq fun K370 hK370 => (Rg (Pu rfl (Pu rfl (Pu rfl (Pu rfl ?_)))))))
              refine Pu rfl (Ni (hK370 ?_))
              exact WC.ret fun a_ ha_ => hQ (cv_ret3 rfl (.tmp rfl) (.tmp rfl) (.tmp rfl) (by have hq := cl_end hv (dig_no (by omega)); have hgt : ka < kb := (by rcases Nat.eq_or_lt_of_le hkk with h_ | h_; (exfalso; have h3_ : atS s ka = atS s kb := (by rw [h_]); omega); exact h_); have hn2 := hv.2.1 hgt; first | (exfalso; omega) | (rw [hnum, numT_s (n := n) (fun h_ => hz h_.2) (by omega) (by rcases hq.2 with ⟨q1, q2⟩ | ⟨q1, q2⟩; exact q2; (exfalso; omega)), hq.1]; rfl)) hB ha_)
        ·
         replace g343 := dF g343
         refine Of rfl (Of rfl (Of rfl (Of rfl (Of rfl (Of rfl (Of rfl (Of rfl ?_)))))))
         refine Of rfl (Pu rfl (Ni (hK340 (WC.condF rfl ?_))))
         refine WC.exit ?_
         refine hK336 (Sq fun K371 hK371 => (Sq fun K372 hK372 => (Rg (Pu rfl (Pu rfl ?_)))))
         refine WL.split 73 rfl (fun g373 => ?_) (fun g373 => ?_)
         ·
          replace g373 := dT g373
          refine Pu rfl (Va (dx_eql rfl rfl rfl) rfl rfl (Pu rfl (Ni (hK372 ?_))))
          refine WC.cond rfl (fun c374 => ?_) (fun c374 => ?_)
          ·
           replace c374 := dT c374
           refine Sq fun K375 hK375 => (Rg (Pu rfl (Pu rfl (Pu rfl (Ni (hK375 ?_))))))
           exact WC.ret fun a_ ha_ => hQ (cv_ret3 rfl (.tmp rfl) (.tmp rfl) (.tmp rfl) (by have hq := cl_end hv (dig_no (by omega)); have hgt : ka < kb := (by rcases Nat.eq_or_lt_of_le hkk with h_ | h_; (exfalso; have h3_ : atS s ka = atS s kb := (by rw [h_]); omega); exact h_); have hn2 := hv.2.1 hgt; first | (exfalso; omega) | (rw [hnum, numT_s (n := n) (fun h_ => hz h_.2) (by omega) (by rcases hq.2 with ⟨q1, q2⟩ | ⟨q1, q2⟩; exact q2; (exfalso; omega)), hq.1]; rfl)) hB ha_)
          ·
           replace c374 := dF c374
           refine WC.skip (hK371 (Sq fun K376 hK376 => (Sq fun K377 hK377 => (Rg (Pu rfl (Va (dx_eql rfl rfl rfl) rfl rfl (Ni ?_)))))))
           refine hK377 ?_
           refine WC.cond rfl (fun c378 => ?_) (fun c378 => ?_)
           ·
            replace c378 := dT c378
            refine Sq fun K379 hK379 => (Rg (Pu rfl (Pu rfl (Pu rfl (Ni (hK379 ?_))))))
            exact WC.ret fun a_ ha_ => hQ (cv_ret3 rfl (.tmp rfl) (.tmp rfl) (.tmp rfl) (by have hq := cl_end hv (dig_no (by omega)); have hgt : ka < kb := (by rcases Nat.eq_or_lt_of_le hkk with h_ | h_; (exfalso; have h3_ : atS s ka = atS s kb := (by rw [h_]); omega); exact h_); have hn2 := hv.2.1 hgt; first | (exfalso; omega) | (rw [hnum, numT_n (fun h_ => hz h_.2) (by omega) (by rcases hq.2 with ⟨q1, q2⟩ | ⟨q1, q2⟩; (exfalso; omega); exact q2)]; rfl)) hB ha_)
           ·
            replace c378 := dF c378
            refine WC.skip (hK376 (Sq fun K380 hK380 => (Sq fun K381 hK381 => (Rg (Pu rfl (Ni (hK381 ?_)))))))
            refine WC.cond rfl (fun c382 => ?_) (fun c382 => ?_)
            ·
             replace c382 := dT c382
             refine Rg (Pu rfl (Va (dx_neg rfl rfl (wrap64_id (by omega))) rfl rfl (Pu rfl (Ni (hK380 (Sq fun K383 hK383 => (Rg ?_)))))))
             refine Pu rfl (Pu rfl (Pu rfl (Pu rfl (Pu rfl (Ni (hK383 ?_))))))
             exact WC.ret fun a_ ha_ => hQ (cv_ret3 rfl (.tmp rfl) (.tmp rfl) (.tmp rfl) (by have hq := cl_end hv (dig_no (by omega)); have hgt : ka < kb := (by rcases Nat.eq_or_lt_of_le hkk with h_ | h_; (exfalso; have h3_ : atS s ka = atS s kb := (by rw [h_]); omega); exact h_); have hn2 := hv.2.1 hgt; first | (exfalso; omega) | (rw [hnum, numT_s (n := n) (fun h_ => hz h_.2) (by omega) (by rcases hq.2 with ⟨q1, q2⟩ | ⟨q1, q2⟩; exact q2; (exfalso; omega)), hq.1]; rfl)) hB ha_)
            ·
             replace c382 := dF c382
             refine WC.skip (hK380 (Sq fun K384 hK384 => (Rg (Pu rfl (Pu rfl (Pu rfl (Pu rfl ?_)))))))
             refine Pu rfl (Ni (hK384 ?_))
             exact WC.ret fun a_ ha_ => hQ (cv_ret3 rfl (.tmp rfl) (.tmp rfl) (.tmp rfl) (by have hq := cl_end hv (dig_no (by omega)); have hgt : ka < kb := (by rcases Nat.eq_or_lt_of_le hkk with h_ | h_; (exfalso; have h3_ : atS s ka = atS s kb := (by rw [h_]); omega); exact h_); have hn2 := hv.2.1 hgt; first | (exfalso; omega) | (rw [hnum, numT_s (n := n) (fun h_ => hz h_.2) (by omega) (by rcases hq.2 with ⟨q1, q2⟩ | ⟨q1, q2⟩; exact q2; (exfalso; omega)), hq.1]; rfl)) hB ha_)
         ·
          replace g373 := dF g373
          refine Of rfl (Of rfl (Pu rfl (Ni (hK372 (WC.condF rfl (WC.skip (hK371 ?_)))))))
          refine Sq fun K385 hK385 => (Sq fun K386 hK386 => (Rg (Pu rfl (Va (dx_eql rfl rfl rfl) rfl rfl (Ni (hK386 ?_))))))
          refine WC.cond rfl (fun c387 => ?_) (fun c387 => ?_)
          ·
           replace c387 := dT c387
           refine Sq fun K388 hK388 => (Rg (Pu rfl (Pu rfl (Pu rfl (Ni (hK388 ?_))))))
           exact WC.ret fun a_ ha_ => hQ (cv_ret3 rfl (.tmp rfl) (.tmp rfl) (.tmp rfl) (by have hq := cl_end hv (dig_no (by omega)); have hgt : ka < kb := (by rcases Nat.eq_or_lt_of_le hkk with h_ | h_; (exfalso; have h3_ : atS s ka = atS s kb := (by rw [h_]); omega); exact h_); have hn2 := hv.2.1 hgt; first | (exfalso; omega) | (rw [hnum, numT_n (fun h_ => hz h_.2) (by omega) (by rcases hq.2 with ⟨q1, q2⟩ | ⟨q1, q2⟩; (exfalso; omega); exact q2)]; rfl)) hB ha_)
          ·
           replace c387 := dF c387
           refine WC.skip (hK385 (Sq fun K389 hK389 => (Sq fun K390 hK390 => (Rg (Pu rfl (Ni (hK390 ?_)))))))
           refine WC.cond rfl (fun c391 => ?_) (fun c391 => ?_)
           ·
            replace c391 := dT c391
            refine Rg (Pu rfl (Va (dx_neg rfl rfl (wrap64_id (by omega))) rfl rfl (Pu rfl (Ni (hK389 (Sq fun K392 hK392 => (Rg ?_)))))))
            refine Pu rfl (Pu rfl (Pu rfl (Pu rfl (Pu rfl (Ni (hK392 ?_))))))
            exact WC.ret fun a_ ha_ => hQ (cv_ret3 rfl (.tmp rfl) (.tmp rfl) (.tmp rfl) (by have hq := cl_end hv (dig_no (by omega)); have hgt : ka < kb := (by rcases Nat.eq_or_lt_of_le hkk with h_ | h_; (exfalso; have h3_ : atS s ka = atS s kb := (by rw [h_]); omega); exact h_); have hn2 := hv.2.1 hgt; first | (exfalso; omega) | (rw [hnum, numT_s (n := n) (fun h_ => hz h_.2) (by omega) (by rcases hq.2 with ⟨q1, q2⟩ | ⟨q1, q2⟩; exact q2; (exfalso; omega)), hq.1]; rfl)) hB ha_)
           ·
            replace c391 := dF c391
            refine WC.skip (hK389 (Sq fun K393 hK393 => (Rg (Pu rfl (Pu rfl (Pu rfl (Pu rfl ?_)))))))
            refine Pu rfl (Ni (hK393 ?_))
            exact WC.ret fun a_ ha_ => hQ (cv_ret3 rfl (.tmp rfl) (.tmp rfl) (.tmp rfl) (by have hq := cl_end hv (dig_no (by omega)); have hgt : ka < kb := (by rcases Nat.eq_or_lt_of_le hkk with h_ | h_; (exfalso; have h3_ : atS s ka = atS s kb := (by rw [h_]); omega); exact h_); have hn2 := hv.2.1 hgt; first | (exfalso; omega) | (rw [hnum, numT_s (n := n) (fun h_ => hz h_.2) (by omega) (by rcases hq.2 with ⟨q1, q2⟩ | ⟨q1, q2⟩; exact q2; (exfalso; omega)), hq.1]; rfl)) hB ha_)
       ·
        replace g342 := dF g342
        refine Of rfl (Of rfl (Of rfl (Of rfl (Pu rfl (Pu rfl (Of rfl (Of rfl ?_)))))))
        refine Of rfl (Of rfl (Of rfl (Of rfl (Of rfl (Of rfl (Of rfl (Pu rfl ?_)))))))
        refine Ni (hK340 (WC.condF rfl ?_))
        refine WC.exit ?_
        refine hK336 (Sq fun K394 hK394 => (Sq fun K395 hK395 => (Rg (Pu rfl (Pu rfl ?_)))))
        refine WL.split 73 rfl (fun g396 => ?_) (fun g396 => ?_)
        ·
         replace g396 := dT g396
         refine Pu rfl (Va (dx_eql rfl rfl rfl) rfl rfl (Pu rfl (Ni (hK395 ?_))))
         refine WC.cond rfl (fun c397 => ?_) (fun c397 => ?_)
         ·
          replace c397 := dT c397
          refine Sq fun K398 hK398 => (Rg (Pu rfl (Pu rfl (Pu rfl (Ni (hK398 ?_))))))
          exact WC.ret fun a_ ha_ => hQ (cv_ret3 rfl (.tmp rfl) (.tmp rfl) (.tmp rfl) (by have hq := cl_end hv (dig_no (by omega)); have hgt : ka < kb := (by rcases Nat.eq_or_lt_of_le hkk with h_ | h_; (exfalso; have h3_ : atS s ka = atS s kb := (by rw [h_]); omega); exact h_); have hn2 := hv.2.1 hgt; first | (exfalso; omega) | (rw [hnum, numT_s (n := n) (fun h_ => hz h_.2) (by omega) (by rcases hq.2 with ⟨q1, q2⟩ | ⟨q1, q2⟩; exact q2; (exfalso; omega)), hq.1]; rfl)) hB ha_)
         ·
          replace c397 := dF c397
          refine WC.skip (hK394 (Sq fun K399 hK399 => (Sq fun K400 hK400 => (Rg (Pu rfl (Va (dx_eql rfl rfl rfl) rfl rfl (Ni ?_)))))))
          refine hK400 ?_
          refine WC.cond rfl (fun c401 => ?_) (fun c401 => ?_)
          ·
           replace c401 := dT c401
           refine Sq fun K402 hK402 => (Rg (Pu rfl (Pu rfl (Pu rfl (Ni (hK402 ?_))))))
           exact WC.ret fun a_ ha_ => hQ (cv_ret3 rfl (.tmp rfl) (.tmp rfl) (.tmp rfl) (by have hq := cl_end hv (dig_no (by omega)); have hgt : ka < kb := (by rcases Nat.eq_or_lt_of_le hkk with h_ | h_; (exfalso; have h3_ : atS s ka = atS s kb := (by rw [h_]); omega); exact h_); have hn2 := hv.2.1 hgt; first | (exfalso; omega) | (rw [hnum, numT_n (fun h_ => hz h_.2) (by omega) (by rcases hq.2 with ⟨q1, q2⟩ | ⟨q1, q2⟩; (exfalso; omega); exact q2)]; rfl)) hB ha_)
          ·
           replace c401 := dF c401
           refine WC.skip (hK399 (Sq fun K403 hK403 => (Sq fun K404 hK404 => (Rg (Pu rfl (Ni (hK404 ?_)))))))
           refine WC.cond rfl (fun c405 => ?_) (fun c405 => ?_)
           ·
            replace c405 := dT c405
            refine Rg (Pu rfl (Va (dx_neg rfl rfl (wrap64_id (by omega))) rfl rfl (Pu rfl (Ni (hK403 (Sq fun K406 hK406 => (Rg ?_)))))))
            refine Pu rfl (Pu rfl (Pu rfl (Pu rfl (Pu rfl (Ni (hK406 ?_))))))
            exact WC.ret fun a_ ha_ => hQ (cv_ret3 rfl (.tmp rfl) (.tmp rfl) (.tmp rfl) (by have hq := cl_end hv (dig_no (by omega)); have hgt : ka < kb := (by rcases Nat.eq_or_lt_of_le hkk with h_ | h_; (exfalso; have h3_ : atS s ka = atS s kb := (by rw [h_]); omega); exact h_); have hn2 := hv.2.1 hgt; first | (exfalso; omega) | (rw [hnum, numT_s (n := n) (fun h_ => hz h_.2) (by omega) (by rcases hq.2 with ⟨q1, q2⟩ | ⟨q1, q2⟩; exact q2; (exfalso; omega)), hq.1]; rfl)) hB ha_)
           ·
            replace c405 := dF c405
            refine WC.skip (hK403 (Sq fun K407 hK407 => (Rg (Pu rfl (Pu rfl (Pu rfl (Pu rfl ?_)))))))
            refine Pu rfl (Ni (hK407 ?_))
            exact WC.ret fun a_ ha_ => hQ (cv_ret3 rfl (.tmp rfl) (.tmp rfl) (.tmp rfl) (by have hq := cl_end hv (dig_no (by omega)); have hgt : ka < kb := (by rcases Nat.eq_or_lt_of_le hkk with h_ | h_; (exfalso; have h3_ : atS s ka = atS s kb := (by rw [h_]); omega); exact h_); have hn2 := hv.2.1 hgt; first | (exfalso; omega) | (rw [hnum, numT_s (n := n) (fun h_ => hz h_.2) (by omega) (by rcases hq.2 with ⟨q1, q2⟩ | ⟨q1, q2⟩; exact q2; (exfalso; omega)), hq.1]; rfl)) hB ha_)
        ·
         replace g396 := dF g396
         refine Of rfl (Of rfl (Pu rfl (Ni (hK395 (WC.condF rfl (WC.skip (hK394 ?_)))))))
         refine Sq fun K408 hK408 => (Sq fun K409 hK409 => (Rg (Pu rfl (Va (dx_eql rfl rfl rfl) rfl rfl (Ni (hK409 ?_))))))
         refine WC.cond rfl (fun c410 => ?_) (fun c410 => ?_)
         ·
          replace c410 := dT c410
          refine Sq fun K411 hK411 => (Rg (Pu rfl (Pu rfl (Pu rfl (Ni (hK411 ?_))))))
          exact WC.ret fun a_ ha_ => hQ (cv_ret3 rfl (.tmp rfl) (.tmp rfl) (.tmp rfl) (by have hq := cl_end hv (dig_no (by omega)); have hgt : ka < kb := (by rcases Nat.eq_or_lt_of_le hkk with h_ | h_; (exfalso; have h3_ : atS s ka = atS s kb := (by rw [h_]); omega); exact h_); have hn2 := hv.2.1 hgt; first | (exfalso; omega) | (rw [hnum, numT_n (fun h_ => hz h_.2) (by omega) (by rcases hq.2 with ⟨q1, q2⟩ | ⟨q1, q2⟩; (exfalso; omega); exact q2)]; rfl)) hB ha_)
         ·
          replace c410 := dF c410
          refine WC.skip (hK408 (Sq fun K412 hK412 => (Sq fun K413 hK413 => (Rg (Pu rfl (Ni (hK413 ?_)))))))
          refine WC.cond rfl (fun c414 => ?_) (fun c414 => ?_)
          ·
           replace c414 := dT c414
           refine Rg (Pu rfl (Va (dx_neg rfl rfl (wrap64_id (by omega))) rfl rfl (Pu rfl (Ni (hK412 (Sq fun K415 hK415 => (Rg ?_)))))))
           refine Pu rfl (Pu rfl (Pu rfl (Pu rfl (Pu rfl (Ni (hK415 ?_))))))
           exact WC.ret fun a_ ha_ => hQ (cv_ret3 rfl (.tmp rfl) (.tmp rfl) (.tmp rfl) (by have hq := cl_end hv (dig_no (by omega)); have hgt : ka < kb := (by rcases Nat.eq_or_lt_of_le hkk with h_ | h_; (exfalso; have h3_ : atS s ka = atS s kb := (by rw [h_]); omega); exact h_); have hn2 := hv.2.1 hgt; first | (exfalso; omega) | (rw [hnum, numT_s (n := n) (fun h_ => hz h_.2) (by omega) (by rcases hq.2 with ⟨q1, q2⟩ | ⟨q1, q2⟩; exact q2; (exfalso; omega)), hq.1]; rfl)) hB ha_)
          ·
           replace c414 := dF c414
           refine WC.skip (hK412 (Sq fun K416 hK416 => (Rg (Pu rfl (Pu rfl (Pu rfl (Pu rfl ?_)))))))
           refine Pu rfl (Ni (hK416 ?_))
           exact WC.ret fun a_ ha_ => hQ (cv_ret3 rfl (.tmp rfl) (.tmp rfl) (.tmp rfl) (by have hq := cl_end hv (dig_no (by omega)); have hgt : ka < kb := (by rcases Nat.eq_or_lt_of_le hkk with h_ | h_; (exfalso; have h3_ : atS s ka = atS s kb := (by rw [h_]); omega); exact h_); have hn2 := hv.2.1 hgt; first | (exfalso; omega) | (rw [hnum, numT_s (n := n) (fun h_ => hz h_.2) (by omega) (by rcases hq.2 with ⟨q1, q2⟩ | ⟨q1, q2⟩; exact q2; (exfalso; omega)), hq.1]; rfl)) hB ha_)
      ·
       replace g341 := dF g341
       refine Of rfl (Of rfl (Of rfl (Of rfl (Pu rfl (Pu rfl (Of rfl (Of rfl ?_)))))))
       refine Of rfl (Of rfl (Pu rfl (Pu rfl (Of rfl (Of rfl (Of rfl (Of rfl ?_)))))))
       refine Of rfl (Of rfl (Of rfl (Of rfl (Of rfl (Pu rfl (Ni (hK340 ?_)))))))
       refine WC.condF rfl ?_
       refine WC.exit ?_
       refine hK336 (Sq fun K417 hK417 => (Sq fun K418 hK418 => (Rg (Pu rfl (Pu rfl ?_)))))
       refine WL.split 73 rfl (fun g419 => ?_) (fun g419 => ?_)
       ·
        replace g419 := dT g419
        refine Pu rfl (Va (dx_eql rfl rfl rfl) rfl rfl (Pu rfl (Ni (hK418 ?_))))
        refine WC.cond rfl (fun c420 => ?_) (fun c420 => ?_)
        ·
         replace c420 := dT c420
         refine Sq fun K421 hK421 => (Rg (Pu rfl (Pu rfl (Pu rfl (Ni (hK421 ?_))))))
         exact WC.ret fun a_ ha_ => hQ (cv_ret3 rfl (.tmp rfl) (.tmp rfl) (.tmp rfl) (by have hq := cl_end hv (dig_no (by omega)); have hgt : ka < kb := (by rcases Nat.eq_or_lt_of_le hkk with h_ | h_; (exfalso; have h3_ : atS s ka = atS s kb := (by rw [h_]); omega); exact h_); have hn2 := hv.2.1 hgt; first | (exfalso; omega) | (rw [hnum, numT_s (n := n) (fun h_ => hz h_.2) (by omega) (by rcases hq.2 with ⟨q1, q2⟩ | ⟨q1, q2⟩; exact q2; (exfalso; omega)), hq.1]; rfl)) hB ha_)
        ·
         replace c420 := dF c420
         refine WC.skip (hK417 (Sq fun K422 hK422 => (Sq fun K423 hK423 => (Rg (Pu rfl (Va (dx_eql rfl rfl rfl) rfl rfl (Ni ?_)))))))
         refine hK423 ?_
         refine WC.cond rfl (fun c424 => ?_) (fun c424 => ?_)
         ·
          replace c424 := dT c424
          refine Sq fun K425 hK425 => (Rg (Pu rfl (Pu rfl (Pu rfl (Ni (hK425 ?_))))))
          exact WC.ret fun a_ ha_ => hQ (cv_ret3 rfl (.tmp rfl) (.tmp rfl) (.tmp rfl) (by have hq := cl_end hv (dig_no (by omega)); have hgt : ka < kb := (by rcases Nat.eq_or_lt_of_le hkk with h_ | h_; (exfalso; have h3_ : atS s ka = atS s kb := (by rw [h_]); omega); exact h_); have hn2 := hv.2.1 hgt; first | (exfalso; omega) | (rw [hnum, numT_n (fun h_ => hz h_.2) (by omega) (by rcases hq.2 with ⟨q1, q2⟩ | ⟨q1, q2⟩; (exfalso; omega); exact q2)]; rfl)) hB ha_)
         ·
          replace c424 := dF c424
          refine WC.skip (hK422 (Sq fun K426 hK426 => (Sq fun K427 hK427 => (Rg (Pu rfl (Ni (hK427 ?_)))))))
          refine WC.cond rfl (fun c428 => ?_) (fun c428 => ?_)
          ·
           replace c428 := dT c428
           refine Rg (Pu rfl (Va (dx_neg rfl rfl (wrap64_id (by omega))) rfl rfl (Pu rfl (Ni (hK426 (Sq fun K429 hK429 => (Rg ?_)))))))
           refine Pu rfl (Pu rfl (Pu rfl (Pu rfl (Pu rfl (Ni (hK429 ?_))))))
           exact WC.ret fun a_ ha_ => hQ (cv_ret3 rfl (.tmp rfl) (.tmp rfl) (.tmp rfl) (by have hq := cl_end hv (dig_no (by omega)); have hgt : ka < kb := (by rcases Nat.eq_or_lt_of_le hkk with h_ | h_; (exfalso; have h3_ : atS s ka = atS s kb := (by rw [h_]); omega); exact h_); have hn2 := hv.2.1 hgt; first | (exfalso; omega) | (rw [hnum, numT_s (n := n) (fun h_ => hz h_.2) (by omega) (by rcases hq.2 with ⟨q1, q2⟩ | ⟨q1, q2⟩; exact q2; (exfalso; omega)), hq.1]; rfl)) hB ha_)
          ·
           replace c428 := dF c428
           refine WC.skip (hK426 (Sq fun K430 hK430 => (Rg (Pu rfl (Pu rfl (Pu rfl (Pu rfl ?_)))))))
           refine Pu rfl (Ni (hK430 ?_))
           exact WC.ret fun a_ ha_ => hQ (cv_ret3 rfl (.tmp rfl) (.tmp rfl) (.tmp rfl) (by have hq := cl_end hv (dig_no (by omega)); have hgt : ka < kb := (by rcases Nat.eq_or_lt_of_le hkk with h_ | h_; (exfalso; have h3_ : atS s ka = atS s kb := (by rw [h_]); omega); exact h_); have hn2 := hv.2.1 hgt; first | (exfalso; omega) | (rw [hnum, numT_s (n := n) (fun h_ => hz h_.2) (by omega) (by rcases hq.2 with ⟨q1, q2⟩ | ⟨q1, q2⟩; exact q2; (exfalso; omega)), hq.1]; rfl)) hB ha_)
       ·
        replace g419 := dF g419
        refine Of rfl (Of rfl (Pu rfl (Ni (hK418 (WC.condF rfl (WC.skip (hK417 ?_)))))))
        refine Sq fun K431 hK431 => (Sq fun K432 hK432 => (Rg (Pu rfl (Va (dx_eql rfl rfl rfl) rfl rfl (Ni (hK432 ?_))))))
        refine WC.cond rfl (fun c433 => ?_) (fun c433 => ?_)
        ·
         replace c433 := dT c433
         refine Sq fun K434 hK434 => (Rg (Pu rfl (Pu rfl (Pu rfl (Ni (hK434 ?_))))))
         exact WC.ret fun a_ ha_ => hQ (cv_ret3 rfl (.tmp rfl) (.tmp rfl) (.tmp rfl) (by have hq := cl_end hv (dig_no (by omega)); have hgt : ka < kb := (by rcases Nat.eq_or_lt_of_le hkk with h_ | h_; (exfalso; have h3_ : atS s ka = atS s kb := (by rw [h_]); omega); exact h_); have hn2 := hv.2.1 hgt; first | (exfalso; omega) | (rw [hnum, numT_n (fun h_ => hz h_.2) (by omega) (by rcases hq.2 with ⟨q1, q2⟩ | ⟨q1, q2⟩; (exfalso; omega); exact q2)]; rfl)) hB ha_)
        ·
         replace c433 := dF c433
         refine WC.skip (hK431 (Sq fun K435 hK435 => (Sq fun K436 hK436 => (Rg (Pu rfl (Ni (hK436 ?_)))))))
         refine WC.cond rfl (fun c437 => ?_) (fun c437 => ?_)
         ·
          replace c437 := dT c437
          refine Rg (Pu rfl (Va (dx_neg rfl rfl (wrap64_id (by omega))) rfl rfl (Pu rfl (Ni (hK435 (Sq fun K438 hK438 => (Rg ?_)))))))
          refine Pu rfl (Pu rfl (Pu rfl (Pu rfl (Pu rfl (Ni (hK438 ?_))))))
          exact WC.ret fun a_ ha_ => hQ (cv_ret3 rfl (.tmp rfl) (.tmp rfl) (.tmp rfl) (by have hq := cl_end hv (dig_no (by omega)); have hgt : ka < kb := (by rcases Nat.eq_or_lt_of_le hkk with h_ | h_; (exfalso; have h3_ : atS s ka = atS s kb := (by rw [h_]); omega); exact h_); have hn2 := hv.2.1 hgt; first | (exfalso; omega) | (rw [hnum, numT_s (n := n) (fun h_ => hz h_.2) (by omega) (by rcases hq.2 with ⟨q1, q2⟩ | ⟨q1, q2⟩; exact q2; (exfalso; omega)), hq.1]; rfl)) hB ha_)
         ·
          replace c437 := dF c437
          refine WC.skip (hK435 (Sq fun K439 hK439 => (Rg (Pu rfl (Pu rfl (Pu rfl (Pu rfl ?_)))))))
          refine Pu rfl (Ni (hK439 ?_))
          exact WC.ret fun a_ ha_ => hQ (cv_ret3 rfl (.tmp rfl) (.tmp rfl) (.tmp rfl) (by have hq := cl_end hv (dig_no (by omega)); have hgt : ka < kb := (by rcases Nat.eq_or_lt_of_le hkk with h_ | h_; (exfalso; have h3_ : atS s ka = atS s kb := (by rw [h_]); omega); exact h_); have hn2 := hv.2.1 hgt; first | (exfalso; omega) | (rw [hnum, numT_s (n := n) (fun h_ => hz h_.2) (by omega) (by rcases hq.2 with ⟨q1, q2⟩ | ⟨q1, q2⟩; exact q2; (exfalso; omega)), hq.1]; rfl)) hB ha_)

theorem strOf_app (a b : List Int) : strOfNums a ++ strOfNums b = strOfNums (a ++ b) := by
 cases ha : strOfNums a
 cases hb : strOfNums b
 rename_i x y
 have e1 := strOfNums_data a
 have e2 := strOfNums_data b
 have e3 := strOfNums_data (a ++ b)
 rw [ha] at e1
 rw [hb] at e2
 rw [List.map_append, ← e1, ← e2] at e3
 cases hc : strOfNums (a ++ b)
 rename_i z
 rw [hc] at e3
 apply ByteArray.ext
 apply Array.toList_inj.1
 simpa using e3.symm
theorem ext_one {s : ByteArray} {k : Nat} (h : k < s.size) : s.extract k (k + 1) = strOfNums [atS s k] := by
 apply sb_inj
 rw [sb_strOf (bytes_one (atS_lo s k))]
 have hl : (sb (s.extract k (k + 1))).length = 1 := by rw [sb_length, ByteArray.size_extract]; omega
 have h0 := at0_sb (s.extract k (k + 1)) 0 (by rw [ByteArray.size_extract]; omega)
 have h1 : atS (s.extract k (k + 1)) 0 = atS s k := by have := at_extract s k (k + 1) 0 (by omega) (by omega); rwa [Nat.add_zero] at this
 obtain ⟨z, hz⟩ := List.length_eq_one_iff.1 hl
 rw [hz] at h0 ⊢
 congr 1
 rw [← h1]
 unfold atS
 have e : z = ((s.extract k (k + 1)).data[0]'(by show 0 < (s.extract k (k + 1)).size; rw [ByteArray.size_extract]; omega)).toNat := h0
 rw [Array.getElem?_eq_getElem (by show 0 < (s.extract k (k + 1)).size; rw [ByteArray.size_extract]; omega)]
 exact e
theorem begin_one {s : ByteArray} {k : Nat} {c : Int} {wd : ByteArray} (hc : 0 ≤ c ∧ c ≤ 255) (hw : wd = strOfNums [c]) : beginS s wd k = takeS s k c := by
  subst hw
  unfold beginS takeS
  rw [strOfNums_size, List.length_singleton]
  by_cases h : k < s.size
  · rw [decide_eq_true h, decide_eq_true (show k + 1 ≤ s.size by omega), Bool.true_and, Bool.true_and, ext_one h, decide_eq_decide]
    constructor
    · intro e
      have := congrArg sb e
      rw [sb_strOf (bytes_one (atS_lo s k)), sb_strOf (bytes_one hc)] at this
      exact List.cons.inj this |>.1
    · intro e; rw [e]
  · rw [decide_eq_false h, decide_eq_false (show ¬ k + 1 ≤ s.size by omega)]; rfl
abbrev EscAt (s : ByteArray) : Prop := ∀ (k : Nat) (w : World) (L : List Nat), LL L w → k ≤ s.size → CV Try.prog 93 [.string s, .int .i64 (k : Int)] w fun v W => (∃ (l : List Int) (k' : Nat), v = .tuple #[.string (strOfNums l), .int .i64 (k' : Int)] ∧ escB s k = some (l, k') ∧ Bytes l ∧ k + l.length ≤ k' ∧ k' ≤ s.size) ∨ (v = .tuple #[.string ⟨#[]⟩, .int .i64 (-1)] ∧ escB s k = none)
theorem ext_of_at {a b : ByteArray} (hs : a.size = b.size) (h : ∀ i, i < a.size → atS a i = atS b i) : a = b := by
 apply sb_inj
 refine eq_of_all (by rw [sb_length, sb_length, hs]) fun j hj => ?_
 rw [sb_length] at hj
 have hj2 : j < b.size := by omega
 rw [at0_sb a j hj, at0_sb b j hj2]
 have := h j hj
 unfold atS at this
 rw [Array.getElem?_eq_getElem (show j < a.data.size from hj), Array.getElem?_eq_getElem (show j < b.data.size from hj2)] at this
 exact this
theorem begin_word {s wd : ByteArray} {k : Nat} (hk : k ≤ s.size) : beginS s wd k = wordS s wd k := by
  rcases Nat.lt_or_ge s.size (k + wd.size) with h | h
  · rw [word_f (i := s.size - k) (by omega) (by unfold takeS; rw [decide_eq_false (by omega)]; rfl)]
    unfold beginS
    rw [decide_eq_false (by omega)]
    rfl
  · unfold beginS
    rw [decide_eq_true h, Bool.true_and]
    have hz : (s.extract k (k + wd.size)).size = wd.size := by rw [ByteArray.size_extract]; omega
    cases hw : wordS s wd k with
    | true =>
      refine decide_eq_true (ext_of_at hz fun i hi => ?_)
      rw [at_extract s k (k + wd.size) i (by omega) h]
      exact (take_t (List.all_eq_true.1 hw i (List.mem_range.2 (by omega)))).2
    | false =>
      refine decide_eq_false fun e => ?_
      have : wordS s wd k = true := word_t fun i hi => take_of (by omega) (by rw [← at_extract s k (k + wd.size) i (by omega) h, e])
      rw [hw] at this
      cases this
abbrev SpK := List (Nat × (World → World → Prop) × List Nat)
def relK (sp : SpK) (k : Nat) (W W' : World) : Prop := match sp.find? (fun e => e.1 == k) with
 | some e => e.2.1 W W'
 | none => Below W.heap.size W W'
def RelOk (w : World) (sd : List (Option Tmp × VS)) (dl : List (List Nat)) : SpK → Prop
 | [] => True
 | e :: l => ((e.2.2.all fun j => j == e.1 || ((dl[j]?).getD []).contains e.1) = true ∧ VS.monoR e.2.1 (e.2.2.foldl (fun l k => l.set k (none, .is undef)) sd) ∧ ∀ W W', Below w.heap.size w W → e.2.1 W W' → Below w.heap.size w W') ∧ RelOk w sd dl l
theorem RelOk.at {w : World} {sd : List (Option Tmp × VS)} {dl : List (List Nat)} : ∀ {sp : SpK}, RelOk w sd dl sp → ∀ e ∈ sp, (e.2.2.all fun j => j == e.1 || ((dl[j]?).getD []).contains e.1) = true ∧ VS.monoR e.2.1 (e.2.2.foldl (fun l k => l.set k (none, .is undef)) sd) ∧ ∀ W W', Below w.heap.size w W → e.2.1 W W' → Below w.heap.size w W'
 | _ :: _, h, e, he => by
  rcases List.mem_cons.1 he with rfl | he
  · exact h.1
  · exact RelOk.at h.2 e he
def DStepsK (P : Program) (ops : Array Oper) (N : Nat) (w0 : World) (sd : List (Option Tmp × VS)) (dl : List (List Nat)) (f : Fl) (sp : SpK) : Nat → List Oper → Prop
 | _, [] => True
 | k, o :: l => (∀ W, Below w0.heap.size w0 W → DStep P ops o N W sd (fun v W' => relK sp k W W' ∧ okAt sd k v W') ((dl[k]?).getD []) f) ∧ DStepsK P ops N w0 sd dl f sp (k + 1) l
section
variable {P : Program} {N : Nat} {sd : List (Option Tmp × VS)} {dl : List (List Nat)}
theorem DStepsK.cons {ops : Array Oper} {w0 : World} {f : Fl} {k : Nat} {sp : SpK} {o : Oper} {l : List Oper} (hk : sp.all (fun e => !(e.1 == k)) = true) (h : ∀ W, Below w0.heap.size w0 W → DStep P ops o N W sd (fun v W' => Below W.heap.size W W' ∧ okAt sd k v W') ((dl[k]?).getD []) f) (hl : DStepsK P ops N w0 sd dl f sp (k + 1) l) : DStepsK P ops N w0 sd dl f sp k (o :: l) := by
 have e : relK sp k = fun W W' => Below W.heap.size W W' := by
  funext W W'
  have : sp.find? (fun e => e.1 == k) = none := List.find?_eq_none.2 fun x hx => by
   have := List.all_eq_true.1 hk x hx
   simpa using this
  simp only [relK, this]
 exact ⟨by rw [e]; exact h, hl⟩
theorem DStepsK.hit {ops : Array Oper} {w0 : World} {f : Fl} {k : Nat} {sp : SpK} {rel : World → World → Prop} {ex : List Nat} {o : Oper} {l : List Oper} (hk : sp.find? (fun e => e.1 == k) = some (k, rel, ex)) (h : ∀ W, Below w0.heap.size w0 W → DStep P ops o N W sd (fun v W' => rel W W' ∧ okAt sd k v W') ((dl[k]?).getD []) f) (hl : DStepsK P ops N w0 sd dl f sp (k + 1) l) : DStepsK P ops N w0 sd dl f sp k (o :: l) := by
 have e : relK sp k = rel := by
  funext W W'
  simp only [relK, hk]
 exact ⟨by rw [e]; exact h, hl⟩
end
theorem NewS.toW' {s base : Nat} {rs : List (List Value)} {u : Value} {w : World} (h : NewS s base rs u w) : NewW s base rs u w := by
 rcases h with h | ⟨B, sp, h1, rfl, h3, h4⟩
 · exact .inl h
 · exact .inr ⟨B, h1, h3.own⟩
theorem NewW.toS {s base : Nat} {rs : List (List Value)} {u : Value} {w : World} (h : NewW s base rs u w) (hn : rs ≠ []) : NewS s base rs u w := by
 rcases h with h | ⟨B, h1, h2⟩
 · exact .inl h
 · exact NewS.of_own h2 h1 hn
theorem NewW.keep {s base n : Nat} {rs : List (List Value)} {u : Value} {w w' : World} (h : NewW s base rs u w) (hne : rs ≠ []) (hk : KeepR s base n w w') (hn : rs.length ≤ n) : NewW s base rs u w' := ((h.toS hne).keep hk hn).toW'
section
variable {P : Program} {ops : Array Oper} {o : Oper} {N : Nat} {f : Fl} {w : World}
end
abbrev RelL := Nat → World → World → Prop
def MonoL (m : Nat) (rel : RelL) (sd : List (Option Tmp × VS)) (dl : List (List Nat)) : Prop := ∀ i, i < m → ∀ j, j ≠ i → i ∉ (dl[j]?).getD [] → ∀ u W W', rel i W W' → okAt sd j u W → okAt sd j u W'
def DStepsL (P : Program) (ops : Array Oper) (N : Nat) (G : (Nat → Bool) → World → Prop) (rel : RelL) (sd : List (Option Tmp × VS)) (dl : List (List Nat)) (f : Fl) : Nat → List Oper → Prop
 | _, [] => True
 | k, o :: l => (∀ L W, L k = false → (∀ j, k ∈ (dl[j]?).getD [] → L j = false) → G L W → DStep P ops o N W sd (fun v W' => rel k W W' ∧ G (upd L k true) W' ∧ okAt sd k v W') ((dl[k]?).getD []) f) ∧ DStepsL P ops N G rel sd dl f (k + 1) l
section
variable {P : Program} {N : Nat} {sd : List (Option Tmp × VS)} {dl : List (List Nat)}
theorem WC.drawL {id : Nat} {f : Fl} {w : World} {Q : Exit → Act → World → Prop} (G : (Nat → Bool) → World → Prop) (m : Nat) (rel : RelL) {ops : List Oper} (sd : List (Option Tmp × VS)) (dl : List (List Nat)) (hm : P.follows .mixedOrders = true) (hb : ordB .any ops.toArray = true) (hbp : ordB .any (ops.take m).toArray = true) (ht : tailB .any ops.toArray (ops.take m).length = true) (hdl : (ops.take m).map (depsOf .any) = dl)
    (hds : (ops.take m).map (·.dst) = sd.map (·.1)) (hN : inN N sd = true) (hG0 : G (fun _ => false) w.drew) (hmono : MonoL (ops.take m).length rel sd dl) (hst : DStepsL P (ops.take m).toArray N G rel sd dl f 0 (ops.take m))
    (hend : ∀ W, G (fun j => decide (j < (ops.take m).length)) W → DEnd (fun f W => WL P ops.toArray Q N (ops.drop m) f W) W sd f) : WC P N (.region id ops.toArray true) Q f w := fun a ha => by
  obtain ⟨pre, hpre⟩ : ∃ pre, pre = ops.take m := ⟨_, rfl⟩
  obtain ⟨suf, hsuf⟩ : ∃ suf, suf = ops.drop m := ⟨_, rfl⟩
  have hops : pre ++ suf = ops := by rw [hpre, hsuf]; exact List.take_append_drop m ops
  rw [← hpre] at hbp ht hdl hds hst hmono hend
  rw [← hsuf] at hend
  clear hpre hsuf
  subst hops
  have hlen : dl.length = sd.length := by rw [← hdl, List.length_map, ← List.length_map (f := (·.dst)), hds, List.length_map]
  have hpl : pre.length = dl.length := by rw [← hdl, List.length_map]
  refine wp_region_any hm ?_
  have hrep : Array.replicate (pre ++ suf).toArray.size false = Array.replicate pre.toArray.size false ++ Array.replicate suf.length false := by
    simp [Array.replicate_append_replicate]
  rw [hrep]
  have hsz : (pre ++ suf).toArray.size = pre.toArray.size + suf.length := by simp
  rw [hsz]
  refine pre_tail (pre := pre.toArray) (suf := suf) hb hbp (by simp) (by simpa using ht) pre.toArray.size _ (by simp) (fun j hj => by simp [Array.getD_eq_getD_getElem?, Array.getElem?_replicate] at hj; split at hj <;> simp_all) a w.drew ?_
  have hda : ∀ j, depsAt .any pre.toArray j = (dl[j]?).getD [] := by
    intro j
    subst hdl
    simp only [depsAt, List.getElem?_map, List.getElem?_toArray]
  have hF0 : ∀ j, (Array.replicate pre.toArray.size false).getD j false = true → False := fun j hj => by simp [Array.getD_eq_getD_getElem?, Array.getElem?_replicate] at hj; split at hj <;> simp_all
  refine wpAny_factsD hbp a G (fun j g W => okAt sd j (g j) W) (fun i _ W W' => i < pre.length ∧ rel i W W') ?_ ?_ ?_ pre.toArray.size _ (fun _ => undef) a w.drew (by simp) (by
      have := List.countP_le_length (p := fun b => !b) (l := (Array.replicate pre.toArray.size false).toList)
      simpa using this) (fun j hj => (hF0 j hj).elim) (Agrees.start fun j hj => hF0 j hj) (by
      have e : (fun j => (Array.replicate pre.toArray.size false).getD j false) = fun _ => false := by
        funext j
        cases hj : (Array.replicate pre.toArray.size false).getD j false with
        | false => rfl
        | true => exact (hF0 j hj).elim
      rw [e]
      exact hG0) (fun j hj => (hF0 j hj).elim)
  · intro i g W W' j g' hB hne hnd h
    exact hmono i hB.1 j hne (by rw [← hda j]; exact hnd) _ W W' hB.2 h
  · intro i o hoi L g W hLi hdn hG hd
    have key : ∀ (l : List Oper) (k : Nat), DStepsL P pre.toArray N G rel sd dl f k l → ∀ j o, l[j]? = some o → ∀ L W, L (k + j) = false → (∀ q, (k + j) ∈ (dl[q]?).getD [] → L q = false) → G L W → DStep P pre.toArray o N W sd (fun v W' => rel (k + j) W W' ∧ G (upd L (k + j) true) W' ∧ okAt sd (k + j) v W') ((dl[k + j]?).getD []) f := by
      intro l
      induction l with
      | nil => intro k _ j o h; simp at h
      | cons x l ih =>
        intro k hs j o h
        cases j with
        | zero =>
          simp only [List.getElem?_cons_zero, Option.some.injEq] at h
          subst h
          exact hs.1
        | succ j =>
          have := ih (k + 1) hs.2 j o (by simpa using h)
          rw [show k + (j + 1) = k + 1 + j by omega]
          exact this
    have hk := key pre 0 hst i o (by simpa using hoi) L W (by rw [Nat.zero_add]; exact hLi) (by rw [Nat.zero_add]; intro q hq; exact hdn q (by rw [hda q]; exact hq)) hG
    rw [Nat.zero_add] at hk
    have hdo : depsOf .any o = (dl[i]?).getD [] := by rw [← hda i, depsAt_eq hoi]
    rw [hdo] at hd ⊢
    rw [putL_eq (ds := sd.map (·.1)) (by simpa using hds)]
    have hH : HypL (fun j g w => okAt sd j (g j) w) dl g W ((dl[i]?).getD []) := HypL.of _ fun j hj => by have := hd j hj; rwa [hda j] at this
    have hil : i < pre.length := by
      have := (Array.getElem?_eq_some_iff.1 hoi).1
      simpa using this
    refine (DStep.to hN _ f a hk ha hH).mono fun v W' h => ⟨⟨hil, h.1⟩, h.2.1, ?_⟩
    simp only [restr_self]
    rw [show upd g i v i = v by simp [upd]]
    exact h.2.2
  · intro L g W hL hG hd
    rw [putL_eq (ds := sd.map (·.1)) (by simpa using hds)]
    have hH : HypL (fun j g w => okAt sd j (g j) w) dl g W (List.range' 0 sd.length) := HypL.of _ fun j hj => by
      have hj' : j < pre.toArray.size := by
        simp [List.mem_range'] at hj
        simp
        omega
      have := hd j hj'
      rwa [hda j] at this
    have hLe : L = fun j => decide (j < pre.length) := by
      funext j
      rw [hL j]
      simp
    rw [hLe] at hG
    have hfin := DEnd.to (Q := fun a W => wpList P (pre ++ suf).toArray Q suf a W) hN (fun f h a ha => h a ha) sd 0 f a (by simp) (hend W hG) ha hH
    show wpOps P (pre ++ suf).toArray Q (List.range' pre.toArray.size suf.length) _ _
    rw [wpOps_eq_wpList suf pre.toArray.size (fun j => by simp [List.getElem?_append_right])]
    rw [List.range_eq_range', show pre.toArray.size = sd.length by simp; omega]
    exact hfin
end
theorem heap_alloc_size (w : World) (o : Obj) : (w.alloc o).heap.size = w.heap.size + 1 := by
 show (w.heap.push o).size = _
 rw [Array.size_push]
section
variable {P : Program} {ops : Array Oper} {o : Oper} {N : Nat} {f : Fl} {w : World}
theorem dx_apRoom {t s bytes cap B : Nat} {x y : Operand} {v2 : Value} {rs news : List (List Value)} {L : List Nat} (ho : o.op = .call { callee := .builtin .append, args := #[x, y], argTypes := #[t, t] }) (ht : apB P t s bytes = true) (hx : ev f x = some (.slice (some ⟨B, 0, none⟩) rs.length cap)) (hy : ev f y = some v2)
    (h : OwS s w (.slice (some ⟨B, 0, none⟩) rs.length cap) rs B) (h2 : RdF s L w v2 news) (hn : news ≠ []) (h1 : ∀ r ∈ news, ∀ u ∈ r, u.oneCell' = true) (hroom : rs.length + news.length ≤ cap) (hw : wantF ops o f = some true := by rfl) :
    DR P ops o N f w fun u W => u = .slice (some ⟨B, 0, none⟩) (rs.length + news.length) cap ∧ OwS s W u (rs ++ news) B ∧ Only B w W := fun a ha => by
  obtain ⟨e, i, Z, hu, hi, hz, rfl, rfl, hzs⟩ := of_apB ht
  have hx := ha.ev hx
  have hy := ha.ev hy
  obtain ⟨h0, hl, cap', sp, he, hc1, hc2, hc3, hb⟩ := h
  obtain ⟨_, hl2, a2, cap2, rfl, hd1, hd2, hd3, hd4⟩ := h2
  simp only [Value.slice.injEq, true_and] at he
  obtain rfl := he
  have hlr : ∀ r ∈ rs ++ news, r.length = i.size := fun r hr => by
    rcases List.mem_append.1 hr with h | h
    · exact hl r h
    · exact hl2 r h
  obtain ⟨X, o0, rfl, hX, hc⟩ := hd4 hn
  obtain ⟨tt, hb'⟩ := hb
  have hnews : ∀ j u, news.flatten[j]? = some u → w.cell? ((⟨X, o0, none⟩ : Addr).add j) = some u := fun j u hj => by rw [addr_at]; exact hc j u hj
  have hflat : news.flatten.length = news.length * i.size := flat_len hl2
  have h1' : ∀ u ∈ news.flatten, u.oneCell' = true := fun u hu => by
    obtain ⟨r, hr, hur⟩ := List.mem_flatten.1 hu
    exact h1 r hr u hur
  have hfl : rs.flatten.length = rs.length * i.size := flat_len hl
  have hle : news.length * i.size ≤ sp.length := by
    rw [hc3]
    exact Nat.mul_le_mul_right _ (by omega)
  have hr := run_ap_room (P := P) (w := w) (t := t) (ty := o.type) hu hi B rs.length cap _ hb' ⟨X, o0, none⟩ news.length cap2 news.flatten hflat hnews h1' hroom (by rw [List.size_toArray, List.length_append, hflat, hfl]; omega)
  exact Does.of_wp (wantF_of ha hw) fun K hK => by
    unfold Oper.wp execOp
    simp only [ho, resolve, invoke, builtin, Sem.run_bind, Sem.run_pure, Result.andThen_ok, List.map_toArray, List.map_cons, List.map_nil, hx, hy, hr]
    refine hK _ _ ⟨rfl, ⟨h0, hlr, cap, sp.drop news.flatten.length, by rw [List.length_append], by rw [List.length_append]; exact hroom, hc2, ?_, ⟨tt, ?_⟩⟩, only_setRow w B _⟩
    · rw [List.length_drop, List.length_append, hc3, hflat, ← Nat.sub_mul]
      congr 1
      omega
    · rw [setRow_heap w B _ _ tt _ hb']
      congr 3
      simp only [List.flatten_append, List.append_assoc]
      rw [← hfl, List.take_left, List.drop_append, List.drop_eq_nil_of_le (by omega), List.nil_append, Nat.add_sub_cancel_left]
theorem dx_litX {t len s : Nat} {parts : Array (Nat × Operand)} {e : TypeId} {i : TypeInfo} {Z : Value} {ps : List (Nat × Value)} {rs : List (List Value)} (ho : o.op = .buildSlice t len parts) (hu : P.underlying t = some (.slice e)) (hi : P.info? e = some i) (hz : i.zero = some Z) (hs : i.size = s) (h0 : 0 < s)
  (hp : (evl f (parts.toList.map (·.2))).map (fun vs => (parts.toList.map (·.1)).zip vs) = some ps) (hlen : len * s ≤ 16777216)
  (hf : Instr.fill (fun k => some (k * s, s)) (if len * s = 0 then #[] else (Array.range (len * s)).map (Z.cells[· % Z.cells.size]!)) ps = some rs.flatten.toArray) (hrs : ∀ r ∈ rs, r.length = s) (hl : rs.length = len) (hm : len ≤ maxLen) (hw : wantF ops o f = some true := by rfl) : DR P ops o N f w (fun u W => NewO s w rs u W ∧ W.heap.size = w.heap.size + 1) := fun a ha => by
 have key : (parts.map fun (i, x) => (i, a.eval x)).toList = ps := by
  cases hq : evl f (parts.toList.map (·.2)) with
  | none => rw [hq] at hp; cases hp
  | some vs =>
   rw [hq] at hp
   have h1 := ha.evl hq
   simp only [Option.map_some, Option.some.injEq] at hp
   rw [← hp, ← h1, Array.toList_map]
   clear hp h1 hq ho
   induction parts.toList with
   | nil => rfl
   | cons p l ih => simp only [List.map_cons, List.zip_cons_cons, List.cons.injEq, true_and]; exact ih
 subst hs
 have hrun := run_buildSlice (w := w) hu hi hz len (parts.map fun (i, x) => (i, a.eval x)) hlen (cs := rs.flatten.toArray) (by rw [key]; exact hf)
 exact Does.of_wp (wantF_of ha hw) fun K hK => by
  unfold Oper.wp execOp
  simp only [ho, Sem.run_bind, hrun, Sem.run_pure, Result.andThen_ok]
  obtain ⟨n1, n2, n3⟩ := newB_row w e rs.flatten
  exact hK _ _ ⟨⟨⟨h0, hrs, len, [], by rw [hl], by omega, hm, by simp [hl], by simpa using n1⟩, n2, n3⟩, heap_alloc_size _ _⟩
theorem dx_lit1X {t s bytes : Nat} {x : Operand} {V : Value} {r : List Value} (ho : o.op = .buildSlice t 1 #[(0, x)]) (ht : apB P t s bytes = true) (h0 : 0 < s) (hs : s ≤ 16777216) (hx : ev f x = some V) (hV : V.cells.toList = r) (hl : r.length = s) (hw : wantF ops o f = some true := by rfl) : DR P ops o N f w (fun u W => NewO s w [r] u W ∧ W.heap.size = w.heap.size + 1) := by
 obtain ⟨e, i, Z, hu, hi, hZ, rfl, rfl, hzs⟩ := of_apB ht
 have hVs : V.cells.size = i.size := by rw [← Array.length_toList, hV, hl]
 refine dx_litX (ps := [(0, V)]) (rs := [r]) ho hu hi hZ rfl h0 (by simp [evl, hx]) (by omega) ?_ (by simpa using hl) rfl (by unfold maxLen; omega) hw
 rw [if_neg (by omega), fill_one i.size _ (by simp) V hVs]
 simp [← hV]
end
theorem OwS.uniq {s B : Nat} {w : World} {u u' : Value} {rs rs' : List (List Value)} (h : OwS s w u rs B) (h' : OwS s w u' rs' B) (hl : rs.length = rs'.length) : u = u' := by
 obtain ⟨h0, hr, cap, sp, rfl, a2, a3, a4, ⟨t, a5⟩⟩ := h
 obtain ⟨_, hr', cap', sp', rfl, b2, b3, b4, ⟨t', b5⟩⟩ := h'
 rw [a5] at b5
 have e := congrArg (fun o : Option Obj => match o with | some (.cells cs _ _) => cs.size | _ => 0) b5
 simp only [List.size_toArray, List.length_append, flat_len hr, flat_len hr', a4, b4, hl] at e
 have hc : cap * s = cap' * s := by
  have e1 : rs'.length * s + (cap - rs'.length) * s = cap * s := by rw [← Nat.add_mul]; congr 1; omega
  have e2 : rs'.length * s + (cap' - rs'.length) * s = cap' * s := by rw [← Nat.add_mul]; congr 1; omega
  omega
 rw [hl, Nat.eq_of_mul_eq_mul_right h0 hc]
abbrev vC (iv : Value) : List Value := [.int .i64 5, .int .i64 0, .string ⟨#[]⟩, .slice none 0 0, iv]
abbrev zR : List Value := [.int .i64 0, .int .i64 0, .string ⟨#[]⟩, .slice none 0 0, .slice none 0 0]
def H2 (A : Bool) (W0 : World) (V D : Nat) (iv : Value) (rows : List (List Value)) (tr : List Value) (l4 l5 l7 l9 : Bool) (W : World) : Prop :=
 ChgV W0.heap.size V D W0 W ∧ (l9 = false → Blk W V (vC iv)) ∧ (l5 = false → if A = true then W.heap.size = W0.heap.size + (if l4 = true then 1 else 0) else OwS 5 W iv rows D) ∧
 (l7 = true → ∃ u, OwS 5 W u (rows ++ [tr]) D) ∧ (l9 = true → ∃ u r, Blk W V (vC u) ∧ OwS 5 W u (rows ++ [r]) D)
def rel2 (A : Bool) (V D : Nat) (rows : List (List Value)) (tr : List Value) : RelL := fun k W W' =>
 if k = 5 then (if A = true then Below W.heap.size W W' else Only D W W') else if k = 7 then Only D W W' ∧ ∀ u r, OwS 5 W u (rows ++ [r]) D → OwS 5 W' u (rows ++ [tr]) D else if k = 9 then Only V W W' else Below W.heap.size W W'
def p4 (W0 : World) (V D : Nat) (u : Value) (W : World) : Prop := ∃ B, B ≠ D ∧ B ≠ V ∧ W0.heap.size ≤ B ∧ OwS 5 W u [zR] B
def p5 (D : Nat) (rows : List (List Value)) (u : Value) (W : World) : Prop := ∃ r, OwS 5 W u (rows ++ [r]) D
abbrev sd2 (W0 : World) (V D n : Nat) (iv : Value) (rows : List (List Value)) (tr : List Value) : List (Option Tmp × VS) :=
  [(some 10, .is (.pointer (some ⟨V, 4, none⟩))), (some 11, .is iv), (some 12, .is (.agg tr.toArray)), (some 13, .is (.int .i64 (n : Int))), (some 14, .by (p4 W0 V D)), (some 15, .by (p5 D rows)),
   (some 16, .is (.pointer (some ⟨D, n * 5, none⟩))), (none, .by fun _ _ => True), (some 17, .is (.pointer (some ⟨V, 4, none⟩))), (none, .by fun _ _ => True)]
theorem p4_rel {A : Bool} {W0 W W' : World} {V D i : Nat} {rows : List (List Value)} {tr : List Value} {u : Value} (hr : rel2 A V D rows tr i W W') (h : p4 W0 V D u W) : p4 W0 V D u W' := by
  obtain ⟨B, h1, h2, h3, h4⟩ := h
  refine ⟨B, h1, h2, h3, ?_⟩
  unfold rel2 at hr
  split at hr
  · split at hr
    · exact h4.below hr
    · exact h4.other hr h1
  · split at hr
    · exact h4.other hr.1 h1
    · split at hr
      · exact h4.other hr h2
      · exact h4.below hr
theorem p5_rel {A : Bool} {W W' : World} {V D i : Nat} {rows : List (List Value)} {tr : List Value} {u : Value} (hi : i ≠ 5) (hVD : D ≠ V) (hr : rel2 A V D rows tr i W W') (h : p5 D rows u W) : p5 D rows u W' := by
  obtain ⟨r, h4⟩ := h
  unfold rel2 at hr
  rw [if_neg hi] at hr
  split at hr
  · exact ⟨tr, hr.2 u r h4⟩
  · split at hr
    · exact ⟨r, h4.other hr hVD⟩
    · exact ⟨r, h4.below hr⟩
theorem mono2 {A : Bool} {W0 : World} {V D n m : Nat} {iv : Value} {rows : List (List Value)} {tr : List Value} {dl : List (List Nat)} (hVD : D ≠ V) : MonoL m (rel2 A V D rows tr) (sd2 W0 V D n iv rows tr) dl := by
 intro i hi j hne hnd u W W' hr h
 match j, hne, h with
 | 0, _, h => exact h
 | 1, _, h => exact h
 | 2, _, h => exact h
 | 3, _, h => exact h
 | 4, _, h => exact p4_rel hr h
 | 5, hne, h => exact p5_rel (fun e => hne e.symm) hVD hr h
 | 6, _, h => exact h
 | 7, _, _ => exact trivial
 | 8, _, h => exact h
 | 9, _, _ => exact trivial
 | _ + 10, _, _ => exact trivial
theorem end2 {A : Bool} {W0 W : World} {V D : Nat} {iv : Value} {rows : List (List Value)} {tr : List Value} (h : H2 A W0 V D iv rows tr true true true true W) : ChgV W0.heap.size V D W0 W ∧ ∃ u, Blk W V (vC u) ∧ OwS 5 W u (rows ++ [tr]) D := by
 obtain ⟨h1, _, _, h4, h5⟩ := h
 obtain ⟨u, hu⟩ := h4 rfl
 obtain ⟨u', r, hv, hu'⟩ := h5 rfl
 obtain rfl := hu.uniq hu' (by simp)
 exact ⟨h1, u, hv, hu⟩
theorem begin2 {A : Bool} {W0 : World} {V D : Nat} {iv : Value} {rows : List (List Value)} {tr : List Value} (hv : Blk W0 V (vC iv)) (hA : A = false → OwS 5 W0 iv rows D) : H2 A W0 V D iv rows tr false false false false W0.drew := by
 have hb : Below W0.heap.size W0 W0.drew := below_draws (Below.refl _ _) 1
 refine ⟨.of_below hb, fun _ => hv.below hb, fun _ => ?_, fun h => (by cases h), fun h => (by cases h)⟩
 cases A with
 | true => rw [if_pos rfl]; exact World.size_drew _
 | false => rw [if_neg (by decide)]; exact (hA rfl).below hb
theorem lit2 {A : Bool} {W0 W W' : World} {V D : Nat} {iv : Value} {rows : List (List Value)} {tr : List Value} {l7 l9 : Bool} (h : H2 A W0 V D iv rows tr false false l7 l9 W) (hb : Below W.heap.size W W') (hs : W'.heap.size = W.heap.size + 1) : H2 A W0 V D iv rows tr true false l7 l9 W' := by
  obtain ⟨h1, h2, h3, h4, h5⟩ := h
  have h0 := h3 rfl
  refine ⟨h1.both (.of_below (hb.mono h1.size)), fun e => (h2 e).below hb, fun _ => ?_, fun e => ?_, fun e => ?_⟩
  · cases A with
    | true => rw [if_pos rfl] at h0 ⊢; rw [hs, h0]; rfl
    | false => rw [if_neg (by decide)] at h0 ⊢; exact h0.below hb
  · obtain ⟨u, hu⟩ := h4 e; exact ⟨u, hu.below hb⟩
  · obtain ⟨u, r, hv, hu⟩ := h5 e; exact ⟨u, r, hv.below hb, hu.below hb⟩
theorem app2 {A : Bool} {W0 W W' : World} {V D : Nat} {iv : Value} {rows : List (List Value)} {tr : List Value} {l4 : Bool} (hVD : D ≠ V) (h : H2 A W0 V D iv rows tr l4 false false false W) (hr : if A = true then Below W.heap.size W W' else Only D W W') : H2 A W0 V D iv rows tr l4 true false false W' := by
 obtain ⟨h1, h2, h3, h4, h5⟩ := h
 cases A with
 | true => rw [if_pos rfl] at hr; exact ⟨h1.both (.of_below (hr.mono h1.size)), fun e => (h2 e).below hr, fun h => (by cases h), fun h => (by cases h), fun h => (by cases h)⟩
 | false => rw [if_neg (by decide)] at hr; exact ⟨h1.both (.of_only hr (.inr (.inl rfl))), fun e => (h2 e).other hr hVD.symm, fun h => (by cases h), fun h => (by cases h), fun h => (by cases h)⟩
theorem ChgV.inner {b P V D : Nat} {w W W' : World} (h : ChgV b P V w W) (k : ChgV W.heap.size V D W W') (hb : b ≤ W.heap.size) (hD : b ≤ D) : ChgV b P V w W' := ⟨k.os.trans h.os, k.tape.trans h.tape, k.output.trans h.output, Nat.le_trans h.size k.size, fun i hi h1 h2 => (k.block i (by omega) h2 (by omega)).trans (h.block i hi h1 h2)⟩
theorem OwS.chgV {s b B C D : Nat} {w w' : World} {v : Value} {rs : List (List Value)} (h : OwS s w v rs D) (k : ChgV b B C w w') (hb : D < b) (h1 : D ≠ B) (h2 : D ≠ C) : OwS s w' v rs D := by
 obtain ⟨h0, hl, cap, sp, a1, a2, a3, a4, a5⟩ := h
 exact ⟨h0, hl, cap, sp, a1, a2, a3, a4, a5.chgV k hb h1 h2⟩
theorem RdT.inner {n V D : Nat} {L : List Nat} {W W' : World} {t : Tr} (h : RdT n (D :: L) W t) (k : ChgV W.heap.size V D W W') (hV : V ∈ L) : RdT n (D :: L) W' t := h.agree ⟨k.size, fun i hi hlt => k.block i hlt (fun e => hi (e ▸ .tail _ hV)) (fun e => hi (e ▸ .head _))⟩
theorem rel_o {A : Bool} {V D k : Nat} {rows : List (List Value)} {tr : List Value} {W W' : World} (h5 : k ≠ 5) (h7 : k ≠ 7) (h9 : k ≠ 9) (h : Below W.heap.size W W') : rel2 A V D rows tr k W W' := by unfold rel2; rw [if_neg h5, if_neg h7, if_neg h9]; exact h
theorem OwS.caps {s B l l' c c' : Nat} {a a' : Option Addr} {w : World} {rs rs' : List (List Value)} (h : OwS s w (.slice a l c) rs B) (h' : OwS s w (.slice a' l' c') rs' B) : c = c' := by
 obtain ⟨h0, hr, cap, sp, e1, a2, a3, a4, ⟨t, a5⟩⟩ := h
 obtain ⟨_, hr', cap', sp', e2, b2, b3, b4, ⟨t', b5⟩⟩ := h'
 simp only [Value.slice.injEq] at e1 e2
 obtain ⟨rfl, rfl, rfl⟩ := e1
 obtain ⟨rfl, rfl, rfl⟩ := e2
 rw [a5] at b5
 have e := congrArg (fun o : Option Obj => match o with | some (.cells cs _ _) => cs.size | _ => 0) b5
 simp only [List.size_toArray, List.length_append, flat_len hr, flat_len hr', a4, b4] at e
 rw [← Nat.add_mul, ← Nat.add_mul] at e
 have := Nat.eq_of_mul_eq_mul_right h0 e
 omega
theorem OwS.init {s B c : Nat} {w W : World} {u : Value} {rs : List (List Value)} {r r' : List Value} (h : OwS s w (.slice (some ⟨B, 0, none⟩) rs.length c) rs B) (k : OwS s w u (rs ++ [r']) B) (h' : OwS s W u (rs ++ [r]) B) : OwS s W (.slice (some ⟨B, 0, none⟩) rs.length c) rs B := by
 obtain ⟨h0, hr, cap, sp, rfl, a2, a3, a4, a5⟩ := h'
 have e := h.caps k
 subst e
 have hl : r.length = s := hr r (by simp)
 rw [List.length_append, List.length_singleton] at a2 a4
 refine ⟨h0, fun x hx => hr x (List.mem_append_left _ hx), c, r ++ sp, rfl, by omega, a3, ?_, ?_⟩
 · rw [List.length_append, hl, a4, show c - rs.length = (c - (rs.length + 1)) + 1 by omega, Nat.succ_mul]; omega
 · rw [List.flatten_append] at a5; simpa using a5
theorem row3 {A : Bool} {W0 W W' : World} {V D c : Nat} {iv : Value} {rows : List (List Value)} {tr : List Value} {l4 l5 l9 : Bool} (hVD : D ≠ V) (hiv : A = false → iv = .slice (some ⟨D, 0, none⟩) rows.length c) (h : H2 A W0 V D iv rows tr l4 l5 false l9 W) (hr : Only D W W') (hs : ∀ u r, OwS 5 W u (rows ++ [r]) D → OwS 5 W' u (rows ++ [tr]) D) (h5 : ∃ u r, OwS 5 W u (rows ++ [r]) D) : H2 A W0 V D iv rows tr l4 l5 true l9 W' := by
 obtain ⟨h1, h2, h3, h4, h9⟩ := h
 obtain ⟨u, r, hu⟩ := h5
 refine ⟨h1.both (.of_only hr (.inr (.inl rfl))), fun e => (h2 e).other hr hVD.symm, fun e => ?_, fun _ => ⟨u, hs u r hu⟩, fun e => by obtain ⟨u, r, hv, hu⟩ := h9 e; exact ⟨u, tr, hv.other hr hVD.symm, hs u r hu⟩⟩
 have h0 := h3 e
 cases A with
 | true => rw [if_pos rfl] at h0 ⊢; rw [hr.size]; exact h0
 | false =>
  rw [if_neg (by decide)] at h0 ⊢
  obtain rfl := hiv rfl
  exact h0.init hu (hs u r hu)
theorem put3 {A : Bool} {W0 W W' : World} {V D : Nat} {iv u : Value} {rows : List (List Value)} {r tr : List Value} {l4 l5 l7 : Bool} (hVD : D ≠ V) (h : H2 A W0 V D iv rows tr l4 l5 l7 false W) (hr : Only V W W') (hv : Blk W' V (vC u)) (hu : OwS 5 W u (rows ++ [r]) D) : H2 A W0 V D iv rows tr l4 l5 l7 true W' := by
 obtain ⟨h1, h2, h3, h4, h9⟩ := h
 refine ⟨h1.both (.of_only hr (.inl rfl)), fun h => (by cases h), fun e => ?_, fun e => (by obtain ⟨u, hu⟩ := h4 e; exact ⟨u, hu.other hr hVD⟩), fun _ => ⟨u, r, hv, hu.other hr hVD⟩⟩
 have h0 := h3 e
 cases A with
 | true => rw [if_pos rfl] at h0 ⊢; rw [hr.size]; exact h0
 | false => rw [if_neg (by decide)] at h0 ⊢; exact h0.other hr hVD
theorem set_last {rows : List (List Value)} {r t : List Value} : (rows ++ [r]).set rows.length t = rows ++ [t] := by simp
theorem oc_lit (r : List Value) (h : ∀ u ∈ r, u.oneCell' = true) : ∀ x ∈ [r], ∀ u ∈ x, u.oneCell' = true := fun x hx => by rw [List.mem_singleton.1 hx]; exact h
theorem one_v (n : Nat) (vs : Nat → Except Int (Js × Nat)) (s : ByteArray) (dp : Nat) (hs : s.size ≤ 1000000) (hv : ValAt (n + 1) vs s dp) : OneAt (n + 1) vs s dp := by
  intro b Bp V P L ka js w hL hPL hVL hBL hBP hVP hBV hLb hbw hk hp hI hjs
  obtain ⟨iv, ts, rfl, hBp, hV, hI0, hI⟩ := hI
  rw [List.length_map] at hjs
  have hsm : ts.length ≤ 1000000 := by omega
  rcases hI with ⟨rfl, h0⟩ | ⟨B0, hbB, hO, hts⟩
  ·
    refine cx_enter (N := 19) (f := [(0, .pointer (some ⟨Bp, 0, none⟩)), (1, .pointer (some ⟨V, 0, none⟩))]) Try.func89 rfl rfl rfl rfl fun Q hQ hE_ => ?_
    have hB := ChgV.refl b P V w
    refine Sq fun K1 hK1 => (Rg (Pu rfl (Ni (hK1 (Sq fun K2 hK2 => (Rg (Va (dx_load rfl ty_one_51 rfl (hBp.cell (k := 0) rfl)) rfl rfl ?_)))))))
    refine Ge (dx_cw rfl Try.func34 rfl rfl rfl (hv P ka w _ hL hPL (by omega) hp)) rfl rfl ?_
    rintro _ W30 ⟨(⟨k16, t18, rfl, hw20, hw21, hw22, hw23, hp31⟩ | ⟨k17, e19, rfl, hw24, hw25, hw26, hp31⟩), g29⟩
    ·
      replace hBp := hBp.chg g29 hBP
      replace hV := hV.chg g29 hVP
      replace hB := hB.chg g29 (Nat.le_trans hbw hB.size)
      refine Pu rfl (Pu rfl (Pu rfl ?_))
      refine Ge (dx_alloc rfl ty_zero_26 rfl) rfl rfl ?_
      rintro _ W32 ⟨rfl, k33, b34, z35⟩
      have n36 : P ≠ W30.heap.size := Nat.ne_of_lt hp31.lt
      have n37 : Bp ≠ W30.heap.size := Nat.ne_of_lt hBp.lt
      have n38 : V ≠ W30.heap.size := Nat.ne_of_lt hV.lt
      have l39 := hB.size
      replace hw21 := hw21.more b34 (Nat.le_refl _)
      replace hp31 := hp31.below b34
      replace hBp := hBp.below b34
      replace hV := hV.below b34
      replace hB := hB.both (.of_below (b34.mono (Nat.le_trans hbw hB.size)))
      refine WL.do (dx_store (cs' := [.int .i64 t18.kind, .int .i64 t18.num, .string t18.text, t18.nv, t18.iv]) (vs := [.int .i64 t18.kind, .int .i64 t18.num, .string t18.text, t18.nv, t18.iv]) rfl ty_size_26_5 rfl rfl rfl (oc_cons rfl (oc_cons rfl (oc_cons rfl (oc_cons (hw21.1).one (oc_cons (hw21.2.1).one oc_nil))))) k33 rfl (Nat.le_of_ble_eq_true rfl) rfl) rfl ?_
      rintro _ W40 ⟨k42, o41⟩
      replace hp31 := hp31.other o41 n36
      replace hBp := hBp.other o41 n37
      replace hV := hV.other o41 n38
      clear k33
      replace hw21 := hw21.only o41 (.head _)
      replace hB := hB.both (.of_only o41 (.inr (.inr (Nat.le_trans hbw l39))))
      refine Pu rfl (Ni (hK2 (Sq fun K43 hK43 => ?_)))
      have hsW := hB.size
      obtain ⟨D, hD⟩ : ∃ D, D = W40.heap.size + 1 := ⟨_, rfl⟩
      have hDV : D ≠ V := by have := hV.lt; omega
      have hbD : b ≤ D := by omega
      refine WC.drawL (fun L_ W_ => H2 true W40 V D (.slice none 0 0) (ts.map encT) [.int .i64 t18.kind, .int .i64 t18.num, .string t18.text, t18.nv, t18.iv] (L_ 4) (L_ 5) (L_ 7) (L_ 9) W_) 10 (rel2 true V D (ts.map encT) [.int .i64 t18.kind, .int .i64 t18.num, .string t18.text, t18.nv, t18.iv]) (sd2 W40 V D 0 (.slice none 0 0) (ts.map encT) [.int .i64 t18.kind, .int .i64 t18.num, .string t18.text, t18.nv, t18.iv]) [[], [0], [], [1], [], [1, 4, 0, 1, 2, 3, 4], [5, 3, 0, 1, 2, 3, 4, 5], [6, 2, 5, 0, 1, 2, 3, 4, 5], [0, 1, 2, 3, 4, 5], [8, 5, 5, 0, 1, 2, 3, 4, 5]] (by kernel_rfl) (by kernel_rfl) (by kernel_rfl) (by kernel_rfl) (by kernel_rfl) (by kernel_rfl) (by kernel_rfl) (begin2 hV (fun h => by cases h)) (mono2 hDV) ?_ ?_
      ·
        refine ⟨fun L_ Wd hl hn hG => ?_, ?_⟩
        ·
          replace hG : H2 true W40 V D (.slice none 0 0) (ts.map encT) [.int .i64 t18.kind, .int .i64 t18.num, .string t18.text, t18.nv, t18.iv] (L_ 4) (L_ 5) (L_ 7) (L_ 9) Wd := hG
          exact DV.dr (dx_fld (o1 := 4) rfl ty_fld_26_4_4 rfl rfl) ⟨rel_o (by decide) (by decide) (by decide) (Below.refl _ _), hG, rfl⟩
        refine ⟨fun L_ Wd hl hn hG => ?_, ?_⟩
        ·
          replace hG : H2 true W40 V D (.slice none 0 0) (ts.map encT) [.int .i64 t18.kind, .int .i64 t18.num, .string t18.text, t18.nv, t18.iv] (L_ 4) (L_ 5) (L_ 7) (L_ 9) Wd := hG
          exact DV.dr (dx_load rfl ty_one_24 rfl ((hG.2.1 (hn 9 (by decide))).cell (k := 4) rfl)) ⟨rel_o (by decide) (by decide) (by decide) (Below.refl _ _), hG, rfl⟩
        refine ⟨fun L_ Wd hl hn hG => ?_, ?_⟩
        ·
          replace hG : H2 true W40 V D (.slice none 0 0) (ts.map encT) [.int .i64 t18.kind, .int .i64 t18.num, .string t18.text, t18.nv, t18.iv] (L_ 4) (L_ 5) (L_ 7) (L_ 9) Wd := hG
          exact DV.dr (dx_loadN (cs := [.int .i64 t18.kind, .int .i64 t18.num, .string t18.text, t18.nv, t18.iv]) rfl ty_agg_26_5 rfl (k42.chgV hG.1 k42.lt n38.symm (by have := k42.lt; omega)).range rfl) ⟨rel_o (by decide) (by decide) (by decide) (Below.refl _ _), hG, rfl⟩
        refine ⟨fun L_ Wd hl hn hG => ?_, ?_⟩
        ·
          replace hG : H2 true W40 V D (.slice none 0 0) (ts.map encT) [.int .i64 t18.kind, .int .i64 t18.num, .string t18.text, t18.nv, t18.iv] (L_ 4) (L_ 5) (L_ 7) (L_ 9) Wd := hG
          exact DV.dr (dx_len rfl Try.underlying24 rfl) ⟨rel_o (by decide) (by decide) (by decide) (Below.refl _ _), hG, rfl⟩
        refine ⟨fun L_ Wd hl hn hG => ?_, ?_⟩
        ·
          replace hG : H2 true W40 V D (.slice none 0 0) (ts.map encT) [.int .i64 t18.kind, .int .i64 t18.num, .string t18.text, t18.nv, t18.iv] (L_ 4) (L_ 5) (L_ 7) (L_ 9) Wd := hG
          have h5_ := hn 5 (by decide)
          rw [hl, h5_] at hG
          refine (dx_lit1X (r := zR) rfl ty_ap_24 (by decide) (by decide) rfl rfl rfl).mono ?_
          rintro u W_ ⟨⟨k1_, k2_, k3_⟩, k4_⟩
          have hs0_ := hG.1.size
          refine ⟨rel_o (by decide) (by decide) (by decide) k2_, ?_, ⟨Wd.heap.size, ?_, ?_, hs0_, k1_⟩⟩
          · show H2 _ _ _ _ _ _ _ true (L_ 5) (L_ 7) (L_ 9) _
            rw [h5_]
            exact lit2 hG k2_ k4_
          · have := hG.2.2.1 rfl; rw [if_pos rfl, if_neg (by decide)] at this; omega
          · have := hV.lt; omega
        refine ⟨fun L_ Wd hl hn hG => ?_, ?_⟩
        ·
          intro u4 q4 u4 q4
          replace hG : H2 true W40 V D (.slice none 0 0) (ts.map encT) [.int .i64 t18.kind, .int .i64 t18.num, .string t18.text, t18.nv, t18.iv] (L_ 4) (L_ 5) (L_ 7) (L_ 9) Wd := hG
          have h7_ := hn 7 (by decide)
          have h9_ := hn 9 (by decide)
          rw [hl, h7_, h9_] at hG
          obtain ⟨B4, e1_, e2_, e3_, e4_⟩ := q4
          have e5_ := e4_.lt
          have hz_ := hG.2.2.1 rfl
          rw [if_pos rfl] at hz_
          have hz2_ : Wd.heap.size = D := by rw [hz_] at e5_ ⊢; split at e5_ <;> split <;> omega
          refine (dx_apF (rs := []) (L := []) rfl ty_ap_24 rfl rfl (RdF.nil (L := []) (by decide)) (e4_.rd (L := []) (by simp)) (by simp) (by simp [maxLen] <;> omega) (by simp <;> omega)).mono ?_
          rintro u W_ ⟨k1_, k2_, k3_⟩
          rw [hz2_] at k1_
          replace k1_ : OwS 5 W_ u ((ts.map encT) ++ [zR]) D := by rw [h0]; exact k1_
          refine ⟨(by unfold rel2; rw [if_pos rfl]; exact k2_), ?_, ⟨zR, k1_⟩⟩
          show H2 _ _ _ _ _ _ _ (L_ 4) true (L_ 7) (L_ 9) _
          rw [h7_, h9_]
          exact app2 hDV hG k2_
        refine ⟨fun L_ Wd hl hn hG => ?_, ?_⟩
        ·
          intro u5 q5 u4 q4 u5 q5
          replace hG : H2 true W40 V D (.slice none 0 0) (ts.map encT) [.int .i64 t18.kind, .int .i64 t18.num, .string t18.text, t18.nv, t18.iv] (L_ 4) (L_ 5) (L_ 7) (L_ 9) Wd := hG
          obtain ⟨r_, h5_⟩ := q5
          exact DV.dr (dx_idxO 0 rfl ty_slice_24 rfl rfl h5_ rfl (by simp [h0]) rfl) ⟨rel_o (by decide) (by decide) (by decide) (Below.refl _ _), hG, rfl⟩
        refine ⟨fun L_ Wd hl hn hG => ?_, ?_⟩
        ·
          intro u5 q5 u4 q4 u5 q5
          replace hG : H2 true W40 V D (.slice none 0 0) (ts.map encT) [.int .i64 t18.kind, .int .i64 t18.num, .string t18.text, t18.nv, t18.iv] (L_ 4) (L_ 5) (L_ 7) (L_ 9) Wd := hG
          have hq_ := q5
          obtain ⟨r_, h5_⟩ := q5
          refine (dx_storeO (k := 0) (r := [.int .i64 t18.kind, .int .i64 t18.num, .string t18.text, t18.nv, t18.iv]) rfl ty_size_26_5 rfl rfl rfl (oc_cons rfl (oc_cons rfl (oc_cons rfl (oc_cons (hw21.1).one (oc_cons (hw21.2.1).one oc_nil))))) h5_ rfl (by simp [h0]) rfl).mono ?_
          rintro _ W_ ⟨k1_, k2_⟩
          replace k1_ : OwS 5 W_ u5 ((ts.map encT) ++ [[.int .i64 t18.kind, .int .i64 t18.num, .string t18.text, t18.nv, t18.iv]]) D := by rw [h0] at k1_ ⊢; exact k1_
          have hs_ : ∀ u r, OwS 5 Wd u ((ts.map encT) ++ [r]) D → OwS 5 W_ u ((ts.map encT) ++ [[.int .i64 t18.kind, .int .i64 t18.num, .string t18.text, t18.nv, t18.iv]]) D := fun u r h => by have e_ := h5_.uniq h (by simp); rw [← e_]; exact k1_
          rw [hl] at hG
          refine ⟨(by unfold rel2; rw [if_neg (by decide), if_pos rfl]; exact ⟨k2_, hs_⟩), ?_, trivial⟩
          show H2 _ _ _ _ _ _ _ (L_ 4) (L_ 5) true (L_ 9) _
          exact row3 (c := 0) hDV (fun h => (by cases h)) hG k2_ hs_ ⟨_, r_, h5_⟩
        refine ⟨fun L_ Wd hl hn hG => ?_, ?_⟩
        ·
          intro u4 q4 u5 q5
          replace hG : H2 true W40 V D (.slice none 0 0) (ts.map encT) [.int .i64 t18.kind, .int .i64 t18.num, .string t18.text, t18.nv, t18.iv] (L_ 4) (L_ 5) (L_ 7) (L_ 9) Wd := hG
          exact DV.dr (dx_fld (o1 := 4) rfl ty_fld_26_4_4 rfl rfl) ⟨rel_o (by decide) (by decide) (by decide) (Below.refl _ _), hG, rfl⟩
        refine ⟨fun L_ Wd hl hn hG => ?_, ?_⟩
        ·
          intro u5 q5 u5 q5 u4 q4 u5 q5
          replace hG : H2 true W40 V D (.slice none 0 0) (ts.map encT) [.int .i64 t18.kind, .int .i64 t18.num, .string t18.text, t18.nv, t18.iv] (L_ 4) (L_ 5) (L_ 7) (L_ 9) Wd := hG
          obtain ⟨r_, h5_⟩ := q5
          rw [hl] at hG
          refine (dx_store (cs' := vC u5) (vs := [u5]) rfl ty_size_24_1 rfl rfl (oc_one h5_.one) (oc_cons h5_.one oc_nil) (hG.2.1 rfl) rfl (Nat.le_of_ble_eq_true rfl) rfl).mono ?_
          rintro _ W_ ⟨k1_, k2_⟩
          refine ⟨(by unfold rel2; rw [if_neg (by decide), if_neg (by decide), if_pos rfl]; exact k2_), ?_, trivial⟩
          show H2 _ _ _ _ _ _ _ (L_ 4) (L_ 5) (L_ 7) true _
          exact put3 hDV hG k2_ k1_ h5_
        exact trivial
      ·
        intro We hGe
        obtain ⟨hc, uN, hVe, hOe⟩ := end2 (show H2 true W40 V D (.slice none 0 0) (ts.map encT) [.int .i64 t18.kind, .int .i64 t18.num, .string t18.text, t18.nv, t18.iv] true true true true We from hGe)
        intro u4 q4 u5 q5 _ _ _ _
        have hts_ : ∀ c ∈ ts, RdT (n + 1) (D :: L) We c := fun c hc_ => (by rw [h0] at hc_; cases hc_)
        have ht_ : RdT (n + 1) (D :: L) We t18 := ((hw21.less (fun x hx => .tail _ hx)).more (Below.refl _ _) (show W40.heap.size ≤ D by omega)).inner hc hVL
        replace hp31 := hp31.chgV hc hp31.lt hVP.symm (by have := hp31.lt; omega)
        replace hBp := hBp.chgV hc hBp.lt hBV (by have := hBp.lt; omega)
        replace hB := hB.inner hc (Nat.le_trans hbw hB.size) hbD
        refine Ni (hK43 (Sq fun K44 hK44 => (Rg (Pu rfl (Pu rfl (Ni (hK44 ?_)))))))
        exact WC.ret fun a_ ha_ => hQ (cx_ret1 rfl (.tmp rfl) (.inl ⟨k16, ts.map Tr.er ++ [t18.er], rfl, (by unfold oneL; rw [hw20]), by omega, by omega, (by rw [List.length_append, List.length_map]; show ts.length + 1 ≤ _; omega), ⟨uN, ts ++ [t18], by simp, hBp, hVe, hI0, .inr ⟨D, hbD, (by rw [List.map_append]; exact hOe), fun c hc_ => (by rcases List.mem_append.1 hc_ with h_ | h_; exact hts_ c h_; (rw [List.mem_singleton.1 h_]; exact ht_))⟩⟩, hp31⟩) hB ha_)
    ·
      replace hV := hV.chg g29 hVP
      replace hB := hB.chg g29 (Nat.le_trans hbw hB.size)
      refine Pu rfl (Pu rfl (Pu rfl ?_))
      refine Ge (dx_alloc rfl ty_zero_26 rfl) rfl rfl ?_
      rintro _ W45 ⟨rfl, k46, b47, z48⟩
      have n49 : P ≠ W30.heap.size := Nat.ne_of_lt hp31.lt
      have n51 : V ≠ W30.heap.size := Nat.ne_of_lt hV.lt
      have l52 := hB.size
      replace hp31 := hp31.below b47
      replace hV := hV.below b47
      replace hB := hB.both (.of_below (b47.mono (Nat.le_trans hbw hB.size)))
      refine WL.do (dx_store (cs' := zV) (vs := zV) rfl ty_size_26_5 rfl rfl rfl (oc_cons rfl (oc_cons rfl (oc_cons rfl (oc_cons rfl (oc_cons rfl oc_nil))))) k46 rfl (Nat.le_of_ble_eq_true rfl) rfl) rfl ?_
      rintro _ W53 ⟨k55, o54⟩
      replace hp31 := hp31.other o54 n49
      replace hV := hV.other o54 n51
      clear k46
      replace hB := hB.both (.of_only o54 (.inr (.inr (Nat.le_trans hbw l52))))
      refine Pu rfl (Ni (hK2 (Sq fun K56 hK56 => ?_)))
      have hsW := hB.size
      obtain ⟨D, hD⟩ : ∃ D, D = W53.heap.size + 1 := ⟨_, rfl⟩
      have hDV : D ≠ V := by have := hV.lt; omega
      have hbD : b ≤ D := by omega
      refine WC.drawL (fun L_ W_ => H2 true W53 V D (.slice none 0 0) (ts.map encT) [.int .i64 0, .int .i64 0, .string ⟨#[]⟩, .slice none 0 0, .slice none 0 0] (L_ 4) (L_ 5) (L_ 7) (L_ 9) W_) 10 (rel2 true V D (ts.map encT) [.int .i64 0, .int .i64 0, .string ⟨#[]⟩, .slice none 0 0, .slice none 0 0]) (sd2 W53 V D 0 (.slice none 0 0) (ts.map encT) [.int .i64 0, .int .i64 0, .string ⟨#[]⟩, .slice none 0 0, .slice none 0 0]) [[], [0], [], [1], [], [1, 4, 0, 1, 2, 3, 4], [5, 3, 0, 1, 2, 3, 4, 5], [6, 2, 5, 0, 1, 2, 3, 4, 5], [0, 1, 2, 3, 4, 5], [8, 5, 5, 0, 1, 2, 3, 4, 5]] (by kernel_rfl) (by kernel_rfl) (by kernel_rfl) (by kernel_rfl) (by kernel_rfl) (by kernel_rfl) (by kernel_rfl) (begin2 hV (fun h => by cases h)) (mono2 hDV) ?_ ?_
      ·
        refine ⟨fun L_ Wd hl hn hG => ?_, ?_⟩
        ·
          replace hG : H2 true W53 V D (.slice none 0 0) (ts.map encT) [.int .i64 0, .int .i64 0, .string ⟨#[]⟩, .slice none 0 0, .slice none 0 0] (L_ 4) (L_ 5) (L_ 7) (L_ 9) Wd := hG
          exact DV.dr (dx_fld (o1 := 4) rfl ty_fld_26_4_4 rfl rfl) ⟨rel_o (by decide) (by decide) (by decide) (Below.refl _ _), hG, rfl⟩
        refine ⟨fun L_ Wd hl hn hG => ?_, ?_⟩
        ·
          replace hG : H2 true W53 V D (.slice none 0 0) (ts.map encT) [.int .i64 0, .int .i64 0, .string ⟨#[]⟩, .slice none 0 0, .slice none 0 0] (L_ 4) (L_ 5) (L_ 7) (L_ 9) Wd := hG
          exact DV.dr (dx_load rfl ty_one_24 rfl ((hG.2.1 (hn 9 (by decide))).cell (k := 4) rfl)) ⟨rel_o (by decide) (by decide) (by decide) (Below.refl _ _), hG, rfl⟩
        refine ⟨fun L_ Wd hl hn hG => ?_, ?_⟩
        ·
          replace hG : H2 true W53 V D (.slice none 0 0) (ts.map encT) [.int .i64 0, .int .i64 0, .string ⟨#[]⟩, .slice none 0 0, .slice none 0 0] (L_ 4) (L_ 5) (L_ 7) (L_ 9) Wd := hG
          exact DV.dr (dx_loadN (cs := zV) rfl ty_agg_26_5 rfl (k55.chgV hG.1 k55.lt n51.symm (by have := k55.lt; omega)).range rfl) ⟨rel_o (by decide) (by decide) (by decide) (Below.refl _ _), hG, rfl⟩
        refine ⟨fun L_ Wd hl hn hG => ?_, ?_⟩
        ·
          replace hG : H2 true W53 V D (.slice none 0 0) (ts.map encT) [.int .i64 0, .int .i64 0, .string ⟨#[]⟩, .slice none 0 0, .slice none 0 0] (L_ 4) (L_ 5) (L_ 7) (L_ 9) Wd := hG
          exact DV.dr (dx_len rfl Try.underlying24 rfl) ⟨rel_o (by decide) (by decide) (by decide) (Below.refl _ _), hG, rfl⟩
        refine ⟨fun L_ Wd hl hn hG => ?_, ?_⟩
        ·
          replace hG : H2 true W53 V D (.slice none 0 0) (ts.map encT) [.int .i64 0, .int .i64 0, .string ⟨#[]⟩, .slice none 0 0, .slice none 0 0] (L_ 4) (L_ 5) (L_ 7) (L_ 9) Wd := hG
          have h5_ := hn 5 (by decide)
          rw [hl, h5_] at hG
          refine (dx_lit1X (r := zR) rfl ty_ap_24 (by decide) (by decide) rfl rfl rfl).mono ?_
          rintro u W_ ⟨⟨k1_, k2_, k3_⟩, k4_⟩
          have hs0_ := hG.1.size
          refine ⟨rel_o (by decide) (by decide) (by decide) k2_, ?_, ⟨Wd.heap.size, ?_, ?_, hs0_, k1_⟩⟩
          · show H2 _ _ _ _ _ _ _ true (L_ 5) (L_ 7) (L_ 9) _
            rw [h5_]
            exact lit2 hG k2_ k4_
          · have := hG.2.2.1 rfl; rw [if_pos rfl, if_neg (by decide)] at this; omega
          · have := hV.lt; omega
        refine ⟨fun L_ Wd hl hn hG => ?_, ?_⟩
        ·
          intro u4 q4 u4 q4
          replace hG : H2 true W53 V D (.slice none 0 0) (ts.map encT) [.int .i64 0, .int .i64 0, .string ⟨#[]⟩, .slice none 0 0, .slice none 0 0] (L_ 4) (L_ 5) (L_ 7) (L_ 9) Wd := hG
          have h7_ := hn 7 (by decide)
          have h9_ := hn 9 (by decide)
          rw [hl, h7_, h9_] at hG
          obtain ⟨B4, e1_, e2_, e3_, e4_⟩ := q4
          have e5_ := e4_.lt
          have hz_ := hG.2.2.1 rfl
          rw [if_pos rfl] at hz_
          have hz2_ : Wd.heap.size = D := by rw [hz_] at e5_ ⊢; split at e5_ <;> split <;> omega
          refine (dx_apF (rs := []) (L := []) rfl ty_ap_24 rfl rfl (RdF.nil (L := []) (by decide)) (e4_.rd (L := []) (by simp)) (by simp) (by simp [maxLen] <;> omega) (by simp <;> omega)).mono ?_
          rintro u W_ ⟨k1_, k2_, k3_⟩
          rw [hz2_] at k1_
          replace k1_ : OwS 5 W_ u ((ts.map encT) ++ [zR]) D := by rw [h0]; exact k1_
          refine ⟨(by unfold rel2; rw [if_pos rfl]; exact k2_), ?_, ⟨zR, k1_⟩⟩
          show H2 _ _ _ _ _ _ _ (L_ 4) true (L_ 7) (L_ 9) _
          rw [h7_, h9_]
          exact app2 hDV hG k2_
        refine ⟨fun L_ Wd hl hn hG => ?_, ?_⟩
        ·
          intro u5 q5 u4 q4 u5 q5
          replace hG : H2 true W53 V D (.slice none 0 0) (ts.map encT) [.int .i64 0, .int .i64 0, .string ⟨#[]⟩, .slice none 0 0, .slice none 0 0] (L_ 4) (L_ 5) (L_ 7) (L_ 9) Wd := hG
          obtain ⟨r_, h5_⟩ := q5
          exact DV.dr (dx_idxO 0 rfl ty_slice_24 rfl rfl h5_ rfl (by simp [h0]) rfl) ⟨rel_o (by decide) (by decide) (by decide) (Below.refl _ _), hG, rfl⟩
        refine ⟨fun L_ Wd hl hn hG => ?_, ?_⟩
        ·
          intro u5 q5 u4 q4 u5 q5
          replace hG : H2 true W53 V D (.slice none 0 0) (ts.map encT) [.int .i64 0, .int .i64 0, .string ⟨#[]⟩, .slice none 0 0, .slice none 0 0] (L_ 4) (L_ 5) (L_ 7) (L_ 9) Wd := hG
          have hq_ := q5
          obtain ⟨r_, h5_⟩ := q5
          refine (dx_storeO (k := 0) (r := [.int .i64 0, .int .i64 0, .string ⟨#[]⟩, .slice none 0 0, .slice none 0 0]) rfl ty_size_26_5 rfl rfl rfl (oc_cons rfl (oc_cons rfl (oc_cons rfl (oc_cons rfl (oc_cons rfl oc_nil))))) h5_ rfl (by simp [h0]) rfl).mono ?_
          rintro _ W_ ⟨k1_, k2_⟩
          replace k1_ : OwS 5 W_ u5 ((ts.map encT) ++ [[.int .i64 0, .int .i64 0, .string ⟨#[]⟩, .slice none 0 0, .slice none 0 0]]) D := by rw [h0] at k1_ ⊢; exact k1_
          have hs_ : ∀ u r, OwS 5 Wd u ((ts.map encT) ++ [r]) D → OwS 5 W_ u ((ts.map encT) ++ [[.int .i64 0, .int .i64 0, .string ⟨#[]⟩, .slice none 0 0, .slice none 0 0]]) D := fun u r h => by have e_ := h5_.uniq h (by simp); rw [← e_]; exact k1_
          rw [hl] at hG
          refine ⟨(by unfold rel2; rw [if_neg (by decide), if_pos rfl]; exact ⟨k2_, hs_⟩), ?_, trivial⟩
          show H2 _ _ _ _ _ _ _ (L_ 4) (L_ 5) true (L_ 9) _
          exact row3 (c := 0) hDV (fun h => (by cases h)) hG k2_ hs_ ⟨_, r_, h5_⟩
        refine ⟨fun L_ Wd hl hn hG => ?_, ?_⟩
        ·
          intro u4 q4 u5 q5
          replace hG : H2 true W53 V D (.slice none 0 0) (ts.map encT) [.int .i64 0, .int .i64 0, .string ⟨#[]⟩, .slice none 0 0, .slice none 0 0] (L_ 4) (L_ 5) (L_ 7) (L_ 9) Wd := hG
          exact DV.dr (dx_fld (o1 := 4) rfl ty_fld_26_4_4 rfl rfl) ⟨rel_o (by decide) (by decide) (by decide) (Below.refl _ _), hG, rfl⟩
        refine ⟨fun L_ Wd hl hn hG => ?_, ?_⟩
        ·
          intro u5 q5 u5 q5 u4 q4 u5 q5
          replace hG : H2 true W53 V D (.slice none 0 0) (ts.map encT) [.int .i64 0, .int .i64 0, .string ⟨#[]⟩, .slice none 0 0, .slice none 0 0] (L_ 4) (L_ 5) (L_ 7) (L_ 9) Wd := hG
          obtain ⟨r_, h5_⟩ := q5
          rw [hl] at hG
          refine (dx_store (cs' := vC u5) (vs := [u5]) rfl ty_size_24_1 rfl rfl (oc_one h5_.one) (oc_cons h5_.one oc_nil) (hG.2.1 rfl) rfl (Nat.le_of_ble_eq_true rfl) rfl).mono ?_
          rintro _ W_ ⟨k1_, k2_⟩
          refine ⟨(by unfold rel2; rw [if_neg (by decide), if_neg (by decide), if_pos rfl]; exact k2_), ?_, trivial⟩
          show H2 _ _ _ _ _ _ _ (L_ 4) (L_ 5) (L_ 7) true _
          exact put3 hDV hG k2_ k1_ h5_
        exact trivial
      ·
        intro We hGe
        obtain ⟨hc, uN, hVe, hOe⟩ := end2 (show H2 true W53 V D (.slice none 0 0) (ts.map encT) [.int .i64 0, .int .i64 0, .string ⟨#[]⟩, .slice none 0 0, .slice none 0 0] true true true true We from hGe)
        intro u4 q4 u5 q5 _ _ _ _
        have hts_ : ∀ c ∈ ts, RdT (n + 1) (D :: L) We c := fun c hc_ => (by rw [h0] at hc_; cases hc_)
        replace hp31 := hp31.chgV hc hp31.lt hVP.symm (by have := hp31.lt; omega)
        replace hB := hB.inner hc (Nat.le_trans hbw hB.size) hbD
        refine Ni (hK56 (Sq fun K57 hK57 => (Rg (Pu rfl (Pu rfl (Ni (hK57 ?_)))))))
        exact WC.ret fun a_ ha_ => hQ (cx_ret1 rfl (.tmp rfl) (.inr ⟨k17, e19, rfl, hw24, (by unfold oneL; rw [hw25]), by omega, ⟨vC uN, rfl, (oc_cons rfl (oc_cons rfl (oc_cons rfl (oc_cons rfl (oc_cons hOe.one oc_nil))))), hVe⟩, hp31⟩) hB ha_)
  have hB0P : B0 ≠ P := by have := hLb P hPL; omega
  have hB0V : B0 ≠ V := by have := hLb V hVL; omega
  have hB0Bp : B0 ≠ Bp := by have := hLb Bp hBL; omega
  replace hL := LL.cons hL hO.lt
  replace hts : RdTs (n + 1) (B0 :: L) w ts := hts
  obtain ⟨q0, q1, cap, sp, rfl, q2, q3, q4, q5⟩ := id hO
  by_cases hroom : (ts.map encT).length + 1 ≤ cap
  ·
    refine cx_enter (N := 19) (f := [(0, .pointer (some ⟨Bp, 0, none⟩)), (1, .pointer (some ⟨V, 0, none⟩))]) Try.func89 rfl rfl rfl rfl fun Q hQ hE_ => ?_
    have hB := ChgV.refl b P V w
    refine Sq fun K1 hK1 => (Rg (Pu rfl (Ni (hK1 (Sq fun K2 hK2 => (Rg (Va (dx_load rfl ty_one_51 rfl (hBp.cell (k := 0) rfl)) rfl rfl ?_)))))))
    refine Ge (dx_cw rfl Try.func34 rfl rfl rfl (hv P ka w _ hL (.tail _ hPL) (by omega) hp)) rfl rfl ?_
    rintro _ W30 ⟨(⟨k16, t18, rfl, hw20, hw21, hw22, hw23, hp31⟩ | ⟨k17, e19, rfl, hw24, hw25, hw26, hp31⟩), g29⟩
    ·
      replace hts := hts.chgL g29 (.tail _ hPL)
      replace hBp := hBp.chg g29 hBP
      replace hV := hV.chg g29 hVP
      replace hO := hO.chgL g29 hB0P
      replace hB := hB.chg g29 (Nat.le_trans hbw hB.size)
      refine Pu rfl (Pu rfl (Pu rfl ?_))
      refine Ge (dx_alloc rfl ty_zero_26 rfl) rfl rfl ?_
      rintro _ W32 ⟨rfl, k33, b34, z35⟩
      have n36 : P ≠ W30.heap.size := Nat.ne_of_lt hp31.lt
      have n37 : Bp ≠ W30.heap.size := Nat.ne_of_lt hBp.lt
      have n38 : V ≠ W30.heap.size := Nat.ne_of_lt hV.lt
      have n39 : B0 ≠ W30.heap.size := Nat.ne_of_lt hO.lt
      have l40 := hB.size
      replace hts := hts.more b34 (Nat.le_refl _)
      replace hw21 := hw21.more b34 (Nat.le_refl _)
      replace hp31 := hp31.below b34
      replace hBp := hBp.below b34
      replace hV := hV.below b34
      replace hO := hO.below b34
      replace hB := hB.both (.of_below (b34.mono (Nat.le_trans hbw hB.size)))
      refine WL.do (dx_store (cs' := [.int .i64 t18.kind, .int .i64 t18.num, .string t18.text, t18.nv, t18.iv]) (vs := [.int .i64 t18.kind, .int .i64 t18.num, .string t18.text, t18.nv, t18.iv]) rfl ty_size_26_5 rfl rfl rfl (oc_cons rfl (oc_cons rfl (oc_cons rfl (oc_cons (hw21.1).one (oc_cons (hw21.2.1).one oc_nil))))) k33 rfl (Nat.le_of_ble_eq_true rfl) rfl) rfl ?_
      rintro _ W41 ⟨k43, o42⟩
      replace hp31 := hp31.other o42 n36
      replace hBp := hBp.other o42 n37
      replace hV := hV.other o42 n38
      replace hO := hO.other o42 n39
      clear k33
      replace hts := hts.only o42 (.head _)
      replace hw21 := hw21.only o42 (.head _)
      replace hB := hB.both (.of_only o42 (.inr (.inr (Nat.le_trans hbw l40))))
      refine Pu rfl (Ni (hK2 (Sq fun K44 hK44 => ?_)))
      have hsW := hB.size
      have hDV := hB0V
      have hbD := hbB
      refine WC.drawL (fun L_ W_ => H2 false W41 V B0 (.slice (some ⟨B0, 0, none⟩) (ts.map encT).length cap) (ts.map encT) [.int .i64 t18.kind, .int .i64 t18.num, .string t18.text, t18.nv, t18.iv] (L_ 4) (L_ 5) (L_ 7) (L_ 9) W_) 10 (rel2 false V B0 (ts.map encT) [.int .i64 t18.kind, .int .i64 t18.num, .string t18.text, t18.nv, t18.iv]) (sd2 W41 V B0 (ts.map encT).length (.slice (some ⟨B0, 0, none⟩) (ts.map encT).length cap) (ts.map encT) [.int .i64 t18.kind, .int .i64 t18.num, .string t18.text, t18.nv, t18.iv]) [[], [0], [], [1], [], [1, 4, 0, 1, 2, 3, 4], [5, 3, 0, 1, 2, 3, 4, 5], [6, 2, 5, 0, 1, 2, 3, 4, 5], [0, 1, 2, 3, 4, 5], [8, 5, 5, 0, 1, 2, 3, 4, 5]] (by kernel_rfl) (by kernel_rfl) (by kernel_rfl) (by kernel_rfl) (by kernel_rfl) (by kernel_rfl) (by kernel_rfl) (begin2 hV (fun _ => hO)) (mono2 hDV) ?_ ?_
      ·
        refine ⟨fun L_ Wd hl hn hG => ?_, ?_⟩
        ·
          replace hG : H2 false W41 V B0 (.slice (some ⟨B0, 0, none⟩) (ts.map encT).length cap) (ts.map encT) [.int .i64 t18.kind, .int .i64 t18.num, .string t18.text, t18.nv, t18.iv] (L_ 4) (L_ 5) (L_ 7) (L_ 9) Wd := hG
          exact DV.dr (dx_fld (o1 := 4) rfl ty_fld_26_4_4 rfl rfl) ⟨rel_o (by decide) (by decide) (by decide) (Below.refl _ _), hG, rfl⟩
        refine ⟨fun L_ Wd hl hn hG => ?_, ?_⟩
        ·
          replace hG : H2 false W41 V B0 (.slice (some ⟨B0, 0, none⟩) (ts.map encT).length cap) (ts.map encT) [.int .i64 t18.kind, .int .i64 t18.num, .string t18.text, t18.nv, t18.iv] (L_ 4) (L_ 5) (L_ 7) (L_ 9) Wd := hG
          exact DV.dr (dx_load rfl ty_one_24 rfl ((hG.2.1 (hn 9 (by decide))).cell (k := 4) rfl)) ⟨rel_o (by decide) (by decide) (by decide) (Below.refl _ _), hG, rfl⟩
        refine ⟨fun L_ Wd hl hn hG => ?_, ?_⟩
        ·
          replace hG : H2 false W41 V B0 (.slice (some ⟨B0, 0, none⟩) (ts.map encT).length cap) (ts.map encT) [.int .i64 t18.kind, .int .i64 t18.num, .string t18.text, t18.nv, t18.iv] (L_ 4) (L_ 5) (L_ 7) (L_ 9) Wd := hG
          exact DV.dr (dx_loadN (cs := [.int .i64 t18.kind, .int .i64 t18.num, .string t18.text, t18.nv, t18.iv]) rfl ty_agg_26_5 rfl (k43.chgV hG.1 k43.lt n38.symm (by have := k43.lt; exact n39.symm)).range rfl) ⟨rel_o (by decide) (by decide) (by decide) (Below.refl _ _), hG, rfl⟩
        refine ⟨fun L_ Wd hl hn hG => ?_, ?_⟩
        ·
          replace hG : H2 false W41 V B0 (.slice (some ⟨B0, 0, none⟩) (ts.map encT).length cap) (ts.map encT) [.int .i64 t18.kind, .int .i64 t18.num, .string t18.text, t18.nv, t18.iv] (L_ 4) (L_ 5) (L_ 7) (L_ 9) Wd := hG
          exact DV.dr (dx_len rfl Try.underlying24 rfl) ⟨rel_o (by decide) (by decide) (by decide) (Below.refl _ _), hG, rfl⟩
        refine ⟨fun L_ Wd hl hn hG => ?_, ?_⟩
        ·
          replace hG : H2 false W41 V B0 (.slice (some ⟨B0, 0, none⟩) (ts.map encT).length cap) (ts.map encT) [.int .i64 t18.kind, .int .i64 t18.num, .string t18.text, t18.nv, t18.iv] (L_ 4) (L_ 5) (L_ 7) (L_ 9) Wd := hG
          have h5_ := hn 5 (by decide)
          rw [hl, h5_] at hG
          refine (dx_lit1X (r := zR) rfl ty_ap_24 (by decide) (by decide) rfl rfl rfl).mono ?_
          rintro u W_ ⟨⟨k1_, k2_, k3_⟩, k4_⟩
          have hs0_ := hG.1.size
          refine ⟨rel_o (by decide) (by decide) (by decide) k2_, ?_, ⟨Wd.heap.size, ?_, ?_, hs0_, k1_⟩⟩
          · show H2 _ _ _ _ _ _ _ true (L_ 5) (L_ 7) (L_ 9) _
            rw [h5_]
            exact lit2 hG k2_ k4_
          · have := hG.2.2.1 rfl; rw [if_neg (by decide)] at this; exact Nat.ne_of_gt this.lt
          · have := hV.lt; omega
        refine ⟨fun L_ Wd hl hn hG => ?_, ?_⟩
        ·
          intro u4 q4 u4 q4
          replace hG : H2 false W41 V B0 (.slice (some ⟨B0, 0, none⟩) (ts.map encT).length cap) (ts.map encT) [.int .i64 t18.kind, .int .i64 t18.num, .string t18.text, t18.nv, t18.iv] (L_ 4) (L_ 5) (L_ 7) (L_ 9) Wd := hG
          have h7_ := hn 7 (by decide)
          have h9_ := hn 9 (by decide)
          rw [hl, h7_, h9_] at hG
          obtain ⟨B4, e1_, e2_, e3_, e4_⟩ := q4
          have e5_ := e4_.lt
          have hO_ := hG.2.2.1 rfl
          rw [if_neg (by decide)] at hO_
          refine (dx_apRoom rfl ty_ap_24 rfl rfl hO_ (e4_.rd (L := []) (by simp)) (by simp) (oc_lit zR (oc_cons rfl (oc_cons rfl (oc_cons rfl (oc_cons rfl (oc_cons rfl oc_nil)))))) (by simpa using hroom)).mono ?_
          rintro u W_ ⟨-, k1_, k2_⟩
          refine ⟨(by unfold rel2; rw [if_pos rfl]; exact k2_), ?_, ⟨zR, k1_⟩⟩
          show H2 _ _ _ _ _ _ _ (L_ 4) true (L_ 7) (L_ 9) _
          rw [h7_, h9_]
          exact app2 hDV hG k2_
        refine ⟨fun L_ Wd hl hn hG => ?_, ?_⟩
        ·
          intro u5 q5 u4 q4 u5 q5
          replace hG : H2 false W41 V B0 (.slice (some ⟨B0, 0, none⟩) (ts.map encT).length cap) (ts.map encT) [.int .i64 t18.kind, .int .i64 t18.num, .string t18.text, t18.nv, t18.iv] (L_ 4) (L_ 5) (L_ 7) (L_ 9) Wd := hG
          obtain ⟨r_, h5_⟩ := q5
          exact DV.dr (dx_idxO (ts.map encT).length rfl ty_slice_24 rfl rfl h5_ rfl (by simp) rfl) ⟨rel_o (by decide) (by decide) (by decide) (Below.refl _ _), hG, rfl⟩
        refine ⟨fun L_ Wd hl hn hG => ?_, ?_⟩
        ·
          intro u5 q5 u4 q4 u5 q5
          replace hG : H2 false W41 V B0 (.slice (some ⟨B0, 0, none⟩) (ts.map encT).length cap) (ts.map encT) [.int .i64 t18.kind, .int .i64 t18.num, .string t18.text, t18.nv, t18.iv] (L_ 4) (L_ 5) (L_ 7) (L_ 9) Wd := hG
          have hq_ := q5
          obtain ⟨r_, h5_⟩ := q5
          refine (dx_storeO (k := (ts.map encT).length) (r := [.int .i64 t18.kind, .int .i64 t18.num, .string t18.text, t18.nv, t18.iv]) rfl ty_size_26_5 rfl rfl rfl (oc_cons rfl (oc_cons rfl (oc_cons rfl (oc_cons (hw21.1).one (oc_cons (hw21.2.1).one oc_nil))))) h5_ rfl (by simp) rfl).mono ?_
          rintro _ W_ ⟨k1_, k2_⟩
          rw [show ((ts.map encT) ++ [r_]).set (ts.map encT).length [.int .i64 t18.kind, .int .i64 t18.num, .string t18.text, t18.nv, t18.iv] = (ts.map encT) ++ [[.int .i64 t18.kind, .int .i64 t18.num, .string t18.text, t18.nv, t18.iv]] from set_last] at k1_
          have hs_ : ∀ u r, OwS 5 Wd u ((ts.map encT) ++ [r]) B0 → OwS 5 W_ u ((ts.map encT) ++ [[.int .i64 t18.kind, .int .i64 t18.num, .string t18.text, t18.nv, t18.iv]]) B0 := fun u r h => by have e_ := h5_.uniq h (by simp); rw [← e_]; exact k1_
          rw [hl] at hG
          refine ⟨(by unfold rel2; rw [if_neg (by decide), if_pos rfl]; exact ⟨k2_, hs_⟩), ?_, trivial⟩
          show H2 _ _ _ _ _ _ _ (L_ 4) (L_ 5) true (L_ 9) _
          exact row3 (c := cap) hDV (fun h => rfl) hG k2_ hs_ ⟨_, r_, h5_⟩
        refine ⟨fun L_ Wd hl hn hG => ?_, ?_⟩
        ·
          intro u4 q4 u5 q5
          replace hG : H2 false W41 V B0 (.slice (some ⟨B0, 0, none⟩) (ts.map encT).length cap) (ts.map encT) [.int .i64 t18.kind, .int .i64 t18.num, .string t18.text, t18.nv, t18.iv] (L_ 4) (L_ 5) (L_ 7) (L_ 9) Wd := hG
          exact DV.dr (dx_fld (o1 := 4) rfl ty_fld_26_4_4 rfl rfl) ⟨rel_o (by decide) (by decide) (by decide) (Below.refl _ _), hG, rfl⟩
        refine ⟨fun L_ Wd hl hn hG => ?_, ?_⟩
        ·
          intro u5 q5 u5 q5 u4 q4 u5 q5
          replace hG : H2 false W41 V B0 (.slice (some ⟨B0, 0, none⟩) (ts.map encT).length cap) (ts.map encT) [.int .i64 t18.kind, .int .i64 t18.num, .string t18.text, t18.nv, t18.iv] (L_ 4) (L_ 5) (L_ 7) (L_ 9) Wd := hG
          obtain ⟨r_, h5_⟩ := q5
          rw [hl] at hG
          refine (dx_store (cs' := vC u5) (vs := [u5]) rfl ty_size_24_1 rfl rfl (oc_one h5_.one) (oc_cons h5_.one oc_nil) (hG.2.1 rfl) rfl (Nat.le_of_ble_eq_true rfl) rfl).mono ?_
          rintro _ W_ ⟨k1_, k2_⟩
          refine ⟨(by unfold rel2; rw [if_neg (by decide), if_neg (by decide), if_pos rfl]; exact k2_), ?_, trivial⟩
          show H2 _ _ _ _ _ _ _ (L_ 4) (L_ 5) (L_ 7) true _
          exact put3 hDV hG k2_ k1_ h5_
        exact trivial
      ·
        intro We hGe
        obtain ⟨hc, uN, hVe, hOe⟩ := end2 (show H2 false W41 V B0 (.slice (some ⟨B0, 0, none⟩) (ts.map encT).length cap) (ts.map encT) [.int .i64 t18.kind, .int .i64 t18.num, .string t18.text, t18.nv, t18.iv] true true true true We from hGe)
        intro u4 q4 u5 q5 _ _ _ _
        have hts_ : ∀ c ∈ ts, RdT (n + 1) (B0 :: L) We c := fun c hc_ => ((hts c hc_).less (fun x hx => .tail _ hx)).inner hc hVL
        have ht_ : RdT (n + 1) (B0 :: L) We t18 := (hw21.less (fun x hx => .tail _ hx)).inner hc hVL
        replace hp31 := hp31.chgV hc hp31.lt hVP.symm hB0P.symm
        replace hBp := hBp.chgV hc hBp.lt hBV hB0Bp.symm
        replace hB := hB.inner hc (Nat.le_trans hbw hB.size) hbD
        refine Ni (hK44 (Sq fun K45 hK45 => (Rg (Pu rfl (Pu rfl (Ni (hK45 ?_)))))))
        exact WC.ret fun a_ ha_ => hQ (cx_ret1 rfl (.tmp rfl) (.inl ⟨k16, ts.map Tr.er ++ [t18.er], rfl, (by unfold oneL; rw [hw20]), by omega, by omega, (by rw [List.length_append, List.length_map]; show ts.length + 1 ≤ _; omega), ⟨uN, ts ++ [t18], by simp, hBp, hVe, hI0, .inr ⟨B0, hbD, (by rw [List.map_append]; exact hOe), fun c hc_ => (by rcases List.mem_append.1 hc_ with h_ | h_; exact hts_ c h_; (rw [List.mem_singleton.1 h_]; exact ht_))⟩⟩, hp31⟩) hB ha_)
    ·
      replace hts := hts.chgL g29 (.tail _ hPL)
      replace hV := hV.chg g29 hVP
      replace hO := hO.chgL g29 hB0P
      replace hB := hB.chg g29 (Nat.le_trans hbw hB.size)
      refine Pu rfl (Pu rfl (Pu rfl ?_))
      refine Ge (dx_alloc rfl ty_zero_26 rfl) rfl rfl ?_
      rintro _ W46 ⟨rfl, k47, b48, z49⟩
      have n50 : P ≠ W30.heap.size := Nat.ne_of_lt hp31.lt
      have n52 : V ≠ W30.heap.size := Nat.ne_of_lt hV.lt
      have n53 : B0 ≠ W30.heap.size := Nat.ne_of_lt hO.lt
      have l54 := hB.size
      replace hts := hts.more b48 (Nat.le_refl _)
      replace hp31 := hp31.below b48
      replace hV := hV.below b48
      replace hO := hO.below b48
      replace hB := hB.both (.of_below (b48.mono (Nat.le_trans hbw hB.size)))
      refine WL.do (dx_store (cs' := zV) (vs := zV) rfl ty_size_26_5 rfl rfl rfl (oc_cons rfl (oc_cons rfl (oc_cons rfl (oc_cons rfl (oc_cons rfl oc_nil))))) k47 rfl (Nat.le_of_ble_eq_true rfl) rfl) rfl ?_
      rintro _ W55 ⟨k57, o56⟩
      replace hp31 := hp31.other o56 n50
      replace hV := hV.other o56 n52
      replace hO := hO.other o56 n53
      clear k47
      replace hts := hts.only o56 (.head _)
      replace hB := hB.both (.of_only o56 (.inr (.inr (Nat.le_trans hbw l54))))
      refine Pu rfl (Ni (hK2 (Sq fun K58 hK58 => ?_)))
      have hsW := hB.size
      have hDV := hB0V
      have hbD := hbB
      refine WC.drawL (fun L_ W_ => H2 false W55 V B0 (.slice (some ⟨B0, 0, none⟩) (ts.map encT).length cap) (ts.map encT) [.int .i64 0, .int .i64 0, .string ⟨#[]⟩, .slice none 0 0, .slice none 0 0] (L_ 4) (L_ 5) (L_ 7) (L_ 9) W_) 10 (rel2 false V B0 (ts.map encT) [.int .i64 0, .int .i64 0, .string ⟨#[]⟩, .slice none 0 0, .slice none 0 0]) (sd2 W55 V B0 (ts.map encT).length (.slice (some ⟨B0, 0, none⟩) (ts.map encT).length cap) (ts.map encT) [.int .i64 0, .int .i64 0, .string ⟨#[]⟩, .slice none 0 0, .slice none 0 0]) [[], [0], [], [1], [], [1, 4, 0, 1, 2, 3, 4], [5, 3, 0, 1, 2, 3, 4, 5], [6, 2, 5, 0, 1, 2, 3, 4, 5], [0, 1, 2, 3, 4, 5], [8, 5, 5, 0, 1, 2, 3, 4, 5]] (by kernel_rfl) (by kernel_rfl) (by kernel_rfl) (by kernel_rfl) (by kernel_rfl) (by kernel_rfl) (by kernel_rfl) (begin2 hV (fun _ => hO)) (mono2 hDV) ?_ ?_
      ·
        refine ⟨fun L_ Wd hl hn hG => ?_, ?_⟩
        ·
          replace hG : H2 false W55 V B0 (.slice (some ⟨B0, 0, none⟩) (ts.map encT).length cap) (ts.map encT) [.int .i64 0, .int .i64 0, .string ⟨#[]⟩, .slice none 0 0, .slice none 0 0] (L_ 4) (L_ 5) (L_ 7) (L_ 9) Wd := hG
          exact DV.dr (dx_fld (o1 := 4) rfl ty_fld_26_4_4 rfl rfl) ⟨rel_o (by decide) (by decide) (by decide) (Below.refl _ _), hG, rfl⟩
        refine ⟨fun L_ Wd hl hn hG => ?_, ?_⟩
        ·
          replace hG : H2 false W55 V B0 (.slice (some ⟨B0, 0, none⟩) (ts.map encT).length cap) (ts.map encT) [.int .i64 0, .int .i64 0, .string ⟨#[]⟩, .slice none 0 0, .slice none 0 0] (L_ 4) (L_ 5) (L_ 7) (L_ 9) Wd := hG
          exact DV.dr (dx_load rfl ty_one_24 rfl ((hG.2.1 (hn 9 (by decide))).cell (k := 4) rfl)) ⟨rel_o (by decide) (by decide) (by decide) (Below.refl _ _), hG, rfl⟩
        refine ⟨fun L_ Wd hl hn hG => ?_, ?_⟩
        ·
          replace hG : H2 false W55 V B0 (.slice (some ⟨B0, 0, none⟩) (ts.map encT).length cap) (ts.map encT) [.int .i64 0, .int .i64 0, .string ⟨#[]⟩, .slice none 0 0, .slice none 0 0] (L_ 4) (L_ 5) (L_ 7) (L_ 9) Wd := hG
          exact DV.dr (dx_loadN (cs := zV) rfl ty_agg_26_5 rfl (k57.chgV hG.1 k57.lt n52.symm (by have := k57.lt; exact n53.symm)).range rfl) ⟨rel_o (by decide) (by decide) (by decide) (Below.refl _ _), hG, rfl⟩
        refine ⟨fun L_ Wd hl hn hG => ?_, ?_⟩
        ·
          replace hG : H2 false W55 V B0 (.slice (some ⟨B0, 0, none⟩) (ts.map encT).length cap) (ts.map encT) [.int .i64 0, .int .i64 0, .string ⟨#[]⟩, .slice none 0 0, .slice none 0 0] (L_ 4) (L_ 5) (L_ 7) (L_ 9) Wd := hG
          exact DV.dr (dx_len rfl Try.underlying24 rfl) ⟨rel_o (by decide) (by decide) (by decide) (Below.refl _ _), hG, rfl⟩
        refine ⟨fun L_ Wd hl hn hG => ?_, ?_⟩
        ·
          replace hG : H2 false W55 V B0 (.slice (some ⟨B0, 0, none⟩) (ts.map encT).length cap) (ts.map encT) [.int .i64 0, .int .i64 0, .string ⟨#[]⟩, .slice none 0 0, .slice none 0 0] (L_ 4) (L_ 5) (L_ 7) (L_ 9) Wd := hG
          have h5_ := hn 5 (by decide)
          rw [hl, h5_] at hG
          refine (dx_lit1X (r := zR) rfl ty_ap_24 (by decide) (by decide) rfl rfl rfl).mono ?_
          rintro u W_ ⟨⟨k1_, k2_, k3_⟩, k4_⟩
          have hs0_ := hG.1.size
          refine ⟨rel_o (by decide) (by decide) (by decide) k2_, ?_, ⟨Wd.heap.size, ?_, ?_, hs0_, k1_⟩⟩
          · show H2 _ _ _ _ _ _ _ true (L_ 5) (L_ 7) (L_ 9) _
            rw [h5_]
            exact lit2 hG k2_ k4_
          · have := hG.2.2.1 rfl; rw [if_neg (by decide)] at this; exact Nat.ne_of_gt this.lt
          · have := hV.lt; omega
        refine ⟨fun L_ Wd hl hn hG => ?_, ?_⟩
        ·
          intro u4 q4 u4 q4
          replace hG : H2 false W55 V B0 (.slice (some ⟨B0, 0, none⟩) (ts.map encT).length cap) (ts.map encT) [.int .i64 0, .int .i64 0, .string ⟨#[]⟩, .slice none 0 0, .slice none 0 0] (L_ 4) (L_ 5) (L_ 7) (L_ 9) Wd := hG
          have h7_ := hn 7 (by decide)
          have h9_ := hn 9 (by decide)
          rw [hl, h7_, h9_] at hG
          obtain ⟨B4, e1_, e2_, e3_, e4_⟩ := q4
          have e5_ := e4_.lt
          have hO_ := hG.2.2.1 rfl
          rw [if_neg (by decide)] at hO_
          refine (dx_apRoom rfl ty_ap_24 rfl rfl hO_ (e4_.rd (L := []) (by simp)) (by simp) (oc_lit zR (oc_cons rfl (oc_cons rfl (oc_cons rfl (oc_cons rfl (oc_cons rfl oc_nil)))))) (by simpa using hroom)).mono ?_
          rintro u W_ ⟨-, k1_, k2_⟩
          refine ⟨(by unfold rel2; rw [if_pos rfl]; exact k2_), ?_, ⟨zR, k1_⟩⟩
          show H2 _ _ _ _ _ _ _ (L_ 4) true (L_ 7) (L_ 9) _
          rw [h7_, h9_]
          exact app2 hDV hG k2_
        refine ⟨fun L_ Wd hl hn hG => ?_, ?_⟩
        ·
          intro u5 q5 u4 q4 u5 q5
          replace hG : H2 false W55 V B0 (.slice (some ⟨B0, 0, none⟩) (ts.map encT).length cap) (ts.map encT) [.int .i64 0, .int .i64 0, .string ⟨#[]⟩, .slice none 0 0, .slice none 0 0] (L_ 4) (L_ 5) (L_ 7) (L_ 9) Wd := hG
          obtain ⟨r_, h5_⟩ := q5
          exact DV.dr (dx_idxO (ts.map encT).length rfl ty_slice_24 rfl rfl h5_ rfl (by simp) rfl) ⟨rel_o (by decide) (by decide) (by decide) (Below.refl _ _), hG, rfl⟩
        refine ⟨fun L_ Wd hl hn hG => ?_, ?_⟩
        ·
          intro u5 q5 u4 q4 u5 q5
          replace hG : H2 false W55 V B0 (.slice (some ⟨B0, 0, none⟩) (ts.map encT).length cap) (ts.map encT) [.int .i64 0, .int .i64 0, .string ⟨#[]⟩, .slice none 0 0, .slice none 0 0] (L_ 4) (L_ 5) (L_ 7) (L_ 9) Wd := hG
          have hq_ := q5
          obtain ⟨r_, h5_⟩ := q5
          refine (dx_storeO (k := (ts.map encT).length) (r := [.int .i64 0, .int .i64 0, .string ⟨#[]⟩, .slice none 0 0, .slice none 0 0]) rfl ty_size_26_5 rfl rfl rfl (oc_cons rfl (oc_cons rfl (oc_cons rfl (oc_cons rfl (oc_cons rfl oc_nil))))) h5_ rfl (by simp) rfl).mono ?_
          rintro _ W_ ⟨k1_, k2_⟩
          rw [show ((ts.map encT) ++ [r_]).set (ts.map encT).length [.int .i64 0, .int .i64 0, .string ⟨#[]⟩, .slice none 0 0, .slice none 0 0] = (ts.map encT) ++ [[.int .i64 0, .int .i64 0, .string ⟨#[]⟩, .slice none 0 0, .slice none 0 0]] from set_last] at k1_
          have hs_ : ∀ u r, OwS 5 Wd u ((ts.map encT) ++ [r]) B0 → OwS 5 W_ u ((ts.map encT) ++ [[.int .i64 0, .int .i64 0, .string ⟨#[]⟩, .slice none 0 0, .slice none 0 0]]) B0 := fun u r h => by have e_ := h5_.uniq h (by simp); rw [← e_]; exact k1_
          rw [hl] at hG
          refine ⟨(by unfold rel2; rw [if_neg (by decide), if_pos rfl]; exact ⟨k2_, hs_⟩), ?_, trivial⟩
          show H2 _ _ _ _ _ _ _ (L_ 4) (L_ 5) true (L_ 9) _
          exact row3 (c := cap) hDV (fun h => rfl) hG k2_ hs_ ⟨_, r_, h5_⟩
        refine ⟨fun L_ Wd hl hn hG => ?_, ?_⟩
        ·
          intro u4 q4 u5 q5
          replace hG : H2 false W55 V B0 (.slice (some ⟨B0, 0, none⟩) (ts.map encT).length cap) (ts.map encT) [.int .i64 0, .int .i64 0, .string ⟨#[]⟩, .slice none 0 0, .slice none 0 0] (L_ 4) (L_ 5) (L_ 7) (L_ 9) Wd := hG
          exact DV.dr (dx_fld (o1 := 4) rfl ty_fld_26_4_4 rfl rfl) ⟨rel_o (by decide) (by decide) (by decide) (Below.refl _ _), hG, rfl⟩
        refine ⟨fun L_ Wd hl hn hG => ?_, ?_⟩
        ·
          intro u5 q5 u5 q5 u4 q4 u5 q5
          replace hG : H2 false W55 V B0 (.slice (some ⟨B0, 0, none⟩) (ts.map encT).length cap) (ts.map encT) [.int .i64 0, .int .i64 0, .string ⟨#[]⟩, .slice none 0 0, .slice none 0 0] (L_ 4) (L_ 5) (L_ 7) (L_ 9) Wd := hG
          obtain ⟨r_, h5_⟩ := q5
          rw [hl] at hG
          refine (dx_store (cs' := vC u5) (vs := [u5]) rfl ty_size_24_1 rfl rfl (oc_one h5_.one) (oc_cons h5_.one oc_nil) (hG.2.1 rfl) rfl (Nat.le_of_ble_eq_true rfl) rfl).mono ?_
          rintro _ W_ ⟨k1_, k2_⟩
          refine ⟨(by unfold rel2; rw [if_neg (by decide), if_neg (by decide), if_pos rfl]; exact k2_), ?_, trivial⟩
          show H2 _ _ _ _ _ _ _ (L_ 4) (L_ 5) (L_ 7) true _
          exact put3 hDV hG k2_ k1_ h5_
        exact trivial
      ·
        intro We hGe
        obtain ⟨hc, uN, hVe, hOe⟩ := end2 (show H2 false W55 V B0 (.slice (some ⟨B0, 0, none⟩) (ts.map encT).length cap) (ts.map encT) [.int .i64 0, .int .i64 0, .string ⟨#[]⟩, .slice none 0 0, .slice none 0 0] true true true true We from hGe)
        intro u4 q4 u5 q5 _ _ _ _
        have hts_ : ∀ c ∈ ts, RdT (n + 1) (B0 :: L) We c := fun c hc_ => ((hts c hc_).less (fun x hx => .tail _ hx)).inner hc hVL
        replace hp31 := hp31.chgV hc hp31.lt hVP.symm hB0P.symm
        replace hB := hB.inner hc (Nat.le_trans hbw hB.size) hbD
        refine Ni (hK58 (Sq fun K59 hK59 => (Rg (Pu rfl (Pu rfl (Ni (hK59 ?_)))))))
        exact WC.ret fun a_ ha_ => hQ (cx_ret1 rfl (.tmp rfl) (.inr ⟨k17, e19, rfl, hw24, (by unfold oneL; rw [hw25]), by omega, ⟨vC uN, rfl, (oc_cons rfl (oc_cons rfl (oc_cons rfl (oc_cons rfl (oc_cons hOe.one oc_nil))))), hVe⟩, hp31⟩) hB ha_)
  obtain rfl : cap = (ts.map encT).length := by omega
  refine cx_enter (N := 19) (f := [(0, .pointer (some ⟨Bp, 0, none⟩)), (1, .pointer (some ⟨V, 0, none⟩))]) Try.func89 rfl rfl rfl rfl fun Q hQ hE_ => ?_
  have hB := ChgV.refl b P V w
  refine Sq fun K1 hK1 => (Rg (Pu rfl (Ni (hK1 (Sq fun K2 hK2 => (Rg (Va (dx_load rfl ty_one_51 rfl (hBp.cell (k := 0) rfl)) rfl rfl ?_)))))))
  refine Ge (dx_cw rfl Try.func34 rfl rfl rfl (hv P ka w _ hL (.tail _ hPL) (by omega) hp)) rfl rfl ?_
  rintro _ W30 ⟨(⟨k16, t18, rfl, hw20, hw21, hw22, hw23, hp31⟩ | ⟨k17, e19, rfl, hw24, hw25, hw26, hp31⟩), g29⟩
  ·
    replace hts := hts.chgL g29 (.tail _ hPL)
    replace hBp := hBp.chg g29 hBP
    replace hV := hV.chg g29 hVP
    replace hO := hO.chgL g29 hB0P
    replace hB := hB.chg g29 (Nat.le_trans hbw hB.size)
    refine Pu rfl (Pu rfl (Pu rfl ?_))
    refine Ge (dx_alloc rfl ty_zero_26 rfl) rfl rfl ?_
    rintro _ W32 ⟨rfl, k33, b34, z35⟩
    have n36 : P ≠ W30.heap.size := Nat.ne_of_lt hp31.lt
    have n37 : Bp ≠ W30.heap.size := Nat.ne_of_lt hBp.lt
    have n38 : V ≠ W30.heap.size := Nat.ne_of_lt hV.lt
    have n39 : B0 ≠ W30.heap.size := Nat.ne_of_lt hO.lt
    have l40 := hB.size
    replace hts := hts.more b34 (Nat.le_refl _)
    replace hw21 := hw21.more b34 (Nat.le_refl _)
    replace hp31 := hp31.below b34
    replace hBp := hBp.below b34
    replace hV := hV.below b34
    replace hO := hO.below b34
    replace hB := hB.both (.of_below (b34.mono (Nat.le_trans hbw hB.size)))
    refine WL.do (dx_store (cs' := [.int .i64 t18.kind, .int .i64 t18.num, .string t18.text, t18.nv, t18.iv]) (vs := [.int .i64 t18.kind, .int .i64 t18.num, .string t18.text, t18.nv, t18.iv]) rfl ty_size_26_5 rfl rfl rfl (oc_cons rfl (oc_cons rfl (oc_cons rfl (oc_cons (hw21.1).one (oc_cons (hw21.2.1).one oc_nil))))) k33 rfl (Nat.le_of_ble_eq_true rfl) rfl) rfl ?_
    rintro _ W41 ⟨k43, o42⟩
    replace hp31 := hp31.other o42 n36
    replace hBp := hBp.other o42 n37
    replace hV := hV.other o42 n38
    replace hO := hO.other o42 n39
    clear k33
    replace hts := hts.only o42 (.head _)
    replace hw21 := hw21.only o42 (.head _)
    replace hB := hB.both (.of_only o42 (.inr (.inr (Nat.le_trans hbw l40))))
    refine Pu rfl (Ni (hK2 (Sq fun K44 hK44 => ?_)))
    have hsW := hB.size
    obtain ⟨D, hD⟩ : ∃ D, D = W41.heap.size + 1 := ⟨_, rfl⟩
    have hDV : D ≠ V := by have := hV.lt; omega
    have hbD : b ≤ D := by omega
    refine WC.drawL (fun L_ W_ => H2 true W41 V D (.slice (some ⟨B0, 0, none⟩) (ts.map encT).length (ts.map encT).length) (ts.map encT) [.int .i64 t18.kind, .int .i64 t18.num, .string t18.text, t18.nv, t18.iv] (L_ 4) (L_ 5) (L_ 7) (L_ 9) W_) 10 (rel2 true V D (ts.map encT) [.int .i64 t18.kind, .int .i64 t18.num, .string t18.text, t18.nv, t18.iv]) (sd2 W41 V D (ts.map encT).length (.slice (some ⟨B0, 0, none⟩) (ts.map encT).length (ts.map encT).length) (ts.map encT) [.int .i64 t18.kind, .int .i64 t18.num, .string t18.text, t18.nv, t18.iv]) [[], [0], [], [1], [], [1, 4, 0, 1, 2, 3, 4], [5, 3, 0, 1, 2, 3, 4, 5], [6, 2, 5, 0, 1, 2, 3, 4, 5], [0, 1, 2, 3, 4, 5], [8, 5, 5, 0, 1, 2, 3, 4, 5]] (by kernel_rfl) (by kernel_rfl) (by kernel_rfl) (by kernel_rfl) (by kernel_rfl) (by kernel_rfl) (by kernel_rfl) (begin2 hV (fun h => by cases h)) (mono2 hDV) ?_ ?_
    ·
      refine ⟨fun L_ Wd hl hn hG => ?_, ?_⟩
      ·
        replace hG : H2 true W41 V D (.slice (some ⟨B0, 0, none⟩) (ts.map encT).length (ts.map encT).length) (ts.map encT) [.int .i64 t18.kind, .int .i64 t18.num, .string t18.text, t18.nv, t18.iv] (L_ 4) (L_ 5) (L_ 7) (L_ 9) Wd := hG
        exact DV.dr (dx_fld (o1 := 4) rfl ty_fld_26_4_4 rfl rfl) ⟨rel_o (by decide) (by decide) (by decide) (Below.refl _ _), hG, rfl⟩
      refine ⟨fun L_ Wd hl hn hG => ?_, ?_⟩
      ·
        replace hG : H2 true W41 V D (.slice (some ⟨B0, 0, none⟩) (ts.map encT).length (ts.map encT).length) (ts.map encT) [.int .i64 t18.kind, .int .i64 t18.num, .string t18.text, t18.nv, t18.iv] (L_ 4) (L_ 5) (L_ 7) (L_ 9) Wd := hG
        exact DV.dr (dx_load rfl ty_one_24 rfl ((hG.2.1 (hn 9 (by decide))).cell (k := 4) rfl)) ⟨rel_o (by decide) (by decide) (by decide) (Below.refl _ _), hG, rfl⟩
      refine ⟨fun L_ Wd hl hn hG => ?_, ?_⟩
      ·
        replace hG : H2 true W41 V D (.slice (some ⟨B0, 0, none⟩) (ts.map encT).length (ts.map encT).length) (ts.map encT) [.int .i64 t18.kind, .int .i64 t18.num, .string t18.text, t18.nv, t18.iv] (L_ 4) (L_ 5) (L_ 7) (L_ 9) Wd := hG
        exact DV.dr (dx_loadN (cs := [.int .i64 t18.kind, .int .i64 t18.num, .string t18.text, t18.nv, t18.iv]) rfl ty_agg_26_5 rfl (k43.chgV hG.1 k43.lt n38.symm (by have := k43.lt; omega)).range rfl) ⟨rel_o (by decide) (by decide) (by decide) (Below.refl _ _), hG, rfl⟩
      refine ⟨fun L_ Wd hl hn hG => ?_, ?_⟩
      ·
        replace hG : H2 true W41 V D (.slice (some ⟨B0, 0, none⟩) (ts.map encT).length (ts.map encT).length) (ts.map encT) [.int .i64 t18.kind, .int .i64 t18.num, .string t18.text, t18.nv, t18.iv] (L_ 4) (L_ 5) (L_ 7) (L_ 9) Wd := hG
        exact DV.dr (dx_len rfl Try.underlying24 rfl) ⟨rel_o (by decide) (by decide) (by decide) (Below.refl _ _), hG, rfl⟩
      refine ⟨fun L_ Wd hl hn hG => ?_, ?_⟩
      ·
        replace hG : H2 true W41 V D (.slice (some ⟨B0, 0, none⟩) (ts.map encT).length (ts.map encT).length) (ts.map encT) [.int .i64 t18.kind, .int .i64 t18.num, .string t18.text, t18.nv, t18.iv] (L_ 4) (L_ 5) (L_ 7) (L_ 9) Wd := hG
        have h5_ := hn 5 (by decide)
        rw [hl, h5_] at hG
        refine (dx_lit1X (r := zR) rfl ty_ap_24 (by decide) (by decide) rfl rfl rfl).mono ?_
        rintro u W_ ⟨⟨k1_, k2_, k3_⟩, k4_⟩
        have hs0_ := hG.1.size
        refine ⟨rel_o (by decide) (by decide) (by decide) k2_, ?_, ⟨Wd.heap.size, ?_, ?_, hs0_, k1_⟩⟩
        · show H2 _ _ _ _ _ _ _ true (L_ 5) (L_ 7) (L_ 9) _
          rw [h5_]
          exact lit2 hG k2_ k4_
        · have := hG.2.2.1 rfl; rw [if_pos rfl, if_neg (by decide)] at this; omega
        · have := hV.lt; omega
      refine ⟨fun L_ Wd hl hn hG => ?_, ?_⟩
      ·
        intro u4 q4 u4 q4
        replace hG : H2 true W41 V D (.slice (some ⟨B0, 0, none⟩) (ts.map encT).length (ts.map encT).length) (ts.map encT) [.int .i64 t18.kind, .int .i64 t18.num, .string t18.text, t18.nv, t18.iv] (L_ 4) (L_ 5) (L_ 7) (L_ 9) Wd := hG
        have h7_ := hn 7 (by decide)
        have h9_ := hn 9 (by decide)
        rw [hl, h7_, h9_] at hG
        obtain ⟨B4, e1_, e2_, e3_, e4_⟩ := q4
        have e5_ := e4_.lt
        have hz_ := hG.2.2.1 rfl
        rw [if_pos rfl] at hz_
        have hz2_ : Wd.heap.size = D := by rw [hz_] at e5_ ⊢; split at e5_ <;> split <;> omega
        refine (dx_apF (rs := (ts.map encT)) (L := []) rfl ty_ap_24 rfl rfl (((hO.chgV hG.1 hO.lt hB0V (by have := hO.lt; omega)).rd (L := []) (by simp))) (e4_.rd (L := []) (by simp)) (by simp) (by simp [maxLen] <;> omega) (by simp <;> omega)).mono ?_
        rintro u W_ ⟨k1_, k2_, k3_⟩
        rw [hz2_] at k1_
        refine ⟨(by unfold rel2; rw [if_pos rfl]; exact k2_), ?_, ⟨zR, k1_⟩⟩
        show H2 _ _ _ _ _ _ _ (L_ 4) true (L_ 7) (L_ 9) _
        rw [h7_, h9_]
        exact app2 hDV hG k2_
      refine ⟨fun L_ Wd hl hn hG => ?_, ?_⟩
      ·
        intro u5 q5 u4 q4 u5 q5
        replace hG : H2 true W41 V D (.slice (some ⟨B0, 0, none⟩) (ts.map encT).length (ts.map encT).length) (ts.map encT) [.int .i64 t18.kind, .int .i64 t18.num, .string t18.text, t18.nv, t18.iv] (L_ 4) (L_ 5) (L_ 7) (L_ 9) Wd := hG
        obtain ⟨r_, h5_⟩ := q5
        exact DV.dr (dx_idxO (ts.map encT).length rfl ty_slice_24 rfl rfl h5_ rfl (by simp) rfl) ⟨rel_o (by decide) (by decide) (by decide) (Below.refl _ _), hG, rfl⟩
      refine ⟨fun L_ Wd hl hn hG => ?_, ?_⟩
      ·
        intro u5 q5 u4 q4 u5 q5
        replace hG : H2 true W41 V D (.slice (some ⟨B0, 0, none⟩) (ts.map encT).length (ts.map encT).length) (ts.map encT) [.int .i64 t18.kind, .int .i64 t18.num, .string t18.text, t18.nv, t18.iv] (L_ 4) (L_ 5) (L_ 7) (L_ 9) Wd := hG
        have hq_ := q5
        obtain ⟨r_, h5_⟩ := q5
        refine (dx_storeO (k := (ts.map encT).length) (r := [.int .i64 t18.kind, .int .i64 t18.num, .string t18.text, t18.nv, t18.iv]) rfl ty_size_26_5 rfl rfl rfl (oc_cons rfl (oc_cons rfl (oc_cons rfl (oc_cons (hw21.1).one (oc_cons (hw21.2.1).one oc_nil))))) h5_ rfl (by simp) rfl).mono ?_
        rintro _ W_ ⟨k1_, k2_⟩
        rw [show ((ts.map encT) ++ [r_]).set (ts.map encT).length [.int .i64 t18.kind, .int .i64 t18.num, .string t18.text, t18.nv, t18.iv] = (ts.map encT) ++ [[.int .i64 t18.kind, .int .i64 t18.num, .string t18.text, t18.nv, t18.iv]] from set_last] at k1_
        have hs_ : ∀ u r, OwS 5 Wd u ((ts.map encT) ++ [r]) D → OwS 5 W_ u ((ts.map encT) ++ [[.int .i64 t18.kind, .int .i64 t18.num, .string t18.text, t18.nv, t18.iv]]) D := fun u r h => by have e_ := h5_.uniq h (by simp); rw [← e_]; exact k1_
        rw [hl] at hG
        refine ⟨(by unfold rel2; rw [if_neg (by decide), if_pos rfl]; exact ⟨k2_, hs_⟩), ?_, trivial⟩
        show H2 _ _ _ _ _ _ _ (L_ 4) (L_ 5) true (L_ 9) _
        exact row3 (c := 0) hDV (fun h => (by cases h)) hG k2_ hs_ ⟨_, r_, h5_⟩
      refine ⟨fun L_ Wd hl hn hG => ?_, ?_⟩
      ·
        intro u4 q4 u5 q5
        replace hG : H2 true W41 V D (.slice (some ⟨B0, 0, none⟩) (ts.map encT).length (ts.map encT).length) (ts.map encT) [.int .i64 t18.kind, .int .i64 t18.num, .string t18.text, t18.nv, t18.iv] (L_ 4) (L_ 5) (L_ 7) (L_ 9) Wd := hG
        exact DV.dr (dx_fld (o1 := 4) rfl ty_fld_26_4_4 rfl rfl) ⟨rel_o (by decide) (by decide) (by decide) (Below.refl _ _), hG, rfl⟩
      refine ⟨fun L_ Wd hl hn hG => ?_, ?_⟩
      ·
        intro u5 q5 u5 q5 u4 q4 u5 q5
        replace hG : H2 true W41 V D (.slice (some ⟨B0, 0, none⟩) (ts.map encT).length (ts.map encT).length) (ts.map encT) [.int .i64 t18.kind, .int .i64 t18.num, .string t18.text, t18.nv, t18.iv] (L_ 4) (L_ 5) (L_ 7) (L_ 9) Wd := hG
        obtain ⟨r_, h5_⟩ := q5
        rw [hl] at hG
        refine (dx_store (cs' := vC u5) (vs := [u5]) rfl ty_size_24_1 rfl rfl (oc_one h5_.one) (oc_cons h5_.one oc_nil) (hG.2.1 rfl) rfl (Nat.le_of_ble_eq_true rfl) rfl).mono ?_
        rintro _ W_ ⟨k1_, k2_⟩
        refine ⟨(by unfold rel2; rw [if_neg (by decide), if_neg (by decide), if_pos rfl]; exact k2_), ?_, trivial⟩
        show H2 _ _ _ _ _ _ _ (L_ 4) (L_ 5) (L_ 7) true _
        exact put3 hDV hG k2_ k1_ h5_
      exact trivial
    ·
      intro We hGe
      obtain ⟨hc, uN, hVe, hOe⟩ := end2 (show H2 true W41 V D (.slice (some ⟨B0, 0, none⟩) (ts.map encT).length (ts.map encT).length) (ts.map encT) [.int .i64 t18.kind, .int .i64 t18.num, .string t18.text, t18.nv, t18.iv] true true true true We from hGe)
      intro u4 q4 u5 q5 _ _ _ _
      have hts_ : ∀ c ∈ ts, RdT (n + 1) (D :: L) We c := fun c hc_ => (((hts c hc_).less (fun x hx => .tail _ (.tail _ hx))).more (Below.refl _ _) (show W41.heap.size ≤ D by omega)).inner hc hVL
      have ht_ : RdT (n + 1) (D :: L) We t18 := ((hw21.less (fun x hx => .tail _ (.tail _ hx))).more (Below.refl _ _) (show W41.heap.size ≤ D by omega)).inner hc hVL
      replace hp31 := hp31.chgV hc hp31.lt hVP.symm (by have := hp31.lt; omega)
      replace hBp := hBp.chgV hc hBp.lt hBV (by have := hBp.lt; omega)
      replace hB := hB.inner hc (Nat.le_trans hbw hB.size) hbD
      refine Ni (hK44 (Sq fun K45 hK45 => (Rg (Pu rfl (Pu rfl (Ni (hK45 ?_)))))))
      exact WC.ret fun a_ ha_ => hQ (cx_ret1 rfl (.tmp rfl) (.inl ⟨k16, ts.map Tr.er ++ [t18.er], rfl, (by unfold oneL; rw [hw20]), by omega, by omega, (by rw [List.length_append, List.length_map]; show ts.length + 1 ≤ _; omega), ⟨uN, ts ++ [t18], by simp, hBp, hVe, hI0, .inr ⟨D, hbD, (by rw [List.map_append]; exact hOe), fun c hc_ => (by rcases List.mem_append.1 hc_ with h_ | h_; exact hts_ c h_; (rw [List.mem_singleton.1 h_]; exact ht_))⟩⟩, hp31⟩) hB ha_)
  ·
    replace hts := hts.chgL g29 (.tail _ hPL)
    replace hV := hV.chg g29 hVP
    replace hO := hO.chgL g29 hB0P
    replace hB := hB.chg g29 (Nat.le_trans hbw hB.size)
    refine Pu rfl (Pu rfl (Pu rfl ?_))
    refine Ge (dx_alloc rfl ty_zero_26 rfl) rfl rfl ?_
    rintro _ W46 ⟨rfl, k47, b48, z49⟩
    have n50 : P ≠ W30.heap.size := Nat.ne_of_lt hp31.lt
    have n52 : V ≠ W30.heap.size := Nat.ne_of_lt hV.lt
    have n53 : B0 ≠ W30.heap.size := Nat.ne_of_lt hO.lt
    have l54 := hB.size
    replace hts := hts.more b48 (Nat.le_refl _)
    replace hp31 := hp31.below b48
    replace hV := hV.below b48
    replace hO := hO.below b48
    replace hB := hB.both (.of_below (b48.mono (Nat.le_trans hbw hB.size)))
    refine WL.do (dx_store (cs' := zV) (vs := zV) rfl ty_size_26_5 rfl rfl rfl (oc_cons rfl (oc_cons rfl (oc_cons rfl (oc_cons rfl (oc_cons rfl oc_nil))))) k47 rfl (Nat.le_of_ble_eq_true rfl) rfl) rfl ?_
    rintro _ W55 ⟨k57, o56⟩
    replace hp31 := hp31.other o56 n50
    replace hV := hV.other o56 n52
    replace hO := hO.other o56 n53
    clear k47
    replace hts := hts.only o56 (.head _)
    replace hB := hB.both (.of_only o56 (.inr (.inr (Nat.le_trans hbw l54))))
    refine Pu rfl (Ni (hK2 (Sq fun K58 hK58 => ?_)))
    have hsW := hB.size
    obtain ⟨D, hD⟩ : ∃ D, D = W55.heap.size + 1 := ⟨_, rfl⟩
    have hDV : D ≠ V := by have := hV.lt; omega
    have hbD : b ≤ D := by omega
    refine WC.drawL (fun L_ W_ => H2 true W55 V D (.slice (some ⟨B0, 0, none⟩) (ts.map encT).length (ts.map encT).length) (ts.map encT) [.int .i64 0, .int .i64 0, .string ⟨#[]⟩, .slice none 0 0, .slice none 0 0] (L_ 4) (L_ 5) (L_ 7) (L_ 9) W_) 10 (rel2 true V D (ts.map encT) [.int .i64 0, .int .i64 0, .string ⟨#[]⟩, .slice none 0 0, .slice none 0 0]) (sd2 W55 V D (ts.map encT).length (.slice (some ⟨B0, 0, none⟩) (ts.map encT).length (ts.map encT).length) (ts.map encT) [.int .i64 0, .int .i64 0, .string ⟨#[]⟩, .slice none 0 0, .slice none 0 0]) [[], [0], [], [1], [], [1, 4, 0, 1, 2, 3, 4], [5, 3, 0, 1, 2, 3, 4, 5], [6, 2, 5, 0, 1, 2, 3, 4, 5], [0, 1, 2, 3, 4, 5], [8, 5, 5, 0, 1, 2, 3, 4, 5]] (by kernel_rfl) (by kernel_rfl) (by kernel_rfl) (by kernel_rfl) (by kernel_rfl) (by kernel_rfl) (by kernel_rfl) (begin2 hV (fun h => by cases h)) (mono2 hDV) ?_ ?_
    ·
      refine ⟨fun L_ Wd hl hn hG => ?_, ?_⟩
      ·
        replace hG : H2 true W55 V D (.slice (some ⟨B0, 0, none⟩) (ts.map encT).length (ts.map encT).length) (ts.map encT) [.int .i64 0, .int .i64 0, .string ⟨#[]⟩, .slice none 0 0, .slice none 0 0] (L_ 4) (L_ 5) (L_ 7) (L_ 9) Wd := hG
        exact DV.dr (dx_fld (o1 := 4) rfl ty_fld_26_4_4 rfl rfl) ⟨rel_o (by decide) (by decide) (by decide) (Below.refl _ _), hG, rfl⟩
      refine ⟨fun L_ Wd hl hn hG => ?_, ?_⟩
      ·
        replace hG : H2 true W55 V D (.slice (some ⟨B0, 0, none⟩) (ts.map encT).length (ts.map encT).length) (ts.map encT) [.int .i64 0, .int .i64 0, .string ⟨#[]⟩, .slice none 0 0, .slice none 0 0] (L_ 4) (L_ 5) (L_ 7) (L_ 9) Wd := hG
        exact DV.dr (dx_load rfl ty_one_24 rfl ((hG.2.1 (hn 9 (by decide))).cell (k := 4) rfl)) ⟨rel_o (by decide) (by decide) (by decide) (Below.refl _ _), hG, rfl⟩
      refine ⟨fun L_ Wd hl hn hG => ?_, ?_⟩
      ·
        replace hG : H2 true W55 V D (.slice (some ⟨B0, 0, none⟩) (ts.map encT).length (ts.map encT).length) (ts.map encT) [.int .i64 0, .int .i64 0, .string ⟨#[]⟩, .slice none 0 0, .slice none 0 0] (L_ 4) (L_ 5) (L_ 7) (L_ 9) Wd := hG
        exact DV.dr (dx_loadN (cs := zV) rfl ty_agg_26_5 rfl (k57.chgV hG.1 k57.lt n52.symm (by have := k57.lt; omega)).range rfl) ⟨rel_o (by decide) (by decide) (by decide) (Below.refl _ _), hG, rfl⟩
      refine ⟨fun L_ Wd hl hn hG => ?_, ?_⟩
      ·
        replace hG : H2 true W55 V D (.slice (some ⟨B0, 0, none⟩) (ts.map encT).length (ts.map encT).length) (ts.map encT) [.int .i64 0, .int .i64 0, .string ⟨#[]⟩, .slice none 0 0, .slice none 0 0] (L_ 4) (L_ 5) (L_ 7) (L_ 9) Wd := hG
        exact DV.dr (dx_len rfl Try.underlying24 rfl) ⟨rel_o (by decide) (by decide) (by decide) (Below.refl _ _), hG, rfl⟩
      refine ⟨fun L_ Wd hl hn hG => ?_, ?_⟩
      ·
        replace hG : H2 true W55 V D (.slice (some ⟨B0, 0, none⟩) (ts.map encT).length (ts.map encT).length) (ts.map encT) [.int .i64 0, .int .i64 0, .string ⟨#[]⟩, .slice none 0 0, .slice none 0 0] (L_ 4) (L_ 5) (L_ 7) (L_ 9) Wd := hG
        have h5_ := hn 5 (by decide)
        rw [hl, h5_] at hG
        refine (dx_lit1X (r := zR) rfl ty_ap_24 (by decide) (by decide) rfl rfl rfl).mono ?_
        rintro u W_ ⟨⟨k1_, k2_, k3_⟩, k4_⟩
        have hs0_ := hG.1.size
        refine ⟨rel_o (by decide) (by decide) (by decide) k2_, ?_, ⟨Wd.heap.size, ?_, ?_, hs0_, k1_⟩⟩
        · show H2 _ _ _ _ _ _ _ true (L_ 5) (L_ 7) (L_ 9) _
          rw [h5_]
          exact lit2 hG k2_ k4_
        · have := hG.2.2.1 rfl; rw [if_pos rfl, if_neg (by decide)] at this; omega
        · have := hV.lt; omega
      refine ⟨fun L_ Wd hl hn hG => ?_, ?_⟩
      ·
        intro u4 q4 u4 q4
        replace hG : H2 true W55 V D (.slice (some ⟨B0, 0, none⟩) (ts.map encT).length (ts.map encT).length) (ts.map encT) [.int .i64 0, .int .i64 0, .string ⟨#[]⟩, .slice none 0 0, .slice none 0 0] (L_ 4) (L_ 5) (L_ 7) (L_ 9) Wd := hG
        have h7_ := hn 7 (by decide)
        have h9_ := hn 9 (by decide)
        rw [hl, h7_, h9_] at hG
        obtain ⟨B4, e1_, e2_, e3_, e4_⟩ := q4
        have e5_ := e4_.lt
        have hz_ := hG.2.2.1 rfl
        rw [if_pos rfl] at hz_
        have hz2_ : Wd.heap.size = D := by rw [hz_] at e5_ ⊢; split at e5_ <;> split <;> omega
        refine (dx_apF (rs := (ts.map encT)) (L := []) rfl ty_ap_24 rfl rfl (((hO.chgV hG.1 hO.lt hB0V (by have := hO.lt; omega)).rd (L := []) (by simp))) (e4_.rd (L := []) (by simp)) (by simp) (by simp [maxLen] <;> omega) (by simp <;> omega)).mono ?_
        rintro u W_ ⟨k1_, k2_, k3_⟩
        rw [hz2_] at k1_
        refine ⟨(by unfold rel2; rw [if_pos rfl]; exact k2_), ?_, ⟨zR, k1_⟩⟩
        show H2 _ _ _ _ _ _ _ (L_ 4) true (L_ 7) (L_ 9) _
        rw [h7_, h9_]
        exact app2 hDV hG k2_
      refine ⟨fun L_ Wd hl hn hG => ?_, ?_⟩
      ·
        intro u5 q5 u4 q4 u5 q5
        replace hG : H2 true W55 V D (.slice (some ⟨B0, 0, none⟩) (ts.map encT).length (ts.map encT).length) (ts.map encT) [.int .i64 0, .int .i64 0, .string ⟨#[]⟩, .slice none 0 0, .slice none 0 0] (L_ 4) (L_ 5) (L_ 7) (L_ 9) Wd := hG
        obtain ⟨r_, h5_⟩ := q5
        exact DV.dr (dx_idxO (ts.map encT).length rfl ty_slice_24 rfl rfl h5_ rfl (by simp) rfl) ⟨rel_o (by decide) (by decide) (by decide) (Below.refl _ _), hG, rfl⟩
      refine ⟨fun L_ Wd hl hn hG => ?_, ?_⟩
      ·
        intro u5 q5 u4 q4 u5 q5
        replace hG : H2 true W55 V D (.slice (some ⟨B0, 0, none⟩) (ts.map encT).length (ts.map encT).length) (ts.map encT) [.int .i64 0, .int .i64 0, .string ⟨#[]⟩, .slice none 0 0, .slice none 0 0] (L_ 4) (L_ 5) (L_ 7) (L_ 9) Wd := hG
        have hq_ := q5
        obtain ⟨r_, h5_⟩ := q5
        refine (dx_storeO (k := (ts.map encT).length) (r := [.int .i64 0, .int .i64 0, .string ⟨#[]⟩, .slice none 0 0, .slice none 0 0]) rfl ty_size_26_5 rfl rfl rfl (oc_cons rfl (oc_cons rfl (oc_cons rfl (oc_cons rfl (oc_cons rfl oc_nil))))) h5_ rfl (by simp) rfl).mono ?_
        rintro _ W_ ⟨k1_, k2_⟩
        rw [show ((ts.map encT) ++ [r_]).set (ts.map encT).length [.int .i64 0, .int .i64 0, .string ⟨#[]⟩, .slice none 0 0, .slice none 0 0] = (ts.map encT) ++ [[.int .i64 0, .int .i64 0, .string ⟨#[]⟩, .slice none 0 0, .slice none 0 0]] from set_last] at k1_
        have hs_ : ∀ u r, OwS 5 Wd u ((ts.map encT) ++ [r]) D → OwS 5 W_ u ((ts.map encT) ++ [[.int .i64 0, .int .i64 0, .string ⟨#[]⟩, .slice none 0 0, .slice none 0 0]]) D := fun u r h => by have e_ := h5_.uniq h (by simp); rw [← e_]; exact k1_
        rw [hl] at hG
        refine ⟨(by unfold rel2; rw [if_neg (by decide), if_pos rfl]; exact ⟨k2_, hs_⟩), ?_, trivial⟩
        show H2 _ _ _ _ _ _ _ (L_ 4) (L_ 5) true (L_ 9) _
        exact row3 (c := 0) hDV (fun h => (by cases h)) hG k2_ hs_ ⟨_, r_, h5_⟩
      refine ⟨fun L_ Wd hl hn hG => ?_, ?_⟩
      ·
        intro u4 q4 u5 q5
        replace hG : H2 true W55 V D (.slice (some ⟨B0, 0, none⟩) (ts.map encT).length (ts.map encT).length) (ts.map encT) [.int .i64 0, .int .i64 0, .string ⟨#[]⟩, .slice none 0 0, .slice none 0 0] (L_ 4) (L_ 5) (L_ 7) (L_ 9) Wd := hG
        exact DV.dr (dx_fld (o1 := 4) rfl ty_fld_26_4_4 rfl rfl) ⟨rel_o (by decide) (by decide) (by decide) (Below.refl _ _), hG, rfl⟩
      refine ⟨fun L_ Wd hl hn hG => ?_, ?_⟩
      ·
        intro u5 q5 u5 q5 u4 q4 u5 q5
        replace hG : H2 true W55 V D (.slice (some ⟨B0, 0, none⟩) (ts.map encT).length (ts.map encT).length) (ts.map encT) [.int .i64 0, .int .i64 0, .string ⟨#[]⟩, .slice none 0 0, .slice none 0 0] (L_ 4) (L_ 5) (L_ 7) (L_ 9) Wd := hG
        obtain ⟨r_, h5_⟩ := q5
        rw [hl] at hG
        refine (dx_store (cs' := vC u5) (vs := [u5]) rfl ty_size_24_1 rfl rfl (oc_one h5_.one) (oc_cons h5_.one oc_nil) (hG.2.1 rfl) rfl (Nat.le_of_ble_eq_true rfl) rfl).mono ?_
        rintro _ W_ ⟨k1_, k2_⟩
        refine ⟨(by unfold rel2; rw [if_neg (by decide), if_neg (by decide), if_pos rfl]; exact k2_), ?_, trivial⟩
        show H2 _ _ _ _ _ _ _ (L_ 4) (L_ 5) (L_ 7) true _
        exact put3 hDV hG k2_ k1_ h5_
      exact trivial
    ·
      intro We hGe
      obtain ⟨hc, uN, hVe, hOe⟩ := end2 (show H2 true W55 V D (.slice (some ⟨B0, 0, none⟩) (ts.map encT).length (ts.map encT).length) (ts.map encT) [.int .i64 0, .int .i64 0, .string ⟨#[]⟩, .slice none 0 0, .slice none 0 0] true true true true We from hGe)
      intro u4 q4 u5 q5 _ _ _ _
      have hts_ : ∀ c ∈ ts, RdT (n + 1) (D :: L) We c := fun c hc_ => (((hts c hc_).less (fun x hx => .tail _ (.tail _ hx))).more (Below.refl _ _) (show W55.heap.size ≤ D by omega)).inner hc hVL
      replace hp31 := hp31.chgV hc hp31.lt hVP.symm (by have := hp31.lt; omega)
      replace hB := hB.inner hc (Nat.le_trans hbw hB.size) hbD
      refine Ni (hK58 (Sq fun K59 hK59 => (Rg (Pu rfl (Pu rfl (Ni (hK59 ?_)))))))
      exact WC.ret fun a_ ha_ => hQ (cx_ret1 rfl (.tmp rfl) (.inr ⟨k17, e19, rfl, hw24, (by unfold oneL; rw [hw25]), by omega, ⟨vC uN, rfl, (oc_cons rfl (oc_cons rfl (oc_cons rfl (oc_cons rfl (oc_cons hOe.one oc_nil))))), hVe⟩, hp31⟩) hB ha_)

def noT : Tr := .mk 0 0 ⟨#[]⟩ (.slice none 0 0) [] (.slice none 0 0) []
theorem noT_rd (n : Nat) (L : List Nat) (w : World) : RdT (n + 1) L w noT := ⟨RdF.nil (by decide), RdF.nil (by decide), fun c hc => by cases hc⟩
def getT (t : Tr) (name : ByteArray) : Tr × Bool := if t.kind = 6 ∧ 0 ≤ idxX (fun x => decide (name = x)) t.names 0 ∧ (idxX (fun x => decide (name = x)) t.names 0).toNat < t.items.length then ((t.items[(idxX (fun x => decide (name = x)) t.names 0).toNat]?).getD noT, true) else (noT, false)
theorem getT_mem (t : Tr) (name : ByteArray) : (getT t name).1 = noT ∨ (getT t name).1 ∈ t.items := by
  unfold getT
  split
  · rename_i h
    right
    show (t.items[_]?).getD noT ∈ t.items
    rw [List.getElem?_eq_getElem h.2.2]
    exact List.getElem_mem _
  · exact .inl rfl
theorem getT_rd {n : Nat} {L : List Nat} {w : World} {t : Tr} (h : RdT (n + 1) L w t) (name : ByteArray) : RdT (n + 1) L w (getT t name).1 := by
 rcases getT_mem t name with e | e
 · rw [e]; exact noT_rd _ _ _
 · exact (h.2.2 _ e).up
noncomputable def eqJ (a b : Js) : Bool := (Classical.propDecidable (a = b)).decide
theorem eqJ_t {a b : Js} (h : a = b) : eqJ a b = true := by
 unfold eqJ
 exact @decide_eq_true _ (Classical.propDecidable _) h
theorem eqJ_f {a b : Js} (h : a ≠ b) : eqJ a b = false := by
 unfold eqJ
 exact @decide_eq_false _ (Classical.propDecidable _) h
theorem er_eq {a b : Tr} (h1 : a.kind = b.kind) (h2 : a.num = b.num) (h3 : a.text = b.text) (h4 : a.names = b.names) (h5 : a.items.length = b.items.length) (h6 : ∀ (k : Nat) (c d : Tr), a.items[k]? = some c → b.items[k]? = some d → c.er = d.er) : a.er = b.er := by
 refine Js.ext (by rw [er_kind, er_kind, h1]) (by rw [er_num, er_num, h2]) (by rw [er_text, er_text, h3]) (by rw [er_names, er_names, h4]) ?_
 rw [er_items, er_items]
 refine List.ext_getElem? fun k => ?_
 rw [List.getElem?_map, List.getElem?_map]
 cases ha : a.items[k]? with
 | none =>
  have := List.getElem?_eq_none_iff.1 ha
  rw [List.getElem?_eq_none (by omega)]
 | some c =>
  have hk := (List.getElem?_eq_some_iff.1 ha).1
  rw [List.getElem?_eq_getElem (by omega : k < b.items.length)]
  show some c.er = some _
  rw [h6 k c _ ha (List.getElem?_eq_getElem (by omega : k < b.items.length))]
theorem er_parts {a b : Tr} (h : a.er = b.er) : a.kind = b.kind ∧ a.num = b.num ∧ a.text = b.text ∧ a.names = b.names ∧ a.items.map Tr.er = b.items.map Tr.er := by
 refine ⟨by rw [← er_kind, h, er_kind], by rw [← er_num, h, er_num], by rw [← er_text, h, er_text], by rw [← er_names, h, er_names], by rw [← er_items, h, er_items]⟩
theorem er_len {a b : Tr} (h : a.er = b.er) : a.items.length = b.items.length := by
 have := congrArg List.length (er_parts h).2.2.2.2
 rwa [List.length_map, List.length_map] at this
theorem er_item {a b : Tr} (h : a.er = b.er) {k : Nat} {c d : Tr} (hc : a.items[k]? = some c) (hd : b.items[k]? = some d) : c.er = d.er := by
 have := congrArg (fun l : List Js => l[k]?) (er_parts h).2.2.2.2
 simp only [List.getElem?_map, hc, hd, Option.map_some, Option.some.injEq] at this
 exact this
theorem maxJ_step {f : Js → Nat} {l : List Tr} {i : Nat} {r : Tr} (h : l[i]? = some r) : maxJ f ((l.take (i + 1)).map Tr.er) = max (maxJ f ((l.take i).map Tr.er)) (f r.er) := by
 rw [List.take_add_one, h, List.map_append, maxJ_app]
 simp [maxJ]
theorem maxJ_take {f : Js → Nat} (l : List Tr) (i : Nat) : maxJ f ((l.take i).map Tr.er) ≤ maxJ f (l.map Tr.er) := by
 have := maxJ_app f ((l.take i).map Tr.er) ((l.drop i).map Tr.er)
 rw [← List.map_append, List.take_append_drop] at this
 omega
theorem deep_leaf {n : Nat} {t : Tr} (h5 : t.kind ≠ 5) (h6 : t.kind ≠ 6) : deepJ n t.er = 0 := by
 cases n with
 | zero => rfl
 | succ n => rw [deepJ, er_kind, if_neg (by omega)]
theorem deep_node {n : Nat} {t : Tr} (h : t.kind = 5 ∨ t.kind = 6) : deepJ (n + 1) t.er = 1 + maxJ (deepJ n) (t.items.map Tr.er) := by
 rw [deepJ, er_kind, if_pos h, er_items]
set_option maxHeartbeats 1000000 in
theorem jRight_v (n : Nat) (t : Tr) (w : World) (L : List Nat) (hL : LL L w) (ht : RdT (n + 1) L w t)  (hz : SzT 1000000 (n + 1) t) : CV Try.prog 15 [.agg #[.int .i64 t.kind, .int .i64 t.num, .string t.text, t.nv, t.iv]] w fun v W => v = .bool (rightJ upB 12 t.er) := by
 refine cv_enter (N := 4) (f := [(0, .agg #[.int .i64 t.kind, .int .i64 t.num, .string t.text, t.nv, t.iv])]) Try.func15 rfl rfl rfl rfl fun Q hQ hE => ?_
 have hB := Below.refl w.heap.size w
 refine Sq fun K1 hK1 => ?_
 obtain ⟨hnt, hit, hct⟩ := ht
 replace hct : RdTs n (L) w t.items := hct
 refine Rg ?_
 refine Ge (dx_box rfl rfl rfl) rfl rfl ?_
 rintro _ W2 ⟨rfl, k3, b4, z5⟩
 have l6 := hB.size
 replace hnt := hnt.more b4 (Nat.le_refl _)
 replace hit := hit.more b4 (Nat.le_refl _)
 replace hct := hct.more b4 (Nat.le_refl _)
 replace hB := below_then hB b4
 refine Pu rfl (Ni (hK1 (Sq fun K7 hK7 => (Rg ?_))))
 refine Ge (dx_cv rfl Try.func40 rfl rfl rfl (right_all (n + 1) t 12 _ W2 [] (LL.nil _) ((show RdT (n + 1) (w.heap.size :: L) W2 t from ⟨hnt, hit, hct⟩).less (fun x hx => by cases hx)) ⟨Nat.succ_pos _, w.heap.size, 0, rfl, by simp, k3.range⟩ hz (by decide))) rfl rfl ?_
 rintro _ W9 ⟨rfl, b8⟩
 replace hB := below_then hB b8
 refine Pu rfl (Ni (hK7 ?_))
 exact WC.ret fun a_ ha_ => hQ (cv_ret1 rfl (.tmp rfl) rfl hB ha_)

abbrev DeepAt (n : Nat) : Prop := ∀ (t : Tr) (most : Nat) (u : Value) (w : World) (L : List Nat), LL L w → RdT n L w t → PtR L w u (encT t) → most ≤ 100 → CV Try.prog 43 [u, .int .i64 (most : Int)] w fun v W => v = .int .i64 (deepJ most t.er : Nat)
set_option maxHeartbeats 1000000 in
theorem deep_step (n : Nat) (ih : DeepAt n) (t : Tr) (most : Nat) (u : Value) (w : World) (L : List Nat) (hL : LL L w) (ht : RdT (n + 1) L w t) (hu : PtR L w u (encT t))  (hrm : most ≤ 100) : CV Try.prog 43 [u, .int .i64 (most : Int)] w fun v W => v = .int .i64 (deepJ most t.er : Nat) := by
 refine cv_enter (N := 49) (f := [(0, u), (1, .int .i64 (most : Int))]) Try.func43 rfl rfl rfl rfl fun Q hQ hE => ?_
 have hB := Below.refl w.heap.size w
 refine Sq fun K1 hK1 => ?_
 obtain ⟨hnt, hit, hct⟩ := ht
 replace hct : RdTs n (L) w t.items := hct
 have hil0 := hit.len
 rw [List.length_map] at hil0
 unfold maxLen at hil0
 rcases (show t.kind = 5 ∨ t.kind = 6 ∨ (t.kind ≠ 5 ∧ t.kind ≠ 6) by omega) with hkt | hkt | hkt
 ·
  refine Rg (Pu rfl (Ni (hK1 (Sq fun K2 hK2 => (Sq fun K3 hK3 => ?_)))))
  cases most with
  | zero =>
   refine Rg (Pu rfl (Va (dv_T (dx_eql rfl rfl rfl) (by omega)) rfl rfl (Pu rfl (Of rfl (Of rfl (Of rfl (Of rfl ?_)))))))
   refine Of rfl (Of rfl (Of rfl (Of rfl (Of rfl (Of rfl (Of rfl (Of rfl ?_)))))))
   refine Pu rfl (Ni (hK3 (WC.condT rfl (Sq fun K4 hK4 => (Rg (Pu rfl (Ni ?_)))))))
   refine hK4 ?_
   exact WC.ret fun a_ ha_ => hQ (cv_ret1 rfl (.tmp rfl) rfl hB ha_)
  | succ m =>
   refine Rg (Pu rfl (Va (dv_N (dx_eql rfl rfl rfl) (by omega)) rfl rfl (Pu rfl (Pu rfl (Va (dx_nilP rfl rfl hu) rfl rfl ?_)))))
   refine Ge (dx_fldP 1 rfl ty_fld_26_0_0 rfl hu (cs' := [.int .i64 t.kind]) rfl (Nat.succ_pos _)) rfl rfl ?_
   rintro u5 _ ⟨rfl, p6⟩
   refine Va ((hkt ▸ dx_loadP rfl ty_one_3 rfl p6)) rfl rfl (Va (dx_neq rfl rfl rfl) rfl rfl (Pu rfl (Of rfl (Of rfl (Of rfl (Of rfl (Of rfl ?_)))))))
   refine Pu rfl (Pu rfl (Ni (hK3 (WC.condF rfl (WC.skip (hK2 (Sq fun K7 hK7 => ?_)))))))
   refine Rg (Pu rfl (Ni (hK7 (Sq fun K8 hK8 => (Sq fun K9 hK9 => (Rg (Pu rfl ?_)))))))
   refine Va (dx_nilP rfl rfl hu) rfl rfl ?_
   refine Ge (dx_fldP 1 rfl ty_fld_26_4_4 rfl hu (cs' := [t.iv]) rfl (Nat.succ_pos _)) rfl rfl ?_
   rintro u10 _ ⟨rfl, p11⟩
   refine Va (dx_loadP rfl ty_one_24 rfl p11) rfl rfl (Va (dx_lenFM rfl ty_slice_24 rfl hit) rfl rfl (Pu rfl (Ni (hK9 (WC.block ?_)))))
   refine WC.loop2 (fun (i : Nat) (b : Nat) => [(0, u), (1, .int .i64 ((m + 1 : Nat) : Int)), (27, .int .i64 (t.items.length : Int)), (28, .int .i64 (i : Int)), (5, .int .i64 (b : Int))]) (fun (i : Nat) (b : Nat) W => i ≤ t.items.length ∧ b = maxJ (deepJ m) ((t.items.take i).map Tr.er) ∧ b ≤ m ∧ Below w.heap.size w W ∧ LL (L) W ∧ PtR (L) W u (encT t) ∧ RdF 1 (L) W t.nv (t.names.map eS) ∧ RdF 5 (L) W t.iv (t.items.map encT) ∧ RdTs n (L) W t.items) (fun (i : Nat) (b : Nat) => t.items.length - i) 0 0 (by repeat first | exact trivial | exact And.intro rfl trivial | refine And.intro rfl ?_ | refine And.intro (congrArg (fun z : Int => some (Value.int .i64 z)) (by omega)) ?_) ⟨Nat.zero_le _, rfl, Nat.zero_le _, hB, hL, hu, hnt, hit, hct⟩ ?_
   clear hu hnt hit hct hB hL
   rintro K12 i b W13 ⟨hi, hb, hbm, hB, hL, hu, hnt, hit, hct⟩ hK12
   refine Sq fun K14 hK14 => (Rg (Va (dx_lss rfl rfl rfl) rfl rfl (Ni (hK14 (Sq fun K15 hK15 => ?_)))))
   refine WC.cond rfl (fun c16 => ?_) (fun c16 => ?_)
   ·
    replace c16 := dT c16
    refine WC.skip (hK15 (Sq fun K17 hK17 => (WC.block (Sq fun K18 hK18 => (Rg (Pu rfl (Pu rfl ?_)))))))
    refine Ni (hK18 (Sq fun K19 hK19 => (Rg (Pu rfl (Pu rfl (Va (dx_nilP rfl rfl hu) rfl rfl ?_))))))
    refine Ge (dx_fldP 1 rfl ty_fld_26_4_4 rfl hu (cs' := [t.iv]) rfl (Nat.succ_pos _)) rfl rfl ?_
    rintro u20 _ ⟨rfl, p21⟩
    refine Va (dx_loadP rfl ty_one_24 rfl p21) rfl rfl (Pu rfl ?_)
    obtain ⟨r22, e23⟩ : ∃ x, t.items[i]? = some x := ⟨_, List.getElem?_eq_getElem (by omega)⟩
    refine Ge (dx_idxF i rfl ty_slice_24 rfl rfl hit (by omega) (at_mapX e23)) rfl rfl ?_
    rintro u24 _ ⟨rfl, p25⟩
    refine Pu rfl (Va (dx_sub (r := (m : Int)) rfl rfl rfl (by rw [wrap64_id (by omega)]; omega)) rfl rfl ?_)
    have hdl := deepJ_le m r22.er
    refine Ge (dx_cv rfl Try.func43 rfl rfl rfl (ih r22 m _ W13 _ hL (hct r22 (List.mem_of_getElem? e23)) p25 (by omega))) rfl rfl ?_
    rintro _ W27 ⟨rfl, b26⟩
    replace hu := hu.below b26
    replace hnt := hnt.below b26
    replace hit := hit.below b26
    replace hct := hct.below b26
    replace hB := below_then hB b26
    replace hL := LL.below hL b26
    refine Va (dx_max rfl rfl rfl) rfl rfl (Pu rfl (Ni (hK19 (Sq fun K28 hK28 => (Rg (Pu rfl (Pu rfl ?_)))))))
    refine Va (dx_sub (r := (m : Int)) rfl rfl rfl (by rw [wrap64_id (by omega)]; omega)) rfl rfl (Va (dx_eql rfl rfl rfl) rfl rfl (Ni (hK28 ?_)))
    refine WC.cond rfl (fun c29 => ?_) (fun c29 => ?_)
    ·
     replace c29 := dT c29
     refine WC.exit ?_
     refine hK8 (Sq fun K30 hK30 => (Rg (Pu rfl (Va (dx_add (r := 1 + (if (b : Int) < ((deepJ m r22.er : Nat) : Int) then ((deepJ m r22.er : Nat) : Int) else (b : Int))) rfl rfl rfl (wrap64_id (by omega))) rfl rfl (Pu rfl (Ni (hK30 ?_)))))))
     exact WC.ret fun a_ ha_ => hQ (cv_ret1 rfl (.tmp rfl) (by rw [deep_node (by first | exact .inl hkt | exact .inr hkt)]; first | (have e0 := maxJ_take (f := deepJ m) t.items i; have e4 : t.items.take i = t.items := List.take_of_length_le (by omega); rw [e4] at hb; exact congrArg (Value.int .i64) (by omega)) | (have e1 := maxJ_step (f := deepJ m) e23; have e2 := maxJ_take (f := deepJ m) t.items (i + 1); have e3 := maxJ_le (f := deepJ m) (k := m) (l := t.items.map Tr.er) (fun j _ => deepJ_le m j); exact congrArg (Value.int .i64) (by omega))) hB ha_)
    ·
     replace c29 := dF c29
     refine WC.skip (hK17 (Rg (Va (dx_add (r := (i : Int) + 1) rfl rfl rfl (wrap64_id (by omega))) rfl rfl (Pu rfl (Ni ?_)))))
     exact hK12 (i + 1) (max b (deepJ m r22.er)) ⟨(by omega), (by rw [maxJ_step e23, ← hb]), (by omega), hB, hL, hu, hnt, hit, hct⟩ (by omega) (by repeat first | exact trivial | exact And.intro rfl trivial | refine And.intro rfl ?_ | refine And.intro (congrArg (fun z : Int => some (Value.int .i64 z)) (by omega)) ?_)
   ·
    replace c16 := dF c16
    refine WC.exit ?_
    refine hK8 (Sq fun K31 hK31 => (Rg (Pu rfl (Va (dx_add (r := 1 + (b : Int)) rfl rfl rfl (wrap64_id (by omega))) rfl rfl (Pu rfl (Ni (hK31 ?_)))))))
    exact WC.ret fun a_ ha_ => hQ (cv_ret1 rfl (.tmp rfl) (by rw [deep_node (by first | exact .inl hkt | exact .inr hkt)]; first | (have e0 := maxJ_take (f := deepJ m) t.items i; have e4 : t.items.take i = t.items := List.take_of_length_le (by omega); rw [e4] at hb; exact congrArg (Value.int .i64) (by omega)) | fail) hB ha_)
 ·
  refine Rg (Pu rfl (Ni (hK1 (Sq fun K32 hK32 => (Sq fun K33 hK33 => ?_)))))
  cases most with
  | zero =>
   refine Rg (Pu rfl (Va (dv_T (dx_eql rfl rfl rfl) (by omega)) rfl rfl (Pu rfl (Of rfl (Of rfl (Of rfl (Of rfl ?_)))))))
   refine Of rfl (Of rfl (Of rfl (Of rfl (Of rfl (Of rfl (Of rfl (Of rfl ?_)))))))
   refine Pu rfl (Ni (hK33 (WC.condT rfl (Sq fun K34 hK34 => (Rg (Pu rfl (Ni ?_)))))))
   refine hK34 ?_
   exact WC.ret fun a_ ha_ => hQ (cv_ret1 rfl (.tmp rfl) rfl hB ha_)
  | succ m =>
   refine Rg (Pu rfl (Va (dv_N (dx_eql rfl rfl rfl) (by omega)) rfl rfl (Pu rfl (Pu rfl (Va (dx_nilP rfl rfl hu) rfl rfl ?_)))))
   refine Ge (dx_fldP 1 rfl ty_fld_26_0_0 rfl hu (cs' := [.int .i64 t.kind]) rfl (Nat.succ_pos _)) rfl rfl ?_
   rintro u35 _ ⟨rfl, p36⟩
   refine Va ((hkt ▸ dx_loadP rfl ty_one_3 rfl p36)) rfl rfl (Va (dx_neq rfl rfl rfl) rfl rfl (Pu rfl (Pu rfl (Va (dx_nilP rfl rfl hu) rfl rfl ?_))))
   refine Ge (dx_fldP 1 rfl ty_fld_26_0_0 rfl hu (cs' := [.int .i64 t.kind]) rfl (Nat.succ_pos _)) rfl rfl ?_
   rintro u37 _ ⟨rfl, p38⟩
   refine Va ((hkt ▸ dx_loadP rfl ty_one_3 rfl p38)) rfl rfl (Va (dx_neq rfl rfl rfl) rfl rfl (Pu rfl (Pu rfl (Ni (hK33 (WC.condF rfl (WC.skip ?_)))))))
   refine hK32 (Sq fun K39 hK39 => (Rg (Pu rfl (Ni (hK39 (Sq fun K40 hK40 => (Sq fun K41 hK41 => ?_)))))))
   refine Rg (Pu rfl (Va (dx_nilP rfl rfl hu) rfl rfl ?_))
   refine Ge (dx_fldP 1 rfl ty_fld_26_4_4 rfl hu (cs' := [t.iv]) rfl (Nat.succ_pos _)) rfl rfl ?_
   rintro u42 _ ⟨rfl, p43⟩
   refine Va (dx_loadP rfl ty_one_24 rfl p43) rfl rfl (Va (dx_lenFM rfl ty_slice_24 rfl hit) rfl rfl (Pu rfl (Ni (hK41 (WC.block ?_)))))
   refine WC.loop2 (fun (i : Nat) (b : Nat) => [(0, u), (1, .int .i64 ((m + 1 : Nat) : Int)), (27, .int .i64 (t.items.length : Int)), (28, .int .i64 (i : Int)), (5, .int .i64 (b : Int))]) (fun (i : Nat) (b : Nat) W => i ≤ t.items.length ∧ b = maxJ (deepJ m) ((t.items.take i).map Tr.er) ∧ b ≤ m ∧ Below w.heap.size w W ∧ LL (L) W ∧ PtR (L) W u (encT t) ∧ RdF 1 (L) W t.nv (t.names.map eS) ∧ RdF 5 (L) W t.iv (t.items.map encT) ∧ RdTs n (L) W t.items) (fun (i : Nat) (b : Nat) => t.items.length - i) 0 0 (by repeat first | exact trivial | exact And.intro rfl trivial | refine And.intro rfl ?_ | refine And.intro (congrArg (fun z : Int => some (Value.int .i64 z)) (by omega)) ?_) ⟨Nat.zero_le _, rfl, Nat.zero_le _, hB, hL, hu, hnt, hit, hct⟩ ?_
   clear hu hnt hit hct hB hL
   rintro K44 i b W45 ⟨hi, hb, hbm, hB, hL, hu, hnt, hit, hct⟩ hK44
   refine Sq fun K46 hK46 => (Rg (Va (dx_lss rfl rfl rfl) rfl rfl (Ni (hK46 (Sq fun K47 hK47 => ?_)))))
   refine WC.cond rfl (fun c48 => ?_) (fun c48 => ?_)
   ·
    replace c48 := dT c48
    refine WC.skip (hK47 (Sq fun K49 hK49 => (WC.block (Sq fun K50 hK50 => (Rg (Pu rfl (Pu rfl ?_)))))))
    refine Ni (hK50 (Sq fun K51 hK51 => (Rg (Pu rfl (Pu rfl (Va (dx_nilP rfl rfl hu) rfl rfl ?_))))))
    refine Ge (dx_fldP 1 rfl ty_fld_26_4_4 rfl hu (cs' := [t.iv]) rfl (Nat.succ_pos _)) rfl rfl ?_
    rintro u52 _ ⟨rfl, p53⟩
    refine Va (dx_loadP rfl ty_one_24 rfl p53) rfl rfl (Pu rfl ?_)
    obtain ⟨r54, e55⟩ : ∃ x, t.items[i]? = some x := ⟨_, List.getElem?_eq_getElem (by omega)⟩
    refine Ge (dx_idxF i rfl ty_slice_24 rfl rfl hit (by omega) (at_mapX e55)) rfl rfl ?_
    rintro u56 _ ⟨rfl, p57⟩
    refine Pu rfl (Va (dx_sub (r := (m : Int)) rfl rfl rfl (by rw [wrap64_id (by omega)]; omega)) rfl rfl ?_)
    have hdl := deepJ_le m r54.er
    refine Ge (dx_cv rfl Try.func43 rfl rfl rfl (ih r54 m _ W45 _ hL (hct r54 (List.mem_of_getElem? e55)) p57 (by omega))) rfl rfl ?_
    rintro _ W59 ⟨rfl, b58⟩
    replace hu := hu.below b58
    replace hnt := hnt.below b58
    replace hit := hit.below b58
    replace hct := hct.below b58
    replace hB := below_then hB b58
    replace hL := LL.below hL b58
    refine Va (dx_max rfl rfl rfl) rfl rfl (Pu rfl (Ni (hK51 (Sq fun K60 hK60 => (Rg (Pu rfl (Pu rfl ?_)))))))
    refine Va (dx_sub (r := (m : Int)) rfl rfl rfl (by rw [wrap64_id (by omega)]; omega)) rfl rfl (Va (dx_eql rfl rfl rfl) rfl rfl (Ni (hK60 ?_)))
    refine WC.cond rfl (fun c61 => ?_) (fun c61 => ?_)
    ·
     replace c61 := dT c61
     refine WC.exit ?_
     refine hK40 (Sq fun K62 hK62 => (Rg (Pu rfl (Va (dx_add (r := 1 + (if (b : Int) < ((deepJ m r54.er : Nat) : Int) then ((deepJ m r54.er : Nat) : Int) else (b : Int))) rfl rfl rfl (wrap64_id (by omega))) rfl rfl (Pu rfl (Ni (hK62 ?_)))))))
     exact WC.ret fun a_ ha_ => hQ (cv_ret1 rfl (.tmp rfl) (by rw [deep_node (by first | exact .inl hkt | exact .inr hkt)]; first | (have e0 := maxJ_take (f := deepJ m) t.items i; have e4 : t.items.take i = t.items := List.take_of_length_le (by omega); rw [e4] at hb; exact congrArg (Value.int .i64) (by omega)) | (have e1 := maxJ_step (f := deepJ m) e55; have e2 := maxJ_take (f := deepJ m) t.items (i + 1); have e3 := maxJ_le (f := deepJ m) (k := m) (l := t.items.map Tr.er) (fun j _ => deepJ_le m j); exact congrArg (Value.int .i64) (by omega))) hB ha_)
    ·
     replace c61 := dF c61
     refine WC.skip (hK49 (Rg (Va (dx_add (r := (i : Int) + 1) rfl rfl rfl (wrap64_id (by omega))) rfl rfl (Pu rfl (Ni ?_)))))
     exact hK44 (i + 1) (max b (deepJ m r54.er)) ⟨(by omega), (by rw [maxJ_step e55, ← hb]), (by omega), hB, hL, hu, hnt, hit, hct⟩ (by omega) (by repeat first | exact trivial | exact And.intro rfl trivial | refine And.intro rfl ?_ | refine And.intro (congrArg (fun z : Int => some (Value.int .i64 z)) (by omega)) ?_)
   ·
    replace c48 := dF c48
    refine WC.exit ?_
    refine hK40 (Sq fun K63 hK63 => (Rg (Pu rfl (Va (dx_add (r := 1 + (b : Int)) rfl rfl rfl (wrap64_id (by omega))) rfl rfl (Pu rfl (Ni (hK63 ?_)))))))
    exact WC.ret fun a_ ha_ => hQ (cv_ret1 rfl (.tmp rfl) (by rw [deep_node (by first | exact .inl hkt | exact .inr hkt)]; first | (have e0 := maxJ_take (f := deepJ m) t.items i; have e4 : t.items.take i = t.items := List.take_of_length_le (by omega); rw [e4] at hb; exact congrArg (Value.int .i64) (by omega)) | fail) hB ha_)
 ·
  refine Rg (Pu rfl (Ni (hK1 (Sq fun K64 hK64 => (Sq fun K65 hK65 => ?_)))))
  cases most with
  | zero =>
   refine Rg (Pu rfl (Va (dv_T (dx_eql rfl rfl rfl) (by omega)) rfl rfl (Pu rfl (Of rfl (Of rfl (Of rfl (Of rfl ?_)))))))
   refine Of rfl (Of rfl (Of rfl (Of rfl (Of rfl (Of rfl (Of rfl (Of rfl ?_)))))))
   refine Pu rfl (Ni (hK65 (WC.condT rfl (Sq fun K66 hK66 => (Rg (Pu rfl (Ni ?_)))))))
   refine hK66 ?_
   exact WC.ret fun a_ ha_ => hQ (cv_ret1 rfl (.tmp rfl) (by rw [deep_leaf (by omega) (by omega)]; rfl) hB ha_)
  | succ m =>
   refine Rg (Pu rfl (Va (dv_N (dx_eql rfl rfl rfl) (by omega)) rfl rfl (Pu rfl (Pu rfl (Va (dx_nilP rfl rfl hu) rfl rfl ?_)))))
   refine Ge (dx_fldP 1 rfl ty_fld_26_0_0 rfl hu (cs' := [.int .i64 t.kind]) rfl (Nat.succ_pos _)) rfl rfl ?_
   rintro u67 _ ⟨rfl, p68⟩
   refine Va (dx_loadP rfl ty_one_3 rfl p68) rfl rfl (Va (dv_NT (dx_neq rfl rfl rfl) (by omega)) rfl rfl (Pu rfl (Pu rfl (Va (dx_nilP rfl rfl hu) rfl rfl ?_))))
   refine Ge (dx_fldP 1 rfl ty_fld_26_0_0 rfl hu (cs' := [.int .i64 t.kind]) rfl (Nat.succ_pos _)) rfl rfl ?_
   rintro u69 _ ⟨rfl, p70⟩
   refine Va (dx_loadP rfl ty_one_3 rfl p70) rfl rfl (Va (dv_NT (dx_neq rfl rfl rfl) (by omega)) rfl rfl (Pu rfl (Pu rfl (Ni (hK65 (WC.condT rfl (Sq fun K71 hK71 => ?_)))))))
   refine Rg (Pu rfl (Ni (hK71 ?_)))
   exact WC.ret fun a_ ha_ => hQ (cv_ret1 rfl (.tmp rfl) (by rw [deep_leaf (by omega) (by omega)]; rfl) hB ha_)

theorem deep_all : ∀ n, DeepAt n
 | 0 => fun t _ _ _ _ _ h => h.elim
 | n + 1 => fun t most u w L hL ht hu hr => deep_step n (deep_all n) t most u w L hL ht hu hr
set_option maxHeartbeats 1000000 in
theorem jDeep_v (n : Nat) (t : Tr) (w : World) (L : List Nat) (hL : LL L w) (ht : RdT (n + 1) L w t) : CV Try.prog 20 [.agg #[.int .i64 t.kind, .int .i64 t.num, .string t.text, t.nv, t.iv]] w fun v W => v = .int .i64 (deepJ 13 t.er : Nat) := by
 refine cv_enter (N := 4) (f := [(0, .agg #[.int .i64 t.kind, .int .i64 t.num, .string t.text, t.nv, t.iv])]) Try.func20 rfl rfl rfl rfl fun Q hQ hE => ?_
 have hB := Below.refl w.heap.size w
 refine Sq fun K1 hK1 => ?_
 obtain ⟨hnt, hit, hct⟩ := ht
 replace hct : RdTs n (L) w t.items := hct
 refine Rg ?_
 refine Ge (dx_box rfl rfl rfl) rfl rfl ?_
 rintro _ W2 ⟨rfl, k3, b4, z5⟩
 have l6 := hB.size
 replace hnt := hnt.more b4 (Nat.le_refl _)
 replace hit := hit.more b4 (Nat.le_refl _)
 replace hct := hct.more b4 (Nat.le_refl _)
 replace hB := below_then hB b4
 refine Pu rfl (Ni (hK1 (Sq fun K7 hK7 => (Rg ?_))))
 refine Ge (dx_cv rfl Try.func43 rfl rfl rfl (deep_all (n + 1) t 13 _ W2 [] (LL.nil _) ((show RdT (n + 1) (w.heap.size :: L) W2 t from ⟨hnt, hit, hct⟩).less (fun x hx => by cases hx)) ⟨Nat.succ_pos _, w.heap.size, 0, rfl, by simp, k3.range⟩ (by decide))) rfl rfl ?_
 rintro _ W9 ⟨rfl, b8⟩
 replace hB := below_then hB b8
 refine Pu rfl (Ni (hK7 ?_))
 exact WC.ret fun a_ ha_ => hQ (cv_ret1 rfl (.tmp rfl) rfl hB ha_)

set_option maxHeartbeats 1000000 in
theorem indexT_v (ts : List ByteArray) (t : ByteArray) (tv : Value) (w : World) (L : List Nat) (hL : LL L w) (h3 : RdF 1 L w tv (ts.map eS)) : CV Try.prog 41 [tv, .string t] w fun v W => v = .int .i64 (idxX (fun x => decide (t = x)) ts 0) := by
 refine cv_enter (N := 19) (f := [(0, tv), (1, .string t)]) Try.func41 rfl rfl rfl rfl fun Q hQ hE => ?_
 have hB := Below.refl w.heap.size w
 have h3m : ts.length ≤ maxLen := by have := h3.len; rwa [List.length_map] at this
 unfold maxLen at h3m
 refine Sq fun K1 hK1 => (Rg (Pu rfl (Ni (hK1 (Sq fun K2 hK2 => (Sq fun K3 hK3 => (Rg ?_)))))))
 refine Pu rfl (Va (dx_lenFM rfl ty_slice_23 rfl h3) rfl rfl (Pu rfl (Ni (hK3 (WC.block ?_)))))
 refine WC.loop (fun (i : Nat) => [(0, tv), (1, .string t), (7, .int .i64 (ts.length : Int)), (8, .int .i64 (i : Int))]) (fun (i : Nat) W => i ≤ ts.length ∧ idxX (fun x => decide (t = x)) ts 0 = idxX (fun x => decide (t = x)) (ts.drop i) i ∧ Below w.heap.size w W ∧ LL (L) W ∧ RdF 1 (L) W tv (ts.map eS)) (fun (i : Nat) => ts.length - i) 0 (by repeat first | exact trivial | exact And.intro rfl trivial | refine And.intro rfl ?_ | refine And.intro (congrArg (fun z : Int => some (Value.int .i64 z)) (by omega)) ?_) ⟨Nat.zero_le _, rfl, hB, hL, h3⟩ ?_
 clear h3 hB hL
 rintro K4 i W5 ⟨hi, hv, hB, hL, h3⟩ hK4
 refine Sq fun K6 hK6 => (Rg (Va (dx_lss rfl rfl rfl) rfl rfl (Ni (hK6 (Sq fun K7 hK7 => ?_)))))
 refine WC.cond rfl (fun c8 => ?_) (fun c8 => ?_)
 ·
  replace c8 := dT c8
  refine WC.skip (hK7 (Sq fun K9 hK9 => (WC.block (Sq fun K10 hK10 => (Rg (Pu rfl (Pu rfl ?_)))))))
  refine Ni (hK10 (Sq fun K11 hK11 => (Rg (Pu rfl (Pu rfl (Pu rfl ?_))))))
  obtain ⟨r12, e13⟩ : ∃ x, ts[i]? = some x := ⟨_, List.getElem?_eq_getElem (by omega)⟩
  refine Ge (dx_idxF i rfl ty_slice_23 rfl rfl h3 (by omega) (at_mapX e13)) rfl rfl ?_
  rintro u14 _ ⟨rfl, p15⟩
  refine Va (dx_loadP rfl ty_one_9 rfl p15) rfl rfl (Va (dx_eqlT rfl rfl rfl) rfl rfl (Ni (hK11 ?_)))
  refine WC.cond rfl (fun c16 => ?_) (fun c16 => ?_)
  ·
   replace c16 := dT c16
   refine Sq fun K17 hK17 => (Rg (Pu rfl (Pu rfl (Ni (hK17 ?_)))))
   exact WC.ret fun a_ ha_ => hQ (cv_ret1 rfl (.tmp rfl) (by rw [hv, idxX_here e13 (decide_eq_true (by assumption))]) hB ha_)
  ·
   replace c16 := dF c16
   refine WC.skip (hK9 (Rg (Va (dx_add (r := (i : Int) + 1) rfl rfl rfl (wrap64_id (by omega))) rfl rfl (Pu rfl (Ni ?_)))))
   exact hK4 (i + 1) ⟨(by omega), (by rw [hv]; exact idxX_step e13 (decide_eq_false (by assumption))), hB, hL, h3⟩ (by omega) (by repeat first | exact trivial | exact And.intro rfl trivial | refine And.intro rfl ?_ | refine And.intro (congrArg (fun z : Int => some (Value.int .i64 z)) (by omega)) ?_)
 ·
  replace c8 := dF c8
  refine WC.exit ?_
  refine hK2 (Sq fun K18 hK18 => (Rg (Pu rfl (Ni (hK18 ?_)))))
  exact WC.ret fun a_ ha_ => hQ (cv_ret1 rfl (.tmp rfl) (by rw [hv, idxX_end (by omega)]) hB ha_)

set_option maxHeartbeats 1000000 in
theorem jGet_v (n : Nat) (t : Tr) (name : ByteArray) (w : World) (L : List Nat) (hL : LL L w) (ht : RdT (n + 1) L w t) : CV Try.prog 17 [.agg #[.int .i64 t.kind, .int .i64 t.num, .string t.text, t.nv, t.iv], .string name] w fun v W => v = .tuple #[.agg (encT (getT t name).1).toArray, .bool (getT t name).2] := by
 refine cv_enter (N := 30) (f := [(0, .agg #[.int .i64 t.kind, .int .i64 t.num, .string t.text, t.nv, t.iv]), (1, .string name)]) Try.func17 rfl rfl rfl rfl fun Q hQ hE => ?_
 have hB := Below.refl w.heap.size w
 refine Sq fun K1 hK1 => ?_
 obtain ⟨hnt, hit, hct⟩ := ht
 replace hct : RdTs n (L) w t.items := hct
 refine Rg ?_
 refine Ge (dx_box rfl rfl rfl) rfl rfl ?_
 rintro _ W2 ⟨rfl, k3, b4, z5⟩
 have l6 := hB.size
 replace hnt := hnt.more b4 (Nat.le_refl _)
 replace hit := hit.more b4 (Nat.le_refl _)
 replace hct := hct.more b4 (Nat.le_refl _)
 replace hB := below_then hB b4
 replace hL := LL.more hL z5
 refine Ge (dx_alloc rfl ty_zero_26 rfl) rfl rfl ?_
 rintro _ W7 ⟨rfl, k8, b9, z10⟩
 have l12 := hB.size
 replace hnt := hnt.more b9 (Nat.le_refl _)
 replace hit := hit.more b9 (Nat.le_refl _)
 replace hct := hct.more b9 (Nat.le_refl _)
 replace k3 := k3.below b9
 replace hB := below_then hB b9
 replace hL := LL.more hL z10
 refine Pu rfl (Ni (hK1 (Sq fun K13 hK13 => (Sq fun K14 hK14 => (Rg (Va (dx_fld (o1 := 0) rfl ty_fld_26_0_0 rfl rfl) rfl rfl (Va (dx_load rfl ty_one_3 rfl (k3.cell (k := 0) rfl)) rfl rfl ?_)))))))
 refine Va (dx_neq rfl rfl rfl) rfl rfl (Ni (hK14 ?_))
 refine WC.cond rfl (fun c15 => ?_) (fun c15 => ?_)
 ·
  replace c15 := bnot_t c15
  replace c15 := dF c15
  refine Sq fun K16 hK16 => (Rg (Va (dx_build rfl rfl (built_of_O (cs := zV) (by kernel_rfl) oc_nil)) rfl rfl ?_))
  refine WL.do (dx_store (cs' := zV) (vs := zV) rfl ty_size_26_5 rfl rfl rfl (oc_cons rfl (oc_cons rfl (oc_cons rfl (oc_cons rfl (oc_cons rfl oc_nil))))) k8 rfl (Nat.le_of_ble_eq_true rfl) rfl) rfl ?_
  rintro _ W17 ⟨k19, o18⟩
  clear k8
  replace hB := o18.below hB l12
  refine Pu rfl (Ni (hK16 ?_))
  exact WC.ret fun a_ ha_ => hQ (cv_ret2 rfl (.agg rfl ty_agg_26_5 k19.range rfl) (.tmp rfl) (by have e : getT t name = (noT, false) := (by unfold getT; rw [if_neg (by rintro ⟨q1, q2, q3⟩; first | (simp_all; done) | omega)]); rw [e] <;> rfl) hB ha_)
 ·
  replace c15 := bnot_f c15
  replace c15 := dT c15
  refine WC.skip (hK13 (Sq fun K20 hK20 => (Rg (Va (dx_fld (o1 := 3) rfl ty_fld_26_3_3 rfl rfl) rfl rfl (Va (dx_load rfl ty_one_23 rfl (k3.cell (k := 3) rfl)) rfl rfl (Pu rfl ?_))))))
  refine Ge (dx_cv rfl Try.func41 rfl rfl rfl (indexT_v t.names name _ W7 _ hL hnt)) rfl rfl ?_
  rintro _ W22 ⟨rfl, b21⟩
  replace hit := hit.below b21
  replace hct := hct.below b21
  replace k3 := k3.below b21
  replace k8 := k8.below b21
  replace hB := below_then hB b21
  refine Pu rfl (Ni (hK20 (Sq fun K23 hK23 => (Sq fun K24 hK24 => (Rg (Pu rfl (Va (dx_lss rfl rfl rfl) rfl rfl ?_)))))))
  refine Pu rfl ?_
  refine WL.split 17 rfl (fun g25 => ?_) (fun g25 => ?_)
  ·
   replace g25 := dT g25
   refine Of rfl (Of rfl (Of rfl (Of rfl (Of rfl (Pu rfl (Ni (hK24 ?_)))))))
   refine WC.condT rfl (Sq fun K26 hK26 => (Rg (Va (dx_build rfl rfl (built_of_O (cs := zV) (by kernel_rfl) oc_nil)) rfl rfl ?_)))
   refine WL.do (dx_store (cs' := zV) (vs := zV) rfl ty_size_26_5 rfl rfl rfl (oc_cons rfl (oc_cons rfl (oc_cons rfl (oc_cons rfl (oc_cons rfl oc_nil))))) k8 rfl (Nat.le_of_ble_eq_true rfl) rfl) rfl ?_
   rintro _ W27 ⟨k29, o28⟩
   clear k8
   replace hB := o28.below hB l12
   refine Pu rfl (Ni (hK26 ?_))
   exact WC.ret fun a_ ha_ => hQ (cv_ret2 rfl (.agg rfl ty_agg_26_5 k29.range rfl) (.tmp rfl) (by have e : getT t name = (noT, false) := (by unfold getT; rw [if_neg (by rintro ⟨q1, q2, q3⟩; first | (simp_all; done) | omega)]); rw [e] <;> rfl) hB ha_)
  ·
   replace g25 := dF g25
   refine Pu rfl (Va (dx_fld (o1 := 4) rfl ty_fld_26_4_4 rfl rfl) rfl rfl (Va (dx_load rfl ty_one_24 rfl (k3.cell (k := 4) rfl)) rfl rfl (Va (dx_lenFM rfl ty_slice_24 rfl hit) rfl rfl (Va (dx_geq rfl rfl rfl) rfl rfl (Pu rfl (Ni (hK24 ?_)))))))
   refine WC.cond rfl (fun c30 => ?_) (fun c30 => ?_)
   ·
    replace c30 := dT c30
    refine Sq fun K31 hK31 => (Rg (Va (dx_build rfl rfl (built_of_O (cs := zV) (by kernel_rfl) oc_nil)) rfl rfl ?_))
    refine WL.do (dx_store (cs' := zV) (vs := zV) rfl ty_size_26_5 rfl rfl rfl (oc_cons rfl (oc_cons rfl (oc_cons rfl (oc_cons rfl (oc_cons rfl oc_nil))))) k8 rfl (Nat.le_of_ble_eq_true rfl) rfl) rfl ?_
    rintro _ W32 ⟨k34, o33⟩
    clear k8
    replace hB := o33.below hB l12
    refine Pu rfl (Ni (hK31 ?_))
    exact WC.ret fun a_ ha_ => hQ (cv_ret2 rfl (.agg rfl ty_agg_26_5 k34.range rfl) (.tmp rfl) (by have e : getT t name = (noT, false) := (by unfold getT; rw [if_neg (by rintro ⟨q1, q2, q3⟩; first | (simp_all; done) | omega)]); rw [e] <;> rfl) hB ha_)
   ·
    replace c30 := dF c30
    refine WC.skip (hK23 (Sq fun K35 hK35 => ?_))
    obtain ⟨k0, hk0⟩ : ∃ k : Nat, idxX (fun x => decide (name = x)) t.names 0 = (k : Int) := ⟨(idxX (fun x => decide (name = x)) t.names 0).toNat, (Int.toNat_of_nonneg (by omega)).symm⟩
    have hkl : k0 < t.items.length := by omega
    obtain ⟨r0, hr0⟩ : ∃ x, t.items[k0]? = some x := ⟨_, List.getElem?_eq_getElem hkl⟩
    have hrr := hct r0 (List.mem_of_getElem? hr0)
    have hon0 := hrr.oc
    refine Rg (Va (dx_fld (o1 := 4) rfl ty_fld_26_4_4 rfl rfl) rfl rfl (Va (dx_load rfl ty_one_24 rfl (k3.cell (k := 4) rfl)) rfl rfl (Pu rfl ?_)))
    refine Ge (dx_idxF k0 rfl ty_slice_24 rfl rfl hit (by omega) (at_mapX hr0)) rfl rfl ?_
    rintro u36 _ ⟨rfl, p37⟩
    refine Va (dx_loadPN rfl ty_agg_26_5 rfl p37 rfl) rfl rfl ?_
    refine WL.do (dx_storeW (vs := encT r0) rfl ty_size_26_5 rfl rfl rfl hrr.oc k8 rfl rfl) rfl ?_
    rintro _ W38 ⟨k40, o39⟩
    clear k8
    replace hB := o39.below hB l12
    refine Pu rfl (Ni (hK35 ?_))
    exact WC.ret fun a_ ha_ => hQ (cv_ret2 rfl (.agg rfl ty_agg_26_5 k40.range rfl) (.tmp rfl) (by have e : getT t name = (r0, true) := (by unfold getT; rw [if_pos ⟨by assumption, by omega, by omega⟩, hk0, Int.toNat_natCast, hr0]; rfl); rw [e] <;> rfl) hB ha_)

end Go.Proofs.Ytpinidlfcifeeaa
