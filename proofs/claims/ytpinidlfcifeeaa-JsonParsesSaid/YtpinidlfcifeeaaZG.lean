/- The reference's value, walked. The reference's Parse. What a good text is parsed to is right. The law of Parse. -/
import Derived.Test.YtpinidlfcifeeaaZF
namespace Go.Proofs.Ytpinidlfcifeeaa
open Go.RowKit
set_option linter.unusedVariables false
set_option linter.unusedSimpArgs false
set_option maxRecDepth 8000
set_option maxHeartbeats 2000000

theorem numT_ok {s : ByteArray} {m : Bool} {k k' : Nat} {n : Int} (hk : k ≤ s.size) (h : numT s m k = .ok (n, k')) : k < k' ∧ k' ≤ s.size := by
  have hd := digS_le hk
  unfold numT at h
  split at h
  · split at h
    · cases h
    · cases h; omega
  · split at h
    · cases h
    · split at h
      · cases h
      · cases h; omega
theorem numT_err {s : ByteArray} {m : Bool} {k : Nat} {e : Int} (h : numT s m k = .error e) : e ≠ 0 := by
  unfold numT at h
  split at h
  · split at h
    · cases h; decide
    · cases h
  · split at h
    · cases h; decide
    · split at h
      · cases h; decide
      · cases h
theorem refNumber_e (s : ByteArray) (ka : Nat) (w : World) (L : List Nat) (hL : LL L w) (hs : s.size ≤ 1000000) (hk : ka < s.size) : CV Try.prog 69 [.string s, .int .i64 (ka : Int)] w fun v W => (∃ (n : Int) (k' : Nat), v = .tuple #[.int .i64 n, .int .i64 (k' : Int), .int .i64 0] ∧ numS s ka = .ok (n, k') ∧ ka < k' ∧ k' ≤ s.size) ∨ (∃ e, v = .tuple #[.int .i64 0, .int .i64 0, .int .i64 e] ∧ e ≠ 0 ∧ numS s ka = .error e) :=
 (refNumber_v s ka w L hL hs (by omega) hk).mono fun v W _ h => by
  subst h
  cases hn : numS s ka with
  | error e =>
   refine .inr ⟨e, rfl, ?_, rfl⟩
   unfold numS at hn
   split at hn <;> exact numT_err hn
  | ok p =>
   obtain ⟨n, k'⟩ := p
   refine .inl ⟨n, k', rfl, rfl, ?_⟩
   unfold numS at hn
   split at hn
   · have := numT_ok (by omega) hn; omega
   · exact numT_ok (by omega) hn
theorem pairS_no {s : ByteArray} {vs : Nat → Except Int (Js × Nat)} {k : Nat} {st : StO} (h : takeS s k 34 = true → quoS s k = none) : pairS s vs k st = .error 2 := by
 cases ht : takeS s k 34 with
 | false => exact pairS_0 ht
 | true => exact pairS_q ht (h ht)
set_option maxHeartbeats 1000000 in
theorem refQuoteT_v (s : ByteArray) (ka : Nat) (w : World) (L : List Nat) (hL : LL L w)   (hs : s.size ≤ 1000000) (hk : ka ≤ s.size) (he : EscAt s) : CV Try.prog 68 [.string s, .int .i64 (ka : Int)] w fun v W => (∃ l k', v = .tuple #[.string (strOfNums l), .int .i64 ((k' : Nat) : Int)] ∧ takeS s ka 34 = true ∧ quoS s ka = some (l, k') ∧ Bytes l ∧ l.length ≤ k' ∧ ka < k' ∧ k' ≤ s.size) ∨ (v = .tuple #[.string ⟨#[]⟩, .int .i64 (-1)] ∧ (takeS s ka 34 = true → quoS s ka = none)) := by
 refine cv_enter (N := 59) (f := [(0, .string s), (1, .int .i64 (ka : Int))]) Try.func68 rfl rfl rfl rfl fun Q hQ hE => ?_
 have hB := Below.refl w.heap.size w
 refine Sq fun K1 hK1 => (Rg (Pu rfl (Pu rfl (Ni (hK1 (Sq fun K2 hK2 => (Sq fun K3 hK3 => ?_)))))))
 refine Rg (Pu rfl (Pu rfl ?_))
 refine Ge (dx_cv rfl Try.func67 rfl rfl rfl (refBegins_v s ({ data := #[34] }) ka w _ hL hs (by omega) (by decide))) rfl rfl ?_
 rintro _ W5 ⟨rfl, b4⟩
 replace hB := below_then hB b4
 replace hL := LL.below hL b4
 refine Va (dx_not rfl rfl) rfl rfl (Ni (hK3 ?_))
 refine WC.cond rfl (fun c6 => ?_) (fun c6 => ?_)
 ·
  replace c6 := bnot_t c6
  refine Sq fun K7 hK7 => (Rg (Pu rfl (Pu rfl (Ni (hK7 ?_)))))
  exact WC.ret fun a_ ha_ => hQ (cv_ret2 rfl (.tmp rfl) (.tmp rfl) (.inr ⟨rfl, fun hq_ => by first | (exact absurd (((begin_one (s := s) (k := ka) (c := 34) (wd := ⟨#[34]⟩) (by decide) rfl).trans hq_).symm.trans (show beginS s ⟨#[34]⟩ ka = false by assumption)) (by decide)) | exact hv.trans (qN_lo (by omega) rfl (by omega)) | exact hv.trans (qN_e0 (by omega) rfl (by omega) (by omega) (by omega) rfl (by assumption)) | (obtain ⟨n_, hn1, hv⟩ := hv; obtain ⟨n, rfl⟩ : ∃ m, n_ = m + 1 := ⟨n_ - 1, by omega⟩; exact hv.trans (qN_end (by omega)))⟩) hB ha_)
 ·
  replace c6 := bnot_f c6
  refine WC.skip (hK2 (Sq fun K8 hK8 => ?_))
  have hq : takeS s ka 34 = true := (begin_one (by decide) rfl).symm.trans (by assumption)
  have hql := (take_t hq).1
  have hz0 : (⟨#[]⟩ : ByteArray) = strOfNums [] := rfl
  refine Rg (Pu rfl (Ni (hK8 (Sq fun K9 hK9 => (Rg (Pu rfl (Va (dx_add (r := ((ka + 1 : Nat) : Int)) rfl rfl rfl (by rw [wrap64_id (by omega)]; omega)) rfl rfl ?_)))))))
  refine Pu rfl (Ni (hK9 (Sq fun K10 hK10 => (WC.block ?_))))
  refine WC.loop2 (fun (kb : Nat) (out : List Int) => [(0, .string s), (1, .int .i64 (kb : Int)), (6, .string (strOfNums out))]) (fun (kb : Nat) (out : List Int) W => kb ≤ s.size ∧ ka < kb ∧ Bytes out ∧ out.length ≤ kb ∧ (∃ n, s.size - kb < n ∧ quoS s ka = qN s n kb out) ∧ Below w.heap.size w W ∧ LL (L) W) (fun (kb : Nat) (out : List Int) => s.size - kb) (ka + 1) [] (by repeat first | exact trivial | exact And.intro rfl trivial | refine And.intro rfl ?_ | refine And.intro (congrArg (fun z : Int => some (Value.int .i64 z)) (by omega)) ?_) ⟨(by omega), (by omega), (fun x hx => by cases hx), (Nat.zero_le _), ⟨s.size + 1, by omega, rfl⟩, hB, hL⟩ ?_
  clear hB hL
  rintro K11 kb out W12 ⟨hkb, hkk, hB8, hol, hv, hB, hL⟩ hK11
  refine Sq fun K13 hK13 => (Sq fun K14 hK14 => (Rg (Pu rfl (Pu rfl (Va (dx_lenT rfl Try.underlying9 rfl) rfl rfl (Va (dx_lss rfl rfl rfl) rfl rfl (Ni ?_)))))))
  refine hK14 ?_
  refine WC.cond rfl (fun c15 => ?_) (fun c15 => ?_)
  ·
   replace c15 := dT c15
   refine WC.skip (hK13 (WC.block (WC.block (Sq fun K16 hK16 => ?_))))
   obtain ⟨n_, hn1, hv⟩ := hv
   obtain ⟨n, rfl⟩ : ∃ m, n_ = m + 1 := ⟨n_ - 1, by omega⟩
   refine Rg (Pu rfl (Pu rfl (Va (dx_at kb rfl Try.underlying9 rfl rfl (by omega) (by omega)) rfl rfl (Va (dx_eql rfl rfl rfl) rfl rfl (Pu rfl (Ni (hK16 ?_)))))))
   refine WC.cond rfl (fun c17 => ?_) (fun c17 => ?_)
   ·
    replace c17 := dT c17
    refine Sq fun K18 hK18 => (Rg (Pu rfl (Pu rfl (Va (dx_add (r := ((kb + 1 : Nat) : Int)) rfl rfl rfl (by rw [wrap64_id (by omega)]; omega)) rfl rfl (Pu rfl (Pu rfl (Ni ?_)))))))
    refine hK18 ?_
    exact WC.ret fun a_ ha_ => hQ (cv_ret2 rfl (.tmp rfl) (.tmp rfl) (.inl ⟨out, kb + 1, rfl, hq, hv.trans (qN_q (by omega) rfl (by omega) (by omega) rfl), hB8, by omega, by omega, by omega⟩) hB ha_)
   ·
    replace c17 := dF c17
    refine Sq fun K19 hK19 => (Rg (Pu rfl (Pu rfl (Va (dx_at kb rfl Try.underlying9 rfl rfl (by omega) (by omega)) rfl rfl (Va (dx_eql rfl rfl rfl) rfl rfl (Pu rfl (Ni ?_)))))))
    refine hK19 ?_
    refine WC.cond rfl (fun c20 => ?_) (fun c20 => ?_)
    ·
     replace c20 := dT c20
     refine Sq fun K21 hK21 => (Rg (Pu rfl (Pu rfl (Va (dx_add (r := ((kb + 1 : Nat) : Int)) rfl rfl rfl (by rw [wrap64_id (by omega)]; omega)) rfl rfl ?_))))
     refine Ge (dx_cv rfl Try.func93 rfl rfl rfl (he (kb + 1) W12 _ hL (by omega))) rfl rfl ?_
     rintro _ W39 ⟨(⟨l30, k31, rfl, hr32, hr33, hr34, hr35⟩ | ⟨rfl, hr32⟩), g38⟩
     ·
      replace hB := below_then hB g38
      replace hL := LL.below hL g38
      refine Pu rfl (Pu rfl (Pu rfl (Pu rfl (Pu rfl (Ni (hK21 (Sq fun K41 hK41 => ?_)))))))
      refine Sq fun K42 hK42 => (Rg (Pu rfl (Va (dx_lss rfl rfl rfl) rfl rfl (Ni (hK42 ?_)))))
      refine WC.cond rfl (fun c43 => ?_) (fun c43 => ?_)
      ·
       replace c43 := dT c43
       refine Sq fun K44 hK44 => (Rg (Pu rfl (Pu rfl (Ni (hK44 ?_)))))
       exact WC.ret fun a_ ha_ => hQ (cv_ret2 rfl (.tmp rfl) (.tmp rfl) (.inr ⟨rfl, fun hq_ => by first | (exact absurd (((begin_one (s := s) (k := ka) (c := 34) (wd := ⟨#[34]⟩) (by decide) rfl).trans hq_).symm.trans (show beginS s ⟨#[34]⟩ ka = false by assumption)) (by decide)) | exact hv.trans (qN_lo (by omega) rfl (by omega)) | exact hv.trans (qN_e0 (by omega) rfl (by omega) (by omega) (by omega) rfl (by assumption)) | (obtain ⟨n_, hn1, hv⟩ := hv; obtain ⟨n, rfl⟩ : ∃ m, n_ = m + 1 := ⟨n_ - 1, by omega⟩; exact hv.trans (qN_end (by omega)))⟩) hB ha_)
      ·
       replace c43 := dF c43
       refine WC.skip (hK41 (Sq fun K45 hK45 => (Rg (Pu rfl (Pu rfl ?_)))))
       have hsz1 : (strOfNums out).size = out.length := strOfNums_size out
       have hsz2 : (strOfNums l30).size = (l30).length := strOfNums_size _
       have hln : (l30).length ≤ 1000000 := by omega
       have hcat : (strOfNums out) ++ (strOfNums l30) = strOfNums (out ++ l30) := strOf_app _ _
       refine Va (dx_addT rfl rfl rfl (by rw [hsz1, hsz2]; omega)) rfl rfl ?_
       rw [hcat]
       refine Pu rfl (Ni (hK45 (Rg (Pu rfl (Pu rfl (Ni ?_))))))
       exact hK11 k31 (out ++ l30) ⟨(by omega), (by omega), (hB8.append hr33), (by simp; omega), ⟨n, by omega, hv.trans (qN_e1 (by omega) rfl (by omega) (by omega) (by omega) rfl hr32)⟩, hB, hL⟩ (by omega) (by repeat first | exact trivial | exact And.intro rfl trivial | refine And.intro rfl ?_ | refine And.intro (congrArg (fun z : Int => some (Value.int .i64 z)) (by omega)) ?_)
     ·
      replace hB := below_then hB g38
      refine Pu rfl (Pu rfl (Pu rfl (Pu rfl (Pu rfl (Ni (hK21 (Sq fun K46 hK46 => ?_)))))))
      refine Sq fun K47 hK47 => (Rg (Pu rfl (Va (dx_lss rfl rfl rfl) rfl rfl (Ni (hK47 (WC.condT rfl (Sq fun K48 hK48 => ?_)))))))
      refine Rg (Pu rfl (Pu rfl (Ni (hK48 ?_))))
      exact WC.ret fun a_ ha_ => hQ (cv_ret2 rfl (.tmp rfl) (.tmp rfl) (.inr ⟨rfl, fun hq_ => by first | (exact absurd (((begin_one (s := s) (k := ka) (c := 34) (wd := ⟨#[34]⟩) (by decide) rfl).trans hq_).symm.trans (show beginS s ⟨#[34]⟩ ka = false by assumption)) (by decide)) | exact hv.trans (qN_lo (by omega) rfl (by omega)) | exact hv.trans (qN_e0 (by omega) rfl (by omega) (by omega) (by omega) rfl (by assumption)) | (obtain ⟨n_, hn1, hv⟩ := hv; obtain ⟨n, rfl⟩ : ∃ m, n_ = m + 1 := ⟨n_ - 1, by omega⟩; exact hv.trans (qN_end (by omega)))⟩) hB ha_)
    ·
     replace c20 := dF c20
     refine Sq fun K49 hK49 => (Rg (Pu rfl (Pu rfl (Va (dx_at kb rfl Try.underlying9 rfl rfl (by omega) (by omega)) rfl rfl (Va (dx_lss rfl rfl rfl) rfl rfl (Pu rfl (Ni ?_)))))))
     refine hK49 ?_
     refine WC.cond rfl (fun c50 => ?_) (fun c50 => ?_)
     ·
      replace c50 := dT c50
      refine Sq fun K51 hK51 => (Rg (Pu rfl (Pu rfl (Ni (hK51 ?_)))))
      exact WC.ret fun a_ ha_ => hQ (cv_ret2 rfl (.tmp rfl) (.tmp rfl) (.inr ⟨rfl, fun hq_ => by first | (exact absurd (((begin_one (s := s) (k := ka) (c := 34) (wd := ⟨#[34]⟩) (by decide) rfl).trans hq_).symm.trans (show beginS s ⟨#[34]⟩ ka = false by assumption)) (by decide)) | exact hv.trans (qN_lo (by omega) rfl (by omega)) | exact hv.trans (qN_e0 (by omega) rfl (by omega) (by omega) (by omega) rfl (by assumption)) | (obtain ⟨n_, hn1, hv⟩ := hv; obtain ⟨n, rfl⟩ : ∃ m, n_ = m + 1 := ⟨n_ - 1, by omega⟩; exact hv.trans (qN_end (by omega)))⟩) hB ha_)
     ·
      replace c50 := dF c50
      refine Sq fun K52 hK52 => (Rg (Pu rfl (Pu rfl (Pu rfl (Pu rfl (Va (dx_add (r := ((kb + 1 : Nat) : Int)) rfl rfl rfl (by rw [wrap64_id (by omega)]; omega)) rfl rfl (Va (dx_slTLH kb (kb + 1) rfl Try.underlying9 rfl rfl rfl (by omega) (by omega) (by omega) (by omega)) rfl rfl ?_)))))))
      have hsz1 : (strOfNums out).size = out.length := strOfNums_size out
      have hsz2 : ((s).extract kb (kb + 1)).size = ([atS s kb]).length := (by rw [ext_one (by omega)]; exact strOfNums_size _)
      have hln : ([atS s kb]).length ≤ 1000000 := by show 1 ≤ 1000000; decide
      have hcat : (strOfNums out) ++ ((s).extract kb (kb + 1)) = strOfNums (out ++ [atS s kb]) := (by rw [ext_one (by omega)]; exact strOf_app _ _)
      refine Va (dx_addT rfl rfl rfl (by rw [hsz1, hsz2]; omega)) rfl rfl ?_
      rw [hcat]
      refine Pu rfl (Ni (hK52 (Rg (Pu rfl (Va (dx_add (r := ((kb + 1 : Nat) : Int)) rfl rfl rfl (by rw [wrap64_id (by omega)]; omega)) rfl rfl (Pu rfl (Ni ?_)))))))
      exact hK11 (kb + 1) (out ++ [atS s kb]) ⟨(by omega), (by omega), (hB8.append (bytes_one (atS_lo s kb))), (by simp; omega), ⟨n, by omega, hv.trans (qN_d (by omega) rfl (by omega) (by omega) (by omega) rfl)⟩, hB, hL⟩ (by omega) (by repeat first | exact trivial | exact And.intro rfl trivial | refine And.intro rfl ?_ | refine And.intro (congrArg (fun z : Int => some (Value.int .i64 z)) (by omega)) ?_)
  ·
   replace c15 := dF c15
   refine WC.exit ?_
   refine hK10 (Sq fun K53 hK53 => (Rg (Pu rfl (Pu rfl (Ni (hK53 ?_))))))
   exact WC.ret fun a_ ha_ => hQ (cv_ret2 rfl (.tmp rfl) (.tmp rfl) (.inr ⟨rfl, fun hq_ => by first | (exact absurd (((begin_one (s := s) (k := ka) (c := 34) (wd := ⟨#[34]⟩) (by decide) rfl).trans hq_).symm.trans (show beginS s ⟨#[34]⟩ ka = false by assumption)) (by decide)) | exact hv.trans (qN_lo (by omega) rfl (by omega)) | exact hv.trans (qN_e0 (by omega) rfl (by omega) (by omega) (by omega) rfl (by assumption)) | (obtain ⟨n_, hn1, hv⟩ := hv; obtain ⟨n, rfl⟩ : ∃ m, n_ = m + 1 := ⟨n_ - 1, by omega⟩; exact hv.trans (qN_end (by omega)))⟩) hB ha_)

set_option maxHeartbeats 4000000 in
theorem refVal_v (n : Nat) (vs : Nat → Except Int (Js × Nat)) (s : ByteArray) (ka dp : Nat) (w : World) (L : List Nat) (hL : LL L w)   (hs : s.size ≤ 1000000) (hk : ka ≤ s.size) (hd : dp ≤ 12) (hc : dp < 12 → RefAt (n + 1) vs s (dp + 1)) : CV Try.prog 37 [.string s, .int .i64 (ka : Int), .int .i64 (dp : Int)] w fun v W => (∃ (t : Tr) (k' : Nat), v = .tuple #[.agg #[.int .i64 t.kind, .int .i64 t.num, .string t.text, t.nv, t.iv], .int .i64 (k' : Int), .int .i64 0] ∧ valB s dp (listS s vs (blankS s ka)) (objS s vs (blankS s ka)) (blankS s ka) = .ok (t.er, k') ∧ RdT (n + 2) L W t ∧ blankS s ka < k' ∧ k' ≤ s.size) ∨ (∃ e, v = .tuple #[.agg #[.int .i64 0, .int .i64 0, .string ⟨#[]⟩, .slice none 0 0, .slice none 0 0], .int .i64 0, .int .i64 e] ∧ e ≠ 0 ∧ valB s dp (listS s vs (blankS s ka)) (objS s vs (blankS s ka)) (blankS s ka) = .error e) := by
 refine cv_enter (N := 226) (f := [(0, .string s), (1, .int .i64 (ka : Int)), (2, .int .i64 (dp : Int))]) Try.func37 rfl rfl rfl rfl fun Q hQ hE => ?_
 have hB := Below.refl w.heap.size w
 refine Sq fun K1 hK1 => (Rg ?_)
 refine Ge (dx_alloc rfl ty_zero_26 rfl) rfl rfl ?_
 rintro _ W2 ⟨rfl, k3, b4, z5⟩
 have l6 := hB.size
 replace hB := below_then hB b4
 replace hL := LL.more hL z5
 refine Pu rfl (Pu rfl (Ni (hK1 (Sq fun K7 hK7 => (Rg (Pu rfl (Pu rfl ?_)))))))
 refine Ge (dx_cv rfl Try.func38 rfl rfl rfl (refBlank_e s ka W2 _ hL hs (by omega))) rfl rfl ?_
 rintro _ W9 ⟨⟨kb, rfl, hkb, hkb1, hkb2⟩, b8⟩
 replace k3 := k3.below b8
 replace hB := below_then hB b8
 replace hL := LL.below hL b8
 refine Pu rfl (Ni (hK7 (Sq fun K10 hK10 => (Rg (Va (dx_build rfl rfl (built_of_O (cs := zV) (by kernel_rfl) oc_nil)) rfl rfl ?_)))))
 refine Ge (dx_alloc rfl ty_zero_26 rfl) rfl rfl ?_
 rintro _ W11 ⟨rfl, k12, b13, z14⟩
 have n15 : w.heap.size ≠ W9.heap.size := Nat.ne_of_lt k3.lt
 have l16 := hB.size
 replace k3 := k3.below b13
 replace hB := below_then hB b13
 replace hL := LL.more hL z14
 refine WL.do (dx_store (cs' := zV) (vs := zV) rfl ty_size_26_5 rfl rfl rfl (oc_cons rfl (oc_cons rfl (oc_cons rfl (oc_cons rfl (oc_cons rfl oc_nil))))) k12 rfl (Nat.le_of_ble_eq_true rfl) rfl) rfl ?_
 rintro _ W17 ⟨k19, o18⟩
 replace k3 := k3.other o18 n15
 clear k12
 replace hB := o18.below hB l16
 replace hL := LL.only hL o18
 refine Ni (hK10 (Sq fun K20 hK20 => (WC.block (Sq fun K21 hK21 => (Rg (Pu rfl (Pu rfl ?_)))))))
 refine Ge (dx_cv rfl Try.func67 rfl rfl rfl (refBegins_v s ({ data := #[110, 117, 108, 108] }) kb W17 _ hL hs (by omega) (by decide))) rfl rfl ?_
 rintro _ W23 ⟨rfl, b22⟩
 replace k3 := k3.below b22
 replace k19 := k19.below b22
 replace hB := below_then hB b22
 replace hL := LL.below hL b22
 refine Pu rfl (Ni (hK21 ?_))
 refine WC.cond rfl (fun c24 => ?_) (fun c24 => ?_)
 ·
  refine Sq fun K25 hK25 => ?_
  have hz : kb + 4 ≤ s.size := begin_sz (wd := ⟨#[110, 117, 108, 108]⟩) (by assumption) rfl
  refine Rg (Va (dx_build rfl rfl (built_of_O (cs := zV) (by kernel_rfl) (oc_cons rfl oc_nil))) rfl rfl (Pu rfl (Va (dx_add (r := ((kb + 4 : Nat) : Int)) rfl rfl rfl (by rw [wrap64_id (by omega)]; omega)) rfl rfl ?_)))
  refine WL.do (dx_store (cs' := zV) (vs := zV) rfl ty_size_26_5 rfl rfl rfl (oc_cons rfl (oc_cons rfl (oc_cons rfl (oc_cons rfl (oc_cons rfl oc_nil))))) k3 rfl (Nat.le_of_ble_eq_true rfl) rfl) rfl ?_
  rintro _ W26 ⟨k28, o27⟩
  clear k3
  replace hB := o27.below hB l6
  refine Pu rfl (Pu rfl (Ni (hK25 ?_)))
  exact WC.ret fun a_ ha_ => hQ (cv_ret3 rfl (.agg rfl ty_agg_26_5 k28.range rfl) (.tmp rfl) (.tmp rfl) (.inl ⟨leafT 0 0 ⟨#[]⟩, kb + 4, rfl, (by rw [← hkb]; exact valB_w0 (by omega) (by assumption)), leaf_rd _ _ _ _ _ _, by omega, by omega⟩) hB ha_)
 ·
  refine Sq fun K29 hK29 => (Rg (Pu rfl (Pu rfl ?_)))
  refine Ge (dx_cv rfl Try.func67 rfl rfl rfl (refBegins_v s ({ data := #[116, 114, 117, 101] }) kb W23 _ hL hs (by omega) (by decide))) rfl rfl ?_
  rintro _ W31 ⟨rfl, b30⟩
  replace k3 := k3.below b30
  replace k19 := k19.below b30
  replace hB := below_then hB b30
  replace hL := LL.below hL b30
  refine Pu rfl (Ni (hK29 ?_))
  refine WC.cond rfl (fun c32 => ?_) (fun c32 => ?_)
  ·
   refine Sq fun K33 hK33 => ?_
   have hz : kb + 4 ≤ s.size := begin_sz (wd := ⟨#[116, 114, 117, 101]⟩) (by assumption) rfl
   refine Rg (Va (dx_build rfl rfl (built_of_O (cs := [.int .i64 1, .int .i64 0, .string ⟨#[]⟩, .slice none 0 0, .slice none 0 0]) (by kernel_rfl) (oc_cons rfl oc_nil))) rfl rfl (Pu rfl (Va (dx_add (r := ((kb + 4 : Nat) : Int)) rfl rfl rfl (by rw [wrap64_id (by omega)]; omega)) rfl rfl ?_)))
   refine WL.do (dx_store (cs' := [.int .i64 1, .int .i64 0, .string ⟨#[]⟩, .slice none 0 0, .slice none 0 0]) (vs := [.int .i64 1, .int .i64 0, .string ⟨#[]⟩, .slice none 0 0, .slice none 0 0]) rfl ty_size_26_5 rfl rfl rfl (oc_cons rfl (oc_cons rfl (oc_cons rfl (oc_cons rfl (oc_cons rfl oc_nil))))) k3 rfl (Nat.le_of_ble_eq_true rfl) rfl) rfl ?_
   rintro _ W34 ⟨k36, o35⟩
   clear k3
   replace hB := o35.below hB l6
   refine Pu rfl (Pu rfl (Ni (hK33 ?_)))
   exact WC.ret fun a_ ha_ => hQ (cv_ret3 rfl (.agg rfl ty_agg_26_5 k36.range rfl) (.tmp rfl) (.tmp rfl) (.inl ⟨leafT 1 0 ⟨#[]⟩, kb + 4, rfl, (by rw [← hkb]; exact valB_w1 (by omega) (by assumption)), leaf_rd _ _ _ _ _ _, by omega, by omega⟩) hB ha_)
  ·
   refine Sq fun K37 hK37 => (Rg (Pu rfl (Pu rfl ?_)))
   refine Ge (dx_cv rfl Try.func67 rfl rfl rfl (refBegins_v s ({ data := #[102, 97, 108, 115, 101] }) kb W31 _ hL hs (by omega) (by decide))) rfl rfl ?_
   rintro _ W39 ⟨rfl, b38⟩
   replace k3 := k3.below b38
   replace k19 := k19.below b38
   replace hB := below_then hB b38
   replace hL := LL.below hL b38
   refine Pu rfl (Ni (hK37 ?_))
   refine WC.cond rfl (fun c40 => ?_) (fun c40 => ?_)
   ·
    refine Sq fun K41 hK41 => ?_
    have hz : kb + 5 ≤ s.size := begin_sz (wd := ⟨#[102, 97, 108, 115, 101]⟩) (by assumption) rfl
    refine Rg (Va (dx_build rfl rfl (built_of_O (cs := [.int .i64 2, .int .i64 0, .string ⟨#[]⟩, .slice none 0 0, .slice none 0 0]) (by kernel_rfl) (oc_cons rfl oc_nil))) rfl rfl (Pu rfl (Va (dx_add (r := ((kb + 5 : Nat) : Int)) rfl rfl rfl (by rw [wrap64_id (by omega)]; omega)) rfl rfl ?_)))
    refine WL.do (dx_store (cs' := [.int .i64 2, .int .i64 0, .string ⟨#[]⟩, .slice none 0 0, .slice none 0 0]) (vs := [.int .i64 2, .int .i64 0, .string ⟨#[]⟩, .slice none 0 0, .slice none 0 0]) rfl ty_size_26_5 rfl rfl rfl (oc_cons rfl (oc_cons rfl (oc_cons rfl (oc_cons rfl (oc_cons rfl oc_nil))))) k3 rfl (Nat.le_of_ble_eq_true rfl) rfl) rfl ?_
    rintro _ W42 ⟨k44, o43⟩
    clear k3
    replace hB := o43.below hB l6
    refine Pu rfl (Pu rfl (Ni (hK41 ?_)))
    exact WC.ret fun a_ ha_ => hQ (cv_ret3 rfl (.agg rfl ty_agg_26_5 k44.range rfl) (.tmp rfl) (.tmp rfl) (.inl ⟨leafT 2 0 ⟨#[]⟩, kb + 5, rfl, (by rw [← hkb]; exact valB_w2 (by omega) (by assumption)), leaf_rd _ _ _ _ _ _, by omega, by omega⟩) hB ha_)
   ·
    refine Sq fun K45 hK45 => (Rg (Pu rfl (Pu rfl ?_)))
    refine Ge (dx_cv rfl Try.func67 rfl rfl rfl (refBegins_v s ({ data := #[34] }) kb W39 _ hL hs (by omega) (by decide))) rfl rfl ?_
    rintro _ W47 ⟨rfl, b46⟩
    replace k3 := k3.below b46
    replace k19 := k19.below b46
    replace hB := below_then hB b46
    replace hL := LL.below hL b46
    refine Pu rfl (Ni (hK45 ?_))
    refine WC.cond rfl (fun c48 => ?_) (fun c48 => ?_)
    ·
     refine Sq fun K49 hK49 => ?_
     have htq : takeS s kb 34 = true := begin_t (by decide) rfl (by assumption)
     refine Rg (Pu rfl (Pu rfl ?_))
     refine Ge (dx_cv rfl Try.func68 rfl rfl rfl (refQuoteT_v s kb W47 _ hL hs (by omega) (refEsc_at hs))) rfl rfl ?_
     rintro _ W67 ⟨(⟨lq, kq, rfl, hq64, hq58, hq59, hq60, hq61, hq62⟩ | ⟨rfl, hq63⟩), g66⟩
     ·
      replace k3 := k3.below g66
      replace hB := below_then hB g66
      refine Pu rfl (Pu rfl (Pu rfl (Pu rfl (Pu rfl (Ni (hK49 (Sq fun K69 hK69 => ?_)))))))
      refine Sq fun K70 hK70 => (Rg (Pu rfl (Va (dx_lss rfl rfl rfl) rfl rfl (Ni (hK70 ?_)))))
      refine WC.cond rfl (fun c71 => ?_) (fun c71 => ?_)
      ·
       replace c71 := dT c71
       exfalso; omega
      ·
       replace c71 := dF c71
       refine WC.skip (hK69 (Sq fun K72 hK72 => (Rg (Pu rfl (Va (dx_build rfl rfl (built_of_O (cs := [.int .i64 4, .int .i64 0, .string (strOfNums lq), .slice none 0 0, .slice none 0 0]) (by kernel_rfl) (oc_cons rfl (oc_cons rfl oc_nil)))) rfl rfl (Pu rfl ?_))))))
       refine WL.do (dx_store (cs' := [.int .i64 4, .int .i64 0, .string (strOfNums lq), .slice none 0 0, .slice none 0 0]) (vs := [.int .i64 4, .int .i64 0, .string (strOfNums lq), .slice none 0 0, .slice none 0 0]) rfl ty_size_26_5 rfl rfl rfl (oc_cons rfl (oc_cons rfl (oc_cons rfl (oc_cons rfl (oc_cons rfl oc_nil))))) k3 rfl (Nat.le_of_ble_eq_true rfl) rfl) rfl ?_
       rintro _ W73 ⟨k75, o74⟩
       clear k3
       replace hB := o74.below hB l6
       refine Pu rfl (Pu rfl (Ni (hK72 ?_)))
       exact WC.ret fun a_ ha_ => hQ (cv_ret3 rfl (.agg rfl ty_agg_26_5 k75.range rfl) (.tmp rfl) (.tmp rfl) (.inl ⟨leafT 4 0 (strOfNums lq), kq, rfl, (by rw [← hkb]; exact (valB_q htq).trans (quoR_t hq58)), leaf_rd _ _ _ _ _ _, by omega, by omega⟩) hB ha_)
     ·
      replace k3 := k3.below g66
      replace k19 := k19.below g66
      replace hB := below_then hB g66
      refine Pu rfl (Pu rfl (Pu rfl (Pu rfl (Pu rfl (Ni (hK49 (Sq fun K76 hK76 => ?_)))))))
      refine Sq fun K77 hK77 => (Rg (Pu rfl (Va (dx_lss rfl rfl rfl) rfl rfl (Ni (hK77 (WC.condT rfl (Sq fun K78 hK78 => ?_)))))))
      refine Rg (Va (dx_loadN rfl ty_agg_26_5 rfl k19.range rfl) rfl rfl ?_)
      refine WL.do (dx_store (cs' := zV) (vs := zV) rfl ty_size_26_5 rfl rfl rfl (oc_cons rfl (oc_cons rfl (oc_cons rfl (oc_cons rfl (oc_cons rfl oc_nil))))) k3 rfl (Nat.le_of_ble_eq_true rfl) rfl) rfl ?_
      rintro _ W79 ⟨k81, o80⟩
      clear k3
      replace hB := o80.below hB l6
      refine Pu rfl (Pu rfl (Ni (hK78 ?_)))
      exact WC.ret fun a_ ha_ => hQ (cv_ret3 rfl (.agg rfl ty_agg_26_5 k81.range rfl) (.tmp rfl) (.tmp rfl) (.inr ⟨2, rfl, by decide, (by rw [← hkb]; exact (valB_q htq).trans (quoR_f (hq63 htq)))⟩) hB ha_)
    ·
     refine Sq fun K82 hK82 => ?_
     have hJ14 : ∀ (b_ : Bool) (f_ : Fl), b_ = numB s kb → Sub [(0, .string s), (1, .int .i64 (kb : Int)), (2, .int .i64 (dp : Int)), (6, .pointer (some ⟨w.heap.size, 0, none⟩)), (7, .int .i64 0), (8, .int .i64 0), (9, .pointer (some ⟨W9.heap.size, 0, none⟩)), (66, .bool b_)] f_ → ∀ a, Fr 226 a f_ → K82 a W47 := by
      intro b_ f_ hb_14 hs_
      refine hK82 (WC.sub hs_ ?_)
      refine WC.cond rfl (fun c83 => ?_) (fun c83 => ?_)
      ·
       refine Sq fun K84 hK84 => ?_
       obtain ⟨hlt, hnu⟩ := of_decide_eq_true (hb_14.symm.trans (by assumption) : numB s kb = true)
       refine Rg (Pu rfl (Pu rfl ?_))
       refine Ge (dx_cv rfl Try.func69 rfl rfl rfl (refNumber_e s kb W47 _ hL hs hlt)) rfl rfl ?_
       rintro _ W98 ⟨(⟨nn, kn, rfl, hn91, hn92, hn93⟩ | ⟨en, rfl, hn94, hn95⟩), g97⟩
       ·
        replace k3 := k3.below g97
        replace hB := below_then hB g97
        refine Pu rfl (Pu rfl (Pu rfl (Pu rfl (Pu rfl (Pu rfl (Pu rfl (Ni ?_)))))))
        refine hK84 (Sq fun K100 hK100 => (Sq fun K101 hK101 => (Rg (Pu rfl (Va (dx_neq rfl rfl rfl) rfl rfl (Ni (hK101 ?_)))))))
        refine WC.condF rfl (WC.skip (hK100 (Sq fun K102 hK102 => (Rg (Pu rfl (Va (dx_build rfl rfl (built_of_O (cs := [.int .i64 3, .int .i64 nn, .string ⟨#[]⟩, .slice none 0 0, .slice none 0 0]) (by kernel_rfl) (oc_cons rfl (oc_cons rfl oc_nil)))) rfl rfl (Pu rfl ?_)))))))
        refine WL.do (dx_store (cs' := [.int .i64 3, .int .i64 nn, .string ⟨#[]⟩, .slice none 0 0, .slice none 0 0]) (vs := [.int .i64 3, .int .i64 nn, .string ⟨#[]⟩, .slice none 0 0, .slice none 0 0]) rfl ty_size_26_5 rfl rfl rfl (oc_cons rfl (oc_cons rfl (oc_cons rfl (oc_cons rfl (oc_cons rfl oc_nil))))) k3 rfl (Nat.le_of_ble_eq_true rfl) rfl) rfl ?_
        rintro _ W103 ⟨k105, o104⟩
        clear k3
        replace hB := o104.below hB l6
        refine Pu rfl (Pu rfl (Ni (hK102 ?_)))
        exact WC.ret fun a_ ha_ => hQ (cv_ret3 rfl (.agg rfl ty_agg_26_5 k105.range rfl) (.tmp rfl) (.tmp rfl) (.inl ⟨leafT 3 nn ⟨#[]⟩, kn, rfl, (by rw [← hkb]; exact (valB_n (hb_14.symm.trans (by first | assumption | exact Bool.eq_false_iff.2 (by assumption)))).trans (numR_t hn91)), leaf_rd _ _ _ _ _ _, by omega, by omega⟩) hB ha_)
       ·
        replace k3 := k3.below g97
        replace k19 := k19.below g97
        replace hB := below_then hB g97
        refine Pu rfl (Pu rfl (Pu rfl (Pu rfl (Pu rfl (Pu rfl (Pu rfl (Ni ?_)))))))
        refine hK84 (Sq fun K106 hK106 => (Sq fun K107 hK107 => (Rg (Pu rfl (Va (dx_neq rfl rfl rfl) rfl rfl (Ni (hK107 ?_)))))))
        refine WC.cond rfl (fun c108 => ?_) (fun c108 => ?_)
        ·
         replace c108 := bnot_t c108
         replace c108 := dF c108
         refine Sq fun K109 hK109 => (Rg (Va (dx_loadN rfl ty_agg_26_5 rfl k19.range rfl) rfl rfl (Pu rfl ?_)))
         refine WL.do (dx_store (cs' := zV) (vs := zV) rfl ty_size_26_5 rfl rfl rfl (oc_cons rfl (oc_cons rfl (oc_cons rfl (oc_cons rfl (oc_cons rfl oc_nil))))) k3 rfl (Nat.le_of_ble_eq_true rfl) rfl) rfl ?_
         rintro _ W110 ⟨k112, o111⟩
         clear k3
         replace hB := o111.below hB l6
         refine Pu rfl (Pu rfl (Ni (hK109 ?_)))
         exact WC.ret fun a_ ha_ => hQ (cv_ret3 rfl (.agg rfl ty_agg_26_5 k112.range rfl) (.tmp rfl) (.tmp rfl) (.inr ⟨en, rfl, hn94, (by rw [← hkb]; exact (valB_n (hb_14.symm.trans (by first | assumption | exact Bool.eq_false_iff.2 (by assumption)))).trans (numR_f hn95))⟩) hB ha_)
        ·
         replace c108 := bnot_f c108
         replace c108 := dT c108
         exfalso; omega
      ·
       replace c83 := bvar_f c83
       refine Sq fun K113 hK113 => (Rg (Pu rfl (Pu rfl ?_)))
       refine Ge (dx_cv rfl Try.func67 rfl rfl rfl (refBegins_v s ({ data := #[91] }) kb W47 _ hL hs (by omega) (by decide))) rfl rfl ?_
       rintro _ W115 ⟨rfl, b114⟩
       replace k3 := k3.below b114
       replace k19 := k19.below b114
       replace hB := below_then hB b114
       replace hL := LL.below hL b114
       refine Va (dx_not rfl rfl) rfl rfl (Pu rfl ?_)
       refine WL.split 108 rfl (fun g116 => ?_) (fun g116 => ?_)
       ·
        replace g116 := bnot_t g116
        refine Pu rfl (Pu rfl ?_)
        refine Ge (dx_cv rfl Try.func67 rfl rfl rfl (refBegins_v s ({ data := #[123] }) kb W115 _ hL hs (by omega) (by decide))) rfl rfl ?_
        rintro _ W118 ⟨rfl, b117⟩
        replace k3 := k3.below b117
        replace k19 := k19.below b117
        replace hB := below_then hB b117
        replace hL := LL.below hL b117
        refine Va (dx_not rfl rfl) rfl rfl (Pu rfl (Pu rfl (Ni (hK113 ?_))))
        refine WC.cond rfl (fun c119 => ?_) (fun c119 => ?_)
        ·
         replace c119 := bnot_t c119
         refine Sq fun K120 hK120 => (Rg (Va (dx_loadN rfl ty_agg_26_5 rfl k19.range rfl) rfl rfl ?_))
         refine WL.do (dx_store (cs' := zV) (vs := zV) rfl ty_size_26_5 rfl rfl rfl (oc_cons rfl (oc_cons rfl (oc_cons rfl (oc_cons rfl (oc_cons rfl oc_nil))))) k3 rfl (Nat.le_of_ble_eq_true rfl) rfl) rfl ?_
         rintro _ W121 ⟨k123, o122⟩
         clear k3
         replace hB := o122.below hB l6
         refine Pu rfl (Pu rfl (Ni (hK120 ?_)))
         exact WC.ret fun a_ ha_ => hQ (cv_ret3 rfl (.agg rfl ty_agg_26_5 k123.range rfl) (.tmp rfl) (.tmp rfl) (.inr ⟨2, rfl, by decide, (by rw [← hkb]; exact valB_0 (by omega) (by assumption) (by assumption) (by assumption) (begin_f (by decide) rfl (by assumption)) (hb_14.symm.trans (by first | assumption | exact Bool.eq_false_iff.2 (by assumption))) (begin_f (by decide) rfl (by assumption)) (begin_f (by decide) rfl (by assumption)))⟩) hB ha_)
        ·
         replace c119 := bnot_f c119
         refine Sq fun K124 hK124 => ?_
         have htq : takeS s kb 123 = true := begin_t (by decide) rfl (by assumption)
         obtain ⟨hlt, hch⟩ := take_t htq
         refine Rg (Pu rfl (Va (dx_geq rfl rfl rfl) rfl rfl (Pu rfl (Ni (hK124 ?_)))))
         refine WC.cond rfl (fun c125 => ?_) (fun c125 => ?_)
         ·
          replace c125 := dT c125
          refine Sq fun K126 hK126 => (Rg (Va (dx_loadN rfl ty_agg_26_5 rfl k19.range rfl) rfl rfl ?_))
          refine WL.do (dx_store (cs' := zV) (vs := zV) rfl ty_size_26_5 rfl rfl rfl (oc_cons rfl (oc_cons rfl (oc_cons rfl (oc_cons rfl (oc_cons rfl oc_nil))))) k3 rfl (Nat.le_of_ble_eq_true rfl) rfl) rfl ?_
          rintro _ W127 ⟨k129, o128⟩
          clear k3
          replace hB := o128.below hB l6
          refine Pu rfl (Pu rfl (Ni (hK126 ?_)))
          exact WC.ret fun a_ ha_ => hQ (cv_ret3 rfl (.agg rfl ty_agg_26_5 k129.range rfl) (.tmp rfl) (.tmp rfl) (.inr ⟨4, rfl, by decide, (by rw [← hkb]; exact (valB_o htq).trans (nest_12 (by omega) hd))⟩) hB ha_)
         ·
          replace c125 := dF c125
          refine WC.skip (hK20 (Sq fun K130 hK130 => (Rg (Va (dx_build rfl rfl (built_of_O (cs := [.int .i64 5, .int .i64 0, .string ⟨#[]⟩, .slice none 0 0, .slice none 0 0]) (by kernel_rfl) (oc_cons rfl oc_nil))) rfl rfl ?_))))
          refine Ge (dx_alloc rfl ty_zero_26 rfl) rfl rfl ?_
          rintro _ W131 ⟨rfl, k132, b133, z134⟩
          have n135 : w.heap.size ≠ W118.heap.size := Nat.ne_of_lt k3.lt
          have n136 : W9.heap.size ≠ W118.heap.size := Nat.ne_of_lt k19.lt
          have l137 := hB.size
          replace k3 := k3.below b133
          replace k19 := k19.below b133
          replace hB := below_then hB b133
          replace hL := LL.more hL z134
          refine WL.do (dx_store (cs' := [.int .i64 5, .int .i64 0, .string ⟨#[]⟩, .slice none 0 0, .slice none 0 0]) (vs := [.int .i64 5, .int .i64 0, .string ⟨#[]⟩, .slice none 0 0, .slice none 0 0]) rfl ty_size_26_5 rfl rfl rfl (oc_cons rfl (oc_cons rfl (oc_cons rfl (oc_cons rfl (oc_cons rfl oc_nil))))) k132 rfl (Nat.le_of_ble_eq_true rfl) rfl) rfl ?_
          rintro _ W138 ⟨k140, o139⟩
          replace k3 := k3.other o139 n135
          replace k19 := k19.other o139 n136
          clear k132
          replace hB := o139.below hB l137
          replace hL := LL.only hL o139
          refine Pu rfl (Ni (hK130 (Sq fun K141 hK141 => (Sq fun K142 hK142 => (Rg (Pu rfl (Pu rfl ?_)))))))
          refine Va (dx_at kb rfl Try.underlying9 rfl rfl (by omega) (by omega)) rfl rfl (Va (dx_eql rfl rfl rfl) rfl rfl (Ni (hK142 ?_)))
          refine WC.cond rfl (fun c143 => ?_) (fun c143 => ?_)
          ·
           replace c143 := dT c143
           refine Rg (Va (dx_build rfl rfl (built_of_O (cs := [.int .i64 6, .int .i64 0, .string ⟨#[]⟩, .slice none 0 0, .slice none 0 0]) (by kernel_rfl) (oc_cons rfl oc_nil))) rfl rfl ?_)
           refine WL.do (dx_store (cs' := [.int .i64 6, .int .i64 0, .string ⟨#[]⟩, .slice none 0 0, .slice none 0 0]) (vs := [.int .i64 6, .int .i64 0, .string ⟨#[]⟩, .slice none 0 0, .slice none 0 0]) rfl ty_size_26_5 rfl rfl rfl (oc_cons rfl (oc_cons rfl (oc_cons rfl (oc_cons rfl (oc_cons rfl oc_nil))))) k140 rfl (Nat.le_of_ble_eq_true rfl) rfl) rfl ?_
           rintro _ W144 ⟨k146, o145⟩
           replace k3 := k3.other o145 n135
           replace k19 := k19.other o145 n136
           clear k140
           replace hB := o145.below hB l137
           replace hL := LL.only hL o145
           refine Pu rfl (Ni (hK141 (Sq fun K147 hK147 => ?_)))
           have hP : valB s dp (listS s vs kb) (objS s vs kb) kb = objS s vs kb := (valB_o htq).trans (nest_lt (by omega))
           refine Rg (Pu rfl (Pu rfl (Va (dx_add (r := ((kb + 1 : Nat) : Int)) rfl rfl rfl (by rw [wrap64_id (by omega)]; omega)) rfl rfl ?_)))
           refine Ge (dx_cv rfl Try.func38 rfl rfl rfl (refBlank_e s (kb + 1) W144 _ hL hs (by omega))) rfl rfl ?_
           rintro _ W149 ⟨⟨kc, rfl, hkc, hkc1, hkc2⟩, b148⟩
           replace k3 := k3.below b148
           replace k19 := k19.below b148
           replace k146 := k146.below b148
           replace hB := below_then hB b148
           replace hL := LL.below hL b148
           refine Pu rfl (Ni (hK147 (Sq fun K150 hK150 => (Sq fun K151 hK151 => ?_))))
           have hJ27 : ∀ (b_ : Bool) (f_ : Fl), b_ = takeS s kc 125 → Sub [(0, .string s), (1, .int .i64 (kc : Int)), (2, .int .i64 (dp : Int)), (6, .pointer (some ⟨w.heap.size, 0, none⟩)), (7, .int .i64 0), (8, .int .i64 0), (9, .pointer (some ⟨W9.heap.size, 0, none⟩)), (15, .pointer (some ⟨W118.heap.size, 0, none⟩)), (16, .int .u8 125), (139, .bool b_)] f_ → ∀ a, Fr 226 a f_ → K151 a W149 := by
            intro b_ f_ hb_27 hs_
            refine hK151 (WC.sub hs_ ?_)
            refine WC.cond rfl (fun c152 => ?_) (fun c152 => ?_)
            ·
             refine Sq fun K153 hK153 => ?_
             have hz := (take_t (hb_27.symm.trans (by assumption))).1
             refine Rg (Va (dx_loadN rfl ty_agg_26_5 rfl k146.range rfl) rfl rfl (Pu rfl (Va (dx_add (r := ((kc + 1 : Nat) : Int)) rfl rfl rfl (by rw [wrap64_id (by omega)]; omega)) rfl rfl ?_)))
             refine WL.do (dx_store (cs' := [.int .i64 6, .int .i64 0, .string ⟨#[]⟩, .slice none 0 0, .slice none 0 0]) (vs := [.int .i64 6, .int .i64 0, .string ⟨#[]⟩, .slice none 0 0, .slice none 0 0]) rfl ty_size_26_5 rfl rfl rfl (oc_cons rfl (oc_cons rfl (oc_cons rfl (oc_cons rfl (oc_cons rfl oc_nil))))) k3 rfl (Nat.le_of_ble_eq_true rfl) rfl) rfl ?_
             rintro _ W154 ⟨k156, o155⟩
             clear k3
             replace hB := o155.below hB l6
             refine Pu rfl (Pu rfl (Ni (hK153 ?_)))
             exact WC.ret fun a_ ha_ => hQ (cv_ret3 rfl (.agg rfl ty_agg_26_5 k156.range rfl) (.tmp rfl) (.tmp rfl) (.inl ⟨tNil 6, kc + 1, rfl, (by rw [← hkb]; exact hP.trans ((objS_k (memS_0 rfl hkc (hb_27.symm.trans (by first | assumption | exact Bool.eq_false_iff.2 (by assumption))) rfl)).trans (by rw [tNil_er]))), tNil_rd _ _ _ _, by omega, by omega⟩) hB ha_)
            ·
             replace c152 := bvar_f c152
             refine WC.skip (hK150 (WC.block ?_))
             have hm0 : memS s (pairS s vs) 125 kb ([], []) = memL s (pairS s vs) 125 (s.size + 1) kc ([], []) := memS_1 rfl hkc (hb_27.symm.trans (by first | assumption | exact Bool.eq_false_iff.2 (by assumption)))
             have htb : RdT (n + 2) (W118.heap.size :: W9.heap.size :: w.heap.size :: L) W149 (tNil 6) := tNil_rd _ _ _ _
             refine WC.loop2 (fun (kl : Nat) (tb : Tr) => [(0, .string s), (2, .int .i64 (dp : Int)), (6, .pointer (some ⟨w.heap.size, 0, none⟩)), (9, .pointer (some ⟨W9.heap.size, 0, none⟩)), (15, .pointer (some ⟨W118.heap.size, 0, none⟩)), (16, .int .u8 125), (1, .int .i64 (kl : Int))]) (fun (kl : Nat) (tb : Tr) W => kl ≤ s.size ∧ kb < kl ∧ ObT tb ∧ tb.names.length ≤ kl ∧ (∃ n_, s.size - kl < n_ ∧ memS s (pairS s vs) 125 kb ([], []) = memL s (pairS s vs) 125 n_ kl (tb.names, tb.items.map Tr.er)) ∧ Below w.heap.size w W ∧ LL (W118.heap.size :: W9.heap.size :: w.heap.size :: L) W ∧ RdT (n + 2) (W118.heap.size :: W9.heap.size :: w.heap.size :: L) W tb ∧ Blk W w.heap.size [.int .i64 0, .int .i64 0, .string ⟨#[]⟩, .slice none 0 0, .slice none 0 0] ∧ Blk W W9.heap.size [.int .i64 0, .int .i64 0, .string ⟨#[]⟩, .slice none 0 0, .slice none 0 0] ∧ Blk W W118.heap.size [.int .i64 tb.kind, .int .i64 tb.num, .string tb.text, tb.nv, tb.iv]) (fun (kl : Nat) (tb : Tr) => s.size - kl) kc (tNil 6) (by repeat first | exact trivial | exact And.intro rfl trivial | refine And.intro rfl ?_ | refine And.intro (congrArg (fun z : Int => some (Value.int .i64 z)) (by omega)) ?_) ⟨(by omega), (by omega), obT_nil, (Nat.zero_le _), ⟨s.size + 1, by omega, hm0⟩, hB, hL, htb, k3, k19, k146⟩ ?_
             clear htb k3 k19 k146 hB hL
             rintro K157 kl tb W158 ⟨hkl, hkk, hob, hnl, hv, hB, hL, htb, k3, k19, k146⟩ hK157
             refine WC.block (Sq fun K159 hK159 => ?_)
             obtain ⟨n_, hn1, hv⟩ := hv
             obtain ⟨n_, rfl⟩ : ∃ m, n_ = m + 1 := ⟨n_ - 1, by omega⟩
             refine Rg (Pu rfl (Ni (hK159 (Sq fun K160 hK160 => (Sq fun K161 hK161 => (Rg (Va (dx_fld (o1 := 0) rfl ty_fld_26_0_0 rfl rfl) rfl rfl ?_)))))))
             refine Va (dx_load rfl ty_one_3 rfl (k146.cell (k := 0) rfl)) rfl rfl (Va (dx_eql rfl rfl rfl) rfl rfl (Ni (hK161 ?_)))
             refine WC.cond rfl (fun c162 => ?_) (fun c162 => ?_)
             ·
              replace c162 := dT c162
              refine Sq fun K163 hK163 => (Rg (Pu rfl (Pu rfl (Pu rfl ?_))))
              refine Ge (dx_cv rfl Try.func38 rfl rfl rfl (refBlank_e s kl W158 _ hL hs (by omega))) rfl rfl ?_
              rintro _ W165 ⟨⟨kd, rfl, hkd, hkd1, hkd2⟩, b164⟩
              replace htb := htb.below b164
              replace k3 := k3.below b164
              replace k19 := k19.below b164
              replace k146 := k146.below b164
              replace hB := below_then hB b164
              replace hL := LL.below hL b164
              refine Ge (dx_cv rfl Try.func68 rfl rfl rfl (refQuoteT_v s kd W165 _ hL hs (by omega) (refEsc_at hs))) rfl rfl ?_
              rintro _ W183 ⟨(⟨nm, kq, rfl, hq180, hq174, hq175, hq176, hq177, hq178⟩ | ⟨rfl, hq179⟩), g182⟩
              ·
               replace htb := htb.below g182
               replace k3 := k3.below g182
               replace k19 := k19.below g182
               replace k146 := k146.below g182
               replace hB := below_then hB g182
               replace hL := LL.below hL g182
               refine Pu rfl (Pu rfl (Pu rfl (Pu rfl (Pu rfl (Ni (hK163 (Sq fun K185 hK185 => ?_)))))))
               refine Sq fun K186 hK186 => (Rg (Pu rfl (Va (dx_lss rfl rfl rfl) rfl rfl (Ni (hK186 ?_)))))
               refine WC.cond rfl (fun c187 => ?_) (fun c187 => ?_)
               ·
                replace c187 := dT c187
                exfalso; omega
               ·
                replace c187 := dF c187
                refine WC.skip (hK185 (Sq fun K188 hK188 => (Rg (Va (dx_loadN rfl ty_agg_26_5 rfl k146.range rfl) rfl rfl (Pu rfl ?_)))))
                refine Ge (dx_cv rfl Try.func18 rfl rfl rfl (refGet_e (n + 1) tb (strOfNums nm) W183 _ hL htb)) rfl rfl ?_
                rintro _ W190 ⟨⟨ga, rfl, hga⟩, b189⟩
                replace htb := htb.below b189
                replace k3 := k3.below b189
                replace k19 := k19.below b189
                replace k146 := k146.below b189
                replace hB := below_then hB b189
                replace hL := LL.below hL b189
                refine Pu rfl (Pu rfl (Pu rfl ?_))
                refine Ge (dx_alloc rfl ty_zero_26 rfl) rfl rfl ?_
                rintro _ W191 ⟨rfl, k192, b193, z194⟩
                have n195 : w.heap.size ≠ W190.heap.size := Nat.ne_of_lt k3.lt
                have n196 : W9.heap.size ≠ W190.heap.size := Nat.ne_of_lt k19.lt
                have n197 : W118.heap.size ≠ W190.heap.size := Nat.ne_of_lt k146.lt
                have l198 := hB.size
                replace htb := htb.more b193 (Nat.le_refl _)
                replace hga := hga.more b193 (Nat.le_refl _)
                replace k3 := k3.below b193
                replace k19 := k19.below b193
                replace k146 := k146.below b193
                replace hB := below_then hB b193
                replace hL := LL.more hL z194
                refine WL.do (dx_store (cs' := [.int .i64 ga.kind, .int .i64 ga.num, .string ga.text, ga.nv, ga.iv]) (vs := [.int .i64 ga.kind, .int .i64 ga.num, .string ga.text, ga.nv, ga.iv]) rfl ty_size_26_5 rfl rfl rfl (oc_cons rfl (oc_cons rfl (oc_cons rfl (oc_cons (hga.1).one (oc_cons (hga.2.1).one oc_nil))))) k192 rfl (Nat.le_of_ble_eq_true rfl) rfl) rfl ?_
                rintro _ W199 ⟨k201, o200⟩
                replace k3 := k3.other o200 n195
                replace k19 := k19.other o200 n196
                replace k146 := k146.other o200 n197
                clear k192
                replace htb := htb.only o200 (.head _)
                replace hB := o200.below hB l198
                replace hL := LL.only hL o200
                refine Pu rfl (Ni (hK188 (Sq fun K202 hK202 => (Sq fun K203 hK203 => (Rg (Pu rfl (Ni ?_)))))))
                refine hK203 ?_
                refine WC.cond rfl (fun c204 => ?_) (fun c204 => ?_)
                ·
                 refine Sq fun K205 hK205 => (Rg (Va (dx_loadN rfl ty_agg_26_5 rfl k19.range rfl) rfl rfl ?_))
                 refine WL.do (dx_store (cs' := zV) (vs := zV) rfl ty_size_26_5 rfl rfl rfl (oc_cons rfl (oc_cons rfl (oc_cons rfl (oc_cons rfl (oc_cons rfl oc_nil))))) k3 rfl (Nat.le_of_ble_eq_true rfl) rfl) rfl ?_
                 rintro _ W206 ⟨k208, o207⟩
                 clear k3
                 replace hB := o207.below hB l6
                 refine Pu rfl (Pu rfl (Ni (hK205 ?_)))
                 exact WC.ret fun a_ ha_ => hQ (cv_ret3 rfl (.agg rfl ty_agg_26_5 k208.range rfl) (.tmp rfl) (.tmp rfl) (.inr ⟨6, rfl, (by decide), (by rw [← hkb]; exact hP.trans (objS_x (hv.trans (memL_e hkd ((pairS_n hq180 hq174 rfl).trans (pairN_t rfl (hob.get_t (by assumption))))))))⟩) hB ha_)
                ·
                 refine WC.skip (hK202 (Sq fun K209 hK209 => ?_))
                 have hnn := hob.get_f (nm := strOfNums nm) (by assumption)
                 refine Rg (Pu rfl (Pu rfl (Ni (hK209 (Sq fun K210 hK210 => (Rg (Pu rfl ?_)))))))
                 refine Pu rfl ?_
                 refine Ge (dx_cv rfl Try.func38 rfl rfl rfl (refBlank_e s kq W199 _ hL hs (by omega))) rfl rfl ?_
                 rintro _ W212 ⟨⟨ke, rfl, hke, hke1, hke2⟩, b211⟩
                 replace htb := htb.below b211
                 replace k3 := k3.below b211
                 replace k19 := k19.below b211
                 replace k146 := k146.below b211
                 replace hB := below_then hB b211
                 replace hL := LL.below hL b211
                 refine Pu rfl (Ni (hK210 (Sq fun K213 hK213 => (Sq fun K214 hK214 => (Rg (Pu rfl (Pu rfl ?_)))))))
                 refine Ge (dx_cv rfl Try.func67 rfl rfl rfl (refBegins_v s ({ data := #[58] }) ke W212 _ hL hs (by omega) (by decide))) rfl rfl ?_
                 rintro _ W216 ⟨rfl, b215⟩
                 replace htb := htb.below b215
                 replace k3 := k3.below b215
                 replace k19 := k19.below b215
                 replace k146 := k146.below b215
                 replace hB := below_then hB b215
                 replace hL := LL.below hL b215
                 refine Va (dx_not rfl rfl) rfl rfl (Ni (hK214 ?_))
                 refine WC.cond rfl (fun c217 => ?_) (fun c217 => ?_)
                 ·
                  replace c217 := bnot_t c217
                  refine Sq fun K218 hK218 => (Rg (Va (dx_loadN rfl ty_agg_26_5 rfl k19.range rfl) rfl rfl ?_))
                  refine WL.do (dx_store (cs' := zV) (vs := zV) rfl ty_size_26_5 rfl rfl rfl (oc_cons rfl (oc_cons rfl (oc_cons rfl (oc_cons rfl (oc_cons rfl oc_nil))))) k3 rfl (Nat.le_of_ble_eq_true rfl) rfl) rfl ?_
                  rintro _ W219 ⟨k221, o220⟩
                  clear k3
                  replace hB := o220.below hB l6
                  refine Pu rfl (Pu rfl (Ni (hK218 ?_)))
                  exact WC.ret fun a_ ha_ => hQ (cv_ret3 rfl (.agg rfl ty_agg_26_5 k221.range rfl) (.tmp rfl) (.tmp rfl) (.inr ⟨2, rfl, (by decide), (by rw [← hkb]; exact hP.trans (objS_x (hv.trans (memL_e hkd ((pairS_n hq180 hq174 rfl).trans (pairN_c rfl hnn hke (begin_f (by decide) rfl (by assumption))))))))⟩) hB ha_)
                 ·
                  replace c217 := bnot_f c217
                  refine WC.skip (hK213 ?_)
                  have hz := (take_t (begin_t (c := 58) (wd := ⟨#[58]⟩) (by decide) rfl (by assumption))).1
                  refine Rg (Pu rfl (Va (dx_add (r := ((ke + 1 : Nat) : Int)) rfl rfl rfl (by rw [wrap64_id (by omega)]; omega)) rfl rfl (Pu rfl (Ni (hK160 (Sq fun K222 hK222 => (Rg ?_)))))))
                  refine Pu rfl (Pu rfl (Pu rfl (Va (dx_add (r := ((dp + 1 : Nat) : Int)) rfl rfl rfl (by rw [wrap64_id (by omega)]; omega)) rfl rfl ?_)))
                  refine Ge (dx_cv rfl Try.func37 rfl rfl rfl (hc (by omega) (ke + 1) W216 _ hL (by omega))) rfl rfl ?_
                  rintro _ W236 ⟨(⟨x, kx, rfl, hv229, hx, hv230, hv231⟩ | ⟨ex, rfl, hv232, hv233⟩), g235⟩
                  ·
                   replace htb := htb.below g235
                   replace k3 := k3.below g235
                   replace k19 := k19.below g235
                   replace k146 := k146.below g235
                   replace hB := below_then hB g235
                   replace hL := LL.below hL g235
                   have hbl := (blankS_le (s := s) (k := ke + 1) (by omega)).1
                   refine Pu rfl (Pu rfl (Pu rfl (Pu rfl ?_)))
                   refine Ge (dx_alloc rfl ty_zero_26 rfl) rfl rfl ?_
                   rintro _ W238 ⟨rfl, k239, b240, z241⟩
                   have n242 : w.heap.size ≠ W236.heap.size := Nat.ne_of_lt k3.lt
                   have n243 : W9.heap.size ≠ W236.heap.size := Nat.ne_of_lt k19.lt
                   have n244 : W118.heap.size ≠ W236.heap.size := Nat.ne_of_lt k146.lt
                   have l246 := hB.size
                   replace htb := htb.more b240 (Nat.le_refl _)
                   replace hx := hx.more b240 (Nat.le_refl _)
                   replace k3 := k3.below b240
                   replace k19 := k19.below b240
                   replace k146 := k146.below b240
                   replace hB := below_then hB b240
                   replace hL := LL.more hL z241
                   refine WL.do (dx_store (cs' := [.int .i64 x.kind, .int .i64 x.num, .string x.text, x.nv, x.iv]) (vs := [.int .i64 x.kind, .int .i64 x.num, .string x.text, x.nv, x.iv]) rfl ty_size_26_5 rfl rfl rfl (oc_cons rfl (oc_cons rfl (oc_cons rfl (oc_cons (hx.1).one (oc_cons (hx.2.1).one oc_nil))))) k239 rfl (Nat.le_of_ble_eq_true rfl) rfl) rfl ?_
                   rintro _ W247 ⟨k249, o248⟩
                   replace k3 := k3.other o248 n242
                   replace k19 := k19.other o248 n243
                   replace k146 := k146.other o248 n244
                   clear k239
                   replace htb := htb.only o248 (.head _)
                   replace hx := hx.only o248 (.head _)
                   replace hB := o248.below hB l246
                   replace hL := LL.only hL o248
                   refine Pu rfl (Pu rfl (Ni (hK222 (Sq fun K250 hK250 => (Sq fun K251 hK251 => (Rg (Pu rfl ?_)))))))
                   refine Va (dx_neq rfl rfl rfl) rfl rfl (Ni (hK251 (WC.condF rfl (WC.skip (hK250 (Sq fun K252 hK252 => (Sq fun K253 hK253 => ?_)))))))
                   refine Rg (Va (dx_fld (o1 := 0) rfl ty_fld_26_0_0 rfl rfl) rfl rfl (Va (dx_load rfl ty_one_3 rfl (k146.cell (k := 0) rfl)) rfl rfl (Va (dx_eql rfl rfl rfl) rfl rfl (Ni (hK253 ?_)))))
                   refine WC.cond rfl (fun c254 => ?_) (fun c254 => ?_)
                   ·
                    replace c254 := dT c254
                    refine Rg (Va (dx_loadN rfl ty_agg_26_5 rfl k146.range rfl) rfl rfl (Pu rfl (Va (dx_loadN rfl ty_agg_26_5 rfl k249.range rfl) rfl rfl ?_)))
                    refine Ge (dx_cv rfl Try.func52 rfl rfl rfl (refPut_v (n + 1) tb x (strOfNums nm) W247 _ hL htb hx.up hob.2.1 hob.2.2 (by omega))) rfl rfl ?_
                    rintro _ W256 ⟨⟨t, rfl, hte, htt⟩, b255⟩
                    replace htb := htb.below b255
                    replace hx := hx.below b255
                    replace k3 := k3.below b255
                    replace k19 := k19.below b255
                    replace k146 := k146.below b255
                    replace hB := below_then hB b255
                    replace hL := LL.below hL b255
                    obtain ⟨hob2, hns2, hts2, hln2⟩ := hob.put hnn hte
                    replace htt := hob.put_deep hnn hte htb hx htt
                    refine WL.do (dx_store (cs' := [.int .i64 t.kind, .int .i64 t.num, .string t.text, t.nv, t.iv]) (vs := [.int .i64 t.kind, .int .i64 t.num, .string t.text, t.nv, t.iv]) rfl ty_size_26_5 rfl rfl rfl (oc_cons rfl (oc_cons rfl (oc_cons rfl (oc_cons (htt.1).one (oc_cons (htt.2.1).one oc_nil))))) k146 rfl (Nat.le_of_ble_eq_true rfl) rfl) rfl ?_
                    rintro _ W257 ⟨k259, o258⟩
                    replace k3 := k3.other o258 n135
                    replace k19 := k19.other o258 n136
                    clear k146
                    replace hx := hx.only o258 (.tail _ (.tail _ (.head _)))
                    replace htt := htt.only o258 (.tail _ (.tail _ (.head _)))
                    replace hB := o258.below hB l137
                    replace hL := LL.only hL o258
                    refine Ni (hK252 (Sq fun K260 hK260 => ?_))
                    have hpair : pairS s vs kd (tb.names, tb.items.map Tr.er) = .ok ((insA (lbT (strOfNums nm) tb.names) (strOfNums nm) tb.names, insA (lbT (strOfNums nm) tb.names) x.er (tb.items.map Tr.er)), kx) := (pairS_n hq180 hq174 rfl).trans (pairN_k rfl hnn hke (begin_t (by decide) rfl (by assumption)) rfl rfl hv229)
                    refine Rg (Pu rfl (Pu rfl ?_))
                    refine Ge (dx_cv rfl Try.func38 rfl rfl rfl (refBlank_e s kx W257 _ hL hs (by omega))) rfl rfl ?_
                    rintro _ W262 ⟨⟨kg, rfl, hkg, hkg1, hkg2⟩, b261⟩
                    replace hx := hx.below b261
                    replace htt := htt.below b261
                    replace k3 := k3.below b261
                    replace k19 := k19.below b261
                    replace k259 := k259.below b261
                    replace hB := below_then hB b261
                    replace hL := LL.below hL b261
                    refine Pu rfl (Ni (hK260 (Sq fun K263 hK263 => (Sq fun K264 hK264 => ?_))))
                    have hJ49 : ∀ (b_ : Bool) (f_ : Fl), b_ = takeS s kg 125 → Sub [(0, .string s), (2, .int .i64 (dp : Int)), (6, .pointer (some ⟨w.heap.size, 0, none⟩)), (9, .pointer (some ⟨W9.heap.size, 0, none⟩)), (15, .pointer (some ⟨W118.heap.size, 0, none⟩)), (16, .int .u8 125), (1, .int .i64 (kg : Int)), (17, .string (strOfNums nm)), (18, .string (strOfNums nm)), (19, .int .i64 (kq : Int)), (20, .pointer (some ⟨W190.heap.size, 0, none⟩)), (21, .bool ((getT tb (strOfNums nm)).2)), (22, .pointer (some ⟨W236.heap.size, 0, none⟩)), (23, .int .i64 (kx : Int)), (24, .int .i64 0), (215, .bool b_)] f_ → ∀ a, Fr 226 a f_ → K264 a W262 := by
                     intro b_ f_ hb_49 hs_
                     refine hK264 (WC.sub hs_ ?_)
                     refine WC.cond rfl (fun c265 => ?_) (fun c265 => ?_)
                     ·
                      refine Sq fun K266 hK266 => ?_
                      have hz := (take_t (hb_49.symm.trans (by assumption))).1
                      refine Rg (Va (dx_loadN rfl ty_agg_26_5 rfl k259.range rfl) rfl rfl (Pu rfl (Va (dx_add (r := ((kg + 1 : Nat) : Int)) rfl rfl rfl (by rw [wrap64_id (by omega)]; omega)) rfl rfl ?_)))
                      refine WL.do (dx_store (cs' := [.int .i64 t.kind, .int .i64 t.num, .string t.text, t.nv, t.iv]) (vs := [.int .i64 t.kind, .int .i64 t.num, .string t.text, t.nv, t.iv]) rfl ty_size_26_5 rfl rfl rfl (oc_cons rfl (oc_cons rfl (oc_cons rfl (oc_cons (htt.1).one (oc_cons (htt.2.1).one oc_nil))))) k3 rfl (Nat.le_of_ble_eq_true rfl) rfl) rfl ?_
                      rintro _ W267 ⟨k269, o268⟩
                      clear k3
                      replace hx := hx.only o268 (.tail _ (.tail _ (.tail _ (.tail _ (.head _)))))
                      replace htt := htt.only o268 (.tail _ (.tail _ (.tail _ (.tail _ (.head _)))))
                      replace hB := o268.below hB l6
                      refine Pu rfl (Pu rfl (Ni (hK266 ?_)))
                      exact WC.ret fun a_ ha_ => hQ (cv_ret3 rfl (.agg rfl ty_agg_26_5 k269.range rfl) (.tmp rfl) (.tmp rfl) (.inl ⟨t, kg + 1, rfl, (by rw [← hkb]; exact hP.trans ((objS_k (hv.trans (memL_0 hkd hpair hkg (hb_49.symm.trans (by first | assumption | exact Bool.eq_false_iff.2 (by assumption))) rfl))).trans (by rw [hob2.1, hns2, hts2]))), (htt.less (fun x hx => (.tail _ (.tail _ (.tail _ (.tail _ (.tail _ hx))))))), by omega, by omega⟩) hB ha_)
                     ·
                      replace c265 := bvar_f c265
                      refine WC.skip (hK263 (Sq fun K270 hK270 => (Sq fun K271 hK271 => (Rg (Pu rfl (Pu rfl ?_))))))
                      refine Ge (dx_cv rfl Try.func67 rfl rfl rfl (refBegins_v s ({ data := #[44] }) kg W262 _ hL hs (by omega) (by decide))) rfl rfl ?_
                      rintro _ W273 ⟨rfl, b272⟩
                      replace hx := hx.below b272
                      replace htt := htt.below b272
                      replace k3 := k3.below b272
                      replace k19 := k19.below b272
                      replace k259 := k259.below b272
                      replace hB := below_then hB b272
                      replace hL := LL.below hL b272
                      refine Va (dx_not rfl rfl) rfl rfl (Ni (hK271 ?_))
                      refine WC.cond rfl (fun c274 => ?_) (fun c274 => ?_)
                      ·
                       replace c274 := bnot_t c274
                       refine Sq fun K275 hK275 => (Rg (Va (dx_loadN rfl ty_agg_26_5 rfl k19.range rfl) rfl rfl ?_))
                       refine WL.do (dx_store (cs' := zV) (vs := zV) rfl ty_size_26_5 rfl rfl rfl (oc_cons rfl (oc_cons rfl (oc_cons rfl (oc_cons rfl (oc_cons rfl oc_nil))))) k3 rfl (Nat.le_of_ble_eq_true rfl) rfl) rfl ?_
                       rintro _ W276 ⟨k278, o277⟩
                       clear k3
                       replace hB := o277.below hB l6
                       refine Pu rfl (Pu rfl (Ni (hK275 ?_)))
                       exact WC.ret fun a_ ha_ => hQ (cv_ret3 rfl (.agg rfl ty_agg_26_5 k278.range rfl) (.tmp rfl) (.tmp rfl) (.inr ⟨2, rfl, (by decide), (by rw [← hkb]; exact hP.trans (objS_x (hv.trans (memL_x hkd hpair hkg (hb_49.symm.trans (by first | assumption | exact Bool.eq_false_iff.2 (by assumption))) (begin_f (by decide) rfl (by assumption))))))⟩) hB ha_)
                      ·
                       replace c274 := bnot_f c274
                       refine WC.skip (hK270 ?_)
                       have hz := (take_t (begin_t (c := 44) (wd := ⟨#[44]⟩) (by decide) rfl (by assumption))).1
                       refine Rg (Pu rfl (Va (dx_add (r := ((kg + 1 : Nat) : Int)) rfl rfl rfl (by rw [wrap64_id (by omega)]; omega)) rfl rfl (Pu rfl (Ni ?_))))
                       replace hL := hL.less (fun x hx => (.tail _ (.tail _ hx)))
                       replace htt := htt.less (fun x hx => (.tail _ (.tail _ hx)))
                       exact hK157 (kg + 1) t ⟨(by omega), (by omega), hob2, (by omega), ⟨n_, by omega, by rw [hns2, hts2]; exact hv.trans (memL_c hkd hpair hkg (hb_49.symm.trans (by first | assumption | exact Bool.eq_false_iff.2 (by assumption))) (begin_t (by decide) rfl (by assumption)) rfl)⟩, hB, hL, htt, k3, k19, k259⟩ (by omega) (by repeat first | exact trivial | exact And.intro rfl trivial | refine And.intro rfl ?_ | refine And.intro (congrArg (fun z : Int => some (Value.int .i64 z)) (by omega)) ?_)
                    refine Rg (Pu rfl (Pu rfl (Va (dx_lenT rfl Try.underlying9 rfl) rfl rfl (Va (dx_lss rfl rfl rfl) rfl rfl (Pu rfl ?_)))))
                    refine WL.split 209 rfl (fun g279 => ?_) (fun g279 => ?_)
                    ·
                     replace g279 := dT g279
                     refine Pu rfl (Pu rfl (Va (dx_at kg rfl Try.underlying9 rfl rfl (by omega) (by omega)) rfl rfl (Pu rfl (Va (dx_eql rfl rfl rfl) rfl rfl (Pu rfl (Ni ?_))))))
                     exact hJ49 (decide (atS s kg = 125)) _ (by first | exact take_n (by omega) | exact take_d (by omega)) (by repeat first | exact trivial | exact And.intro rfl trivial | refine And.intro rfl ?_)
                    ·
                     replace g279 := dF g279
                     refine Of rfl (Of rfl (Of rfl (Of rfl (Of rfl (Pu rfl (Ni ?_))))))
                     exact hJ49 false _ (by first | exact take_n (by omega) | exact take_d (by omega)) (by repeat first | exact trivial | exact And.intro rfl trivial | refine And.intro rfl ?_)
                   ·
                    replace c254 := dF c254
                    exact absurd hob.kind (by simpa using c254)
                  ·
                   replace k3 := k3.below g235
                   replace k19 := k19.below g235
                   replace hB := below_then hB g235
                   refine Pu rfl (Pu rfl (Pu rfl (Pu rfl ?_)))
                   refine Ge (dx_alloc rfl ty_zero_26 rfl) rfl rfl ?_
                   rintro _ W280 ⟨rfl, k281, b282, z283⟩
                   have n284 : w.heap.size ≠ W236.heap.size := Nat.ne_of_lt k3.lt
                   have n285 : W9.heap.size ≠ W236.heap.size := Nat.ne_of_lt k19.lt
                   have l288 := hB.size
                   replace k3 := k3.below b282
                   replace k19 := k19.below b282
                   replace hB := below_then hB b282
                   refine WL.do (dx_store (cs' := zV) (vs := zV) rfl ty_size_26_5 rfl rfl rfl (oc_cons rfl (oc_cons rfl (oc_cons rfl (oc_cons rfl (oc_cons rfl oc_nil))))) k281 rfl (Nat.le_of_ble_eq_true rfl) rfl) rfl ?_
                   rintro _ W289 ⟨k291, o290⟩
                   replace k3 := k3.other o290 n284
                   replace k19 := k19.other o290 n285
                   clear k281
                   replace hB := o290.below hB l288
                   refine Pu rfl (Pu rfl (Ni (hK222 (Sq fun K292 hK292 => (Sq fun K293 hK293 => (Rg (Pu rfl ?_)))))))
                   refine Va (dx_neq rfl rfl rfl) rfl rfl (Ni (hK293 ?_))
                   refine WC.cond rfl (fun c294 => ?_) (fun c294 => ?_)
                   ·
                    replace c294 := bnot_t c294
                    replace c294 := dF c294
                    refine Sq fun K295 hK295 => (Rg (Va (dx_loadN rfl ty_agg_26_5 rfl k19.range rfl) rfl rfl (Pu rfl ?_)))
                    refine WL.do (dx_store (cs' := zV) (vs := zV) rfl ty_size_26_5 rfl rfl rfl (oc_cons rfl (oc_cons rfl (oc_cons rfl (oc_cons rfl (oc_cons rfl oc_nil))))) k3 rfl (Nat.le_of_ble_eq_true rfl) rfl) rfl ?_
                    rintro _ W296 ⟨k298, o297⟩
                    clear k3
                    replace hB := o297.below hB l6
                    refine Pu rfl (Pu rfl (Ni (hK295 ?_)))
                    exact WC.ret fun a_ ha_ => hQ (cv_ret3 rfl (.agg rfl ty_agg_26_5 k298.range rfl) (.tmp rfl) (.tmp rfl) (.inr ⟨ex, rfl, hv232, (by rw [← hkb]; exact hP.trans (objS_x (hv.trans (memL_e hkd ((pairS_n hq180 hq174 rfl).trans (pairN_e rfl hnn hke (begin_t (by decide) rfl (by assumption)) rfl rfl hv233))))))⟩) hB ha_)
                   ·
                    replace c294 := bnot_f c294
                    replace c294 := dT c294
                    exfalso; omega
              ·
               replace k3 := k3.below g182
               replace k19 := k19.below g182
               replace hB := below_then hB g182
               refine Pu rfl (Pu rfl (Pu rfl (Pu rfl (Pu rfl (Ni (hK163 (Sq fun K299 hK299 => ?_)))))))
               refine Sq fun K300 hK300 => (Rg (Pu rfl (Va (dx_lss rfl rfl rfl) rfl rfl (Ni (hK300 (WC.condT rfl (Sq fun K301 hK301 => ?_)))))))
               refine Rg (Va (dx_loadN rfl ty_agg_26_5 rfl k19.range rfl) rfl rfl ?_)
               refine WL.do (dx_store (cs' := zV) (vs := zV) rfl ty_size_26_5 rfl rfl rfl (oc_cons rfl (oc_cons rfl (oc_cons rfl (oc_cons rfl (oc_cons rfl oc_nil))))) k3 rfl (Nat.le_of_ble_eq_true rfl) rfl) rfl ?_
               rintro _ W302 ⟨k304, o303⟩
               clear k3
               replace hB := o303.below hB l6
               refine Pu rfl (Pu rfl (Ni (hK301 ?_)))
               exact WC.ret fun a_ ha_ => hQ (cv_ret3 rfl (.agg rfl ty_agg_26_5 k304.range rfl) (.tmp rfl) (.tmp rfl) (.inr ⟨2, rfl, (by decide), (by rw [← hkb]; exact hP.trans (objS_x (hv.trans (memL_e hkd (pairS_no hq179)))))⟩) hB ha_)
             ·
              replace c162 := dF c162
              exact absurd hob.kind (by simpa using c162)
           refine Rg (Pu rfl (Pu rfl (Va (dx_lenT rfl Try.underlying9 rfl) rfl rfl (Va (dx_lss rfl rfl rfl) rfl rfl (Pu rfl ?_)))))
           refine WL.split 133 rfl (fun g305 => ?_) (fun g305 => ?_)
           ·
            replace g305 := dT g305
            refine Pu rfl (Pu rfl (Va (dx_at kc rfl Try.underlying9 rfl rfl (by omega) (by omega)) rfl rfl (Pu rfl (Va (dx_eql rfl rfl rfl) rfl rfl (Pu rfl (Ni ?_))))))
            exact hJ27 (decide (atS s kc = 125)) _ (by first | exact take_n (by omega) | exact take_d (by omega)) (by repeat first | exact trivial | exact And.intro rfl trivial | refine And.intro rfl ?_)
           ·
            replace g305 := dF g305
            refine Of rfl (Of rfl (Of rfl (Of rfl (Of rfl (Pu rfl (Ni ?_))))))
            exact hJ27 false _ (by first | exact take_n (by omega) | exact take_d (by omega)) (by repeat first | exact trivial | exact And.intro rfl trivial | refine And.intro rfl ?_)
          ·
           replace c143 := dF c143
           exfalso; omega
       ·
        replace g116 := bnot_f g116
        refine Of rfl (Of rfl (Of rfl (Of rfl (Pu rfl (Pu rfl (Ni (hK113 ?_)))))))
        refine WC.condF rfl (Sq fun K306 hK306 => ?_)
        have htq : takeS s kb 91 = true := begin_t (by decide) rfl (by assumption)
        obtain ⟨hlt, hch⟩ := take_t htq
        refine Rg (Pu rfl (Va (dx_geq rfl rfl rfl) rfl rfl (Pu rfl (Ni (hK306 ?_)))))
        refine WC.cond rfl (fun c307 => ?_) (fun c307 => ?_)
        ·
         replace c307 := dT c307
         refine Sq fun K308 hK308 => (Rg (Va (dx_loadN rfl ty_agg_26_5 rfl k19.range rfl) rfl rfl ?_))
         refine WL.do (dx_store (cs' := zV) (vs := zV) rfl ty_size_26_5 rfl rfl rfl (oc_cons rfl (oc_cons rfl (oc_cons rfl (oc_cons rfl (oc_cons rfl oc_nil))))) k3 rfl (Nat.le_of_ble_eq_true rfl) rfl) rfl ?_
         rintro _ W309 ⟨k311, o310⟩
         clear k3
         replace hB := o310.below hB l6
         refine Pu rfl (Pu rfl (Ni (hK308 ?_)))
         exact WC.ret fun a_ ha_ => hQ (cv_ret3 rfl (.agg rfl ty_agg_26_5 k311.range rfl) (.tmp rfl) (.tmp rfl) (.inr ⟨4, rfl, by decide, (by rw [← hkb]; exact (valB_l htq).trans (nest_12 (by omega) hd))⟩) hB ha_)
        ·
         replace c307 := dF c307
         refine WC.skip (hK20 (Sq fun K312 hK312 => (Rg (Va (dx_build rfl rfl (built_of_O (cs := [.int .i64 5, .int .i64 0, .string ⟨#[]⟩, .slice none 0 0, .slice none 0 0]) (by kernel_rfl) (oc_cons rfl oc_nil))) rfl rfl ?_))))
         refine Ge (dx_alloc rfl ty_zero_26 rfl) rfl rfl ?_
         rintro _ W313 ⟨rfl, k314, b315, z316⟩
         have n317 : w.heap.size ≠ W115.heap.size := Nat.ne_of_lt k3.lt
         have n318 : W9.heap.size ≠ W115.heap.size := Nat.ne_of_lt k19.lt
         have l319 := hB.size
         replace k3 := k3.below b315
         replace k19 := k19.below b315
         replace hB := below_then hB b315
         replace hL := LL.more hL z316
         refine WL.do (dx_store (cs' := [.int .i64 5, .int .i64 0, .string ⟨#[]⟩, .slice none 0 0, .slice none 0 0]) (vs := [.int .i64 5, .int .i64 0, .string ⟨#[]⟩, .slice none 0 0, .slice none 0 0]) rfl ty_size_26_5 rfl rfl rfl (oc_cons rfl (oc_cons rfl (oc_cons rfl (oc_cons rfl (oc_cons rfl oc_nil))))) k314 rfl (Nat.le_of_ble_eq_true rfl) rfl) rfl ?_
         rintro _ W320 ⟨k322, o321⟩
         replace k3 := k3.other o321 n317
         replace k19 := k19.other o321 n318
         clear k314
         replace hB := o321.below hB l319
         replace hL := LL.only hL o321
         refine Pu rfl (Ni (hK312 (Sq fun K323 hK323 => (Sq fun K324 hK324 => (Rg (Pu rfl (Pu rfl ?_)))))))
         refine Va (dx_at kb rfl Try.underlying9 rfl rfl (by omega) (by omega)) rfl rfl (Va (dx_eql rfl rfl rfl) rfl rfl (Ni (hK324 ?_)))
         refine WC.cond rfl (fun c325 => ?_) (fun c325 => ?_)
         ·
          replace c325 := dT c325
          exfalso; omega
         ·
          replace c325 := dF c325
          refine WC.skip (hK323 (Sq fun K326 hK326 => ?_))
          have hP : valB s dp (listS s vs kb) (objS s vs kb) kb = listS s vs kb := (valB_l htq).trans (nest_lt (by omega))
          refine Rg (Pu rfl (Pu rfl (Va (dx_add (r := ((kb + 1 : Nat) : Int)) rfl rfl rfl (by rw [wrap64_id (by omega)]; omega)) rfl rfl ?_)))
          refine Ge (dx_cv rfl Try.func38 rfl rfl rfl (refBlank_e s (kb + 1) W320 _ hL hs (by omega))) rfl rfl ?_
          rintro _ W328 ⟨⟨kc, rfl, hkc, hkc1, hkc2⟩, b327⟩
          replace k3 := k3.below b327
          replace k19 := k19.below b327
          replace k322 := k322.below b327
          replace hB := below_then hB b327
          replace hL := LL.below hL b327
          refine Pu rfl (Ni (hK326 (Sq fun K329 hK329 => (Sq fun K330 hK330 => ?_))))
          have hJ27 : ∀ (b_ : Bool) (f_ : Fl), b_ = takeS s kc 93 → Sub [(0, .string s), (1, .int .i64 (kc : Int)), (2, .int .i64 (dp : Int)), (6, .pointer (some ⟨w.heap.size, 0, none⟩)), (7, .int .i64 0), (8, .int .i64 0), (9, .pointer (some ⟨W9.heap.size, 0, none⟩)), (15, .pointer (some ⟨W115.heap.size, 0, none⟩)), (16, .int .u8 93), (139, .bool b_)] f_ → ∀ a, Fr 226 a f_ → K330 a W328 := by
           intro b_ f_ hb_27 hs_
           refine hK330 (WC.sub hs_ ?_)
           refine WC.cond rfl (fun c331 => ?_) (fun c331 => ?_)
           ·
            refine Sq fun K332 hK332 => ?_
            have hz := (take_t (hb_27.symm.trans (by assumption))).1
            refine Rg (Va (dx_loadN rfl ty_agg_26_5 rfl k322.range rfl) rfl rfl (Pu rfl (Va (dx_add (r := ((kc + 1 : Nat) : Int)) rfl rfl rfl (by rw [wrap64_id (by omega)]; omega)) rfl rfl ?_)))
            refine WL.do (dx_store (cs' := [.int .i64 5, .int .i64 0, .string ⟨#[]⟩, .slice none 0 0, .slice none 0 0]) (vs := [.int .i64 5, .int .i64 0, .string ⟨#[]⟩, .slice none 0 0, .slice none 0 0]) rfl ty_size_26_5 rfl rfl rfl (oc_cons rfl (oc_cons rfl (oc_cons rfl (oc_cons rfl (oc_cons rfl oc_nil))))) k3 rfl (Nat.le_of_ble_eq_true rfl) rfl) rfl ?_
            rintro _ W333 ⟨k335, o334⟩
            clear k3
            replace hB := o334.below hB l6
            refine Pu rfl (Pu rfl (Ni (hK332 ?_)))
            exact WC.ret fun a_ ha_ => hQ (cv_ret3 rfl (.agg rfl ty_agg_26_5 k335.range rfl) (.tmp rfl) (.tmp rfl) (.inl ⟨tNil 5, kc + 1, rfl, (by rw [← hkb]; exact hP.trans ((listS_k (memS_0 rfl hkc (hb_27.symm.trans (by first | assumption | exact Bool.eq_false_iff.2 (by assumption))) rfl)).trans (by rw [tNil_er]))), tNil_rd _ _ _ _, by omega, by omega⟩) hB ha_)
           ·
            replace c331 := bvar_f c331
            refine WC.skip (hK329 (WC.block ?_))
            have hm0 : memS s (oneL vs) 93 kb [] = memL s (oneL vs) 93 (s.size + 1) kc [] := memS_1 rfl hkc (hb_27.symm.trans (by first | assumption | exact Bool.eq_false_iff.2 (by assumption)))
            obtain ⟨b0, hb0⟩ : ∃ b, b = W328.heap.size := ⟨_, rfl⟩
            have hb0L : ∀ y ∈ (W115.heap.size :: W9.heap.size :: w.heap.size :: L), y < b0 := by rw [hb0]; exact hL
            have hb0w : w.heap.size ≤ b0 := by rw [hb0]; exact hB.size
            have hm : ItemsI (n + 1) b0 (W115.heap.size :: W9.heap.size :: w.heap.size :: L) (.slice none 0 0) [] W328 := ⟨hb0L, .inl ⟨rfl, rfl⟩⟩
            have hag : AgL W328 (W115.heap.size :: W9.heap.size :: w.heap.size :: L) (W115.heap.size :: W9.heap.size :: w.heap.size :: L) W328 := ⟨fun _ h _ => h, ⟨Nat.le_refl _, fun _ _ _ => rfl⟩⟩
            refine WC.loop3 (fun (kl : Nat) (iv : Value) (ts : List Tr) => [(0, .string s), (2, .int .i64 (dp : Int)), (6, .pointer (some ⟨w.heap.size, 0, none⟩)), (9, .pointer (some ⟨W9.heap.size, 0, none⟩)), (15, .pointer (some ⟨W115.heap.size, 0, none⟩)), (16, .int .u8 93), (1, .int .i64 (kl : Int))]) (fun (kl : Nat) (iv : Value) (ts : List Tr) W => kl ≤ s.size ∧ kb < kl ∧ ts.length ≤ kl ∧ (∃ n_, s.size - kl < n_ ∧ memS s (oneL vs) 93 kb [] = memL s (oneL vs) 93 n_ kl (ts.map Tr.er)) ∧ Below w.heap.size w W ∧ LL (W115.heap.size :: W9.heap.size :: w.heap.size :: L) W ∧ ItemsI (n + 1) b0 (W115.heap.size :: W9.heap.size :: w.heap.size :: L) iv ts W ∧ AgL W328 (W115.heap.size :: W9.heap.size :: w.heap.size :: L) (W115.heap.size :: W9.heap.size :: w.heap.size :: L) W ∧ Blk W w.heap.size [.int .i64 0, .int .i64 0, .string ⟨#[]⟩, .slice none 0 0, .slice none 0 0] ∧ Blk W W9.heap.size [.int .i64 0, .int .i64 0, .string ⟨#[]⟩, .slice none 0 0, .slice none 0 0] ∧ Blk W W115.heap.size [.int .i64 5, .int .i64 0, .string ⟨#[]⟩, .slice none 0 0, iv]) (fun (kl : Nat) (iv : Value) (ts : List Tr) => s.size - kl) kc (.slice none 0 0) [] (by repeat first | exact trivial | exact And.intro rfl trivial | refine And.intro rfl ?_ | refine And.intro (congrArg (fun z : Int => some (Value.int .i64 z)) (by omega)) ?_) ⟨(by omega), (by omega), (Nat.zero_le _), ⟨s.size + 1, by omega, hm0⟩, hB, hL, hm, hag, k3, k19, k322⟩ ?_
            clear hm hag k3 k19 k322 hB hL
            rintro K336 kl iv ts W337 ⟨hkl, hkk, htl, hv, hB, hL, hm, hag, k3, k19, k322⟩ hK336
            refine WC.block (Sq fun K338 hK338 => ?_)
            obtain ⟨n_, hn1, hv⟩ := hv
            obtain ⟨n_, rfl⟩ : ∃ m, n_ = m + 1 := ⟨n_ - 1, by omega⟩
            refine Rg (Pu rfl (Ni (hK338 (Sq fun K339 hK339 => (Sq fun K340 hK340 => (Rg (Va (dx_fld (o1 := 0) rfl ty_fld_26_0_0 rfl rfl) rfl rfl ?_)))))))
            refine Va (dx_load rfl ty_one_3 rfl (k322.cell (k := 0) rfl)) rfl rfl (Va (dx_eql rfl rfl rfl) rfl rfl (Ni (hK340 (WC.condF rfl (WC.skip (hK339 (Sq fun K341 hK341 => ?_)))))))
            obtain ⟨-, hm⟩ := hm
            rcases hm with ⟨rfl, rfl⟩ | ⟨Bi, hbi, hOi, hts⟩
            ·
             refine Rg (Pu rfl (Pu rfl (Pu rfl (Va (dx_add (r := ((dp + 1 : Nat) : Int)) rfl rfl rfl (by rw [wrap64_id (by omega)]; omega)) rfl rfl ?_))))
             refine Ge (dx_cv rfl Try.func37 rfl rfl rfl (hc (by omega) kl W337 _ hL (by omega))) rfl rfl ?_
             rintro _ W355 ⟨(⟨x, kx, rfl, hv348, hx, hv349, hv350⟩ | ⟨ex, rfl, hv351, hv352⟩), g354⟩
             ·
              replace hag := hag.below g354
              replace k3 := k3.below g354
              replace k19 := k19.below g354
              replace k322 := k322.below g354
              replace hB := below_then hB g354
              replace hL := LL.below hL g354
              have hbl := (blankS_le (s := s) (k := kl) (by omega)).1
              refine Pu rfl (Pu rfl (Pu rfl (Pu rfl ?_)))
              refine Ge (dx_alloc rfl ty_zero_26 rfl) rfl rfl ?_
              rintro _ W357 ⟨rfl, k358, b359, z360⟩
              have n361 : w.heap.size ≠ W355.heap.size := Nat.ne_of_lt k3.lt
              have n362 : W9.heap.size ≠ W355.heap.size := Nat.ne_of_lt k19.lt
              have n363 : W115.heap.size ≠ W355.heap.size := Nat.ne_of_lt k322.lt
              have l364 := hB.size
              replace hag := hag.more b359 (Nat.le_refl _)
              replace hx := hx.more b359 (Nat.le_refl _)
              replace k3 := k3.below b359
              replace k19 := k19.below b359
              replace k322 := k322.below b359
              replace hB := below_then hB b359
              replace hL := LL.more hL z360
              refine WL.do (dx_store (cs' := [.int .i64 x.kind, .int .i64 x.num, .string x.text, x.nv, x.iv]) (vs := [.int .i64 x.kind, .int .i64 x.num, .string x.text, x.nv, x.iv]) rfl ty_size_26_5 rfl rfl rfl (oc_cons rfl (oc_cons rfl (oc_cons rfl (oc_cons (hx.1).one (oc_cons (hx.2.1).one oc_nil))))) k358 rfl (Nat.le_of_ble_eq_true rfl) rfl) rfl ?_
              rintro _ W365 ⟨k367, o366⟩
              replace k3 := k3.other o366 n361
              replace k19 := k19.other o366 n362
              replace k322 := k322.other o366 n363
              clear k358
              replace hag := hag.only o366 (.head _)
              replace hx := hx.only o366 (.head _)
              replace hB := o366.below hB l364
              replace hL := LL.only hL o366
              refine Pu rfl (Pu rfl (Ni (hK341 (Sq fun K368 hK368 => (Sq fun K369 hK369 => (Rg (Pu rfl ?_)))))))
              refine Va (dx_neq rfl rfl rfl) rfl rfl (Ni (hK369 (WC.condF rfl (WC.skip (hK368 (Sq fun K370 hK370 => (Sq fun K371 hK371 => ?_)))))))
              refine Rg (Va (dx_fld (o1 := 0) rfl ty_fld_26_0_0 rfl rfl) rfl rfl (Va (dx_load rfl ty_one_3 rfl (k322.cell (k := 0) rfl)) rfl rfl (Va (dx_eql rfl rfl rfl) rfl rfl (Ni (hK371 (WC.condF rfl (Rg ?_)))))))
              refine Va (dx_fld (o1 := 4) rfl ty_fld_26_4_4 rfl rfl) rfl rfl (Va (dx_load rfl ty_one_24 rfl (k322.cell (k := 4) rfl)) rfl rfl (Va (dx_loadN rfl ty_agg_26_5 rfl k367.range rfl) rfl rfl ?_))
              refine Ge (dx_lit1 (r := [.int .i64 x.kind, .int .i64 x.num, .string x.text, x.nv, x.iv]) rfl ty_ap_24 (by decide) (by decide) rfl rfl rfl) rfl rfl ?_
              rintro u376 W372 ⟨k373, b374, z375⟩
              have l381 := hB.size
              replace hag := hag.more b374 (Nat.le_refl _)
              replace hx := hx.more b374 (Nat.le_refl _)
              replace k3 := k3.below b374
              replace k19 := k19.below b374
              replace k322 := k322.below b374
              replace hB := below_then hB b374
              replace hL := LL.more hL z375
              refine Ge (dx_apF (rs := []) (news := [encT x]) rfl ty_ap_24 rfl rfl (RdF.nil (L := []) (by decide)) (k373.rd (L := []) (by simp)) (by simp) (by simp [maxLen]) (by simp)) rfl rfl ?_
              rintro u382 W383 ⟨k384, b385, z386⟩
              have q389 := hag.2.1
              have l390 : b0 ≤ W372.heap.size := by omega
              have n393 : W115.heap.size ≠ W372.heap.size := Nat.ne_of_lt k322.lt
              have l396 := hB.size
              replace hag := hag.more b385 (Nat.le_refl _)
              replace hx := hx.more b385 (Nat.le_refl _)
              replace k3 := k3.below b385
              replace k19 := k19.below b385
              replace k322 := k322.below b385
              replace hB := below_then hB b385
              replace hL := LL.more hL z386
              refine Va (dx_fld (o1 := 4) rfl ty_fld_26_4_4 rfl rfl) rfl rfl ?_
              refine WL.do (dx_store (cs' := [.int .i64 5, .int .i64 0, .string ⟨#[]⟩, .slice none 0 0, u382]) (vs := [u382]) rfl ty_size_24_1 rfl rfl (oc_one k384.one) (oc_cons k384.one oc_nil) k322 rfl (Nat.le_of_ble_eq_true rfl) rfl) rfl ?_
              rintro _ W397 ⟨k399, o398⟩
              replace k3 := k3.other o398 n317
              replace k19 := k19.other o398 n318
              replace k384 := k384.other o398 n393.symm
              clear k322
              replace hag := hag.only o398 (.tail _ (.tail _ (.tail _ (.head _))))
              replace hx := hx.only o398 (.tail _ (.tail _ (.tail _ (.head _))))
              replace hB := o398.below hB l319
              replace hL := LL.only hL o398
              refine Ni (hK370 (Sq fun K400 hK400 => ?_))
              have hts2 : RdTs (n + 1) (W372.heap.size :: W115.heap.size :: W9.heap.size :: w.heap.size :: L) W397 [x] := fun c hc_ => by rw [List.mem_singleton.1 hc_]; exact hx.less (fun y hy => by simp only [List.mem_cons] at hy ⊢; rcases hy with h_ | h_ <;> simp [h_])
              have hm2 : ItemsI (n + 1) b0 (W115.heap.size :: W9.heap.size :: w.heap.size :: L) u382 [x] W397 := ⟨hb0L, .inr ⟨W372.heap.size, by omega, k384, hts2⟩⟩
              replace hag : AgL W328 (W115.heap.size :: W9.heap.size :: w.heap.size :: L) (W115.heap.size :: W9.heap.size :: w.heap.size :: L) W397 := ⟨fun _ h _ => h, hag.2⟩
              replace hL := hL.less (fun y hy => (.tail _ (.tail _ (.tail _ hy))))
              refine Rg (Pu rfl (Pu rfl ?_))
              refine Ge (dx_cv rfl Try.func38 rfl rfl rfl (refBlank_e s kx W397 _ hL hs (by omega))) rfl rfl ?_
              rintro _ W402 ⟨⟨kg, rfl, hkg, hkg1, hkg2⟩, b401⟩
              replace hag := hag.below b401
              replace hm2 := hm2.below b401
              replace k3 := k3.below b401
              replace k19 := k19.below b401
              replace k399 := k399.below b401
              replace hB := below_then hB b401
              replace hL := LL.below hL b401
              refine Pu rfl (Ni (hK400 (Sq fun K403 hK403 => (Sq fun K404 hK404 => ?_))))
              have hJ49 : ∀ (b_ : Bool) (f_ : Fl), b_ = takeS s kg 93 → Sub [(0, .string s), (2, .int .i64 (dp : Int)), (6, .pointer (some ⟨w.heap.size, 0, none⟩)), (9, .pointer (some ⟨W9.heap.size, 0, none⟩)), (15, .pointer (some ⟨W115.heap.size, 0, none⟩)), (16, .int .u8 93), (1, .int .i64 (kg : Int)), (17, .string ({ data := #[] })), (22, .pointer (some ⟨W355.heap.size, 0, none⟩)), (23, .int .i64 (kx : Int)), (24, .int .i64 0), (215, .bool b_)] f_ → ∀ a, Fr 226 a f_ → K404 a W402 := by
               intro b_ f_ hb_49 hs_
               refine hK404 (WC.sub hs_ ?_)
               refine WC.cond rfl (fun c405 => ?_) (fun c405 => ?_)
               ·
                refine Sq fun K406 hK406 => ?_
                have hz := (take_t (hb_49.symm.trans (by assumption))).1
                refine Rg (Va (dx_loadN rfl ty_agg_26_5 rfl k399.range rfl) rfl rfl (Pu rfl (Va (dx_add (r := ((kg + 1 : Nat) : Int)) rfl rfl rfl (by rw [wrap64_id (by omega)]; omega)) rfl rfl ?_)))
                refine WL.do (dx_store (cs' := [.int .i64 5, .int .i64 0, .string ⟨#[]⟩, .slice none 0 0, u382]) (vs := [.int .i64 5, .int .i64 0, .string ⟨#[]⟩, .slice none 0 0, u382]) rfl ty_size_26_5 rfl rfl rfl (oc_cons rfl (oc_cons rfl (oc_cons rfl (oc_cons rfl (oc_cons hm2.one oc_nil))))) k3 rfl (Nat.le_of_ble_eq_true rfl) rfl) rfl ?_
                rintro _ W407 ⟨k409, o408⟩
                clear k3
                replace hm2 := hm2.only o408 (.tail _ (.tail _ (.head _)))
                replace hB := o408.below hB l6
                refine Pu rfl (Pu rfl (Ni (hK406 ?_)))
                exact WC.ret fun a_ ha_ => hQ (cv_ret3 rfl (.agg rfl ty_agg_26_5 k409.range rfl) (.tmp rfl) (.tmp rfl) (.inl ⟨.mk 5 0 ⟨#[]⟩ (.slice none 0 0) [] u382 [x], kg + 1, rfl, (by rw [← hkb]; exact hP.trans ((listS_k (hv.trans (memL_0 rfl (oneL_k hv348) hkg (hb_49.symm.trans (by first | assumption | exact Bool.eq_false_iff.2 (by assumption))) rfl))).trans (by rw [Tr.er_mk]; rfl))), hm2.tree (fun y hy => (.tail _ (.tail _ (.tail _ hy)))) 5 0 ⟨#[]⟩, by omega, by omega⟩) hB ha_)
               ·
                replace c405 := bvar_f c405
                refine WC.skip (hK403 (Sq fun K410 hK410 => (Sq fun K411 hK411 => (Rg (Pu rfl (Pu rfl ?_))))))
                refine Ge (dx_cv rfl Try.func67 rfl rfl rfl (refBegins_v s ({ data := #[44] }) kg W402 _ hL hs (by omega) (by decide))) rfl rfl ?_
                rintro _ W413 ⟨rfl, b412⟩
                replace hag := hag.below b412
                replace hm2 := hm2.below b412
                replace k3 := k3.below b412
                replace k19 := k19.below b412
                replace k399 := k399.below b412
                replace hB := below_then hB b412
                replace hL := LL.below hL b412
                refine Va (dx_not rfl rfl) rfl rfl (Ni (hK411 ?_))
                refine WC.cond rfl (fun c414 => ?_) (fun c414 => ?_)
                ·
                 replace c414 := bnot_t c414
                 refine Sq fun K415 hK415 => (Rg (Va (dx_loadN rfl ty_agg_26_5 rfl k19.range rfl) rfl rfl ?_))
                 refine WL.do (dx_store (cs' := zV) (vs := zV) rfl ty_size_26_5 rfl rfl rfl (oc_cons rfl (oc_cons rfl (oc_cons rfl (oc_cons rfl (oc_cons rfl oc_nil))))) k3 rfl (Nat.le_of_ble_eq_true rfl) rfl) rfl ?_
                 rintro _ W416 ⟨k418, o417⟩
                 clear k3
                 replace hB := o417.below hB l6
                 refine Pu rfl (Pu rfl (Ni (hK415 ?_)))
                 exact WC.ret fun a_ ha_ => hQ (cv_ret3 rfl (.agg rfl ty_agg_26_5 k418.range rfl) (.tmp rfl) (.tmp rfl) (.inr ⟨2, rfl, (by decide), (by rw [← hkb]; exact hP.trans (listS_x (hv.trans (memL_x rfl (oneL_k hv348) hkg (hb_49.symm.trans (by first | assumption | exact Bool.eq_false_iff.2 (by assumption))) (begin_f (by decide) rfl (by assumption))))))⟩) hB ha_)
                ·
                 replace c414 := bnot_f c414
                 refine WC.skip (hK410 ?_)
                 have hz := (take_t (begin_t (c := 44) (wd := ⟨#[44]⟩) (by decide) rfl (by assumption))).1
                 refine Rg (Pu rfl (Va (dx_add (r := ((kg + 1 : Nat) : Int)) rfl rfl rfl (by rw [wrap64_id (by omega)]; omega)) rfl rfl (Pu rfl (Ni ?_))))
                 exact hK336 (kg + 1) u382 [x] ⟨(by omega), (by omega), (by first | (simp; done) | (simp; omega)), ⟨n_, by omega, by rw [show ([x] : List Tr).map Tr.er = [] ++ [x.er] from rfl]; exact hv.trans (memL_c rfl (oneL_k hv348) hkg (hb_49.symm.trans (by first | assumption | exact Bool.eq_false_iff.2 (by assumption))) (begin_t (by decide) rfl (by assumption)) rfl)⟩, hB, hL, hm2, hag, k3, k19, k399⟩ (by omega) (by repeat first | exact trivial | exact And.intro rfl trivial | refine And.intro rfl ?_ | refine And.intro (congrArg (fun z : Int => some (Value.int .i64 z)) (by omega)) ?_)
              refine Rg (Pu rfl (Pu rfl (Va (dx_lenT rfl Try.underlying9 rfl) rfl rfl (Va (dx_lss rfl rfl rfl) rfl rfl (Pu rfl ?_)))))
              refine WL.split 209 rfl (fun g419 => ?_) (fun g419 => ?_)
              ·
               replace g419 := dT g419
               refine Pu rfl (Pu rfl (Va (dx_at kg rfl Try.underlying9 rfl rfl (by omega) (by omega)) rfl rfl (Pu rfl (Va (dx_eql rfl rfl rfl) rfl rfl (Pu rfl (Ni ?_))))))
               exact hJ49 (decide (atS s kg = 93)) _ (by first | exact take_n (by omega) | exact take_d (by omega)) (by repeat first | exact trivial | exact And.intro rfl trivial | refine And.intro rfl ?_)
              ·
               replace g419 := dF g419
               refine Of rfl (Of rfl (Of rfl (Of rfl (Of rfl (Pu rfl (Ni ?_))))))
               exact hJ49 false _ (by first | exact take_n (by omega) | exact take_d (by omega)) (by repeat first | exact trivial | exact And.intro rfl trivial | refine And.intro rfl ?_)
             ·
              replace k3 := k3.below g354
              replace k19 := k19.below g354
              replace hB := below_then hB g354
              refine Pu rfl (Pu rfl (Pu rfl (Pu rfl ?_)))
              refine Ge (dx_alloc rfl ty_zero_26 rfl) rfl rfl ?_
              rintro _ W420 ⟨rfl, k421, b422, z423⟩
              have n424 : w.heap.size ≠ W355.heap.size := Nat.ne_of_lt k3.lt
              have n425 : W9.heap.size ≠ W355.heap.size := Nat.ne_of_lt k19.lt
              have l427 := hB.size
              replace k3 := k3.below b422
              replace k19 := k19.below b422
              replace hB := below_then hB b422
              refine WL.do (dx_store (cs' := zV) (vs := zV) rfl ty_size_26_5 rfl rfl rfl (oc_cons rfl (oc_cons rfl (oc_cons rfl (oc_cons rfl (oc_cons rfl oc_nil))))) k421 rfl (Nat.le_of_ble_eq_true rfl) rfl) rfl ?_
              rintro _ W428 ⟨k430, o429⟩
              replace k3 := k3.other o429 n424
              replace k19 := k19.other o429 n425
              clear k421
              replace hB := o429.below hB l427
              refine Pu rfl (Pu rfl (Ni (hK341 (Sq fun K431 hK431 => (Sq fun K432 hK432 => (Rg (Pu rfl ?_)))))))
              refine Va (dx_neq rfl rfl rfl) rfl rfl (Ni (hK432 ?_))
              refine WC.cond rfl (fun c433 => ?_) (fun c433 => ?_)
              ·
               replace c433 := bnot_t c433
               replace c433 := dF c433
               refine Sq fun K434 hK434 => (Rg (Va (dx_loadN rfl ty_agg_26_5 rfl k19.range rfl) rfl rfl (Pu rfl ?_)))
               refine WL.do (dx_store (cs' := zV) (vs := zV) rfl ty_size_26_5 rfl rfl rfl (oc_cons rfl (oc_cons rfl (oc_cons rfl (oc_cons rfl (oc_cons rfl oc_nil))))) k3 rfl (Nat.le_of_ble_eq_true rfl) rfl) rfl ?_
               rintro _ W435 ⟨k437, o436⟩
               clear k3
               replace hB := o436.below hB l6
               refine Pu rfl (Pu rfl (Ni (hK434 ?_)))
               exact WC.ret fun a_ ha_ => hQ (cv_ret3 rfl (.agg rfl ty_agg_26_5 k437.range rfl) (.tmp rfl) (.tmp rfl) (.inr ⟨ex, rfl, hv351, (by rw [← hkb]; exact hP.trans (listS_x (hv.trans (memL_e rfl (oneL_x hv352)))))⟩) hB ha_)
              ·
               replace c433 := bnot_f c433
               replace c433 := dT c433
               exfalso; omega
            ·
             have n438 : Bi ≠ w.heap.size := by have := hb0L (w.heap.size) (.tail _ (.tail _ (.head _))); omega
             have n439 : Bi ≠ W9.heap.size := by have := hb0L (W9.heap.size) (.tail _ (.head _)); omega
             have n440 : Bi ≠ W115.heap.size := by have := hb0L (W115.heap.size) (.head _); omega
             have lbi : w.heap.size ≤ Bi := by omega
             replace hag := hag.add (B := Bi) (by omega)
             replace hL := LL.cons hL hOi.lt
             replace hts : RdTs (n + 1) (Bi :: W115.heap.size :: W9.heap.size :: w.heap.size :: L) W337 ts := hts
             refine Rg (Pu rfl (Pu rfl (Pu rfl (Va (dx_add (r := ((dp + 1 : Nat) : Int)) rfl rfl rfl (by rw [wrap64_id (by omega)]; omega)) rfl rfl ?_))))
             refine Ge (dx_cv rfl Try.func37 rfl rfl rfl (hc (by omega) kl W337 _ hL (by omega))) rfl rfl ?_
             rintro _ W454 ⟨(⟨x, kx, rfl, hv447, hx, hv448, hv449⟩ | ⟨ex, rfl, hv450, hv451⟩), g453⟩
             ·
              replace hag := hag.below g453
              replace hts := hts.below g453
              replace k3 := k3.below g453
              replace k19 := k19.below g453
              replace k322 := k322.below g453
              replace hOi := hOi.below g453
              replace hB := below_then hB g453
              replace hL := LL.below hL g453
              have hbl := (blankS_le (s := s) (k := kl) (by omega)).1
              refine Pu rfl (Pu rfl (Pu rfl (Pu rfl ?_)))
              refine Ge (dx_alloc rfl ty_zero_26 rfl) rfl rfl ?_
              rintro _ W456 ⟨rfl, k457, b458, z459⟩
              have n460 : w.heap.size ≠ W454.heap.size := Nat.ne_of_lt k3.lt
              have n461 : W9.heap.size ≠ W454.heap.size := Nat.ne_of_lt k19.lt
              have n462 : W115.heap.size ≠ W454.heap.size := Nat.ne_of_lt k322.lt
              have n463 : Bi ≠ W454.heap.size := Nat.ne_of_lt hOi.lt
              have l464 := hB.size
              replace hag := hag.more b458 (Nat.le_refl _)
              replace hts := hts.more b458 (Nat.le_refl _)
              replace hx := hx.more b458 (Nat.le_refl _)
              replace k3 := k3.below b458
              replace k19 := k19.below b458
              replace k322 := k322.below b458
              replace hOi := hOi.below b458
              replace hB := below_then hB b458
              replace hL := LL.more hL z459
              refine WL.do (dx_store (cs' := [.int .i64 x.kind, .int .i64 x.num, .string x.text, x.nv, x.iv]) (vs := [.int .i64 x.kind, .int .i64 x.num, .string x.text, x.nv, x.iv]) rfl ty_size_26_5 rfl rfl rfl (oc_cons rfl (oc_cons rfl (oc_cons rfl (oc_cons (hx.1).one (oc_cons (hx.2.1).one oc_nil))))) k457 rfl (Nat.le_of_ble_eq_true rfl) rfl) rfl ?_
              rintro _ W465 ⟨k467, o466⟩
              replace k3 := k3.other o466 n460
              replace k19 := k19.other o466 n461
              replace k322 := k322.other o466 n462
              replace hOi := hOi.other o466 n463
              clear k457
              replace hag := hag.only o466 (.head _)
              replace hts := hts.only o466 (.head _)
              replace hx := hx.only o466 (.head _)
              replace hB := o466.below hB l464
              replace hL := LL.only hL o466
              refine Pu rfl (Pu rfl (Ni (hK341 (Sq fun K468 hK468 => (Sq fun K469 hK469 => (Rg (Pu rfl ?_)))))))
              refine Va (dx_neq rfl rfl rfl) rfl rfl (Ni (hK469 (WC.condF rfl (WC.skip (hK468 (Sq fun K470 hK470 => (Sq fun K471 hK471 => ?_)))))))
              refine Rg (Va (dx_fld (o1 := 0) rfl ty_fld_26_0_0 rfl rfl) rfl rfl (Va (dx_load rfl ty_one_3 rfl (k322.cell (k := 0) rfl)) rfl rfl (Va (dx_eql rfl rfl rfl) rfl rfl (Ni (hK471 (WC.condF rfl (Rg ?_)))))))
              refine Va (dx_fld (o1 := 4) rfl ty_fld_26_4_4 rfl rfl) rfl rfl (Va (dx_load rfl ty_one_24 rfl (k322.cell (k := 4) rfl)) rfl rfl (Va (dx_loadN rfl ty_agg_26_5 rfl k467.range rfl) rfl rfl ?_))
              refine Ge (dx_lit1 (r := [.int .i64 x.kind, .int .i64 x.num, .string x.text, x.nv, x.iv]) rfl ty_ap_24 (by decide) (by decide) rfl rfl rfl) rfl rfl ?_
              rintro u476 W472 ⟨k473, b474, z475⟩
              have l482 := hB.size
              replace hag := hag.more b474 (Nat.le_refl _)
              replace hts := hts.more b474 (Nat.le_refl _)
              replace hx := hx.more b474 (Nat.le_refl _)
              replace k3 := k3.below b474
              replace k19 := k19.below b474
              replace k322 := k322.below b474
              replace hOi := hOi.below b474
              replace hB := below_then hB b474
              replace hL := LL.more hL z475
              refine Ge (dx_apO' (rs := (ts.map encT)) (news := [encT x]) rfl ty_ap_24 rfl rfl hOi (k473.rd (L := []) (by simp)) (fun r hr => by rw [List.mem_singleton.1 hr]; exact hx.oc) (by simp only [List.length_map, List.length_append, List.length_cons, List.length_nil]; unfold maxLen; omega) (by simp only [List.length_map, List.length_append, List.length_cons, List.length_nil]; omega)) rfl rfl ?_
              rintro u483 W484 ⟨B489, k485, g488⟩
              rw [show (ts.map encT) ++ [encT x] = ((ts ++ [x]).map encT) from by simp only [List.map_append, List.map_cons, List.map_nil]] at k485
              have q491 := hag.2.1
              have l492 : b0 ≤ B489 := g488.le hbi (by omega)
              have n495 : W115.heap.size ≠ B489 := k322.grow_ne g488 n440.symm
              have l490 := g488.le lbi hB.size
              replace hag := hag.grow' g488 (.tail _ (.tail _ (.head _)))
              replace hts := hts.grow' g488 (.tail _ (.tail _ (.head _)))
              replace hx := hx.grow' g488 (.tail _ (.tail _ (.head _)))
              replace k3 := k3.grow g488 n438.symm
              replace k19 := k19.grow g488 n439.symm
              replace k322 := k322.grow g488 n440.symm
              replace hB := g488.below hB lbi hB.size
              replace hL := LL.grow hL g488 k485.lt
              refine Va (dx_fld (o1 := 4) rfl ty_fld_26_4_4 rfl rfl) rfl rfl ?_
              refine WL.do (dx_store (cs' := [.int .i64 5, .int .i64 0, .string ⟨#[]⟩, .slice none 0 0, u483]) (vs := [u483]) rfl ty_size_24_1 rfl rfl (oc_one k485.one) (oc_cons k485.one oc_nil) k322 rfl (Nat.le_of_ble_eq_true rfl) rfl) rfl ?_
              rintro _ W498 ⟨k500, o499⟩
              replace k3 := k3.other o499 n317
              replace k19 := k19.other o499 n318
              replace k485 := k485.other o499 n495.symm
              clear k322
              replace hag := hag.only o499 (.tail _ (.tail _ (.tail _ (.tail _ (.head _)))))
              replace hts := hts.only o499 (.tail _ (.tail _ (.tail _ (.tail _ (.head _)))))
              replace hx := hx.only o499 (.tail _ (.tail _ (.tail _ (.tail _ (.head _)))))
              replace hB := o499.below hB l319
              replace hL := LL.only hL o499
              refine Ni (hK470 (Sq fun K501 hK501 => ?_))
              have hts2 : RdTs (n + 1) (B489 :: W115.heap.size :: W9.heap.size :: w.heap.size :: L) W498 (ts ++ [x]) := fun c hc_ => by
               rcases List.mem_append.1 hc_ with h_ | h_
               · exact (hts c h_).less (fun y hy => by simp only [List.mem_cons] at hy ⊢; rcases hy with h_ | h_ <;> simp [h_])
               · rw [List.mem_singleton.1 h_]; exact hx.less (fun y hy => by simp only [List.mem_cons] at hy ⊢; rcases hy with h_ | h_ <;> simp [h_])
              have hm2 : ItemsI (n + 1) b0 (W115.heap.size :: W9.heap.size :: w.heap.size :: L) u483 (ts ++ [x]) W498 := ⟨hb0L, .inr ⟨B489, by omega, k485, hts2⟩⟩
              replace hag : AgL W328 (W115.heap.size :: W9.heap.size :: w.heap.size :: L) (W115.heap.size :: W9.heap.size :: w.heap.size :: L) W498 := ⟨fun _ h _ => h, hag.2⟩
              replace hL := hL.less (fun y hy => (.tail _ (.tail _ (.tail _ (.tail _ hy)))))
              refine Rg (Pu rfl (Pu rfl ?_))
              refine Ge (dx_cv rfl Try.func38 rfl rfl rfl (refBlank_e s kx W498 _ hL hs (by omega))) rfl rfl ?_
              rintro _ W503 ⟨⟨kg, rfl, hkg, hkg1, hkg2⟩, b502⟩
              replace hag := hag.below b502
              replace hm2 := hm2.below b502
              replace k3 := k3.below b502
              replace k19 := k19.below b502
              replace k500 := k500.below b502
              replace hB := below_then hB b502
              replace hL := LL.below hL b502
              refine Pu rfl (Ni (hK501 (Sq fun K504 hK504 => (Sq fun K505 hK505 => ?_))))
              have hJ49 : ∀ (b_ : Bool) (f_ : Fl), b_ = takeS s kg 93 → Sub [(0, .string s), (2, .int .i64 (dp : Int)), (6, .pointer (some ⟨w.heap.size, 0, none⟩)), (9, .pointer (some ⟨W9.heap.size, 0, none⟩)), (15, .pointer (some ⟨W115.heap.size, 0, none⟩)), (16, .int .u8 93), (1, .int .i64 (kg : Int)), (17, .string ({ data := #[] })), (22, .pointer (some ⟨W454.heap.size, 0, none⟩)), (23, .int .i64 (kx : Int)), (24, .int .i64 0), (215, .bool b_)] f_ → ∀ a, Fr 226 a f_ → K505 a W503 := by
               intro b_ f_ hb_49 hs_
               refine hK505 (WC.sub hs_ ?_)
               refine WC.cond rfl (fun c506 => ?_) (fun c506 => ?_)
               ·
                refine Sq fun K507 hK507 => ?_
                have hz := (take_t (hb_49.symm.trans (by assumption))).1
                refine Rg (Va (dx_loadN rfl ty_agg_26_5 rfl k500.range rfl) rfl rfl (Pu rfl (Va (dx_add (r := ((kg + 1 : Nat) : Int)) rfl rfl rfl (by rw [wrap64_id (by omega)]; omega)) rfl rfl ?_)))
                refine WL.do (dx_store (cs' := [.int .i64 5, .int .i64 0, .string ⟨#[]⟩, .slice none 0 0, u483]) (vs := [.int .i64 5, .int .i64 0, .string ⟨#[]⟩, .slice none 0 0, u483]) rfl ty_size_26_5 rfl rfl rfl (oc_cons rfl (oc_cons rfl (oc_cons rfl (oc_cons rfl (oc_cons hm2.one oc_nil))))) k3 rfl (Nat.le_of_ble_eq_true rfl) rfl) rfl ?_
                rintro _ W508 ⟨k510, o509⟩
                clear k3
                replace hm2 := hm2.only o509 (.tail _ (.tail _ (.head _)))
                replace hB := o509.below hB l6
                refine Pu rfl (Pu rfl (Ni (hK507 ?_)))
                exact WC.ret fun a_ ha_ => hQ (cv_ret3 rfl (.agg rfl ty_agg_26_5 k510.range rfl) (.tmp rfl) (.tmp rfl) (.inl ⟨.mk 5 0 ⟨#[]⟩ (.slice none 0 0) [] u483 (ts ++ [x]), kg + 1, rfl, (by rw [← hkb]; exact hP.trans ((listS_k (hv.trans (memL_0 rfl (oneL_k hv447) hkg (hb_49.symm.trans (by first | assumption | exact Bool.eq_false_iff.2 (by assumption))) rfl))).trans (by rw [Tr.er_mk, List.map_append]; rfl))), hm2.tree (fun y hy => (.tail _ (.tail _ (.tail _ hy)))) 5 0 ⟨#[]⟩, by omega, by omega⟩) hB ha_)
               ·
                replace c506 := bvar_f c506
                refine WC.skip (hK504 (Sq fun K511 hK511 => (Sq fun K512 hK512 => (Rg (Pu rfl (Pu rfl ?_))))))
                refine Ge (dx_cv rfl Try.func67 rfl rfl rfl (refBegins_v s ({ data := #[44] }) kg W503 _ hL hs (by omega) (by decide))) rfl rfl ?_
                rintro _ W514 ⟨rfl, b513⟩
                replace hag := hag.below b513
                replace hm2 := hm2.below b513
                replace k3 := k3.below b513
                replace k19 := k19.below b513
                replace k500 := k500.below b513
                replace hB := below_then hB b513
                replace hL := LL.below hL b513
                refine Va (dx_not rfl rfl) rfl rfl (Ni (hK512 ?_))
                refine WC.cond rfl (fun c515 => ?_) (fun c515 => ?_)
                ·
                 replace c515 := bnot_t c515
                 refine Sq fun K516 hK516 => (Rg (Va (dx_loadN rfl ty_agg_26_5 rfl k19.range rfl) rfl rfl ?_))
                 refine WL.do (dx_store (cs' := zV) (vs := zV) rfl ty_size_26_5 rfl rfl rfl (oc_cons rfl (oc_cons rfl (oc_cons rfl (oc_cons rfl (oc_cons rfl oc_nil))))) k3 rfl (Nat.le_of_ble_eq_true rfl) rfl) rfl ?_
                 rintro _ W517 ⟨k519, o518⟩
                 clear k3
                 replace hB := o518.below hB l6
                 refine Pu rfl (Pu rfl (Ni (hK516 ?_)))
                 exact WC.ret fun a_ ha_ => hQ (cv_ret3 rfl (.agg rfl ty_agg_26_5 k519.range rfl) (.tmp rfl) (.tmp rfl) (.inr ⟨2, rfl, (by decide), (by rw [← hkb]; exact hP.trans (listS_x (hv.trans (memL_x rfl (oneL_k hv447) hkg (hb_49.symm.trans (by first | assumption | exact Bool.eq_false_iff.2 (by assumption))) (begin_f (by decide) rfl (by assumption))))))⟩) hB ha_)
                ·
                 replace c515 := bnot_f c515
                 refine WC.skip (hK511 ?_)
                 have hz := (take_t (begin_t (c := 44) (wd := ⟨#[44]⟩) (by decide) rfl (by assumption))).1
                 refine Rg (Pu rfl (Va (dx_add (r := ((kg + 1 : Nat) : Int)) rfl rfl rfl (by rw [wrap64_id (by omega)]; omega)) rfl rfl (Pu rfl (Ni ?_))))
                 exact hK336 (kg + 1) u483 (ts ++ [x]) ⟨(by omega), (by omega), (by first | (simp; done) | (simp; omega)), ⟨n_, by omega, by rw [List.map_append]; exact hv.trans (memL_c rfl (oneL_k hv447) hkg (hb_49.symm.trans (by first | assumption | exact Bool.eq_false_iff.2 (by assumption))) (begin_t (by decide) rfl (by assumption)) rfl)⟩, hB, hL, hm2, hag, k3, k19, k500⟩ (by omega) (by repeat first | exact trivial | exact And.intro rfl trivial | refine And.intro rfl ?_ | refine And.intro (congrArg (fun z : Int => some (Value.int .i64 z)) (by omega)) ?_)
              refine Rg (Pu rfl (Pu rfl (Va (dx_lenT rfl Try.underlying9 rfl) rfl rfl (Va (dx_lss rfl rfl rfl) rfl rfl (Pu rfl ?_)))))
              refine WL.split 209 rfl (fun g520 => ?_) (fun g520 => ?_)
              ·
               replace g520 := dT g520
               refine Pu rfl (Pu rfl (Va (dx_at kg rfl Try.underlying9 rfl rfl (by omega) (by omega)) rfl rfl (Pu rfl (Va (dx_eql rfl rfl rfl) rfl rfl (Pu rfl (Ni ?_))))))
               exact hJ49 (decide (atS s kg = 93)) _ (by first | exact take_n (by omega) | exact take_d (by omega)) (by repeat first | exact trivial | exact And.intro rfl trivial | refine And.intro rfl ?_)
              ·
               replace g520 := dF g520
               refine Of rfl (Of rfl (Of rfl (Of rfl (Of rfl (Pu rfl (Ni ?_))))))
               exact hJ49 false _ (by first | exact take_n (by omega) | exact take_d (by omega)) (by repeat first | exact trivial | exact And.intro rfl trivial | refine And.intro rfl ?_)
             ·
              replace k3 := k3.below g453
              replace k19 := k19.below g453
              replace hB := below_then hB g453
              refine Pu rfl (Pu rfl (Pu rfl (Pu rfl ?_)))
              refine Ge (dx_alloc rfl ty_zero_26 rfl) rfl rfl ?_
              rintro _ W521 ⟨rfl, k522, b523, z524⟩
              have n525 : w.heap.size ≠ W454.heap.size := Nat.ne_of_lt k3.lt
              have n526 : W9.heap.size ≠ W454.heap.size := Nat.ne_of_lt k19.lt
              have l529 := hB.size
              replace k3 := k3.below b523
              replace k19 := k19.below b523
              replace hB := below_then hB b523
              refine WL.do (dx_store (cs' := zV) (vs := zV) rfl ty_size_26_5 rfl rfl rfl (oc_cons rfl (oc_cons rfl (oc_cons rfl (oc_cons rfl (oc_cons rfl oc_nil))))) k522 rfl (Nat.le_of_ble_eq_true rfl) rfl) rfl ?_
              rintro _ W530 ⟨k532, o531⟩
              replace k3 := k3.other o531 n525
              replace k19 := k19.other o531 n526
              clear k522
              replace hB := o531.below hB l529
              refine Pu rfl (Pu rfl (Ni (hK341 (Sq fun K533 hK533 => (Sq fun K534 hK534 => (Rg (Pu rfl ?_)))))))
              refine Va (dx_neq rfl rfl rfl) rfl rfl (Ni (hK534 ?_))
              refine WC.cond rfl (fun c535 => ?_) (fun c535 => ?_)
              ·
               replace c535 := bnot_t c535
               replace c535 := dF c535
               refine Sq fun K536 hK536 => (Rg (Va (dx_loadN rfl ty_agg_26_5 rfl k19.range rfl) rfl rfl (Pu rfl ?_)))
               refine WL.do (dx_store (cs' := zV) (vs := zV) rfl ty_size_26_5 rfl rfl rfl (oc_cons rfl (oc_cons rfl (oc_cons rfl (oc_cons rfl (oc_cons rfl oc_nil))))) k3 rfl (Nat.le_of_ble_eq_true rfl) rfl) rfl ?_
               rintro _ W537 ⟨k539, o538⟩
               clear k3
               replace hB := o538.below hB l6
               refine Pu rfl (Pu rfl (Ni (hK536 ?_)))
               exact WC.ret fun a_ ha_ => hQ (cv_ret3 rfl (.agg rfl ty_agg_26_5 k539.range rfl) (.tmp rfl) (.tmp rfl) (.inr ⟨ex, rfl, hv450, (by rw [← hkb]; exact hP.trans (listS_x (hv.trans (memL_e rfl (oneL_x hv451)))))⟩) hB ha_)
              ·
               replace c535 := bnot_f c535
               replace c535 := dT c535
               exfalso; omega
          refine Rg (Pu rfl (Pu rfl (Va (dx_lenT rfl Try.underlying9 rfl) rfl rfl (Va (dx_lss rfl rfl rfl) rfl rfl (Pu rfl ?_)))))
          refine WL.split 133 rfl (fun g540 => ?_) (fun g540 => ?_)
          ·
           replace g540 := dT g540
           refine Pu rfl (Pu rfl (Va (dx_at kc rfl Try.underlying9 rfl rfl (by omega) (by omega)) rfl rfl (Pu rfl (Va (dx_eql rfl rfl rfl) rfl rfl (Pu rfl (Ni ?_))))))
           exact hJ27 (decide (atS s kc = 93)) _ (by first | exact take_n (by omega) | exact take_d (by omega)) (by repeat first | exact trivial | exact And.intro rfl trivial | refine And.intro rfl ?_)
          ·
           replace g540 := dF g540
           refine Of rfl (Of rfl (Of rfl (Of rfl (Of rfl (Pu rfl (Ni ?_))))))
           exact hJ27 false _ (by first | exact take_n (by omega) | exact take_d (by omega)) (by repeat first | exact trivial | exact And.intro rfl trivial | refine And.intro rfl ?_)
     refine Rg (Pu rfl (Pu rfl (Va (dx_lenT rfl Try.underlying9 rfl) rfl rfl (Va (dx_lss rfl rfl rfl) rfl rfl (Pu rfl ?_)))))
     refine WL.split 71 rfl (fun g541 => ?_) (fun g541 => ?_)
     ·
      replace g541 := dT g541
      refine Pu rfl (Pu rfl (Va (dx_at kb rfl Try.underlying9 rfl rfl (by omega) (by omega)) rfl rfl (Va (dx_eql rfl rfl rfl) rfl rfl (Pu rfl ?_))))
      refine WL.split 76 rfl (fun g542 => ?_) (fun g542 => ?_)
      ·
       replace g542 := dT g542
       refine Of rfl (Of rfl (Of rfl (Of rfl (Of rfl (Of rfl (Of rfl (Of rfl ?_)))))))
       refine Of rfl (Of rfl (Pu rfl (Pu rfl (Pu rfl (Ni ?_)))))
       exact hJ14 true _ (by unfold numB; first | exact (decide_eq_false (by omega)).symm | exact (decide_eq_true (by omega)).symm | (rw [decide_eq_decide]; omega)) (by repeat first | exact trivial | exact And.intro rfl trivial | refine And.intro rfl ?_)
      ·
       replace g542 := dF g542
       refine Pu rfl (Pu rfl (Va (dx_at kb rfl Try.underlying9 rfl rfl (by omega) (by omega)) rfl rfl (Va (dx_geq rfl rfl rfl) rfl rfl (Pu rfl ?_))))
       refine WL.split 81 rfl (fun g543 => ?_) (fun g543 => ?_)
       ·
        replace g543 := dT g543
        refine Pu rfl (Pu rfl (Va (dx_at kb rfl Try.underlying9 rfl rfl (by omega) (by omega)) rfl rfl (Va (dx_leq rfl rfl rfl) rfl rfl (Pu rfl (Pu rfl (Pu rfl (Pu rfl ?_)))))))
        refine Ni ?_
        exact hJ14 (decide (atS s kb ≤ 57)) _ (by unfold numB; first | exact (decide_eq_false (by omega)).symm | exact (decide_eq_true (by omega)).symm | (rw [decide_eq_decide]; omega)) (by repeat first | exact trivial | exact And.intro rfl trivial | refine And.intro rfl ?_)
       ·
        replace g543 := dF g543
        refine Of rfl (Of rfl (Of rfl (Of rfl (Pu rfl (Pu rfl (Pu rfl (Pu rfl ?_)))))))
        refine Ni ?_
        exact hJ14 false _ (by unfold numB; first | exact (decide_eq_false (by omega)).symm | exact (decide_eq_true (by omega)).symm | (rw [decide_eq_decide]; omega)) (by repeat first | exact trivial | exact And.intro rfl trivial | refine And.intro rfl ?_)
     ·
      replace g541 := dF g541
      refine Of rfl (Of rfl (Of rfl (Of rfl (Of rfl (Of rfl (Of rfl (Of rfl ?_)))))))
      refine Of rfl (Of rfl (Of rfl (Of rfl (Of rfl (Of rfl (Of rfl (Of rfl ?_)))))))
      refine Pu rfl (Pu rfl (Ni ?_))
      exact hJ14 false _ (by unfold numB; first | exact (decide_eq_false (by omega)).symm | exact (decide_eq_true (by omega)).symm | (rw [decide_eq_decide]; omega)) (by repeat first | exact trivial | exact And.intro rfl trivial | refine And.intro rfl ?_)

theorem refVal_at (s : ByteArray) (hs : s.size ≤ 1000000) : ∀ m dp, m ≤ 12 → dp + m = 12 → RefAt (m + 2) (valD s m) s dp
 | 0, dp, _, hd => fun ka w L hL hk => by
  obtain rfl : dp = 12 := by omega
  exact refVal_v 0 (fun _ => .error 4) s ka 12 w L hL hs hk (by omega) (fun h => absurd h (by omega))
 | m + 1, dp, hm, hd => fun ka w L hL hk => by
  have ih := refVal_at s hs m (dp + 1) (by omega) (by omega)
  obtain rfl : dp = 12 - (m + 1) := by omega
  exact refVal_v (m + 1) (valD s m) s ka (12 - (m + 1)) w L hL hs hk (by omega) (fun _ => ih)
set_option maxHeartbeats 1000000 in
theorem refParse_v (s : ByteArray) (w : World) (L : List Nat) (hL : LL L w)  : CV Try.prog 13 [.string s] w fun v W => (∃ t, v = .tuple #[.agg #[.int .i64 t.kind, .int .i64 t.num, .string t.text, t.nv, t.iv], .int .i64 0] ∧ parJ s = .ok t.er ∧ RdT 14 L W t) ∨ (∃ e, v = .tuple #[.agg #[.int .i64 0, .int .i64 0, .string ⟨#[]⟩, .slice none 0 0, .slice none 0 0], .int .i64 e] ∧ e ≠ 0 ∧ parJ s = .error e) := by
 refine cv_enter (N := 34) (f := [(0, .string s)]) Try.func13 rfl rfl rfl rfl fun Q hQ hE => ?_
 have hB := Below.refl w.heap.size w
 refine Sq fun K1 hK1 => (Rg ?_)
 refine Ge (dx_alloc rfl ty_zero_26 rfl) rfl rfl ?_
 rintro _ W2 ⟨rfl, k3, b4, z5⟩
 have l6 := hB.size
 replace hB := below_then hB b4
 replace hL := LL.more hL z5
 refine Pu rfl (Ni (hK1 (Sq fun K7 hK7 => (Sq fun K8 hK8 => (Rg (Pu rfl (Va (dx_lenT rfl Try.underlying9 rfl) rfl rfl ?_)))))))
 refine Va (dx_gtr rfl rfl rfl) rfl rfl (Ni (hK8 ?_))
 refine WC.cond rfl (fun c9 => ?_) (fun c9 => ?_)
 ·
  replace c9 := dT c9
  refine Sq fun K10 hK10 => (Rg (Va (dx_build rfl rfl (built_of_O (cs := zV) (by kernel_rfl) oc_nil)) rfl rfl ?_))
  refine WL.do (dx_store (cs' := zV) (vs := zV) rfl ty_size_26_5 rfl rfl rfl (oc_cons rfl (oc_cons rfl (oc_cons rfl (oc_cons rfl (oc_cons rfl oc_nil))))) k3 rfl (Nat.le_of_ble_eq_true rfl) rfl) rfl ?_
  rintro _ W11 ⟨k13, o12⟩
  clear k3
  replace hB := o12.below hB l6
  refine Pu rfl (Ni (hK10 ?_))
  exact WC.ret fun a_ ha_ => hQ (cv_ret2 rfl (.agg rfl ty_agg_26_5 k13.range rfl) (.tmp rfl) (.inr ⟨3, rfl, by decide, parS_l (by omega)⟩) hB ha_)
 ·
  replace c9 := dF c9
  refine WC.skip (hK7 (Sq fun K14 hK14 => (Sq fun K15 hK15 => ?_)))
  have hs : s.size ≤ 1000000 := by omega
  refine Rg (Pu rfl ?_)
  refine Ge (dx_sb (L := w.heap.size :: L) rfl Try.underlying9 Try.underlying50 Try.underlying5 rfl hL (by unfold maxLen; omega)) rfl rfl ?_
  rintro u16 W17 ⟨k18, b19⟩
  replace k3 := k3.below b19
  replace hB := below_then hB b19
  replace hL := LL.below hL b19
  refine Ge (dx_cv rfl Try.func36 rfl rfl rfl (refUp_v s _ W17 _ hL k18 (by omega))) rfl rfl ?_
  rintro _ W21 ⟨rfl, b20⟩
  replace k3 := k3.below b20
  replace hB := below_then hB b20
  replace hL := LL.below hL b20
  refine Va (dx_not rfl rfl) rfl rfl (Ni (hK15 ?_))
  refine WC.cond rfl (fun c22 => ?_) (fun c22 => ?_)
  ·
   replace c22 := bnot_t c22
   refine Sq fun K23 hK23 => (Rg (Va (dx_build rfl rfl (built_of_O (cs := zV) (by kernel_rfl) oc_nil)) rfl rfl ?_))
   refine WL.do (dx_store (cs' := zV) (vs := zV) rfl ty_size_26_5 rfl rfl rfl (oc_cons rfl (oc_cons rfl (oc_cons rfl (oc_cons rfl (oc_cons rfl oc_nil))))) k3 rfl (Nat.le_of_ble_eq_true rfl) rfl) rfl ?_
   rintro _ W24 ⟨k26, o25⟩
   clear k3
   replace hB := o25.below hB l6
   refine Pu rfl (Ni (hK23 ?_))
   exact WC.ret fun a_ ha_ => hQ (cv_ret2 rfl (.agg rfl ty_agg_26_5 k26.range rfl) (.tmp rfl) (.inr ⟨2, rfl, by decide, parS_u (by omega) (by assumption)⟩) hB ha_)
  ·
   replace c22 := bnot_f c22
   refine WC.skip (hK14 (Sq fun K27 hK27 => (Rg (Pu rfl ?_))))
   refine Ge (dx_cv rfl Try.func37 rfl rfl rfl (refVal_at s hs 12 0 (by omega) (by omega) 0 W21 _ hL (by omega))) rfl rfl ?_
   rintro _ W41 ⟨(⟨x, kx, rfl, hv34, hx, hv35, hv36⟩ | ⟨ex, rfl, hv37, hv38⟩), g40⟩
   ·
    replace k3 := k3.below g40
    replace hB := below_then hB g40
    replace hL := LL.below hL g40
    refine Pu rfl (Pu rfl (Pu rfl (Pu rfl ?_)))
    refine Ge (dx_alloc rfl ty_zero_26 rfl) rfl rfl ?_
    rintro _ W43 ⟨rfl, k44, b45, z46⟩
    have n47 : w.heap.size ≠ W41.heap.size := Nat.ne_of_lt k3.lt
    have l48 := hB.size
    replace hx := hx.more b45 (Nat.le_refl _)
    replace k3 := k3.below b45
    replace hB := below_then hB b45
    replace hL := LL.more hL z46
    refine WL.do (dx_store (cs' := [.int .i64 x.kind, .int .i64 x.num, .string x.text, x.nv, x.iv]) (vs := [.int .i64 x.kind, .int .i64 x.num, .string x.text, x.nv, x.iv]) rfl ty_size_26_5 rfl rfl rfl (oc_cons rfl (oc_cons rfl (oc_cons rfl (oc_cons (hx.1).one (oc_cons (hx.2.1).one oc_nil))))) k44 rfl (Nat.le_of_ble_eq_true rfl) rfl) rfl ?_
    rintro _ W49 ⟨k51, o50⟩
    replace k3 := k3.other o50 n47
    clear k44
    replace hx := hx.only o50 (.head _)
    replace hB := o50.below hB l48
    replace hL := LL.only hL o50
    refine Pu rfl (Pu rfl (Ni (hK27 (Sq fun K52 hK52 => (Sq fun K53 hK53 => (Rg (Pu rfl ?_)))))))
    refine Va (dx_neq rfl rfl rfl) rfl rfl (Ni (hK53 (WC.condF rfl (WC.skip (hK52 (Sq fun K54 hK54 => (Sq fun K55 hK55 => ?_)))))))
    refine Rg (Pu rfl (Pu rfl ?_))
    refine Ge (dx_cv rfl Try.func38 rfl rfl rfl (refBlank_e s kx W49 _ hL hs (by omega))) rfl rfl ?_
    rintro _ W57 ⟨⟨kc, rfl, hkc, hkc1, hkc2⟩, b56⟩
    replace hx := hx.below b56
    replace k3 := k3.below b56
    replace k51 := k51.below b56
    replace hB := below_then hB b56
    refine Pu rfl (Va (dx_lenT rfl Try.underlying9 rfl) rfl rfl (Va (dx_neq rfl rfl rfl) rfl rfl (Ni (hK55 ?_))))
    refine WC.cond rfl (fun c58 => ?_) (fun c58 => ?_)
    ·
     replace c58 := bnot_t c58
     replace c58 := dF c58
     refine Sq fun K59 hK59 => (Rg (Va (dx_build rfl rfl (built_of_O (cs := zV) (by kernel_rfl) oc_nil)) rfl rfl ?_))
     refine WL.do (dx_store (cs' := zV) (vs := zV) rfl ty_size_26_5 rfl rfl rfl (oc_cons rfl (oc_cons rfl (oc_cons rfl (oc_cons rfl (oc_cons rfl oc_nil))))) k3 rfl (Nat.le_of_ble_eq_true rfl) rfl) rfl ?_
     rintro _ W60 ⟨k62, o61⟩
     clear k3
     replace hB := o61.below hB l6
     refine Pu rfl (Ni (hK59 ?_))
     exact WC.ret fun a_ ha_ => hQ (cv_ret2 rfl (.agg rfl ty_agg_26_5 k62.range rfl) (.tmp rfl) (.inr ⟨2, rfl, by decide, parS_f (by omega) (by assumption) rfl rfl hv34 hkc (by omega)⟩) hB ha_)
    ·
     replace c58 := bnot_f c58
     replace c58 := dT c58
     refine WC.skip (hK54 (Sq fun K63 hK63 => (Rg (Va (dx_loadN rfl ty_agg_26_5 rfl k51.range rfl) rfl rfl ?_))))
     refine WL.do (dx_store (cs' := [.int .i64 x.kind, .int .i64 x.num, .string x.text, x.nv, x.iv]) (vs := [.int .i64 x.kind, .int .i64 x.num, .string x.text, x.nv, x.iv]) rfl ty_size_26_5 rfl rfl rfl (oc_cons rfl (oc_cons rfl (oc_cons rfl (oc_cons (hx.1).one (oc_cons (hx.2.1).one oc_nil))))) k3 rfl (Nat.le_of_ble_eq_true rfl) rfl) rfl ?_
     rintro _ W64 ⟨k66, o65⟩
     clear k3
     replace hx := hx.only o65 (.tail _ (.head _))
     replace hB := o65.below hB l6
     refine Pu rfl (Ni (hK63 ?_))
     exact WC.ret fun a_ ha_ => hQ (cv_ret2 rfl (.agg rfl ty_agg_26_5 k66.range rfl) (.tmp rfl) (.inl ⟨x, rfl, parS_t (by omega) (by assumption) rfl rfl hv34 hkc (by omega), (hx.less (fun x hx => (.tail _ (.tail _ hx))))⟩) hB ha_)
   ·
    replace k3 := k3.below g40
    replace hB := below_then hB g40
    refine Pu rfl (Pu rfl (Pu rfl (Pu rfl ?_)))
    refine Ge (dx_alloc rfl ty_zero_26 rfl) rfl rfl ?_
    rintro _ W67 ⟨rfl, k68, b69, z70⟩
    have n71 : w.heap.size ≠ W41.heap.size := Nat.ne_of_lt k3.lt
    have l72 := hB.size
    replace k3 := k3.below b69
    replace hB := below_then hB b69
    refine WL.do (dx_store (cs' := zV) (vs := zV) rfl ty_size_26_5 rfl rfl rfl (oc_cons rfl (oc_cons rfl (oc_cons rfl (oc_cons rfl (oc_cons rfl oc_nil))))) k68 rfl (Nat.le_of_ble_eq_true rfl) rfl) rfl ?_
    rintro _ W73 ⟨k75, o74⟩
    replace k3 := k3.other o74 n71
    clear k68
    replace hB := o74.below hB l72
    refine Pu rfl (Pu rfl (Ni (hK27 (Sq fun K76 hK76 => (Sq fun K77 hK77 => (Rg (Pu rfl ?_)))))))
    refine Va (dx_neq rfl rfl rfl) rfl rfl (Ni (hK77 ?_))
    refine WC.cond rfl (fun c78 => ?_) (fun c78 => ?_)
    ·
     replace c78 := bnot_t c78
     replace c78 := dF c78
     refine Sq fun K79 hK79 => (Rg (Va (dx_build rfl rfl (built_of_O (cs := zV) (by kernel_rfl) oc_nil)) rfl rfl (Pu rfl ?_)))
     refine WL.do (dx_store (cs' := zV) (vs := zV) rfl ty_size_26_5 rfl rfl rfl (oc_cons rfl (oc_cons rfl (oc_cons rfl (oc_cons rfl (oc_cons rfl oc_nil))))) k3 rfl (Nat.le_of_ble_eq_true rfl) rfl) rfl ?_
     rintro _ W80 ⟨k82, o81⟩
     clear k3
     replace hB := o81.below hB l6
     refine Pu rfl (Ni (hK79 ?_))
     exact WC.ret fun a_ ha_ => hQ (cv_ret2 rfl (.agg rfl ty_agg_26_5 k82.range rfl) (.tmp rfl) (.inr ⟨ex, rfl, hv37, parS_e (by omega) (by assumption) rfl rfl hv38⟩) hB ha_)
    ·
     replace c78 := bnot_f c78
     replace c78 := dT c78
     exfalso; omega

def RJ (n : Nat) (j : Js) : Prop := rightJ upB n j = true ∧ SzJ 1000000 (n + 1) j
theorem leaf_rj {n : Nat} {j : Js} (h : leafJ upB j = true) (hz : j.text.size ≤ 1000000) : RJ n j := by
 have h0 := h
 unfold leafJ at h0
 rw [Bool.and_eq_true, Bool.and_eq_true, decide_eq_true_eq, decide_eq_true_eq] at h0
 obtain ⟨⟨h1, h2⟩, _⟩ := h0
 refine ⟨?_, hz, by rw [h1]; decide, by rw [h2]; decide, by rw [h1]; exact (fun s hs => by cases hs), by rw [h2]; exact (fun c hc => by cases hc)⟩
 cases n with
 | zero => rw [rightJ]; exact h
 | succ n => rw [rightJ, h]; rfl
section
variable {σ : Type} {s : ByteArray} {one : Nat → σ → Except Int (σ × Nat)} {la : Int} {I : Nat → σ → Prop}
theorem memL_ok (hI : ∀ k k' st, I k st → k ≤ k' → I k' st) (h1 : ∀ k st st' k', k ≤ s.size → I k st → one k st = .ok (st', k') → I k' st' ∧ k < k' ∧ k' ≤ s.size) : ∀ (n k : Nat) (st st' : σ) (k' : Nat), k ≤ s.size → I k st → memL s one la n k st = .ok (st', k') → I k' st' ∧ k < k' ∧ k' ≤ s.size
  | 0, _, _, _, _, _, _, h => by rw [memL] at h; cases h
  | n + 1, k, st, st', k', hk, hi, h => by
    rw [memL] at h
    have hb := blankS_le hk
    split at h
    · cases h
    · rename_i st1 k2 ho
      obtain ⟨a, b, c⟩ := h1 _ _ _ _ hb.2 (hI _ _ _ hi hb.1) ho
      have hb2 := blankS_le c
      split at h
      · rename_i hq
        have hq := take_t hq
        cases h
        exact ⟨hI _ _ _ a (by omega), by omega, by omega⟩
      · split at h
        · rename_i hq
          have hq := take_t hq
          obtain ⟨p, q, r⟩ := memL_ok hI h1 n _ _ _ _ (by omega) (hI _ _ _ a (show k2 ≤ blankS s k2 + 1 by omega)) h
          exact ⟨p, by omega, r⟩
        · cases h
theorem memS_ok (hI : ∀ k k' st, I k st → k ≤ k' → I k' st) (h1 : ∀ k st st' k', k ≤ s.size → I k st → one k st = .ok (st', k') → I k' st' ∧ k < k' ∧ k' ≤ s.size) {k k' : Nat} {st st' : σ} (hk : k < s.size) (hi : I k st) (h : memS s one la k st = .ok (st', k')) : I k' st' ∧ k < k' ∧ k' ≤ s.size := by
  unfold memS at h
  have hb := blankS_le (s := s) (k := k + 1) (by omega)
  split at h
  · rename_i hq
    have hq := take_t hq
    cases h
    exact ⟨hI _ _ _ hi (by omega), by omega, by omega⟩
  · obtain ⟨p, q, r⟩ := memL_ok hI h1 _ _ _ _ _ hb.2 (hI _ _ _ hi (by omega)) h
    exact ⟨p, by omega, r⟩
end
def VOk (s : ByteArray) (n : Nat) (vs : Nat → Except Int (Js × Nat)) : Prop := ∀ k j k', k ≤ s.size → vs k = .ok (j, k') → RJ n j ∧ k < k' ∧ k' ≤ s.size
theorem list_ok {s : ByteArray} {n : Nat} {vs : Nat → Except Int (Js × Nat)} (hs : s.size ≤ 1000000) (hv : VOk s n vs) {k k' : Nat} {j : Js} (hk : k < s.size) (h : listS s vs k = .ok (j, k')) : RJ (n + 1) j ∧ k < k' ∧ k' ≤ s.size := by
  unfold listS at h
  split at h
  · cases h
  · rename_i ts k2 hm
    cases h
    obtain ⟨⟨a, b⟩, c, d⟩ := memS_ok (I := fun k (ts : List Js) => ts.length ≤ k ∧ ∀ t ∈ ts, RJ n t) (fun _ _ _ h1 h2 => ⟨Nat.le_trans h1.1 h2, h1.2⟩) (fun q st st' q' hq hi ho => by
      unfold oneL at ho
      split at ho
      · cases ho
      · rename_i t q2 hv2
        cases ho
        obtain ⟨e1, e2, e3⟩ := hv _ _ _ hq hv2
        refine ⟨⟨by rw [List.length_append, List.length_singleton]; omega, fun x hx => ?_⟩, e2, e3⟩
        rcases List.mem_append.1 hx with hx | hx
        · exact hi.2 x hx
        · rw [List.mem_singleton.1 hx]; exact e1) hk ⟨Nat.zero_le _, fun t ht => by cases ht⟩ hm
    refine ⟨⟨?_, ?_⟩, c, d⟩
    · rw [rightJ, Bool.or_eq_true]
      right
      rw [Bool.and_eq_true, List.all_eq_true]
      exact ⟨rfl, fun x hx => (b x hx).1⟩
    · exact ⟨by show 0 ≤ 1000000; decide, by show 0 ≤ 1000000; decide, by show ts.length ≤ 1000000; omega, (fun s hs => by cases hs), fun x hx => (b x hx).2⟩
theorem obj_ok {s : ByteArray} {n : Nat} {vs : Nat → Except Int (Js × Nat)} (hs : s.size ≤ 1000000) (hu : OKL (sb s)) (hv : VOk s n vs) {k k' : Nat} {j : Js} (hk : k < s.size) (h : objS s vs k = .ok (j, k')) : RJ (n + 1) j ∧ k < k' ∧ k' ≤ s.size := by
  unfold objS at h
  split at h
  · cases h
  · rename_i st k2 hm
    cases h
    obtain ⟨⟨a1, a2, a3, a4, a5⟩, c, d⟩ := memS_ok (I := fun k (st : StO) => st.1.length ≤ k ∧ st.1.length = st.2.length ∧ Rises st.1 ∧ (∀ x ∈ st.1, upB x = true ∧ x.size ≤ 1000000) ∧ ∀ t ∈ st.2, RJ n t) (fun _ _ _ h1 h2 => ⟨Nat.le_trans h1.1 h2, h1.2⟩) (fun q st st' q' hq hi ho => by
      unfold pairS at ho
      split at ho
      · rename_i hq34
        split at ho
        · cases ho
        · rename_i l q1 hqu
          obtain ⟨o1, o2, o3, o4⟩ := quo_ok hu hq34 hqu
          unfold pairN at ho
          split at ho
          · cases ho
          · rename_i hnn
            have hb := blankS_le o4
            split at ho
            · rename_i hco
              have hco := take_t hco
              have hb2 := blankS_le (s := s) (k := blankS s q1 + 1) (by omega)
              split at ho
              · cases ho
              · rename_i t q2 hv2
                cases ho
                obtain ⟨e1, e2, e3⟩ := hv _ _ _ hb2.2 hv2
                obtain ⟨i1, i2, i3, i4, i5⟩ := hi
                have hle := lbT_le (strOfNums l) st.1
                refine ⟨⟨by rw [insA_len hle]; omega, by rw [insA_len hle, insA_len (by rw [← i2]; exact hle), i2], rises_ins i3 hnn, fun x hx => ?_, fun x hx => ?_⟩, by omega, e3⟩
                · rcases mem_insA.1 hx with rfl | hx
                  · exact ⟨up_of_ok o1, by rw [strOfNums_size]; omega⟩
                  · exact i4 x hx
                · rcases mem_insA.1 hx with rfl | hx
                  · exact e1
                  · exact i5 x hx
            · cases ho
      · cases ho) hk ⟨Nat.zero_le _, rfl, List.Pairwise.nil, (fun x hx => by cases hx), (fun t ht => by cases ht)⟩ hm
    refine ⟨⟨mk_right a2 a3 (fun x hx => (a4 x hx).1) (fun x hx => (a5 x hx).1), ?_⟩, c, d⟩
    exact ⟨by show 0 ≤ 1000000; decide, by show st.1.length ≤ 1000000; omega, by show st.2.length ≤ 1000000; omega, fun x hx => (a4 x hx).2, fun x hx => (a5 x hx).2⟩
theorem valB_ok {s : ByteArray} {n dp : Nat} {rl ro : Except Int (Js × Nat)} (hs : s.size ≤ 1000000) (hu : OKL (sb s)) {k k' : Nat} {j : Js} (hl : k < s.size → nestS dp rl = .ok (j, k') → RJ n j ∧ k < k' ∧ k' ≤ s.size) (ho : k < s.size → nestS dp ro = .ok (j, k') → RJ n j ∧ k < k' ∧ k' ≤ s.size) (h : valB s dp rl ro k = .ok (j, k')) : RJ n j ∧ k < k' ∧ k' ≤ s.size := by
  unfold valB at h
  have hw : ∀ (wd : ByteArray) (kd : Int), 1 ≤ wd.size → kd = 0 ∨ kd = 1 ∨ kd = 2 → wordR s wd kd k = .ok (j, k') → k < s.size → RJ n j ∧ k < k' ∧ k' ≤ s.size := fun wd kd h1 h2 h3 hk => by
    unfold wordR at h3
    split at h3
    · rename_i hw
      cases h3
      have hb := begin_sz ((begin_word (by omega)).trans hw) rfl
      refine ⟨leaf_rj ?_ (by show 0 ≤ 1000000; decide), by omega, hb⟩
      rcases h2 with rfl | rfl | rfl <;> rfl
    · cases h3
  split at h
  · rename_i hk
    split at h
    · exact hw _ _ (by decide) (.inl rfl) h hk
    · split at h
      · exact hw _ _ (by decide) (.inr (.inl rfl)) h hk
      · split at h
        · exact hw _ _ (by decide) (.inr (.inr rfl)) h hk
        · split at h
          · unfold numR at h
            split at h
            · cases h
            · rename_i m q hm
              cases h
              have hr := numS_in hm
              have hp : k < k' ∧ k' ≤ s.size := by
                unfold numS at hm
                split at hm
                · have := numT_ok (by omega) hm; omega
                · exact numT_ok (by omega) hm
              refine ⟨leaf_rj ?_ (by show 0 ≤ 1000000; decide), hp.1, hp.2⟩
              unfold leafJ leafS
              simp only [Js.names, Js.items, Js.kind, Js.text, Js.num]
              simp [hr.1, hr.2]
          · split at h
            · rename_i hq
              unfold quoR at h
              split at h
              · cases h
              · rename_i l q hq2
                cases h
                obtain ⟨o1, o2, o3, o4⟩ := quo_ok hu (take_of hk hq.symm) hq2
                refine ⟨leaf_rj ?_ (by show (strOfNums l).size ≤ 1000000; rw [strOfNums_size]; omega), o3, o4⟩
                unfold leafJ leafS
                simp only [Js.names, Js.items, Js.kind, Js.text, Js.num]
                simp [up_of_ok o1]
            · split at h
              · exact hl hk h
              · split at h
                · exact ho hk h
                · cases h
  · cases h
theorem valD_ok {s : ByteArray} (hs : s.size ≤ 1000000) (hu : OKL (sb s)) : ∀ m, m ≤ 12 → VOk s m (valD s m)
 | 0, _ => fun k j k' hk h => valB_ok hs hu (fun _ h => by cases h) (fun _ h => by cases h) h
 | m + 1, hm => fun k j k' hk h => by
  have ih := valD_ok hs hu m (by omega)
  have e : ∀ r : Except Int (Js × Nat), nestS (12 - (m + 1)) r = r := fun r => nest_lt (by omega)
  exact valB_ok hs hu (fun hk h => by rw [e] at h; exact list_ok hs ih hk h) (fun hk h => by rw [e] at h; exact obj_ok hs hu ih hk h) h
theorem par_ok {s : ByteArray} {j : Js} (h : parJ s = .ok j) : RJ 12 j := by
  unfold parJ parS at h
  split at h
  · cases h
  · rename_i hsz
    split at h
    · cases h
    · rename_i hu
      split at h
      · cases h
      · rename_i j2 k hv
        have := valD_ok (by omega) (ok_of_up (by simpa using hu)) 12 (Nat.le_refl _) _ _ _ (blankS_le (Nat.zero_le _)).2 hv
        split at h
        · cases h; exact this.1
        · cases h
theorem jPar_k (s : ByteArray) (j : Js) (h : parJ s = .ok j) (w : World) (L : List Nat) (hL : LL L w) : CV Try.prog 12 [.string s] w fun v W => ∃ t, v = .tuple #[.agg #[.int .i64 t.kind, .int .i64 t.num, .string t.text, t.nv, t.iv], .int .i64 0] ∧ t.er = j ∧ RdT 13 L W t :=
 (jParse_v s w L hL).mono fun v W _ k => by
  rcases k with ⟨t, e1, e2, e3⟩ | ⟨e, _, _, e2⟩
  · rw [h] at e2; exact ⟨t, e1, (Except.ok.inj e2).symm, e3⟩
  · rw [h] at e2; cases e2
theorem jPar_x (s : ByteArray) (c : Int) (h : parJ s = .error c) (w : World) (L : List Nat) (hL : LL L w) : CV Try.prog 12 [.string s] w fun v W => v = .tuple #[.agg #[.int .i64 0, .int .i64 0, .string ⟨#[]⟩, .slice none 0 0, .slice none 0 0], .int .i64 c] ∧ c ≠ 0 :=
 (jParse_v s w L hL).mono fun v W _ k => by
  rcases k with ⟨t, _, e2, _⟩ | ⟨e, e1, e0, e2⟩
  · rw [h] at e2; cases e2
  · rw [h] at e2; cases e2; exact ⟨e1, e0⟩
theorem rPar_k (s : ByteArray) (j : Js) (h : parJ s = .ok j) (w : World) (L : List Nat) (hL : LL L w) : CV Try.prog 13 [.string s] w fun v W => ∃ t, v = .tuple #[.agg #[.int .i64 t.kind, .int .i64 t.num, .string t.text, t.nv, t.iv], .int .i64 0] ∧ t.er = j ∧ RdT 14 L W t :=
 (refParse_v s w L hL).mono fun v W _ k => by
  rcases k with ⟨t, e1, e2, e3⟩ | ⟨e, _, _, e2⟩
  · rw [h] at e2; exact ⟨t, e1, (Except.ok.inj e2).symm, e3⟩
  · rw [h] at e2; cases e2
theorem rPar_x (s : ByteArray) (c : Int) (h : parJ s = .error c) (w : World) (L : List Nat) (hL : LL L w) : CV Try.prog 13 [.string s] w fun v W => v = .tuple #[.agg #[.int .i64 0, .int .i64 0, .string ⟨#[]⟩, .slice none 0 0, .slice none 0 0], .int .i64 c] ∧ c ≠ 0 :=
 (refParse_v s w L hL).mono fun v W _ k => by
  rcases k with ⟨t, _, e2, _⟩ | ⟨e, e1, e0, e2⟩
  · rw [h] at e2; cases e2
  · rw [h] at e2; cases e2; exact ⟨e1, e0⟩
set_option maxHeartbeats 1000000 in
theorem JsonParses_v (s : ByteArray) (w : World) (L : List Nat) (hL : LL L w)  : CV Try.prog 3 [.string s] w fun v W => v = .bool true := by
 refine cv_enter (N := 38) (f := [(0, .string s)]) Try.func3 rfl rfl rfl rfl fun Q hQ hE => ?_
 have hB := Below.refl w.heap.size w
 refine Sq fun K1 hK1 => (Rg (Pu rfl (Ni (hK1 (Sq fun K2 hK2 => (Sq fun K3 hK3 => (Rg ?_)))))))
 refine Ge (dx_cv rfl Try.func11 rfl rfl rfl (alive_v w _ hL)) rfl rfl ?_
 rintro _ W5 ⟨rfl, b4⟩
 replace hB := below_then hB b4
 replace hL := LL.below hL b4
 refine Va (dx_not rfl rfl) rfl rfl (Ni (hK3 (WC.condF rfl (WC.skip (hK2 (Sq fun K6 hK6 => (Sq fun K7 hK7 => ?_)))))))
 refine Rg (Pu rfl (Va (dx_lenT rfl Try.underlying9 rfl) rfl rfl (Va (dx_gtr rfl rfl rfl) rfl rfl (Ni (hK7 ?_)))))
 refine WC.cond rfl (fun c8 => ?_) (fun c8 => ?_)
 ·
  replace c8 := dT c8
  refine Sq fun K9 hK9 => (Rg (Pu rfl (Ni (hK9 ?_))))
  exact WC.ret fun a_ ha_ => hQ (cv_ret1 rfl (.tmp rfl) rfl hB ha_)
 ·
  replace c8 := dF c8
  refine WC.skip (hK6 (Sq fun K10 hK10 => ?_))
  rcases hp : parJ s with c | j
  ·
   refine Rg (Pu rfl ?_)
   refine Ge (dx_cv rfl Try.func12 rfl rfl rfl (jPar_x s c hp W5 _ hL)) rfl rfl ?_
   rintro _ W12 ⟨⟨rfl, hct⟩, b11⟩
   replace hB := below_then hB b11
   replace hL := LL.below hL b11
   refine Pu rfl (Pu rfl (Pu rfl ?_))
   refine Ge (dx_alloc rfl ty_zero_26 rfl) rfl rfl ?_
   rintro _ W13 ⟨rfl, k14, b15, z16⟩
   have l17 := hB.size
   replace hB := below_then hB b15
   replace hL := LL.more hL z16
   refine WL.do (dx_store (cs' := zV) (vs := zV) rfl ty_size_26_5 rfl rfl rfl (oc_cons rfl (oc_cons rfl (oc_cons rfl (oc_cons rfl (oc_cons rfl oc_nil))))) k14 rfl (Nat.le_of_ble_eq_true rfl) rfl) rfl ?_
   rintro _ W18 ⟨k20, o19⟩
   clear k14
   replace hB := o19.below hB l17
   replace hL := LL.only hL o19
   refine Pu rfl (Ni (hK10 (Sq fun K21 hK21 => (Rg (Pu rfl ?_)))))
   refine Ge (dx_cv rfl Try.func13 rfl rfl rfl (rPar_x s c hp W18 _ hL)) rfl rfl ?_
   rintro _ W23 ⟨⟨rfl, hcu⟩, b22⟩
   replace k20 := k20.below b22
   replace hB := below_then hB b22
   replace hL := LL.below hL b22
   refine Pu rfl (Pu rfl (Pu rfl ?_))
   refine Ge (dx_alloc rfl ty_zero_26 rfl) rfl rfl ?_
   rintro _ W24 ⟨rfl, k25, b26, z27⟩
   have n28 : W12.heap.size ≠ W23.heap.size := Nat.ne_of_lt k20.lt
   have l29 := hB.size
   replace k20 := k20.below b26
   replace hB := below_then hB b26
   replace hL := LL.more hL z27
   refine WL.do (dx_store (cs' := zV) (vs := zV) rfl ty_size_26_5 rfl rfl rfl (oc_cons rfl (oc_cons rfl (oc_cons rfl (oc_cons rfl (oc_cons rfl oc_nil))))) k25 rfl (Nat.le_of_ble_eq_true rfl) rfl) rfl ?_
   rintro _ W30 ⟨k32, o31⟩
   replace k20 := k20.other o31 n28
   clear k25
   replace hB := o31.below hB l29
   replace hL := LL.only hL o31
   refine Pu rfl (Ni (hK21 (Sq fun K33 hK33 => (Rg (Va (dx_loadN rfl ty_agg_26_5 rfl k20.range rfl) rfl rfl (Va (dx_loadN rfl ty_agg_26_5 rfl k32.range rfl) rfl rfl ?_))))))
   refine Ge (dx_cv rfl Try.func14 rfl rfl rfl (alikeE_v 0 (tNil 0) (tNil 0) W30 _ hL (tNil_rd _ _ _ _) (tNil_rd _ _ _ _) rfl)) rfl rfl ?_
   rintro _ W35 ⟨rfl, b34⟩
   replace hB := below_then hB b34
   refine Pu rfl (Pu rfl (Pu rfl (Va (dv_e (dx_eql rfl rfl rfl) (show Value.bool (decide (c = c)) = .bool true from by rw [decide_eq_true rfl])) rfl rfl (Pu rfl (Pu rfl (Pu rfl (Va (dv_NT (dx_neq rfl rfl rfl) hct) rfl rfl ?_)))))))
   refine Pu rfl (Of rfl (Of rfl (Pu rfl (Pu rfl (Pu rfl (Ni (hK33 ?_)))))))
   exact WC.ret fun a_ ha_ => hQ (cv_ret1 rfl (.tmp rfl) rfl hB ha_)
  ·
   obtain ⟨hr1, hr2⟩ := par_ok hp
   refine Rg (Pu rfl ?_)
   refine Ge (dx_cv rfl Try.func12 rfl rfl rfl (jPar_k s j hp W5 _ hL)) rfl rfl ?_
   rintro _ W37 ⟨⟨t, rfl, hte, htt⟩, b36⟩
   replace hB := below_then hB b36
   replace hL := LL.below hL b36
   refine Pu rfl (Pu rfl (Pu rfl ?_))
   refine Ge (dx_alloc rfl ty_zero_26 rfl) rfl rfl ?_
   rintro _ W38 ⟨rfl, k39, b40, z41⟩
   have l42 := hB.size
   replace htt := htt.more b40 (Nat.le_refl _)
   replace hB := below_then hB b40
   replace hL := LL.more hL z41
   refine WL.do (dx_store (cs' := [.int .i64 t.kind, .int .i64 t.num, .string t.text, t.nv, t.iv]) (vs := [.int .i64 t.kind, .int .i64 t.num, .string t.text, t.nv, t.iv]) rfl ty_size_26_5 rfl rfl rfl (oc_cons rfl (oc_cons rfl (oc_cons rfl (oc_cons (htt.1).one (oc_cons (htt.2.1).one oc_nil))))) k39 rfl (Nat.le_of_ble_eq_true rfl) rfl) rfl ?_
   rintro _ W43 ⟨k45, o44⟩
   clear k39
   replace htt := htt.only o44 (.head _)
   replace hB := o44.below hB l42
   replace hL := LL.only hL o44
   refine Pu rfl (Ni (hK10 (Sq fun K46 hK46 => (Rg (Pu rfl ?_)))))
   refine Ge (dx_cv rfl Try.func13 rfl rfl rfl (rPar_k s j hp W43 _ hL)) rfl rfl ?_
   rintro _ W48 ⟨⟨u, rfl, hue, hut⟩, b47⟩
   replace htt := htt.below b47
   replace k45 := k45.below b47
   replace hB := below_then hB b47
   replace hL := LL.below hL b47
   refine Pu rfl (Pu rfl (Pu rfl ?_))
   refine Ge (dx_alloc rfl ty_zero_26 rfl) rfl rfl ?_
   rintro _ W49 ⟨rfl, k50, b51, z52⟩
   have n53 : W37.heap.size ≠ W48.heap.size := Nat.ne_of_lt k45.lt
   have l54 := hB.size
   replace htt := htt.more b51 (Nat.le_refl _)
   replace hut := hut.more b51 (Nat.le_refl _)
   replace k45 := k45.below b51
   replace hB := below_then hB b51
   replace hL := LL.more hL z52
   refine WL.do (dx_store (cs' := [.int .i64 u.kind, .int .i64 u.num, .string u.text, u.nv, u.iv]) (vs := [.int .i64 u.kind, .int .i64 u.num, .string u.text, u.nv, u.iv]) rfl ty_size_26_5 rfl rfl rfl (oc_cons rfl (oc_cons rfl (oc_cons rfl (oc_cons (hut.1).one (oc_cons (hut.2.1).one oc_nil))))) k50 rfl (Nat.le_of_ble_eq_true rfl) rfl) rfl ?_
   rintro _ W55 ⟨k57, o56⟩
   replace k45 := k45.other o56 n53
   clear k50
   replace htt := htt.only o56 (.head _)
   replace hut := hut.only o56 (.head _)
   replace hB := o56.below hB l54
   replace hL := LL.only hL o56
   refine Pu rfl (Ni (hK46 (Sq fun K58 hK58 => (Rg (Va (dx_loadN rfl ty_agg_26_5 rfl k45.range rfl) rfl rfl (Va (dx_loadN rfl ty_agg_26_5 rfl k57.range rfl) rfl rfl ?_))))))
   refine Ge (dx_cv rfl Try.func14 rfl rfl rfl (alikeE_v 13 t u W55 _ hL htt.up hut (hte.trans hue.symm))) rfl rfl ?_
   rintro _ W60 ⟨rfl, b59⟩
   replace htt := htt.below b59
   replace k45 := k45.below b59
   replace hB := below_then hB b59
   replace hL := LL.below hL b59
   refine Pu rfl (Pu rfl (Pu rfl (Va (dx_eql rfl rfl rfl) rfl rfl (Pu rfl (Pu rfl (Pu rfl (Va (dx_neq rfl rfl rfl) rfl rfl ?_)))))))
   refine Pu rfl (Va (dx_loadN rfl ty_agg_26_5 rfl k45.range rfl) rfl rfl ?_)
   refine Ge (dx_cv rfl Try.func15 rfl rfl rfl (rightE_v 12 t true W60 _ hL htt (szT_J.2 (by rw [hte]; exact hr2)) (by rw [hte]; exact hr1))) rfl rfl ?_
   rintro _ W62 ⟨rfl, b61⟩
   replace hB := below_then hB b61
   refine Pu rfl (Pu rfl (Pu rfl (Ni (hK58 ?_))))
   exact WC.ret fun a_ ha_ => hQ (cv_ret1 rfl (.tmp rfl) rfl hB ha_)

end Go.Proofs.Ytpinidlfcifeeaa
