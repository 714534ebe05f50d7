/- One item of a list. Trees in the program: Right, Deep, Get, Same. The place of a text in a rising list of texts. No program stands here. slices.Insert -/
import Derived.Test.YtghpdnfdbhjmpaaGreatDoorZC
namespace Go.Proofs.YtghpdnfdbhjmpaaGreatDoor
open Go.RowKit
set_option linter.unusedVariables false
set_option linter.unusedSimpArgs false
set_option maxRecDepth 8000
set_option maxHeartbeats 2000000

theorem ChgV.inner {b P V D : Nat} {w W W' : World} (h : ChgV b P V w W) (k : ChgV W.heap.size V D W W') (hb : b ≤ W.heap.size) (hD : b ≤ D) : ChgV b P V w W' := ⟨k.os.trans h.os, k.tape.trans h.tape, k.output.trans h.output, Nat.le_trans h.size k.size, fun i hi h1 h2 => (k.block i (by omega) h2 (by omega)).trans (h.block i hi h1 h2)⟩
theorem OwS.chgV {s b B C D : Nat} {w w' : World} {v : Value} {rs : List (List Value)} (h : OwS s w v rs D) (k : ChgV b B C w w') (hb : D < b) (h1 : D ≠ B) (h2 : D ≠ C) : OwS s w' v rs D := by
 obtain ⟨h0, hl, cap, sp, a1, a2, a3, a4, a5⟩ := h
 exact ⟨h0, hl, cap, sp, a1, a2, a3, a4, a5.chgV k hb h1 h2⟩
theorem RdT.inner {n V D : Nat} {L : List Nat} {W W' : World} {t : Tr} (h : RdT n (D :: L) W t) (k : ChgV W.heap.size V D W W') (hV : V ∈ L) : RdT n (D :: L) W' t := h.agree ⟨k.size, fun i hi hlt => k.block i hlt (fun e => hi (e ▸ .tail _ hV)) (fun e => hi (e ▸ .head _))⟩
theorem rel_o {A : Bool} {V D k : Nat} {rows : List (List Value)} {tr : List Value} {W W' : World} (h5 : k ≠ 5) (h7 : k ≠ 7) (h9 : k ≠ 9) (h : Below W.heap.size W W') : rel2 A V D rows tr k W W' := by unfold rel2; rw [if_neg h5, if_neg h7, if_neg h9]; exact h
theorem OwS.caps {s B l l' c c' : Nat} {a a' : Option Addr} {w : World} {rs rs' : List (List Value)} (h : OwS s w (.slice a l c) rs B) (h' : OwS s w (.slice a' l' c') rs' B) : c = c' := by
 obtain ⟨h0, hr, cap, sp, e1, a2, a3, a4, ⟨t, a5⟩⟩ := h
 obtain ⟨_, hr', cap', sp', e2, b2, b3, b4, ⟨t', b5⟩⟩ := h'
 simp only [Value.slice.injEq] at e1 e2
 obtain ⟨rfl, rfl, rfl⟩ := e1
 obtain ⟨rfl, rfl, rfl⟩ := e2
 rw [a5] at b5
 have e := congrArg (fun o : Option Obj => match o with | some (.cells cs _ _) => cs.size | _ => 0) b5
 simp only [List.size_toArray, List.length_append, flat_len hr, flat_len hr', a4, b4] at e
 rw [← Nat.add_mul, ← Nat.add_mul] at e
 have := Nat.eq_of_mul_eq_mul_right h0 e
 omega
theorem OwS.init {s B c : Nat} {w W : World} {u : Value} {rs : List (List Value)} {r r' : List Value} (h : OwS s w (.slice (some ⟨B, 0, none⟩) rs.length c) rs B) (k : OwS s w u (rs ++ [r']) B) (h' : OwS s W u (rs ++ [r]) B) : OwS s W (.slice (some ⟨B, 0, none⟩) rs.length c) rs B := by
 obtain ⟨h0, hr, cap, sp, rfl, a2, a3, a4, a5⟩ := h'
 have e := h.caps k
 subst e
 have hl : r.length = s := hr r (by simp)
 rw [List.length_append, List.length_singleton] at a2 a4
 refine ⟨h0, fun x hx => hr x (List.mem_append_left _ hx), c, r ++ sp, rfl, by omega, a3, ?_, ?_⟩
 · rw [List.length_append, hl, a4, show c - rs.length = (c - (rs.length + 1)) + 1 by omega, Nat.succ_mul]; omega
 · rw [List.flatten_append] at a5; simpa using a5
theorem row3 {A : Bool} {W0 W W' : World} {V D c : Nat} {iv : Value} {rows : List (List Value)} {tr : List Value} {l4 l5 l9 : Bool} (hVD : D ≠ V) (hiv : A = false → iv = .slice (some ⟨D, 0, none⟩) rows.length c) (h : H2 A W0 V D iv rows tr l4 l5 false l9 W) (hr : Only D W W') (hs : ∀ u r, OwS 5 W u (rows ++ [r]) D → OwS 5 W' u (rows ++ [tr]) D) (h5 : ∃ u r, OwS 5 W u (rows ++ [r]) D) : H2 A W0 V D iv rows tr l4 l5 true l9 W' := by
 obtain ⟨h1, h2, h3, h4, h9⟩ := h
 obtain ⟨u, r, hu⟩ := h5
 refine ⟨h1.both (.of_only hr (.inr (.inl rfl))), fun e => (h2 e).other hr hVD.symm, fun e => ?_, fun _ => ⟨u, hs u r hu⟩, fun e => by obtain ⟨u, r, hv, hu⟩ := h9 e; exact ⟨u, tr, hv.other hr hVD.symm, hs u r hu⟩⟩
 have h0 := h3 e
 cases A with
 | true => rw [if_pos rfl] at h0 ⊢; rw [hr.size]; exact h0
 | false =>
  rw [if_neg (by decide)] at h0 ⊢
  obtain rfl := hiv rfl
  exact h0.init hu (hs u r hu)
theorem put3 {A : Bool} {W0 W W' : World} {V D : Nat} {iv u : Value} {rows : List (List Value)} {r tr : List Value} {l4 l5 l7 : Bool} (hVD : D ≠ V) (h : H2 A W0 V D iv rows tr l4 l5 l7 false W) (hr : Only V W W') (hv : Blk W' V (vC u)) (hu : OwS 5 W u (rows ++ [r]) D) : H2 A W0 V D iv rows tr l4 l5 l7 true W' := by
 obtain ⟨h1, h2, h3, h4, h9⟩ := h
 refine ⟨h1.both (.of_only hr (.inl rfl)), fun h => (by cases h), fun e => ?_, fun e => (by obtain ⟨u, hu⟩ := h4 e; exact ⟨u, hu.other hr hVD⟩), fun _ => ⟨u, r, hv, hu.other hr hVD⟩⟩
 have h0 := h3 e
 cases A with
 | true => rw [if_pos rfl] at h0 ⊢; rw [hr.size]; exact h0
 | false => rw [if_neg (by decide)] at h0 ⊢; exact h0.other hr hVD
theorem set_last {rows : List (List Value)} {r t : List Value} : (rows ++ [r]).set rows.length t = rows ++ [t] := by simp
theorem oc_lit (r : List Value) (h : ∀ u ∈ r, u.oneCell' = true) : ∀ x ∈ [r], ∀ u ∈ x, u.oneCell' = true := fun x hx => by rw [List.mem_singleton.1 hx]; exact h
theorem one_v (n : Nat) (vs : Nat → Except Int (Js × Nat)) (s : ByteArray) (dp : Nat) (hs : s.size ≤ 1000000) (hv : ValAt (n + 1) vs s dp) : OneAt (n + 1) vs s dp := by
  intro b Bp V P L ka js w hL hPL hVL hBL hBP hVP hBV hLb hbw hk hp hI hjs
  obtain ⟨iv, ts, rfl, hBp, hV, hI0, hI⟩ := hI
  rw [List.length_map] at hjs
  have hsm : ts.length ≤ 1000000 := by omega
  rcases hI with ⟨rfl, h0⟩ | ⟨B0, hbB, hO, hts⟩
  ·
    refine cx_enter (N := 19) (f := [(0, .pointer (some ⟨Bp, 0, none⟩)), (1, .pointer (some ⟨V, 0, none⟩))]) Tryz.func54 rfl rfl rfl rfl fun Q hQ hE_ => ?_
    have hB := ChgV.refl b P V w
    refine Sq fun K1 hK1 => (Rg (Pu rfl (Ni (hK1 (Sq fun K2 hK2 => (Rg (Va (dx_load rfl ty_one_35 rfl (hBp.cell (k := 0) rfl)) rfl rfl ?_)))))))
    refine Ge (dx_cw rfl Tryz.func13 rfl rfl rfl (hv P ka w _ hL hPL (by omega) hp)) rfl rfl ?_
    rintro _ W30 ⟨(⟨k16, t18, rfl, hw20, hw21, hw22, hw23, hp31⟩ | ⟨k17, e19, rfl, hw24, hw25, hw26, hp31⟩), g29⟩
    ·
      replace hBp := hBp.chg g29 hBP
      replace hV := hV.chg g29 hVP
      replace hB := hB.chg g29 (Nat.le_trans hbw hB.size)
      refine Pu rfl (Pu rfl (Pu rfl ?_))
      refine Ge (dx_alloc rfl ty_zero_27 rfl) rfl rfl ?_
      rintro _ W32 ⟨rfl, k33, b34, z35⟩
      have n36 : P ≠ W30.heap.size := Nat.ne_of_lt hp31.lt
      have n37 : Bp ≠ W30.heap.size := Nat.ne_of_lt hBp.lt
      have n38 : V ≠ W30.heap.size := Nat.ne_of_lt hV.lt
      have l39 := hB.size
      replace hw21 := hw21.more b34 (Nat.le_refl _)
      replace hp31 := hp31.below b34
      replace hBp := hBp.below b34
      replace hV := hV.below b34
      replace hB := hB.both (.of_below (b34.mono (Nat.le_trans hbw hB.size)))
      refine WL.do (dx_store (cs' := [.int .i64 t18.kind, .int .i64 t18.num, .string t18.text, t18.nv, t18.iv]) (vs := [.int .i64 t18.kind, .int .i64 t18.num, .string t18.text, t18.nv, t18.iv]) rfl ty_size_27_5 rfl rfl rfl (oC rfl (oC rfl (oC rfl (oC (hw21.1).one (oC (hw21.2.1).one oc_nil))))) k33 rfl (nB rfl) rfl) rfl ?_
      rintro _ W40 ⟨k42, o41⟩
      replace hp31 := hp31.other o41 n36
      replace hBp := hBp.other o41 n37
      replace hV := hV.other o41 n38
      clear k33
      replace hw21 := hw21.only o41 (.head _)
      replace hB := hB.both (.of_only o41 (.inr (.inr (Nat.le_trans hbw l39))))
      refine Pu rfl (Ni (hK2 (Sq fun K43 hK43 => ?_)))
      have hsW := hB.size
      obtain ⟨D, hD⟩ : ∃ D, D = W40.heap.size + 1 := ⟨_, rfl⟩
      have hDV : D ≠ V := by have := hV.lt; omega
      have hbD : b ≤ D := by omega
      refine WC.drawL (fun L_ W_ => H2 true W40 V D (.slice none 0 0) (ts.map encT) [.int .i64 t18.kind, .int .i64 t18.num, .string t18.text, t18.nv, t18.iv] (L_ 4) (L_ 5) (L_ 7) (L_ 9) W_) 10 (rel2 true V D (ts.map encT) [.int .i64 t18.kind, .int .i64 t18.num, .string t18.text, t18.nv, t18.iv]) (sd2 W40 V D 0 (.slice none 0 0) (ts.map encT) [.int .i64 t18.kind, .int .i64 t18.num, .string t18.text, t18.nv, t18.iv]) [[], [0], [], [1], [], [1, 4, 0, 1, 2, 3, 4], [5, 3, 0, 1, 2, 3, 4, 5], [6, 2, 5, 0, 1, 2, 3, 4, 5], [0, 1, 2, 3, 4, 5], [8, 5, 5, 0, 1, 2, 3, 4, 5]] (by kernel_rfl) (by kernel_rfl) (by kernel_rfl) (by kernel_rfl) (by kernel_rfl) (by kernel_rfl) (by kernel_rfl) (begin2 hV (fun h => by cases h)) (mono2 hDV) ?_ ?_
      ·
        refine ⟨fun L_ Wd hl hn hG => ?_, ?_⟩
        ·
          replace hG : H2 true W40 V D (.slice none 0 0) (ts.map encT) [.int .i64 t18.kind, .int .i64 t18.num, .string t18.text, t18.nv, t18.iv] (L_ 4) (L_ 5) (L_ 7) (L_ 9) Wd := hG
          exact DV.dr (dx_fld (o1 := 4) rfl ty_fld_27_4_4 rfl rfl) ⟨rel_o (by decide) (by decide) (by decide) (Below.refl _ _), hG, rfl⟩
        refine ⟨fun L_ Wd hl hn hG => ?_, ?_⟩
        ·
          replace hG : H2 true W40 V D (.slice none 0 0) (ts.map encT) [.int .i64 t18.kind, .int .i64 t18.num, .string t18.text, t18.nv, t18.iv] (L_ 4) (L_ 5) (L_ 7) (L_ 9) Wd := hG
          exact DV.dr (dx_load rfl ty_one_25 rfl ((hG.2.1 (hn 9 (by decide))).cell (k := 4) rfl)) ⟨rel_o (by decide) (by decide) (by decide) (Below.refl _ _), hG, rfl⟩
        refine ⟨fun L_ Wd hl hn hG => ?_, ?_⟩
        ·
          replace hG : H2 true W40 V D (.slice none 0 0) (ts.map encT) [.int .i64 t18.kind, .int .i64 t18.num, .string t18.text, t18.nv, t18.iv] (L_ 4) (L_ 5) (L_ 7) (L_ 9) Wd := hG
          exact DV.dr (dx_loadN (cs := [.int .i64 t18.kind, .int .i64 t18.num, .string t18.text, t18.nv, t18.iv]) rfl ty_agg_27_5 rfl (k42.chgV hG.1 k42.lt n38.symm (by have := k42.lt; omega)).range rfl) ⟨rel_o (by decide) (by decide) (by decide) (Below.refl _ _), hG, rfl⟩
        refine ⟨fun L_ Wd hl hn hG => ?_, ?_⟩
        ·
          replace hG : H2 true W40 V D (.slice none 0 0) (ts.map encT) [.int .i64 t18.kind, .int .i64 t18.num, .string t18.text, t18.nv, t18.iv] (L_ 4) (L_ 5) (L_ 7) (L_ 9) Wd := hG
          exact DV.dr (dx_len rfl Tryz.underlying25 rfl) ⟨rel_o (by decide) (by decide) (by decide) (Below.refl _ _), hG, rfl⟩
        refine ⟨fun L_ Wd hl hn hG => ?_, ?_⟩
        ·
          replace hG : H2 true W40 V D (.slice none 0 0) (ts.map encT) [.int .i64 t18.kind, .int .i64 t18.num, .string t18.text, t18.nv, t18.iv] (L_ 4) (L_ 5) (L_ 7) (L_ 9) Wd := hG
          have h5_ := hn 5 (by decide)
          rw [hl, h5_] at hG
          refine (dx_lit1X (r := zR) rfl ty_ap_25 (by decide) (by decide) rfl rfl rfl).mono ?_
          rintro u W_ ⟨⟨k1_, k2_, k3_⟩, k4_⟩
          have hs0_ := hG.1.size
          refine ⟨rel_o (by decide) (by decide) (by decide) k2_, ?_, ⟨Wd.heap.size, ?_, ?_, hs0_, k1_⟩⟩
          · show H2 _ _ _ _ _ _ _ true (L_ 5) (L_ 7) (L_ 9) _
            rw [h5_]
            exact lit2 hG k2_ k4_
          · have := hG.2.2.1 rfl; rw [if_pos rfl, if_neg (by decide)] at this; omega
          · have := hV.lt; omega
        refine ⟨fun L_ Wd hl hn hG => ?_, ?_⟩
        ·
          intro u4 q4 u4 q4
          replace hG : H2 true W40 V D (.slice none 0 0) (ts.map encT) [.int .i64 t18.kind, .int .i64 t18.num, .string t18.text, t18.nv, t18.iv] (L_ 4) (L_ 5) (L_ 7) (L_ 9) Wd := hG
          have h7_ := hn 7 (by decide)
          have h9_ := hn 9 (by decide)
          rw [hl, h7_, h9_] at hG
          obtain ⟨B4, e1_, e2_, e3_, e4_⟩ := q4
          have e5_ := e4_.lt
          have hz_ := hG.2.2.1 rfl
          rw [if_pos rfl] at hz_
          have hz2_ : Wd.heap.size = D := by rw [hz_] at e5_ ⊢; split at e5_ <;> split <;> omega
          refine (dx_apF (rs := []) (L := []) rfl ty_ap_25 rfl rfl (RdF.nil (L := []) (by decide)) (e4_.rd (L := []) (by simp)) (by simp) (by simp [maxLen] <;> omega) (by simp <;> omega)).mono ?_
          rintro u W_ ⟨k1_, k2_, k3_⟩
          rw [hz2_] at k1_
          replace k1_ : OwS 5 W_ u ((ts.map encT) ++ [zR]) D := by rw [h0]; exact k1_
          refine ⟨(by unfold rel2; rw [if_pos rfl]; exact k2_), ?_, ⟨zR, k1_⟩⟩
          show H2 _ _ _ _ _ _ _ (L_ 4) true (L_ 7) (L_ 9) _
          rw [h7_, h9_]
          exact app2 hDV hG k2_
        refine ⟨fun L_ Wd hl hn hG => ?_, ?_⟩
        ·
          intro u5 q5 u4 q4 u5 q5
          replace hG : H2 true W40 V D (.slice none 0 0) (ts.map encT) [.int .i64 t18.kind, .int .i64 t18.num, .string t18.text, t18.nv, t18.iv] (L_ 4) (L_ 5) (L_ 7) (L_ 9) Wd := hG
          obtain ⟨r_, h5_⟩ := q5
          exact DV.dr (dx_idxO 0 rfl ty_slice_25 rfl rfl h5_ rfl (by simp [h0]) rfl) ⟨rel_o (by decide) (by decide) (by decide) (Below.refl _ _), hG, rfl⟩
        refine ⟨fun L_ Wd hl hn hG => ?_, ?_⟩
        ·
          intro u5 q5 u4 q4 u5 q5
          replace hG : H2 true W40 V D (.slice none 0 0) (ts.map encT) [.int .i64 t18.kind, .int .i64 t18.num, .string t18.text, t18.nv, t18.iv] (L_ 4) (L_ 5) (L_ 7) (L_ 9) Wd := hG
          have hq_ := q5
          obtain ⟨r_, h5_⟩ := q5
          refine (dx_storeO (k := 0) (r := [.int .i64 t18.kind, .int .i64 t18.num, .string t18.text, t18.nv, t18.iv]) rfl ty_size_27_5 rfl rfl rfl (oC rfl (oC rfl (oC rfl (oC (hw21.1).one (oC (hw21.2.1).one oc_nil))))) h5_ rfl (by simp [h0]) rfl).mono ?_
          rintro _ W_ ⟨k1_, k2_⟩
          replace k1_ : OwS 5 W_ u5 ((ts.map encT) ++ [[.int .i64 t18.kind, .int .i64 t18.num, .string t18.text, t18.nv, t18.iv]]) D := by rw [h0] at k1_ ⊢; exact k1_
          have hs_ : ∀ u r, OwS 5 Wd u ((ts.map encT) ++ [r]) D → OwS 5 W_ u ((ts.map encT) ++ [[.int .i64 t18.kind, .int .i64 t18.num, .string t18.text, t18.nv, t18.iv]]) D := fun u r h => by have e_ := h5_.uniq h (by simp); rw [← e_]; exact k1_
          rw [hl] at hG
          refine ⟨(by unfold rel2; rw [if_neg (by decide), if_pos rfl]; exact ⟨k2_, hs_⟩), ?_, trivial⟩
          show H2 _ _ _ _ _ _ _ (L_ 4) (L_ 5) true (L_ 9) _
          exact row3 (c := 0) hDV (fun h => (by cases h)) hG k2_ hs_ ⟨_, r_, h5_⟩
        refine ⟨fun L_ Wd hl hn hG => ?_, ?_⟩
        ·
          intro u4 q4 u5 q5
          replace hG : H2 true W40 V D (.slice none 0 0) (ts.map encT) [.int .i64 t18.kind, .int .i64 t18.num, .string t18.text, t18.nv, t18.iv] (L_ 4) (L_ 5) (L_ 7) (L_ 9) Wd := hG
          exact DV.dr (dx_fld (o1 := 4) rfl ty_fld_27_4_4 rfl rfl) ⟨rel_o (by decide) (by decide) (by decide) (Below.refl _ _), hG, rfl⟩
        refine ⟨fun L_ Wd hl hn hG => ?_, ?_⟩
        ·
          intro u5 q5 u5 q5 u4 q4 u5 q5
          replace hG : H2 true W40 V D (.slice none 0 0) (ts.map encT) [.int .i64 t18.kind, .int .i64 t18.num, .string t18.text, t18.nv, t18.iv] (L_ 4) (L_ 5) (L_ 7) (L_ 9) Wd := hG
          obtain ⟨r_, h5_⟩ := q5
          rw [hl] at hG
          refine (dx_store (cs' := vC u5) (vs := [u5]) rfl ty_size_25_1 rfl rfl (oc_one h5_.one) (oC h5_.one oc_nil) (hG.2.1 rfl) rfl (nB rfl) rfl).mono ?_
          rintro _ W_ ⟨k1_, k2_⟩
          refine ⟨(by unfold rel2; rw [if_neg (by decide), if_neg (by decide), if_pos rfl]; exact k2_), ?_, trivial⟩
          show H2 _ _ _ _ _ _ _ (L_ 4) (L_ 5) (L_ 7) true _
          exact put3 hDV hG k2_ k1_ h5_
        exact trivial
      ·
        intro We hGe
        obtain ⟨hc, uN, hVe, hOe⟩ := end2 (show H2 true W40 V D (.slice none 0 0) (ts.map encT) [.int .i64 t18.kind, .int .i64 t18.num, .string t18.text, t18.nv, t18.iv] true true true true We from hGe)
        intro u4 q4 u5 q5 _ _ _ _
        have hts_ : ∀ c ∈ ts, RdT (n + 1) (D :: L) We c := fun c hc_ => (by rw [h0] at hc_; cases hc_)
        have ht_ : RdT (n + 1) (D :: L) We t18 := ((hw21.less (fun x hx => .tail _ hx)).more (Below.refl _ _) (show W40.heap.size ≤ D by omega)).inner hc hVL
        replace hp31 := hp31.chgV hc hp31.lt hVP.symm (by have := hp31.lt; omega)
        replace hBp := hBp.chgV hc hBp.lt hBV (by have := hBp.lt; omega)
        replace hB := hB.inner hc (Nat.le_trans hbw hB.size) hbD
        refine Ni (hK43 (Sq fun K44 hK44 => (Rg (Pu rfl (Pu rfl (Ni (hK44 ?_)))))))
        exact WC.ret fun a_ ha_ => hQ (cx_ret1 rfl (.tmp rfl) (.inl ⟨k16, ts.map Tr.er ++ [t18.er], rfl, (by unfold oneL; rw [hw20]), by omega, by omega, (by rw [List.length_append, List.length_map]; show ts.length + 1 ≤ _; omega), ⟨uN, ts ++ [t18], by simp, hBp, hVe, hI0, .inr ⟨D, hbD, (by rw [List.map_append]; exact hOe), fun c hc_ => (by rcases List.mem_append.1 hc_ with h_ | h_; exact hts_ c h_; (rw [List.mem_singleton.1 h_]; exact ht_))⟩⟩, hp31⟩) hB ha_)
    ·
      replace hV := hV.chg g29 hVP
      replace hB := hB.chg g29 (Nat.le_trans hbw hB.size)
      refine Pu rfl (Pu rfl (Pu rfl ?_))
      refine Ge (dx_alloc rfl ty_zero_27 rfl) rfl rfl ?_
      rintro _ W45 ⟨rfl, k46, b47, z48⟩
      have n49 : P ≠ W30.heap.size := Nat.ne_of_lt hp31.lt
      have n51 : V ≠ W30.heap.size := Nat.ne_of_lt hV.lt
      have l52 := hB.size
      replace hp31 := hp31.below b47
      replace hV := hV.below b47
      replace hB := hB.both (.of_below (b47.mono (Nat.le_trans hbw hB.size)))
      refine WL.do (dx_store (cs' := zV) (vs := zV) rfl ty_size_27_5 rfl rfl rfl o5 k46 rfl (nB rfl) rfl) rfl ?_
      rintro _ W53 ⟨k55, o54⟩
      replace hp31 := hp31.other o54 n49
      replace hV := hV.other o54 n51
      clear k46
      replace hB := hB.both (.of_only o54 (.inr (.inr (Nat.le_trans hbw l52))))
      refine Pu rfl (Ni (hK2 (Sq fun K56 hK56 => ?_)))
      have hsW := hB.size
      obtain ⟨D, hD⟩ : ∃ D, D = W53.heap.size + 1 := ⟨_, rfl⟩
      have hDV : D ≠ V := by have := hV.lt; omega
      have hbD : b ≤ D := by omega
      refine WC.drawL (fun L_ W_ => H2 true W53 V D (.slice none 0 0) (ts.map encT) [.int .i64 0, .int .i64 0, .string ⟨#[]⟩, .slice none 0 0, .slice none 0 0] (L_ 4) (L_ 5) (L_ 7) (L_ 9) W_) 10 (rel2 true V D (ts.map encT) [.int .i64 0, .int .i64 0, .string ⟨#[]⟩, .slice none 0 0, .slice none 0 0]) (sd2 W53 V D 0 (.slice none 0 0) (ts.map encT) [.int .i64 0, .int .i64 0, .string ⟨#[]⟩, .slice none 0 0, .slice none 0 0]) [[], [0], [], [1], [], [1, 4, 0, 1, 2, 3, 4], [5, 3, 0, 1, 2, 3, 4, 5], [6, 2, 5, 0, 1, 2, 3, 4, 5], [0, 1, 2, 3, 4, 5], [8, 5, 5, 0, 1, 2, 3, 4, 5]] (by kernel_rfl) (by kernel_rfl) (by kernel_rfl) (by kernel_rfl) (by kernel_rfl) (by kernel_rfl) (by kernel_rfl) (begin2 hV (fun h => by cases h)) (mono2 hDV) ?_ ?_
      ·
        refine ⟨fun L_ Wd hl hn hG => ?_, ?_⟩
        ·
          replace hG : H2 true W53 V D (.slice none 0 0) (ts.map encT) [.int .i64 0, .int .i64 0, .string ⟨#[]⟩, .slice none 0 0, .slice none 0 0] (L_ 4) (L_ 5) (L_ 7) (L_ 9) Wd := hG
          exact DV.dr (dx_fld (o1 := 4) rfl ty_fld_27_4_4 rfl rfl) ⟨rel_o (by decide) (by decide) (by decide) (Below.refl _ _), hG, rfl⟩
        refine ⟨fun L_ Wd hl hn hG => ?_, ?_⟩
        ·
          replace hG : H2 true W53 V D (.slice none 0 0) (ts.map encT) [.int .i64 0, .int .i64 0, .string ⟨#[]⟩, .slice none 0 0, .slice none 0 0] (L_ 4) (L_ 5) (L_ 7) (L_ 9) Wd := hG
          exact DV.dr (dx_load rfl ty_one_25 rfl ((hG.2.1 (hn 9 (by decide))).cell (k := 4) rfl)) ⟨rel_o (by decide) (by decide) (by decide) (Below.refl _ _), hG, rfl⟩
        refine ⟨fun L_ Wd hl hn hG => ?_, ?_⟩
        ·
          replace hG : H2 true W53 V D (.slice none 0 0) (ts.map encT) [.int .i64 0, .int .i64 0, .string ⟨#[]⟩, .slice none 0 0, .slice none 0 0] (L_ 4) (L_ 5) (L_ 7) (L_ 9) Wd := hG
          exact DV.dr (dx_loadN (cs := zV) rfl ty_agg_27_5 rfl (k55.chgV hG.1 k55.lt n51.symm (by have := k55.lt; omega)).range rfl) ⟨rel_o (by decide) (by decide) (by decide) (Below.refl _ _), hG, rfl⟩
        refine ⟨fun L_ Wd hl hn hG => ?_, ?_⟩
        ·
          replace hG : H2 true W53 V D (.slice none 0 0) (ts.map encT) [.int .i64 0, .int .i64 0, .string ⟨#[]⟩, .slice none 0 0, .slice none 0 0] (L_ 4) (L_ 5) (L_ 7) (L_ 9) Wd := hG
          exact DV.dr (dx_len rfl Tryz.underlying25 rfl) ⟨rel_o (by decide) (by decide) (by decide) (Below.refl _ _), hG, rfl⟩
        refine ⟨fun L_ Wd hl hn hG => ?_, ?_⟩
        ·
          replace hG : H2 true W53 V D (.slice none 0 0) (ts.map encT) [.int .i64 0, .int .i64 0, .string ⟨#[]⟩, .slice none 0 0, .slice none 0 0] (L_ 4) (L_ 5) (L_ 7) (L_ 9) Wd := hG
          have h5_ := hn 5 (by decide)
          rw [hl, h5_] at hG
          refine (dx_lit1X (r := zR) rfl ty_ap_25 (by decide) (by decide) rfl rfl rfl).mono ?_
          rintro u W_ ⟨⟨k1_, k2_, k3_⟩, k4_⟩
          have hs0_ := hG.1.size
          refine ⟨rel_o (by decide) (by decide) (by decide) k2_, ?_, ⟨Wd.heap.size, ?_, ?_, hs0_, k1_⟩⟩
          · show H2 _ _ _ _ _ _ _ true (L_ 5) (L_ 7) (L_ 9) _
            rw [h5_]
            exact lit2 hG k2_ k4_
          · have := hG.2.2.1 rfl; rw [if_pos rfl, if_neg (by decide)] at this; omega
          · have := hV.lt; omega
        refine ⟨fun L_ Wd hl hn hG => ?_, ?_⟩
        ·
          intro u4 q4 u4 q4
          replace hG : H2 true W53 V D (.slice none 0 0) (ts.map encT) [.int .i64 0, .int .i64 0, .string ⟨#[]⟩, .slice none 0 0, .slice none 0 0] (L_ 4) (L_ 5) (L_ 7) (L_ 9) Wd := hG
          have h7_ := hn 7 (by decide)
          have h9_ := hn 9 (by decide)
          rw [hl, h7_, h9_] at hG
          obtain ⟨B4, e1_, e2_, e3_, e4_⟩ := q4
          have e5_ := e4_.lt
          have hz_ := hG.2.2.1 rfl
          rw [if_pos rfl] at hz_
          have hz2_ : Wd.heap.size = D := by rw [hz_] at e5_ ⊢; split at e5_ <;> split <;> omega
          refine (dx_apF (rs := []) (L := []) rfl ty_ap_25 rfl rfl (RdF.nil (L := []) (by decide)) (e4_.rd (L := []) (by simp)) (by simp) (by simp [maxLen] <;> omega) (by simp <;> omega)).mono ?_
          rintro u W_ ⟨k1_, k2_, k3_⟩
          rw [hz2_] at k1_
          replace k1_ : OwS 5 W_ u ((ts.map encT) ++ [zR]) D := by rw [h0]; exact k1_
          refine ⟨(by unfold rel2; rw [if_pos rfl]; exact k2_), ?_, ⟨zR, k1_⟩⟩
          show H2 _ _ _ _ _ _ _ (L_ 4) true (L_ 7) (L_ 9) _
          rw [h7_, h9_]
          exact app2 hDV hG k2_
        refine ⟨fun L_ Wd hl hn hG => ?_, ?_⟩
        ·
          intro u5 q5 u4 q4 u5 q5
          replace hG : H2 true W53 V D (.slice none 0 0) (ts.map encT) [.int .i64 0, .int .i64 0, .string ⟨#[]⟩, .slice none 0 0, .slice none 0 0] (L_ 4) (L_ 5) (L_ 7) (L_ 9) Wd := hG
          obtain ⟨r_, h5_⟩ := q5
          exact DV.dr (dx_idxO 0 rfl ty_slice_25 rfl rfl h5_ rfl (by simp [h0]) rfl) ⟨rel_o (by decide) (by decide) (by decide) (Below.refl _ _), hG, rfl⟩
        refine ⟨fun L_ Wd hl hn hG => ?_, ?_⟩
        ·
          intro u5 q5 u4 q4 u5 q5
          replace hG : H2 true W53 V D (.slice none 0 0) (ts.map encT) [.int .i64 0, .int .i64 0, .string ⟨#[]⟩, .slice none 0 0, .slice none 0 0] (L_ 4) (L_ 5) (L_ 7) (L_ 9) Wd := hG
          have hq_ := q5
          obtain ⟨r_, h5_⟩ := q5
          refine (dx_storeO (k := 0) (r := [.int .i64 0, .int .i64 0, .string ⟨#[]⟩, .slice none 0 0, .slice none 0 0]) rfl ty_size_27_5 rfl rfl rfl o5 h5_ rfl (by simp [h0]) rfl).mono ?_
          rintro _ W_ ⟨k1_, k2_⟩
          replace k1_ : OwS 5 W_ u5 ((ts.map encT) ++ [[.int .i64 0, .int .i64 0, .string ⟨#[]⟩, .slice none 0 0, .slice none 0 0]]) D := by rw [h0] at k1_ ⊢; exact k1_
          have hs_ : ∀ u r, OwS 5 Wd u ((ts.map encT) ++ [r]) D → OwS 5 W_ u ((ts.map encT) ++ [[.int .i64 0, .int .i64 0, .string ⟨#[]⟩, .slice none 0 0, .slice none 0 0]]) D := fun u r h => by have e_ := h5_.uniq h (by simp); rw [← e_]; exact k1_
          rw [hl] at hG
          refine ⟨(by unfold rel2; rw [if_neg (by decide), if_pos rfl]; exact ⟨k2_, hs_⟩), ?_, trivial⟩
          show H2 _ _ _ _ _ _ _ (L_ 4) (L_ 5) true (L_ 9) _
          exact row3 (c := 0) hDV (fun h => (by cases h)) hG k2_ hs_ ⟨_, r_, h5_⟩
        refine ⟨fun L_ Wd hl hn hG => ?_, ?_⟩
        ·
          intro u4 q4 u5 q5
          replace hG : H2 true W53 V D (.slice none 0 0) (ts.map encT) [.int .i64 0, .int .i64 0, .string ⟨#[]⟩, .slice none 0 0, .slice none 0 0] (L_ 4) (L_ 5) (L_ 7) (L_ 9) Wd := hG
          exact DV.dr (dx_fld (o1 := 4) rfl ty_fld_27_4_4 rfl rfl) ⟨rel_o (by decide) (by decide) (by decide) (Below.refl _ _), hG, rfl⟩
        refine ⟨fun L_ Wd hl hn hG => ?_, ?_⟩
        ·
          intro u5 q5 u5 q5 u4 q4 u5 q5
          replace hG : H2 true W53 V D (.slice none 0 0) (ts.map encT) [.int .i64 0, .int .i64 0, .string ⟨#[]⟩, .slice none 0 0, .slice none 0 0] (L_ 4) (L_ 5) (L_ 7) (L_ 9) Wd := hG
          obtain ⟨r_, h5_⟩ := q5
          rw [hl] at hG
          refine (dx_store (cs' := vC u5) (vs := [u5]) rfl ty_size_25_1 rfl rfl (oc_one h5_.one) (oC h5_.one oc_nil) (hG.2.1 rfl) rfl (nB rfl) rfl).mono ?_
          rintro _ W_ ⟨k1_, k2_⟩
          refine ⟨(by unfold rel2; rw [if_neg (by decide), if_neg (by decide), if_pos rfl]; exact k2_), ?_, trivial⟩
          show H2 _ _ _ _ _ _ _ (L_ 4) (L_ 5) (L_ 7) true _
          exact put3 hDV hG k2_ k1_ h5_
        exact trivial
      ·
        intro We hGe
        obtain ⟨hc, uN, hVe, hOe⟩ := end2 (show H2 true W53 V D (.slice none 0 0) (ts.map encT) [.int .i64 0, .int .i64 0, .string ⟨#[]⟩, .slice none 0 0, .slice none 0 0] true true true true We from hGe)
        intro u4 q4 u5 q5 _ _ _ _
        have hts_ : ∀ c ∈ ts, RdT (n + 1) (D :: L) We c := fun c hc_ => (by rw [h0] at hc_; cases hc_)
        replace hp31 := hp31.chgV hc hp31.lt hVP.symm (by have := hp31.lt; omega)
        replace hB := hB.inner hc (Nat.le_trans hbw hB.size) hbD
        refine Ni (hK56 (Sq fun K57 hK57 => (Rg (Pu rfl (Pu rfl (Ni (hK57 ?_)))))))
        exact WC.ret fun a_ ha_ => hQ (cx_ret1 rfl (.tmp rfl) (.inr ⟨k17, e19, rfl, hw24, (by unfold oneL; rw [hw25]), by omega, ⟨vC uN, rfl, (oC rfl (oC rfl (oC rfl (oC rfl (oC hOe.one oc_nil))))), hVe⟩, hp31⟩) hB ha_)
  have hB0P : B0 ≠ P := by have := hLb P hPL; omega
  have hB0V : B0 ≠ V := by have := hLb V hVL; omega
  have hB0Bp : B0 ≠ Bp := by have := hLb Bp hBL; omega
  replace hL := LL.cons hL hO.lt
  replace hts : RdTs (n + 1) (B0 :: L) w ts := hts
  obtain ⟨q0, q1, cap, sp, rfl, q2, q3, q4, q5⟩ := id hO
  by_cases hroom : (ts.map encT).length + 1 ≤ cap
  ·
    refine cx_enter (N := 19) (f := [(0, .pointer (some ⟨Bp, 0, none⟩)), (1, .pointer (some ⟨V, 0, none⟩))]) Tryz.func54 rfl rfl rfl rfl fun Q hQ hE_ => ?_
    have hB := ChgV.refl b P V w
    refine Sq fun K1 hK1 => (Rg (Pu rfl (Ni (hK1 (Sq fun K2 hK2 => (Rg (Va (dx_load rfl ty_one_35 rfl (hBp.cell (k := 0) rfl)) rfl rfl ?_)))))))
    refine Ge (dx_cw rfl Tryz.func13 rfl rfl rfl (hv P ka w _ hL (.tail _ hPL) (by omega) hp)) rfl rfl ?_
    rintro _ W30 ⟨(⟨k16, t18, rfl, hw20, hw21, hw22, hw23, hp31⟩ | ⟨k17, e19, rfl, hw24, hw25, hw26, hp31⟩), g29⟩
    ·
      replace hts := hts.chgL g29 (.tail _ hPL)
      replace hBp := hBp.chg g29 hBP
      replace hV := hV.chg g29 hVP
      replace hO := hO.chgL g29 hB0P
      replace hB := hB.chg g29 (Nat.le_trans hbw hB.size)
      refine Pu rfl (Pu rfl (Pu rfl ?_))
      refine Ge (dx_alloc rfl ty_zero_27 rfl) rfl rfl ?_
      rintro _ W32 ⟨rfl, k33, b34, z35⟩
      have n36 : P ≠ W30.heap.size := Nat.ne_of_lt hp31.lt
      have n37 : Bp ≠ W30.heap.size := Nat.ne_of_lt hBp.lt
      have n38 : V ≠ W30.heap.size := Nat.ne_of_lt hV.lt
      have n39 : B0 ≠ W30.heap.size := Nat.ne_of_lt hO.lt
      have l40 := hB.size
      replace hts := hts.more b34 (Nat.le_refl _)
      replace hw21 := hw21.more b34 (Nat.le_refl _)
      replace hp31 := hp31.below b34
      replace hBp := hBp.below b34
      replace hV := hV.below b34
      replace hO := hO.below b34
      replace hB := hB.both (.of_below (b34.mono (Nat.le_trans hbw hB.size)))
      refine WL.do (dx_store (cs' := [.int .i64 t18.kind, .int .i64 t18.num, .string t18.text, t18.nv, t18.iv]) (vs := [.int .i64 t18.kind, .int .i64 t18.num, .string t18.text, t18.nv, t18.iv]) rfl ty_size_27_5 rfl rfl rfl (oC rfl (oC rfl (oC rfl (oC (hw21.1).one (oC (hw21.2.1).one oc_nil))))) k33 rfl (nB rfl) rfl) rfl ?_
      rintro _ W41 ⟨k43, o42⟩
      replace hp31 := hp31.other o42 n36
      replace hBp := hBp.other o42 n37
      replace hV := hV.other o42 n38
      replace hO := hO.other o42 n39
      clear k33
      replace hts := hts.only o42 (.head _)
      replace hw21 := hw21.only o42 (.head _)
      replace hB := hB.both (.of_only o42 (.inr (.inr (Nat.le_trans hbw l40))))
      refine Pu rfl (Ni (hK2 (Sq fun K44 hK44 => ?_)))
      have hsW := hB.size
      have hDV := hB0V
      have hbD := hbB
      refine WC.drawL (fun L_ W_ => H2 false W41 V B0 (.slice (some ⟨B0, 0, none⟩) (ts.map encT).length cap) (ts.map encT) [.int .i64 t18.kind, .int .i64 t18.num, .string t18.text, t18.nv, t18.iv] (L_ 4) (L_ 5) (L_ 7) (L_ 9) W_) 10 (rel2 false V B0 (ts.map encT) [.int .i64 t18.kind, .int .i64 t18.num, .string t18.text, t18.nv, t18.iv]) (sd2 W41 V B0 (ts.map encT).length (.slice (some ⟨B0, 0, none⟩) (ts.map encT).length cap) (ts.map encT) [.int .i64 t18.kind, .int .i64 t18.num, .string t18.text, t18.nv, t18.iv]) [[], [0], [], [1], [], [1, 4, 0, 1, 2, 3, 4], [5, 3, 0, 1, 2, 3, 4, 5], [6, 2, 5, 0, 1, 2, 3, 4, 5], [0, 1, 2, 3, 4, 5], [8, 5, 5, 0, 1, 2, 3, 4, 5]] (by kernel_rfl) (by kernel_rfl) (by kernel_rfl) (by kernel_rfl) (by kernel_rfl) (by kernel_rfl) (by kernel_rfl) (begin2 hV (fun _ => hO)) (mono2 hDV) ?_ ?_
      ·
        refine ⟨fun L_ Wd hl hn hG => ?_, ?_⟩
        ·
          replace hG : H2 false W41 V B0 (.slice (some ⟨B0, 0, none⟩) (ts.map encT).length cap) (ts.map encT) [.int .i64 t18.kind, .int .i64 t18.num, .string t18.text, t18.nv, t18.iv] (L_ 4) (L_ 5) (L_ 7) (L_ 9) Wd := hG
          exact DV.dr (dx_fld (o1 := 4) rfl ty_fld_27_4_4 rfl rfl) ⟨rel_o (by decide) (by decide) (by decide) (Below.refl _ _), hG, rfl⟩
        refine ⟨fun L_ Wd hl hn hG => ?_, ?_⟩
        ·
          replace hG : H2 false W41 V B0 (.slice (some ⟨B0, 0, none⟩) (ts.map encT).length cap) (ts.map encT) [.int .i64 t18.kind, .int .i64 t18.num, .string t18.text, t18.nv, t18.iv] (L_ 4) (L_ 5) (L_ 7) (L_ 9) Wd := hG
          exact DV.dr (dx_load rfl ty_one_25 rfl ((hG.2.1 (hn 9 (by decide))).cell (k := 4) rfl)) ⟨rel_o (by decide) (by decide) (by decide) (Below.refl _ _), hG, rfl⟩
        refine ⟨fun L_ Wd hl hn hG => ?_, ?_⟩
        ·
          replace hG : H2 false W41 V B0 (.slice (some ⟨B0, 0, none⟩) (ts.map encT).length cap) (ts.map encT) [.int .i64 t18.kind, .int .i64 t18.num, .string t18.text, t18.nv, t18.iv] (L_ 4) (L_ 5) (L_ 7) (L_ 9) Wd := hG
          exact DV.dr (dx_loadN (cs := [.int .i64 t18.kind, .int .i64 t18.num, .string t18.text, t18.nv, t18.iv]) rfl ty_agg_27_5 rfl (k43.chgV hG.1 k43.lt n38.symm (by have := k43.lt; exact n39.symm)).range rfl) ⟨rel_o (by decide) (by decide) (by decide) (Below.refl _ _), hG, rfl⟩
        refine ⟨fun L_ Wd hl hn hG => ?_, ?_⟩
        ·
          replace hG : H2 false W41 V B0 (.slice (some ⟨B0, 0, none⟩) (ts.map encT).length cap) (ts.map encT) [.int .i64 t18.kind, .int .i64 t18.num, .string t18.text, t18.nv, t18.iv] (L_ 4) (L_ 5) (L_ 7) (L_ 9) Wd := hG
          exact DV.dr (dx_len rfl Tryz.underlying25 rfl) ⟨rel_o (by decide) (by decide) (by decide) (Below.refl _ _), hG, rfl⟩
        refine ⟨fun L_ Wd hl hn hG => ?_, ?_⟩
        ·
          replace hG : H2 false W41 V B0 (.slice (some ⟨B0, 0, none⟩) (ts.map encT).length cap) (ts.map encT) [.int .i64 t18.kind, .int .i64 t18.num, .string t18.text, t18.nv, t18.iv] (L_ 4) (L_ 5) (L_ 7) (L_ 9) Wd := hG
          have h5_ := hn 5 (by decide)
          rw [hl, h5_] at hG
          refine (dx_lit1X (r := zR) rfl ty_ap_25 (by decide) (by decide) rfl rfl rfl).mono ?_
          rintro u W_ ⟨⟨k1_, k2_, k3_⟩, k4_⟩
          have hs0_ := hG.1.size
          refine ⟨rel_o (by decide) (by decide) (by decide) k2_, ?_, ⟨Wd.heap.size, ?_, ?_, hs0_, k1_⟩⟩
          · show H2 _ _ _ _ _ _ _ true (L_ 5) (L_ 7) (L_ 9) _
            rw [h5_]
            exact lit2 hG k2_ k4_
          · have := hG.2.2.1 rfl; rw [if_neg (by decide)] at this; exact Nat.ne_of_gt this.lt
          · have := hV.lt; omega
        refine ⟨fun L_ Wd hl hn hG => ?_, ?_⟩
        ·
          intro u4 q4 u4 q4
          replace hG : H2 false W41 V B0 (.slice (some ⟨B0, 0, none⟩) (ts.map encT).length cap) (ts.map encT) [.int .i64 t18.kind, .int .i64 t18.num, .string t18.text, t18.nv, t18.iv] (L_ 4) (L_ 5) (L_ 7) (L_ 9) Wd := hG
          have h7_ := hn 7 (by decide)
          have h9_ := hn 9 (by decide)
          rw [hl, h7_, h9_] at hG
          obtain ⟨B4, e1_, e2_, e3_, e4_⟩ := q4
          have e5_ := e4_.lt
          have hO_ := hG.2.2.1 rfl
          rw [if_neg (by decide)] at hO_
          refine (dx_apRoom rfl ty_ap_25 rfl rfl hO_ (e4_.rd (L := []) (by simp)) (by simp) (oc_lit zR o5) (by simpa using hroom)).mono ?_
          rintro u W_ ⟨-, k1_, k2_⟩
          refine ⟨(by unfold rel2; rw [if_pos rfl]; exact k2_), ?_, ⟨zR, k1_⟩⟩
          show H2 _ _ _ _ _ _ _ (L_ 4) true (L_ 7) (L_ 9) _
          rw [h7_, h9_]
          exact app2 hDV hG k2_
        refine ⟨fun L_ Wd hl hn hG => ?_, ?_⟩
        ·
          intro u5 q5 u4 q4 u5 q5
          replace hG : H2 false W41 V B0 (.slice (some ⟨B0, 0, none⟩) (ts.map encT).length cap) (ts.map encT) [.int .i64 t18.kind, .int .i64 t18.num, .string t18.text, t18.nv, t18.iv] (L_ 4) (L_ 5) (L_ 7) (L_ 9) Wd := hG
          obtain ⟨r_, h5_⟩ := q5
          exact DV.dr (dx_idxO (ts.map encT).length rfl ty_slice_25 rfl rfl h5_ rfl (by simp) rfl) ⟨rel_o (by decide) (by decide) (by decide) (Below.refl _ _), hG, rfl⟩
        refine ⟨fun L_ Wd hl hn hG => ?_, ?_⟩
        ·
          intro u5 q5 u4 q4 u5 q5
          replace hG : H2 false W41 V B0 (.slice (some ⟨B0, 0, none⟩) (ts.map encT).length cap) (ts.map encT) [.int .i64 t18.kind, .int .i64 t18.num, .string t18.text, t18.nv, t18.iv] (L_ 4) (L_ 5) (L_ 7) (L_ 9) Wd := hG
          have hq_ := q5
          obtain ⟨r_, h5_⟩ := q5
          refine (dx_storeO (k := (ts.map encT).length) (r := [.int .i64 t18.kind, .int .i64 t18.num, .string t18.text, t18.nv, t18.iv]) rfl ty_size_27_5 rfl rfl rfl (oC rfl (oC rfl (oC rfl (oC (hw21.1).one (oC (hw21.2.1).one oc_nil))))) h5_ rfl (by simp) rfl).mono ?_
          rintro _ W_ ⟨k1_, k2_⟩
          rw [show ((ts.map encT) ++ [r_]).set (ts.map encT).length [.int .i64 t18.kind, .int .i64 t18.num, .string t18.text, t18.nv, t18.iv] = (ts.map encT) ++ [[.int .i64 t18.kind, .int .i64 t18.num, .string t18.text, t18.nv, t18.iv]] from set_last] at k1_
          have hs_ : ∀ u r, OwS 5 Wd u ((ts.map encT) ++ [r]) B0 → OwS 5 W_ u ((ts.map encT) ++ [[.int .i64 t18.kind, .int .i64 t18.num, .string t18.text, t18.nv, t18.iv]]) B0 := fun u r h => by have e_ := h5_.uniq h (by simp); rw [← e_]; exact k1_
          rw [hl] at hG
          refine ⟨(by unfold rel2; rw [if_neg (by decide), if_pos rfl]; exact ⟨k2_, hs_⟩), ?_, trivial⟩
          show H2 _ _ _ _ _ _ _ (L_ 4) (L_ 5) true (L_ 9) _
          exact row3 (c := cap) hDV (fun h => rfl) hG k2_ hs_ ⟨_, r_, h5_⟩
        refine ⟨fun L_ Wd hl hn hG => ?_, ?_⟩
        ·
          intro u4 q4 u5 q5
          replace hG : H2 false W41 V B0 (.slice (some ⟨B0, 0, none⟩) (ts.map encT).length cap) (ts.map encT) [.int .i64 t18.kind, .int .i64 t18.num, .string t18.text, t18.nv, t18.iv] (L_ 4) (L_ 5) (L_ 7) (L_ 9) Wd := hG
          exact DV.dr (dx_fld (o1 := 4) rfl ty_fld_27_4_4 rfl rfl) ⟨rel_o (by decide) (by decide) (by decide) (Below.refl _ _), hG, rfl⟩
        refine ⟨fun L_ Wd hl hn hG => ?_, ?_⟩
        ·
          intro u5 q5 u5 q5 u4 q4 u5 q5
          replace hG : H2 false W41 V B0 (.slice (some ⟨B0, 0, none⟩) (ts.map encT).length cap) (ts.map encT) [.int .i64 t18.kind, .int .i64 t18.num, .string t18.text, t18.nv, t18.iv] (L_ 4) (L_ 5) (L_ 7) (L_ 9) Wd := hG
          obtain ⟨r_, h5_⟩ := q5
          rw [hl] at hG
          refine (dx_store (cs' := vC u5) (vs := [u5]) rfl ty_size_25_1 rfl rfl (oc_one h5_.one) (oC h5_.one oc_nil) (hG.2.1 rfl) rfl (nB rfl) rfl).mono ?_
          rintro _ W_ ⟨k1_, k2_⟩
          refine ⟨(by unfold rel2; rw [if_neg (by decide), if_neg (by decide), if_pos rfl]; exact k2_), ?_, trivial⟩
          show H2 _ _ _ _ _ _ _ (L_ 4) (L_ 5) (L_ 7) true _
          exact put3 hDV hG k2_ k1_ h5_
        exact trivial
      ·
        intro We hGe
        obtain ⟨hc, uN, hVe, hOe⟩ := end2 (show H2 false W41 V B0 (.slice (some ⟨B0, 0, none⟩) (ts.map encT).length cap) (ts.map encT) [.int .i64 t18.kind, .int .i64 t18.num, .string t18.text, t18.nv, t18.iv] true true true true We from hGe)
        intro u4 q4 u5 q5 _ _ _ _
        have hts_ : ∀ c ∈ ts, RdT (n + 1) (B0 :: L) We c := fun c hc_ => ((hts c hc_).less (fun x hx => .tail _ hx)).inner hc hVL
        have ht_ : RdT (n + 1) (B0 :: L) We t18 := (hw21.less (fun x hx => .tail _ hx)).inner hc hVL
        replace hp31 := hp31.chgV hc hp31.lt hVP.symm hB0P.symm
        replace hBp := hBp.chgV hc hBp.lt hBV hB0Bp.symm
        replace hB := hB.inner hc (Nat.le_trans hbw hB.size) hbD
        refine Ni (hK44 (Sq fun K45 hK45 => (Rg (Pu rfl (Pu rfl (Ni (hK45 ?_)))))))
        exact WC.ret fun a_ ha_ => hQ (cx_ret1 rfl (.tmp rfl) (.inl ⟨k16, ts.map Tr.er ++ [t18.er], rfl, (by unfold oneL; rw [hw20]), by omega, by omega, (by rw [List.length_append, List.length_map]; show ts.length + 1 ≤ _; omega), ⟨uN, ts ++ [t18], by simp, hBp, hVe, hI0, .inr ⟨B0, hbD, (by rw [List.map_append]; exact hOe), fun c hc_ => (by rcases List.mem_append.1 hc_ with h_ | h_; exact hts_ c h_; (rw [List.mem_singleton.1 h_]; exact ht_))⟩⟩, hp31⟩) hB ha_)
    ·
      replace hts := hts.chgL g29 (.tail _ hPL)
      replace hV := hV.chg g29 hVP
      replace hO := hO.chgL g29 hB0P
      replace hB := hB.chg g29 (Nat.le_trans hbw hB.size)
      refine Pu rfl (Pu rfl (Pu rfl ?_))
      refine Ge (dx_alloc rfl ty_zero_27 rfl) rfl rfl ?_
      rintro _ W46 ⟨rfl, k47, b48, z49⟩
      have n50 : P ≠ W30.heap.size := Nat.ne_of_lt hp31.lt
      have n52 : V ≠ W30.heap.size := Nat.ne_of_lt hV.lt
      have n53 : B0 ≠ W30.heap.size := Nat.ne_of_lt hO.lt
      have l54 := hB.size
      replace hts := hts.more b48 (Nat.le_refl _)
      replace hp31 := hp31.below b48
      replace hV := hV.below b48
      replace hO := hO.below b48
      replace hB := hB.both (.of_below (b48.mono (Nat.le_trans hbw hB.size)))
      refine WL.do (dx_store (cs' := zV) (vs := zV) rfl ty_size_27_5 rfl rfl rfl o5 k47 rfl (nB rfl) rfl) rfl ?_
      rintro _ W55 ⟨k57, o56⟩
      replace hp31 := hp31.other o56 n50
      replace hV := hV.other o56 n52
      replace hO := hO.other o56 n53
      clear k47
      replace hts := hts.only o56 (.head _)
      replace hB := hB.both (.of_only o56 (.inr (.inr (Nat.le_trans hbw l54))))
      refine Pu rfl (Ni (hK2 (Sq fun K58 hK58 => ?_)))
      have hsW := hB.size
      have hDV := hB0V
      have hbD := hbB
      refine WC.drawL (fun L_ W_ => H2 false W55 V B0 (.slice (some ⟨B0, 0, none⟩) (ts.map encT).length cap) (ts.map encT) [.int .i64 0, .int .i64 0, .string ⟨#[]⟩, .slice none 0 0, .slice none 0 0] (L_ 4) (L_ 5) (L_ 7) (L_ 9) W_) 10 (rel2 false V B0 (ts.map encT) [.int .i64 0, .int .i64 0, .string ⟨#[]⟩, .slice none 0 0, .slice none 0 0]) (sd2 W55 V B0 (ts.map encT).length (.slice (some ⟨B0, 0, none⟩) (ts.map encT).length cap) (ts.map encT) [.int .i64 0, .int .i64 0, .string ⟨#[]⟩, .slice none 0 0, .slice none 0 0]) [[], [0], [], [1], [], [1, 4, 0, 1, 2, 3, 4], [5, 3, 0, 1, 2, 3, 4, 5], [6, 2, 5, 0, 1, 2, 3, 4, 5], [0, 1, 2, 3, 4, 5], [8, 5, 5, 0, 1, 2, 3, 4, 5]] (by kernel_rfl) (by kernel_rfl) (by kernel_rfl) (by kernel_rfl) (by kernel_rfl) (by kernel_rfl) (by kernel_rfl) (begin2 hV (fun _ => hO)) (mono2 hDV) ?_ ?_
      ·
        refine ⟨fun L_ Wd hl hn hG => ?_, ?_⟩
        ·
          replace hG : H2 false W55 V B0 (.slice (some ⟨B0, 0, none⟩) (ts.map encT).length cap) (ts.map encT) [.int .i64 0, .int .i64 0, .string ⟨#[]⟩, .slice none 0 0, .slice none 0 0] (L_ 4) (L_ 5) (L_ 7) (L_ 9) Wd := hG
          exact DV.dr (dx_fld (o1 := 4) rfl ty_fld_27_4_4 rfl rfl) ⟨rel_o (by decide) (by decide) (by decide) (Below.refl _ _), hG, rfl⟩
        refine ⟨fun L_ Wd hl hn hG => ?_, ?_⟩
        ·
          replace hG : H2 false W55 V B0 (.slice (some ⟨B0, 0, none⟩) (ts.map encT).length cap) (ts.map encT) [.int .i64 0, .int .i64 0, .string ⟨#[]⟩, .slice none 0 0, .slice none 0 0] (L_ 4) (L_ 5) (L_ 7) (L_ 9) Wd := hG
          exact DV.dr (dx_load rfl ty_one_25 rfl ((hG.2.1 (hn 9 (by decide))).cell (k := 4) rfl)) ⟨rel_o (by decide) (by decide) (by decide) (Below.refl _ _), hG, rfl⟩
        refine ⟨fun L_ Wd hl hn hG => ?_, ?_⟩
        ·
          replace hG : H2 false W55 V B0 (.slice (some ⟨B0, 0, none⟩) (ts.map encT).length cap) (ts.map encT) [.int .i64 0, .int .i64 0, .string ⟨#[]⟩, .slice none 0 0, .slice none 0 0] (L_ 4) (L_ 5) (L_ 7) (L_ 9) Wd := hG
          exact DV.dr (dx_loadN (cs := zV) rfl ty_agg_27_5 rfl (k57.chgV hG.1 k57.lt n52.symm (by have := k57.lt; exact n53.symm)).range rfl) ⟨rel_o (by decide) (by decide) (by decide) (Below.refl _ _), hG, rfl⟩
        refine ⟨fun L_ Wd hl hn hG => ?_, ?_⟩
        ·
          replace hG : H2 false W55 V B0 (.slice (some ⟨B0, 0, none⟩) (ts.map encT).length cap) (ts.map encT) [.int .i64 0, .int .i64 0, .string ⟨#[]⟩, .slice none 0 0, .slice none 0 0] (L_ 4) (L_ 5) (L_ 7) (L_ 9) Wd := hG
          exact DV.dr (dx_len rfl Tryz.underlying25 rfl) ⟨rel_o (by decide) (by decide) (by decide) (Below.refl _ _), hG, rfl⟩
        refine ⟨fun L_ Wd hl hn hG => ?_, ?_⟩
        ·
          replace hG : H2 false W55 V B0 (.slice (some ⟨B0, 0, none⟩) (ts.map encT).length cap) (ts.map encT) [.int .i64 0, .int .i64 0, .string ⟨#[]⟩, .slice none 0 0, .slice none 0 0] (L_ 4) (L_ 5) (L_ 7) (L_ 9) Wd := hG
          have h5_ := hn 5 (by decide)
          rw [hl, h5_] at hG
          refine (dx_lit1X (r := zR) rfl ty_ap_25 (by decide) (by decide) rfl rfl rfl).mono ?_
          rintro u W_ ⟨⟨k1_, k2_, k3_⟩, k4_⟩
          have hs0_ := hG.1.size
          refine ⟨rel_o (by decide) (by decide) (by decide) k2_, ?_, ⟨Wd.heap.size, ?_, ?_, hs0_, k1_⟩⟩
          · show H2 _ _ _ _ _ _ _ true (L_ 5) (L_ 7) (L_ 9) _
            rw [h5_]
            exact lit2 hG k2_ k4_
          · have := hG.2.2.1 rfl; rw [if_neg (by decide)] at this; exact Nat.ne_of_gt this.lt
          · have := hV.lt; omega
        refine ⟨fun L_ Wd hl hn hG => ?_, ?_⟩
        ·
          intro u4 q4 u4 q4
          replace hG : H2 false W55 V B0 (.slice (some ⟨B0, 0, none⟩) (ts.map encT).length cap) (ts.map encT) [.int .i64 0, .int .i64 0, .string ⟨#[]⟩, .slice none 0 0, .slice none 0 0] (L_ 4) (L_ 5) (L_ 7) (L_ 9) Wd := hG
          have h7_ := hn 7 (by decide)
          have h9_ := hn 9 (by decide)
          rw [hl, h7_, h9_] at hG
          obtain ⟨B4, e1_, e2_, e3_, e4_⟩ := q4
          have e5_ := e4_.lt
          have hO_ := hG.2.2.1 rfl
          rw [if_neg (by decide)] at hO_
          refine (dx_apRoom rfl ty_ap_25 rfl rfl hO_ (e4_.rd (L := []) (by simp)) (by simp) (oc_lit zR o5) (by simpa using hroom)).mono ?_
          rintro u W_ ⟨-, k1_, k2_⟩
          refine ⟨(by unfold rel2; rw [if_pos rfl]; exact k2_), ?_, ⟨zR, k1_⟩⟩
          show H2 _ _ _ _ _ _ _ (L_ 4) true (L_ 7) (L_ 9) _
          rw [h7_, h9_]
          exact app2 hDV hG k2_
        refine ⟨fun L_ Wd hl hn hG => ?_, ?_⟩
        ·
          intro u5 q5 u4 q4 u5 q5
          replace hG : H2 false W55 V B0 (.slice (some ⟨B0, 0, none⟩) (ts.map encT).length cap) (ts.map encT) [.int .i64 0, .int .i64 0, .string ⟨#[]⟩, .slice none 0 0, .slice none 0 0] (L_ 4) (L_ 5) (L_ 7) (L_ 9) Wd := hG
          obtain ⟨r_, h5_⟩ := q5
          exact DV.dr (dx_idxO (ts.map encT).length rfl ty_slice_25 rfl rfl h5_ rfl (by simp) rfl) ⟨rel_o (by decide) (by decide) (by decide) (Below.refl _ _), hG, rfl⟩
        refine ⟨fun L_ Wd hl hn hG => ?_, ?_⟩
        ·
          intro u5 q5 u4 q4 u5 q5
          replace hG : H2 false W55 V B0 (.slice (some ⟨B0, 0, none⟩) (ts.map encT).length cap) (ts.map encT) [.int .i64 0, .int .i64 0, .string ⟨#[]⟩, .slice none 0 0, .slice none 0 0] (L_ 4) (L_ 5) (L_ 7) (L_ 9) Wd := hG
          have hq_ := q5
          obtain ⟨r_, h5_⟩ := q5
          refine (dx_storeO (k := (ts.map encT).length) (r := [.int .i64 0, .int .i64 0, .string ⟨#[]⟩, .slice none 0 0, .slice none 0 0]) rfl ty_size_27_5 rfl rfl rfl o5 h5_ rfl (by simp) rfl).mono ?_
          rintro _ W_ ⟨k1_, k2_⟩
          rw [show ((ts.map encT) ++ [r_]).set (ts.map encT).length [.int .i64 0, .int .i64 0, .string ⟨#[]⟩, .slice none 0 0, .slice none 0 0] = (ts.map encT) ++ [[.int .i64 0, .int .i64 0, .string ⟨#[]⟩, .slice none 0 0, .slice none 0 0]] from set_last] at k1_
          have hs_ : ∀ u r, OwS 5 Wd u ((ts.map encT) ++ [r]) B0 → OwS 5 W_ u ((ts.map encT) ++ [[.int .i64 0, .int .i64 0, .string ⟨#[]⟩, .slice none 0 0, .slice none 0 0]]) B0 := fun u r h => by have e_ := h5_.uniq h (by simp); rw [← e_]; exact k1_
          rw [hl] at hG
          refine ⟨(by unfold rel2; rw [if_neg (by decide), if_pos rfl]; exact ⟨k2_, hs_⟩), ?_, trivial⟩
          show H2 _ _ _ _ _ _ _ (L_ 4) (L_ 5) true (L_ 9) _
          exact row3 (c := cap) hDV (fun h => rfl) hG k2_ hs_ ⟨_, r_, h5_⟩
        refine ⟨fun L_ Wd hl hn hG => ?_, ?_⟩
        ·
          intro u4 q4 u5 q5
          replace hG : H2 false W55 V B0 (.slice (some ⟨B0, 0, none⟩) (ts.map encT).length cap) (ts.map encT) [.int .i64 0, .int .i64 0, .string ⟨#[]⟩, .slice none 0 0, .slice none 0 0] (L_ 4) (L_ 5) (L_ 7) (L_ 9) Wd := hG
          exact DV.dr (dx_fld (o1 := 4) rfl ty_fld_27_4_4 rfl rfl) ⟨rel_o (by decide) (by decide) (by decide) (Below.refl _ _), hG, rfl⟩
        refine ⟨fun L_ Wd hl hn hG => ?_, ?_⟩
        ·
          intro u5 q5 u5 q5 u4 q4 u5 q5
          replace hG : H2 false W55 V B0 (.slice (some ⟨B0, 0, none⟩) (ts.map encT).length cap) (ts.map encT) [.int .i64 0, .int .i64 0, .string ⟨#[]⟩, .slice none 0 0, .slice none 0 0] (L_ 4) (L_ 5) (L_ 7) (L_ 9) Wd := hG
          obtain ⟨r_, h5_⟩ := q5
          rw [hl] at hG
          refine (dx_store (cs' := vC u5) (vs := [u5]) rfl ty_size_25_1 rfl rfl (oc_one h5_.one) (oC h5_.one oc_nil) (hG.2.1 rfl) rfl (nB rfl) rfl).mono ?_
          rintro _ W_ ⟨k1_, k2_⟩
          refine ⟨(by unfold rel2; rw [if_neg (by decide), if_neg (by decide), if_pos rfl]; exact k2_), ?_, trivial⟩
          show H2 _ _ _ _ _ _ _ (L_ 4) (L_ 5) (L_ 7) true _
          exact put3 hDV hG k2_ k1_ h5_
        exact trivial
      ·
        intro We hGe
        obtain ⟨hc, uN, hVe, hOe⟩ := end2 (show H2 false W55 V B0 (.slice (some ⟨B0, 0, none⟩) (ts.map encT).length cap) (ts.map encT) [.int .i64 0, .int .i64 0, .string ⟨#[]⟩, .slice none 0 0, .slice none 0 0] true true true true We from hGe)
        intro u4 q4 u5 q5 _ _ _ _
        have hts_ : ∀ c ∈ ts, RdT (n + 1) (B0 :: L) We c := fun c hc_ => ((hts c hc_).less (fun x hx => .tail _ hx)).inner hc hVL
        replace hp31 := hp31.chgV hc hp31.lt hVP.symm hB0P.symm
        replace hB := hB.inner hc (Nat.le_trans hbw hB.size) hbD
        refine Ni (hK58 (Sq fun K59 hK59 => (Rg (Pu rfl (Pu rfl (Ni (hK59 ?_)))))))
        exact WC.ret fun a_ ha_ => hQ (cx_ret1 rfl (.tmp rfl) (.inr ⟨k17, e19, rfl, hw24, (by unfold oneL; rw [hw25]), by omega, ⟨vC uN, rfl, (oC rfl (oC rfl (oC rfl (oC rfl (oC hOe.one oc_nil))))), hVe⟩, hp31⟩) hB ha_)
  obtain rfl : cap = (ts.map encT).length := by omega
  refine cx_enter (N := 19) (f := [(0, .pointer (some ⟨Bp, 0, none⟩)), (1, .pointer (some ⟨V, 0, none⟩))]) Tryz.func54 rfl rfl rfl rfl fun Q hQ hE_ => ?_
  have hB := ChgV.refl b P V w
  refine Sq fun K1 hK1 => (Rg (Pu rfl (Ni (hK1 (Sq fun K2 hK2 => (Rg (Va (dx_load rfl ty_one_35 rfl (hBp.cell (k := 0) rfl)) rfl rfl ?_)))))))
  refine Ge (dx_cw rfl Tryz.func13 rfl rfl rfl (hv P ka w _ hL (.tail _ hPL) (by omega) hp)) rfl rfl ?_
  rintro _ W30 ⟨(⟨k16, t18, rfl, hw20, hw21, hw22, hw23, hp31⟩ | ⟨k17, e19, rfl, hw24, hw25, hw26, hp31⟩), g29⟩
  ·
    replace hts := hts.chgL g29 (.tail _ hPL)
    replace hBp := hBp.chg g29 hBP
    replace hV := hV.chg g29 hVP
    replace hO := hO.chgL g29 hB0P
    replace hB := hB.chg g29 (Nat.le_trans hbw hB.size)
    refine Pu rfl (Pu rfl (Pu rfl ?_))
    refine Ge (dx_alloc rfl ty_zero_27 rfl) rfl rfl ?_
    rintro _ W32 ⟨rfl, k33, b34, z35⟩
    have n36 : P ≠ W30.heap.size := Nat.ne_of_lt hp31.lt
    have n37 : Bp ≠ W30.heap.size := Nat.ne_of_lt hBp.lt
    have n38 : V ≠ W30.heap.size := Nat.ne_of_lt hV.lt
    have n39 : B0 ≠ W30.heap.size := Nat.ne_of_lt hO.lt
    have l40 := hB.size
    replace hts := hts.more b34 (Nat.le_refl _)
    replace hw21 := hw21.more b34 (Nat.le_refl _)
    replace hp31 := hp31.below b34
    replace hBp := hBp.below b34
    replace hV := hV.below b34
    replace hO := hO.below b34
    replace hB := hB.both (.of_below (b34.mono (Nat.le_trans hbw hB.size)))
    refine WL.do (dx_store (cs' := [.int .i64 t18.kind, .int .i64 t18.num, .string t18.text, t18.nv, t18.iv]) (vs := [.int .i64 t18.kind, .int .i64 t18.num, .string t18.text, t18.nv, t18.iv]) rfl ty_size_27_5 rfl rfl rfl (oC rfl (oC rfl (oC rfl (oC (hw21.1).one (oC (hw21.2.1).one oc_nil))))) k33 rfl (nB rfl) rfl) rfl ?_
    rintro _ W41 ⟨k43, o42⟩
    replace hp31 := hp31.other o42 n36
    replace hBp := hBp.other o42 n37
    replace hV := hV.other o42 n38
    replace hO := hO.other o42 n39
    clear k33
    replace hts := hts.only o42 (.head _)
    replace hw21 := hw21.only o42 (.head _)
    replace hB := hB.both (.of_only o42 (.inr (.inr (Nat.le_trans hbw l40))))
    refine Pu rfl (Ni (hK2 (Sq fun K44 hK44 => ?_)))
    have hsW := hB.size
    obtain ⟨D, hD⟩ : ∃ D, D = W41.heap.size + 1 := ⟨_, rfl⟩
    have hDV : D ≠ V := by have := hV.lt; omega
    have hbD : b ≤ D := by omega
    refine WC.drawL (fun L_ W_ => H2 true W41 V D (.slice (some ⟨B0, 0, none⟩) (ts.map encT).length (ts.map encT).length) (ts.map encT) [.int .i64 t18.kind, .int .i64 t18.num, .string t18.text, t18.nv, t18.iv] (L_ 4) (L_ 5) (L_ 7) (L_ 9) W_) 10 (rel2 true V D (ts.map encT) [.int .i64 t18.kind, .int .i64 t18.num, .string t18.text, t18.nv, t18.iv]) (sd2 W41 V D (ts.map encT).length (.slice (some ⟨B0, 0, none⟩) (ts.map encT).length (ts.map encT).length) (ts.map encT) [.int .i64 t18.kind, .int .i64 t18.num, .string t18.text, t18.nv, t18.iv]) [[], [0], [], [1], [], [1, 4, 0, 1, 2, 3, 4], [5, 3, 0, 1, 2, 3, 4, 5], [6, 2, 5, 0, 1, 2, 3, 4, 5], [0, 1, 2, 3, 4, 5], [8, 5, 5, 0, 1, 2, 3, 4, 5]] (by kernel_rfl) (by kernel_rfl) (by kernel_rfl) (by kernel_rfl) (by kernel_rfl) (by kernel_rfl) (by kernel_rfl) (begin2 hV (fun h => by cases h)) (mono2 hDV) ?_ ?_
    ·
      refine ⟨fun L_ Wd hl hn hG => ?_, ?_⟩
      ·
        replace hG : H2 true W41 V D (.slice (some ⟨B0, 0, none⟩) (ts.map encT).length (ts.map encT).length) (ts.map encT) [.int .i64 t18.kind, .int .i64 t18.num, .string t18.text, t18.nv, t18.iv] (L_ 4) (L_ 5) (L_ 7) (L_ 9) Wd := hG
        exact DV.dr (dx_fld (o1 := 4) rfl ty_fld_27_4_4 rfl rfl) ⟨rel_o (by decide) (by decide) (by decide) (Below.refl _ _), hG, rfl⟩
      refine ⟨fun L_ Wd hl hn hG => ?_, ?_⟩
      ·
        replace hG : H2 true W41 V D (.slice (some ⟨B0, 0, none⟩) (ts.map encT).length (ts.map encT).length) (ts.map encT) [.int .i64 t18.kind, .int .i64 t18.num, .string t18.text, t18.nv, t18.iv] (L_ 4) (L_ 5) (L_ 7) (L_ 9) Wd := hG
        exact DV.dr (dx_load rfl ty_one_25 rfl ((hG.2.1 (hn 9 (by decide))).cell (k := 4) rfl)) ⟨rel_o (by decide) (by decide) (by decide) (Below.refl _ _), hG, rfl⟩
      refine ⟨fun L_ Wd hl hn hG => ?_, ?_⟩
      ·
        replace hG : H2 true W41 V D (.slice (some ⟨B0, 0, none⟩) (ts.map encT).length (ts.map encT).length) (ts.map encT) [.int .i64 t18.kind, .int .i64 t18.num, .string t18.text, t18.nv, t18.iv] (L_ 4) (L_ 5) (L_ 7) (L_ 9) Wd := hG
        exact DV.dr (dx_loadN (cs := [.int .i64 t18.kind, .int .i64 t18.num, .string t18.text, t18.nv, t18.iv]) rfl ty_agg_27_5 rfl (k43.chgV hG.1 k43.lt n38.symm (by have := k43.lt; omega)).range rfl) ⟨rel_o (by decide) (by decide) (by decide) (Below.refl _ _), hG, rfl⟩
      refine ⟨fun L_ Wd hl hn hG => ?_, ?_⟩
      ·
        replace hG : H2 true W41 V D (.slice (some ⟨B0, 0, none⟩) (ts.map encT).length (ts.map encT).length) (ts.map encT) [.int .i64 t18.kind, .int .i64 t18.num, .string t18.text, t18.nv, t18.iv] (L_ 4) (L_ 5) (L_ 7) (L_ 9) Wd := hG
        exact DV.dr (dx_len rfl Tryz.underlying25 rfl) ⟨rel_o (by decide) (by decide) (by decide) (Below.refl _ _), hG, rfl⟩
      refine ⟨fun L_ Wd hl hn hG => ?_, ?_⟩
      ·
        replace hG : H2 true W41 V D (.slice (some ⟨B0, 0, none⟩) (ts.map encT).length (ts.map encT).length) (ts.map encT) [.int .i64 t18.kind, .int .i64 t18.num, .string t18.text, t18.nv, t18.iv] (L_ 4) (L_ 5) (L_ 7) (L_ 9) Wd := hG
        have h5_ := hn 5 (by decide)
        rw [hl, h5_] at hG
        refine (dx_lit1X (r := zR) rfl ty_ap_25 (by decide) (by decide) rfl rfl rfl).mono ?_
        rintro u W_ ⟨⟨k1_, k2_, k3_⟩, k4_⟩
        have hs0_ := hG.1.size
        refine ⟨rel_o (by decide) (by decide) (by decide) k2_, ?_, ⟨Wd.heap.size, ?_, ?_, hs0_, k1_⟩⟩
        · show H2 _ _ _ _ _ _ _ true (L_ 5) (L_ 7) (L_ 9) _
          rw [h5_]
          exact lit2 hG k2_ k4_
        · have := hG.2.2.1 rfl; rw [if_pos rfl, if_neg (by decide)] at this; omega
        · have := hV.lt; omega
      refine ⟨fun L_ Wd hl hn hG => ?_, ?_⟩
      ·
        intro u4 q4 u4 q4
        replace hG : H2 true W41 V D (.slice (some ⟨B0, 0, none⟩) (ts.map encT).length (ts.map encT).length) (ts.map encT) [.int .i64 t18.kind, .int .i64 t18.num, .string t18.text, t18.nv, t18.iv] (L_ 4) (L_ 5) (L_ 7) (L_ 9) Wd := hG
        have h7_ := hn 7 (by decide)
        have h9_ := hn 9 (by decide)
        rw [hl, h7_, h9_] at hG
        obtain ⟨B4, e1_, e2_, e3_, e4_⟩ := q4
        have e5_ := e4_.lt
        have hz_ := hG.2.2.1 rfl
        rw [if_pos rfl] at hz_
        have hz2_ : Wd.heap.size = D := by rw [hz_] at e5_ ⊢; split at e5_ <;> split <;> omega
        refine (dx_apF (rs := (ts.map encT)) (L := []) rfl ty_ap_25 rfl rfl (((hO.chgV hG.1 hO.lt hB0V (by have := hO.lt; omega)).rd (L := []) (by simp))) (e4_.rd (L := []) (by simp)) (by simp) (by simp [maxLen] <;> omega) (by simp <;> omega)).mono ?_
        rintro u W_ ⟨k1_, k2_, k3_⟩
        rw [hz2_] at k1_
        refine ⟨(by unfold rel2; rw [if_pos rfl]; exact k2_), ?_, ⟨zR, k1_⟩⟩
        show H2 _ _ _ _ _ _ _ (L_ 4) true (L_ 7) (L_ 9) _
        rw [h7_, h9_]
        exact app2 hDV hG k2_
      refine ⟨fun L_ Wd hl hn hG => ?_, ?_⟩
      ·
        intro u5 q5 u4 q4 u5 q5
        replace hG : H2 true W41 V D (.slice (some ⟨B0, 0, none⟩) (ts.map encT).length (ts.map encT).length) (ts.map encT) [.int .i64 t18.kind, .int .i64 t18.num, .string t18.text, t18.nv, t18.iv] (L_ 4) (L_ 5) (L_ 7) (L_ 9) Wd := hG
        obtain ⟨r_, h5_⟩ := q5
        exact DV.dr (dx_idxO (ts.map encT).length rfl ty_slice_25 rfl rfl h5_ rfl (by simp) rfl) ⟨rel_o (by decide) (by decide) (by decide) (Below.refl _ _), hG, rfl⟩
      refine ⟨fun L_ Wd hl hn hG => ?_, ?_⟩
      ·
        intro u5 q5 u4 q4 u5 q5
        replace hG : H2 true W41 V D (.slice (some ⟨B0, 0, none⟩) (ts.map encT).length (ts.map encT).length) (ts.map encT) [.int .i64 t18.kind, .int .i64 t18.num, .string t18.text, t18.nv, t18.iv] (L_ 4) (L_ 5) (L_ 7) (L_ 9) Wd := hG
        have hq_ := q5
        obtain ⟨r_, h5_⟩ := q5
        refine (dx_storeO (k := (ts.map encT).length) (r := [.int .i64 t18.kind, .int .i64 t18.num, .string t18.text, t18.nv, t18.iv]) rfl ty_size_27_5 rfl rfl rfl (oC rfl (oC rfl (oC rfl (oC (hw21.1).one (oC (hw21.2.1).one oc_nil))))) h5_ rfl (by simp) rfl).mono ?_
        rintro _ W_ ⟨k1_, k2_⟩
        rw [show ((ts.map encT) ++ [r_]).set (ts.map encT).length [.int .i64 t18.kind, .int .i64 t18.num, .string t18.text, t18.nv, t18.iv] = (ts.map encT) ++ [[.int .i64 t18.kind, .int .i64 t18.num, .string t18.text, t18.nv, t18.iv]] from set_last] at k1_
        have hs_ : ∀ u r, OwS 5 Wd u ((ts.map encT) ++ [r]) D → OwS 5 W_ u ((ts.map encT) ++ [[.int .i64 t18.kind, .int .i64 t18.num, .string t18.text, t18.nv, t18.iv]]) D := fun u r h => by have e_ := h5_.uniq h (by simp); rw [← e_]; exact k1_
        rw [hl] at hG
        refine ⟨(by unfold rel2; rw [if_neg (by decide), if_pos rfl]; exact ⟨k2_, hs_⟩), ?_, trivial⟩
        show H2 _ _ _ _ _ _ _ (L_ 4) (L_ 5) true (L_ 9) _
        exact row3 (c := 0) hDV (fun h => (by cases h)) hG k2_ hs_ ⟨_, r_, h5_⟩
      refine ⟨fun L_ Wd hl hn hG => ?_, ?_⟩
      ·
        intro u4 q4 u5 q5
        replace hG : H2 true W41 V D (.slice (some ⟨B0, 0, none⟩) (ts.map encT).length (ts.map encT).length) (ts.map encT) [.int .i64 t18.kind, .int .i64 t18.num, .string t18.text, t18.nv, t18.iv] (L_ 4) (L_ 5) (L_ 7) (L_ 9) Wd := hG
        exact DV.dr (dx_fld (o1 := 4) rfl ty_fld_27_4_4 rfl rfl) ⟨rel_o (by decide) (by decide) (by decide) (Below.refl _ _), hG, rfl⟩
      refine ⟨fun L_ Wd hl hn hG => ?_, ?_⟩
      ·
        intro u5 q5 u5 q5 u4 q4 u5 q5
        replace hG : H2 true W41 V D (.slice (some ⟨B0, 0, none⟩) (ts.map encT).length (ts.map encT).length) (ts.map encT) [.int .i64 t18.kind, .int .i64 t18.num, .string t18.text, t18.nv, t18.iv] (L_ 4) (L_ 5) (L_ 7) (L_ 9) Wd := hG
        obtain ⟨r_, h5_⟩ := q5
        rw [hl] at hG
        refine (dx_store (cs' := vC u5) (vs := [u5]) rfl ty_size_25_1 rfl rfl (oc_one h5_.one) (oC h5_.one oc_nil) (hG.2.1 rfl) rfl (nB rfl) rfl).mono ?_
        rintro _ W_ ⟨k1_, k2_⟩
        refine ⟨(by unfold rel2; rw [if_neg (by decide), if_neg (by decide), if_pos rfl]; exact k2_), ?_, trivial⟩
        show H2 _ _ _ _ _ _ _ (L_ 4) (L_ 5) (L_ 7) true _
        exact put3 hDV hG k2_ k1_ h5_
      exact trivial
    ·
      intro We hGe
      obtain ⟨hc, uN, hVe, hOe⟩ := end2 (show H2 true W41 V D (.slice (some ⟨B0, 0, none⟩) (ts.map encT).length (ts.map encT).length) (ts.map encT) [.int .i64 t18.kind, .int .i64 t18.num, .string t18.text, t18.nv, t18.iv] true true true true We from hGe)
      intro u4 q4 u5 q5 _ _ _ _
      have hts_ : ∀ c ∈ ts, RdT (n + 1) (D :: L) We c := fun c hc_ => (((hts c hc_).less (fun x hx => .tail _ (.tail _ hx))).more (Below.refl _ _) (show W41.heap.size ≤ D by omega)).inner hc hVL
      have ht_ : RdT (n + 1) (D :: L) We t18 := ((hw21.less (fun x hx => .tail _ (.tail _ hx))).more (Below.refl _ _) (show W41.heap.size ≤ D by omega)).inner hc hVL
      replace hp31 := hp31.chgV hc hp31.lt hVP.symm (by have := hp31.lt; omega)
      replace hBp := hBp.chgV hc hBp.lt hBV (by have := hBp.lt; omega)
      replace hB := hB.inner hc (Nat.le_trans hbw hB.size) hbD
      refine Ni (hK44 (Sq fun K45 hK45 => (Rg (Pu rfl (Pu rfl (Ni (hK45 ?_)))))))
      exact WC.ret fun a_ ha_ => hQ (cx_ret1 rfl (.tmp rfl) (.inl ⟨k16, ts.map Tr.er ++ [t18.er], rfl, (by unfold oneL; rw [hw20]), by omega, by omega, (by rw [List.length_append, List.length_map]; show ts.length + 1 ≤ _; omega), ⟨uN, ts ++ [t18], by simp, hBp, hVe, hI0, .inr ⟨D, hbD, (by rw [List.map_append]; exact hOe), fun c hc_ => (by rcases List.mem_append.1 hc_ with h_ | h_; exact hts_ c h_; (rw [List.mem_singleton.1 h_]; exact ht_))⟩⟩, hp31⟩) hB ha_)
  ·
    replace hts := hts.chgL g29 (.tail _ hPL)
    replace hV := hV.chg g29 hVP
    replace hO := hO.chgL g29 hB0P
    replace hB := hB.chg g29 (Nat.le_trans hbw hB.size)
    refine Pu rfl (Pu rfl (Pu rfl ?_))
    refine Ge (dx_alloc rfl ty_zero_27 rfl) rfl rfl ?_
    rintro _ W46 ⟨rfl, k47, b48, z49⟩
    have n50 : P ≠ W30.heap.size := Nat.ne_of_lt hp31.lt
    have n52 : V ≠ W30.heap.size := Nat.ne_of_lt hV.lt
    have n53 : B0 ≠ W30.heap.size := Nat.ne_of_lt hO.lt
    have l54 := hB.size
    replace hts := hts.more b48 (Nat.le_refl _)
    replace hp31 := hp31.below b48
    replace hV := hV.below b48
    replace hO := hO.below b48
    replace hB := hB.both (.of_below (b48.mono (Nat.le_trans hbw hB.size)))
    refine WL.do (dx_store (cs' := zV) (vs := zV) rfl ty_size_27_5 rfl rfl rfl o5 k47 rfl (nB rfl) rfl) rfl ?_
    rintro _ W55 ⟨k57, o56⟩
    replace hp31 := hp31.other o56 n50
    replace hV := hV.other o56 n52
    replace hO := hO.other o56 n53
    clear k47
    replace hts := hts.only o56 (.head _)
    replace hB := hB.both (.of_only o56 (.inr (.inr (Nat.le_trans hbw l54))))
    refine Pu rfl (Ni (hK2 (Sq fun K58 hK58 => ?_)))
    have hsW := hB.size
    obtain ⟨D, hD⟩ : ∃ D, D = W55.heap.size + 1 := ⟨_, rfl⟩
    have hDV : D ≠ V := by have := hV.lt; omega
    have hbD : b ≤ D := by omega
    refine WC.drawL (fun L_ W_ => H2 true W55 V D (.slice (some ⟨B0, 0, none⟩) (ts.map encT).length (ts.map encT).length) (ts.map encT) [.int .i64 0, .int .i64 0, .string ⟨#[]⟩, .slice none 0 0, .slice none 0 0] (L_ 4) (L_ 5) (L_ 7) (L_ 9) W_) 10 (rel2 true V D (ts.map encT) [.int .i64 0, .int .i64 0, .string ⟨#[]⟩, .slice none 0 0, .slice none 0 0]) (sd2 W55 V D (ts.map encT).length (.slice (some ⟨B0, 0, none⟩) (ts.map encT).length (ts.map encT).length) (ts.map encT) [.int .i64 0, .int .i64 0, .string ⟨#[]⟩, .slice none 0 0, .slice none 0 0]) [[], [0], [], [1], [], [1, 4, 0, 1, 2, 3, 4], [5, 3, 0, 1, 2, 3, 4, 5], [6, 2, 5, 0, 1, 2, 3, 4, 5], [0, 1, 2, 3, 4, 5], [8, 5, 5, 0, 1, 2, 3, 4, 5]] (by kernel_rfl) (by kernel_rfl) (by kernel_rfl) (by kernel_rfl) (by kernel_rfl) (by kernel_rfl) (by kernel_rfl) (begin2 hV (fun h => by cases h)) (mono2 hDV) ?_ ?_
    ·
      refine ⟨fun L_ Wd hl hn hG => ?_, ?_⟩
      ·
        replace hG : H2 true W55 V D (.slice (some ⟨B0, 0, none⟩) (ts.map encT).length (ts.map encT).length) (ts.map encT) [.int .i64 0, .int .i64 0, .string ⟨#[]⟩, .slice none 0 0, .slice none 0 0] (L_ 4) (L_ 5) (L_ 7) (L_ 9) Wd := hG
        exact DV.dr (dx_fld (o1 := 4) rfl ty_fld_27_4_4 rfl rfl) ⟨rel_o (by decide) (by decide) (by decide) (Below.refl _ _), hG, rfl⟩
      refine ⟨fun L_ Wd hl hn hG => ?_, ?_⟩
      ·
        replace hG : H2 true W55 V D (.slice (some ⟨B0, 0, none⟩) (ts.map encT).length (ts.map encT).length) (ts.map encT) [.int .i64 0, .int .i64 0, .string ⟨#[]⟩, .slice none 0 0, .slice none 0 0] (L_ 4) (L_ 5) (L_ 7) (L_ 9) Wd := hG
        exact DV.dr (dx_load rfl ty_one_25 rfl ((hG.2.1 (hn 9 (by decide))).cell (k := 4) rfl)) ⟨rel_o (by decide) (by decide) (by decide) (Below.refl _ _), hG, rfl⟩
      refine ⟨fun L_ Wd hl hn hG => ?_, ?_⟩
      ·
        replace hG : H2 true W55 V D (.slice (some ⟨B0, 0, none⟩) (ts.map encT).length (ts.map encT).length) (ts.map encT) [.int .i64 0, .int .i64 0, .string ⟨#[]⟩, .slice none 0 0, .slice none 0 0] (L_ 4) (L_ 5) (L_ 7) (L_ 9) Wd := hG
        exact DV.dr (dx_loadN (cs := zV) rfl ty_agg_27_5 rfl (k57.chgV hG.1 k57.lt n52.symm (by have := k57.lt; omega)).range rfl) ⟨rel_o (by decide) (by decide) (by decide) (Below.refl _ _), hG, rfl⟩
      refine ⟨fun L_ Wd hl hn hG => ?_, ?_⟩
      ·
        replace hG : H2 true W55 V D (.slice (some ⟨B0, 0, none⟩) (ts.map encT).length (ts.map encT).length) (ts.map encT) [.int .i64 0, .int .i64 0, .string ⟨#[]⟩, .slice none 0 0, .slice none 0 0] (L_ 4) (L_ 5) (L_ 7) (L_ 9) Wd := hG
        exact DV.dr (dx_len rfl Tryz.underlying25 rfl) ⟨rel_o (by decide) (by decide) (by decide) (Below.refl _ _), hG, rfl⟩
      refine ⟨fun L_ Wd hl hn hG => ?_, ?_⟩
      ·
        replace hG : H2 true W55 V D (.slice (some ⟨B0, 0, none⟩) (ts.map encT).length (ts.map encT).length) (ts.map encT) [.int .i64 0, .int .i64 0, .string ⟨#[]⟩, .slice none 0 0, .slice none 0 0] (L_ 4) (L_ 5) (L_ 7) (L_ 9) Wd := hG
        have h5_ := hn 5 (by decide)
        rw [hl, h5_] at hG
        refine (dx_lit1X (r := zR) rfl ty_ap_25 (by decide) (by decide) rfl rfl rfl).mono ?_
        rintro u W_ ⟨⟨k1_, k2_, k3_⟩, k4_⟩
        have hs0_ := hG.1.size
        refine ⟨rel_o (by decide) (by decide) (by decide) k2_, ?_, ⟨Wd.heap.size, ?_, ?_, hs0_, k1_⟩⟩
        · show H2 _ _ _ _ _ _ _ true (L_ 5) (L_ 7) (L_ 9) _
          rw [h5_]
          exact lit2 hG k2_ k4_
        · have := hG.2.2.1 rfl; rw [if_pos rfl, if_neg (by decide)] at this; omega
        · have := hV.lt; omega
      refine ⟨fun L_ Wd hl hn hG => ?_, ?_⟩
      ·
        intro u4 q4 u4 q4
        replace hG : H2 true W55 V D (.slice (some ⟨B0, 0, none⟩) (ts.map encT).length (ts.map encT).length) (ts.map encT) [.int .i64 0, .int .i64 0, .string ⟨#[]⟩, .slice none 0 0, .slice none 0 0] (L_ 4) (L_ 5) (L_ 7) (L_ 9) Wd := hG
        have h7_ := hn 7 (by decide)
        have h9_ := hn 9 (by decide)
        rw [hl, h7_, h9_] at hG
        obtain ⟨B4, e1_, e2_, e3_, e4_⟩ := q4
        have e5_ := e4_.lt
        have hz_ := hG.2.2.1 rfl
        rw [if_pos rfl] at hz_
        have hz2_ : Wd.heap.size = D := by rw [hz_] at e5_ ⊢; split at e5_ <;> split <;> omega
        refine (dx_apF (rs := (ts.map encT)) (L := []) rfl ty_ap_25 rfl rfl (((hO.chgV hG.1 hO.lt hB0V (by have := hO.lt; omega)).rd (L := []) (by simp))) (e4_.rd (L := []) (by simp)) (by simp) (by simp [maxLen] <;> omega) (by simp <;> omega)).mono ?_
        rintro u W_ ⟨k1_, k2_, k3_⟩
        rw [hz2_] at k1_
        refine ⟨(by unfold rel2; rw [if_pos rfl]; exact k2_), ?_, ⟨zR, k1_⟩⟩
        show H2 _ _ _ _ _ _ _ (L_ 4) true (L_ 7) (L_ 9) _
        rw [h7_, h9_]
        exact app2 hDV hG k2_
      refine ⟨fun L_ Wd hl hn hG => ?_, ?_⟩
      ·
        intro u5 q5 u4 q4 u5 q5
        replace hG : H2 true W55 V D (.slice (some ⟨B0, 0, none⟩) (ts.map encT).length (ts.map encT).length) (ts.map encT) [.int .i64 0, .int .i64 0, .string ⟨#[]⟩, .slice none 0 0, .slice none 0 0] (L_ 4) (L_ 5) (L_ 7) (L_ 9) Wd := hG
        obtain ⟨r_, h5_⟩ := q5
        exact DV.dr (dx_idxO (ts.map encT).length rfl ty_slice_25 rfl rfl h5_ rfl (by simp) rfl) ⟨rel_o (by decide) (by decide) (by decide) (Below.refl _ _), hG, rfl⟩
      refine ⟨fun L_ Wd hl hn hG => ?_, ?_⟩
      ·
        intro u5 q5 u4 q4 u5 q5
        replace hG : H2 true W55 V D (.slice (some ⟨B0, 0, none⟩) (ts.map encT).length (ts.map encT).length) (ts.map encT) [.int .i64 0, .int .i64 0, .string ⟨#[]⟩, .slice none 0 0, .slice none 0 0] (L_ 4) (L_ 5) (L_ 7) (L_ 9) Wd := hG
        have hq_ := q5
        obtain ⟨r_, h5_⟩ := q5
        refine (dx_storeO (k := (ts.map encT).length) (r := [.int .i64 0, .int .i64 0, .string ⟨#[]⟩, .slice none 0 0, .slice none 0 0]) rfl ty_size_27_5 rfl rfl rfl o5 h5_ rfl (by simp) rfl).mono ?_
        rintro _ W_ ⟨k1_, k2_⟩
        rw [show ((ts.map encT) ++ [r_]).set (ts.map encT).length [.int .i64 0, .int .i64 0, .string ⟨#[]⟩, .slice none 0 0, .slice none 0 0] = (ts.map encT) ++ [[.int .i64 0, .int .i64 0, .string ⟨#[]⟩, .slice none 0 0, .slice none 0 0]] from set_last] at k1_
        have hs_ : ∀ u r, OwS 5 Wd u ((ts.map encT) ++ [r]) D → OwS 5 W_ u ((ts.map encT) ++ [[.int .i64 0, .int .i64 0, .string ⟨#[]⟩, .slice none 0 0, .slice none 0 0]]) D := fun u r h => by have e_ := h5_.uniq h (by simp); rw [← e_]; exact k1_
        rw [hl] at hG
        refine ⟨(by unfold rel2; rw [if_neg (by decide), if_pos rfl]; exact ⟨k2_, hs_⟩), ?_, trivial⟩
        show H2 _ _ _ _ _ _ _ (L_ 4) (L_ 5) true (L_ 9) _
        exact row3 (c := 0) hDV (fun h => (by cases h)) hG k2_ hs_ ⟨_, r_, h5_⟩
      refine ⟨fun L_ Wd hl hn hG => ?_, ?_⟩
      ·
        intro u4 q4 u5 q5
        replace hG : H2 true W55 V D (.slice (some ⟨B0, 0, none⟩) (ts.map encT).length (ts.map encT).length) (ts.map encT) [.int .i64 0, .int .i64 0, .string ⟨#[]⟩, .slice none 0 0, .slice none 0 0] (L_ 4) (L_ 5) (L_ 7) (L_ 9) Wd := hG
        exact DV.dr (dx_fld (o1 := 4) rfl ty_fld_27_4_4 rfl rfl) ⟨rel_o (by decide) (by decide) (by decide) (Below.refl _ _), hG, rfl⟩
      refine ⟨fun L_ Wd hl hn hG => ?_, ?_⟩
      ·
        intro u5 q5 u5 q5 u4 q4 u5 q5
        replace hG : H2 true W55 V D (.slice (some ⟨B0, 0, none⟩) (ts.map encT).length (ts.map encT).length) (ts.map encT) [.int .i64 0, .int .i64 0, .string ⟨#[]⟩, .slice none 0 0, .slice none 0 0] (L_ 4) (L_ 5) (L_ 7) (L_ 9) Wd := hG
        obtain ⟨r_, h5_⟩ := q5
        rw [hl] at hG
        refine (dx_store (cs' := vC u5) (vs := [u5]) rfl ty_size_25_1 rfl rfl (oc_one h5_.one) (oC h5_.one oc_nil) (hG.2.1 rfl) rfl (nB rfl) rfl).mono ?_
        rintro _ W_ ⟨k1_, k2_⟩
        refine ⟨(by unfold rel2; rw [if_neg (by decide), if_neg (by decide), if_pos rfl]; exact k2_), ?_, trivial⟩
        show H2 _ _ _ _ _ _ _ (L_ 4) (L_ 5) (L_ 7) true _
        exact put3 hDV hG k2_ k1_ h5_
      exact trivial
    ·
      intro We hGe
      obtain ⟨hc, uN, hVe, hOe⟩ := end2 (show H2 true W55 V D (.slice (some ⟨B0, 0, none⟩) (ts.map encT).length (ts.map encT).length) (ts.map encT) [.int .i64 0, .int .i64 0, .string ⟨#[]⟩, .slice none 0 0, .slice none 0 0] true true true true We from hGe)
      intro u4 q4 u5 q5 _ _ _ _
      have hts_ : ∀ c ∈ ts, RdT (n + 1) (D :: L) We c := fun c hc_ => (((hts c hc_).less (fun x hx => .tail _ (.tail _ hx))).more (Below.refl _ _) (show W55.heap.size ≤ D by omega)).inner hc hVL
      replace hp31 := hp31.chgV hc hp31.lt hVP.symm (by have := hp31.lt; omega)
      replace hB := hB.inner hc (Nat.le_trans hbw hB.size) hbD
      refine Ni (hK58 (Sq fun K59 hK59 => (Rg (Pu rfl (Pu rfl (Ni (hK59 ?_)))))))
      exact WC.ret fun a_ ha_ => hQ (cx_ret1 rfl (.tmp rfl) (.inr ⟨k17, e19, rfl, hw24, (by unfold oneL; rw [hw25]), by omega, ⟨vC uN, rfl, (oC rfl (oC rfl (oC rfl (oC rfl (oC hOe.one oc_nil))))), hVe⟩, hp31⟩) hB ha_)

def noT : Tr := .mk 0 0 ⟨#[]⟩ (.slice none 0 0) [] (.slice none 0 0) []
theorem noT_rd (n : Nat) (L : List Nat) (w : World) : RdT (n + 1) L w noT := ⟨RdF.nil (by decide), RdF.nil (by decide), fun c hc => by cases hc⟩
def getT (t : Tr) (name : ByteArray) : Tr × Bool := if t.kind = 6 ∧ 0 ≤ idxX (fun x => decide (name = x)) t.names 0 ∧ (idxX (fun x => decide (name = x)) t.names 0).toNat < t.items.length then ((t.items[(idxX (fun x => decide (name = x)) t.names 0).toNat]?).getD noT, true) else (noT, false)
theorem getT_mem (t : Tr) (name : ByteArray) : (getT t name).1 = noT ∨ (getT t name).1 ∈ t.items := by
  unfold getT
  split
  · rename_i h
    right
    show (t.items[_]?).getD noT ∈ t.items
    rw [List.getElem?_eq_getElem h.2.2]
    exact List.getElem_mem _
  · exact .inl rfl
theorem getT_rd {n : Nat} {L : List Nat} {w : World} {t : Tr} (h : RdT (n + 1) L w t) (name : ByteArray) : RdT (n + 1) L w (getT t name).1 := by
 rcases getT_mem t name with e | e
 · rw [e]; exact noT_rd _ _ _
 · exact (h.2.2 _ e).up
set_option maxHeartbeats 1000000 in
theorem jRight_v (n : Nat) (t : Tr) (w : World) (L : List Nat) (hL : LL L w) (ht : RdT (n + 1) L w t)  (hz : SzT 1000000 (n + 1) t) : CV Tryz.prog 15 [.agg #[.int .i64 t.kind, .int .i64 t.num, .string t.text, t.nv, t.iv]] w fun v W => v = .bool (rightJ upB 12 t.er) := by
 refine cv_enter (N := 4) (f := [(0, .agg #[.int .i64 t.kind, .int .i64 t.num, .string t.text, t.nv, t.iv])]) Tryz.func15 rfl rfl rfl rfl fun Q hQ hE => ?_
 have hB := Below.refl w.heap.size w
 refine Sq fun K1 hK1 => ?_
 obtain ⟨hnt, hit, hct⟩ := ht
 replace hct : RdTs n (L) w t.items := hct
 refine Rg ?_
 refine Ge (dx_box rfl rfl rfl) rfl rfl ?_
 rintro _ W2 ⟨rfl, k3, b4, z5⟩
 have l6 := hB.size
 replace hnt := hnt.more b4 (Nat.le_refl _)
 replace hit := hit.more b4 (Nat.le_refl _)
 replace hct := hct.more b4 (Nat.le_refl _)
 replace hB := below_then hB b4
 refine Pu rfl (Ni (hK1 (Sq fun K7 hK7 => (Rg ?_))))
 refine Ge (dx_cv rfl Tryz.func33 rfl rfl rfl (right_all (n + 1) t 12 _ W2 [] (LL.nil _) ((show RdT (n + 1) (w.heap.size :: L) W2 t from ⟨hnt, hit, hct⟩).less (fun x hx => by cases hx)) ⟨Nat.succ_pos _, w.heap.size, 0, rfl, by simp, k3.range⟩ hz (by decide))) rfl rfl ?_
 rintro _ W9 ⟨rfl, b8⟩
 replace hB := below_then hB b8
 refine Pu rfl (Ni (hK7 ?_))
 exact WC.ret fun a_ ha_ => hQ (cv_ret1 rfl (.tmp rfl) rfl hB ha_)

def lbT (x : ByteArray) : List ByteArray → Nat
 | [] => 0
 | a :: l => if sless a x = true then lbT x l + 1 else 0
abbrev Rises (l : List ByteArray) : Prop := l.Pairwise (fun a b => sless a b = true)
theorem lbT_le (x : ByteArray) : ∀ l : List ByteArray, lbT x l ≤ l.length
 | [] => Nat.le_refl _
 | a :: l => by
  unfold lbT
  have := lbT_le x l
  split
  · simpa using this
  · exact Nat.zero_le _
theorem lbT_eq {x : ByteArray} : ∀ {l : List ByteArray} {i : Nat}, i ≤ l.length → (∀ q a, q < i → l[q]? = some a → sless a x = true) → (∀ a, l[i]? = some a → sless a x = false) → lbT x l = i
 | [], i, hi, _, _ => by simp at hi; rw [hi]; rfl
 | a :: l, 0, _, _, h2 => by
  have := h2 a rfl
  unfold lbT
  rw [this]; rfl
 | a :: l, i + 1, hi, h1, h2 => by
  unfold lbT
  rw [if_pos (h1 0 a (Nat.succ_pos _) rfl)]
  rw [lbT_eq (i := i) (by simpa using hi) (fun q b hq hb => h1 (q + 1) b (by omega) (by simpa using hb)) (fun b hb => h2 b (by simpa using hb))]
def insA {α : Type} (i : Nat) (x : α) (l : List α) : List α := l.take i ++ ([x] ++ l.drop i)
theorem insA_len {α : Type} {i : Nat} {x : α} {l : List α} (h : i ≤ l.length) : (insA i x l).length = l.length + 1 := by
 unfold insA
 rw [List.length_append, List.length_append, List.length_take, List.length_drop, List.length_singleton]
 omega
theorem insA_map {α β : Type} (f : α → β) (i : Nat) (x : α) (l : List α) : (insA i x l).map f = insA i (f x) (l.map f) := by
 unfold insA
 rw [List.map_append, List.map_append, List.map_take, List.map_drop]; rfl
theorem mem_insA {α : Type} {i : Nat} {x y : α} {l : List α} : y ∈ insA i x l ↔ y = x ∨ y ∈ l := by
  unfold insA
  rw [List.mem_append, List.mem_append, List.mem_singleton]
  constructor
  · rintro (h | h | h)
    · exact .inr (List.mem_of_mem_take h)
    · exact .inl h
    · exact .inr (List.mem_of_mem_drop h)
  · rintro (h | h)
    · exact .inr (.inl h)
    · rw [← List.take_append_drop i l, List.mem_append] at h
      rcases h with h | h
      · exact .inl h
      · exact .inr (.inr h)
theorem rises_less {l : List ByteArray} (h : Rises l) {i j : Nat} {a b : ByteArray} (hij : i < j) (ha : l[i]? = some a) (hb : l[j]? = some b) : sless a b = true := by
 obtain ⟨hi, rfl⟩ := List.getElem?_eq_some_iff.1 ha
 obtain ⟨hj, rfl⟩ := List.getElem?_eq_some_iff.1 hb
 exact List.pairwise_iff_getElem.1 h i j hi hj hij
theorem rises_ahead {l : List ByteArray} (h : Rises l) {x a b : ByteArray} {i q : Nat} (hq : q ≤ i) (ha : l[i]? = some a) (hx : sless a x = true) (hb : l[q]? = some b) : sless b x = true := by
 rcases Nat.lt_or_eq_of_le hq with h1 | rfl
 · exact sless_trans _ _ _ (rises_less h h1 hb ha) hx
 · rw [ha] at hb; cases hb; exact hx
theorem rises_behind {l : List ByteArray} (h : Rises l) {x a b : ByteArray} {i q : Nat} (hq : i ≤ q) (ha : l[i]? = some a) (hx : sless a x = false) (hb : l[q]? = some b) : sless b x = false := by
  rcases Nat.lt_or_eq_of_le hq with h1 | rfl
  · have := rises_less h h1 ha hb
    cases hbx : sless b x with
    | false => rfl
    | true => rw [sless_trans _ _ _ this hbx] at hx; cases hx
  · rw [ha] at hb; cases hb; exact hx
theorem lb_ahead {x : ByteArray} : ∀ {l : List ByteArray} {q : Nat} {a : ByteArray}, q < lbT x l → l[q]? = some a → sless a x = true
  | [], q, a, h, _ => by simp [lbT] at h
  | b :: l, q, a, h, ha => by
    unfold lbT at h
    split at h
    · rename_i hb
      cases q with
      | zero => simp at ha; rw [← ha]; exact hb
      | succ q => exact lb_ahead (l := l) (q := q) (by omega) (by simpa using ha)
    · omega
theorem lb_at {x : ByteArray} : ∀ {l : List ByteArray} {a : ByteArray}, l[lbT x l]? = some a → sless a x = false
  | [], a, h => by simp at h
  | b :: l, a, h => by
    unfold lbT at h
    split at h
    · exact lb_at (l := l) (by simpa using h)
    · rename_i hb
      simp at h
      rw [← h]
      exact Bool.not_eq_true _ ▸ hb
theorem mem_lb {x : ByteArray} {l : List ByteArray} (h : Rises l) : x ∈ l ↔ l[lbT x l]? = some x := by
  constructor
  · intro hm
    obtain ⟨i, hi, he⟩ := List.mem_iff_getElem.1 hm
    have hx : l[i]? = some x := by rw [List.getElem?_eq_getElem hi, he]
    have h0 : lbT x l = i := lbT_eq (Nat.le_of_lt hi) (fun q a hq ha => rises_less h hq ha hx) (fun a ha => by rw [hx] at ha; cases ha; exact sless_irrefl _)
    rw [h0, hx]
  · exact fun hm => List.mem_of_getElem? hm
theorem rises_ins {x : ByteArray} {l : List ByteArray} (h : Rises l) (hn : l[lbT x l]? ≠ some x) : Rises (insA (lbT x l) x l) := by
  have e : l = l.take (lbT x l) ++ l.drop (lbT x l) := (List.take_append_drop _ _).symm
  have h' := h
  unfold Rises at h'
  rw [e, List.pairwise_append] at h'
  obtain ⟨h1, h2, h3⟩ := h'
  have hb : ∀ b ∈ l.drop (lbT x l), sless x b = true := fun b hb => by
    obtain ⟨q, hq, he⟩ := List.mem_iff_getElem.1 hb
    have hbq : l[lbT x l + q]? = some b := by rw [← List.getElem?_drop, List.getElem?_eq_getElem hq, he]
    have hlt : lbT x l < l.length := by rw [List.length_drop] at hq; omega
    have ha := List.getElem?_eq_getElem hlt
    have hf := rises_behind h (Nat.le_add_right _ q) ha (lb_at ha) hbq
    rcases sless_tri b x with ⟨p, _, _⟩ | ⟨_, p, _⟩ | rfl
    · rw [p] at hf; cases hf
    · exact p
    · have h0 : q = 0 := by
        rcases Nat.eq_zero_or_pos q with h0 | h0
        · exact h0
        · have := rises_less h (show lbT b l < lbT b l + q by omega) ha hbq
          rw [lb_at ha] at this; cases this
      rw [h0] at hbq
      exact absurd hbq hn
  unfold Rises insA
  rw [List.pairwise_append]
  refine ⟨h1, ?_, ?_⟩
  · rw [List.singleton_append, List.pairwise_cons]
    exact ⟨hb, h2⟩
  · intro a ha b hb'
    obtain ⟨q, hq, he⟩ := List.mem_iff_getElem.1 ha
    rw [List.length_take] at hq
    rw [List.getElem_take] at he
    have hax : sless a x = true := lb_ahead (l := l) (q := q) (by omega) (by rw [List.getElem?_eq_getElem (by omega), he])
    rw [List.singleton_append, List.mem_cons] at hb'
    rcases hb' with rfl | hb'
    · exact hax
    · exact sless_trans _ _ _ hax (hb b hb')
theorem del_tail {α : Type} {rs sp : List α} {i : Nat} (hi : i ≤ rs.length) : ((rs ++ sp).drop i).take (rs.length - i) = rs.drop i := by
 rw [List.drop_append_of_le_length hi, List.take_append_of_le_length (by rw [List.length_drop]; omega), List.take_of_length_le (by rw [List.length_drop]; omega)]
theorem ins_own_eq {s : Nat} {w : World} {rs vs tl : List (List Value)} {B i n c : Nat} (h : OwS s w (.slice (some ⟨B, 0, none⟩) (rs.take i ++ (vs ++ rs.drop i)).length ((rs.take i ++ (vs ++ rs.drop i)) ++ tl).length) (rs.take i ++ (vs ++ rs.drop i)) B) (hi : i ≤ rs.length) (hn : rs.length + vs.length = n) (hc : ((rs.take i ++ (vs ++ rs.drop i)) ++ tl).length = c) : OwS s w (.slice (some ⟨B, 0, none⟩) n c) (rs.take i ++ (vs ++ rs.drop i)) B := by
 have e : (rs.take i ++ (vs ++ rs.drop i)).length = n := by simp; omega
 rw [e, hc] at h
 exact h
theorem GrowB.new_or {B B' : Nat} {w w' : World} (h : GrowB B B' w w') : B' = B ∨ w.heap.size ≤ B' := h.new
set_option maxHeartbeats 1000000 in
theorem insertT_v (rs sp vs vp : List (List Value)) (i : Nat) (B C : Nat) (w : World) (L : List Nat) (hL : LL (B :: L) w) (hO : RwB 1 w B (rs ++ sp)) (hV : RwB 1 w C (vs ++ vp)) (hCB : C ≠ B) (hi : i ≤ rs.length) (hvs : vs ≠ []) (hsm : (rs.length + vs.length) * 16 ≤ 140737488355328) (hone : ∀ r ∈ rs, ∀ u ∈ r, u.oneCell' = true) (hvone : ∀ r ∈ vs, ∀ u ∈ r, u.oneCell' = true) : CW Tryz.prog 72 [.slice (some ⟨B, 0, none⟩) rs.length ((rs ++ sp).length), .int .i64 (i : Int), .slice (some ⟨C, 0, none⟩) vs.length ((vs ++ vp).length)] w B fun v W => ∃ B', OwS 1 W v (rs.take i ++ (vs ++ rs.drop i)) B' ∧ (B' = B ∨ w.heap.size ≤ B') := by
 refine cw_enter (N := 95) (f := [(0, .slice (some ⟨B, 0, none⟩) rs.length ((rs ++ sp).length)), (1, .int .i64 (i : Int)), (2, .slice (some ⟨C, 0, none⟩) vs.length ((vs ++ vp).length))]) Tryz.func72 rfl rfl rfl rfl fun Q hQ hE => ?_
 have hB := Chg.refl B w
 have hlen : (rs ++ sp).length = rs.length + sp.length := List.length_append
 have hm0 := List.length_pos_iff.2 hvs
 refine Sq fun K1 hK1 => (Rg (Pu rfl (Ni (hK1 (Sq fun K2 hK2 => (Rg (Pu rfl ?_)))))))
 refine Pu rfl (Va (dx_slL i rfl ty_slice_24 rfl rfl rfl (by omega) (by omega)) rfl rfl (Ni (hK2 (Sq fun K3 hK3 => (Rg (Pu rfl (Va (dx_len rfl Tryz.underlying24 rfl) rfl rfl ?_)))))))
 refine Pu rfl (Ni (hK3 (Sq fun K4 hK4 => (Sq fun K5 hK5 => (Rg (Pu rfl (Va (dx_eql rfl rfl rfl) rfl rfl ?_)))))))
 refine Ni (hK5 ?_)
 refine WC.cond rfl (fun c6 => ?_) (fun c6 => ?_)
 ·
  replace c6 := dT c6
  exfalso; omega
 ·
  replace c6 := dF c6
  refine WC.skip (hK4 (Sq fun K7 hK7 => (Rg (Pu rfl (Va (dx_len rfl Tryz.underlying24 rfl) rfl rfl (Pu rfl (Ni ?_)))))))
  refine hK7 (Sq fun K8 hK8 => (Sq fun K9 hK9 => (Rg (Pu rfl (Pu rfl (Va (dx_eql rfl rfl rfl) rfl rfl (Ni ?_)))))))
  refine hK9 ?_
  refine WC.cond rfl (fun c10 => ?_) (fun c10 => ?_)
  ·
   replace c10 := dT c10
   refine Sq fun K11 hK11 => (Rg (Pu rfl (Pu rfl ?_)))
   refine Ge (dx_apO' (rs := rs) (news := vs) rfl ty_ap_24 rfl rfl hO.own (hV.rd (L := []) (by simp)) hvone (by unfold maxLen; omega) (by omega)) rfl rfl ?_
   rintro u16 W12 ⟨B13, k14, g15⟩
   replace hB := hB.grow g15 (.inl rfl)
   refine Pu rfl (Ni (hK11 ?_))
   exact WC.ret fun a_ ha_ => hQ (cw_ret1 rfl (.tmp rfl) ⟨B13, (by have e : i = rs.length := (by omega); rw [e, List.take_length, List.drop_length, List.append_nil]; exact k14), g15.new_or⟩ hB ha_)
  ·
   replace c10 := dF c10
   refine WC.skip (hK8 (Sq fun K17 hK17 => (Sq fun K18 hK18 => (Rg (Pu rfl (Pu rfl (Va (dx_add (r := ((rs.length + vs.length : Nat) : Int)) rfl rfl rfl (by rw [wrap64_id (by omega)]; omega)) rfl rfl ?_)))))))
   refine Pu rfl (Va (dx_cap rfl Tryz.underlying24 rfl) rfl rfl (Va (dx_gtr rfl rfl rfl) rfl rfl (Ni (hK18 ?_))))
   refine WC.cond rfl (fun c19 => ?_) (fun c19 => ?_)
   ·
    replace c19 := dT c19
    refine Sq fun K20 hK20 => (Rg (Pu rfl (Pu rfl (Va (dx_slH i rfl ty_slice_24 rfl rfl rfl (by omega)) rfl rfl (Pu rfl (Pu rfl (Va (dx_add (r := ((rs.length + vs.length : Nat) : Int)) rfl rfl rfl (by rw [wrap64_id (by omega)]; omega)) rfl rfl ?_)))))))
    refine Pu rfl (Va (dx_sub (r := ((rs.length + vs.length - i : Nat) : Int)) rfl rfl rfl (by rw [wrap64_id (by omega)]; omega)) rfl rfl ?_)
    refine Ge (dx_apZ (rs.length + vs.length - i) (R := (rs ++ sp)) rfl ty_ap_24 Tryz.underlying3 rfl rfl rfl hO (by omega) (by omega) (by unfold maxLen; omega) (by omega)) rfl rfl ?_
    rintro _ W1 ⟨Z, rfl, hz1, hz2, kZ, bZ, zZ⟩
    have nB : B ≠ w.heap.size := Nat.ne_of_lt hO.lt
    have nC : C ≠ w.heap.size := Nat.ne_of_lt hV.lt
    replace hO := hO.below bZ
    replace hV := hV.below bZ
    replace hB := hB.thenB bZ
    have hz3 : Z.take i = rs.take i := (by rw [hz2]; exact List.take_append_of_le_length hi)
    have ez : i + (rs.length + vs.length - i) = rs.length + vs.length := (by omega)
    rw [ez] at hz1
    refine Pu rfl (Ni (hK20 (Sq fun K21 hK21 => (Rg (Pu rfl (Pu rfl (Va (dx_slL i rfl ty_slice_24 rfl rfl rfl (by omega) (by omega)) rfl rfl ?_)))))))
    refine Pu rfl ?_
    refine Ge (dx_cpV (B := w.heap.size) (R := Z) (news := vs) (lo := i) (n := (i + (rs.length + vs.length - i) - i)) rfl ty_slice_24 rfl (fun hn => by rw [offV_in (n := (i + (rs.length + vs.length - i) - i)) hn (by omega)]; simp) rfl kZ (hV.rd (L := []) (by simp)) (fun r hr => hvone r (List.mem_of_mem_take hr)) (by omega)) rfl rfl ?_
    rintro _ W22 ⟨rfl, k23, o24⟩
    replace hB := hB.only o24 (.inr (Nat.le_refl _))
    replace hO := hO.other o24 nB
    rw [List.take_of_length_le (l := vs) (by omega), show min vs.length (i + (rs.length + vs.length - i) - i) = vs.length by omega] at k23
    have l3 : (Z.take i ++ (vs ++ Z.drop (i + vs.length))).length = Z.length := (by simp; omega)
    have hg := ins_grow (vs := vs) hi hz1 hz3
    simp only at hg
    refine Ni (hK21 (Sq fun K25 hK25 => ?_))
    refine dM 8 [(some 46, .is (.slice (some ⟨w.heap.size, 0, none⟩) (i + (rs.length + vs.length - i)) Z.length)), (some 47, .is (.int .i64 (i : Int))), (some 48, .is (.int .i64 (vs.length : Int))), (some 49, .is (.int .i64 ((i + vs.length : Nat) : Int))), (some 50, .is (.slice (some ⟨w.heap.size, (offV Z.length (i + vs.length) 0 1), none⟩) ((i + (rs.length + vs.length - i)) - (i + vs.length)) (Z.length - (i + vs.length)))), (some 51, .is (.slice (some ⟨B, 0, none⟩) rs.length ((rs ++ sp).length))), (some 52, .is (.int .i64 (i : Int))), (some 53, .is (.slice (some ⟨B, (offV ((rs ++ sp).length) i 0 1), none⟩) (rs.length - i) ((rs ++ sp).length - i)))] [[], [], [], [1, 2], [0, 3], [], [], [5, 6]] (by exact trivial) ?_ ?_
    ·
     refine Dc (fun Wd hd => ?_) ?_
     ·
      exact Dd (dx_move rfl rfl) rfl
     refine Dc (fun Wd hd => ?_) ?_
     ·
      exact Dd (dx_move rfl rfl) rfl
     refine Dc (fun Wd hd => ?_) ?_
     ·
      exact Dd (dx_move rfl rfl) rfl
     refine Dc (fun Wd hd => ?_) ?_
     ·
      exact Dd (dx_add (r := ((i + vs.length : Nat) : Int)) rfl rfl rfl (by rw [wrap64_id (by omega)]; omega)) rfl
     refine Dc (fun Wd hd => ?_) ?_
     ·
      exact Dd (dx_slL (i + vs.length) rfl ty_slice_24 rfl rfl rfl (by omega) (by omega)) rfl
     refine Dc (fun Wd hd => ?_) ?_
     ·
      exact Dd (dx_move rfl rfl) rfl
     refine Dc (fun Wd hd => ?_) ?_
     ·
      exact Dd (dx_move rfl rfl) rfl
     refine Dc (fun Wd hd => ?_) ?_
     ·
      exact Dd (dx_slL i rfl ty_slice_24 rfl rfl rfl (by omega) (by omega)) rfl
     exact trivial
    ·
     intro W26 b27
     replace hO := hO.below b27
     replace k23 := k23.below b27
     replace hB := hB.thenB b27
     refine Ge (dx_cpV (B := w.heap.size) (R := (Z.take i ++ (vs ++ Z.drop (i + vs.length)))) (news := (((rs ++ sp).drop i).take (rs.length - i))) (lo := (i + vs.length)) (n := (i + (rs.length + vs.length - i) - (i + vs.length))) rfl ty_slice_24 rfl (fun hn => by rw [offV_in (n := (i + (rs.length + vs.length - i) - (i + vs.length))) hn (by omega)]; simp) rfl k23 (hO.part (L := []) (lo := i) (n := rs.length - i) (by simp) (fun hn => by rw [offV_in (n := rs.length - i) hn (by rw [hlen]; omega)]; simp) (by rw [hlen]; omega) (by rw [hlen]; omega)) (fun r hr => hone r (mem_tail hi (List.mem_of_mem_take hr))) (by omega)) rfl rfl ?_
     rintro _ W28 ⟨rfl, k29, o30⟩
     replace hB := hB.only o30 (.inr (Nat.le_refl _))
     rw [show ((rs ++ sp).drop i).take (rs.length - i) = rs.drop i from del_tail hi] at k29
     rw [List.take_of_length_le (l := rs.drop i) (by rw [List.length_drop]; omega), List.length_drop, show min (rs.length - i) (i + (rs.length + vs.length - i) - (i + vs.length)) = rs.length - i by omega, hg] at k29
     have hown := k29.own
     refine Ni (hK25 (Sq fun K31 hK31 => (Rg (Pu rfl (Pu rfl (Ni (hK31 ?_)))))))
     exact WC.ret fun a_ ha_ => hQ (cw_ret1 rfl (.tmp rfl) ⟨w.heap.size, ins_own_eq hown hi ez.symm (by simp; omega), .inr (Nat.le_refl _)⟩ hB ha_)
   ·
    replace c19 := dF c19
    refine WC.skip (hK17 (Sq fun K32 hK32 => (Rg (Pu rfl (Pu rfl (Pu rfl (Va (dx_add (r := ((rs.length + vs.length : Nat) : Int)) rfl rfl rfl (by rw [wrap64_id (by omega)]; omega)) rfl rfl ?_)))))))
    refine Va (dx_slH (rs.length + vs.length) rfl ty_slice_24 rfl rfl rfl (by omega)) rfl rfl (Pu rfl (Ni (hK32 (Sq fun K33 hK33 => (Sq fun K34 hK34 => (Rg (Pu rfl ?_)))))))
    refine Pu rfl (Pu rfl (Pu rfl (Va (dx_add (r := ((i + vs.length : Nat) : Int)) rfl rfl rfl (by rw [wrap64_id (by omega)]; omega)) rfl rfl (Va (dx_slL (i + vs.length) rfl ty_slice_24 rfl rfl rfl (by omega) (by omega)) rfl rfl (Va (dx_ovl (U := (rs ++ sp)) (V := (vs ++ vp)) (s := 1) (tR := 4) rfl Tryz.func84 (by kernel_rfl) (by kernel_rfl) (by kernel_rfl) (by kernel_rfl) ty_slice_24 rfl rfl hV hO hCB (by intro e; rw [e] at hlen; simp only [List.length_nil] at hlen; omega)) rfl rfl (Va (dx_not rfl rfl) rfl rfl (Ni ?_)))))))
    refine hK34 (WC.condT rfl (Sq fun K35 hK35 => ?_))
    refine dM 8 [(some 69, .is (.slice (some ⟨B, 0, none⟩) (rs.length + vs.length) ((rs ++ sp).length))), (some 70, .is (.int .i64 (i : Int))), (some 71, .is (.int .i64 (vs.length : Int))), (some 72, .is (.int .i64 ((i + vs.length : Nat) : Int))), (some 73, .is (.slice (some ⟨B, (offV ((rs ++ sp).length) (i + vs.length) 0 1), none⟩) ((rs.length + vs.length) - (i + vs.length)) ((rs ++ sp).length - (i + vs.length)))), (some 74, .is (.slice (some ⟨B, 0, none⟩) (rs.length + vs.length) ((rs ++ sp).length))), (some 75, .is (.int .i64 (i : Int))), (some 76, .is (.slice (some ⟨B, (offV ((rs ++ sp).length) i 0 1), none⟩) ((rs.length + vs.length) - i) ((rs ++ sp).length - i)))] [[], [], [], [1, 2], [0, 3], [], [], [5, 6]] (by exact trivial) ?_ ?_
    ·
     refine Dc (fun Wd hd => ?_) ?_
     ·
      exact Dd (dx_move rfl rfl) rfl
     refine Dc (fun Wd hd => ?_) ?_
     ·
      exact Dd (dx_move rfl rfl) rfl
     refine Dc (fun Wd hd => ?_) ?_
     ·
      exact Dd (dx_move rfl rfl) rfl
     refine Dc (fun Wd hd => ?_) ?_
     ·
      exact Dd (dx_add (r := ((i + vs.length : Nat) : Int)) rfl rfl rfl (by rw [wrap64_id (by omega)]; omega)) rfl
     refine Dc (fun Wd hd => ?_) ?_
     ·
      exact Dd (dx_slL (i + vs.length) rfl ty_slice_24 rfl rfl rfl (by omega) (by omega)) rfl
     refine Dc (fun Wd hd => ?_) ?_
     ·
      exact Dd (dx_move rfl rfl) rfl
     refine Dc (fun Wd hd => ?_) ?_
     ·
      exact Dd (dx_move rfl rfl) rfl
     refine Dc (fun Wd hd => ?_) ?_
     ·
      exact Dd (dx_slL i rfl ty_slice_24 rfl rfl rfl (by omega) (by omega)) rfl
     exact trivial
    ·
     intro W36 b37
     replace hO := hO.below b37
     replace hV := hV.below b37
     replace hB := hB.thenB b37
     refine Ge (dx_cpV (B := B) (R := (rs ++ sp)) (news := (((rs ++ sp).drop i).take (rs.length + vs.length - i))) (lo := (i + vs.length)) (n := (rs.length + vs.length - (i + vs.length))) rfl ty_slice_24 rfl (fun hn => by rw [offV_in (n := (rs.length + vs.length - (i + vs.length))) hn (by omega)]; simp) rfl hO (hO.part (L := []) (lo := i) (n := rs.length + vs.length - i) (by simp) (fun hn => by rw [offV_in (n := rs.length + vs.length - i) hn (by omega)]; simp) (by omega) (by omega)) (fun r hr => hone r (mem_tail2 hi (by omega) (by omega) hr)) (by omega)) rfl rfl ?_
     rintro _ W38 ⟨rfl, k39, o40⟩
     replace hB := hB.only o40 (.inl rfl)
     replace hV := hV.other o40 hCB
     have ll : (((rs ++ sp).drop i).take (rs.length + vs.length - i)).length = rs.length + vs.length - i := (by rw [List.length_take, List.length_drop]; omega)
     rw [ll, show min (rs.length + vs.length - i) (rs.length + vs.length - (i + vs.length)) = rs.length - i by omega, show rs.length + vs.length - (i + vs.length) = rs.length - i by omega] at k39
     have l3 : ((rs ++ sp).take (i + vs.length) ++ ((((rs ++ sp).drop i).take (rs.length + vs.length - i)).take (rs.length - i) ++ (rs ++ sp).drop (i + vs.length + (rs.length - i)))).length = (rs ++ sp).length := (by simp; omega)
     have hg := ins_room (vs := vs) (sp := sp) hi (by omega)
     simp only at hg
     refine Ni (hK35 (Sq fun K41 hK41 => (Rg (Pu rfl (Pu rfl (Va (dx_slL i rfl ty_slice_24 rfl rfl rfl (by omega) (by omega)) rfl rfl (Pu rfl ?_)))))))
     refine Ge (dx_cpV (B := B) (R := ((rs ++ sp).take (i + vs.length) ++ ((((rs ++ sp).drop i).take (rs.length + vs.length - i)).take (rs.length - i) ++ (rs ++ sp).drop (i + vs.length + (rs.length - i))))) (news := vs) (lo := i) (n := (rs.length + vs.length - i)) rfl ty_slice_24 rfl (fun hn => by rw [offV_in (n := (rs.length + vs.length - i)) hn (by omega)]; simp) rfl k39 (hV.rd (L := []) (by simp)) (fun r hr => hvone r (List.mem_of_mem_take hr)) (by omega)) rfl rfl ?_
     rintro _ W42 ⟨rfl, k43, o44⟩
     replace hB := hB.only o44 (.inl rfl)
     rw [List.take_of_length_le (l := vs) (by omega), show min vs.length (rs.length + vs.length - i) = vs.length by omega, hg] at k43
     have hown := k43.own
     refine Ni (hK41 (Sq fun K45 hK45 => (Rg (Pu rfl (Pu rfl (Ni (hK45 ?_)))))))
     exact WC.ret fun a_ ha_ => hQ (cw_ret1 rfl (.tmp rfl) ⟨B, ins_own_eq hown hi rfl (by simp; omega), .inl rfl⟩ hB ha_)

set_option maxHeartbeats 1000000 in
theorem insertNT_v (vs vp : List (List Value)) (C : Nat) (w : World) (L : List Nat) (hL : LL L w)   (hV : RwB 1 w C (vs ++ vp)) (hvs : vs ≠ []) (hsm : vs.length * 16 ≤ 140737488355328) : CV Tryz.prog 72 [.slice none 0 0, .int .i64 0, .slice (some ⟨C, 0, none⟩) vs.length ((vs ++ vp).length)] w fun v W => ∃ B, w.heap.size ≤ B ∧ OwS 1 W v vs B := by
 refine cv_enter (N := 95) (f := [(0, .slice none 0 0), (1, .int .i64 0), (2, .slice (some ⟨C, 0, none⟩) vs.length ((vs ++ vp).length))]) Tryz.func72 rfl rfl rfl rfl fun Q hQ hE => ?_
 have hB := Below.refl w.heap.size w
 have hm0 := List.length_pos_iff.2 hvs
 refine Sq fun K1 hK1 => (Rg (Pu rfl (Ni (hK1 (Sq fun K2 hK2 => (Rg (Pu rfl ?_)))))))
 refine Pu rfl (Va (dx_slN rfl ty_slice_24 rfl rfl) rfl rfl (Ni (hK2 (Sq fun K3 hK3 => (Rg (Pu rfl (Va (dx_len rfl Tryz.underlying24 rfl) rfl rfl ?_)))))))
 refine Pu rfl (Ni (hK3 (Sq fun K4 hK4 => (Sq fun K5 hK5 => (Rg (Pu rfl (Va (dx_eql rfl rfl rfl) rfl rfl ?_)))))))
 refine Ni (hK5 ?_)
 refine WC.cond rfl (fun c6 => ?_) (fun c6 => ?_)
 ·
  replace c6 := dT c6
  exfalso; omega
 ·
  replace c6 := dF c6
  refine WC.skip (hK4 (Sq fun K7 hK7 => (Rg (Pu rfl (Va (dx_len rfl Tryz.underlying24 rfl) rfl rfl (Pu rfl (Ni ?_)))))))
  refine hK7 (Sq fun K8 hK8 => (Sq fun K9 hK9 => (Rg (Pu rfl (Pu rfl (Va (dx_eql rfl rfl rfl) rfl rfl (Ni ?_)))))))
  refine hK9 ?_
  refine WC.cond rfl (fun c10 => ?_) (fun c10 => ?_)
  ·
   replace c10 := dT c10
   refine Sq fun K11 hK11 => (Rg (Pu rfl (Pu rfl ?_)))
   refine Ge (dx_apF (rs := []) (news := vs) rfl ty_ap_24 rfl rfl (RdF.nil (L := []) (by decide)) (hV.rd (L := []) (by simp)) hvs (by simp; unfold maxLen; omega) (by simp; omega)) rfl rfl ?_
   rintro u16 W12 ⟨k13, b14, z15⟩
   replace hB := below_then hB b14
   refine Pu rfl (Ni (hK11 ?_))
   exact WC.ret fun a_ ha_ => hQ (cv_ret1 rfl (.tmp rfl) ⟨w.heap.size, Nat.le_refl _, k13⟩ hB ha_)
  ·
   replace c10 := dF c10
   exact absurd rfl c10

set_option maxHeartbeats 1000000 in
theorem insertV_v (rs sp vs vp : List (List Value)) (i : Nat) (B C : Nat) (w : World) (L : List Nat) (hL : LL (B :: L) w) (hO : RwB 5 w B (rs ++ sp)) (hV : RwB 5 w C (vs ++ vp)) (hCB : C ≠ B) (hi : i ≤ rs.length) (hvs : vs ≠ []) (hsm : (rs.length + vs.length) * 80 ≤ 140737488355328) (hone : ∀ r ∈ rs, ∀ u ∈ r, u.oneCell' = true) (hvone : ∀ r ∈ vs, ∀ u ∈ r, u.oneCell' = true) : CW Tryz.prog 73 [.slice (some ⟨B, 0, none⟩) rs.length ((rs ++ sp).length), .int .i64 (i : Int), .slice (some ⟨C, 0, none⟩) vs.length ((vs ++ vp).length)] w B fun v W => ∃ B', OwS 5 W v (rs.take i ++ (vs ++ rs.drop i)) B' ∧ (B' = B ∨ w.heap.size ≤ B') := by
 refine cw_enter (N := 95) (f := [(0, .slice (some ⟨B, 0, none⟩) rs.length ((rs ++ sp).length)), (1, .int .i64 (i : Int)), (2, .slice (some ⟨C, 0, none⟩) vs.length ((vs ++ vp).length))]) Tryz.func73 rfl rfl rfl rfl fun Q hQ hE => ?_
 have hB := Chg.refl B w
 have hlen : (rs ++ sp).length = rs.length + sp.length := List.length_append
 have hm0 := List.length_pos_iff.2 hvs
 refine Sq fun K1 hK1 => (Rg (Pu rfl (Ni (hK1 (Sq fun K2 hK2 => (Rg (Pu rfl ?_)))))))
 refine Pu rfl (Va (dx_slL i rfl ty_slice_25 rfl rfl rfl (by omega) (by omega)) rfl rfl (Ni (hK2 (Sq fun K3 hK3 => (Rg (Pu rfl (Va (dx_len rfl Tryz.underlying25 rfl) rfl rfl ?_)))))))
 refine Pu rfl (Ni (hK3 (Sq fun K4 hK4 => (Sq fun K5 hK5 => (Rg (Pu rfl (Va (dx_eql rfl rfl rfl) rfl rfl ?_)))))))
 refine Ni (hK5 ?_)
 refine WC.cond rfl (fun c6 => ?_) (fun c6 => ?_)
 ·
  replace c6 := dT c6
  exfalso; omega
 ·
  replace c6 := dF c6
  refine WC.skip (hK4 (Sq fun K7 hK7 => (Rg (Pu rfl (Va (dx_len rfl Tryz.underlying25 rfl) rfl rfl (Pu rfl (Ni ?_)))))))
  refine hK7 (Sq fun K8 hK8 => (Sq fun K9 hK9 => (Rg (Pu rfl (Pu rfl (Va (dx_eql rfl rfl rfl) rfl rfl (Ni ?_)))))))
  refine hK9 ?_
  refine WC.cond rfl (fun c10 => ?_) (fun c10 => ?_)
  ·
   replace c10 := dT c10
   refine Sq fun K11 hK11 => (Rg (Pu rfl (Pu rfl ?_)))
   refine Ge (dx_apO' (rs := rs) (news := vs) rfl ty_ap_25 rfl rfl hO.own (hV.rd (L := []) (by simp)) hvone (by unfold maxLen; omega) (by omega)) rfl rfl ?_
   rintro u16 W12 ⟨B13, k14, g15⟩
   replace hB := hB.grow g15 (.inl rfl)
   refine Pu rfl (Ni (hK11 ?_))
   exact WC.ret fun a_ ha_ => hQ (cw_ret1 rfl (.tmp rfl) ⟨B13, (by have e : i = rs.length := (by omega); rw [e, List.take_length, List.drop_length, List.append_nil]; exact k14), g15.new_or⟩ hB ha_)
  ·
   replace c10 := dF c10
   refine WC.skip (hK8 (Sq fun K17 hK17 => (Sq fun K18 hK18 => (Rg (Pu rfl (Pu rfl (Va (dx_add (r := ((rs.length + vs.length : Nat) : Int)) rfl rfl rfl (by rw [wrap64_id (by omega)]; omega)) rfl rfl ?_)))))))
   refine Pu rfl (Va (dx_cap rfl Tryz.underlying25 rfl) rfl rfl (Va (dx_gtr rfl rfl rfl) rfl rfl (Ni (hK18 ?_))))
   refine WC.cond rfl (fun c19 => ?_) (fun c19 => ?_)
   ·
    replace c19 := dT c19
    refine Sq fun K20 hK20 => (Rg (Pu rfl (Pu rfl (Va (dx_slH i rfl ty_slice_25 rfl rfl rfl (by omega)) rfl rfl (Pu rfl (Pu rfl (Va (dx_add (r := ((rs.length + vs.length : Nat) : Int)) rfl rfl rfl (by rw [wrap64_id (by omega)]; omega)) rfl rfl ?_)))))))
    refine Pu rfl (Va (dx_sub (r := ((rs.length + vs.length - i : Nat) : Int)) rfl rfl rfl (by rw [wrap64_id (by omega)]; omega)) rfl rfl ?_)
    refine Ge (dx_apZ (rs.length + vs.length - i) (R := (rs ++ sp)) rfl ty_ap_25 Tryz.underlying3 rfl rfl rfl hO (by omega) (by omega) (by unfold maxLen; omega) (by omega)) rfl rfl ?_
    rintro _ W1 ⟨Z, rfl, hz1, hz2, kZ, bZ, zZ⟩
    have nB : B ≠ w.heap.size := Nat.ne_of_lt hO.lt
    have nC : C ≠ w.heap.size := Nat.ne_of_lt hV.lt
    replace hO := hO.below bZ
    replace hV := hV.below bZ
    replace hB := hB.thenB bZ
    have hz3 : Z.take i = rs.take i := (by rw [hz2]; exact List.take_append_of_le_length hi)
    have ez : i + (rs.length + vs.length - i) = rs.length + vs.length := (by omega)
    rw [ez] at hz1
    refine Pu rfl (Ni (hK20 (Sq fun K21 hK21 => (Rg (Pu rfl (Pu rfl (Va (dx_slL i rfl ty_slice_25 rfl rfl rfl (by omega) (by omega)) rfl rfl ?_)))))))
    refine Pu rfl ?_
    refine Ge (dx_cpV (B := w.heap.size) (R := Z) (news := vs) (lo := i) (n := (i + (rs.length + vs.length - i) - i)) rfl ty_slice_25 rfl (fun hn => by rw [offV_in (n := (i + (rs.length + vs.length - i) - i)) hn (by omega)]; simp) rfl kZ (hV.rd (L := []) (by simp)) (fun r hr => hvone r (List.mem_of_mem_take hr)) (by omega)) rfl rfl ?_
    rintro _ W22 ⟨rfl, k23, o24⟩
    replace hB := hB.only o24 (.inr (Nat.le_refl _))
    replace hO := hO.other o24 nB
    rw [List.take_of_length_le (l := vs) (by omega), show min vs.length (i + (rs.length + vs.length - i) - i) = vs.length by omega] at k23
    have l3 : (Z.take i ++ (vs ++ Z.drop (i + vs.length))).length = Z.length := (by simp; omega)
    have hg := ins_grow (vs := vs) hi hz1 hz3
    simp only at hg
    refine Ni (hK21 (Sq fun K25 hK25 => ?_))
    refine dM 8 [(some 46, .is (.slice (some ⟨w.heap.size, 0, none⟩) (i + (rs.length + vs.length - i)) Z.length)), (some 47, .is (.int .i64 (i : Int))), (some 48, .is (.int .i64 (vs.length : Int))), (some 49, .is (.int .i64 ((i + vs.length : Nat) : Int))), (some 50, .is (.slice (some ⟨w.heap.size, (offV Z.length (i + vs.length) 0 5), none⟩) ((i + (rs.length + vs.length - i)) - (i + vs.length)) (Z.length - (i + vs.length)))), (some 51, .is (.slice (some ⟨B, 0, none⟩) rs.length ((rs ++ sp).length))), (some 52, .is (.int .i64 (i : Int))), (some 53, .is (.slice (some ⟨B, (offV ((rs ++ sp).length) i 0 5), none⟩) (rs.length - i) ((rs ++ sp).length - i)))] [[], [], [], [1, 2], [0, 3], [], [], [5, 6]] (by exact trivial) ?_ ?_
    ·
     refine Dc (fun Wd hd => ?_) ?_
     ·
      exact Dd (dx_move rfl rfl) rfl
     refine Dc (fun Wd hd => ?_) ?_
     ·
      exact Dd (dx_move rfl rfl) rfl
     refine Dc (fun Wd hd => ?_) ?_
     ·
      exact Dd (dx_move rfl rfl) rfl
     refine Dc (fun Wd hd => ?_) ?_
     ·
      exact Dd (dx_add (r := ((i + vs.length : Nat) : Int)) rfl rfl rfl (by rw [wrap64_id (by omega)]; omega)) rfl
     refine Dc (fun Wd hd => ?_) ?_
     ·
      exact Dd (dx_slL (i + vs.length) rfl ty_slice_25 rfl rfl rfl (by omega) (by omega)) rfl
     refine Dc (fun Wd hd => ?_) ?_
     ·
      exact Dd (dx_move rfl rfl) rfl
     refine Dc (fun Wd hd => ?_) ?_
     ·
      exact Dd (dx_move rfl rfl) rfl
     refine Dc (fun Wd hd => ?_) ?_
     ·
      exact Dd (dx_slL i rfl ty_slice_25 rfl rfl rfl (by omega) (by omega)) rfl
     exact trivial
    ·
     intro W26 b27
     replace hO := hO.below b27
     replace k23 := k23.below b27
     replace hB := hB.thenB b27
     refine Ge (dx_cpV (B := w.heap.size) (R := (Z.take i ++ (vs ++ Z.drop (i + vs.length)))) (news := (((rs ++ sp).drop i).take (rs.length - i))) (lo := (i + vs.length)) (n := (i + (rs.length + vs.length - i) - (i + vs.length))) rfl ty_slice_25 rfl (fun hn => by rw [offV_in (n := (i + (rs.length + vs.length - i) - (i + vs.length))) hn (by omega)]; simp) rfl k23 (hO.part (L := []) (lo := i) (n := rs.length - i) (by simp) (fun hn => by rw [offV_in (n := rs.length - i) hn (by rw [hlen]; omega)]; simp) (by rw [hlen]; omega) (by rw [hlen]; omega)) (fun r hr => hone r (mem_tail hi (List.mem_of_mem_take hr))) (by omega)) rfl rfl ?_
     rintro _ W28 ⟨rfl, k29, o30⟩
     replace hB := hB.only o30 (.inr (Nat.le_refl _))
     rw [show ((rs ++ sp).drop i).take (rs.length - i) = rs.drop i from del_tail hi] at k29
     rw [List.take_of_length_le (l := rs.drop i) (by rw [List.length_drop]; omega), List.length_drop, show min (rs.length - i) (i + (rs.length + vs.length - i) - (i + vs.length)) = rs.length - i by omega, hg] at k29
     have hown := k29.own
     refine Ni (hK25 (Sq fun K31 hK31 => (Rg (Pu rfl (Pu rfl (Ni (hK31 ?_)))))))
     exact WC.ret fun a_ ha_ => hQ (cw_ret1 rfl (.tmp rfl) ⟨w.heap.size, ins_own_eq hown hi ez.symm (by simp; omega), .inr (Nat.le_refl _)⟩ hB ha_)
   ·
    replace c19 := dF c19
    refine WC.skip (hK17 (Sq fun K32 hK32 => (Rg (Pu rfl (Pu rfl (Pu rfl (Va (dx_add (r := ((rs.length + vs.length : Nat) : Int)) rfl rfl rfl (by rw [wrap64_id (by omega)]; omega)) rfl rfl ?_)))))))
    refine Va (dx_slH (rs.length + vs.length) rfl ty_slice_25 rfl rfl rfl (by omega)) rfl rfl (Pu rfl (Ni (hK32 (Sq fun K33 hK33 => (Sq fun K34 hK34 => (Rg (Pu rfl ?_)))))))
    refine Pu rfl (Pu rfl (Pu rfl (Va (dx_add (r := ((i + vs.length : Nat) : Int)) rfl rfl rfl (by rw [wrap64_id (by omega)]; omega)) rfl rfl (Va (dx_slL (i + vs.length) rfl ty_slice_25 rfl rfl rfl (by omega) (by omega)) rfl rfl (Va (dx_ovl (U := (rs ++ sp)) (V := (vs ++ vp)) (s := 5) (tR := 4) rfl Tryz.func86 (by kernel_rfl) (by kernel_rfl) (by kernel_rfl) (by kernel_rfl) ty_slice_25 rfl rfl hV hO hCB (by intro e; rw [e] at hlen; simp only [List.length_nil] at hlen; omega)) rfl rfl (Va (dx_not rfl rfl) rfl rfl (Ni ?_)))))))
    refine hK34 (WC.condT rfl (Sq fun K35 hK35 => ?_))
    refine dM 8 [(some 69, .is (.slice (some ⟨B, 0, none⟩) (rs.length + vs.length) ((rs ++ sp).length))), (some 70, .is (.int .i64 (i : Int))), (some 71, .is (.int .i64 (vs.length : Int))), (some 72, .is (.int .i64 ((i + vs.length : Nat) : Int))), (some 73, .is (.slice (some ⟨B, (offV ((rs ++ sp).length) (i + vs.length) 0 5), none⟩) ((rs.length + vs.length) - (i + vs.length)) ((rs ++ sp).length - (i + vs.length)))), (some 74, .is (.slice (some ⟨B, 0, none⟩) (rs.length + vs.length) ((rs ++ sp).length))), (some 75, .is (.int .i64 (i : Int))), (some 76, .is (.slice (some ⟨B, (offV ((rs ++ sp).length) i 0 5), none⟩) ((rs.length + vs.length) - i) ((rs ++ sp).length - i)))] [[], [], [], [1, 2], [0, 3], [], [], [5, 6]] (by exact trivial) ?_ ?_
    ·
     refine Dc (fun Wd hd => ?_) ?_
     ·
      exact Dd (dx_move rfl rfl) rfl
     refine Dc (fun Wd hd => ?_) ?_
     ·
      exact Dd (dx_move rfl rfl) rfl
     refine Dc (fun Wd hd => ?_) ?_
     ·
      exact Dd (dx_move rfl rfl) rfl
     refine Dc (fun Wd hd => ?_) ?_
     ·
      exact Dd (dx_add (r := ((i + vs.length : Nat) : Int)) rfl rfl rfl (by rw [wrap64_id (by omega)]; omega)) rfl
     refine Dc (fun Wd hd => ?_) ?_
     ·
      exact Dd (dx_slL (i + vs.length) rfl ty_slice_25 rfl rfl rfl (by omega) (by omega)) rfl
     refine Dc (fun Wd hd => ?_) ?_
     ·
      exact Dd (dx_move rfl rfl) rfl
     refine Dc (fun Wd hd => ?_) ?_
     ·
      exact Dd (dx_move rfl rfl) rfl
     refine Dc (fun Wd hd => ?_) ?_
     ·
      exact Dd (dx_slL i rfl ty_slice_25 rfl rfl rfl (by omega) (by omega)) rfl
     exact trivial
    ·
     intro W36 b37
     replace hO := hO.below b37
     replace hV := hV.below b37
     replace hB := hB.thenB b37
     refine Ge (dx_cpV (B := B) (R := (rs ++ sp)) (news := (((rs ++ sp).drop i).take (rs.length + vs.length - i))) (lo := (i + vs.length)) (n := (rs.length + vs.length - (i + vs.length))) rfl ty_slice_25 rfl (fun hn => by rw [offV_in (n := (rs.length + vs.length - (i + vs.length))) hn (by omega)]; simp) rfl hO (hO.part (L := []) (lo := i) (n := rs.length + vs.length - i) (by simp) (fun hn => by rw [offV_in (n := rs.length + vs.length - i) hn (by omega)]; simp) (by omega) (by omega)) (fun r hr => hone r (mem_tail2 hi (by omega) (by omega) hr)) (by omega)) rfl rfl ?_
     rintro _ W38 ⟨rfl, k39, o40⟩
     replace hB := hB.only o40 (.inl rfl)
     replace hV := hV.other o40 hCB
     have ll : (((rs ++ sp).drop i).take (rs.length + vs.length - i)).length = rs.length + vs.length - i := (by rw [List.length_take, List.length_drop]; omega)
     rw [ll, show min (rs.length + vs.length - i) (rs.length + vs.length - (i + vs.length)) = rs.length - i by omega, show rs.length + vs.length - (i + vs.length) = rs.length - i by omega] at k39
     have l3 : ((rs ++ sp).take (i + vs.length) ++ ((((rs ++ sp).drop i).take (rs.length + vs.length - i)).take (rs.length - i) ++ (rs ++ sp).drop (i + vs.length + (rs.length - i)))).length = (rs ++ sp).length := (by simp; omega)
     have hg := ins_room (vs := vs) (sp := sp) hi (by omega)
     simp only at hg
     refine Ni (hK35 (Sq fun K41 hK41 => (Rg (Pu rfl (Pu rfl (Va (dx_slL i rfl ty_slice_25 rfl rfl rfl (by omega) (by omega)) rfl rfl (Pu rfl ?_)))))))
     refine Ge (dx_cpV (B := B) (R := ((rs ++ sp).take (i + vs.length) ++ ((((rs ++ sp).drop i).take (rs.length + vs.length - i)).take (rs.length - i) ++ (rs ++ sp).drop (i + vs.length + (rs.length - i))))) (news := vs) (lo := i) (n := (rs.length + vs.length - i)) rfl ty_slice_25 rfl (fun hn => by rw [offV_in (n := (rs.length + vs.length - i)) hn (by omega)]; simp) rfl k39 (hV.rd (L := []) (by simp)) (fun r hr => hvone r (List.mem_of_mem_take hr)) (by omega)) rfl rfl ?_
     rintro _ W42 ⟨rfl, k43, o44⟩
     replace hB := hB.only o44 (.inl rfl)
     rw [List.take_of_length_le (l := vs) (by omega), show min vs.length (rs.length + vs.length - i) = vs.length by omega, hg] at k43
     have hown := k43.own
     refine Ni (hK41 (Sq fun K45 hK45 => (Rg (Pu rfl (Pu rfl (Ni (hK45 ?_)))))))
     exact WC.ret fun a_ ha_ => hQ (cw_ret1 rfl (.tmp rfl) ⟨B, ins_own_eq hown hi rfl (by simp; omega), .inl rfl⟩ hB ha_)

set_option maxHeartbeats 1000000 in
theorem insertNV_v (vs vp : List (List Value)) (C : Nat) (w : World) (L : List Nat) (hL : LL L w)   (hV : RwB 5 w C (vs ++ vp)) (hvs : vs ≠ []) (hsm : vs.length * 80 ≤ 140737488355328) : CV Tryz.prog 73 [.slice none 0 0, .int .i64 0, .slice (some ⟨C, 0, none⟩) vs.length ((vs ++ vp).length)] w fun v W => ∃ B, w.heap.size ≤ B ∧ OwS 5 W v vs B := by
 refine cv_enter (N := 95) (f := [(0, .slice none 0 0), (1, .int .i64 0), (2, .slice (some ⟨C, 0, none⟩) vs.length ((vs ++ vp).length))]) Tryz.func73 rfl rfl rfl rfl fun Q hQ hE => ?_
 have hB := Below.refl w.heap.size w
 have hm0 := List.length_pos_iff.2 hvs
 refine Sq fun K1 hK1 => (Rg (Pu rfl (Ni (hK1 (Sq fun K2 hK2 => (Rg (Pu rfl ?_)))))))
 refine Pu rfl (Va (dx_slN rfl ty_slice_25 rfl rfl) rfl rfl (Ni (hK2 (Sq fun K3 hK3 => (Rg (Pu rfl (Va (dx_len rfl Tryz.underlying25 rfl) rfl rfl ?_)))))))
 refine Pu rfl (Ni (hK3 (Sq fun K4 hK4 => (Sq fun K5 hK5 => (Rg (Pu rfl (Va (dx_eql rfl rfl rfl) rfl rfl ?_)))))))
 refine Ni (hK5 ?_)
 refine WC.cond rfl (fun c6 => ?_) (fun c6 => ?_)
 ·
  replace c6 := dT c6
  exfalso; omega
 ·
  replace c6 := dF c6
  refine WC.skip (hK4 (Sq fun K7 hK7 => (Rg (Pu rfl (Va (dx_len rfl Tryz.underlying25 rfl) rfl rfl (Pu rfl (Ni ?_)))))))
  refine hK7 (Sq fun K8 hK8 => (Sq fun K9 hK9 => (Rg (Pu rfl (Pu rfl (Va (dx_eql rfl rfl rfl) rfl rfl (Ni ?_)))))))
  refine hK9 ?_
  refine WC.cond rfl (fun c10 => ?_) (fun c10 => ?_)
  ·
   replace c10 := dT c10
   refine Sq fun K11 hK11 => (Rg (Pu rfl (Pu rfl ?_)))
   refine Ge (dx_apF (rs := []) (news := vs) rfl ty_ap_25 rfl rfl (RdF.nil (L := []) (by decide)) (hV.rd (L := []) (by simp)) hvs (by simp; unfold maxLen; omega) (by simp; omega)) rfl rfl ?_
   rintro u16 W12 ⟨k13, b14, z15⟩
   replace hB := below_then hB b14
   refine Pu rfl (Ni (hK11 ?_))
   exact WC.ret fun a_ ha_ => hQ (cv_ret1 rfl (.tmp rfl) ⟨w.heap.size, Nat.le_refl _, k13⟩ hB ha_)
  ·
   replace c10 := dF c10
   exact absurd rfl c10

section
variable {P : Program} {ops : Array Oper} {o : Oper} {N : Nat} {f : Fl} {w : World}
theorem dx_shr {t t' : TypeId} {x y : Operand} {K K2 : IntKind} {m n r : Int} (ho : o.op = .binOp .shr t x y t') (hx : ev f x = some (.int K m)) (hy : ev f y = some (.int K2 n)) (hn : 0 ≤ n) (hn2 : n ≤ K.bits) (hr : m / 2 ^ n.toNat = r) (hw : wantF ops o f = some true := by rfl) : DV P ops o N f w (.int K r) := fun a ha =>
 Does.shr (wantF_of ha hw) ho (ha.ev hx) (ha.ev hy) hn hn2 hr ⟨rfl, rfl⟩
end
theorem GrowB.of_chg {B B' : Nat} {w w' : World} (h : Chg B w w') (hn : B' = B ∨ w.heap.size ≤ B') : GrowB B B' w w' := ⟨h.os, h.tape, h.output, h.size, fun k hk hB => h.block k hk hB, hn⟩
theorem ChgV.grow {b B C D D' : Nat} {w W W' : World} (h : ChgV b B C w W) (g : GrowB D D' W W') (hD : b ≤ D) (hb : b ≤ W.heap.size) : ChgV b B C w W' := h.both ⟨g.os, g.tape, g.output, g.size, fun k hk _ _ => g.block k (by omega) (by omega)⟩
set_option maxHeartbeats 1000000 in
theorem nanC_v (x : ByteArray) (w : World) (L : List Nat) (hL : LL L w)  : CV Tryz.prog 94 [.string x] w fun v W => v = .bool false := by
 refine cv_enter (N := 6) (f := [(0, .string x)]) Tryz.func94 rfl rfl rfl rfl fun Q hQ hE => ?_
 have hB := Below.refl w.heap.size w
 refine WC.seq fun K1 hK1 => ?_
 refine WC.region ?_
 refine WL.val (dx_assign rfl rfl) rfl rfl ?_
 refine WL.nil ?_
 refine hK1 ?_
 refine WC.seq fun K2 hK2 => ?_
 refine WC.region ?_
 refine WL.val (dx_move rfl rfl) rfl rfl ?_
 refine WL.val (dx_move rfl rfl) rfl rfl ?_
 refine WL.val (dv_Fz (dx_neqT rfl rfl rfl) rfl) rfl rfl ?_
 refine WL.val (dx_assign rfl rfl) rfl rfl ?_
 refine WL.nil ?_
 refine hK2 ?_
 refine WC.ret fun a_ ha_ => ?_
 exact hQ (cv_ret1 rfl (.tmp rfl) rfl hB ha_)

set_option maxHeartbeats 1000000 in
theorem nanS_v (x : ByteArray) (w : World) (L : List Nat) (hL : LL L w)  : CV Tryz.prog 83 [.string x] w fun v W => v = .bool false := by
 refine cv_enter (N := 6) (f := [(0, .string x)]) Tryz.func83 rfl rfl rfl rfl fun Q hQ hE => ?_
 have hB := Below.refl w.heap.size w
 refine WC.seq fun K1 hK1 => ?_
 refine WC.region ?_
 refine WL.val (dx_assign rfl rfl) rfl rfl ?_
 refine WL.nil ?_
 refine hK1 ?_
 refine WC.seq fun K2 hK2 => ?_
 refine WC.region ?_
 refine WL.val (dx_move rfl rfl) rfl rfl ?_
 refine WL.val (dx_move rfl rfl) rfl rfl ?_
 refine WL.val (dv_Fz (dx_neqT rfl rfl rfl) rfl) rfl rfl ?_
 refine WL.val (dx_assign rfl rfl) rfl rfl ?_
 refine WL.nil ?_
 refine hK2 ?_
 refine WC.ret fun a_ ha_ => ?_
 exact hQ (cv_ret1 rfl (.tmp rfl) rfl hB ha_)

set_option maxHeartbeats 1000000 in
theorem lessC_v (x y : ByteArray) (w : World) (L : List Nat) (hL : LL L w)  : CV Tryz.prog 82 [.string x, .string y] w fun v W => v = .bool (sless x y) := by
 refine cv_enter (N := 17) (f := [(0, .string x), (1, .string y)]) Tryz.func82 rfl rfl rfl rfl fun Q hQ hE => ?_
 have hB := Below.refl w.heap.size w
 refine WC.seq fun K1 hK1 => (WC.region (Pu rfl (WL.nil (hK1 (WC.seq fun K2 hK2 => (WC.region (Pu rfl ?_)))))))
 refine WL.get (dx_cv rfl Tryz.func94 rfl rfl rfl (nanC_v x w _ hL)) rfl rfl ?_
 rintro _ W4 ⟨rfl, b3⟩
 replace hB := below_then hB b3
 refine Pu rfl (Of rfl (Of rfl (Of rfl (Pu rfl (Pu rfl (Pu rfl (Pu rfl ?_)))))))
 refine WL.val (dx_lssT rfl rfl rfl) rfl rfl (Pu rfl (Pu rfl (WL.nil (hK2 ?_))))
 exact WC.ret fun a_ ha_ => hQ (cv_ret1 rfl (.tmp rfl) rfl hB ha_)

set_option maxHeartbeats 1000000 in
theorem bsearch_v (ts : List ByteArray) (x : ByteArray) (tv : Value) (w : World) (L : List Nat) (hL : LL L w) (h3 : RdF 1 L w tv (ts.map eS))  (hr : Rises ts) (hsm : ts.length ≤ 1000000000000) : CV Tryz.prog 71 [tv, .string x] w fun v W => v = .tuple #[.int .i64 ((lbT x ts : Nat) : Int), .bool (decide (ts[lbT x ts]? = some x))] := by
 refine cv_enter (N := 54) (f := [(0, tv), (1, .string x)]) Tryz.func71 rfl rfl rfl rfl fun Q hQ hE => ?_
 have hB := Below.refl w.heap.size w
 have h3m : ts.length ≤ maxLen := by have := h3.len; rwa [List.length_map] at this
 unfold maxLen at h3m
 refine Sq fun K1 hK1 => (Rg (Pu rfl (Pu rfl (Ni (hK1 (Sq fun K2 hK2 => (Rg ?_)))))))
 refine Pu rfl (Va (dx_lenFM rfl ty_slice_24 rfl h3) rfl rfl (Pu rfl (Ni (hK2 (Sq fun K3 hK3 => (Rg (Pu rfl ?_)))))))
 refine Pu rfl (Pu rfl (Ni (hK3 (Sq fun K4 hK4 => (WC.block ?_)))))
 refine WC.loop2 (fun (i : Nat) (j : Nat) => [(0, tv), (1, .string x), (6, .int .i64 (ts.length : Int)), (7, .int .i64 (i : Int)), (8, .int .i64 (j : Int))]) (fun (i : Nat) (j : Nat) W => i ≤ j ∧ j ≤ ts.length ∧ (∀ q a, q < i → ts[q]? = some a → sless a x = true) ∧ (∀ q a, j ≤ q → ts[q]? = some a → sless a x = false) ∧ Below w.heap.size w W ∧ LL (L) W ∧ RdF 1 (L) W tv (ts.map eS)) (fun (i : Nat) (j : Nat) => j - i) 0 ts.length (by repeat first | exact trivial | refine aR ?_ | refine aI (by omega) ?_) ⟨Nat.zero_le _, Nat.le_refl _, (fun q a hq => by omega), (fun q a hq ha => by rw [List.getElem?_eq_none hq] at ha; cases ha), hB, hL, h3⟩ ?_
 clear h3 hB hL
 rintro K5 i j W6 ⟨hi, hj, h1_, h2_, hB, hL, h3⟩ hK5
 refine Sq fun K7 hK7 => (Sq fun K8 hK8 => (Rg (Pu rfl (Pu rfl (Va (dx_lss rfl rfl rfl) rfl rfl (Ni (hK8 ?_)))))))
 refine WC.cond rfl (fun c9 => ?_) (fun c9 => ?_)
 ·
  replace c9 := dT c9
  refine WC.skip (hK7 (WC.block (Sq fun K10 hK10 => ?_)))
  obtain ⟨m, hm⟩ : ∃ k : Nat, k = (i + j) / 2 := ⟨_, rfl⟩
  have hm1 : i ≤ m ∧ m < j := by omega
  refine Rg (Pu rfl (Pu rfl (Va (dx_add (r := ((i + j : Nat) : Int)) rfl rfl rfl (by rw [wrap64_id (by omega)]; omega)) rfl rfl (Va (dx_conv (r := ((i + j : Nat) : Int)) rfl Tryz.underlying3 Tryz.underlying100 rfl (wrapu64_id (by omega))) rfl rfl (Va (dx_shr (r := (m : Int)) rfl rfl rfl (by decide) (by decide) (by show ((i + j : Nat) : Int) / 2 ^ 1 = _; omega)) rfl rfl (Va (dx_conv (r := (m : Int)) rfl Tryz.underlying100 Tryz.underlying3 rfl (wrap64_id (by omega))) rfl rfl (Pu rfl ?_)))))))
  refine Ni (hK10 (Sq fun K11 hK11 => (Rg (Pu rfl (Pu rfl ?_)))))
  obtain ⟨r12, e13⟩ : ∃ x, ts[m]? = some x := ⟨_, List.getElem?_eq_getElem (by omega)⟩
  refine Ge (dx_idxF m rfl ty_slice_24 rfl rfl h3 (by omega) (at_mapX e13)) rfl rfl ?_
  rintro u14 _ ⟨rfl, p15⟩
  refine Va (dx_loadP rfl ty_one_9 rfl p15) rfl rfl (Pu rfl ?_)
  refine Ge (dx_cv rfl Tryz.func82 rfl rfl rfl (lessC_v r12 x W6 _ hL)) rfl rfl ?_
  rintro _ W17 ⟨rfl, b16⟩
  replace h3 := h3.below b16
  replace hB := below_then hB b16
  replace hL := LL.below hL b16
  refine Ni (hK11 ?_)
  refine WC.cond rfl (fun c18 => ?_) (fun c18 => ?_)
  ·
   refine Rg (Pu rfl (Va (dx_add (r := ((m + 1 : Nat) : Int)) rfl rfl rfl (by rw [wrap64_id (by omega)]; omega)) rfl rfl (Pu rfl (Ni ?_))))
   exact hK5 (m + 1) j ⟨(by omega), (by omega), (fun q a hq ha => rises_ahead hr (i := m) (by omega) e13 c18 ha), h2_, hB, hL, h3⟩ (by omega) (by repeat first | exact trivial | refine aR ?_ | refine aI (by omega) ?_)
  ·
   refine Rg (Pu rfl (Pu rfl (Ni ?_)))
   exact hK5 i m ⟨(by omega), (by omega), h1_, (fun q a hq ha => rises_behind hr (i := m) hq e13 (by first | exact c18 | exact Bool.not_eq_true _ ▸ c18) ha), hB, hL, h3⟩ (by omega) (by repeat first | exact trivial | refine aR ?_ | refine aI (by omega) ?_)
 ·
  replace c9 := dF c9
  refine WC.exit ?_
  refine hK4 (Sq fun K19 hK19 => ?_)
  have hlb : lbT x ts = i := lbT_eq (by omega) h1_ (fun a ha => h2_ i a (by omega) ha)
  refine Rg (Pu rfl (Pu rfl (Pu rfl (Va (dx_lss rfl rfl rfl) rfl rfl (Pu rfl ?_)))))
  refine WL.split 35 rfl (fun g20 => ?_) (fun g20 => ?_)
  ·
   replace g20 := dT g20
   refine Pu rfl (Pu rfl ?_)
   obtain ⟨r21, e22⟩ : ∃ x, ts[i]? = some x := ⟨_, List.getElem?_eq_getElem (by omega)⟩
   refine Ge (dx_idxF i rfl ty_slice_24 rfl rfl h3 (by omega) (at_mapX e22)) rfl rfl ?_
   rintro u23 _ ⟨rfl, p24⟩
   refine Va (dx_loadP rfl ty_one_9 rfl p24) rfl rfl (Pu rfl (Va (dx_eqlT rfl rfl rfl) rfl rfl (Pu rfl ?_)))
   refine WL.split 42 rfl (fun g25 => ?_) (fun g25 => ?_)
   ·
    replace g25 := dT g25
    refine Of rfl (Of rfl (Of rfl (Of rfl (Of rfl (Of rfl (Of rfl (Of rfl ?_)))))))
    refine Of rfl (Pu rfl (Pu rfl (Pu rfl (Pu rfl (Ni (hK19 ?_))))))
    exact WC.ret fun a_ ha_ => hQ (cv_ret2 rfl (.tmp rfl) (.tmp rfl) (by rw [hlb]; exact congrArg (fun b => Value.tuple #[.int .i64 (i : Int), .bool b]) (decide_eq_true (by rw [e22]; congr 1 <;> assumption)).symm) hB ha_)
   ·
    replace g25 := dF g25
    refine Pu rfl (Pu rfl ?_)
    refine Ge (dx_idxF i rfl ty_slice_24 rfl rfl h3 (by omega) (at_mapX e22)) rfl rfl ?_
    rintro u26 _ ⟨rfl, p27⟩
    refine Va (dx_loadP rfl ty_one_9 rfl p27) rfl rfl ?_
    refine Ge (dx_cv rfl Tryz.func83 rfl rfl rfl (nanS_v r21 W6 _ hL)) rfl rfl ?_
    rintro _ W29 ⟨rfl, b28⟩
    replace hB := below_then hB b28
    refine Pu rfl (Of rfl (Of rfl (Pu rfl (Pu rfl (Pu rfl (Pu rfl (Pu rfl ?_)))))))
    refine Ni (hK19 ?_)
    exact WC.ret fun a_ ha_ => hQ (cv_ret2 rfl (.tmp rfl) (.tmp rfl) (by rw [hlb]; exact congrArg (fun b => Value.tuple #[.int .i64 (i : Int), .bool b]) (decide_eq_false (by rw [e22]; intro e_; cases e_; exact absurd rfl (by assumption))).symm) hB ha_)
  ·
   replace g20 := dF g20
   refine Of rfl (Of rfl (Of rfl (Of rfl (Of rfl (Of rfl (Of rfl (Of rfl ?_)))))))
   refine Of rfl (Of rfl (Of rfl (Of rfl (Of rfl (Of rfl (Of rfl (Of rfl ?_)))))))
   refine Of rfl (Pu rfl (Pu rfl (Pu rfl (Ni (hK19 ?_)))))
   exact WC.ret fun a_ ha_ => hQ (cv_ret2 rfl (.tmp rfl) (.tmp rfl) (by rw [hlb]; exact congrArg (fun b => Value.tuple #[.int .i64 (i : Int), .bool b]) (decide_eq_false (by rw [List.getElem?_eq_none (by omega)]; intro e_; cases e_)).symm) hB ha_)

theorem insOT_v (rs vs : List (List Value)) (i : Nat) (B C : Nat) (u y : Value) (w : World) (hO : OwS 1 w u rs B) (hV : OwS 1 w y vs C) (hCB : C ≠ B) (hi : i ≤ rs.length) (hvs : vs ≠ []) (hsm : (rs.length + vs.length) * 16 ≤ 140737488355328) (hone : ∀ r ∈ rs, ∀ u ∈ r, u.oneCell' = true) (hvone : ∀ r ∈ vs, ∀ u ∈ r, u.oneCell' = true) :
  CW Tryz.prog 72 [u, .int .i64 (i : Int), y] w B fun v W => ∃ B', OwS 1 W v (rs.take i ++ (vs ++ rs.drop i)) B' ∧ (B' = B ∨ w.heap.size ≤ B') := by
 have hlt := hO.lt
 obtain ⟨sp, rfl, h1⟩ := hO.open
 obtain ⟨vp, rfl, h2⟩ := hV.open
 exact insertT_v rs sp vs vp i B C w [] (fun x hx => by rw [List.mem_singleton.1 hx]; exact hlt) h1 h2 hCB hi hvs hsm hone hvone
theorem insNT_v (vs : List (List Value)) (C : Nat) (y : Value) (w : World) (i : Int) (hi : i = 0) (hV : OwS 1 w y vs C) (hvs : vs ≠ []) (hsm : vs.length * 16 ≤ 140737488355328) : CV Tryz.prog 72 [.slice none 0 0, .int .i64 i, y] w fun v W => ∃ B, w.heap.size ≤ B ∧ OwS 1 W v vs B := by
 subst hi
 obtain ⟨vp, rfl, h2⟩ := hV.open
 exact insertNT_v vs vp C w [] (LL.nil _) h2 hvs hsm
theorem insOV_v (rs vs : List (List Value)) (i : Nat) (B C : Nat) (u y : Value) (w : World) (hO : OwS 5 w u rs B) (hV : OwS 5 w y vs C) (hCB : C ≠ B) (hi : i ≤ rs.length) (hvs : vs ≠ []) (hsm : (rs.length + vs.length) * 80 ≤ 140737488355328) (hone : ∀ r ∈ rs, ∀ u ∈ r, u.oneCell' = true) (hvone : ∀ r ∈ vs, ∀ u ∈ r, u.oneCell' = true) :
  CW Tryz.prog 73 [u, .int .i64 (i : Int), y] w B fun v W => ∃ B', OwS 5 W v (rs.take i ++ (vs ++ rs.drop i)) B' ∧ (B' = B ∨ w.heap.size ≤ B') := by
 have hlt := hO.lt
 obtain ⟨sp, rfl, h1⟩ := hO.open
 obtain ⟨vp, rfl, h2⟩ := hV.open
 exact insertV_v rs sp vs vp i B C w [] (fun x hx => by rw [List.mem_singleton.1 hx]; exact hlt) h1 h2 hCB hi hvs hsm hone hvone
theorem insNV_v (vs : List (List Value)) (C : Nat) (y : Value) (w : World) (i : Int) (hi : i = 0) (hV : OwS 5 w y vs C) (hvs : vs ≠ []) (hsm : vs.length * 80 ≤ 140737488355328) : CV Tryz.prog 73 [.slice none 0 0, .int .i64 i, y] w fun v W => ∃ B, w.heap.size ≤ B ∧ OwS 5 W v vs B := by
 subst hi
 obtain ⟨vp, rfl, h2⟩ := hV.open
 exact insertNV_v vs vp C w [] (LL.nil _) h2 hvs hsm
abbrev StO := List ByteArray × List Js
def pairN (s : ByteArray) (vs : Nat → Except Int (Js × Nat)) (nm : ByteArray) (k1 : Nat) (st : StO) : Except Int (StO × Nat) :=
 if st.1[lbT nm st.1]? = some nm then .error 6 else if takeS s (blankS s k1) 58 = true then (match vs (blankS s (blankS s k1 + 1)) with
  | .error e => .error e
  | .ok (t, k5) => .ok ((insA (lbT nm st.1) nm st.1, insA (lbT nm st.1) t st.2), k5)) else .error 2
def pairS (s : ByteArray) (vs : Nat → Except Int (Js × Nat)) (k : Nat) (st : StO) : Except Int (StO × Nat) :=
 if takeS s k 34 = true then (match quoS s k with
  | none => .error 2
  | some (l, k1) => pairN s vs (strOfNums l) k1 st) else .error 2
section
variable {s nm : ByteArray} {vs : Nat → Except Int (Js × Nat)} {k k1 k2 k3 k4 k5 a : Nat} {st : StO} {l : List Int} {e c d : Int} {t : Js}
theorem pairS_0 (h : takeS s k 34 = false) : pairS s vs k st = .error 2 := by unfold pairS; rw [h]; rfl
theorem pairS_q (h : takeS s k 34 = true) (hq : quoS s k = none) : pairS s vs k st = .error 2 := by unfold pairS; rw [h, if_pos rfl, hq]
theorem pairS_n (h : takeS s k 34 = true) (hq : quoS s k = some (l, k1)) (hn : nm = strOfNums l) : pairS s vs k st = pairN s vs nm k1 st := by subst hn; unfold pairS; rw [h, if_pos rfl, hq]
theorem pairN_t (ha : a = lbT nm st.1) (h : st.1[a]? = some nm) : pairN s vs nm k1 st = .error 6 := by subst ha; unfold pairN; rw [if_pos h]
theorem pairN_c (ha : a = lbT nm st.1) (h : ¬ st.1[a]? = some nm) (e2 : k2 = blankS s k1) (q : takeS s k2 58 = false) : pairN s vs nm k1 st = .error 2 := by subst ha e2; unfold pairN; rw [if_neg h, q]; rfl
theorem pairN_e (ha : a = lbT nm st.1) (h : ¬ st.1[a]? = some nm) (e2 : k2 = blankS s k1) (q : takeS s k2 58 = true) (e3 : k3 = k2 + 1) (e4 : k4 = blankS s k3) (hv : vs k4 = .error e) : pairN s vs nm k1 st = .error e := by subst ha e4 e3 e2; unfold pairN; rw [if_neg h, q, if_pos rfl, hv]
theorem pairN_k (ha : a = lbT nm st.1) (h : ¬ st.1[a]? = some nm) (e2 : k2 = blankS s k1) (q : takeS s k2 58 = true) (e3 : k3 = k2 + 1) (e4 : k4 = blankS s k3) (hv : vs k4 = .ok (t, k5)) : pairN s vs nm k1 st = .ok ((insA a nm st.1, insA a t st.2), k5) := by subst ha e4 e3 e2; unfold pairN; rw [if_neg h, q, if_pos rfl, hv]
theorem take_nc (h2 : k < s.size → c = atS s k) (h : ¬ c = d) : takeS s k d = false := by
 unfold takeS
 cases hlt : decide (k < s.size) with
 | false => rfl
 | true => rw [Bool.true_and]; exact decide_eq_false (fun e => h ((h2 (of_decide_eq_true hlt)).trans e))
end
def MembI (n b : Nat) (L : List Nat) (nv : Value) (ns : List ByteArray) (iv : Value) (ts : List Tr) (W : World) : Prop := (∀ x ∈ L, x < b) ∧ ((nv = .slice none 0 0 ∧ iv = .slice none 0 0 ∧ ns = [] ∧ ts = []) ∨ ∃ Bn Bi, Bn ≠ Bi ∧ b ≤ Bn ∧ b ≤ Bi ∧ OwS 1 W nv (ns.map eS) Bn ∧ OwS 5 W iv (ts.map encT) Bi ∧ RdTs n (Bn :: Bi :: L) W ts)
theorem MembI.chgL {n b : Nat} {L : List Nat} {nv iv : Value} {ns : List ByteArray} {ts : List Tr} {W W' : World} (h : MembI n b L nv ns iv ts W) {P : Nat} (g : Chg P W W') (hP : P ∈ L) : MembI n b L nv ns iv ts W' := by
  obtain ⟨h0, h | ⟨Bn, Bi, h1, h2, h3, h4, h5, h6⟩⟩ := h
  · exact ⟨h0, .inl h⟩
  · have := h0 P hP
    exact ⟨h0, .inr ⟨Bn, Bi, h1, h2, h3, h4.chgL g (by omega), h5.chgL g (by omega), h6.chgL g (.tail _ (.tail _ hP))⟩⟩
theorem MembI.below {n b : Nat} {L : List Nat} {nv iv : Value} {ns : List ByteArray} {ts : List Tr} {W W' : World} (h : MembI n b L nv ns iv ts W) (g : Below W.heap.size W W') : MembI n b L nv ns iv ts W' := by
 obtain ⟨h0, h | ⟨Bn, Bi, h1, h2, h3, h4, h5, h6⟩⟩ := h
 · exact ⟨h0, .inl h⟩
 · exact ⟨h0, .inr ⟨Bn, Bi, h1, h2, h3, h4.below g, h5.below g, h6.below g⟩⟩
theorem MembI.only {n b : Nat} {L : List Nat} {nv iv : Value} {ns : List ByteArray} {ts : List Tr} {W W' : World} (h : MembI n b L nv ns iv ts W) {C : Nat} (g : Only C W W') (hC : C ∈ L) : MembI n b L nv ns iv ts W' := by
  obtain ⟨h0, h | ⟨Bn, Bi, h1, h2, h3, h4, h5, h6⟩⟩ := h
  · exact ⟨h0, .inl h⟩
  · have := h0 C hC
    exact ⟨h0, .inr ⟨Bn, Bi, h1, h2, h3, h4.other g (by omega), h5.other g (by omega), h6.only g (.tail _ (.tail _ hC))⟩⟩
theorem MembI.one {n b : Nat} {L : List Nat} {nv iv : Value} {ns : List ByteArray} {ts : List Tr} {W : World} (h : MembI n b L nv ns iv ts W) : nv.oneCell' = true ∧ iv.oneCell' = true := by
 obtain ⟨h0, ⟨rfl, rfl, _⟩ | ⟨Bn, Bi, h1, h2, h3, h4, h5, h6⟩⟩ := h
 · exact ⟨rfl, rfl⟩
 · exact ⟨h4.one, h5.one⟩
theorem MembI.tree {n b : Nat} {L L' : List Nat} {nv iv : Value} {ns : List ByteArray} {ts : List Tr} {W : World} (h : MembI n b L nv ns iv ts W) (hl : ∀ x, x ∈ L' → x ∈ L) (k m : Int) (t : ByteArray) : RdT (n + 1) L' W (.mk k m t nv ns iv ts) := by
 obtain ⟨h0, ⟨rfl, rfl, rfl, rfl⟩ | ⟨Bn, Bi, h1, h2, h3, h4, h5, h6⟩⟩ := h
 · exact ⟨RdF.nil (by decide), RdF.nil (by decide), fun c hc => by cases hc⟩
 · exact ⟨h4.rd (fun hx => by have := h0 Bn (hl Bn hx); omega), h5.rd (fun hx => by have := h0 Bi (hl Bi hx); omega), fun c hc => (h6 c hc).less fun x hx => .tail _ (.tail _ (hl x hx))⟩
abbrev vO (nv iv : Value) : List Value := [.int .i64 6, .int .i64 0, .string ⟨#[]⟩, nv, iv]
def PairI (n b V : Nat) (L : List Nat) (st : StO) (W : World) : Prop := ∃ nv iv ts, ts.map Tr.er = st.2 ∧ Rises st.1 ∧ st.1.length = ts.length ∧ Blk W V (vO nv iv) ∧ MembI n b L nv st.1 iv ts W
def ObjI (n b Bp V P : Nat) (L : List Nat) (st : StO) (W : World) : Prop := Blk W Bp [.pointer (some ⟨P, 0, none⟩)] ∧ PairI n b V L st W
theorem fiveO {V : Nat} {nv iv : Value} {W : World} (h : Blk W V (vO nv iv)) (h1 : nv.oneCell' = true) (h2 : iv.oneCell' = true) : FiveE V W := ⟨_, rfl, oc_cons rfl (oc_cons rfl (oc_cons rfl (oc_cons h1 (oc_cons h2 oc_nil)))), h⟩
theorem objI_five {n b Bp V P : Nat} {L : List Nat} : ∀ (st : StO) (W : World), ObjI n b Bp V P L st W → FiveE V W := fun _ _ ⟨_, _, _, _, _, _, _, h2, h3⟩ => fiveO h2 h3.one.1 h3.one.2
theorem objI_chg {n b Bp V P : Nat} {L : List Nat} (h1 : Bp ≠ P) (h2 : V ≠ P) (hP : P ∈ L) : ∀ (st : StO) (W W' : World), ObjI n b Bp V P L st W → Chg P W W' → ObjI n b Bp V P L st W' := fun _ _ _ ⟨a1, nv, iv, ts, he, hr, hl, a2, a3⟩ g => ⟨a1.chg g h1, nv, iv, ts, he, hr, hl, a2.chg g h2, a3.chgL g hP⟩
def objS (s : ByteArray) (vs : Nat → Except Int (Js × Nat)) (k : Nat) : Except Int (Js × Nat) := match memS s (pairS s vs) 125 k ([], []) with
 | .error e => .error e
 | .ok (st, k') => .ok (.mk 6 0 ⟨#[]⟩ st.1 st.2, k')
def H3 (A : Bool) (W0 : World) (D : Nat) (iv : Value) (rows : List (List Value)) (l8 : Bool) (W : World) : Prop := Chg D W0 W ∧ (A = false → l8 = false → OwS 5 W iv rows D)
def rel3 (A : Bool) (D : Nat) : RelL := fun k W W' => if k = 8 then (if A = true then Below W.heap.size W W' else Chg D W W') else Below W.heap.size W W'
def p7 (A : Bool) (W0 : World) (D : Nat) (tr : List Value) (u : Value) (W : World) : Prop := ∃ C, (A = false → C ≠ D) ∧ W0.heap.size ≤ C ∧ OwS 5 W u [tr] C
def p8 (A : Bool) (W0 : World) (D : Nat) (R : List (List Value)) (u : Value) (W : World) : Prop := ∃ B, ((A = false ∧ B = D) ∨ W0.heap.size ≤ B) ∧ OwS 5 W u R B
abbrev sd3 (A : Bool) (W0 : World) (V D a : Nat) (iv : Value) (tr : List Value) (R : List (List Value)) : List (Option Tmp × VS) :=
 [(some 65, .is (.pointer (some ⟨V, 0, none⟩))), (some 66, .is (.pointer (some ⟨V, 0, none⟩))), (some 67, .is (.pointer (some ⟨V, 0, none⟩))), (some 68, .is (.pointer (some ⟨V, 4, none⟩))), (some 69, .is iv), (some 70, .is (.int .i64 (a : Int))), (some 71, .is (.agg tr.toArray)), (some 72, .by (p7 A W0 D tr)), (some 73, .by (p8 A W0 D R))]
theorem p7_rel {A : Bool} {W0 W W' : World} {D i : Nat} {tr : List Value} {u : Value} (hr : rel3 A D i W W') (h : p7 A W0 D tr u W) : p7 A W0 D tr u W' := by
 obtain ⟨C, h1, h2, h3⟩ := h
 refine ⟨C, h1, h2, ?_⟩
 unfold rel3 at hr
 cases A with
 | true => simp at hr; exact h3.below hr
 | false =>
  split at hr
  · exact h3.chgL hr (h1 rfl)
  · exact h3.below hr
theorem p8_rel {A : Bool} {W0 W W' : World} {D i : Nat} {R : List (List Value)} {u : Value} (hi : i ≠ 8) (hr : rel3 A D i W W') (h : p8 A W0 D R u W) : p8 A W0 D R u W' := by
 obtain ⟨C, h1, h3⟩ := h
 unfold rel3 at hr
 rw [if_neg hi] at hr
 exact ⟨C, h1, h3.below hr⟩
theorem mono3 {A : Bool} {W0 : World} {V D a m : Nat} {iv : Value} {tr : List Value} {R : List (List Value)} {dl : List (List Nat)} : MonoL m (rel3 A D) (sd3 A W0 V D a iv tr R) dl := by
 intro i hi j hne hnd u W W' hr h
 match j, hne, h with
 | 0, _, h => exact h
 | 1, _, h => exact h
 | 2, _, h => exact h
 | 3, _, h => exact h
 | 4, _, h => exact h
 | 5, _, h => exact h
 | 6, _, h => exact h
 | 7, _, h => exact p7_rel hr h
 | 8, hne, h => exact p8_rel (fun e => hne e.symm) hr h
 | _ + 9, _, _ => exact trivial
theorem begin3 {A : Bool} {W0 : World} {D : Nat} {iv : Value} {rows : List (List Value)} (hA : A = false → OwS 5 W0 iv rows D) : H3 A W0 D iv rows false W0.drew := by
 have hb : Below W0.heap.size W0 W0.drew := below_draws (Below.refl _ _) 1
 exact ⟨(Chg.refl D W0).thenB hb, fun a _ => (hA a).below hb⟩
theorem rel_o3 {A : Bool} {D k : Nat} {W W' : World} (h8 : k ≠ 8) (h : Below W.heap.size W W') : rel3 A D k W W' := by unfold rel3; rw [if_neg h8]; exact h
theorem lit3 {A : Bool} {W0 W W' : World} {D : Nat} {iv : Value} {rows : List (List Value)} {l8 : Bool} (h : H3 A W0 D iv rows l8 W) (hb : Below W.heap.size W W') : H3 A W0 D iv rows l8 W' := ⟨h.1.thenB hb, fun a b => (h.2 a b).below hb⟩
theorem Chg.toBelow {D : Nat} {W W' : World} (h : Chg D W W') (hD : W.heap.size ≤ D) : Below W.heap.size W W' := ⟨h.os, h.tape, h.output, h.size, fun k hk => h.block k hk (by omega)⟩
theorem insN_map {α β : Type} (f : α → β) (x : α) (k : Nat) : (insA k x []).map f = [f x] := by
 unfold insA
 simp
abbrev PairAt (n : Nat) (vs : Nat → Except Int (Js × Nat)) (s : ByteArray) (dp : Nat) : Prop := ∀ (b V P : Nat) (L : List Nat) (ka : Nat) (st : StO) (W : World), LL L W → P ∈ L → V ∈ L → V ≠ P → (∀ x ∈ L, x < b) → b ≤ W.heap.size → ka ≤ s.size → Blk W P (psC s ka dp) → PairI n b V L st W → st.1.length ≤ ka →
 CX Tryz.prog 56 [.pointer (some ⟨P, 0, none⟩), .pointer (some ⟨V, 0, none⟩)] W (ChgV b P V) (fun v W' => (∃ k' st', v = .int .i64 0 ∧ pairS s vs ka st = .ok (st', k') ∧ ka < k' ∧ k' ≤ s.size ∧ st'.1.length ≤ k' ∧ PairI n b V L st' W' ∧ Blk W' P (psC s k' dp)) ∨ (∃ k' e, v = .int .i64 e ∧ e ≠ 0 ∧ pairS s vs ka st = .error e ∧ k' ≤ s.size ∧ FiveE V W' ∧ Blk W' P (psC s k' dp)))
abbrev ObjAt (n : Nat) (vs : Nat → Except Int (Js × Nat)) (s : ByteArray) (dp : Nat) : Prop := ∀ (b Bp V P : Nat) (L : List Nat) (ka : Nat) (st : StO) (W : World), LL L W → P ∈ L → V ∈ L → Bp ∈ L → Bp ≠ P → V ≠ P → Bp ≠ V → (∀ x ∈ L, x < b) → b ≤ W.heap.size → ka ≤ s.size → Blk W P (psC s ka dp) → ObjI n b Bp V P L st W → st.1.length ≤ ka →
 CX Tryz.prog 55 [.pointer (some ⟨Bp, 0, none⟩), .pointer (some ⟨V, 0, none⟩)] W (ChgV b P V) (fun v W' => (∃ k' st', v = .int .i64 0 ∧ pairS s vs ka st = .ok (st', k') ∧ ka < k' ∧ k' ≤ s.size ∧ st'.1.length ≤ k' ∧ ObjI n b Bp V P L st' W' ∧ Blk W' P (psC s k' dp)) ∨ (∃ k' e, v = .int .i64 e ∧ e ≠ 0 ∧ pairS s vs ka st = .error e ∧ k' ≤ s.size ∧ FiveE V W' ∧ Blk W' P (psC s k' dp)))
theorem bsearchA_v (ts : List ByteArray) (x : ByteArray) (tv : Value) (w : World) (L : List Nat) (hL : LL L w) (h3 : RdF 1 L w tv (ts.map eS)) (hr : Rises ts) (hsm : ts.length ≤ 1000000000000) : CV Tryz.prog 71 [tv, .string x] w fun v W => ∃ k : Nat, k = lbT x ts ∧ k ≤ ts.length ∧ v = .tuple #[.int .i64 (k : Int), .bool (decide (ts[k]? = some x))] :=
 (bsearch_v ts x tv w L hL h3 hr hsm).mono fun v w' _ h => ⟨_, rfl, lbT_le x ts, h⟩
set_option maxHeartbeats 1000000 in
theorem pair_v (n : Nat) (vs : Nat → Except Int (Js × Nat)) (s : ByteArray) (dp : Nat) (hs : s.size ≤ 1000000) (hv : ValAt (n + 1) vs s dp) : PairAt (n + 1) vs s dp := by
 intro b V P L ka st w hL hPL hVL hVP hLb hbw hk hp hI hlka
 obtain ⟨ns, js⟩ := st
 obtain ⟨nv, iv, ts, he, hris, hlen, hV, hI0, hI⟩ := hI
 simp only at he hris hlen hlka hI
 subst he
 have hsm : ts.length ≤ 1000000 := by omega
 rcases hI with ⟨rfl, rfl, rfl, rfl⟩ | ⟨Bn, Bi, hni, hbn, hbi, hOn, hOi, hts⟩
 ·
  refine cx_enter (N := 76) (f := [(0, .pointer (some ⟨P, 0, none⟩)), (1, .pointer (some ⟨V, 0, none⟩))]) Tryz.func56 rfl rfl rfl rfl fun Q hQ hE_ => ?_
  have hB := ChgV.refl b P V w
  refine Sq fun K1 hK1 => (Rg (Pu rfl (Ni (hK1 (Sq fun K2 hK2 => (Sq fun K3 hK3 => (Rg ?_)))))))
  refine Pu rfl (Va (dx_nilCheck rfl rfl) rfl rfl (Va (dx_fld (o1 := 0) rfl ty_fld_39_0_0 rfl rfl) rfl rfl ?_))
  refine Ge (dx_cv rfl Tryz.func26 rfl rfl rfl (peek_c s P ka dp w _ hL hPL hs (by omega) hp)) rfl rfl ?_
  rintro _ W25 ⟨⟨c19, rfl, hc20, hc21, hc22, hc23⟩, b24⟩
  replace hp := hp.below b24
  replace hV := hV.below b24
  replace hB := hB.both (.of_below (b24.mono (Nat.le_trans hbw hB.size)))
  replace hL := LL.below hL b24
  refine Va (dx_neq rfl rfl rfl) rfl rfl (Ni (hK3 ?_))
  refine WC.cond rfl (fun c26 => ?_) (fun c26 => ?_)
  ·
   replace c26 := bnot_t c26
   replace c26 := dF c26
   refine Sq fun K27 hK27 => (Rg (Pu rfl (Ni (hK27 ?_))))
   exact WC.ret fun a_ ha_ => hQ (cx_ret1 rfl (.tmp rfl) (.inr ⟨ka, 2, rfl, by decide, pairS_0 (take_nc hc22 (by assumption)), by omega, (fiveO hV rfl rfl), hp⟩) hB ha_)
  ·
   replace c26 := bnot_f c26
   replace c26 := dT c26
   refine WC.skip (hK2 (Sq fun K28 hK28 => (Rg (Pu rfl ?_))))
   refine Ge (dx_cw rfl Tryz.func29 rfl rfl rfl (quoted_v s P ka dp W25 _ hL hPL hs (by omega) hp (take_of (by rcases Nat.lt_or_ge ka s.size with h_ | h_; exact h_; (have := hc23 h_; omega)) (by have h_ : ka < s.size := (by rcases Nat.lt_or_ge ka s.size with h_ | h_; exact h_; (have := hc23 h_; omega)); have := hc22 h_; omega)))) rfl rfl ?_
   rintro _ W56 ⟨(⟨k42, l44, rfl, hw45, hw46, hw47, hw48, hw49, hp57⟩ | ⟨k43, rfl, hw50, hw51, hp57⟩), g55⟩
   ·
    replace hV := hV.chg g55 hVP
    replace hB := hB.chg g55 (Nat.le_trans hbw hB.size)
    replace hL := hL.chg g55
    obtain ⟨nm54, hnm⟩ : ∃ x, x = strOfNums l44 := ⟨_, rfl⟩
    rw [← hnm]
    refine Pu rfl (Pu rfl (Pu rfl (Pu rfl (Pu rfl (Ni (hK28 (Sq fun K58 hK58 => ?_)))))))
    refine Sq fun K59 hK59 => (Rg (Pu rfl (Va (dx_neq rfl rfl rfl) rfl rfl (Ni (hK59 (WC.condF rfl (WC.skip ?_)))))))
    refine hK58 (Sq fun K60 hK60 => (Rg (Pu rfl (Va (dx_nilCheck rfl rfl) rfl rfl (Va (dx_fld (o1 := 3) rfl ty_fld_27_3_3 rfl rfl) rfl rfl (Va (dx_load rfl ty_one_24 rfl (hV.cell (k := 3) rfl)) rfl rfl (Pu rfl ?_)))))))
    refine Ge (dx_cv rfl Tryz.func71 rfl rfl rfl (bsearchA_v ([] : List ByteArray) nm54 _ W56 [] (LL.nil _) (RdF.nil (L := []) (by decide)) hris (by first | omega | simp))) rfl rfl ?_
    rintro _ W62 ⟨⟨at_, hat, hatl, rfl⟩, b61⟩
    replace hp57 := hp57.below b61
    replace hV := hV.below b61
    replace hB := hB.both (.of_below (b61.mono (Nat.le_trans hbw hB.size)))
    replace hL := LL.below hL b61
    have hat0 : at_ = 0 := by simpa using hatl
    refine Pu rfl (Pu rfl (Pu rfl (Pu rfl (Pu rfl (Ni (hK60 (Sq fun K63 hK63 => ?_)))))))
    refine Sq fun K64 hK64 => (Rg (Pu rfl (Ni (hK64 ?_))))
    refine WC.cond rfl (fun c65 => ?_) (fun c65 => ?_)
    ·
     replace c65 := dT c65
     refine Sq fun K66 hK66 => (Rg (Pu rfl (Ni (hK66 ?_))))
     exact WC.ret fun a_ ha_ => hQ (cx_ret1 rfl (.tmp rfl) (.inr ⟨k42, 6, rfl, by decide, (pairS_n (take_of (by rcases Nat.lt_or_ge ka s.size with h_ | h_; exact h_; (have := hc23 h_; omega)) (by have h_ : ka < s.size := (by rcases Nat.lt_or_ge ka s.size with h_ | h_; exact h_; (have := hc23 h_; omega)); have := hc22 h_; omega)) hw45 hnm).trans (pairN_t hat (by assumption)), by omega, (fiveO hV rfl rfl), hp57⟩) hB ha_)
    ·
     replace c65 := dF c65
     refine WC.skip (hK63 (Sq fun K67 hK67 => (Rg (Pu rfl (Va (dx_nilCheck rfl rfl) rfl rfl (Va (dx_fld (o1 := 0) rfl ty_fld_39_0_0 rfl rfl) rfl rfl ?_))))))
     refine Ge (dx_cw rfl Tryz.func12 rfl rfl rfl (blanks_v s P k42 dp W62 _ hL hPL hs (by omega) hp57)) rfl rfl ?_
     rintro _ W78 ⟨hp79, g77⟩
     replace hV := hV.chg g77 hVP
     replace hB := hB.chg g77 (Nat.le_trans hbw hB.size)
     replace hL := hL.chg g77
     obtain ⟨k74, hk75⟩ : ∃ k, k = blankS s k42 := ⟨_, rfl⟩
     rw [← hk75] at hp79
     have hk76 := blankS_le (s := s) (k := k42) (by omega)
     rw [← hk75] at hk76
     refine Ni (hK67 (Sq fun K80 hK80 => (Sq fun K81 hK81 => (Rg (Pu rfl (Va (dx_nilCheck rfl rfl) rfl rfl (Va (dx_fld (o1 := 0) rfl ty_fld_39_0_0 rfl rfl) rfl rfl ?_)))))))
     refine Ge (dx_cw rfl Tryz.func25 rfl rfl rfl (take_v 58 s P k74 dp W78 _ hL hPL hs (by omega) hp79)) rfl rfl ?_
     rintro _ W92 ⟨⟨k88, rfl, hk89, hk90, hp93⟩, g91⟩
     replace hV := hV.chg g91 hVP
     replace hB := hB.chg g91 (Nat.le_trans hbw hB.size)
     replace hL := hL.chg g91
     cases hT94 : takeS s k74 58 with
     | false =>
      rw [hT94] at hk89
      replace hk89 : k74 = k88 := Eq.symm hk89
      subst hk89
      refine Va (dx_not rfl rfl) rfl rfl (Ni (hK81 (WC.condT rfl (Sq fun K95 hK95 => (Rg (Pu rfl (Ni ?_)))))))
      refine hK95 ?_
      exact WC.ret fun a_ ha_ => hQ (cx_ret1 rfl (.tmp rfl) (.inr ⟨k74, 2, rfl, by decide, (pairS_n (take_of (by rcases Nat.lt_or_ge ka s.size with h_ | h_; exact h_; (have := hc23 h_; omega)) (by have h_ : ka < s.size := (by rcases Nat.lt_or_ge ka s.size with h_ | h_; exact h_; (have := hc23 h_; omega)); have := hc22 h_; omega)) hw45 hnm).trans (by apply pairN_c (a := at_) <;> first | assumption | omega), by omega, (fiveO hV rfl rfl), hp93⟩) hB ha_)
     | true =>
      rw [hT94] at hk89
      have hthT94 := take_t hT94
      replace hk89 : k88 = k74 + 1 := hk89
      refine Va (dx_not rfl rfl) rfl rfl (Ni (hK81 (WC.condF rfl (WC.skip (hK80 (Sq fun K96 hK96 => (Rg ?_)))))))
      refine Pu rfl (Va (dx_nilCheck rfl rfl) rfl rfl (Va (dx_fld (o1 := 0) rfl ty_fld_39_0_0 rfl rfl) rfl rfl ?_))
      refine Ge (dx_cw rfl Tryz.func12 rfl rfl rfl (blanks_v s P k88 dp W92 _ hL hPL hs (by omega) hp93)) rfl rfl ?_
      rintro _ W107 ⟨hp108, g106⟩
      replace hV := hV.chg g106 hVP
      replace hB := hB.chg g106 (Nat.le_trans hbw hB.size)
      replace hL := hL.chg g106
      obtain ⟨k103, hk104⟩ : ∃ k, k = blankS s k88 := ⟨_, rfl⟩
      rw [← hk104] at hp108
      have hk105 := blankS_le (s := s) (k := k88) (by omega)
      rw [← hk104] at hk105
      refine Ni (hK96 (Sq fun K109 hK109 => (Rg (Pu rfl ?_))))
      refine Ge (dx_cw rfl Tryz.func13 rfl rfl rfl (hv P k103 W107 _ hL hPL (by omega) hp108)) rfl rfl ?_
      rintro _ W137 ⟨(⟨k123, t125, rfl, hw127, hw128, hw129, hw130, hp138⟩ | ⟨k124, e126, rfl, hw131, hw132, hw133, hp138⟩), g136⟩
      ·
       replace hV := hV.chg g136 hVP
       replace hB := hB.chg g136 (Nat.le_trans hbw hB.size)
       replace hL := hL.chg g136
       refine Pu rfl (Pu rfl (Pu rfl ?_))
       refine Ge (dx_alloc rfl ty_zero_27 rfl) rfl rfl ?_
       rintro _ W139 ⟨rfl, k140, b141, z142⟩
       have n143 : P ≠ W137.heap.size := Nat.ne_of_lt hp138.lt
       have n144 : V ≠ W137.heap.size := Nat.ne_of_lt hV.lt
       have l145 := hB.size
       replace hw128 := hw128.more b141 (Nat.le_refl _)
       replace hp138 := hp138.below b141
       replace hV := hV.below b141
       replace hB := hB.both (.of_below (b141.mono (Nat.le_trans hbw hB.size)))
       replace hL := LL.more hL z142
       refine WL.do (dx_store (cs' := [.int .i64 t125.kind, .int .i64 t125.num, .string t125.text, t125.nv, t125.iv]) (vs := [.int .i64 t125.kind, .int .i64 t125.num, .string t125.text, t125.nv, t125.iv]) rfl ty_size_27_5 rfl rfl rfl (oC rfl (oC rfl (oC rfl (oC (hw128.1).one (oC (hw128.2.1).one oc_nil))))) k140 rfl (nB rfl) rfl) rfl ?_
       rintro _ W146 ⟨k148, o147⟩
       replace hp138 := hp138.other o147 n143
       replace hV := hV.other o147 n144
       clear k140
       replace hw128 := hw128.only o147 (.head _)
       replace hB := hB.both (.of_only o147 (.inr (.inr (Nat.le_trans hbw l145))))
       replace hL := LL.only hL o147
       refine Pu rfl (Ni (hK109 (Sq fun K149 hK149 => (Sq fun K150 hK150 => (Rg (Pu rfl (Va (dx_neq rfl rfl rfl) rfl rfl ?_)))))))
       refine Ni (hK150 (WC.condF rfl (WC.skip (hK149 (Sq fun K151 hK151 => (Rg (Pu rfl ?_)))))))
       refine Pu rfl (Va (dx_nilCheck rfl rfl) rfl rfl (Va (dx_fld (o1 := 3) rfl ty_fld_27_3_3 rfl rfl) rfl rfl (Va (dx_load rfl ty_one_24 rfl (hV.cell (k := 3) rfl)) rfl rfl (Pu rfl (Pu rfl ?_)))))
       refine Ge (dx_lit1 (r := [.string nm54]) rfl ty_ap_24 (by decide) (by decide) rfl rfl rfl) rfl rfl ?_
       rintro u156 W152 ⟨k153, b154, z155⟩
       have l160 := hB.size
       replace hw128 := hw128.more b154 (Nat.le_refl _)
       replace hp138 := hp138.below b154
       replace hV := hV.below b154
       replace k148 := k148.below b154
       replace hB := hB.both (.of_below (b154.mono (Nat.le_trans hbw hB.size)))
       replace hL := LL.more hL z155
       refine Ge (dx_cv rfl Tryz.func72 rfl rfl rfl (insNT_v [eS nm54] W146.heap.size _ W152 _ (by omega) k153 (by simp) (by simp))) rfl rfl ?_
       rintro x161 W162 ⟨⟨B163, l168, k164⟩, g167⟩
       have n171 : V ≠ B163 := Nat.ne_of_lt (Nat.lt_of_lt_of_le hV.lt l168)
       have l174 := Nat.le_trans hB.size l168
       replace hw128 := hw128.more g167 l168
       replace hp138 := hp138.below g167
       replace hV := hV.below g167
       replace k148 := k148.below g167
       replace hB := hB.both (.of_below (g167.mono (Nat.le_trans hbw hB.size)))
       replace hL := LL.cons (LL.below hL g167) k164.lt
       rw [show [eS nm54] = ((insA at_ nm54 ([] : List ByteArray)).map eS) from (insN_map _ _ _).symm] at k164
       refine Va (dx_nilCheck rfl rfl) rfl rfl (Va (dx_fld (o1 := 3) rfl ty_fld_27_3_3 rfl rfl) rfl rfl ?_)
       refine WL.do (dx_store (cs' := [.int .i64 6, .int .i64 0, .string ⟨#[]⟩, x161, .slice none 0 0]) (vs := [x161]) rfl ty_size_24_1 rfl rfl (oc_one k164.one) (oC k164.one oc_nil) hV rfl (nB rfl) rfl) rfl ?_
       rintro _ W175 ⟨k177, o176⟩
       replace hp138 := hp138.other o176 hVP.symm
       replace k148 := k148.other o176 n144.symm
       replace k164 := k164.other o176 n171.symm
       clear hV
       replace hw128 := hw128.only o176 (.tail _ (.tail _ (.tail _ hVL)))
       replace hB := hB.both (.of_only o176 (.inr (.inl rfl)))
       replace hL := LL.only hL o176
       refine Ni (hK151 (Sq fun K178 hK178 => ?_))
       have hsW := hB.size
       refine WC.drawL (fun L_ W_ => H3 true W175 (W175.heap.size) (.slice none 0 0) [] (L_ 8) W_) 9 (rel3 true (W175.heap.size)) (sd3 true W175 V (W175.heap.size) at_ (.slice none 0 0) (encT t125) (([] : List (List Value)).take at_ ++ ([(encT t125)] ++ ([] : List (List Value)).drop at_))) [[], [], [1], [2], [3], [], [], [6], [4, 5, 7]] (by kernel_rfl) (by kernel_rfl) (by kernel_rfl) (by kernel_rfl) (by kernel_rfl) (by kernel_rfl) (by kernel_rfl) (begin3 (fun h => by cases h)) mono3 ?_ ?_
       ·
        refine ⟨fun L_ Wd hl hn hG => ?_, ?_⟩
        ·
         replace hG : H3 true W175 (W175.heap.size) (.slice none 0 0) [] (L_ 8) Wd := hG
         exact DV.dr (dx_move rfl rfl) ⟨rel_o3 (by decide) (Below.refl _ _), hG, rfl⟩
        refine ⟨fun L_ Wd hl hn hG => ?_, ?_⟩
        ·
         replace hG : H3 true W175 (W175.heap.size) (.slice none 0 0) [] (L_ 8) Wd := hG
         exact DV.dr (dx_move rfl rfl) ⟨rel_o3 (by decide) (Below.refl _ _), hG, rfl⟩
        refine ⟨fun L_ Wd hl hn hG => ?_, ?_⟩
        ·
         replace hG : H3 true W175 (W175.heap.size) (.slice none 0 0) [] (L_ 8) Wd := hG
         exact DV.dr (dx_nilCheck rfl rfl) ⟨rel_o3 (by decide) (Below.refl _ _), hG, rfl⟩
        refine ⟨fun L_ Wd hl hn hG => ?_, ?_⟩
        ·
         replace hG : H3 true W175 (W175.heap.size) (.slice none 0 0) [] (L_ 8) Wd := hG
         exact DV.dr (dx_fld (o1 := 4) rfl ty_fld_27_4_4 rfl rfl) ⟨rel_o3 (by decide) (Below.refl _ _), hG, rfl⟩
        refine ⟨fun L_ Wd hl hn hG => ?_, ?_⟩
        ·
         replace hG : H3 true W175 (W175.heap.size) (.slice none 0 0) [] (L_ 8) Wd := hG
         exact DV.dr (dx_load rfl ty_one_25 rfl ((k177.chg hG.1 (Nat.ne_of_lt k177.lt)).cell (k := 4) rfl)) ⟨rel_o3 (by decide) (Below.refl _ _), hG, rfl⟩
        refine ⟨fun L_ Wd hl hn hG => ?_, ?_⟩
        ·
         replace hG : H3 true W175 (W175.heap.size) (.slice none 0 0) [] (L_ 8) Wd := hG
         exact DV.dr (dx_move rfl rfl) ⟨rel_o3 (by decide) (Below.refl _ _), hG, rfl⟩
        refine ⟨fun L_ Wd hl hn hG => ?_, ?_⟩
        ·
         replace hG : H3 true W175 (W175.heap.size) (.slice none 0 0) [] (L_ 8) Wd := hG
         exact DV.dr (dx_loadN (cs := (encT t125)) rfl ty_agg_27_5 rfl ((k148.chg hG.1 (Nat.ne_of_lt k148.lt)).range) rfl) ⟨rel_o3 (by decide) (Below.refl _ _), hG, rfl⟩
        refine ⟨fun L_ Wd hl hn hG => ?_, ?_⟩
        ·
         replace hG : H3 true W175 (W175.heap.size) (.slice none 0 0) [] (L_ 8) Wd := hG
         have h8_ := hn 8 (by decide)
         refine (dx_lit1 (r := (encT t125)) rfl ty_ap_25 (by decide) (by decide) rfl rfl rfl).mono ?_
         rintro u W_ ⟨k1_, k2_, k3_⟩
         exact ⟨rel_o3 (by decide) k2_, lit3 hG k2_, ⟨Wd.heap.size, (fun h => by cases h), hG.1.size, k1_⟩⟩
        refine ⟨fun L_ Wd hl hn hG => ?_, ?_⟩
        ·
         intro u7 q7
         replace hG : H3 true W175 (W175.heap.size) (.slice none 0 0) [] (L_ 8) Wd := hG
         obtain ⟨C7, c1_, c2_, c3_⟩ := q7
         refine (dx_cv rfl Tryz.func73 rfl rfl rfl (insNV_v [(encT t125)] C7 _ Wd _ (by omega) c3_ (by simp) (by simp))).mono ?_
         rintro u W_ ⟨⟨B_, g0_, k1_⟩, gc_⟩
         exact ⟨(by unfold rel3; rw [if_pos rfl]; exact gc_), (show H3 true W175 (W175.heap.size) (.slice none 0 0) [] true W_ from ⟨hG.1.thenB gc_, fun h => by cases h⟩), ⟨B_, .inr (Nat.le_trans hG.1.size g0_), (by simpa using k1_)⟩⟩
        exact trivial
       ·
        intro We hGe
        obtain ⟨hc, -⟩ := (show H3 true W175 (W175.heap.size) (.slice none 0 0) [] true We from hGe)
        intro u7 q7 u8 q8
        obtain ⟨B179, g182, k180⟩ := q8
        clear q7
        have g181 := hc.toBelow (Nat.le_refl _)
        replace g182 : W175.heap.size ≤ B179 := by rcases g182 with h_ | h_; cases h_.1; exact h_
        rw [show (([] : List (List Value)).take at_ ++ ([(encT t125)] ++ ([] : List (List Value)).drop at_)) = ((insA at_ t125 ([] : List Tr)).map encT) from (insA_map encT at_ t125 []).symm] at k180
        have n185 : V ≠ B179 := Nat.ne_of_lt (Nat.lt_of_lt_of_le k177.lt g182)
        have n188 : B163 ≠ B179 := Nat.ne_of_lt (Nat.lt_of_lt_of_le k164.lt g182)
        have l189 := Nat.le_trans hB.size g182
        replace hw128 := hw128.more g181 g182
        replace hp138 := hp138.below g181
        replace k177 := k177.below g181
        replace k164 := k164.below g181
        replace hB := hB.both (.of_below (g181.mono (Nat.le_trans hbw hB.size)))
        replace hL := LL.cons (LL.below hL g181) k180.lt
        refine Va (dx_nilCheck rfl rfl) rfl rfl (Va (dx_fld (o1 := 4) rfl ty_fld_27_4_4 rfl rfl) rfl rfl ?_)
        refine WL.do (dx_store (cs' := [.int .i64 6, .int .i64 0, .string ⟨#[]⟩, x161, u8]) (vs := [u8]) rfl ty_size_25_1 rfl rfl (oc_one k180.one) (oC k180.one oc_nil) k177 rfl (nB rfl) rfl) rfl ?_
        rintro _ W190 ⟨k192, o191⟩
        replace hp138 := hp138.other o191 hVP.symm
        replace k164 := k164.other o191 n171.symm
        replace k180 := k180.other o191 n185.symm
        clear k177
        replace hw128 := hw128.only o191 (.tail _ (.tail _ (.tail _ (.tail _ hVL))))
        replace hB := hB.both (.of_only o191 (.inr (.inl rfl)))
        refine Ni (hK178 (Sq fun K193 hK193 => (Rg (Pu rfl (Ni (hK193 ?_))))))
        exact WC.ret fun a_ ha_ => hQ (cx_ret1 rfl (.tmp rfl) (.inl ⟨k123, (insA at_ nm54 ([] : List ByteArray), insA at_ t125.er ([] : List Js)), rfl, (pairS_n (take_of (by rcases Nat.lt_or_ge ka s.size with h_ | h_; exact h_; (have := hc23 h_; omega)) (by have h_ : ka < s.size := (by rcases Nat.lt_or_ge ka s.size with h_ | h_; exact h_; (have := hc23 h_; omega)); have := hc22 h_; omega)) hw45 hnm).trans (by apply pairN_k (a := at_) <;> first | assumption | omega), by omega, by omega, (by show (insA at_ nm54 ([] : List ByteArray)).length ≤ _; rw [insA_len (by omega)]; first | omega | (simp at hlka ⊢; omega)), ⟨x161, u8, insA at_ t125 [], insA_map _ _ _ _, (by rw [hat]; exact rises_ins hris (by rw [← hat]; assumption)), (by show (insA at_ nm54 ([] : List ByteArray)).length = _; rw [insA_len (by omega), insA_len (by first | omega | (simp at hatl ⊢; omega))]; first | omega | rfl), k192, hI0, .inr ⟨B163, B179, n188, by omega, by omega, k164, k180, (fun c hc_ => by rcases mem_insA.1 hc_ with rfl | h_; exact hw128.less (fun x hx => by simp only [List.mem_cons] at hx ⊢; rcases hx with h_ | h_ | h_ <;> simp [h_]); cases h_)⟩⟩, hp138⟩) hB ha_)
      ·
       replace hV := hV.chg g136 hVP
       replace hB := hB.chg g136 (Nat.le_trans hbw hB.size)
       refine Pu rfl (Pu rfl (Pu rfl ?_))
       refine Ge (dx_alloc rfl ty_zero_27 rfl) rfl rfl ?_
       rintro _ W194 ⟨rfl, k195, b196, z197⟩
       have n198 : P ≠ W137.heap.size := Nat.ne_of_lt hp138.lt
       have n199 : V ≠ W137.heap.size := Nat.ne_of_lt hV.lt
       have l200 := hB.size
       replace hp138 := hp138.below b196
       replace hV := hV.below b196
       replace hB := hB.both (.of_below (b196.mono (Nat.le_trans hbw hB.size)))
       refine WL.do (dx_store (cs' := zV) (vs := zV) rfl ty_size_27_5 rfl rfl rfl o5 k195 rfl (nB rfl) rfl) rfl ?_
       rintro _ W201 ⟨k203, o202⟩
       replace hp138 := hp138.other o202 n198
       replace hV := hV.other o202 n199
       clear k195
       replace hB := hB.both (.of_only o202 (.inr (.inr (Nat.le_trans hbw l200))))
       refine Pu rfl (Ni (hK109 (Sq fun K204 hK204 => (Sq fun K205 hK205 => (Rg (Pu rfl (Va (dv_NT (dx_neq rfl rfl rfl) hw131) rfl rfl ?_)))))))
       refine Ni (hK205 (WC.condT rfl (Sq fun K206 hK206 => (Rg (Pu rfl (Pu rfl (Ni ?_)))))))
       refine hK206 ?_
       exact WC.ret fun a_ ha_ => hQ (cx_ret1 rfl (.tmp rfl) (.inr ⟨k124, e126, rfl, hw131, (pairS_n (take_of (by rcases Nat.lt_or_ge ka s.size with h_ | h_; exact h_; (have := hc23 h_; omega)) (by have h_ : ka < s.size := (by rcases Nat.lt_or_ge ka s.size with h_ | h_; exact h_; (have := hc23 h_; omega)); have := hc22 h_; omega)) hw45 hnm).trans (by apply pairN_e (a := at_) <;> first | assumption | omega), by omega, (fiveO hV rfl rfl), hp138⟩) hB ha_)
   ·
    replace hV := hV.chg g55 hVP
    replace hB := hB.chg g55 (Nat.le_trans hbw hB.size)
    refine Pu rfl (Pu rfl (Pu rfl (Pu rfl (Pu rfl (Ni (hK28 (Sq fun K207 hK207 => ?_)))))))
    refine Sq fun K208 hK208 => (Rg (Pu rfl (Va (dx_neq rfl rfl rfl) rfl rfl (Ni (hK208 (WC.condT rfl (Sq fun K209 hK209 => ?_)))))))
    refine Rg (Pu rfl (Pu rfl (Ni (hK209 ?_))))
    exact WC.ret fun a_ ha_ => hQ (cx_ret1 rfl (.tmp rfl) (.inr ⟨k43, 2, rfl, by decide, pairS_q (take_of (by rcases Nat.lt_or_ge ka s.size with h_ | h_; exact h_; (have := hc23 h_; omega)) (by have h_ : ka < s.size := (by rcases Nat.lt_or_ge ka s.size with h_ | h_; exact h_; (have := hc23 h_; omega)); have := hc22 h_; omega)) hw50, by omega, (fiveO hV rfl rfl), hp57⟩) hB ha_)
 have hBnP : Bn ≠ P := by have := hLb P hPL; omega
 have hBnV : Bn ≠ V := by have := hLb V hVL; omega
 have hBiP : Bi ≠ P := by have := hLb P hPL; omega
 have hBiV : Bi ≠ V := by have := hLb V hVL; omega
 replace hL := LL.cons (LL.cons hL hOi.lt) hOn.lt
 refine cx_enter (N := 76) (f := [(0, .pointer (some ⟨P, 0, none⟩)), (1, .pointer (some ⟨V, 0, none⟩))]) Tryz.func56 rfl rfl rfl rfl fun Q hQ hE_ => ?_
 have hB := ChgV.refl b P V w
 refine Sq fun K1 hK1 => (Rg (Pu rfl (Ni (hK1 (Sq fun K2 hK2 => (Sq fun K3 hK3 => (Rg ?_)))))))
 refine Pu rfl (Va (dx_nilCheck rfl rfl) rfl rfl (Va (dx_fld (o1 := 0) rfl ty_fld_39_0_0 rfl rfl) rfl rfl ?_))
 refine Ge (dx_cv rfl Tryz.func26 rfl rfl rfl (peek_c s P ka dp w _ hL (.tail _ (.tail _ hPL)) hs (by omega) hp)) rfl rfl ?_
 rintro _ W25 ⟨⟨c19, rfl, hc20, hc21, hc22, hc23⟩, b24⟩
 replace hts := hts.below b24
 replace hp := hp.below b24
 replace hV := hV.below b24
 replace hOn := hOn.below b24
 replace hOi := hOi.below b24
 replace hB := hB.both (.of_below (b24.mono (Nat.le_trans hbw hB.size)))
 replace hL := LL.below hL b24
 refine Va (dx_neq rfl rfl rfl) rfl rfl (Ni (hK3 ?_))
 refine WC.cond rfl (fun c26 => ?_) (fun c26 => ?_)
 ·
  replace c26 := bnot_t c26
  replace c26 := dF c26
  refine Sq fun K27 hK27 => (Rg (Pu rfl (Ni (hK27 ?_))))
  exact WC.ret fun a_ ha_ => hQ (cx_ret1 rfl (.tmp rfl) (.inr ⟨ka, 2, rfl, by decide, pairS_0 (take_nc hc22 (by assumption)), by omega, (fiveO hV hOn.one hOi.one), hp⟩) hB ha_)
 ·
  replace c26 := bnot_f c26
  replace c26 := dT c26
  refine WC.skip (hK2 (Sq fun K28 hK28 => (Rg (Pu rfl ?_))))
  refine Ge (dx_cw rfl Tryz.func29 rfl rfl rfl (quoted_v s P ka dp W25 _ hL (.tail _ (.tail _ hPL)) hs (by omega) hp (take_of (by rcases Nat.lt_or_ge ka s.size with h_ | h_; exact h_; (have := hc23 h_; omega)) (by have h_ : ka < s.size := (by rcases Nat.lt_or_ge ka s.size with h_ | h_; exact h_; (have := hc23 h_; omega)); have := hc22 h_; omega)))) rfl rfl ?_
  rintro _ W56 ⟨(⟨k42, l44, rfl, hw45, hw46, hw47, hw48, hw49, hp57⟩ | ⟨k43, rfl, hw50, hw51, hp57⟩), g55⟩
  ·
   replace hts := hts.chgL g55 (.tail _ (.tail _ hPL))
   replace hV := hV.chg g55 hVP
   replace hOn := hOn.chgL g55 hBnP
   replace hOi := hOi.chgL g55 hBiP
   replace hB := hB.chg g55 (Nat.le_trans hbw hB.size)
   replace hL := hL.chg g55
   obtain ⟨nm54, hnm⟩ : ∃ x, x = strOfNums l44 := ⟨_, rfl⟩
   rw [← hnm]
   refine Pu rfl (Pu rfl (Pu rfl (Pu rfl (Pu rfl (Ni (hK28 (Sq fun K58 hK58 => ?_)))))))
   refine Sq fun K59 hK59 => (Rg (Pu rfl (Va (dx_neq rfl rfl rfl) rfl rfl (Ni (hK59 (WC.condF rfl (WC.skip ?_)))))))
   refine hK58 (Sq fun K60 hK60 => (Rg (Pu rfl (Va (dx_nilCheck rfl rfl) rfl rfl (Va (dx_fld (o1 := 3) rfl ty_fld_27_3_3 rfl rfl) rfl rfl (Va (dx_load rfl ty_one_24 rfl (hV.cell (k := 3) rfl)) rfl rfl (Pu rfl ?_)))))))
   refine Ge (dx_cv rfl Tryz.func71 rfl rfl rfl (bsearchA_v ns nm54 _ W56 [] (LL.nil _) (hOn.rd (L := []) (by simp)) hris (by first | omega | simp))) rfl rfl ?_
   rintro _ W62 ⟨⟨at_, hat, hatl, rfl⟩, b61⟩
   replace hts := hts.below b61
   replace hp57 := hp57.below b61
   replace hV := hV.below b61
   replace hOn := hOn.below b61
   replace hOi := hOi.below b61
   replace hB := hB.both (.of_below (b61.mono (Nat.le_trans hbw hB.size)))
   replace hL := LL.below hL b61
   refine Pu rfl (Pu rfl (Pu rfl (Pu rfl (Pu rfl (Ni (hK60 (Sq fun K63 hK63 => ?_)))))))
   refine Sq fun K64 hK64 => (Rg (Pu rfl (Ni (hK64 ?_))))
   refine WC.cond rfl (fun c65 => ?_) (fun c65 => ?_)
   ·
    replace c65 := dT c65
    refine Sq fun K66 hK66 => (Rg (Pu rfl (Ni (hK66 ?_))))
    exact WC.ret fun a_ ha_ => hQ (cx_ret1 rfl (.tmp rfl) (.inr ⟨k42, 6, rfl, by decide, (pairS_n (take_of (by rcases Nat.lt_or_ge ka s.size with h_ | h_; exact h_; (have := hc23 h_; omega)) (by have h_ : ka < s.size := (by rcases Nat.lt_or_ge ka s.size with h_ | h_; exact h_; (have := hc23 h_; omega)); have := hc22 h_; omega)) hw45 hnm).trans (pairN_t hat (by assumption)), by omega, (fiveO hV hOn.one hOi.one), hp57⟩) hB ha_)
   ·
    replace c65 := dF c65
    refine WC.skip (hK63 (Sq fun K67 hK67 => (Rg (Pu rfl (Va (dx_nilCheck rfl rfl) rfl rfl (Va (dx_fld (o1 := 0) rfl ty_fld_39_0_0 rfl rfl) rfl rfl ?_))))))
    refine Ge (dx_cw rfl Tryz.func12 rfl rfl rfl (blanks_v s P k42 dp W62 _ hL (.tail _ (.tail _ hPL)) hs (by omega) hp57)) rfl rfl ?_
    rintro _ W78 ⟨hp79, g77⟩
    replace hts := hts.chgL g77 (.tail _ (.tail _ hPL))
    replace hV := hV.chg g77 hVP
    replace hOn := hOn.chgL g77 hBnP
    replace hOi := hOi.chgL g77 hBiP
    replace hB := hB.chg g77 (Nat.le_trans hbw hB.size)
    replace hL := hL.chg g77
    obtain ⟨k74, hk75⟩ : ∃ k, k = blankS s k42 := ⟨_, rfl⟩
    rw [← hk75] at hp79
    have hk76 := blankS_le (s := s) (k := k42) (by omega)
    rw [← hk75] at hk76
    refine Ni (hK67 (Sq fun K80 hK80 => (Sq fun K81 hK81 => (Rg (Pu rfl (Va (dx_nilCheck rfl rfl) rfl rfl (Va (dx_fld (o1 := 0) rfl ty_fld_39_0_0 rfl rfl) rfl rfl ?_)))))))
    refine Ge (dx_cw rfl Tryz.func25 rfl rfl rfl (take_v 58 s P k74 dp W78 _ hL (.tail _ (.tail _ hPL)) hs (by omega) hp79)) rfl rfl ?_
    rintro _ W92 ⟨⟨k88, rfl, hk89, hk90, hp93⟩, g91⟩
    replace hts := hts.chgL g91 (.tail _ (.tail _ hPL))
    replace hV := hV.chg g91 hVP
    replace hOn := hOn.chgL g91 hBnP
    replace hOi := hOi.chgL g91 hBiP
    replace hB := hB.chg g91 (Nat.le_trans hbw hB.size)
    replace hL := hL.chg g91
    cases hT94 : takeS s k74 58 with
    | false =>
     rw [hT94] at hk89
     replace hk89 : k74 = k88 := Eq.symm hk89
     subst hk89
     refine Va (dx_not rfl rfl) rfl rfl (Ni (hK81 (WC.condT rfl (Sq fun K95 hK95 => (Rg (Pu rfl (Ni ?_)))))))
     refine hK95 ?_
     exact WC.ret fun a_ ha_ => hQ (cx_ret1 rfl (.tmp rfl) (.inr ⟨k74, 2, rfl, by decide, (pairS_n (take_of (by rcases Nat.lt_or_ge ka s.size with h_ | h_; exact h_; (have := hc23 h_; omega)) (by have h_ : ka < s.size := (by rcases Nat.lt_or_ge ka s.size with h_ | h_; exact h_; (have := hc23 h_; omega)); have := hc22 h_; omega)) hw45 hnm).trans (by apply pairN_c (a := at_) <;> first | assumption | omega), by omega, (fiveO hV hOn.one hOi.one), hp93⟩) hB ha_)
    | true =>
     rw [hT94] at hk89
     have hthT94 := take_t hT94
     replace hk89 : k88 = k74 + 1 := hk89
     refine Va (dx_not rfl rfl) rfl rfl (Ni (hK81 (WC.condF rfl (WC.skip (hK80 (Sq fun K96 hK96 => (Rg ?_)))))))
     refine Pu rfl (Va (dx_nilCheck rfl rfl) rfl rfl (Va (dx_fld (o1 := 0) rfl ty_fld_39_0_0 rfl rfl) rfl rfl ?_))
     refine Ge (dx_cw rfl Tryz.func12 rfl rfl rfl (blanks_v s P k88 dp W92 _ hL (.tail _ (.tail _ hPL)) hs (by omega) hp93)) rfl rfl ?_
     rintro _ W107 ⟨hp108, g106⟩
     replace hts := hts.chgL g106 (.tail _ (.tail _ hPL))
     replace hV := hV.chg g106 hVP
     replace hOn := hOn.chgL g106 hBnP
     replace hOi := hOi.chgL g106 hBiP
     replace hB := hB.chg g106 (Nat.le_trans hbw hB.size)
     replace hL := hL.chg g106
     obtain ⟨k103, hk104⟩ : ∃ k, k = blankS s k88 := ⟨_, rfl⟩
     rw [← hk104] at hp108
     have hk105 := blankS_le (s := s) (k := k88) (by omega)
     rw [← hk104] at hk105
     refine Ni (hK96 (Sq fun K109 hK109 => (Rg (Pu rfl ?_))))
     refine Ge (dx_cw rfl Tryz.func13 rfl rfl rfl (hv P k103 W107 _ hL (.tail _ (.tail _ hPL)) (by omega) hp108)) rfl rfl ?_
     rintro _ W137 ⟨(⟨k123, t125, rfl, hw127, hw128, hw129, hw130, hp138⟩ | ⟨k124, e126, rfl, hw131, hw132, hw133, hp138⟩), g136⟩
     ·
      replace hts := hts.chgL g136 (.tail _ (.tail _ hPL))
      replace hV := hV.chg g136 hVP
      replace hOn := hOn.chgL g136 hBnP
      replace hOi := hOi.chgL g136 hBiP
      replace hB := hB.chg g136 (Nat.le_trans hbw hB.size)
      refine Pu rfl (Pu rfl (Pu rfl ?_))
      refine Ge (dx_alloc rfl ty_zero_27 rfl) rfl rfl ?_
      rintro _ W139 ⟨rfl, k140, b141, z142⟩
      have n143 : P ≠ W137.heap.size := Nat.ne_of_lt hp138.lt
      have n144 : V ≠ W137.heap.size := Nat.ne_of_lt hV.lt
      have n145 : Bn ≠ W137.heap.size := Nat.ne_of_lt hOn.lt
      have n146 : Bi ≠ W137.heap.size := Nat.ne_of_lt hOi.lt
      have l147 := hB.size
      replace hts := hts.more b141 (Nat.le_refl _)
      replace hw128 := hw128.more b141 (Nat.le_refl _)
      replace hp138 := hp138.below b141
      replace hV := hV.below b141
      replace hOn := hOn.below b141
      replace hOi := hOi.below b141
      replace hB := hB.both (.of_below (b141.mono (Nat.le_trans hbw hB.size)))
      refine WL.do (dx_store (cs' := [.int .i64 t125.kind, .int .i64 t125.num, .string t125.text, t125.nv, t125.iv]) (vs := [.int .i64 t125.kind, .int .i64 t125.num, .string t125.text, t125.nv, t125.iv]) rfl ty_size_27_5 rfl rfl rfl (oC rfl (oC rfl (oC rfl (oC (hw128.1).one (oC (hw128.2.1).one oc_nil))))) k140 rfl (nB rfl) rfl) rfl ?_
      rintro _ W148 ⟨k150, o149⟩
      replace hp138 := hp138.other o149 n143
      replace hV := hV.other o149 n144
      replace hOn := hOn.other o149 n145
      replace hOi := hOi.other o149 n146
      clear k140
      replace hts := hts.only o149 (.head _)
      replace hw128 := hw128.only o149 (.head _)
      replace hB := hB.both (.of_only o149 (.inr (.inr (Nat.le_trans hbw l147))))
      refine Pu rfl (Ni (hK109 (Sq fun K151 hK151 => (Sq fun K152 hK152 => (Rg (Pu rfl (Va (dx_neq rfl rfl rfl) rfl rfl ?_)))))))
      refine Ni (hK152 (WC.condF rfl (WC.skip (hK151 (Sq fun K153 hK153 => (Rg (Pu rfl ?_)))))))
      refine Pu rfl (Va (dx_nilCheck rfl rfl) rfl rfl (Va (dx_fld (o1 := 3) rfl ty_fld_27_3_3 rfl rfl) rfl rfl (Va (dx_load rfl ty_one_24 rfl (hV.cell (k := 3) rfl)) rfl rfl (Pu rfl (Pu rfl ?_)))))
      refine Ge (dx_lit1 (r := [.string nm54]) rfl ty_ap_24 (by decide) (by decide) rfl rfl rfl) rfl rfl ?_
      rintro u158 W154 ⟨k155, b156, z157⟩
      have n161 : Bn ≠ W148.heap.size := Nat.ne_of_lt hOn.lt
      have l164 := hB.size
      replace hts := hts.more b156 (Nat.le_refl _)
      replace hw128 := hw128.more b156 (Nat.le_refl _)
      replace hp138 := hp138.below b156
      replace hV := hV.below b156
      replace hOn := hOn.below b156
      replace hOi := hOi.below b156
      replace k150 := k150.below b156
      replace hB := hB.both (.of_below (b156.mono (Nat.le_trans hbw hB.size)))
      refine Ge (dx_cw rfl Tryz.func72 rfl rfl rfl (insOT_v _ [eS nm54] at_ Bn W148.heap.size _ _ W154 hOn k155 n161.symm (by rw [List.length_map]; omega) (by simp) (by rw [List.length_map, List.length_singleton]; omega) (oc_eS ns) (fun r hr => by rw [List.mem_singleton.1 hr]; exact (oC rfl oc_nil)))) rfl rfl ?_
      rintro x165 W166 ⟨⟨B167, k168, g169⟩, g170⟩
      have g171 := GrowB.of_chg g170 g169
      have n175 : V ≠ B167 := hV.grow_ne g171 hBnV.symm
      have n176 : Bi ≠ B167 := hOi.grow_ne g171 hni.symm
      have l173 : b ≤ B167 := g171.le hbn (Nat.le_trans hbw hB.size)
      replace hts := hts.grow' g171 (.tail _ (.tail _ (.head _)))
      replace hw128 := hw128.grow' g171 (.tail _ (.tail _ (.head _)))
      replace hp138 := hp138.grow g171 hBnP.symm
      replace hV := hV.grow g171 hBnV.symm
      replace hOi := hOi.grow g171 hni.symm
      replace k150 := k150.grow g171 n145.symm
      replace hB := hB.grow g171 hbn (Nat.le_trans hbw hB.size)
      rw [show (ns.map eS).take at_ ++ ([eS nm54] ++ (ns.map eS).drop at_) = ((insA at_ nm54 ns).map eS) from (insA_map _ at_ _ _).symm] at k168
      refine Va (dx_nilCheck rfl rfl) rfl rfl (Va (dx_fld (o1 := 3) rfl ty_fld_27_3_3 rfl rfl) rfl rfl ?_)
      refine WL.do (dx_store (cs' := [.int .i64 6, .int .i64 0, .string ⟨#[]⟩, x165, iv]) (vs := [x165]) rfl ty_size_24_1 rfl rfl (oc_one k168.one) (oC k168.one oc_nil) hV rfl (nB rfl) rfl) rfl ?_
      rintro _ W179 ⟨k181, o180⟩
      replace hp138 := hp138.other o180 hVP.symm
      replace hOi := hOi.other o180 hBiV
      replace k150 := k150.other o180 n144.symm
      replace k168 := k168.other o180 n175.symm
      clear hV
      replace hts := hts.only o180 (.tail _ (.tail _ (.tail _ (.tail _ (.tail _ hVL)))))
      replace hw128 := hw128.only o180 (.tail _ (.tail _ (.tail _ (.tail _ (.tail _ hVL)))))
      replace hB := hB.both (.of_only o180 (.inr (.inl rfl)))
      refine Ni (hK153 (Sq fun K182 hK182 => ?_))
      have hsW := hB.size
      refine WC.drawL (fun L_ W_ => H3 false W179 Bi (iv) (ts.map encT) (L_ 8) W_) 9 (rel3 false Bi) (sd3 false W179 V Bi at_ (iv) (encT t125) ((ts.map encT).take at_ ++ ([(encT t125)] ++ (ts.map encT).drop at_))) [[], [], [1], [2], [3], [], [], [6], [4, 5, 7]] (by kernel_rfl) (by kernel_rfl) (by kernel_rfl) (by kernel_rfl) (by kernel_rfl) (by kernel_rfl) (by kernel_rfl) (begin3 (fun _ => hOi)) mono3 ?_ ?_
      ·
       refine ⟨fun L_ Wd hl hn hG => ?_, ?_⟩
       ·
        replace hG : H3 false W179 Bi (iv) (ts.map encT) (L_ 8) Wd := hG
        exact DV.dr (dx_move rfl rfl) ⟨rel_o3 (by decide) (Below.refl _ _), hG, rfl⟩
       refine ⟨fun L_ Wd hl hn hG => ?_, ?_⟩
       ·
        replace hG : H3 false W179 Bi (iv) (ts.map encT) (L_ 8) Wd := hG
        exact DV.dr (dx_move rfl rfl) ⟨rel_o3 (by decide) (Below.refl _ _), hG, rfl⟩
       refine ⟨fun L_ Wd hl hn hG => ?_, ?_⟩
       ·
        replace hG : H3 false W179 Bi (iv) (ts.map encT) (L_ 8) Wd := hG
        exact DV.dr (dx_nilCheck rfl rfl) ⟨rel_o3 (by decide) (Below.refl _ _), hG, rfl⟩
       refine ⟨fun L_ Wd hl hn hG => ?_, ?_⟩
       ·
        replace hG : H3 false W179 Bi (iv) (ts.map encT) (L_ 8) Wd := hG
        exact DV.dr (dx_fld (o1 := 4) rfl ty_fld_27_4_4 rfl rfl) ⟨rel_o3 (by decide) (Below.refl _ _), hG, rfl⟩
       refine ⟨fun L_ Wd hl hn hG => ?_, ?_⟩
       ·
        replace hG : H3 false W179 Bi (iv) (ts.map encT) (L_ 8) Wd := hG
        exact DV.dr (dx_load rfl ty_one_25 rfl ((k181.chg hG.1 hBiV.symm).cell (k := 4) rfl)) ⟨rel_o3 (by decide) (Below.refl _ _), hG, rfl⟩
       refine ⟨fun L_ Wd hl hn hG => ?_, ?_⟩
       ·
        replace hG : H3 false W179 Bi (iv) (ts.map encT) (L_ 8) Wd := hG
        exact DV.dr (dx_move rfl rfl) ⟨rel_o3 (by decide) (Below.refl _ _), hG, rfl⟩
       refine ⟨fun L_ Wd hl hn hG => ?_, ?_⟩
       ·
        replace hG : H3 false W179 Bi (iv) (ts.map encT) (L_ 8) Wd := hG
        exact DV.dr (dx_loadN (cs := (encT t125)) rfl ty_agg_27_5 rfl ((k150.chg hG.1 n146.symm).range) rfl) ⟨rel_o3 (by decide) (Below.refl _ _), hG, rfl⟩
       refine ⟨fun L_ Wd hl hn hG => ?_, ?_⟩
       ·
        replace hG : H3 false W179 Bi (iv) (ts.map encT) (L_ 8) Wd := hG
        have h8_ := hn 8 (by decide)
        refine (dx_lit1 (r := (encT t125)) rfl ty_ap_25 (by decide) (by decide) rfl rfl rfl).mono ?_
        rintro u W_ ⟨k1_, k2_, k3_⟩
        exact ⟨rel_o3 (by decide) k2_, lit3 hG k2_, ⟨Wd.heap.size, (fun a_ => Nat.ne_of_gt (hG.2 a_ h8_).lt), hG.1.size, k1_⟩⟩
       refine ⟨fun L_ Wd hl hn hG => ?_, ?_⟩
       ·
        intro u7 q7
        replace hG : H3 false W179 Bi (iv) (ts.map encT) (L_ 8) Wd := hG
        obtain ⟨C7, c1_, c2_, c3_⟩ := q7
        refine (dx_cw rfl Tryz.func73 rfl rfl rfl (insOV_v _ [(encT t125)] at_ Bi C7 _ _ Wd (hG.2 rfl hl) c3_ (c1_ rfl) (by rw [List.length_map]; omega) (by simp) (by rw [List.length_map, List.length_singleton]; omega) (oc_items hts) (fun r hr => by rw [List.mem_singleton.1 hr]; exact hw128.oc))).mono ?_
        rintro u W_ ⟨⟨B_, k1_, g0_⟩, gc_⟩
        exact ⟨(by unfold rel3; rw [if_pos rfl]; exact gc_), (show H3 false W179 Bi (iv) (ts.map encT) true W_ from ⟨hG.1.both gc_, fun _ h => by cases h⟩), ⟨B_, (by have := hG.1.size; rcases g0_ with g0_ | g0_; exact .inl ⟨rfl, g0_⟩; exact .inr (by omega)), k1_⟩⟩
       exact trivial
      ·
       intro We hGe
       obtain ⟨hc, -⟩ := (show H3 false W179 Bi (iv) (ts.map encT) true We from hGe)
       intro u7 q7 u8 q8
       obtain ⟨B183, g186, k184⟩ := q8
       clear q7
       have g185 := GrowB.of_chg hc (by rcases g186 with h_ | h_; exact .inl h_.2; exact .inr h_)
       have n189 : V ≠ B183 := k181.grow_ne g185 hBiV.symm
       have n192 : B167 ≠ B183 := k168.grow_ne g185 n176.symm
       have l187 : b ≤ B183 := g185.le hbi (Nat.le_trans hbw hB.size)
       replace hts := hts.grow' g185 (.tail _ (.tail _ (.tail _ (.tail _ (.head _)))))
       replace hw128 := hw128.grow' g185 (.tail _ (.tail _ (.tail _ (.tail _ (.head _)))))
       replace hp138 := hp138.grow g185 hBiP.symm
       replace k181 := k181.grow g185 hBiV.symm
       replace k168 := k168.grow g185 n176.symm
       replace hB := hB.grow g185 hbi (Nat.le_trans hbw hB.size)
       rw [show ((ts.map encT).take at_ ++ ([(encT t125)] ++ (ts.map encT).drop at_)) = ((insA at_ t125 ts).map encT) from (insA_map encT at_ t125 ts).symm] at k184
       refine Va (dx_nilCheck rfl rfl) rfl rfl (Va (dx_fld (o1 := 4) rfl ty_fld_27_4_4 rfl rfl) rfl rfl ?_)
       refine WL.do (dx_store (cs' := [.int .i64 6, .int .i64 0, .string ⟨#[]⟩, x165, u8]) (vs := [u8]) rfl ty_size_25_1 rfl rfl (oc_one k184.one) (oC k184.one oc_nil) k181 rfl (nB rfl) rfl) rfl ?_
       rintro _ W193 ⟨k195, o194⟩
       replace hp138 := hp138.other o194 hVP.symm
       replace k168 := k168.other o194 n175.symm
       replace k184 := k184.other o194 n189.symm
       clear k181
       replace hts := hts.only o194 (.tail _ (.tail _ (.tail _ (.tail _ (.tail _ (.tail _ hVL))))))
       replace hw128 := hw128.only o194 (.tail _ (.tail _ (.tail _ (.tail _ (.tail _ (.tail _ hVL))))))
       replace hB := hB.both (.of_only o194 (.inr (.inl rfl)))
       refine Ni (hK182 (Sq fun K196 hK196 => (Rg (Pu rfl (Ni (hK196 ?_))))))
       exact WC.ret fun a_ ha_ => hQ (cx_ret1 rfl (.tmp rfl) (.inl ⟨k123, (insA at_ nm54 ns, insA at_ t125.er (ts.map Tr.er)), rfl, (pairS_n (take_of (by rcases Nat.lt_or_ge ka s.size with h_ | h_; exact h_; (have := hc23 h_; omega)) (by have h_ : ka < s.size := (by rcases Nat.lt_or_ge ka s.size with h_ | h_; exact h_; (have := hc23 h_; omega)); have := hc22 h_; omega)) hw45 hnm).trans (by apply pairN_k (a := at_) <;> first | assumption | omega), by omega, by omega, (by show (insA at_ nm54 ns).length ≤ _; rw [insA_len (by omega)]; first | omega | (simp at hlka ⊢; omega)), ⟨x165, u8, insA at_ t125 ts, insA_map _ _ _ _, (by rw [hat]; exact rises_ins hris (by rw [← hat]; assumption)), (by show (insA at_ nm54 ns).length = _; rw [insA_len (by omega), insA_len (by first | omega | (simp at hatl ⊢; omega))]; first | omega | rfl), k195, hI0, .inr ⟨B167, B183, n192, by omega, by omega, k168, k184, (fun c hc_ => by rcases mem_insA.1 hc_ with rfl | h_; exact hw128.less (fun x hx => by simp only [List.mem_cons] at hx ⊢; rcases hx with h_ | h_ | h_ <;> simp [h_]); exact (hts c h_).less (fun x hx => by simp only [List.mem_cons] at hx ⊢; rcases hx with h_ | h_ | h_ <;> simp [h_]))⟩⟩, hp138⟩) hB ha_)
     ·
      replace hV := hV.chg g136 hVP
      replace hOn := hOn.chgL g136 hBnP
      replace hOi := hOi.chgL g136 hBiP
      replace hB := hB.chg g136 (Nat.le_trans hbw hB.size)
      refine Pu rfl (Pu rfl (Pu rfl ?_))
      refine Ge (dx_alloc rfl ty_zero_27 rfl) rfl rfl ?_
      rintro _ W197 ⟨rfl, k198, b199, z200⟩
      have n201 : P ≠ W137.heap.size := Nat.ne_of_lt hp138.lt
      have n202 : V ≠ W137.heap.size := Nat.ne_of_lt hV.lt
      have n203 : Bn ≠ W137.heap.size := Nat.ne_of_lt hOn.lt
      have n204 : Bi ≠ W137.heap.size := Nat.ne_of_lt hOi.lt
      have l205 := hB.size
      replace hp138 := hp138.below b199
      replace hV := hV.below b199
      replace hOn := hOn.below b199
      replace hOi := hOi.below b199
      replace hB := hB.both (.of_below (b199.mono (Nat.le_trans hbw hB.size)))
      refine WL.do (dx_store (cs' := zV) (vs := zV) rfl ty_size_27_5 rfl rfl rfl o5 k198 rfl (nB rfl) rfl) rfl ?_
      rintro _ W206 ⟨k208, o207⟩
      replace hp138 := hp138.other o207 n201
      replace hV := hV.other o207 n202
      replace hOn := hOn.other o207 n203
      replace hOi := hOi.other o207 n204
      clear k198
      replace hB := hB.both (.of_only o207 (.inr (.inr (Nat.le_trans hbw l205))))
      refine Pu rfl (Ni (hK109 (Sq fun K209 hK209 => (Sq fun K210 hK210 => (Rg (Pu rfl (Va (dv_NT (dx_neq rfl rfl rfl) hw131) rfl rfl ?_)))))))
      refine Ni (hK210 (WC.condT rfl (Sq fun K211 hK211 => (Rg (Pu rfl (Pu rfl (Ni ?_)))))))
      refine hK211 ?_
      exact WC.ret fun a_ ha_ => hQ (cx_ret1 rfl (.tmp rfl) (.inr ⟨k124, e126, rfl, hw131, (pairS_n (take_of (by rcases Nat.lt_or_ge ka s.size with h_ | h_; exact h_; (have := hc23 h_; omega)) (by have h_ : ka < s.size := (by rcases Nat.lt_or_ge ka s.size with h_ | h_; exact h_; (have := hc23 h_; omega)); have := hc22 h_; omega)) hw45 hnm).trans (by apply pairN_e (a := at_) <;> first | assumption | omega), by omega, (fiveO hV hOn.one hOi.one), hp138⟩) hB ha_)
  ·
   replace hV := hV.chg g55 hVP
   replace hOn := hOn.chgL g55 hBnP
   replace hOi := hOi.chgL g55 hBiP
   replace hB := hB.chg g55 (Nat.le_trans hbw hB.size)
   refine Pu rfl (Pu rfl (Pu rfl (Pu rfl (Pu rfl (Ni (hK28 (Sq fun K212 hK212 => ?_)))))))
   refine Sq fun K213 hK213 => (Rg (Pu rfl (Va (dx_neq rfl rfl rfl) rfl rfl (Ni (hK213 (WC.condT rfl (Sq fun K214 hK214 => ?_)))))))
   refine Rg (Pu rfl (Pu rfl (Ni (hK214 ?_))))
   exact WC.ret fun a_ ha_ => hQ (cx_ret1 rfl (.tmp rfl) (.inr ⟨k43, 2, rfl, by decide, pairS_q (take_of (by rcases Nat.lt_or_ge ka s.size with h_ | h_; exact h_; (have := hc23 h_; omega)) (by have h_ : ka < s.size := (by rcases Nat.lt_or_ge ka s.size with h_ | h_; exact h_; (have := hc23 h_; omega)); have := hc22 h_; omega)) hw50, by omega, (fiveO hV hOn.one hOi.one), hp57⟩) hB ha_)

theorem ob1_v (n : Nat) (vs : Nat → Except Int (Js × Nat)) (s : ByteArray) (dp : Nat) (hc : PairAt n vs s dp) : ObjAt n vs s dp := by
 intro b Bp V P L ka st w hL hPL hVL hBL hBP hVP hBV hLb hbw hk hp hI hlka
 obtain ⟨hBp, hI⟩ := hI
 refine cx_enter (N := 5) (f := [(0, .pointer (some ⟨Bp, 0, none⟩)), (1, .pointer (some ⟨V, 0, none⟩))]) Tryz.func55 rfl rfl rfl rfl fun Q hQ hE_ => ?_
 have hB := ChgV.refl b P V w
 refine WC.seq fun K1 hK1 => (WC.region (Pu rfl (WL.nil (hK1 (WC.seq fun K2 hK2 => (WC.region (WL.val (dx_load rfl ty_one_35 rfl (hBp.cell (k := 0) rfl)) rfl rfl ?_)))))))
 refine WL.get (dx_cx rfl Tryz.func56 rfl rfl rfl (hc b V P L ka st w hL hPL hVL hVP hLb (Nat.le_trans hbw hB.size) hk hp hI hlka)) rfl rfl ?_
 rintro _ W17 ⟨(⟨k3, st4, rfl, h7, h8, h9, h10, h11, hp18⟩ | ⟨k5, e6, rfl, h7, h8, h9, h10, hp18⟩), g16⟩
 ·
  replace hB := hB.both g16
  replace hBp := hBp.chgV g16 (hLb Bp hBL) hBP hBV
  refine Pu rfl (WL.nil (hK2 ?_))
  exact WC.ret fun a_ ha_ => hQ (cx_ret1 rfl (.tmp rfl) (.inl ⟨k3, st4, rfl, h7, h8, h9, h10, ⟨hBp, h11⟩, hp18⟩) hB ha_)
 ·
  replace hB := hB.both g16
  refine Pu rfl (WL.nil (hK2 ?_))
  exact WC.ret fun a_ ha_ => hQ (cx_ret1 rfl (.tmp rfl) (.inr ⟨k5, e6, rfl, h7, h8, h9, h10, hp18⟩) hB ha_)

set_option maxHeartbeats 1000000 in
theorem object_v (n : Nat) (vs : Nat → Except Int (Js × Nat)) (s : ByteArray) (P ka dp : Nat) (w : World) (L : List Nat) (hL : LL L w) (hPL : P ∈ L) (hs : s.size ≤ 1000000) (hk : ka ≤ s.size) (hp : Blk w P (psC s ka dp))  (hq : takeS s ka 123 = true) (hc : ObjAt n vs s dp) : CW Tryz.prog 32 [.pointer (some ⟨P, 0, none⟩)] w P fun v W => (∃ k' t, v = .tuple #[.agg #[.int .i64 t.kind, .int .i64 t.num, .string t.text, t.nv, t.iv], .int .i64 0] ∧ objS s vs ka = .ok (t.er, k') ∧ RdT (n + 1) L W t ∧ ka < k' ∧ k' ≤ s.size ∧ Blk W P (psC s k' dp)) ∨ (∃ k' e cs, v = .tuple #[.agg (List.toArray cs), .int .i64 e] ∧ e ≠ 0 ∧ cs.length = 5 ∧ (∀ u ∈ cs, u.oneCell' = true) ∧ objS s vs ka = .error e ∧ k' ≤ s.size ∧ Blk W P (psC s k' dp)) := by
 refine cw_enter (N := 12) (f := [(0, .pointer (some ⟨P, 0, none⟩))]) Tryz.func32 rfl rfl rfl rfl fun Q hQ hE => ?_
 have hB := Chg.refl P w
 have hL0 := hL
 refine Sq fun K1 hK1 => (Rg ?_)
 refine Ge (dx_box (cs := [.pointer (some ⟨P, 0, none⟩)]) rfl rfl rfl) rfl rfl ?_
 rintro _ W2 ⟨rfl, k3, b4, z5⟩
 have n6 : P ≠ w.heap.size := Nat.ne_of_lt hp.lt
 have l7 := hB.size
 replace hp := hp.below b4
 replace hB := Chg.thenB hB b4
 replace hL := LL.more hL z5
 refine Ge (dx_alloc rfl ty_zero_27 rfl) rfl rfl ?_
 rintro _ W8 ⟨rfl, k9, b10, z11⟩
 have n12 : P ≠ W2.heap.size := Nat.ne_of_lt hp.lt
 have l14 := hB.size
 replace hp := hp.below b10
 replace k3 := k3.below b10
 replace hB := Chg.thenB hB b10
 replace hL := LL.more hL z11
 refine Pu rfl (Ni (hK1 (Sq fun K15 hK15 => (Rg (Va (dx_build rfl rfl (built_of_O (cs := [.int .i64 6, .int .i64 0, .string ⟨#[]⟩, .slice none 0 0, .slice none 0 0]) (by kernel_rfl) (oC rfl oc_nil))) rfl rfl ?_)))))
 refine Ge (dx_alloc rfl ty_zero_27 rfl) rfl rfl ?_
 rintro _ W16 ⟨rfl, k17, b18, z19⟩
 have n20 : P ≠ W8.heap.size := Nat.ne_of_lt hp.lt
 have n21 : w.heap.size ≠ W8.heap.size := Nat.ne_of_lt k3.lt
 have n22 : W2.heap.size ≠ W8.heap.size := Nat.ne_of_lt k9.lt
 have l23 := hB.size
 replace hp := hp.below b18
 replace k3 := k3.below b18
 replace k9 := k9.below b18
 replace hB := Chg.thenB hB b18
 replace hL := LL.more hL z19
 refine WL.do (dx_store (cs' := [.int .i64 6, .int .i64 0, .string ⟨#[]⟩, .slice none 0 0, .slice none 0 0]) (vs := [.int .i64 6, .int .i64 0, .string ⟨#[]⟩, .slice none 0 0, .slice none 0 0]) rfl ty_size_27_5 rfl rfl rfl o5 k17 rfl (nB rfl) rfl) rfl ?_
 rintro _ W24 ⟨k26, o25⟩
 replace hp := hp.other o25 n20
 replace k3 := k3.other o25 n21
 replace k9 := k9.other o25 n22
 clear k17
 replace hB := Chg.only hB o25 (.inr l23)
 replace hL := LL.only hL o25
 refine Ni (hK15 (Sq fun K27 hK27 => (Rg (Va (dx_load rfl ty_one_35 rfl (k3.cell (k := 0) rfl)) rfl rfl (Va (dx_func rfl rfl rfl) rfl rfl ?_)))))
 refine Ge (dx_cx rfl Tryz.func53 rfl rfl rfl (members_v (ObjI n W24.heap.size (w.heap.size) (W8.heap.size) P (W8.heap.size :: W2.heap.size :: w.heap.size :: L)) (FiveE (W8.heap.size)) (pairS s vs) 123 125 _ W24.heap.size (W8.heap.size) ([], []) (fun st => st.1.length) s P ka dp W24 _ hL (.tail _ (.tail _ (.tail _ hPL))) hs (by omega) hp (Nat.le_refl _) objI_five ⟨objI_chg n6.symm n20.symm (.tail _ (.tail _ (.tail _ hPL))), ⟨k3, _, _, [], rfl, List.Pairwise.nil, rfl, k26, hL, .inl ⟨rfl, rfl, rfl, rfl⟩⟩⟩ (Nat.zero_le _) hq (fun W_ L_ k_ st_ h1_ h2_ h3_ h4_ h5_ h6_ h7_ => ⟨55, #[], #[.pointer (some ⟨w.heap.size, 0, none⟩), .pointer (some ⟨W8.heap.size, 0, none⟩)], _, rfl, Tryz.func55, rfl, rfl, hc W24.heap.size (w.heap.size) (W8.heap.size) P (W8.heap.size :: W2.heap.size :: w.heap.size :: L) k_ st_ W_ (fun x hx => Nat.lt_of_lt_of_le (hL x hx) h3_) (.tail _ (.tail _ (.tail _ hPL))) (.head _) (.tail _ (.tail _ (.head _))) n6.symm n20.symm n21 hL h3_ h4_ h5_ h6_ h7_⟩))) rfl rfl ?_
 rintro _ W53 ⟨(⟨k28, st29, rfl, hm35, hm36, hm37, ⟨hBp50, nv32, iv33, ts34, hm38, hm45, hm46, hV49, hm39⟩, hp54⟩ | ⟨k30, e31, rfl, hm40, hm41, hm42, ⟨cs51, hm43, hm44, hV49⟩, hp54⟩), g52⟩
 ·
  replace hB := ChgV.toChg hB g52 hB.size l23
  replace k9 := k9.chgV g52 k9.lt n12.symm n22
  refine Pu rfl (Ni (hK27 (Sq fun K55 hK55 => (Rg (Va (dx_loadN rfl ty_agg_27_5 rfl hV49.range rfl) rfl rfl (Pu rfl ?_))))))
  refine WL.do (dx_store (cs' := [.int .i64 6, .int .i64 0, .string ⟨#[]⟩, nv32, iv33]) (vs := [.int .i64 6, .int .i64 0, .string ⟨#[]⟩, nv32, iv33]) rfl ty_size_27_5 rfl rfl rfl (oC rfl (oC rfl (oC rfl (oC hm39.one.1 (oC hm39.one.2 oc_nil))))) k9 rfl (nB rfl) rfl) rfl ?_
  rintro _ W56 ⟨k58, o57⟩
  replace hp54 := hp54.other o57 n12
  clear k9
  replace hm39 := hm39.only o57 (.tail _ (.head _))
  replace hB := Chg.only hB o57 (.inr l14)
  refine Pu rfl (Ni (hK55 ?_))
  exact WC.ret fun a_ ha_ => hQ (cw_ret2 rfl (.agg rfl ty_agg_27_5 k58.range rfl) (.tmp rfl) (.inl ⟨k28, .mk 6 0 ⟨#[]⟩ nv32 st29.1 iv33 ts34, rfl, (by unfold objS; rw [hm35, Tr.er_mk, hm38]), hm39.tree (fun x hx => (.tail _ (.tail _ (.tail _ hx)))) 6 0 ⟨#[]⟩, by omega, by omega, hp54⟩) hB ha_)
 ·
  replace hB := ChgV.toChg hB g52 hB.size l23
  replace k9 := k9.chgV g52 k9.lt n12.symm n22
  refine Pu rfl (Ni (hK27 (Sq fun K59 hK59 => (Rg (Va (dx_loadN (cs := cs51) rfl ty_agg_27_5 rfl hV49.range hm43) rfl rfl (Pu rfl ?_))))))
  refine WL.do (dx_storeW (vs := cs51) rfl ty_size_27_5 rfl rfl rfl hm44 k9 hm43 rfl) rfl ?_
  rintro _ W60 ⟨k62, o61⟩
  replace hp54 := hp54.other o61 n12
  clear k9
  replace hB := Chg.only hB o61 (.inr l14)
  refine Pu rfl (Ni (hK59 ?_))
  exact WC.ret fun a_ ha_ => hQ (cw_ret2 rfl (.agg rfl ty_agg_27_5 k62.range hm43) (.tmp rfl) (.inr ⟨k30, e31, cs51, rfl, hm40, hm43, hm44, (by unfold objS; rw [hm41]), by omega, hp54⟩) hB ha_)

def valD (s : ByteArray) : Nat → Nat → Except Int (Js × Nat)
 | 0 => fun k => valB s 12 (.error 4) (.error 4) k
 | m + 1 => fun k => valB s (12 - (m + 1)) (listS s (valD s m) k) (objS s (valD s m) k) k
theorem val_at (s : ByteArray) (hs : s.size ≤ 1000000) : ∀ m dp, m ≤ 12 → dp + m = 12 → ValAt (m + 1) (valD s m) s dp
 | 0, dp, _, hd => fun P ka w L hL hPL hk hp => by
  obtain rfl : dp = 12 := by omega
  exact value_v 0 (.error 4) (.error 4) s P ka 12 w L hL hPL hs hk hp (Nat.le_refl _) (fun h => absurd rfl h) (fun h => absurd rfl h)
 | m + 1, dp, hm, hd => fun P ka w L hL hPL hk hp => by
  have ih := val_at s hs m (dp + 1) (by omega) (by omega)
  have e : dp = 12 - (m + 1) := by omega
  show CW _ _ _ _ _ fun v W => (∃ k' t, v = .tuple #[.agg #[.int .i64 t.kind, .int .i64 t.num, .string t.text, t.nv, t.iv], .int .i64 0] ∧ valB s (12 - (m + 1)) (listS s (valD s m) ka) (objS s (valD s m) ka) ka = .ok (t.er, k') ∧ RdT (m + 1 + 1) L W t ∧ ka < k' ∧ k' ≤ s.size ∧ Blk W P (psC s k' dp)) ∨ (∃ k' e, v = .tuple #[.agg #[.int .i64 0, .int .i64 0, .string ⟨#[]⟩, .slice none 0 0, .slice none 0 0], .int .i64 e] ∧ e ≠ 0 ∧ valB s (12 - (m + 1)) (listS s (valD s m) ka) (objS s (valD s m) ka) ka = .error e ∧ k' ≤ s.size ∧ Blk W P (psC s k' dp))
  rw [← e]
  exact value_v (m + 1) (listS s (valD s m) ka) (objS s (valD s m) ka) s P ka dp w L hL hPL hs hk hp (by omega)
   (fun _ hq W L' h1 h2 d hd' h4 => by subst hd'; exact list_v (m + 1) (valD s m) s P ka (dp + 1) W L' h1 h2 hs hk h4 hq (one_v m (valD s m) s (dp + 1) hs ih))
   (fun _ hq W L' h1 h2 d hd' h4 => by subst hd'; exact object_v (m + 1) (valD s m) s P ka (dp + 1) W L' h1 h2 hs hk h4 hq (ob1_v (m + 1) (valD s m) s (dp + 1) (pair_v m (valD s m) s (dp + 1) hs ih)))
def parJ (s : ByteArray) : Except Int Js := parS s (valD s 12)
theorem jParse_v (s : ByteArray) (w : World) (L : List Nat) (hL : LL L w) : CV Tryz.prog 7 [.string s] w fun v W => (∃ t, v = .tuple #[.agg #[.int .i64 t.kind, .int .i64 t.num, .string t.text, t.nv, t.iv], .int .i64 0] ∧ parJ s = .ok t.er ∧ RdT 13 L W t) ∨ (∃ e, v = .tuple #[.agg #[.int .i64 0, .int .i64 0, .string ⟨#[]⟩, .slice none 0 0, .slice none 0 0], .int .i64 e] ∧ e ≠ 0 ∧ parJ s = .error e) :=
 parse_v 12 (valD s 12) s w L hL (fun h dq hd => by subst hd; exact val_at s (by omega) 12 0 (by omega) rfl)
theorem encI1 {r : Int} (h : r < 128) : encI r = [r] := by rw [encI, if_pos h]
theorem encI2 {r : Int} (h0 : 128 ≤ r) (h : r < 2048) : encI r = [192 + r / 64, 128 + r % 64] := by rw [encI, if_neg (by omega), if_pos h]
theorem encI3 {r : Int} (h0 : 2048 ≤ r) (h : r < 65536) : encI r = [224 + r / 4096, 128 + r / 64 % 64, 128 + r % 64] := by rw [encI, if_neg (by omega), if_neg (by omega), if_pos h]
theorem encI4 {r : Int} (h0 : 65536 ≤ r) : encI r = [240 + r / 262144, 128 + r / 4096 % 64, 128 + r / 64 % 64, 128 + r % 64] := by rw [encI, if_neg (by omega), if_neg (by omega), if_neg (by omega)]
theorem some_eq {r r' : Int} {n n' : Nat} (h : r = r') (k : n = n') : (some (r, n) : Option (Int × Nat)) = some (r', n') := by rw [h, k]

theorem fst_enc (r : Int) (t : List Int) (h : isRuneB r = true) : fstS (encI r ++ t) = some (r, (encI r).length) := by
  have hr : 0 ≤ r ∧ r ≤ 1114111 ∧ (r < 55296 ∨ 57343 < r) := by simp [isRuneB] at h; omega
  by_cases a : r < 128
  · rw [encI1 a, fst1_yes (by simpa [at0_cons_zero] using a) (by simp)]
    exact some_eq rfl rfl
  by_cases b : r < 2048
  · rw [encI2 (by omega) b]
    simp only [List.cons_append, List.nil_append]
    rw [fst2_yes (by simp only [at0_cons_zero]; omega) (by simp) (by simp only [at0_cons_succ, at0_cons_zero]; omega) (by simp only [at0_cons_succ, at0_cons_zero]; omega)]
    exact some_eq (by simp only [at0_cons_succ, at0_cons_zero]; omega) rfl
  by_cases c : r < 65536
  · rw [encI3 (by omega) c]
    simp only [List.cons_append, List.nil_append]
    have e1 : ∀ x y z : Int, at0 (x :: y :: z :: t) 1 = y := fun _ _ _ => rfl
    have e2 : ∀ x y z : Int, at0 (x :: y :: z :: t) 2 = z := fun _ _ _ => rfl
    rw [fst3_yes (by simp only [at0_cons_zero]; omega) (by simp) (by simp only [e1, e2]; omega) (by simp only [e1, e2, at0_cons_zero]; omega)]
    exact some_eq (by simp only [e1, e2, at0_cons_zero]; omega) rfl
  · rw [encI4 (by omega)]
    simp only [List.cons_append, List.nil_append]
    have e1 : ∀ x y z u : Int, at0 (x :: y :: z :: u :: t) 1 = y := fun _ _ _ _ => rfl
    have e2 : ∀ x y z u : Int, at0 (x :: y :: z :: u :: t) 2 = z := fun _ _ _ _ => rfl
    have e3 : ∀ x y z u : Int, at0 (x :: y :: z :: u :: t) 3 = u := fun _ _ _ _ => rfl
    rw [fst4_yes (by simp only [at0_cons_zero]; omega) (by simp) (by simp only [e1, e2, e3]; omega) (by simp only [e1, e2, e3, at0_cons_zero]; omega)]
    exact some_eq (by simp only [e1, e2, e3, at0_cons_zero]; omega) rfl

theorem take_at (l : List Int) : ∀ n, n ≤ l.length → l.take n = (List.range n).map (at0 l) := by
  intro n hn
  apply List.ext_getElem
  · simp; omega
  · intro i h1 h2
    simp at h1 h2
    simp [at0, show i < l.length by omega]

theorem okS_some {x : Int} {k : Nat} {r : Int} {n : Nat} (h : okS x k = some (r, n)) : x = r ∧ k = n ∧ isRuneB r = true ∧ widthI r = n := by
  unfold okS at h
  split at h
  · rename_i hq
    simp only [Option.some.injEq, Prod.mk.injEq] at h
    obtain ⟨rfl, rfl⟩ := h
    simp only [Bool.and_eq_true, beq_iff_eq] at hq
    exact ⟨rfl, rfl, hq⟩
  · cases h

theorem fst_dec {l : List Int} {r : Int} {n : Nat} (hb : Bytes l) (h : fstS l = some (r, n)) : isRuneB r = true ∧ l.take n = encI r := by
  have z := (hb.at 0).1
  have hn := fstS_bounds h
  rw [take_at l n hn.2.2.1]
  unfold fstS at h
  split at h
  · cases h
  split at h
  · simp only [Option.some.injEq, Prod.mk.injEq] at h
    obtain ⟨rfl, rfl⟩ := h
    exact ⟨isRune_yes (by omega), by rw [encI1 (by omega)]; rfl⟩
  split at h
  · cases h
  split at h
  · split at h
    · rename_i hq
      obtain ⟨h1, h2, h3, h4⟩ := okS_some h
      subst h2
      simp [contB] at hq
      have : 128 ≤ r ∧ r < 2048 := by unfold widthI at h4; omega
      refine ⟨h3, ?_⟩
      rw [encI2 (by omega) (by omega)]
      simp only [List.range, List.range.loop, List.map]
      congr 1
      · omega
      · congr 1
        omega
    · cases h
  split at h
  · split at h
    · rename_i hq
      obtain ⟨h1, h2, h3, h4⟩ := okS_some h
      subst h2
      simp [contB] at hq
      have : 2048 ≤ r ∧ r < 65536 := by unfold widthI at h4; omega
      refine ⟨h3, ?_⟩
      rw [encI3 (by omega) (by omega)]
      simp only [List.range, List.range.loop, List.map]
      congr 1
      · omega
      · congr 1
        · omega
        · congr 1
          omega
    · cases h
  split at h
  · split at h
    · rename_i hq
      obtain ⟨h1, h2, h3, h4⟩ := okS_some h
      subst h2
      simp [contB] at hq
      have : 65536 ≤ r := by unfold widthI at h4; omega
      refine ⟨h3, ?_⟩
      rw [encI4 (by omega)]
      simp only [List.range, List.range.loop, List.map]
      congr 1
      · omega
      · congr 1
        · omega
        · congr 1
          · omega
          · congr 1
            omega
    · cases h
  · cases h

theorem dec_enc : ∀ (l bs : List Int), encS l = some bs → decS bs = some l := by
  intro l
  induction l with
  | nil => intro bs h; cases h; exact decS_nil
  | cons r t ih =>
    intro bs h
    simp only [encS] at h
    split at h
    · rename_i hr
      cases ht : encS t with
      | none => rw [ht] at h; cases h
      | some ts =>
        rw [ht] at h
        cases h
        have hl := encI_len r
        rw [decS_some (by intro e; have := congrArg List.length e; simp at this; simp [this] at hl) (fst_enc r ts hr), List.drop_left, ih ts ht]
        rfl
    · cases h

theorem enc_dec (n : Nat) : ∀ (bs l : List Int), bs.length ≤ n → Bytes bs → decS bs = some l → encS l = some bs := by
  induction n with
  | zero =>
    intro bs l hn hb h
    obtain rfl : bs = [] := List.eq_nil_of_length_eq_zero (by omega)
    rw [decS_nil] at h
    cases h
    rfl
  | succ n ih =>
    intro bs l hn hb h
    by_cases he : bs = []
    · subst he
      rw [decS_nil] at h
      cases h
      rfl
    · rcases hf : fstS bs with _ | ⟨r, k⟩
      · rw [decS_none he hf] at h; cases h
      · rw [decS_some he hf] at h
        have hk := fstS_bounds hf
        obtain ⟨hr, ht⟩ := fst_dec hb hf
        cases hd : decS (bs.drop k) with
        | none => rw [hd] at h; cases h
        | some m =>
          rw [hd] at h
          cases h
          have := ih (bs.drop k) m (by simp; omega) (hb.drop k) hd
          simp only [encS, hr, if_true, this, Option.map_some]
          rw [← ht, List.take_append_drop]

end Go.Proofs.YtghpdnfdbhjmpaaGreatDoor
