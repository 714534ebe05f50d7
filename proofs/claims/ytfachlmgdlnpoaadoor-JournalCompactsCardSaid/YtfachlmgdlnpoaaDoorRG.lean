/- The reference: put. The theory of the journal: what is laid, and opened again. The theory of the journal: opening again; appending. The fixed fact of  -/
import Derived.Test.YtfachlmgdlnpoaaDoorRF
namespace Go.Proofs.YtfachlmgdlnpoaaDoor
open Go.RowKit
set_option linter.unusedVariables false
set_option linter.unusedSimpArgs false
set_option maxRecDepth 8000
set_option maxHeartbeats 2000000

theorem KM.wr {base t : Nat} {L : List Nat} {r : DO} {u : Value} {w w' : World} (h : KM L r u w) (hw : EJ base t 4 w w') : KM L r u w' := by
 obtain ⟨t1, t2, e, h1, h2⟩ := h
 exact ⟨t1, t2, e, h1.wr hw (by decide), h2.wr hw (by decide)⟩
theorem JS.wr {base t : Nat} {L : List Nat} {r : DO} {u : Value} {w w' : World} (h : JS L r u w) (hw : EJ base t 4 w w') : JS L r u w' := by
 obtain ⟨t1, t2, e, h1, h2⟩ := h
 exact ⟨t1, t2, e, h1.wr hw (by decide), h2.wr hw (by decide)⟩
def KX (L : List Nat) (base t : Nat) (r : DO) (u : Value) (W : World) : Prop := ∃ t1 t2, Ks base t [t1, t2, .int .i64 r.Qd, .bool r.Qc] u W /\ QD 128 L W t1 (r.Qb.map Qr) /\ QD 129 L W t2 (r.Qa.map QG)
theorem KX.below {L : List Nat} {base t : Nat} {r : DO} {u : Value} {w w' : World} (h : KX L base t r u w) (hb : Below w.heap.size w w') : KX L base t r u w' := by
 obtain ⟨t1, t2, e, h1, h2⟩ := h
 exact ⟨t1, t2, e.below hb, h1.below hb, h2.below hb⟩
theorem Qby (d : DO) (fr : Int) (p : Pg) : (Yq d fr p).Qb = d.Qb := by
  unfold Yq Q0
  split
  . split
    . rfl
    . split
      . rfl
      . split
        . rfl
        . split
          . rfl
          . split <;> rfl
  . rfl
theorem VE {fr : Int} : ∀ (ps : List Pg) (d : DO), (Q9 d fr ps).Qb = d.Qb
 | [], d => rfl
 | p :: ps, d => (VE ps (Yq d fr p)).trans (Qby d fr p)
theorem Qca {d0 d : DO} {fr : Int} {ps : List Pg} {i : Nat} {p : Pg} (hd : d = Q9 d0 fr (ps.take i)) (hp : ps[i]? = some p) (he : ¬ (Yq d fr p).err = 0) : X0 (Q9 d0 fr ps) = Yq d fr p := by
 have e : Q9 d0 fr (ps.take (i + 1)) = Yq d fr p := by rw [hd]; exact U7 hp
 have e2 : Q9 d0 fr ps = Yq d fr p := by
  rw [<- List.take_append_drop (i + 1) ps, Hx, e]
  exact Dw _ _ he
 rw [e2, Gt he]
set_option maxHeartbeats 1000000 in
theorem QbV (Qb : List (List Int)) (Qa : List (Int × List Int)) (Qd : Int) (Qc : Bool) (s1 s2 : Value) (q : Int) (qs : List PV) (lv : Value) (w : World) (L : List Nat) (hL : LL L w) (h1 : QD 128 L w s1 (Qb.map Qr)) (h2 : QD 129 L w s2 (Qa.map QG)) (h4 : QD 4 L w lv (qs.map Vm)) (hqs : YE L w qs)  (hfu : -9223372036854775808 <= Qd /\ Qd <= 9223372036854775807) (hq : q = 0 \/ q = 1) (hsl : Qb.length <= 2048) (hqo : ∀ q ∈ qs, (0 <= q.1.idx /\ q.1.idx <= 100000) /\ Z0 q.1.dat /\ q.1.dat.length <= 100 /\ (0 <= q.1.mks /\ q.1.mks <= 255)) (hR : U5 w) : CV Tryd.prog 47 [.agg #[s1, s2, .int .i64 Qd, .bool Qc], .int .i64 q, lv] w fun v W => ∃ t1 t2, v = .tuple #[.agg #[t1, t2, .int .i64 (X0 (Q9 (XQ Qb Qa Qd Qc) (q * ((Qb.length : Int) / 2)) (qs.map Prod.fst))).Qd, .bool (X0 (Q9 (XQ Qb Qa Qd Qc) (q * ((Qb.length : Int) / 2)) (qs.map Prod.fst))).Qc], .int .i64 (X0 (Q9 (XQ Qb Qa Qd Qc) (q * ((Qb.length : Int) / 2)) (qs.map Prod.fst))).err] /\ QD 128 L W t1 ((X0 (Q9 (XQ Qb Qa Qd Qc) (q * ((Qb.length : Int) / 2)) (qs.map Prod.fst))).Qb.map Qr) /\ QD 129 L W t2 ((X0 (Q9 (XQ Qb Qa Qd Qc) (q * ((Qb.length : Int) / 2)) (qs.map Prod.fst))).Qa.map QG) := by
 have hfr : 0 <= (q * ((Qb.length : Int) / 2)) /\ (q * ((Qb.length : Int) / 2)) <= 100000 := by rcases hq with h_ | h_ <;> rw [h_] <;> omega
 refine QN (N := 48) (f := [(0, .agg #[s1, s2, .int .i64 Qd, .bool Qc]), (1, .int .i64 q), (2, lv)]) Tryd.func47 rfl rfl rfl rfl fun Q hQ hE => ?_
 have hB := Below.refl w.heap.size w
 have h1m : Qb.length <= maxLen := by have := h1.len; rwa [List.length_map] at this
 unfold maxLen at h1m
 have h2m : Qa.length <= maxLen := by have := h2.len; rwa [List.length_map] at this
 unfold maxLen at h2m
 have h4m : qs.length <= maxLen := by have := h4.len; rwa [List.length_map] at this
 unfold maxLen at h4m
 refine Sq fun K1 hK1 => (Rg ?_)
 refine Ge (Xa rfl rfl rfl) rfl rfl ?_
 rintro _ W2 ⟨rfl, k3, b4, z5⟩
 have l6 := hB.size
 replace h1 := h1.more b4 (Nat.le_refl _)
 replace h2 := h2.more b4 (Nat.le_refl _)
 replace h4 := h4.more b4 (Nat.le_refl _)
 replace hqs := hqs.more b4 (Nat.le_refl _)
 replace hB := Qe hB b4
 replace hL := LL.more hL z5
 refine Ge (Qu rfl QV rfl) rfl rfl ?_
 rintro _ W7 ⟨rfl, k8, b9, z10⟩
 have n11 : w.heap.size ≠ W2.heap.size := Nat.ne_of_lt k3.lt
 have l12 := hB.size
 replace h1 := h1.more b9 (Nat.le_refl _)
 replace h2 := h2.more b9 (Nat.le_refl _)
 replace h4 := h4.more b9 (Nat.le_refl _)
 replace hqs := hqs.more b9 (Nat.le_refl _)
 replace k3 := k3.below b9
 replace hB := Qe hB b9
 replace hL := LL.more hL z10
 refine Pu rfl (Ni (hK1 (Sq fun K13 hK13 => (Sq fun K14 hK14 => (Rg (Pu rfl (Ni ?_)))))))
 refine hK14 (WC.block ?_)
 have j1 := h1
 have j2 := h2
 replace k3 : Xc W7 w.heap.size [s1, s2, .int .i64 (XQ Qb Qa Qd Qc).Qd, .bool (XQ Qb Qa Qd Qc).Qc] := k3
 refine WC.loop4 (fun (i : Nat) (d : DO) (t1 : Value) (t2 : Value) => [(1, .int .i64 q), (2, lv), (3, .pointer (some ⟨w.heap.size, 0, none⟩)), (6, .pointer (some ⟨W2.heap.size, 0, none⟩)), (8, .int .i64 (i : Int))]) (fun (i : Nat) (d : DO) (t1 : Value) (t2 : Value) W => i <= qs.length /\ d = Q9 (XQ Qb Qa Qd Qc) (q * ((Qb.length : Int) / 2)) ((qs.map Prod.fst).take i) /\ d.err = 0 /\ EL d /\ Below w.heap.size w W /\ LL (W2.heap.size :: w.heap.size :: L) W /\ QD 4 (W2.heap.size :: w.heap.size :: L) W lv (qs.map Vm) /\ YE (W2.heap.size :: w.heap.size :: L) W qs /\ QD 128 (W2.heap.size :: w.heap.size :: L) W t1 (d.Qb.map Qr) /\ QD 129 (W2.heap.size :: w.heap.size :: L) W t2 (d.Qa.map QG) /\ Xc W w.heap.size [t1, t2, .int .i64 d.Qd, .bool d.Qc] /\ Xc W W2.heap.size [.slice none 0 0, .slice none 0 0, .int .i64 0, .bool false]) (fun (i : Nat) (d : DO) (t1 : Value) (t2 : Value) => qs.length - i) 0 (XQ Qb Qa Qd Qc) s1 s2 (by repeat first | exact trivial | refine aR ?_ | refine aI (by omega) ?_) ⟨Nat.zero_le _, rfl, rfl, hfu, hB, hL, h4, hqs, j1, j2, k3, k8⟩ ?_
 clear h4 hqs j1 j2 k3 k8 hB hL
 rintro K15 i d t1 t2 W16 ⟨hi, hd0, hde, hfd, hB, hL, h4, hqs, j1, j2, k3, k8⟩ hK15
 refine Sq fun K17 hK17 => (Sq fun K18 hK18 => (Rg (Pu rfl (Pu rfl (Va (QT rfl Vh rfl h4) rfl rfl (Va (Xe rfl rfl rfl) rfl rfl (Ni ?_)))))))
 refine hK18 ?_
 refine WC.cond rfl (fun c19 => ?_) (fun c19 => ?_)
 .
  replace c19 := dT c19
  refine WC.skip (hK17 (Sq fun K20 hK20 => (WC.block (Sq fun K21 hK21 => ?_))))
  obtain ⟨r22, e23⟩ : ∃ x, qs[i]? = some x := ⟨_, List.getElem?_eq_getElem (by omega)⟩
  have hqm := List.mem_of_getElem? e23
  have hr22 := hqs r22 hqm
  obtain ⟨hq1, hq2, hq3, hq4⟩ := hqo r22 hqm
  have hsl2 : d.Qb.length = Qb.length := by rw [hd0, VE]; rfl
  refine WC.drawR 24 23 22 9 (fun u W => UG W16.heap.size 25 4 u W) (fun u W => KX (W2.heap.size :: w.heap.size :: L) W16.heap.size 25 (Yq d (q * ((Qb.length : Int) / 2)) r22.1) u W) (EJ W16.heap.size 25 4) [(some 18, .is (.agg #[t1, t2, .int .i64 d.Qd, .bool d.Qc])), (some 19, .is (.int .i64 q)), (some 20, .is (.pointer (some ⟨w.heap.size, 0, none⟩))), (some 21, .is (t1)), (some 22, .is (.int .i64 (Qb.length : Int))), (some 23, .is (.int .i64 ((Qb.length : Int) / 2))), (some 24, .is (.int .i64 (q * ((Qb.length : Int) / 2)))), (some 25, .is (lv)), (some 26, .is (.int .i64 (i : Int))), (some 27, .by fun u W => PtB W16.heap.size (W2.heap.size :: w.heap.size :: L) W u [.int .i64 r22.1.gen, .int .i64 r22.1.idx, .int .u8 r22.1.mks, r22.2]), (some 28, .by fun u W => PtB W16.heap.size (W2.heap.size :: w.heap.size :: L) W u [.int .i64 r22.1.idx]), (some 29, .is (.int .i64 r22.1.idx)), (some 30, .is (.int .i64 ((q * ((Qb.length : Int) / 2)) + r22.1.idx))), (some 31, .is (lv)), (some 32, .is (.int .i64 (i : Int))), (some 33, .by fun u W => PtB W16.heap.size (W2.heap.size :: w.heap.size :: L) W u [.int .i64 r22.1.gen, .int .i64 r22.1.idx, .int .u8 r22.1.mks, r22.2]), (some 34, .is (.agg #[.int .i64 r22.1.gen, .int .i64 r22.1.idx, .int .u8 r22.1.mks, r22.2])), (some 35, .is (.agg (Qr (Xk r22.1)).toArray)), (some 36, .by fun u W => KM (W2.heap.size :: w.heap.size :: L) (Yq d (q * ((Qb.length : Int) / 2)) r22.1) u W), (some 17, .by fun u W => KM (W2.heap.size :: w.heap.size :: L) (Yq d (q * ((Qb.length : Int) / 2)) r22.1) u W), (some 37, .by fun u W => JS (W2.heap.size :: w.heap.size :: L) (Yq d (q * ((Qb.length : Int) / 2)) r22.1) u W), (some 38, .is (.int .i64 ((Yq d (q * ((Qb.length : Int) / 2)) r22.1).err))), (some 9, .by fun u W => UG W16.heap.size 25 4 u W), (none, .by fun _ _ => True)] [[], [], [], [2], [3], [4], [1, 5], [], [], [7, 8], [9], [10], [6, 11], [], [], [13, 14], [15], [16], [0, 12, 17, 17], [18], [19], [19], [], [22, 20, 18, 0, 1, 2, 3, 4, 5, 6, 7, 8, 9, 10, 11, 12, 13, 14, 15, 16, 17, 18, 19, 20, 22]] (by kernel_rfl) (by kernel_rfl) (by kernel_rfl) (by kernel_rfl) (by kernel_rfl) (by kernel_rfl) (by kernel_rfl) ⟨fun _ _ _ hb h => h.below hb, fun _ _ _ hb h => h.below hb, fun _ _ _ hb h => h.below hb, fun _ _ _ hb h => h.below hb, fun _ _ _ hb h => h.below hb, fun _ _ _ hb h => h.below hb, fun _ _ _ hb h => h.below hb, fun _ _ _ _ h => h, trivial⟩ rfl rfl rfl (by decide) (by decide) ⟨fun _ _ _ hw h => h.wr hw, fun _ _ _ hw h => h.wr hw, fun _ _ _ hw h => h.wr hw, fun _ _ _ hw h => h.wr hw, fun _ _ _ hw h => h.wr hw, fun _ _ _ hw h => h.wr hw, fun _ _ _ hw h => h.wr hw, fun _ _ _ _ h => h, trivial⟩ (fun _ _ _ hb h => h.below hb) (fun _ _ hb hw => hw.below hb) ?_ ?_
  .
   refine Q5.cons (by decide) (fun Wd hd => ?_) ?_
   .
    have k3 := k3.below hd
    exact Dd (Qg rfl Qf rfl k3.range rfl) rfl
   refine Q5.cons (by decide) (fun Wd hd => ?_) ?_
   .
    exact Dd (Qt rfl rfl) rfl
   refine Q5.cons (by decide) (fun Wd hd => ?_) ?_
   .
    exact Dd (Qn (o1 := 0) rfl QE rfl rfl) rfl
   refine Q5.cons (by decide) (fun Wd hd => ?_) ?_
   .
    have k3 := k3.below hd
    exact Dd (Qi rfl Q7 rfl (k3.cell (k := 0) rfl)) rfl
   refine Q5.cons (by decide) (fun Wd hd => ?_) ?_
   .
    have j1 := j1.below hd
    exact Dd (ZX (QT rfl QW rfl j1) (show _ = Value.int .i64 (Qb.length : Int) by rw [hsl2])) rfl
   refine Q5.cons (by decide) (fun Wd hd => ?_) ?_
   .
    exact Dd (Y3 (r := (Qb.length : Int) / 2) rfl rfl rfl (by omega) (by rw [Int.tdiv_eq_ediv_of_nonneg (by omega)]; exact (Qm (by omega)))) rfl
   refine Q5.cons (by decide) (fun Wd hd => ?_) ?_
   .
    exact Dd (VO (r := (q * ((Qb.length : Int) / 2))) rfl rfl rfl (by rw [Qm (by rcases hq with h_ | h_ <;> rw [h_] <;> omega)])) rfl
   refine Q5.cons (by decide) (fun Wd hd => ?_) ?_
   .
    exact Dd (Qt rfl rfl) rfl
   refine Q5.cons (by decide) (fun Wd hd => ?_) ?_
   .
    exact Dd (Qt rfl rfl) rfl
   refine Q5.cons (by decide) (fun Wd hd => ?_) ?_
   .
    have zh4 := h4
    exact (Qab i rfl Vh rfl rfl zh4 hd (by omega) (XG (enc := Vm) e23)).mono (fun v W' h => ⟨by rw [<- h.1]; exact Below.refl _ _, by rw [<- h.1]; exact h.2⟩)
   refine Q5.cons (by decide) (fun Wd hd => ?_) ?_
   .
    intro u4_9 p4_9
    exact (Qef 1 rfl Y9 rfl p4_9 (cs' := [.int .i64 r22.1.idx]) rfl (Nat.succ_pos _)).mono (fun v W' h => ⟨by rw [<- h.1]; exact Below.refl _ _, by rw [<- h.1]; exact h.2⟩)
   refine Q5.cons (by decide) (fun Wd hd => ?_) ?_
   .
    intro u4_10 p4_10
    exact Dd (Zn rfl Qv rfl p4_10.ptr) rfl
   refine Q5.cons (by decide) (fun Wd hd => ?_) ?_
   .
    exact Dd (QR (r := (q * ((Qb.length : Int) / 2)) + r22.1.idx) rfl rfl rfl (Qm (by omega))) rfl
   refine Q5.cons (by decide) (fun Wd hd => ?_) ?_
   .
    exact Dd (Qt rfl rfl) rfl
   refine Q5.cons (by decide) (fun Wd hd => ?_) ?_
   .
    exact Dd (Qt rfl rfl) rfl
   refine Q5.cons (by decide) (fun Wd hd => ?_) ?_
   .
    have zh4 := h4
    exact (Qab i rfl Vh rfl rfl zh4 hd (by omega) (XG (enc := Vm) e23)).mono (fun v W' h => ⟨by rw [<- h.1]; exact Below.refl _ _, by rw [<- h.1]; exact h.2⟩)
   refine Q5.cons (by decide) (fun Wd hd => ?_) ?_
   .
    intro u4_15 p4_15
    exact Dd (Zc rfl XD rfl p4_15.ptr rfl) rfl
   refine Q5.cons (by decide) (fun Wd hd => ?_) ?_
   .
    have hr22 := hr22.below hd
    exact DR.mono (QQ rfl Tryd.func67 rfl rfl rfl (DC r22.1 _ Wd _ (LL.below hL hd) hr22 hq2 hq3 hq4 (hR.below (Qe hB hd)))) (fun v W' ⟨h, hb⟩ => ⟨hb, (by rw [h]; exact rfl)⟩)
   refine Q5.cons (by decide) (fun Wd hd => ?_) ?_
   .
    have j1 := j1.below hd
    have j2 := j2.below hd
    exact DR.mono (QQ rfl Tryd.func66 rfl rfl rfl (QbS d.Qb d.Qa d.Qd d.Qc _ _ ((q * ((Qb.length : Int) / 2)) + r22.1.idx) (Xk r22.1) Wd _ (LL.below hL hd) j1 j2 (LL.below hL hd) hfd (Z8 (by omega)))) (fun v W_ h => ⟨h.2, by rw [FN hde]; exact h.1⟩)
   refine Q5.cons (by decide) (fun Wd hd => ?_) ?_
   .
    intro u4_18 p4_18
    exact DV.dr (Qt rfl rfl) ⟨Below.refl _ _, p4_18⟩
   refine Q5.cons (by decide) (fun Wd hd => ?_) ?_
   .
    intro u4_19 p4_19
    obtain ⟨t1_, t2_, rfl, g1_, g2_⟩ := p4_19
    exact DV.dr (Zd rfl rfl rfl) ⟨Below.refl _ _, ⟨t1_, t2_, rfl, g1_, g2_⟩⟩
   refine Q5.cons (by decide) (fun Wd hd => ?_) ?_
   .
    intro u4_19 p4_19
    obtain ⟨t1_, t2_, rfl, g1_, g2_⟩ := p4_19
    exact Dd (Zd rfl rfl rfl) rfl
   refine Q5.cons (by decide) (fun Wd hd => ?_) ?_
   .
    exact (Ul (cs := [.slice none 0 0, .slice none 0 0, .int .i64 0, .bool false]) rfl QV rfl).mono (fun v W' h => ⟨h.1, (h.2 hd).newT rfl⟩)
   refine Q5.hit (fun Wd hd ut hut => ?_) ?_
   .
    intro u4_20 p4_20 u4_18 p4_18 u4_9 p4_9 u4_10 p4_10 u4_15 p4_15 u4_18 p4_18 u4_19 p4_19 u4_20 p4_20
    obtain ⟨va, vb, rfl, ka, kb⟩ := p4_20
    exact (Jk (vs := [va, vb, .int .i64 (Yq d (q * ((Qb.length : Int) / 2)) r22.1).Qd, .bool (Yq d (q * ((Qb.length : Int) / 2)) r22.1).Qc]) rfl Qj rfl hut rfl rfl (oC ka.one (oC kb.one (oC rfl (oC rfl Qk)))) rfl).mono (fun v W' h => ⟨h.1, va, vb, h.2, ka.wr h.1 (by decide), kb.wr h.1 (by decide)⟩)
   exact trivial
  .
   intro W24 b25
   rintro _ - ⟨va, vb, ⟨B4_22, rfl, q4_22, t4_22⟩, ka, kb⟩
   have k4_22 := t4_22.blk
   intro u4_9 p4_9
   intro u4_10 p4_10
   intro u4_15 p4_15
   intro _ _
   intro _ _
   intro _ _
   intro _ _
   replace h4 := h4.more b25 q4_22
   replace hqs := hqs.more b25 q4_22
   replace k3 := k3.below b25
   replace k8 := k8.below b25
   have l28 := Nat.le_trans hB.size q4_22
   replace hB := Qe hB b25
   replace hL := LL.below hL b25
   replace hL := LL.cons hL k4_22.lt
   replace ka := ka.offB k4_22 (by simp)
   replace kb := kb.offB k4_22 (by simp)
   refine Pu rfl (Ni (hK21 (Sq fun K29 hK29 => (Rg (Va (Qg rfl Qf rfl k4_22.range rfl) rfl rfl ?_)))))
   refine WL.do (Qh (cs' := [va, vb, .int .i64 ((Yq d (q * ((Qb.length : Int) / 2)) r22.1).Qd), .bool ((Yq d (q * ((Qb.length : Int) / 2)) r22.1).Qc)]) (vs := [va, vb, .int .i64 ((Yq d (q * ((Qb.length : Int) / 2)) r22.1).Qd), .bool ((Yq d (q * ((Qb.length : Int) / 2)) r22.1).Qc)]) rfl Qj rfl rfl rfl (oC ka.one (oC kb.one (oC rfl (oC rfl Qk)))) k3 rfl (nB rfl) rfl) rfl ?_
   rintro _ W30 ⟨k32, o31⟩
   replace k8 := k8.other o31 n11.symm
   clear k3
   replace h4 := h4.only o31 (.tail _ (.tail _ (.head _)))
   replace hqs := hqs.only o31 (.tail _ (.tail _ (.head _)))
   replace ka := ka.only o31 (.tail _ (.tail _ (.head _)))
   replace kb := kb.only o31 (.tail _ (.tail _ (.head _)))
   replace hB := o31.below hB l6
   replace hL := LL.only hL o31
   refine Ni (hK29 (Sq fun K33 hK33 => (Rg (Pu rfl (Va (Xl rfl rfl rfl) rfl rfl (Ni (hK33 ?_)))))))
   refine WC.cond rfl (fun c34 => ?_) (fun c34 => ?_)
   .
    replace c34 := Q4 c34
    replace c34 := dF c34
    refine Sq fun K35 hK35 => (Rg (Va (Qg rfl Qf rfl k32.range rfl) rfl rfl (Pu rfl ?_)))
    refine WL.do (Qh (cs' := [va, vb, .int .i64 ((Yq d (q * ((Qb.length : Int) / 2)) r22.1).Qd), .bool ((Yq d (q * ((Qb.length : Int) / 2)) r22.1).Qc)]) (vs := [va, vb, .int .i64 ((Yq d (q * ((Qb.length : Int) / 2)) r22.1).Qd), .bool ((Yq d (q * ((Qb.length : Int) / 2)) r22.1).Qc)]) rfl Qj rfl rfl rfl (oC ka.one (oC kb.one (oC rfl (oC rfl Qk)))) k8 rfl (nB rfl) rfl) rfl ?_
    rintro _ W36 ⟨k38, o37⟩
    clear k8
    replace ka := ka.only o37 (.tail _ (.head _))
    replace kb := kb.only o37 (.tail _ (.head _))
    replace hB := o37.below hB l12
    refine Pu rfl (Ni (hK35 ?_))
    exact WC.ret fun a_ ha_ => hQ (QO rfl (.agg rfl Qf k38.range rfl) (.tmp rfl) (by rw [Qca hd0 (by rw [List.getElem?_map, e23]; rfl) (by assumption)]; exact ⟨_, _, rfl, (ka.less (fun x hx => (.tail _ (.tail _ (.tail _ hx))))), (kb.less (fun x hx => (.tail _ (.tail _ (.tail _ hx)))))⟩) hB ha_)
   .
    replace c34 := Q2 c34
    replace c34 := dT c34
    refine WC.skip (hK20 (Rg (Pu rfl (Va (QR (r := (i : Int) + 1) rfl rfl rfl (Qm (by omega))) rfl rfl (Pu rfl (Ni ?_))))))
    replace hL := hL.less (fun x hx => (.tail _ hx))
    replace h4 := h4.less (fun x hx => (.tail _ hx))
    replace hqs := hqs.less (fun x hx => (.tail _ hx))
    replace ka := ka.less (fun x hx => (.tail _ hx))
    replace kb := kb.less (fun x hx => (.tail _ hx))
    exact hK15 (i + 1) (Yq d (q * ((Qb.length : Int) / 2)) r22.1) va vb ⟨(by omega), (by rw [hd0]; exact (U7 (by rw [List.getElem?_map, e23]; rfl)).symm), (by first | assumption | exact Classical.not_not.1 (by assumption)), (Gr hfd), hB, hL, h4, hqs, ka, kb, k32, k8⟩ (by omega) (by repeat first | exact trivial | refine aR ?_ | refine aI (by omega) ?_)
 .
  replace c19 := dF c19
  refine WC.exit ?_
  refine hK13 (Sq fun K39 hK39 => ?_)
  have hie : i = qs.length := by omega
  have hdA : d = Q9 (XQ Qb Qa Qd Qc) (q * ((Qb.length : Int) / 2)) (qs.map Prod.fst) := by rw [hd0, List.take_of_length_le (by rw [List.length_map]; omega)]
  refine Rg (Va (Qg rfl Qf rfl k3.range rfl) rfl rfl ?_)
  refine Ge (QQ rfl Tryd.func68 rfl rfl rfl (QdD d.Qb d.Qa d.Qd d.Qc _ _ W16 _ hL j1 j2 hL hfd)) rfl rfl ?_
  rintro _ W41 ⟨⟨z1, z2, rfl, y1, y2⟩, b40⟩
  replace k8 := k8.below b40
  replace hB := Qe hB b40
  refine Pu rfl (Pu rfl ?_)
  refine WL.do (Qh (cs' := [z1, z2, .int .i64 ((Xz d.Qb d.Qa d.Qd d.Qc).Qd), .bool ((Xz d.Qb d.Qa d.Qd d.Qc).Qc)]) (vs := [z1, z2, .int .i64 ((Xz d.Qb d.Qa d.Qd d.Qc).Qd), .bool ((Xz d.Qb d.Qa d.Qd d.Qc).Qc)]) rfl Qj rfl rfl rfl (oC y1.one (oC y2.one (oC rfl (oC rfl Qk)))) k8 rfl (nB rfl) rfl) rfl ?_
  rintro _ W42 ⟨k44, o43⟩
  clear k8
  replace y1 := y1.only o43 (.head _)
  replace y2 := y2.only o43 (.head _)
  replace hB := o43.below hB l12
  refine Pu rfl (Ni (hK39 ?_))
  exact WC.ret fun a_ ha_ => hQ (QO rfl (.agg rfl Qf k44.range rfl) (.tmp rfl) (by rw [<- hdA, FO hde]; exact ⟨_, _, rfl, (y1.less (fun x hx => (.tail _ (.tail _ hx)))), (y2.less (fun x hx => (.tail _ (.tail _ hx))))⟩) hB ha_)

end Go.Proofs.YtfachlmgdlnpoaaDoor
namespace Go.Proofs.YtfachlmgdlnpoaaDoor
set_option linter.unusedVariables false
set_option maxRecDepth 8000

theorem QeS {Qb : List (List Int)} {Qa : List (Int × List Int)} (h : Yy (Xm Qb Qa) Qb.length < 1099511627776) : Xt Qb Qa false = (Yy (Xm Qb Qa) Qb.length + 1, 0) := by
 unfold Xt
 rw [KC, if_neg (by omega)]
theorem Fk (Qb : List (List Int)) (Qa : List (Int × List Int)) : 0 <= Yy (Xm Qb Qa) Qb.length /\ Yy (Xm Qb Qa) Qb.length <= 1099511627776 := by
 rw [<- KC]; exact V0 Qb Qa false _
def UY (V : Nat -> Option Pg) (fr : Nat) (G : Int) (recs : List (List Int)) : Nat -> Option Pg := Ug (Ug V (fr + 1) (Zp G 1 recs)) fr [ZL G (Qz recs : Int)]
theorem Yz {n Q : Nat} (hQ : Q <= 1) {k : Nat} (hk : k < n / 2) : Q * (n / 2) + k < n := by
 have : Q = 0 \/ Q = 1 := by omega
 rcases this with rfl | rfl <;> omega
theorem GV {fr : Nat} {G : Int} {recs : List (List Int)} {n : Nat} (hf : fr + Qz recs < n) : ∀ p ∈ Zp G 1 recs, 0 <= (fr : Int) + p.idx /\ (fr : Int) + p.idx < (n : Int) := fun p hp => by
 obtain ⟨k, hk⟩ := List.mem_iff_getElem?.1 hp
 have h1 := (Vj hk).1
 have h2 := (List.getElem?_eq_some_iff.1 hk).1
 rw [ZW] at h2
 omega
theorem Hl {Qb : List (List Int)} {Qa : List (Int × List Int)} (h : YL Qb Qa) {fr : Int} {ps : List Pg} (hp : ∀ p ∈ ps, Z0 p.dat) : YL Qb (Qa ++ Kt fr ps) := by
  refine ⟨h.1, fun q hq => ?_⟩
  rcases List.mem_append.1 hq with hq | hq
  . exact h.2 q hq
  . obtain ⟨x, hx, rfl⟩ := List.mem_map.1 hq
    exact QaE (hp x hx)
theorem Qcm {G u : Int} {recs : List (List Int)} (hb : ∀ r ∈ recs, Z0 r) : ∀ p ∈ Zp G u recs, Z0 p.dat := fun p hp => by
 obtain ⟨k, hk⟩ := List.mem_iff_getElem?.1 hp
 obtain ⟨_, _, _, _, _, r, hr, j, e⟩ := Vj hk
 rw [e]; exact KL (hb r hr) j
theorem Gu {Qb : List (List Int)} {Qa : List (Int × List Int)} (h : QM Qb Qa = true) {fr u : Nat} {ps : List Pg} (hl : Qa.length + ps.length <= 4096) (hu : u + ps.length <= Qb.length) (hk : ∀ k p, ps[k]? = some p -> (fr : Int) + p.idx = ((u + k : Nat) : Int) /\ KN p) : ∀ a, a < Qb.length -> Xm (YZ Qb (Qa ++ Kt (fr : Int) ps)) [] a = Ug (Xm Qb Qa) u ps a := fun a ha => by
 have hr : QM Qb (Qa ++ Kt (fr : Int) ps) = true := YF h (by rw [Y6]; exact hl) fun q hq => by
  obtain ⟨x, hx, rfl⟩ := List.mem_map.1 hq
  obtain ⟨k, hk1⟩ := List.mem_iff_getElem?.1 hx
  have := (hk k x hk1).1
  have := (List.getElem?_eq_some_iff.1 hk1).1
  show 0 <= (fr : Int) + x.idx /\ (fr : Int) + x.idx < _
  omega
 rw [Qat hr ha]
 exact QbA h ha ps hl hu hk
theorem Jc {Qb : List (List Int)} {Qa l : List (Int × List Int)} (h : QM Qb Qa = true) : QM (YZ Qb l) [] = true := by
 obtain ⟨h1, h2, h3, h4⟩ := ZU h
 exact JZ (by rw [Yb]; exact List.length_pos_iff.2 h1) (by rw [Yb]; exact h2) (by rw [List.length_nil]; omega) (fun p hp => absurd hp List.not_mem_nil)
theorem Qfs {Qb : List (List Int)} {Qa : List (Int × List Int)} {f q : Int} {Q : Nat} {recs : List (List Int)} (hr : QM Qb Qa = true) (hq : q = (Q : Int)) (hQ : Q <= 1) (hf : f < 0) (hg : Yy (Xm Qb Qa) Qb.length < 1099511627776) (hb : ∀ r ∈ recs, Z0 r) (hfit : 1 + Qz recs <= Qb.length / 2) (hl : Qa.length + Qz recs <= 4096) (hbd : YL Qb Qa) :
    ∃ S, QC Qb Qa f false q recs = (⟨S, [], f, false, 0⟩, q, Yy (Xm Qb Qa) Qb.length + 1, 1 + (Qz recs : Int)) /\ S.length = Qb.length /\ QM S [] = true /\ YL S [] /\ ∀ a, a < Qb.length -> Xm S [] a = UY (Xm Qb Qa) (Q * (Qb.length / 2)) (Yy (Xm Qb Qa) Qb.length + 1) recs a := by
  have hm := Fk Qb Qa
  have hlen := (ZU hr).2.1
  generalize hG : Yy (Xm Qb Qa) Qb.length + 1 = G
  have hG1 : 1 <= G /\ G <= 1099511627776 := by omega
  have hin := Yz hQ (k := Qz recs) (n := Qb.length) (by omega)
  have hfr : q * ((Qb.length : Int) / 2) = ((Q * (Qb.length / 2) : Nat) : Int) := by rw [hq, Int.natCast_mul]; rfl
  generalize hFR : Q * (Qb.length / 2) = fr at *
  have hpl : (Zp G 1 recs).length = Qz recs := ZW G recs 1
  have hpk : ∀ k p, (Zp G 1 recs)[k]? = some p -> (fr : Int) + p.idx = ((fr + 1 + k : Nat) : Int) /\ KN p := fun k p hk => ⟨by rw [(Vj hk).1]; omega, QdO hG1 hb (by decide) (by omega) hk⟩
  have hhk : ∀ (k : Nat) (p : Pg), [ZL G (Qz recs : Int)][k]? = some p -> (fr : Int) + p.idx = ((fr + k : Nat) : Int) /\ KN p := fun k p hk => by
    have h1 := (List.getElem?_eq_some_iff.1 hk).1
    rw [List.length_singleton] at h1
    obtain rfl : k = 0 := by omega
    cases hk
    exact ⟨by show (fr : Int) + 0 = _; omega, Qe0 hG1⟩
  have hr1 : QM Qb (Qa ++ Kt (fr : Int) (Zp G 1 recs)) = true := YF hr (by rw [Y6, hpl]; exact hl) fun p hp => by
    obtain ⟨x, hx, rfl⟩ := List.mem_map.1 hp
    exact GV hin x hx
  have hr2 : QM (YZ Qb (Qa ++ Kt (fr : Int) (Zp G 1 recs))) [] = true := Jc hr1
  have hl2 : (YZ Qb (Qa ++ Kt (fr : Int) (Zp G 1 recs))).length = Qb.length := Yb _ _
  have hr3 : QM (YZ Qb (Qa ++ Kt (fr : Int) (Zp G 1 recs))) ([] ++ Kt (fr : Int) [ZL G (Qz recs : Int)]) = true := YF hr2 (by rw [Y6]; show 0 + 1 <= 4096; decide) fun p hp => by
    obtain ⟨x, hx, rfl⟩ := List.mem_map.1 hp
    rw [List.mem_singleton.1 hx, hl2]
    show 0 <= (fr : Int) + 0 /\ (fr : Int) + 0 < _
    omega
  refine ⟨YZ (YZ Qb (Qa ++ Kt (fr : Int) (Zp G 1 recs))) ([] ++ Kt (fr : Int) [ZL G (Qz recs : Int)]), ?_, ?_, ?_, ?_, ?_⟩
  . have e1 : YC (XQ Qb Qa f false) (fr : Int) G recs = ⟨YZ (YZ Qb (Qa ++ Kt (fr : Int) (Zp G 1 recs))) ([] ++ Kt (fr : Int) [ZL G (Qz recs : Int)]), [], f, false, 0⟩ := by
      unfold YC XQ
      rw [H5 _ _ _ hr (by rw [hpl]; exact hl) (GV hin) (.inl hf), if_pos hf, K0 hr1, if_neg (by omega), if_pos hf, EN hr2 (by rw [List.length_nil]; omega) (by show 0 <= (fr : Int) + 0 /\ (fr : Int) + 0 < _; rw [hl2]; omega), if_neg (by omega), if_pos hf, K0 hr3, if_neg (by omega), if_pos hf]
    unfold QC
    rw [QeS hg, if_neg (fun q => q rfl)]
    show (if (Xx (XQ Qb Qa f false) (YC (XQ Qb Qa f false) (q * ((Qb.length : Int) / 2)) (Yy (Xm Qb Qa) Qb.length + 1) recs)).err = 0 then _ else _) = _
    rw [hG, hfr, e1]
    rfl
  . rw [Yb, Yb]
  . exact Jc hr3
  . refine GH (Hl (GH (Hl hbd (Qcm hb))) fun p hp => ?_)
    rw [List.mem_singleton.1 hp]
    exact Gg _ _
  . intro a ha
    rw [Gu hr2 (by rw [List.length_nil]; show 0 + 1 <= 4096; decide) (u := fr) (by rw [hl2]; show fr + 1 <= _; omega) hhk a (by rw [hl2]; exact ha)]
    unfold UY Ug
    rw [Gu hr (by rw [hpl]; exact hl) (u := fr + 1) (by rw [hpl]; omega) hpk a ha]
    rfl
theorem QdL (V : Nat -> Option Pg) (fr : Nat) (G : Int) (recs : List (List Int)) : UU (UY V fr G recs) fr 0 = some (ZL G (Qz recs : Int)) := by
 have e : UY V fr G recs (fr + 0) = some (ZL G (Qz recs : Int)) := by
  unfold UY Ug
  rw [List.length_singleton, if_pos (show fr <= fr + 0 /\ fr + 0 < fr + 1 by omega), show fr + 0 - fr = 0 by omega]; rfl
 unfold UU
 rw [e]
 exact if_pos rfl
theorem D4 {V : Nat -> Option Pg} {fr : Nat} {G : Int} {recs : List (List Int)} {k : Nat} (hk : k < Qz recs) : UY V fr G recs (fr + (1 + k)) = (Zp G 1 recs)[k]? := by
 unfold UY Ug
 rw [List.length_singleton, if_neg (show ¬ (fr <= fr + (1 + k) /\ fr + (1 + k) < fr + 1) by omega), if_pos (show fr + 1 <= fr + (1 + k) /\ fr + (1 + k) < fr + 1 + (Zp G 1 recs).length by rw [ZW]; omega), show fr + (1 + k) - (fr + 1) = k by omega]
theorem Ke {V : Nat -> Option Pg} {fr : Nat} {G : Int} {recs : List (List Int)} {a : Nat} (ha : a < fr \/ fr + 1 + Qz recs <= a) : UY V fr G recs a = V a := by
 unfold UY Ug
 rw [List.length_singleton, if_neg (show ¬ (fr <= a /\ a < fr + 1) by omega), if_neg (by rw [ZW]; omega)]
theorem DP {pg : Nat -> Option Pg} {sz st : Nat} {gen : Int} (h : st < sz -> ∀ p, pg st = some p -> p.gen ≠ gen) : Uf pg sz st gen = none := by
  unfold Uf
  by_cases hs : st < sz
  . cases e : pg st with
    | none => exact Qb3 hs e
    | some p => exact Qb5 hs e (.inl (h hs p e))
  . exact Ec hs
theorem QcC {V : Nat -> Option Pg} {fr h : Nat} {G : Int} {recs : List (List Int)} (hfit : 1 + Qz recs <= h) (hg : ∀ a p, fr <= a -> a < fr + h -> V a = some p -> p.gen < G) : UM (UU (UY V fr G recs) fr) h G recs [] := by
  refine ⟨QdL V fr G recs, ?_, ?_, ?_⟩
  . rw [List.append_nil]
    intro k hk
    have e := D4 (V := V) (fr := fr) (G := G) hk
    unfold UU
    rw [e]
    cases e2 : (Zp G 1 recs)[k]? with
    | none => rfl
    | some p =>
      have := (Vj e2).1
      exact if_pos (by omega)
  . rw [List.append_nil]; exact hfit
  . rw [List.append_nil]
    refine DP fun hs p hp => ?_
    unfold UU at hp
    rw [Ke (by omega)] at hp
    split at hp
    . rename_i p' hp'
      split at hp
      . cases hp
        have := hg _ _ (by omega) (by omega) hp'
        omega
      . cases hp
    . cases hp
theorem Qa4 {V : Nat -> Option Pg} {Q h : Nat} {G : Int} {recs : List (List Int)} (hQ : Q <= 1) (hfit : 1 + Qz recs <= h) {k : Nat} (hk : k < h) : UU (UY V (Q * h) G recs) ((1 - Q) * h) k = UU V ((1 - Q) * h) k := by
 unfold UU
 rw [Ke (by
  have : Q = 0 \/ Q = 1 := by omega
  rcases this with rfl | rfl <;> omega)]
theorem QdY {V : Nat -> Option Pg} {fr n : Nat} {G : Int} {recs : List (List Int)} (hG : 0 <= G) (hf : fr < n) (hg : ∀ a p, a < n -> V a = some p -> p.gen < G) : Yy (UY V fr G recs) n = G := by
  refine Int.le_antisymm (Gd hG fun a p ha hp => ?_) ?_
  . by_cases h1 : a < fr \/ fr + 1 + Qz recs <= a
    . rw [Ke h1] at hp
      exact Int.le_of_lt (hg a p ha hp)
    . by_cases h2 : a = fr
      . subst h2
        have : UY V a G recs a = some (ZL G (Qz recs : Int)) := by
          unfold UY Ug
          rw [if_pos (by simp), Nat.sub_self]; rfl
        rw [this] at hp
        cases hp
        exact Int.le_refl _
      . have e := D4 (V := V) (fr := fr) (G := G) (recs := recs) (k := a - fr - 1) (by omega)
        rw [show fr + (1 + (a - fr - 1)) = a by omega, hp] at e
        exact Int.le_of_eq (Vj e.symm).2.1
  . have : UY V fr G recs fr = some (ZL G (Qz recs : Int)) := by
      unfold UY Ug
      rw [if_pos (by simp), Nat.sub_self]; rfl
    exact VZ (p := ZL G (Qz recs : Int)) hf this
end Go.Proofs.YtfachlmgdlnpoaaDoor
namespace Go.Proofs.YtfachlmgdlnpoaaDoor
set_option linter.unusedVariables false
set_option maxRecDepth 8000

theorem Fj {pg : Nat -> Option Pg} {sz st : Nat} {gen : Int} : ∀ (f k : Nat) (out r : List Int) (k' : Nat), YT pg sz st gen f k out = some (r, k') -> k' <= sz
  | 0, k, out, r, k', h => by cases h
  | f + 1, k, out, r, k', h => by
    rw [YT] at h
    split at h
    . split at h
      . cases h
      . split at h
        . cases h
        . split at h
          . split at h
            . cases h
            . cases h; omega
          . split at h
            . cases h
            . exact Fj f _ _ r k' h
    . cases h
theorem F9 {pg : Nat -> Option Pg} {sz n : Nat} {gen : Int} : ∀ (f k : Nat) (l l' : List (List Int)) (k' : Nat), Z5 pg sz n gen f k l = some (l', k') -> k <= sz -> k' <= sz
  | 0, k, l, l', k', h, _ => by cases h
  | f + 1, k, l, l', k', h, hk => by
    rw [Z5] at h
    split at h
    . split at h
      . cases h
      . rename_i out k2 hr
        split at h
        . cases h
        . exact F9 f k2 _ l' k' h (Fj _ _ _ _ _ hr)
    . cases h; exact hk
theorem F7 {pg : Nat -> Option Pg} {sz : Nat} {gen : Int} : ∀ (f k : Nat) (l : List (List Int)), k <= sz -> (Yd pg sz gen f k l).2 <= sz
  | 0, k, l, hk => hk
  | f + 1, k, l, hk => by
    rw [Yd]
    split
    . exact hk
    . rename_i out k2 hr
      exact F7 f k2 _ (Fj _ _ _ _ _ hr)
theorem Qb2 {pg : Nat -> Option Pg} {sz : Nat} (hs : 1 <= sz) {l : List (List Int)} {g : Int} {u : Nat} (h : ZV pg sz = some (l, g, u)) : u <= sz /\ ∃ p, pg 0 = some p /\ p.gen = g := by
  unfold ZV at h
  split at h
  . cases h
  . rename_i p hp
    split at h
    . cases h
    . split at h
      . cases h
      . split at h
        . cases h
        . rename_i l1 k1 h1
          cases h
          exact ⟨F7 _ _ _ (F9 _ _ _ _ _ h1 hs), p, hp, rfl⟩
theorem QdM {Qb : List (List Int)} {Qa : List (Int × List Int)} {fr k : Nat} {p : Pg} (h : UU (Xm Qb Qa) fr k = some p) (hf : fr + k < Qb.length) : 1 <= p.gen /\ p.gen <= Yy (Xm Qb Qa) Qb.length := by
  unfold UU at h
  split at h
  . rename_i q hq
    split at h
    . cases h; exact ⟨(Gv hq).1, VZ hf hq⟩
    . cases h
  . cases h
structure Opn (S : List (List Int)) (n Q : Nat) (G : Int) (l : List (List Int)) : Prop where
  len : S.length = n
  n1 : 8 <= n
  n2 : n <= 2048
  hQ : Q <= 1
  g1 : 1 <= G /\ G <= 1099511627776
  right : QM S [] = true
  byt : YL S []
  half : ∃ A B, l = A ++ B /\ UM (UU (Xm S []) (Q * (n / 2))) (n / 2) G A B
  max : Yy (Xm S []) n = G
  oth : ∀ r g u, ZV (UU (Xm S []) ((1 - Q) * (n / 2))) (n / 2) = some (r, g, u) -> g < G
  lb : ∀ r ∈ l, Z0 r
  beh : ∀ a p, Q * (n / 2) + 1 + Qz l <= a -> a < Q * (n / 2) + n / 2 -> Xm S [] a = some p -> p.gen < G
theorem Ea {Qb : List (List Int)} {Qa : List (Int × List Int)} (hr : QM Qb Qa = true) (hn : 8 <= Qb.length) {q : Int} {Q : Nat} (hq : q = (Q : Int)) (hQ : Q <= 1) : Ye Qb Qa false q = ZV (UU (Xm Qb Qa) (Q * (Qb.length / 2))) (Qb.length / 2) := by
 have hc : Xg Qb Qa false = 0 := by
  unfold Xg
  rw [if_neg (by rintro (e | e); rw [hr] at e; cases e; omega), if_neg (by decide)]
 unfold Ye
 rw [if_neg (by omega)]
 exact Qa7 hr (by omega) hq hQ
theorem QeK {Q : Nat} (hQ : Q <= 1) {x : Nat -> Option (List (List Int) × Int × Nat)} {l : List (List Int)} {G : Int} {u : Nat} (h1 : x Q = some (l, G, u)) (h2 : ∀ r g v, x (1 - Q) = some (r, g, v) -> g < G) : Eh (x 0) (x 1) = some (l, ((1 - Q : Nat) : Int)) := by
  have : Q = 0 \/ Q = 1 := by omega
  rcases this with rfl | rfl
  . rw [h1]
    cases e : x 1 with
    | none => rfl
    | some b => have := h2 b.1 b.2.1 b.2.2 e; exact if_neg (by show ¬ G < b.2.1; omega)
  . rw [h1]
    cases e : x 0 with
    | none => rfl
    | some b => have := h2 b.1 b.2.1 b.2.2 e; exact if_pos (by show b.2.1 < G; omega)
theorem Opn.both {S : List (List Int)} {n Q : Nat} {G : Int} {l : List (List Int)} (h : Opn S n Q G l) : JA S [] false = some (l, ((1 - Q : Nat) : Int)) := by
 obtain ⟨A, B, rfl, hh⟩ := h.half
 have e0 : Ye S [] false 0 = ZV (UU (Xm S []) (0 * (n / 2))) (n / 2) := by have := Ea h.right (by rw [h.len]; exact h.n1) (q := 0) (Q := 0) rfl (by decide); rw [h.len] at this; exact this
 have e1 : Ye S [] false 1 = ZV (UU (Xm S []) (1 * (n / 2))) (n / 2) := by have := Ea h.right (by rw [h.len]; exact h.n1) (q := 1) (Q := 1) rfl (by decide); rw [h.len] at this; exact this
 unfold JA
 rw [e0, e1]
 exact QeK (x := fun Q => ZV (UU (Xm S []) (Q * (n / 2))) (n / 2)) h.hQ (hh.recs (by have := h.n2; omega)) h.oth
theorem Qft {Qb : List (List Int)} {Qa : List (Int × List Int)} {f q : Int} {Q : Nat} {recs : List (List Int)} (hr : QM Qb Qa = true) (h8 : 8 <= Qb.length) (hq : q = (Q : Int)) (hQ : Q <= 1) (hf : f < 0) (hg : Yy (Xm Qb Qa) Qb.length < 1099511627776) (hb : ∀ r ∈ recs, Z0 r) (hfit : 1 + Qz recs <= Qb.length / 2) (hl : Qa.length + Qz recs <= 4096) (hbd : YL Qb Qa) :
    ∃ S, QC Qb Qa f false q recs = (⟨S, [], f, false, 0⟩, q, Yy (Xm Qb Qa) Qb.length + 1, 1 + (Qz recs : Int)) /\ Opn S Qb.length Q (Yy (Xm Qb Qa) Qb.length + 1) recs := by
  obtain ⟨S, e, hl1, hr1, hb1, hv⟩ := Qfs hr hq hQ hf hg hb hfit hl hbd
  have hm := Fk Qb Qa
  have hn2 := (ZU hr).2.1
  refine ⟨S, e, hl1, h8, hn2, hQ, by omega, hr1, hb1, ?_, ?_, ?_, hb, ?_⟩
  . refine ⟨recs, [], (List.append_nil _).symm, ?_⟩
    have hh := QcC (V := Xm Qb Qa) (fr := Q * (Qb.length / 2)) (h := Qb.length / 2) (G := Yy (Xm Qb Qa) Qb.length + 1) (recs := recs) hfit fun a p ha1 ha2 hp => by
      have := Yz hQ (k := a - Q * (Qb.length / 2)) (n := Qb.length) (by omega)
      have := VZ (k := Qb.length) (by omega) hp
      omega
    have hx : ∀ k, k < Qb.length / 2 -> UU (Xm S []) (Q * (Qb.length / 2)) k = UU (UY (Xm Qb Qa) (Q * (Qb.length / 2)) (Yy (Xm Qb Qa) Qb.length + 1) recs) (Q * (Qb.length / 2)) k := fun k hk => by
      unfold UU
      rw [hv _ (Yz hQ hk)]
    refine ⟨by rw [hx 0 (by omega)]; exact hh.hdr, fun k hk => by rw [hx _ (by have := hh.fit; omega)]; exact hh.pgs k hk, hh.fit, ?_⟩
    rw [GP hx]
    exact hh.stop
  . rw [Eq hv]
    exact QdY (by omega) (by have := Yz hQ (k := 0) (n := Qb.length) (by omega); omega) fun a p ha hp => by have := VZ ha hp; omega
  . intro r g u hru
    have hx : ∀ k, k < Qb.length / 2 -> UU (Xm S []) ((1 - Q) * (Qb.length / 2)) k = UU (Xm Qb Qa) ((1 - Q) * (Qb.length / 2)) k := fun k hk => by
      rw [<- Qa4 (V := Xm Qb Qa) (G := Yy (Xm Qb Qa) Qb.length + 1) (recs := recs) hQ hfit hk]
      unfold UU
      rw [hv _ (Yz (by omega) hk)]
    rw [Kv (by omega) hx] at hru
    obtain ⟨_, p, hp, rfl⟩ := Qb2 (by omega) hru
    have := (QdM hp (by have := Yz (Q := 1 - Q) (by omega) (k := 0) (n := Qb.length) (by omega); omega)).2
    omega
  . intro a p ha1 ha2 hp
    have hin := Yz hQ (k := a - Q * (Qb.length / 2)) (n := Qb.length) (by omega)
    rw [hv a (by omega), Ke (by omega)] at hp
    have := VZ (k := Qb.length) (by omega) hp
    omega
theorem Vy {Qb : List (List Int)} {Qa : List (Int × List Int)} (hr : QM Qb Qa = true) (hn : 8 <= Qb.length) : Xg Qb Qa false = 0 := by
 unfold Xg
 rw [if_neg (by rintro (e | e); rw [hr] at e; cases e; omega), if_neg (by decide)]
theorem QaU {G : Int} {u : Nat} {r : List Int} (hg : 1 <= G /\ G <= 1099511627776) (hb : Z0 r) (hc : u + Z2 r <= 100000) {k : Nat} {p : Pg} (h : (Xw G (u : Int) r)[k]? = some p) : p.idx = (u : Int) + (k : Int) /\ p.gen = G /\ KN p := by
 have hk := (List.getElem?_eq_some_iff.1 h).1
 rw [Za] at hk
 rw [Y0 hk] at h
 cases h
 refine ⟨rfl, rfl, hg.1, hg.2, ?_, ?_, ?_, ?_, FF _ _, KL hb _⟩
 . show (0 : Int) <= (u : Int) + (k : Int); omega
 . show (u : Int) + (k : Int) < 4294967296; omega
 . show (0 : Int) <= (if k = 0 then 1 else 0) + (if k + 1 = Z2 r then 2 else 0); split <;> split <;> decide
 . show (if k = 0 then (1 : Int) else 0) + (if k + 1 = Z2 r then 2 else 0) <= 3; split <;> split <;> decide
theorem QaZ (G : Int) (l : List (List Int)) (r : List Int) : Zp G 1 (l ++ [r]) = Zp G 1 l ++ Xw G ((1 + Qz l : Nat) : Int) r := by
 rw [J7]
 congr 2
theorem Opn.app {S : List (List Int)} {n Q : Nat} {G : Int} {l : List (List Int)} (h : Opn S n Q G l) {f : Int} (hf : f < 0) {r : List Int} (hb : Z0 r) (hr : r.length <= 4096) (hfit : 1 + Qz l + Z2 r <= n / 2) : ∃ S', X5 S [] f false (Q : Int) G (1 + (Qz l : Int)) r = (⟨S', [], f, false, 0⟩, (Q : Int), G, 1 + (Qz (l ++ [r]) : Int)) /\ Opn S' n Q G (l ++ [r]) := by
  have hQ := h.hQ; have hg := h.g1; have hn1 := h.n1; have hn2 := h.n2; have hlen := h.len
  have hin := Yz hQ (k := Qz l + Z2 r) (n := n) (by omega)
  generalize hFR : Q * (n / 2) = fr at hin
  have hfr : (Q : Int) * ((S.length : Int) / 2) = (fr : Int) := by rw [hlen, <- hFR, Int.natCast_mul]; rfl
  have hpl : (Xw G ((1 + Qz l : Nat) : Int) r).length = Z2 r := Za ..
  have hok : ∀ (k : Nat) (p : Pg), (Xw G ((1 + Qz l : Nat) : Int) r)[k]? = some p -> p.idx = ((1 + Qz l : Nat) : Int) + (k : Int) /\ p.gen = G /\ KN p := fun k p hp => QaU hg hb (by omega) hp
  have hpk : ∀ (k : Nat) (p : Pg), (Xw G ((1 + Qz l : Nat) : Int) r)[k]? = some p -> (fr : Int) + p.idx = ((fr + 1 + Qz l + k : Nat) : Int) /\ KN p := fun k p hp => ⟨by rw [(hok k p hp).1]; omega, (hok k p hp).2.2⟩
  have hpi : ∀ p ∈ Xw G ((1 + Qz l : Nat) : Int) r, 0 <= (fr : Int) + p.idx /\ (fr : Int) + p.idx < (S.length : Int) := fun p hp => by
    obtain ⟨k, hk⟩ := List.mem_iff_getElem?.1 hp
    have h1 := (hok k p hk).1
    have h2 := (List.getElem?_eq_some_iff.1 hk).1
    rw [hpl] at h2
    omega
  have hr1 : QM S ([] ++ Kt (fr : Int) (Xw G ((1 + Qz l : Nat) : Int) r)) = true := YF h.right (by rw [Y6, hpl, List.length_nil]; omega) fun p hp => by
    obtain ⟨x, hx, rfl⟩ := List.mem_map.1 hp
    exact hpi x hx
  have e : Qdg S [] f false (Q : Int) G (1 + (Qz l : Int)) r = ⟨YZ S ([] ++ Kt (fr : Int) (Xw G ((1 + Qz l : Nat) : Int) r)), [], f, false, 0⟩ := by
    unfold Qdg XQ
    rw [hfr, show (1 + (Qz l : Int)) = ((1 + Qz l : Nat) : Int) by omega, H5 _ _ _ h.right (by rw [hpl, List.length_nil]; omega) hpi (.inl hf), if_pos hf, K0 hr1, if_neg (by omega), if_pos hf]
    rfl
  have hv : ∀ a, a < n -> Xm (YZ S ([] ++ Kt (fr : Int) (Xw G ((1 + Qz l : Nat) : Int) r))) [] a = Ug (Xm S []) (fr + 1 + Qz l) (Xw G ((1 + Qz l : Nat) : Int) r) a := fun a ha => Gu h.right (by rw [hpl, List.length_nil]; omega) (by rw [hpl]; omega) hpk a (by omega)
  have hvin : ∀ k, k < Z2 r -> Ug (Xm S []) (fr + 1 + Qz l) (Xw G ((1 + Qz l : Nat) : Int) r) (fr + (1 + (Qz l + k))) = (Xw G ((1 + Qz l : Nat) : Int) r)[k]? := fun k hk => by
    unfold Ug
    rw [if_pos (by rw [hpl]; omega), show fr + (1 + (Qz l + k)) - (fr + 1 + Qz l) = k by omega]
  have hvout : ∀ a, a < fr + 1 + Qz l \/ fr + 1 + Qz l + Z2 r <= a -> Ug (Xm S []) (fr + 1 + Qz l) (Xw G ((1 + Qz l : Nat) : Int) r) a = Xm S [] a := fun a ha => by
    unfold Ug
    rw [if_neg (by rw [hpl]; omega)]
  have hlg : ZS (S.length : Int) (Q : Int) G (1 + (Qz l : Int)) = 0 := by
    unfold ZS
    rw [if_neg (by omega)]
  refine ⟨YZ S ([] ++ Kt (fr : Int) (Xw G ((1 + Qz l : Nat) : Int) r)), ?_, by rw [Yb]; exact hlen, hn1, hn2, hQ, hg, Jc hr1, ?_, ?_, ?_, ?_, ?_, ?_⟩
  . unfold X5
    rw [if_neg (fun q => q (Vy h.right (by omega))), if_neg (fun q => q hlg), if_neg (by omega), if_neg (by rw [Ja hr]; omega), e, if_pos rfl, Ja hr, ZJ]
    congr 3
    omega
  . refine GH (Hl h.byt fun p hp => ?_)
    obtain ⟨k, hk⟩ := List.mem_iff_getElem?.1 hp
    exact (hok k p hk).2.2.db
  . obtain ⟨A, B, rfl, hh⟩ := h.half
    rw [hFR] at hh ⊢
    refine ⟨A, B ++ [r], (List.append_assoc ..), ?_, ?_, ?_, ?_⟩
    . have : UU (Xm S []) fr 0 = some (ZL G (Qz A : Int)) := hh.hdr
      unfold UU at this ⊢
      rw [hv _ (by omega), hvout _ (by omega)]
      exact this
    . rw [<- List.append_assoc]
      intro k hk
      rw [ZJ] at hk
      rw [QaZ]
      by_cases hk2 : k < Qz (A ++ B)
      . have := hh.pgs k hk2
        unfold UU at this ⊢
        rw [hv _ (by omega), hvout _ (by omega), List.getElem?_append_left (by rw [ZW]; exact hk2)]
        exact this
      . rw [List.getElem?_append_right (by rw [ZW]; omega), ZW]
        have e1 := hvin (k - Qz (A ++ B)) (by omega)
        rw [show fr + (1 + (Qz (A ++ B) + (k - Qz (A ++ B)))) = fr + (1 + k) by omega] at e1
        unfold UU
        rw [hv _ (by omega), e1]
        cases e2 : (Xw G ((1 + Qz (A ++ B) : Nat) : Int) r)[k - Qz (A ++ B)]? with
        | none => rfl
        | some p => exact if_pos (by rw [(hok _ _ e2).1]; omega)
    . rw [<- List.append_assoc, ZJ]; omega
    . rw [<- List.append_assoc, ZJ]
      refine DP fun hs p hp => ?_
      unfold UU at hp
      rw [hv _ (by have := Yz hQ (k := 1 + (Qz (A ++ B) + Z2 r)) hs; omega), hvout _ (by omega)] at hp
      split at hp
      . rename_i p' hp'
        split at hp
        . cases hp
          have := h.beh _ _ (by omega) (by omega) hp'
          omega
        . cases hp
      . cases hp
  . refine Int.le_antisymm (Gd (by omega) fun a p ha hp => ?_) ?_
    . rw [hv a ha] at hp
      by_cases h1 : a < fr + 1 + Qz l \/ fr + 1 + Qz l + Z2 r <= a
      . rw [hvout a h1] at hp
        rw [<- h.max]
        exact VZ ha hp
      . have e1 := hvin (a - (fr + 1 + Qz l)) (by omega)
        rw [show fr + (1 + (Qz l + (a - (fr + 1 + Qz l)))) = a by omega, hp] at e1
        exact Int.le_of_eq (hok _ _ e1.symm).2.1
    . obtain ⟨A, B, _, hh⟩ := h.half
      have hd : UU (Xm S []) fr 0 = some (ZL G (Qz A : Int)) := by rw [<- hFR]; exact hh.hdr
      unfold UU at hd
      split at hd
      . rename_i p hp
        split at hd
        . have e3 : p = ZL G (Qz A : Int) := Option.some.inj hd
          have hx : Xm (YZ S ([] ++ Kt (fr : Int) (Xw G ((1 + Qz l : Nat) : Int) r))) [] (fr + 0) = some p := by rw [hv _ (by omega), hvout _ (by omega)]; exact hp
          have hge := VZ (k := n) (by omega) hx
          rw [e3] at hge
          exact hge
        . cases hd
      . cases hd
  . intro r' g u hru
    have hx : ∀ k, k < n / 2 -> UU (Xm (YZ S ([] ++ Kt (fr : Int) (Xw G ((1 + Qz l : Nat) : Int) r))) []) ((1 - Q) * (n / 2)) k = UU (Xm S []) ((1 - Q) * (n / 2)) k := fun k hk => by
      unfold UU
      rw [hv _ (Yz (by omega) hk), hvout _ (by
        have : Q = 0 \/ Q = 1 := by omega
        rcases this with rfl | rfl <;> omega)]
    rw [Kv (by omega) hx] at hru
    exact h.oth _ _ _ hru
  . intro x hx
    rcases List.mem_append.1 hx with hx | hx
    . exact h.lb x hx
    . rw [List.mem_singleton.1 hx]; exact hb
  . rw [ZJ, hFR]
    intro a p ha1 ha2 hp
    rw [hv a (by have := Yz hQ (k := a - fr) (n := n) (by omega); omega), hvout a (by omega)] at hp
    exact h.beh a p (by omega) (by omega) hp
theorem QbB (n : Nat) (a : Nat) : Xm (List.replicate n z0) [] a = none := by
  have e : (Xn (List.replicate n z0) [] false (a : Int)).1 = z0 := by
    unfold Xn
    split
    . rfl
    . split
      . rfl
      . rename_i h
        have hl : a < n := by
          cases hh : Vq (List.replicate n z0) (a : Int) with
          | false => exact absurd hh h
          | true => have := Da hh; rw [List.length_replicate] at this; omega
        rw [if_neg (by decide)]
        show ((List.replicate n z0)[a]?.getD []) = z0
        rw [List.getElem?_replicate, if_pos hl]; rfl
  unfold Xm
  rw [e]; exact Qau
theorem Df {n : Nat} (h1 : 8 <= n) (h2 : n <= 2048) {f : Int} (hf : f < 0) : ∃ S, YA (List.replicate n z0) [] f false = (⟨S, [], f, false, 0⟩, 0, 1, 1) /\ Opn S n 0 1 [] := by
 have hr : QM (List.replicate n z0) [] = true := JZ (by rw [List.length_replicate]; omega) (by rw [List.length_replicate]; exact h2) (by rw [List.length_nil]; omega) (fun p hp => absurd hp List.not_mem_nil)
 have hm : Yy (Xm (List.replicate n z0) []) (List.replicate n z0).length = 0 := Int.le_antisymm (Gd (Int.le_refl _) fun a p _ hp => by rw [QbB] at hp; cases hp) (Fk _ _).1
 have hb : YL (List.replicate n z0) [] := ⟨fun z hz => by rw [(List.mem_replicate.1 hz).2]; exact Gn, fun p hp => absurd hp List.not_mem_nil⟩
 obtain ⟨S, e, ho⟩ := Qft (f := f) (q := 0) (Q := 0) (recs := []) hr (by rw [List.length_replicate]; exact h1) rfl (by decide) hf (by rw [hm]; decide) (fun r hr => by cases hr) (by rw [List.length_replicate]; show 1 + 0 <= _; omega) (by decide) hb
 rw [hm, List.length_replicate] at ho
 rw [hm] at e
 refine ⟨S, ?_, ho⟩
 rw [HQ (Vy hr (by rw [List.length_replicate]; exact h1)), e]
 rfl
end Go.Proofs.YtfachlmgdlnpoaaDoor
namespace Go.Proofs.YtfachlmgdlnpoaaDoor
open Go.RowKit
set_option linter.unusedVariables false
set_option linter.unusedSimpArgs false
set_option maxRecDepth 8000
set_option maxHeartbeats 2000000

theorem Opn.next1 {S : List (List Int)} {n Q : Nat} {G : Int} {l : List (List Int)} (h : Opn S n Q G l) (hG : G < 1099511627776) : ∃ S', YO S [] (-1) false = ((⟨S', [], -1, false, 0⟩, ((1 - Q : Nat) : Int), G + 1, 1 + (Qz l : Int)), l) /\ Opn S' n (1 - Q) (G + 1) l := by
 have hc := Vy h.right (by rw [h.len]; exact h.n1)
 obtain ⟨A, B, rfl, hh⟩ := h.half
 have hfit := hh.fit
 obtain ⟨S', e, ho⟩ := Qft (f := -1) (q := ((1 - Q : Nat) : Int)) (Q := 1 - Q) h.right (by rw [h.len]; exact h.n1) rfl (by omega) (by decide) (by rw [h.len, h.max]; exact hG) h.lb (by rw [h.len]; exact hfit) (by have := h.n2; rw [List.length_nil]; omega) h.byt
 rw [h.len, h.max] at e ho
 exact ⟨S', by rw [J8 hc h.both (by rw [e]), e], ho⟩
def Ht (L : List Nat) (S : List (List Int)) (T : List (Int × List Int)) (f : Int) (d : Bool) (h g u e : Int) (v : Value) (W : World) : Prop := ∃ t1 t2, v = .tuple #[.agg #[t1, t2, .int .i64 f, .bool d], .agg #[.int .i64 h, .int .i64 g, .int .i64 u], .int .i64 e] /\ QD 128 L W t1 (S.map Qr) /\ QD 129 L W t2 (T.map QG)
def QfM (L : List Nat) (S : List (List Int)) (T : List (Int × List Int)) (f : Int) (d : Bool) (h g u e : Int) (l : List (List Int)) (v : Value) (W : World) : Prop := ∃ t1 t2 lv rs, v = .tuple #[.agg #[t1, t2, .int .i64 f, .bool d], .agg #[.int .i64 h, .int .i64 g, .int .i64 u], lv, .int .i64 e] /\ QD 128 L W t1 (S.map Qr) /\ QD 129 L W t2 (T.map QG) /\ QD 1 L W lv (rs.map YV) /\ Ya L W rs /\ (∀ r ∈ rs, Z0 r.1 /\ r.1.length <= 1000000) /\ rs.map Prod.fst = l
theorem Ht.below {L : List Nat} {S : List (List Int)} {T : List (Int × List Int)} {f : Int} {d : Bool} {h g u e : Int} {v : Value} {w w' : World} (hh : Ht L S T f d h g u e v w) (hb : Below w.heap.size w w') : Ht L S T f d h g u e v w' := by
 obtain ⟨t1, t2, ev, h1, h2⟩ := hh
 exact ⟨t1, t2, ev, h1.below hb, h2.below hb⟩
theorem Ht.only {L : List Nat} {S : List (List Int)} {T : List (Int × List Int)} {f : Int} {d : Bool} {h g u e : Int} {v : Value} {w w' : World} (hh : Ht L S T f d h g u e v w) {B : Nat} (ho : Yi B w w') (hB : B ∈ L) : Ht L S T f d h g u e v w' := by
 obtain ⟨t1, t2, ev, h1, h2⟩ := hh
 exact ⟨t1, t2, ev, h1.only ho hB, h2.only ho hB⟩
def Dt (L : List Nat) (S : List (List Int)) (T : List (Int × List Int)) (f : Int) (d : Bool) (v : Value) (W : World) : Prop := ∃ t1 t2, v = .agg #[t1, t2, .int .i64 f, .bool d] /\ QD 128 L W t1 (S.map Qr) /\ QD 129 L W t2 (T.map QG)
theorem Dt.below {L : List Nat} {S : List (List Int)} {T : List (Int × List Int)} {f : Int} {d : Bool} {v : Value} {w w' : World} (hh : Dt L S T f d v w) (hb : Below w.heap.size w w') : Dt L S T f d v w' := by
 obtain ⟨t1, t2, ev, h1, h2⟩ := hh
 exact ⟨t1, t2, ev, h1.below hb, h2.below hb⟩
theorem Dt.only {L : List Nat} {S : List (List Int)} {T : List (Int × List Int)} {f : Int} {d : Bool} {v : Value} {w w' : World} (hh : Dt L S T f d v w) {B : Nat} (ho : Yi B w w') (hB : B ∈ L) : Dt L S T f d v w' := by
 obtain ⟨t1, t2, ev, h1, h2⟩ := hh
 exact ⟨t1, t2, ev, h1.only ho hB, h2.only ho hB⟩

section
variable {Qb : List (List Int)} {Qa : List (Int × List Int)} {Qd : Int} {Qc : Bool} {s1 s2 : Value} {w : World} {L : List Nat} {S : List (List Int)} {T : List (Int × List Int)} {f : Int} {d : Bool} {h g u e : Int} {l : List (List Int)}
theorem QeQ (hE : YO Qb Qa Qd Qc = ((⟨S, T, f, d, e⟩, h, g, u), l)) (hL : LL L w) (h1 : QD 128 L w s1 (Qb.map Qr)) (h2 : QD 129 L w s2 (Qa.map QG)) (hfu : -9223372036854775808 <= Qd /\ Qd <= 9223372036854775807) (hbd : YL Qb Qa) (hT : ZM w) : CV Tryd.prog 12 [.agg #[s1, s2, .int .i64 Qd, .bool Qc]] w fun v W => QfM L S T f d h g u e l v W := by
 have := QeP Qb Qa Qd Qc s1 s2 w L hL h1 h2 hfu hbd hT
 rw [hE] at this
 exact this
theorem QcN (hE : YA Qb Qa Qd Qc = (⟨S, T, f, d, e⟩, h, g, u)) (hL : LL L w) (h1 : QD 128 L w s1 (Qb.map Qr)) (h2 : QD 129 L w s2 (Qa.map QG)) (hfu : -9223372036854775808 <= Qd /\ Qd <= 9223372036854775807) (hbd : YL Qb Qa) (hT : ZM w) : CV Tryd.prog 20 [.agg #[s1, s2, .int .i64 Qd, .bool Qc]] w fun v W => Ht L S T f d h g u e v W := by
 have := QcM Qb Qa Qd Qc s1 s2 w L hL h1 h2 hfu hbd hT
 rw [hE] at this
 exact this
theorem Qdf {half gen used : Int} {rec : List Int} {rv : Value} (hE : X5 Qb Qa Qd Qc half gen used rec = (⟨S, T, f, d, e⟩, h, g, u)) (hL : LL L w) (h1 : QD 128 L w s1 (Qb.map Qr)) (h2 : QD 129 L w s2 (Qa.map QG)) (h3 : QD 1 L w rv (Vw rec)) (hfu : -9223372036854775808 <= Qd /\ Qd <= 9223372036854775807) (hbd : YL Qb Qa) (hrb : Z0 rec) (hul : -9223372036854775808 <= used /\ used <= 9223372036854775807) (hrm : rec.length <= 1000000000) (hT : ZM w) : CV Tryd.prog 18 [.agg #[s1, s2, .int .i64 Qd, .bool Qc], .agg #[.int .i64 half, .int .i64 gen, .int .i64 used], rv] w fun v W => Ht L S T f d h g u e v W := by
 have := Qde Qb Qa Qd Qc s1 s2 half gen used rec rv w L hL h1 h2 h3 hfu hbd hrb hul hrm hT
 rw [hE] at this
 exact this
theorem Qfp {n : Nat} (hn : 1 <= n /\ n <= 2048) (hL : LL L w) : CV Tryd.prog 27 [.int .i64 (n : Int)] w fun v W => ∃ t1 t2, v = .tuple #[.agg #[t1, t2, .int .i64 (-1), .bool false], .int .i64 0] /\ QD 128 L W t1 ((List.replicate n z0).map Qr) /\ QD 129 L W t2 (([] : List (Int × List Int)).map QG) := by
 have := Qfo (n : Int) w L hL hL
 have e : Uy (n : Int) = ⟨List.replicate n z0, [], -1, false, 0⟩ := by unfold Uy; rw [if_neg (by omega), Int.toNat_natCast]
 rw [e] at this
 exact this
end
set_option maxHeartbeats 1000000 in
theorem D6 (Qb : List (List Int)) (Qa : List (Int × List Int)) (Qd : Int) (Qc : Bool) (s1 s2 : Value) (w : World) (L : List Nat) (hL : LL L w) (h1 : QD 128 L w s1 (Qb.map Qr)) (h2 : QD 129 L w s2 (Qa.map QG)) : CV Tryd.prog 10 [.agg #[s1, s2, .int .i64 Qd, .bool Qc]] w fun v W => ∃ b, v = .bool b /\ (b = false -> Qb.length <= 60 /\ Qa.length <= 60) := by
 refine QN (N := 13) (f := [(0, .agg #[s1, s2, .int .i64 Qd, .bool Qc])]) Tryd.func10 rfl rfl rfl rfl fun Q hQ hE => ?_
 have hB := Below.refl w.heap.size w
 have h1m : Qb.length <= maxLen := by have := h1.len; rwa [List.length_map] at this
 unfold maxLen at h1m
 have h2m : Qa.length <= maxLen := by have := h2.len; rwa [List.length_map] at this
 unfold maxLen at h2m
 refine Sq fun K1 hK1 => (Rg ?_)
 refine Ge (Xa rfl rfl rfl) rfl rfl ?_
 rintro _ W2 ⟨rfl, k3, b4, z5⟩
 have l6 := hB.size
 replace h1 := h1.more b4 (Nat.le_refl _)
 replace h2 := h2.more b4 (Nat.le_refl _)
 replace hB := Qe hB b4
 refine Pu rfl (Ni (hK1 (Sq fun K7 hK7 => (Rg (Va (Qn (o1 := 0) rfl QE rfl rfl) rfl rfl (Va (Qi rfl Q7 rfl (k3.cell (k := 0) rfl)) rfl rfl (Va (QT rfl QW rfl h1) rfl rfl ?_)))))))
 refine Va (XL rfl rfl rfl) rfl rfl (Pu rfl ?_)
 refine WL.split 7 rfl (fun g8 => ?_) (fun g8 => ?_)
 .
  replace g8 := dT g8
  refine Of rfl (Of rfl (Of rfl (Of rfl (Pu rfl (Pu rfl (Ni (hK7 ?_)))))))
  exact WC.ret fun a_ ha_ => hQ (QI rfl (.tmp rfl) ⟨_, rfl, fun hb_ => by first | (simp at hb_; done) | (simp at hb_; omega) | (simp_all; done) | (simp_all; omega)⟩ hB ha_)
 .
  replace g8 := dF g8
  refine Va (Qn (o1 := 1) rfl QJ rfl rfl) rfl rfl (Va (Qi rfl Xf rfl (k3.cell (k := 1) rfl)) rfl rfl (Va (QT rfl QY rfl h2) rfl rfl (Va (XL rfl rfl rfl) rfl rfl (Pu rfl (Pu rfl (Ni (hK7 ?_)))))))
  exact WC.ret fun a_ ha_ => hQ (QI rfl (.tmp rfl) ⟨_, rfl, fun hb_ => by first | (simp at hb_; done) | (simp at hb_; omega) | (simp_all; done) | (simp_all; omega)⟩ hB ha_)

section
variable {ops : Array Oper} {o : Oper} {N : Nat} {f : Fl} {w : World}
theorem ER {α β : Type} {g : α -> β} {l : List α} {x y z : β} (h : l.map g = [x, y, z]) : ∃ a b c, l = [a, b, c] /\ g a = x /\ g b = y /\ g c = z := by
 match l, h with
 | [a, b, c], h => simp at h; exact ⟨a, b, c, rfl, h.1, h.2.1, h.2.2⟩
theorem QcQ : (Tryd.prog.fieldsOf 30).toList.map (fun f => (f.name == "_", f.type, f.offset)) = [(false, 3, 0), (false, 3, 1), (false, 3, 2)] := by kernel_rfl
theorem EY (a b c : Int) : (part 3 #[.int .i64 a, .int .i64 b, .int .i64 c] 0).run Tryd.prog w = .ok (.int .i64 a) w /\ (part 3 #[.int .i64 a, .int .i64 b, .int .i64 c] 1).run Tryd.prog w = .ok (.int .i64 b) w /\ (part 3 #[.int .i64 a, .int .i64 b, .int .i64 c] 2).run Tryd.prog w = .ok (.int .i64 c) w := by
 have g2 : (isAgg 3).run Tryd.prog w = .ok false w := by
  unfold isAgg
  rw [Sem.run_bind, run_underlying Tryd.underlying3 w]; rfl
 refine ⟨?_, ?_, ?_⟩ <;> simp [part, Sem.run_bind, g2]
theorem QaF (a b c : Int) : (Op.equalIn 10000 30 (.agg #[.int .i64 a, .int .i64 b, .int .i64 c]) (.agg #[.int .i64 a, .int .i64 b, .int .i64 c])).run Tryd.prog w = .ok true w := by
 rw [show (10000 : Nat) = 9999 + 1 from rfl, run_equalIn_struct w 9999 30 _ _ (by kernel_rfl) (by kernel_rfl)]
 obtain ⟨f0, f1, f2, hfs, h0, h1, h2⟩ := ER QcQ
 rw [hfs]
 simp only [Prod.mk.injEq] at h0 h1 h2
 obtain ⟨n0, t0, o0⟩ := h0
 obtain ⟨n1, t1, o1⟩ := h1
 obtain ⟨n2, t2, o2⟩ := h2
 have m0 : f0.name ≠ "_" := by simpa using n0
 have m1 : f1.name ≠ "_" := by simpa using n1
 have m2 : f2.name ≠ "_" := by simpa using n2
 obtain ⟨p0, p1, p2⟩ := EY (w := w) a b c
 have e0 := run_equalIn_int (P := Tryd.prog) (w := w) 9998 3 .i64 .i64 a a Tryd.underlying3
 have e1 := run_equalIn_int (P := Tryd.prog) (w := w) 9998 3 .i64 .i64 b b Tryd.underlying3
 have e2 := run_equalIn_int (P := Tryd.prog) (w := w) 9998 3 .i64 .i64 c c Tryd.underlying3
 rw [beq_self_eq_true] at e0 e1 e2
 simp only [Op.eqFields, if_pos m0, if_pos m1, if_pos m2, t0, o0, t1, o1, t2, o2, Sem.run_bind, p0, Result.andThen_ok]
 rw [show (9999 : Nat) = 9998 + 1 from rfl, e0]
 simp only [Result.andThen_ok, Bool.not_true, Bool.false_eq_true, if_false, Sem.run_bind, p1]
 rw [e1]
 simp only [Result.andThen_ok, Bool.not_true, Bool.false_eq_true, if_false, Sem.run_bind, p2]
 rw [e2]
 simp
theorem He {t' : TypeId} {x y : Operand} {a b c : Int} (ho : o.op = .binOp .eql 30 x y t') (hx : ev f x = some (.agg #[.int .i64 a, .int .i64 b, .int .i64 c])) (hy : ev f y = some (.agg #[.int .i64 a, .int .i64 b, .int .i64 c])) (hw : QP ops o f = some true := by rfl) : DV Tryd.prog ops o N f w (.bool true) := fun k ha => by
 have hx := ha.ev hx
 have hy := ha.ev hy
 have hg : Tryd.prog.eqGuardType Tryd.prog.depth 30 = false := by kernel_rfl
 have hgd : (eqGuard .eql 30 x y (.agg #[.int .i64 a, .int .i64 b, .int .i64 c]) (.agg #[.int .i64 a, .int .i64 b, .int .i64 c])).run Tryd.prog w = .ok () w := by
  simp [eqGuard, Sem.run_bind, hg]
 have e1 : binOp .eql 30 (.agg #[.int .i64 a, .int .i64 b, .int .i64 c]) (.agg #[.int .i64 a, .int .i64 b, .int .i64 c]) = (do pure (.bool (<- Op.equal 30 (.agg #[.int .i64 a, .int .i64 b, .int .i64 c]) (.agg #[.int .i64 a, .int .i64 b, .int .i64 c])))) := rfl
 have e2 : (Op.equal 30 (.agg #[.int .i64 a, .int .i64 b, .int .i64 c]) (.agg #[.int .i64 a, .int .i64 b, .int .i64 c])).run Tryd.prog w = .ok true w := QaF a b c
 exact QK.pure (Qw ha hw) _ (by unfold execOp; simp only [ho, hx, hy, Sem.run_bind, hgd, Result.andThen_ok, e1, e2, Sem.run_pure]) ⟨rfl, rfl⟩
theorem Qak (a b c : Int) : Tryd.prog.built 30 [(0, .int .i64 a), (1, .int .i64 b), (2, .int .i64 c)] = some [Value.int .i64 a, .int .i64 b, .int .i64 c].toArray := by kernel_rfl
end
theorem QdT {rs : List U6} {x : List Int} (h : rs.map Prod.fst = [x]) : ∃ r0, rs = [r0] /\ r0.1 = x := by
 match rs, h with
 | [r], h => exact ⟨r, rfl, by simpa using h⟩
theorem Qeo (n : Nat) : Z0 (List.replicate n 0) := fun x hx => by rw [(List.mem_replicate.1 hx).2]; exact ⟨by decide, by decide⟩
theorem QdV (n : Nat) : YL (List.replicate n z0) [] := ⟨fun z hz => by rw [(List.mem_replicate.1 hz).2]; exact Gn, fun p hp => absurd hp List.not_mem_nil⟩
set_option maxHeartbeats 1000000 in
theorem Qem  (w : World) (L : List Nat) (hL : LL L w)   (hT : ZM w) : CV Tryd.prog 9 [] w fun v W => v = .bool true := by
 refine QN (N := 79) (f := []) Tryd.func9 rfl rfl rfl rfl fun Q hQ hE => ?_
 have hB := Below.refl w.heap.size w
 refine Sq fun K1 hK1 => (Rg (Pu rfl (Ni (hK1 (Sq fun K2 hK2 => (Rg ?_))))))
 refine Ge (QQ rfl Tryd.func27 rfl rfl rfl (Qfp (n := 8) ⟨by omega, by omega⟩ hL)) rfl rfl ?_
 rintro _ W4 ⟨⟨n1, n2, rfl, q1, q2⟩, b3⟩
 replace hB := Qe hB b3
 replace hL := LL.below hL b3
 refine Pu rfl (Pu rfl (Pu rfl ?_))
 refine Ge (Qu rfl QV rfl) rfl rfl ?_
 rintro _ W5 ⟨rfl, k6, b7, z8⟩
 have l9 := hB.size
 replace q1 := q1.more b7 (Nat.le_refl _)
 replace q2 := q2.more b7 (Nat.le_refl _)
 replace hB := Qe hB b7
 replace hL := LL.more hL z8
 refine WL.do (Qh (cs' := [n1, n2, .int .i64 (-1), .bool false]) (vs := [n1, n2, .int .i64 (-1), .bool false]) rfl Qj rfl rfl rfl (oC q1.one (oC q2.one (oC rfl (oC rfl Qk)))) k6 rfl (nB rfl) rfl) rfl ?_
 rintro _ W10 ⟨k12, o11⟩
 clear k6
 replace q1 := q1.only o11 (.head _)
 replace q2 := q2.only o11 (.head _)
 replace hB := o11.below hB l9
 replace hL := LL.only hL o11
 refine Pu rfl (Ni (hK2 (Sq fun K13 hK13 => ?_)))
 obtain ⟨SF, eF, oF⟩ := Df (n := 8) (by decide) (by decide) (f := -1) (by decide)
 refine Rg (Va (Qg rfl Qf rfl k12.range rfl) rfl rfl ?_)
 refine Ge (QQ rfl Tryd.func20 rfl rfl rfl (QcN eF hL q1 q2 (by decide) (QdV 8) (hT.below hB))) rfl rfl ?_
 rintro _ W15 ⟨⟨f1, f2, rfl, fk1, fk2⟩, b14⟩
 replace q1 := q1.below b14
 replace q2 := q2.below b14
 replace k12 := k12.below b14
 replace hB := Qe hB b14
 replace hL := LL.below hL b14
 refine Pu rfl (Pu rfl (Pu rfl (Pu rfl ?_)))
 refine Ge (Qu rfl Xv rfl) rfl rfl ?_
 rintro _ W16 ⟨rfl, k17, b18, z19⟩
 have n20 : W4.heap.size ≠ W15.heap.size := Nat.ne_of_lt k12.lt
 have l21 := hB.size
 replace q1 := q1.more b18 (Nat.le_refl _)
 replace q2 := q2.more b18 (Nat.le_refl _)
 replace fk1 := fk1.more b18 (Nat.le_refl _)
 replace fk2 := fk2.more b18 (Nat.le_refl _)
 replace k12 := k12.below b18
 replace hB := Qe hB b18
 replace hL := LL.more hL z19
 refine WL.do (Qh (cs' := [f1, f2, .int .i64 (-1), .bool false]) (vs := [f1, f2, .int .i64 (-1), .bool false]) rfl Qj rfl rfl rfl (oC fk1.one (oC fk2.one (oC rfl (oC rfl Qk)))) k12 rfl (nB rfl) rfl) rfl ?_
 rintro _ W22 ⟨k24, o23⟩
 replace k17 := k17.other o23 n20.symm
 clear k12
 replace q1 := q1.only o23 (.tail _ (.head _))
 replace q2 := q2.only o23 (.tail _ (.head _))
 replace fk1 := fk1.only o23 (.tail _ (.head _))
 replace fk2 := fk2.only o23 (.tail _ (.head _))
 replace hB := o23.below hB l9
 replace hL := LL.only hL o23
 refine WL.do (Qh (cs' := [.int .i64 0, .int .i64 1, .int .i64 1]) (vs := [.int .i64 0, .int .i64 1, .int .i64 1]) rfl Qs rfl rfl rfl (oC rfl (oC rfl (oC rfl Qk))) k17 rfl (nB rfl) rfl) rfl ?_
 rintro _ W25 ⟨k27, o26⟩
 replace k24 := k24.other o26 n20
 clear k17
 replace q1 := q1.only o26 (.head _)
 replace q2 := q2.only o26 (.head _)
 replace fk1 := fk1.only o26 (.head _)
 replace fk2 := fk2.only o26 (.head _)
 replace hB := o26.below hB l21
 replace hL := LL.only hL o26
 refine Pu rfl (Ni (hK13 (Sq fun K28 hK28 => ?_)))
 obtain ⟨SA, eA0, oA⟩ := oF.app (f := -1) (by decide) (r := List.replicate 150 0) (Qeo 150) (by decide) (by decide)
 have eA : X5 SF [] (-1) false 0 1 1 (List.replicate 150 0) = (⟨SA, [], -1, false, 0⟩, 0, 1, 3) := eA0
 refine WC.drawC 10 [(8, W4.heap.size, [f1, f2, .int .i64 (-1), .bool false], fun cs_ W_ => ∃ t1_ t2_, cs_ = [t1_, t2_, .int .i64 (-1), .bool false] /\ QD 128 (W15.heap.size :: W4.heap.size :: L) W_ t1_ (SA.map Qr) /\ QD 129 (W15.heap.size :: W4.heap.size :: L) W_ t2_ (([] : List (Int × List Int)).map QG)), (9, W15.heap.size, [.int .i64 0, .int .i64 1, .int .i64 1], fun cs_ _ => cs_ = [.int .i64 0, .int .i64 1, .int .i64 3])] [(some 21, .is (.agg #[f1, f2, .int .i64 (-1), .bool false])), (some 22, .is (.agg #[.int .i64 0, .int .i64 1, .int .i64 1])), (some 23, .by fun u W => QD 1 (W15.heap.size :: W4.heap.size :: L) W u (Vw (List.replicate 150 0))), (some 24, .by fun u W => Ht (W15.heap.size :: W4.heap.size :: L) SA [] (-1) false 0 1 3 0 u W), (some 20, .by fun u W => Ht (W15.heap.size :: W4.heap.size :: L) SA [] (-1) false 0 1 3 0 u W), (some 25, .by fun u W => Dt (W15.heap.size :: W4.heap.size :: L) SA [] (-1) false u W), (some 26, .is (.agg #[.int .i64 0, .int .i64 1, .int .i64 3])), (some 27, .is (.int .i64 0)), (none, .by fun _ _ => True), (none, .by fun _ _ => True)] [[], [], [], [0, 1, 2], [3], [4], [4], [4], [5, 3, 0, 1, 2, 3, 4, 5], [6, 8, 0, 1, 2, 3, 4, 5, 6, 8]] ⟨fun _ _ _ hb h => h.below hb, fun _ _ _ hb h => h.below hb, fun _ _ _ hb h => h.below hb, fun _ _ _ hb h => h.below hb, fun _ _ _ _ h => h, fun _ _ _ _ h => h, trivial⟩ (mB ⟨fun _ _ _ ho h => h.only ho (.tail _ (.head _)), fun _ _ _ ho h => h.only ho (.tail _ (.head _)), fun _ _ _ ho h => h.only ho (.tail _ (.head _)), fun _ _ _ ho h => h.only ho (.tail _ (.head _)), fun _ _ _ _ h => h, fun _ _ _ _ h => h, trivial⟩ ⟨fun _ _ _ ho h => h.only ho (.head _), fun _ _ _ ho h => h.only ho (.head _), fun _ _ _ ho h => h.only ho (.head _), fun _ _ _ ho h => h.only ho (.head _), fun _ _ _ _ h => h, fun _ _ _ _ h => h, trivial⟩) ⟨fun x hx => (by simp only [List.mem_cons, List.not_mem_nil, or_false] at hx; subst hx; exact ⟨(show ¬ ((9 : Nat) = 8) by decide), n20.symm⟩), ⟨fun x hx => (by cases hx), trivial⟩⟩ (fun e he => by simp only [List.mem_cons, List.not_mem_nil, or_false] at he; rcases he with rfl | rfl; exact ⟨fun cs_ W_ W2_ hb_ h_ => by obtain ⟨t1_, t2_, e_, g1_, g2_⟩ := h_; exact ⟨t1_, t2_, e_, g1_.below hb_, g2_.below hb_⟩, fun x hx hne cs_ W_ W2_ ho_ h_ => by obtain ⟨t1_, t2_, e_, g1_, g2_⟩ := h_; simp only [List.mem_cons, List.not_mem_nil, or_false] at hx; rcases hx with rfl | rfl; exact absurd rfl hne; exact ⟨t1_, t2_, e_, g1_.only ho_ (.head _), g2_.only ho_ (.head _)⟩⟩; exact ⟨fun _ _ _ _ h => h, fun _ _ _ _ _ _ _ h => h⟩) (mB k24 k27) ?_ ?_
 .
  refine Ql.cons rfl (fun Wd hd hbs_ => ?_) ?_
  .
   have k24 := hbs_ _ (.head _) (show 0 ∈ ([5, 3, 0, 1, 2, 3, 4, 5] : List Nat) by decide)
   exact Dd (Qg rfl Qf rfl k24.range rfl) rfl
  refine Ql.cons rfl (fun Wd hd hbs_ => ?_) ?_
  .
   have k27 := hbs_ _ (.tail _ (.head _)) (show 1 ∈ ([6, 8, 0, 1, 2, 3, 4, 5, 6, 8] : List Nat) by decide)
   exact Dd (Qg rfl Qq rfl k27.range rfl) rfl
  refine Ql.cons rfl (fun Wd hd hbs_ => ?_) ?_
  .
   exact DR.mono (D9 (r := [Value.int .u8 0]) rfl X2 (fun e he => by rw [Tryd.underlying40] at he; cases he; kernel_rfl) rfl rfl (by decide) (by decide) (by decide) (by decide)) (fun v W' h => ⟨h.2.1, by have h_ := h.1.rd (L := W15.heap.size :: W4.heap.size :: L) (fun e_ => absurd ((hL.chgM hd) _ e_) (Nat.lt_irrefl _)); rw [<- List.map_replicate] at h_; exact h_⟩)
  refine Ql.cons rfl (fun Wd hd hbs_ => ?_) ?_
  .
   intro u3_2 p3_2
   have fk1 := fk1.chgM hd (mB (.tail _ (.head _)) (.head _))
   have fk2 := fk2.chgM hd (mB (.tail _ (.head _)) (.head _))
   exact DR.mono (QQ rfl Tryd.func18 rfl rfl rfl (Qdf eA (hL.chgM hd) fk1 fk2 p3_2 (by decide) oF.byt (Qeo 150) (by decide) (by decide) (hT.below (hd.toBelow hB (mB l9 l21))))) (fun v W_ h => ⟨h.2, h.1⟩)
  refine Ql.cons rfl (fun Wd hd hbs_ => ?_) ?_
  .
   intro u3_3 p3_3
   exact DV.dr (Qt rfl rfl) ⟨Below.refl _ _, p3_3⟩
  refine Ql.cons rfl (fun Wd hd hbs_ => ?_) ?_
  .
   intro u3_4 p3_4
   obtain ⟨t1_, t2_, rfl, g1_, g2_⟩ := p3_4
   exact DV.dr (Zd rfl rfl rfl) ⟨Below.refl _ _, ⟨t1_, t2_, rfl, g1_, g2_⟩⟩
  refine Ql.cons rfl (fun Wd hd hbs_ => ?_) ?_
  .
   intro u3_4 p3_4
   obtain ⟨t1_, t2_, rfl, g1_, g2_⟩ := p3_4
   exact Dd (Zd rfl rfl rfl) rfl
  refine Ql.cons rfl (fun Wd hd hbs_ => ?_) ?_
  .
   intro u3_4 p3_4
   obtain ⟨t1_, t2_, rfl, g1_, g2_⟩ := p3_4
   exact Dd (Zd rfl rfl rfl) rfl
  refine Ql.hit rfl (fun Wd hd hb_ => ?_) ?_
  .
   intro u3_5 p3_5 u3_3 p3_3 u3_2 p3_2 u3_3 p3_3 u3_4 p3_4 u3_5 p3_5
   obtain ⟨t1_, t2_, rfl, g1_, g2_⟩ := p3_5
   exact DR.mono (Qx (vs := [t1_, t2_, .int .i64 (-1), .bool false]) rfl Qj rfl rfl rfl (oC g1_.one (oC g2_.one (oC rfl (oC rfl Qk)))) hb_ rfl rfl) (fun _ W_ h => ⟨h.2, ⟨_, h.1, t1_, t2_, rfl, g1_.only h.2 (.tail _ (.head _)), g2_.only h.2 (.tail _ (.head _))⟩, trivial⟩)
  refine Ql.hit rfl (fun Wd hd hb_ => ?_) ?_
  .
   intro u3_8 p3_8 u3_2 p3_2 u3_3 p3_3 u3_4 p3_4 u3_5 p3_5 u3_8 p3_8
   exact (Qx (vs := [.int .i64 0, .int .i64 1, .int .i64 3]) rfl Qs rfl rfl rfl (oC rfl (oC rfl (oC rfl Qk))) hb_ rfl rfl).mono (fun _ W' h => ⟨h.2, Xj.is h.1, trivial⟩)
  exact trivial
 .
  intro W29 hd hq_
  replace q1 := q1.chgM hd (mB (.tail _ (.head _)) (.head _))
  replace q2 := q2.chgM hd (mB (.tail _ (.head _)) (.head _))
  replace fk1 := fk1.chgM hd (mB (.tail _ (.head _)) (.head _))
  replace fk2 := fk2.chgM hd (mB (.tail _ (.head _)) (.head _))
  have k30 := hq_ _ (.head _)
  obtain ⟨_, k30, t33, t34, rfl, j31, j32⟩ := k30
  have k35 := hq_ _ (.tail _ (.head _))
  replace k35 := Xj.blk k35
  replace hB := hd.toBelow hB (mB l9 l21)
  replace hL := hL.chgM hd
  intro u3_2 p3_2
  intro u3_3 p3_3
  intro u3_4 p3_4
  intro u3_5 p3_5
  intro _ _
  intro _ _
  refine Pu rfl (Ni (hK28 (Sq fun K36 hK36 => (Sq fun K37 hK37 => (Rg (Pu rfl (Va (Xl rfl rfl rfl) rfl rfl ?_)))))))
  refine Pu rfl (Pu rfl (Va (Xl rfl rfl rfl) rfl rfl (Pu rfl (Pu rfl (Pu rfl (Va (Xl rfl rfl rfl) rfl rfl (Pu rfl ?_)))))))
  refine Pu rfl (Va (Qn (o1 := 2) rfl XB rfl rfl) rfl rfl (Va (Qi rfl Qv rfl (k35.cell (k := 2) rfl)) rfl rfl (Va (Xl rfl rfl rfl) rfl rfl (Pu rfl (Pu rfl (Va (Qn (o1 := 0) rfl ZC rfl rfl) rfl rfl (Va (Qi rfl Qv rfl (k35.cell (k := 0) rfl)) rfl rfl ?_)))))))
  refine Va (Xl rfl rfl rfl) rfl rfl (Pu rfl (Pu rfl (Va (Qn (o1 := 1) rfl XY rfl rfl) rfl rfl (Va (Qi rfl Qv rfl (k35.cell (k := 1) rfl)) rfl rfl (Va (Xl rfl rfl rfl) rfl rfl (Pu rfl (Ni ?_)))))))
  refine hK37 (WC.condF rfl (WC.skip (hK36 (Sq fun K38 hK38 => ?_))))
  obtain ⟨SO, eO0, oO⟩ := oA.next1 (by decide)
  have eO : YO SA [] (-1) false = ((⟨SO, [], -1, false, 0⟩, 1, 2, 3), [List.replicate 150 0]) := eO0
  refine Rg (Va (Qg rfl Qf rfl k30.range rfl) rfl rfl ?_)
  refine Ge (QQ rfl Tryd.func12 rfl rfl rfl (QeQ eO hL j31 j32 (by decide) oA.byt (hT.below hB))) rfl rfl ?_
  rintro _ W40 ⟨⟨o1, o2, ov, or, rfl, ok1, ok2, ok3, ok4, ok5, ok6⟩, b39⟩
  replace hB := Qe hB b39
  obtain ⟨r0, rfl, er0⟩ := QdT ok6
  have hr0 := ok4 r0 (.head _)
  refine Pu rfl (Pu rfl (Pu rfl (Pu rfl (Pu rfl ?_))))
  refine Ge (Qu rfl QV rfl) rfl rfl ?_
  rintro _ W41 ⟨rfl, k42, b43, z44⟩
  have l47 := hB.size
  replace ok1 := ok1.more b43 (Nat.le_refl _)
  replace ok2 := ok2.more b43 (Nat.le_refl _)
  replace ok3 := ok3.more b43 (Nat.le_refl _)
  replace hr0 := hr0.more b43 (Nat.le_refl _)
  replace hB := Qe hB b43
  refine Ge (Qu rfl Xv rfl) rfl rfl ?_
  rintro _ W48 ⟨rfl, k49, b50, z51⟩
  have n54 : W40.heap.size ≠ W41.heap.size := Nat.ne_of_lt k42.lt
  have l55 := hB.size
  replace ok1 := ok1.more b50 (Nat.le_refl _)
  replace ok2 := ok2.more b50 (Nat.le_refl _)
  replace ok3 := ok3.more b50 (Nat.le_refl _)
  replace hr0 := hr0.more b50 (Nat.le_refl _)
  replace k42 := k42.below b50
  replace hB := Qe hB b50
  refine WL.do (Qh (cs' := [o1, o2, .int .i64 (-1), .bool false]) (vs := [o1, o2, .int .i64 (-1), .bool false]) rfl Qj rfl rfl rfl (oC ok1.one (oC ok2.one (oC rfl (oC rfl Qk)))) k42 rfl (nB rfl) rfl) rfl ?_
  rintro _ W56 ⟨k58, o57⟩
  replace k49 := k49.other o57 n54.symm
  clear k42
  replace ok3 := ok3.only o57 (.tail _ (.head _))
  replace hr0 := hr0.only o57 (.tail _ (.head _))
  replace hB := o57.below hB l47
  refine WL.do (Qh (cs' := [.int .i64 1, .int .i64 2, .int .i64 3]) (vs := [.int .i64 1, .int .i64 2, .int .i64 3]) rfl Qs rfl rfl rfl (oC rfl (oC rfl (oC rfl Qk))) k49 rfl (nB rfl) rfl) rfl ?_
  rintro _ W59 ⟨k61, o60⟩
  clear k49
  replace ok3 := ok3.only o60 (.head _)
  replace hr0 := hr0.only o60 (.head _)
  replace hB := o60.below hB l55
  refine Pu rfl (Pu rfl (Ni (hK38 (Sq fun K62 hK62 => (Rg (Pu rfl (Va (Zw rfl rfl rfl) rfl rfl ?_)))))))
  refine Pu rfl (Va (Qg rfl Qq rfl k61.range rfl) rfl rfl (Va (QS rfl rfl (Qak _ _ _)) rfl rfl (Va (He rfl rfl rfl) rfl rfl (Pu rfl (Pu rfl (Pu rfl (Va (QT rfl XO rfl ok3) rfl rfl ?_)))))))
  refine Va (Zw rfl rfl rfl) rfl rfl (Pu rfl (Pu rfl (Pu rfl ?_)))
  refine Ge (XH 0 rfl XO rfl rfl ok3 (by omega) (XG (enc := YV) rfl)) rfl rfl ?_
  rintro u63 _ ⟨rfl, p64⟩
  refine Va (Zn rfl XR rfl p64) rfl rfl (Va (QT rfl QH rfl hr0) rfl rfl (Va (Zw rfl rfl rfl) rfl rfl (Pu rfl (Pu rfl (Ni (hK62 ?_))))))
  exact WC.ret fun a_ ha_ => hQ (QI rfl (.tmp rfl) (by rw [er0]; rfl) hB ha_)


structure WrQ where
 s : Nat
 t : Nat
 dt : Nat
 pt : Value -> World -> Prop
 q : Value -> World -> Prop
 rel : World -> World -> Prop
def QbZ (a b : WrQ) (k : Nat) (W W' : World) : Prop := if k = a.s then a.rel W W' else if k = b.s then b.rel W W' else Below W.heap.size W W'
def XI (P : Program) (ops : Array Oper) (N : Nat) (w0 : World) (sd : List (Option Tmp × VS)) (dl : List (List Nat)) (f : Fl) (a b : WrQ) : Nat -> List Oper -> Prop
 | _, [] => True
 | k, o :: l => (if k = a.s then ∀ W, Below w0.heap.size w0 W -> ∀ ut, a.pt ut W -> XE P ops o N W (sd.set a.t (some a.dt, .is ut)) (fun v W' => a.rel W W' /\ a.q ut W') ((dl[k]?).getD []) f
   else if k = b.s then ∀ W, Below w0.heap.size w0 W -> ∀ ut, b.pt ut W -> XE P ops o N W (sd.set b.t (some b.dt, .is ut)) (fun v W' => b.rel W W' /\ b.q ut W') ((dl[k]?).getD []) f
   else ∀ W, Below w0.heap.size w0 W -> XE P ops o N W sd (fun v W' => Below W.heap.size W W' /\ XT sd k v W') ((dl[k]?).getD []) f) /\ XI P ops N w0 sd dl f a b (k + 1) l
section
variable {P : Program} {N : Nat} {sd : List (Option Tmp × VS)} {dl : List (List Nat)}
theorem XI.cons {ops : Array Oper} {w0 : World} {f : Fl} {k : Nat} {a b : WrQ} {o : Oper} {l : List Oper} (hk : k ≠ a.s /\ k ≠ b.s) (h : ∀ W, Below w0.heap.size w0 W -> XE P ops o N W sd (fun v W' => Below W.heap.size W W' /\ XT sd k v W') ((dl[k]?).getD []) f) (hl : XI P ops N w0 sd dl f a b (k + 1) l) : XI P ops N w0 sd dl f a b k (o :: l) := ⟨by rw [if_neg hk.1, if_neg hk.2]; exact h, hl⟩
theorem XI.hitA {ops : Array Oper} {w0 : World} {f : Fl} {k : Nat} {a b : WrQ} {o : Oper} {l : List Oper} (hk : k = a.s) (h : ∀ W, Below w0.heap.size w0 W -> ∀ ut, a.pt ut W -> XE P ops o N W (sd.set a.t (some a.dt, .is ut)) (fun v W' => a.rel W W' /\ a.q ut W') ((dl[k]?).getD []) f) (hl : XI P ops N w0 sd dl f a b (k + 1) l) : XI P ops N w0 sd dl f a b k (o :: l) := ⟨by rw [if_pos hk]; exact h, hl⟩
theorem XI.hitB {ops : Array Oper} {w0 : World} {f : Fl} {k : Nat} {a b : WrQ} {o : Oper} {l : List Oper} (hk : k ≠ a.s /\ k = b.s) (h : ∀ W, Below w0.heap.size w0 W -> ∀ ut, b.pt ut W -> XE P ops o N W (sd.set b.t (some b.dt, .is ut)) (fun v W' => b.rel W W' /\ b.q ut W') ((dl[k]?).getD []) f) (hl : XI P ops N w0 sd dl f a b (k + 1) l) : XI P ops N w0 sd dl f a b k (o :: l) := ⟨by rw [if_neg hk.1, if_pos hk.2]; exact h, hl⟩
theorem okQ {t dt : Nat} {ut : Value} (htlt : t < sd.length) {g : Nat -> Value} {W : World} {j : Nat} (hut : ut = g t) (h1 : XT sd j (g j) W) : XT (sd.set t (some dt, .is ut)) j (g j) W := by
  by_cases e : j = t
  . subst e
    rw [<- hut]
    exact G0 htlt W
  . rw [GZ e]
    exact h1
structure OkQ (w : World) (sd : List (Option Tmp × VS)) (dl : List (List Nat)) (m : Nat) (a : WrQ) : Prop where
  ht : sd[a.t]? = some (some a.dt, .by a.pt)
  hs : sd[a.s]? = some (none, .by fun _ _ => True)
  hts : ((dl[a.s]?).getD []).contains a.t = true
  hne : a.s ≠ a.t
  hsm : a.s < m
  hrel : VS.monoR a.rel sd
  hq : ∀ u W W', Below W.heap.size W W' -> a.q u W -> a.q u W'
  hbr : ∀ W W', Below w.heap.size w W -> a.rel W W' -> Below w.heap.size w W'
theorem OkQ.step {pre : List Oper} {w : World} {m : Nat} {c : WrQ} (hc : OkQ w sd dl m c) (hds : pre.map (·.dst) = sd.map (·.1)) (hN : E8 N sd = true) {f : Fl} {a : Act} (ha : Fr N a f) {g : Nat -> Value} {W : World} (hG : Below w.heap.size w W) {o : Oper} (hd : ∀ j ∈ (dl[c.s]?).getD [], XT sd j (g j) W)
  (hk : ∀ W, Below w.heap.size w W -> ∀ ut, c.pt ut W -> XE P pre.toArray o N W (sd.set c.t (some c.dt, .is ut)) (fun v W' => c.rel W W' /\ c.q ut W') ((dl[c.s]?).getD []) f) :
  QK P pre.toArray o (Eg (sd.map (·.1)) g ((dl[c.s]?).getD []) a) W fun v W' => c.rel W W' /\ c.q (g c.t) W' := by
 have hmemt : c.t ∈ (dl[c.s]?).getD [] := by simpa using hc.hts
 have hpt : c.pt (g c.t) W := by
  have := hd c.t hmemt
  unfold XT at this
  rw [hc.ht] at this
  exact this
 obtain ⟨ut, hut⟩ : ∃ ut, ut = g c.t := ⟨_, rfl⟩
 have htlt : c.t < sd.length := (List.getElem?_eq_some_iff.1 hc.ht).1
 have hH : Vp (fun j g w => XT (sd.set c.t (some c.dt, .is ut)) j (g j) w) dl g W ((dl[c.s]?).getD []) := Vp.of _ fun j hj => by
  show XT _ j (Zj g (j :: _) j) W
  rw [X4]
  exact okQ htlt hut (hd j hj)
 have hfin := XE.to (Kg hc.ht hN) _ f a (hk W hG ut (by rw [hut]; exact hpt)) ha hH
 rw [map_set hc.ht] at hfin
 rw [hut] at hfin
 exact hfin
theorem WC.drawQ {id : Nat} {f : Fl} {w : World} {Q : Exit -> Act -> World -> Prop} (m : Nat) (x y : WrQ) {ops : List Oper} (sd : List (Option Tmp × VS)) (dl : List (List Nat)) (hm : P.follows .mixedOrders = true) (hb : VT .any ops.toArray = true) (hbp : VT .any (ops.take m).toArray = true) (htl : UI .any ops.toArray (ops.take m).length = true) (hdl : (ops.take m).map (XJ .any) = dl)
    (hds : (ops.take m).map (·.dst) = sd.map (·.1)) (hN : E8 N sd = true) (hmono : VS.mono sd) (hx : OkQ w sd dl m x) (hy : OkQ w sd dl m y) (hxy : x.s ≠ y.s /\ x.t ≠ y.t /\ x.s ≠ y.t /\ y.s ≠ x.t) (hqx : ∀ u W W', y.rel W W' -> x.q u W -> x.q u W') (hqy : ∀ u W W', x.rel W W' -> y.q u W -> y.q u W')
    (hst : XI P (ops.take m).toArray N w sd dl f x y 0 (ops.take m))
    (hend : ∀ W, Below w.heap.size w W -> ∀ u1 u2, x.pt u1 W -> x.q u1 W -> y.pt u2 W -> y.q u2 W -> V8 (fun f W => WL P ops.toArray Q N (ops.drop m) f W) W ((sd.set x.t (some x.dt, .is u1)).set y.t (some y.dt, .is u2)) f) : WC P N (.region id ops.toArray true) Q f w := fun a ha => by
  obtain ⟨pre, hpre⟩ : ∃ pre, pre = ops.take m := ⟨_, rfl⟩
  obtain ⟨suf, hsuf⟩ : ∃ suf, suf = ops.drop m := ⟨_, rfl⟩
  have hops : pre ++ suf = ops := by rw [hpre, hsuf]; exact List.take_append_drop m ops
  rw [<- hpre] at hbp htl hdl hds hst
  rw [<- hsuf] at hend
  clear hpre hsuf
  subst hops
  have hlen : dl.length = sd.length := by rw [<- hdl, List.length_map, <- List.length_map (f := (·.dst)), hds, List.length_map]
  have hpl : pre.length = dl.length := by rw [<- hdl, List.length_map]
  have hslt : ∀ c : WrQ, OkQ w sd dl m c -> c.s < sd.length /\ c.t < sd.length := fun c hc => ⟨(List.getElem?_eq_some_iff.1 hc.hs).1, (List.getElem?_eq_some_iff.1 hc.ht).1⟩
  refine wp_region_any hm ?_
  have hrep : Array.replicate (pre ++ suf).toArray.size false = Array.replicate pre.toArray.size false ++ Array.replicate suf.length false := by
    simp [Array.replicate_append_replicate]
  rw [hrep]
  have hsz : (pre ++ suf).toArray.size = pre.toArray.size + suf.length := by simp
  rw [hsz]
  refine J4 (pre := pre.toArray) (suf := suf) hb hbp (by simp) (by simpa using htl) pre.toArray.size _ (by simp) (fun j hj => by simp [Array.getD_eq_getD_getElem?, Array.getElem?_replicate] at hj; split at hj <;> simp_all) a w.drew ?_
  have hda : ∀ j, Xs .any pre.toArray j = (dl[j]?).getD [] := by
    intro j
    subst hdl
    simp only [Xs, List.getElem?_map, List.getElem?_toArray]
  have hF0 : ∀ j, (Array.replicate pre.toArray.size false).getD j false = true -> False := fun j hj => by simp [Array.getD_eq_getD_getElem?, Array.getElem?_replicate] at hj; split at hj <;> simp_all
  have hmx : x.t ∈ (dl[x.s]?).getD [] := by simpa using hx.hts
  have hmy : y.t ∈ (dl[y.s]?).getD [] := by simpa using hy.hts
  refine UO hbp a (fun _ W => Below w.heap.size w W) (fun j g W => XT sd j (g j) W /\ (j = x.s -> x.q (g x.t) W) /\ (j = y.s -> y.q (g y.t) W)) (fun i _ W W' => QbZ x y i W W') ?_ ?_ ?_ pre.toArray.size _ (fun _ => undef) a w.drew (by simp) (by
      have := List.countP_le_length (p := fun b => !b) (l := (Array.replicate pre.toArray.size false).toList)
      simpa using this) (fun j hj => (hF0 j hj).elim) (XV.start fun j hj => hF0 j hj) (YJ (Below.refl _ _) 1) (fun j hj => (hF0 j hj).elim)
  . intro i g W W' j g' hB hne ⟨h, hq1, hq2⟩
    have hok : ∀ {rel : World -> World -> Prop}, (∀ {j : Nat} {d : Option Tmp} {p : Value -> World -> Prop}, sd[j]? = some (d, .by p) -> ∀ u, p u W -> p u W') -> XT sd j (g' j) W' := fun hmo => by
      unfold XT at h ⊢
      cases hsj : sd[j]? with
      | none => trivial
      | some p =>
        obtain ⟨d, s'⟩ := p
        rw [hsj] at h
        cases s' with
        | is v => exact h
        | «by» p => exact hmo hsj _ h
    unfold QbZ at hB
    by_cases h1 : i = x.s
    . rw [if_pos h1] at hB
      exact ⟨hok (rel := x.rel) fun hsj u hu => Ui hx.hrel hsj u W W' hB hu, fun hj => absurd (hj.trans h1.symm) hne, fun hj => hqy _ _ _ hB (hq2 hj)⟩
    . rw [if_neg h1] at hB
      by_cases h2 : i = y.s
      . rw [if_pos h2] at hB
        exact ⟨hok (rel := y.rel) fun hsj u hu => Ui hy.hrel hsj u W W' hB hu, fun hj => hqx _ _ _ hB (hq1 hj), fun hj => absurd (hj.trans h2.symm) hne⟩
      . rw [if_neg h2] at hB
        exact ⟨hok (rel := y.rel) fun hsj u hu => Kc hmono hsj u W W' hB hu, fun hj => hx.hq _ _ _ hB (hq1 hj), fun hj => hy.hq _ _ _ hB (hq2 hj)⟩
  . intro i o hoi L g W _ _ hG hd
    have key : ∀ (l : List Oper) (k : Nat), XI P pre.toArray N w sd dl f x y k l -> ∀ j o, l[j]? = some o -> XI P pre.toArray N w sd dl f x y (k + j) [o] := by
      intro l
      induction l with
      | nil => intro k _ j o h; simp at h
      | cons z l ih =>
        intro k hs j o h
        cases j with
        | zero =>
          simp only [List.getElem?_cons_zero, Option.some.injEq] at h
          subst h
          exact ⟨hs.1, trivial⟩
        | succ j =>
          have := ih (k + 1) hs.2 j o (by simpa using h)
          rw [show k + (j + 1) = k + 1 + j by omega]
          exact this
    have hk := (key pre 0 hst i o (by simpa using hoi)).1
    rw [Nat.zero_add] at hk
    have hdo : XJ .any o = (dl[i]?).getD [] := by rw [<- hda i, Yn hoi]
    rw [hdo] at hd ⊢
    rw [Vu (ds := sd.map (·.1)) (by simpa using hds)]
    have hdk : ∀ j ∈ (dl[i]?).getD [], XT sd j (g j) W := fun j hj => by
      have := (hd j hj).1
      rwa [X4] at this
    by_cases h1 : i = x.s
    . rw [if_pos h1] at hk
      subst h1
      refine (hx.step hds hN ha hG hdk hk).mono fun v W' h => ⟨by unfold QbZ; rw [if_pos rfl]; exact h.1, hx.hbr _ _ hG h.1, ?_, fun _ => ?_, fun e => absurd e hxy.1⟩
      . unfold XT; rw [hx.hs]; trivial
      . have e : Zj (Ua g x.s v) (x.s :: (dl[x.s]?).getD []) x.t = g x.t := by
          unfold Zj Ua
          rw [if_pos (by simp [hmx]), if_neg (fun h => hx.hne h.symm)]
        rw [e]
        exact h.2
    . rw [if_neg h1] at hk
      by_cases h2 : i = y.s
      . rw [if_pos h2] at hk
        subst h2
        refine (hy.step hds hN ha hG hdk hk).mono fun v W' h => ⟨by unfold QbZ; rw [if_neg h1, if_pos rfl]; exact h.1, hy.hbr _ _ hG h.1, ?_, fun e => absurd e h1, fun _ => ?_⟩
        . unfold XT; rw [hy.hs]; trivial
        . have e : Zj (Ua g y.s v) (y.s :: (dl[y.s]?).getD []) y.t = g y.t := by
            unfold Zj Ua
            rw [if_pos (by simp [hmy]), if_neg (fun h => hy.hne h.symm)]
          rw [e]
          exact h.2
      . rw [if_neg h2] at hk
        have hH : Vp (fun j g w => XT sd j (g j) w) dl g W ((dl[i]?).getD []) := Vp.of _ fun j hj => by have := (hd j hj).1; rwa [hda j] at this
        refine (XE.to hN _ f a (hk W hG) ha hH).mono fun v W' h => ⟨by unfold QbZ; rw [if_neg h1, if_neg h2]; exact h.1, hG.trans (h.1.mono hG.size), ?_, fun e => absurd e h1, fun e => absurd e h2⟩
        simp only [X4]
        rw [show Ua g i v i = v by simp [Ua]]
        exact h.2
  . intro L g W hL hG hd
    rw [Vu (ds := sd.map (·.1)) (by simpa using hds)]
    have hsize : pre.toArray.size = sd.length := by simp; omega
    have hdk : ∀ j, j < sd.length -> XT sd j (g j) W := fun j hj => by
      have := (hd j (by omega)).1
      rwa [X4] at this
    have hpt : ∀ c : WrQ, OkQ w sd dl m c -> c.pt (g c.t) W := fun c hc => by
      have := hdk c.t (hslt c hc).2
      unfold XT at this
      rw [hc.ht] at this
      exact this
    have hq1 : x.q (g x.t) W := by
      have := (hd x.s (by have := (hslt x hx).1; omega)).2.1 rfl
      have e : Zj g (x.s :: Xs .any pre.toArray x.s) x.t = g x.t := by
        rw [hda x.s]
        unfold Zj
        rw [if_pos (by simp [hmx])]
      rwa [e] at this
    have hq2 : y.q (g y.t) W := by
      have := (hd y.s (by have := (hslt y hy).1; omega)).2.2 rfl
      have e : Zj g (y.s :: Xs .any pre.toArray y.s) y.t = g y.t := by
        rw [hda y.s]
        unfold Zj
        rw [if_pos (by simp [hmy])]
      rwa [e] at this
    have hp1 := hpt x hx
    have hp2 := hpt y hy
    obtain ⟨u1, hu1⟩ : ∃ ut, ut = g x.t := ⟨_, rfl⟩
    obtain ⟨u2, hu2⟩ : ∃ ut, ut = g y.t := ⟨_, rfl⟩
    have hlt2 : y.t < (sd.set x.t (some x.dt, .is u1)).length := by rw [List.length_set]; exact (hslt y hy).2
    have hty : (sd.set x.t (some x.dt, .is u1))[y.t]? = some (some y.dt, .by y.pt) := by rw [List.getElem?_set_ne hxy.2.1]; exact hy.ht
    have hH : Vp (fun j g w => XT ((sd.set x.t (some x.dt, .is u1)).set y.t (some y.dt, .is u2)) j (g j) w) dl g W (List.range' 0 sd.length) := Vp.of _ fun j hj => by
      show XT _ j (Zj g (j :: _) j) W
      rw [X4]
      refine okQ hlt2 hu2 (okQ (hslt x hx).2 hu1 (hdk j ?_))
      simp [List.mem_range'] at hj
      omega
    have hfin := V8.to (Q := fun a W => wpList P (pre ++ suf).toArray Q suf a W) (Kg (s' := .is u2) hty (Kg (s' := .is u1) hx.ht hN)) (fun f h a ha => h a ha) ((sd.set x.t (some x.dt, .is u1)).set y.t (some y.dt, .is u2)) 0 f a (by simp) (hend W hG u1 u2 (by rw [hu1]; exact hp1) (by rw [hu1]; exact hq1) (by rw [hu2]; exact hp2) (by rw [hu2]; exact hq2)) ha (by rw [List.length_set, List.length_set]; exact hH)
    rw [List.length_set, List.length_set, map_set hty, map_set hx.ht] at hfin
    show wpOps P (pre ++ suf).toArray Q (List.range' pre.toArray.size suf.length) _ _
    rw [wpOps_eq_wpList suf pre.toArray.size (fun j => by simp [List.getElem?_append_right])]
    rw [List.range_eq_range', hsize]
    exact hfin
end
section
variable {base hi : Nat} {L L' : List Nat} {S : List (List Int)} {t1 t2 u : Value} {cs : List U6} {w w' : World}
theorem QD.moreL {s : Nat} {v : Value} {rs : List (List Value)} (h : QD s L w v rs) (hb : Below w.heap.size w w') : ∀ (L' : List Nat), (∀ x ∈ L', x ∈ L \/ w.heap.size <= x) -> QD s L' w' v rs
  | [], _ => (h.below hb).less (fun x hx => by cases hx)
  | x :: L', hl => by
    have ih := QD.moreL h hb L' fun y hy => hl y (.tail _ hy)
    rcases hl x (.head _) with hx | hx
    . obtain ⟨h0, hr, a, cap, h1, h2, h3, h4, h5⟩ := ih
      obtain ⟨_, _, a', cap', h1', _, _, _, h5'⟩ := h.below hb
      rw [h1] at h1'
      cases h1'
      refine ⟨h0, hr, a, cap, h1, h2, h3, h4, fun hn => ?_⟩
      obtain ⟨X, o, e, hX, hc⟩ := h5 hn
      obtain ⟨X', o', e', hX', _⟩ := h5' hn
      rw [e] at e'
      cases e'
      exact ⟨X, o, e, fun q => by rcases List.mem_cons.1 q with q | q; exact hX' (q ▸ hx); exact hX q, hc⟩
    . obtain ⟨h0, hr, a, cap, h1, h2, h3, h4, h5⟩ := ih
      obtain ⟨_, _, a', cap', h1', _, _, _, h5'⟩ := h
      rw [h1] at h1'
      cases h1'
      refine ⟨h0, hr, a, cap, h1, h2, h3, h4, fun hn => ?_⟩
      obtain ⟨X, o, e, hX, hc⟩ := h5 hn
      obtain ⟨X', o', e', hX', hc'⟩ := h5' hn
      rw [e] at e'
      cases e'
      have hne := h0
      have hlen : 0 < rs.flatten.length := by
        rw [ZI hr]
        exact Nat.mul_pos (List.length_pos_iff.2 hn) h0
      have hXl : X < w.heap.size := by
        have := hc' 0 _ (List.getElem?_eq_getElem hlen)
        exact World.block_lt_of_cell? w _ this
      exact ⟨X, o, e, fun q => by rcases List.mem_cons.1 q with q | q; omega; exact hX q, hc⟩
end
section
variable {P : Program} {ops : Array Oper} {o : Oper} {N : Nat} {f : Fl} {w : World}
end
section
variable {base hi : Nat} {L : List Nat} {S : List (List Int)} {a e : Int} {cs : List U6} {cv v : Value} {w w' : World}
end

section
variable {P : Program} {ops : Array Oper} {o : Oper} {N : Nat} {f : Fl} {w : World}
theorem Qeh {t s bytes base : Nat} {x y : Operand} {u v2 : Value} {rs news : List (List Value)} {L : List Nat} {Cs : List (Nat × List Value)} (ho : o.op = .call { callee := .builtin .append, args := #[x, y], argTypes := #[t, t] }) (ht : Hq P t s bytes = true) (hx : ev f x = some u) (hy : ev f y = some v2)
    (h : Vo s base L rs u w) (h2 : QD s [] w v2 news) (h1 : ∀ r ∈ news, ∀ u ∈ r, u.oneCell' = true) (hm : rs.length + news.length <= maxLen) (hby : (rs.length + news.length) * bytes <= 140737488355328) (hb : base <= w.heap.size) (hL : LL L w) (hC : ∀ c ∈ Cs, Xc w c.1 c.2 /\ c.1 ∈ L) (hne : news ≠ []) (hw : QP ops o f = some true := by rfl) : DR P ops o N f w fun u' W => Vo s base L (rs ++ news) u' W /\ Below base w W /\ w.heap.size <= W.heap.size /\ ∀ c ∈ Cs, Xc W c.1 c.2 := fun a ha => by
  rcases h with ⟨rfl, rfl, h0⟩ | ⟨D, q1, hDL, hO⟩
  . refine QK.mono (JM (rs := []) (L := []) ho ht hx hy (QD.nil h0) h2 (by simpa using hne) (by simpa using hm) (by simpa using hby) hw a ha) fun v W ⟨k1, k2, k3⟩ => ⟨.inr ⟨w.heap.size, hb, fun e => Nat.lt_irrefl _ (hL _ e), k1⟩, k2.mono hb, Nat.le_of_lt k3, fun c hc => (hC c hc).1.below k2⟩
  . refine QK.mono (Vx ho ht hx hy hO h2 h1 hm hby hw a ha) fun v W ⟨B', k1, k2⟩ => ⟨.inr ⟨B', k2.le q1 hb, ?_, k1⟩, k2.from_base q1 hb, k2.size, fun c hc => (hC c hc).1.grow k2 (fun e => hDL (e ▸ (hC c hc).2))⟩
    intro e
    have := k2.new
    rcases this with rfl | hh
    . exact hDL e
    . have := hL _ e; omega
theorem QcY {t bytes : Nat} {x3 x4 x5 x6 : Operand} {n3 n4 n5 n6 : Int} (ho : o.op = .buildSlice t 7 #[(0, .const (.int .u8 108)), (1, .const (.int .u8 111)), (2, .const (.int .u8 103)), (3, x3), (4, x4), (5, x5), (6, x6)]) (ht : Hq P t 1 bytes = true) (h3 : ev f x3 = some (.int .u8 n3)) (h4 : ev f x4 = some (.int .u8 n4)) (h5 : ev f x5 = some (.int .u8 n5)) (h6 : ev f x6 = some (.int .u8 n6)) (hw : QP ops o f = some true := by rfl) : DR P ops o N f w (Hu 1 w (Vw [108, 111, 103, n3, n4, n5, n6])) := by
 obtain ⟨e, i, Z, hu, hi, hZ, hs, rfl, hzs⟩ := Y1 ht
 have hc : ∀ v : Value, ev f (Operand.const v) = some v := fun v => rfl
 refine FB (ps := [(0, .int .u8 108), (1, .int .u8 111), (2, .int .u8 103), (3, .int .u8 n3), (4, .int .u8 n4), (5, .int .u8 n5), (6, .int .u8 n6)]) (rs := Vw [108, 111, 103, n3, n4, n5, n6]) ho hu hi hZ hs (by decide) (by simp [evl, hc, h3, h4, h5, h6]) (by omega) ?_ (by simp) rfl (by unfold maxLen; omega) hw
 rw [if_neg (by decide)]
 have hl : ∀ c : Array Value, c.size = 7 -> Instr.fill (fun k => some (k * 1, 1)) c [(0, .int .u8 108), (1, .int .u8 111), (2, .int .u8 103), (3, .int .u8 n3), (4, .int .u8 n4), (5, .int .u8 n5), (6, .int .u8 n6)] = some #[.int .u8 108, .int .u8 111, .int .u8 103, .int .u8 n3, .int .u8 n4, .int .u8 n5, .int .u8 n6] := fun c hc => by
  obtain ⟨l⟩ := c
  match l, hc with
  | [a, b, c, d, e, f, g], _ => simp [Instr.fill, Value.cells]
 exact hl _ (by simp)
end

theorem QaD (Qb : List (List Int)) (l : List (Int × List Int)) (i : Nat) : (XW (fun _ _ z => z) l Qb i).length = Qb.length := by rw [GE l Qb i 0]; exact Yb Qb l
theorem H4 (d : DO) : (X0 d).Qb.length = d.Qb.length := by
  unfold X0 Xz
  split
  . split
    . rfl
    . split
      . rfl
      . split
        . rfl
        . exact QaD _ _ _
  . rfl
def XA (Qb : List (List Int)) (Qa : List (Int × List Int)) (Qd : Int) (Qc : Bool) (q gen : Int) (recs : List (List Int)) : DO × Int × Int × Int :=
 if (YC (XQ Qb Qa Qd Qc) (q * ((Qb.length : Int) / 2)) gen recs).err = 0 then (YC (XQ Qb Qa Qd Qc) (q * ((Qb.length : Int) / 2)) gen recs, q, gen, 1 + (Qz recs : Int)) else (YC (XQ Qb Qa Qd Qc) (q * ((Qb.length : Int) / 2)) gen recs, 0, 0, 0)
theorem QeF {Qb : List (List Int)} {Qa : List (Int × List Int)} {Qd : Int} {Qc : Bool} {q gen : Int} {recs : List (List Int)} {X : DO} (hX : X = X0 (Q9 (XQ Qb Qa Qd Qc) (q * ((Qb.length : Int) / 2)) (Zp gen 1 recs))) (he : ¬ X.err = 0) : XA Qb Qa Qd Qc q gen recs = (X, 0, 0, 0) := by
 subst hX
 unfold XA YC
 rw [Gs he, Gt he, if_neg he]
theorem QbX {Qb : List (List Int)} {Qa : List (Int × List Int)} {Qd : Int} {Qc : Bool} {q gen : Int} {recs : List (List Int)} {X Y : DO} (hX : X = X0 (Q9 (XQ Qb Qa Qd Qc) (q * ((Qb.length : Int) / 2)) (Zp gen 1 recs))) (hx : X.err = 0) (hY : Y = X0 (Q9 (XQ X.Qb X.Qa X.Qd X.Qc) (q * ((X.Qb.length : Int) / 2)) [ZL gen (Qz recs : Int)])) : Y = YC (XQ Qb Qa Qd Qc) (q * ((Qb.length : Int) / 2)) gen recs := by
 have hl : X.Qb.length = Qb.length := by rw [hX, H4, VE]; rfl
 have hd : XQ X.Qb X.Qa X.Qd X.Qc = X := by
  obtain ⟨a, b, c, d, e⟩ := X
  cases hx
  rfl
 rw [hY, hl, hd, hX]
 rfl
theorem pqo {qs : List PV} {gen : Int} {recs : List (List Int)} (h : qs.map Prod.fst = Zp gen 1 recs) (hb : ∀ r ∈ recs, Z0 r) (hc : Qz recs <= 90000) : ∀ q ∈ qs, (0 <= q.1.idx /\ q.1.idx <= 100000) /\ Z0 q.1.dat /\ q.1.dat.length <= 100 /\ (0 <= q.1.mks /\ q.1.mks <= 255) := fun q hq => by
 have hm : q.1 ∈ Zp gen 1 recs := h ▸ List.mem_map_of_mem (f := Prod.fst) hq
 obtain ⟨k, hk⟩ := List.mem_iff_getElem?.1 hm
 have hl := (List.getElem?_eq_some_iff.1 hk).1
 rw [ZW] at hl
 obtain ⟨h1, _, h3, h4, h5, r, hr, j, h6⟩ := Vj hk
 exact ⟨by omega, by rw [h6]; exact KL (hb r hr) j, h5, by omega⟩
theorem Qfm {L : List Nat} {w : World} {qs : List PV} (h : YE L w qs) : ∀ r ∈ qs.map Vm, ∀ u ∈ r, u.oneCell' = true := fun r hr u hu => by
 obtain ⟨q, hq, rfl⟩ := List.mem_map.1 hr
 simp only [List.mem_cons, List.not_mem_nil, or_false] at hu
 rcases hu with rfl | rfl | rfl | rfl
 . rfl
 . rfl
 . rfl
 . exact (h q hq).one
theorem Qcj (gen fr : Int) (rec : List Int) {qs : List PV} (h : qs.map Prod.fst = Xw gen fr rec) : qs.map Vm ≠ [] := fun e => by
 have e1 := congrArg List.length h
 have e2 := List.map_eq_nil_iff.1 e
 rw [e2, Za] at e1
 have := Kb rec
 simp at e1
 omega
theorem Vo.rd {s base : Nat} {L : List Nat} {rs : List (List Value)} {u : Value} {w : World} (h : Vo s base L rs u w) : QD s L w u rs := by
 rcases h with ⟨rfl, rfl, h0⟩ | ⟨B, h1, h2, h3⟩
 . exact QD.nil h0
 . exact h3.rd h2
theorem Qbg (a d : Value) (ha : ∃ n, a = .int .i64 n) (hd : ∃ x n c, d = .slice x n c) : Tryd.prog.built 96 [(0, a), (2, .int .u8 3), (3, d)] = some [a, .int .i64 0, .int .u8 3, d].toArray := by
 obtain ⟨n, rfl⟩ := ha
 obtain ⟨x, y, c, rfl⟩ := hd
 kernel_rfl
theorem ED : Tryd.prog.built 30 [] = some [Value.int .i64 0, .int .i64 0, .int .i64 0].toArray := by kernel_rfl
theorem Ey {P : Program} {ops : Array Oper} {o : Oper} {N : Nat} {f : Fl} {w : World} {t s s' : Nat} {L : List Nat} {x : Operand} {v : Value} {rs : List (List Value)} (ho : o.op = .call { callee := .builtin .len, args := #[x], argTypes := #[t] }) (ht : X3 P t s' = true) (hx : ev f x = some v) (hr : QD s L w v rs) (hw : QP ops o f = some true := by rfl) : DV P ops o N f w (.int .i64 (rs.length : Int)) := Ym ho ht hx hr hw
set_option maxHeartbeats 1000000 in
theorem QeE (Qb : List (List Int)) (Qa : List (Int × List Int)) (Qd : Int) (Qc : Bool) (s1 s2 : Value) (q gen : Int) (rs : List U6) (rv : Value) (w : World) (L : List Nat) (hL : LL L w) (h1 : QD 128 L w s1 (Qb.map Qr)) (h2 : QD 129 L w s2 (Qa.map QG)) (h3 : QD 1 L w rv (rs.map YV)) (hrs : Ya L w rs)  (hfu : -9223372036854775808 <= Qd /\ Qd <= 9223372036854775807) (hq : q = 0 \/ q = 1) (hsl : Qb.length <= 2048) (hrb : ∀ r ∈ rs, Z0 r.1 /\ r.1.length <= 4096) (hcnt : Qz (rs.map Prod.fst) <= 90000) (hR : U5 w) : CV Tryd.prog 37 [.agg #[s1, s2, .int .i64 Qd, .bool Qc], .int .i64 q, .int .i64 gen, rv] w fun v W => ∃ t1 t2, v = .tuple #[.agg #[t1, t2, .int .i64 (XA Qb Qa Qd Qc q gen (rs.map Prod.fst)).1.Qd, .bool (XA Qb Qa Qd Qc q gen (rs.map Prod.fst)).1.Qc], .agg #[.int .i64 (XA Qb Qa Qd Qc q gen (rs.map Prod.fst)).2.1, .int .i64 (XA Qb Qa Qd Qc q gen (rs.map Prod.fst)).2.2.1, .int .i64 (XA Qb Qa Qd Qc q gen (rs.map Prod.fst)).2.2.2], .int .i64 (XA Qb Qa Qd Qc q gen (rs.map Prod.fst)).1.err] /\ QD 128 L W t1 ((XA Qb Qa Qd Qc q gen (rs.map Prod.fst)).1.Qb.map Qr) /\ QD 129 L W t2 ((XA Qb Qa Qd Qc q gen (rs.map Prod.fst)).1.Qa.map QG) := by
 have h10 := h1
 have h20 := h2
 have hrs0 := hrs
 have h30 := h3
 refine QN (N := 81) (f := [(0, .agg #[s1, s2, .int .i64 Qd, .bool Qc]), (1, .int .i64 q), (2, .int .i64 gen), (3, rv)]) Tryd.func37 rfl rfl rfl rfl fun Q hQ hE => ?_
 have hB := Below.refl w.heap.size w
 have h1m : Qb.length <= maxLen := by have := h1.len; rwa [List.length_map] at this
 unfold maxLen at h1m
 have h2m : Qa.length <= maxLen := by have := h2.len; rwa [List.length_map] at this
 unfold maxLen at h2m
 have h3m : rs.length <= maxLen := by have := h3.len; rwa [List.length_map] at this
 unfold maxLen at h3m
 refine Sq fun K1 hK1 => (Rg ?_)
 refine Ge (Xa rfl rfl rfl) rfl rfl ?_
 rintro _ W2 ⟨rfl, k3, b4, z5⟩
 have l6 := hB.size
 replace h1 := h1.more b4 (Nat.le_refl _)
 replace h2 := h2.more b4 (Nat.le_refl _)
 replace h3 := h3.more b4 (Nat.le_refl _)
 replace hB := Qe hB b4
 replace hL := LL.more hL z5
 refine Ge (Qu rfl QV rfl) rfl rfl ?_
 rintro _ W7 ⟨rfl, k8, b9, z10⟩
 have l12 := hB.size
 replace h1 := h1.more b9 (Nat.le_refl _)
 replace h2 := h2.more b9 (Nat.le_refl _)
 replace h3 := h3.more b9 (Nat.le_refl _)
 replace k3 := k3.below b9
 replace hB := Qe hB b9
 replace hL := LL.more hL z10
 refine Ge (Qu rfl Xv rfl) rfl rfl ?_
 rintro _ W13 ⟨rfl, k14, b15, z16⟩
 have n18 : W2.heap.size ≠ W7.heap.size := Nat.ne_of_lt k8.lt
 have l19 := hB.size
 replace h1 := h1.more b15 (Nat.le_refl _)
 replace h2 := h2.more b15 (Nat.le_refl _)
 replace h3 := h3.more b15 (Nat.le_refl _)
 replace k3 := k3.below b15
 replace k8 := k8.below b15
 replace hB := Qe hB b15
 replace hL := LL.more hL z16
 refine Pu rfl (Ni (hK1 (Sq fun K20 hK20 => (Rg (Pu rfl (Ni (hK20 ?_)))))))
 refine Sq fun K21 hK21 => (Sq fun K22 hK22 => (Rg (Pu rfl (Ni (hK22 (WC.block ?_))))))
 have h5 : Vo 4 w.heap.size (W7.heap.size :: W2.heap.size :: w.heap.size :: L) (([] : List PV).map Vm) (.slice none 0 0) W13 := .inl ⟨rfl, rfl, by decide⟩
 refine WC.loop3 (fun (i : Nat) (qs : List PV) (ov : Value) => [(1, .int .i64 q), (2, .int .i64 gen), (3, rv), (4, .pointer (some ⟨w.heap.size, 0, none⟩)), (8, .pointer (some ⟨W2.heap.size, 0, none⟩)), (9, .pointer (some ⟨W7.heap.size, 0, none⟩)), (10, .int .i64 0), (12, .int .i64 (i : Int)), (11, ov)]) (fun (i : Nat) (qs : List PV) (ov : Value) W => i <= rs.length /\ qs.map Prod.fst = Zp gen 1 ((rs.take i).map Prod.fst) /\ qs.length = Qz ((rs.take i).map Prod.fst) /\ YE L w qs /\ Below w.heap.size w W /\ LL (W7.heap.size :: W2.heap.size :: w.heap.size :: L) W /\ QD 128 (W7.heap.size :: W2.heap.size :: w.heap.size :: L) W s1 (Qb.map Qr) /\ QD 129 (W7.heap.size :: W2.heap.size :: w.heap.size :: L) W s2 (Qa.map QG) /\ QD 1 (W7.heap.size :: W2.heap.size :: w.heap.size :: L) W rv (rs.map YV) /\ Vo 4 w.heap.size (W7.heap.size :: W2.heap.size :: w.heap.size :: L) (qs.map Vm) ov W /\ Xc W w.heap.size [s1, s2, .int .i64 Qd, .bool Qc] /\ Xc W W2.heap.size [.slice none 0 0, .slice none 0 0, .int .i64 0, .bool false] /\ Xc W W7.heap.size [.int .i64 0, .int .i64 0, .int .i64 0]) (fun (i : Nat) (qs : List PV) (ov : Value) => rs.length - i) 0 [] (.slice none 0 0) (by repeat first | exact trivial | refine aR ?_ | refine aI (by omega) ?_) ⟨Nat.zero_le _, rfl, rfl, (fun q hq => by cases hq), hB, hL, h1, h2, h3, h5, k3, k8, k14⟩ ?_
 clear h1 h2 h3 h5 k3 k8 k14 hB hL
 rintro K23 i qs ov W24 ⟨hi, hqf, hql, hqs, hB, hL, h1, h2, h3, h5, k3, k8, k14⟩ hK23
 refine Sq fun K25 hK25 => (Sq fun K26 hK26 => (Rg (Pu rfl (Pu rfl (Va (QT rfl XO rfl h3) rfl rfl (Va (Xe rfl rfl rfl) rfl rfl (Ni ?_)))))))
 refine hK26 ?_
 refine WC.cond rfl (fun c27 => ?_) (fun c27 => ?_)
 .
  replace c27 := dT c27
  refine WC.skip (hK25 (Sq fun K28 hK28 => (WC.block ?_)))
  obtain ⟨r29, e30⟩ : ∃ x, rs[i]? = some x := ⟨_, List.getElem?_eq_getElem (by omega)⟩
  have hrm := List.mem_of_getElem? e30
  have hcs : Qz ((rs.take (i + 1)).map Prod.fst) = Qz ((rs.take i).map Prod.fst) + Z2 r29.1 := by rw [<- ZJ, List.take_add_one, e30, List.map_append]; rfl
  have hct : Qz ((rs.take (i + 1)).map Prod.fst) <= Qz (rs.map Prod.fst) := by rw [List.map_take]; exact KJ _
  refine Rg (Pu rfl (Pu rfl (Pu rfl ?_)))
  refine Ge (XH i rfl XO rfl rfl h3 (by omega) (XG (enc := YV) e30)) rfl rfl ?_
  rintro u31 _ ⟨rfl, p32⟩
  refine Va (Zn rfl XR rfl p32) rfl rfl (Pu rfl (Pu rfl (Va (ZX (Ey rfl Vh rfl h5.rd) (show _ = Value.int .i64 ((Qz ((rs.take i).map Prod.fst) : Nat) : Int) by rw [List.length_map, hql])) rfl rfl (Va (QR (r := (1 + (Qz ((rs.take i).map Prod.fst) : Int))) rfl rfl rfl (Qm (by omega))) rfl rfl ?_))))
  refine Ge (QQ rfl Tryd.func46 rfl rfl rfl (QbW gen (1 + (Qz ((rs.take i).map Prod.fst) : Int)) r29.1 r29.2 w W24 L (fun x hx => hL x (.tail _ (.tail _ (.tail _ hx)))) (fun x hx => hL x (.tail _ (.tail _ (.tail _ hx)))) hB (hrs0 r29 hrm) (by omega) (hrb r29 hrm).2)) rfl rfl ?_
  rintro v6 W34 ⟨⟨qs2, h6, hq2f, hq2s⟩, b33⟩
  replace h1 := h1.below b33
  replace h2 := h2.below b33
  replace h3 := h3.below b33
  replace h5 := h5.below b33
  replace k3 := k3.below b33
  replace k8 := k8.below b33
  replace k14 := k14.below b33
  replace hB := Qe hB b33
  replace hL := LL.below hL b33
  have hq2l : qs2.length = Z2 r29.1 := by rw [<- Za, <- hq2f, List.length_map]
  have h6r := h6.rd (L := []) (fun x hx => by cases hx)
  refine Ge (Qeh (base := w.heap.size) (Cs := [(w.heap.size, [s1, s2, .int .i64 Qd, .bool Qc]), (W2.heap.size, [.slice none 0 0, .slice none 0 0, .int .i64 0, .bool false]), (W7.heap.size, [.int .i64 0, .int .i64 0, .int .i64 0])]) rfl Yv rfl rfl h5 h6r (Qfm hq2s) (by rw [List.length_map, List.length_map]; unfold maxLen; omega) (by rw [List.length_map, List.length_map]; omega) hB.size hL (fun c hc => by simp only [List.mem_cons, List.not_mem_nil, or_false] at hc; rcases hc with rfl | rfl | rfl; exact ⟨k3, (.tail _ (.tail _ (.head _)))⟩; exact ⟨k8, (.tail _ (.head _))⟩; exact ⟨k14, (.head _)⟩) (Qcj _ _ _ hq2f)) rfl rfl ?_
  rintro u35 W36 ⟨h52, b37, z38, hk39⟩
  replace k3 := hk39 _ (.head _)
  replace k8 := hk39 _ (.tail _ (.head _))
  replace k14 := hk39 _ (.tail _ (.tail _ (.head _)))
  replace hB := hB.trans b37
  replace hL : LL (W7.heap.size :: W2.heap.size :: w.heap.size :: L) W36 := fun x hx => Nat.lt_of_lt_of_le (hL x hx) z38
  replace h5 : Vo 4 w.heap.size (W7.heap.size :: W2.heap.size :: w.heap.size :: L) ((qs ++ qs2).map Vm) u35 W36 := by rw [List.map_append]; exact h52
  replace h1 := QD.moreL h10 hB (W7.heap.size :: W2.heap.size :: w.heap.size :: L) (fun x_ hx_ => by simp only [List.mem_cons] at hx_; rcases hx_ with rfl | rfl | rfl | hx_; exact .inr l19; exact .inr l12; exact .inr l6; exact .inl hx_)
  replace h2 := QD.moreL h20 hB (W7.heap.size :: W2.heap.size :: w.heap.size :: L) (fun x_ hx_ => by simp only [List.mem_cons] at hx_; rcases hx_ with rfl | rfl | rfl | hx_; exact .inr l19; exact .inr l12; exact .inr l6; exact .inl hx_)
  replace h3 := QD.moreL h30 hB (W7.heap.size :: W2.heap.size :: w.heap.size :: L) (fun x_ hx_ => by simp only [List.mem_cons] at hx_; rcases hx_ with rfl | rfl | rfl | hx_; exact .inr l19; exact .inr l12; exact .inr l6; exact .inl hx_)
  refine Pu rfl (Ni (hK28 (Rg (Pu rfl (Va (QR (r := (i : Int) + 1) rfl rfl rfl (Qm (by omega))) rfl rfl (Pu rfl (Ni ?_)))))))
  exact hK23 (i + 1) (qs ++ qs2) u35 ⟨(by omega), (by rw [List.map_append, hqf, List.take_add_one, e30, List.map_append, Option.toList_some, List.map_cons, List.map_nil, J7, hq2f]), (by rw [List.length_append, hql, hq2l, hcs]), (fun q hq => by rcases List.mem_append.1 hq with h_ | h_; exact hqs q h_; exact hq2s q h_), hB, hL, h1, h2, h3, h5, k3, k8, k14⟩ (by omega) (by repeat first | exact trivial | refine aR ?_ | refine aI (by omega) ?_)
 .
  replace c27 := dF c27
  refine WC.exit ?_
  refine hK21 (Sq fun K40 hK40 => ?_)
  have hie : i = rs.length := by omega
  have hqa : qs.map Prod.fst = Zp gen 1 (rs.map Prod.fst) := by rw [hqf, List.take_of_length_le (by omega)]
  have hqn : qs.length = Qz (rs.map Prod.fst) := by rw [hql, List.take_of_length_le (by omega)]
  have hpq := pqo hqa (fun r_ hr_ => by obtain ⟨x_, hx_, rfl⟩ := List.mem_map.1 hr_; exact (hrb x_ hx_).1) hcnt
  have hX1 : (X0 (Q9 (XQ Qb Qa Qd Qc) (q * ((Qb.length : Int) / 2)) (qs.map Prod.fst))) = X0 (Q9 (XQ Qb Qa Qd Qc) (q * ((Qb.length : Int) / 2)) (Zp gen 1 (rs.map Prod.fst))) := by rw [hqa]
  have hqW : YE (W7.heap.size :: W2.heap.size :: w.heap.size :: L) W24 qs := fun q hq => QD.moreL (hqs q hq) hB (W7.heap.size :: W2.heap.size :: w.heap.size :: L) (fun x_ hx_ => by simp only [List.mem_cons] at hx_; rcases hx_ with rfl | rfl | rfl | hx_; exact .inr l19; exact .inr l12; exact .inr l6; exact .inl hx_)
  refine Rg (Va (Qg rfl Qf rfl k3.range rfl) rfl rfl (Pu rfl (Pu rfl ?_)))
  refine Ge (QQ rfl Tryd.func47 rfl rfl rfl (QbV Qb Qa Qd Qc _ _ q qs _ W24 _ hL h1 h2 h5.rd hqW hfu hq hsl hpq (hR.below hB))) rfl rfl ?_
  rintro _ W42 ⟨⟨x1, x2, rfl, y1, y2⟩, b41⟩
  replace h5 := h5.below b41
  replace k8 := k8.below b41
  replace k14 := k14.below b41
  replace hB := Qe hB b41
  replace hL := LL.below hL b41
  refine Pu rfl (Pu rfl (Pu rfl ?_))
  refine Ge (Qu rfl QV rfl) rfl rfl ?_
  rintro _ W43 ⟨rfl, k44, b45, z46⟩
  have n48 : W2.heap.size ≠ W42.heap.size := Nat.ne_of_lt k8.lt
  have n49 : W7.heap.size ≠ W42.heap.size := Nat.ne_of_lt k14.lt
  have l50 := hB.size
  replace h5 := h5.more b45 (Nat.le_refl _)
  replace y1 := y1.more b45 (Nat.le_refl _)
  replace y2 := y2.more b45 (Nat.le_refl _)
  replace k8 := k8.below b45
  replace k14 := k14.below b45
  replace hB := Qe hB b45
  replace hL := LL.more hL z46
  refine WL.do (Qh (cs' := [x1, x2, .int .i64 ((X0 (Q9 (XQ Qb Qa Qd Qc) (q * ((Qb.length : Int) / 2)) (qs.map Prod.fst))).Qd), .bool ((X0 (Q9 (XQ Qb Qa Qd Qc) (q * ((Qb.length : Int) / 2)) (qs.map Prod.fst))).Qc)]) (vs := [x1, x2, .int .i64 ((X0 (Q9 (XQ Qb Qa Qd Qc) (q * ((Qb.length : Int) / 2)) (qs.map Prod.fst))).Qd), .bool ((X0 (Q9 (XQ Qb Qa Qd Qc) (q * ((Qb.length : Int) / 2)) (qs.map Prod.fst))).Qc)]) rfl Qj rfl rfl rfl (oC y1.one (oC y2.one (oC rfl (oC rfl Qk)))) k44 rfl (nB rfl) rfl) rfl ?_
  rintro _ W51 ⟨k53, o52⟩
  replace k8 := k8.other o52 n48
  replace k14 := k14.other o52 n49
  clear k44
  replace h5 := h5.only o52 (.head _)
  replace y1 := y1.only o52 (.head _)
  replace y2 := y2.only o52 (.head _)
  replace hB := o52.below hB l50
  replace hL := LL.only hL o52
  refine Pu rfl (Ni (hK40 (Sq fun K54 hK54 => (Sq fun K55 hK55 => (Rg (Pu rfl (Va (Xl rfl rfl rfl) rfl rfl ?_)))))))
  refine Ni (hK55 ?_)
  refine WC.cond rfl (fun c56 => ?_) (fun c56 => ?_)
  .
   replace c56 := Q4 c56
   replace c56 := dF c56
   refine Sq fun K57 hK57 => (Rg (Va (Qg rfl Qf rfl k53.range rfl) rfl rfl (Va (QS rfl rfl ED) rfl rfl (Pu rfl ?_))))
   refine WL.do (Qh (cs' := [x1, x2, .int .i64 ((X0 (Q9 (XQ Qb Qa Qd Qc) (q * ((Qb.length : Int) / 2)) (qs.map Prod.fst))).Qd), .bool ((X0 (Q9 (XQ Qb Qa Qd Qc) (q * ((Qb.length : Int) / 2)) (qs.map Prod.fst))).Qc)]) (vs := [x1, x2, .int .i64 ((X0 (Q9 (XQ Qb Qa Qd Qc) (q * ((Qb.length : Int) / 2)) (qs.map Prod.fst))).Qd), .bool ((X0 (Q9 (XQ Qb Qa Qd Qc) (q * ((Qb.length : Int) / 2)) (qs.map Prod.fst))).Qc)]) rfl Qj rfl rfl rfl (oC y1.one (oC y2.one (oC rfl (oC rfl Qk)))) k8 rfl (nB rfl) rfl) rfl ?_
   rintro _ W58 ⟨k60, o59⟩
   replace k14 := k14.other o59 n18.symm
   clear k8
   replace y1 := y1.only o59 (.tail _ (.tail _ (.head _)))
   replace y2 := y2.only o59 (.tail _ (.tail _ (.head _)))
   replace hB := o59.below hB l12
   refine WL.do (Qh (cs' := [.int .i64 0, .int .i64 0, .int .i64 0]) (vs := [.int .i64 0, .int .i64 0, .int .i64 0]) rfl Qs rfl rfl rfl (oC rfl (oC rfl (oC rfl Qk))) k14 rfl (nB rfl) rfl) rfl ?_
   rintro _ W61 ⟨k63, o62⟩
   replace k60 := k60.other o62 n18
   clear k14
   replace y1 := y1.only o62 (.tail _ (.head _))
   replace y2 := y2.only o62 (.tail _ (.head _))
   replace hB := o62.below hB l19
   refine Pu rfl (Ni (hK57 ?_))
   exact WC.ret fun a_ ha_ => hQ (Xh rfl (.agg rfl Qf k60.range rfl) (.agg rfl Qq k63.range rfl) (.tmp rfl) (by rw [QeF hX1 (by first | assumption | exact Classical.not_not.1 (by assumption))]; exact ⟨_, _, rfl, (y1.less (fun x hx => (.tail _ (.tail _ (.tail _ (.tail _ hx)))))), (y2.less (fun x hx => (.tail _ (.tail _ (.tail _ (.tail _ hx))))))⟩) hB ha_)
  .
   replace c56 := Q2 c56
   replace c56 := dT c56
   refine WC.skip (hK54 (Sq fun K64 hK64 => (Rg (Pu rfl (Va (ZX (Ey rfl Vh rfl h5.rd) (show _ = Value.int .i64 ((Qz (rs.map Prod.fst) : Nat) : Int) by rw [List.length_map, hqn])) rfl rfl (Pu rfl (Ni ?_)))))))
   refine hK64 (Sq fun K65 hK65 => (Rg (Pu rfl (Pu rfl (Va (XP (r := (Qz (rs.map Prod.fst) : Int) / 2 ^ (8 * 0) % 256) rfl Tryd.underlying3 Tryd.underlying5 rfl (by rw [Js, show (2 : Int) ^ (8 * 0) = 1 from rfl, Int.ediv_one])) rfl rfl (Pu rfl (Va (Jm (r := (Qz (rs.map Prod.fst) : Int) / 2 ^ (8 * 1)) rfl rfl rfl (by decide) (by decide) rfl) rfl rfl ?_)))))))
   refine Va (XP (r := (Qz (rs.map Prod.fst) : Int) / 2 ^ (8 * 1) % 256) rfl Tryd.underlying3 Tryd.underlying5 rfl (Js _)) rfl rfl (Pu rfl (Va (Jm (r := (Qz (rs.map Prod.fst) : Int) / 2 ^ (8 * 2)) rfl rfl rfl (by decide) (by decide) rfl) rfl rfl (Va (XP (r := (Qz (rs.map Prod.fst) : Int) / 2 ^ (8 * 2) % 256) rfl Tryd.underlying3 Tryd.underlying5 rfl (Js _)) rfl rfl (Pu rfl (Va (Jm (r := (Qz (rs.map Prod.fst) : Int) / 2 ^ (8 * 3)) rfl rfl rfl (by decide) (by decide) rfl) rfl rfl (Va (XP (r := (Qz (rs.map Prod.fst) : Int) / 2 ^ (8 * 3) % 256) rfl Tryd.underlying3 Tryd.underlying5 rfl (Js _)) rfl rfl ?_))))))
   refine Ge (QcY rfl X2 rfl rfl rfl rfl) rfl rfl ?_
   rintro u70 W66 ⟨k67, b68, z69⟩
   have hs7 : QD 1 (W42.heap.size :: W7.heap.size :: W2.heap.size :: w.heap.size :: L) W66 u70 (Vw (ZL gen (Qz (rs.map Prod.fst) : Int)).dat) := k67.rd (hL.notin (Nat.le_refl _))
   replace y1 := y1.below b68
   replace y2 := y2.below b68
   replace k8 := k8.below b68
   replace k14 := k14.below b68
   replace k53 := k53.below b68
   replace hB := Qe hB b68
   replace hL := LL.below hL b68
   refine Va (QS rfl rfl (Qbg _ _ ⟨_, rfl⟩ hs7.slice)) rfl rfl ?_
   refine Ge (Qu rfl VF rfl) rfl rfl ?_
   rintro _ W71 ⟨rfl, k72, b73, z74⟩
   have n76 : W2.heap.size ≠ W66.heap.size := Nat.ne_of_lt k8.lt
   have n77 : W7.heap.size ≠ W66.heap.size := Nat.ne_of_lt k14.lt
   have n78 : W42.heap.size ≠ W66.heap.size := Nat.ne_of_lt k53.lt
   have l79 := hB.size
   replace y1 := y1.more b73 (Nat.le_refl _)
   replace y2 := y2.more b73 (Nat.le_refl _)
   replace hs7 := hs7.more b73 (Nat.le_refl _)
   replace k8 := k8.below b73
   replace k14 := k14.below b73
   replace k53 := k53.below b73
   replace hB := Qe hB b73
   replace hL := LL.more hL z74
   refine WL.do (Qh (cs' := [.int .i64 gen, .int .i64 0, .int .u8 3, u70]) (vs := [.int .i64 gen, .int .i64 0, .int .u8 3, u70]) rfl ZN rfl rfl rfl (oC rfl (oC rfl (oC rfl (oC hs7.one Qk)))) k72 rfl (nB rfl) rfl) rfl ?_
   rintro _ W80 ⟨k82, o81⟩
   replace k8 := k8.other o81 n76
   replace k14 := k14.other o81 n77
   replace k53 := k53.other o81 n78
   clear k72
   replace y1 := y1.only o81 (.head _)
   replace y2 := y2.only o81 (.head _)
   replace hs7 := hs7.only o81 (.head _)
   replace hB := o81.below hB l79
   replace hL := LL.only hL o81
   refine Ni (hK65 (Sq fun K83 hK83 => ?_))
   have he1 : (X0 (Q9 (XQ Qb Qa Qd Qc) (q * ((Qb.length : Int) / 2)) (qs.map Prod.fst))).err = 0 := by first | assumption | exact Classical.not_not.1 (by assumption)
   have hl1 : (X0 (Q9 (XQ Qb Qa Qd Qc) (q * ((Qb.length : Int) / 2)) (qs.map Prod.fst))).Qb.length = Qb.length := by rw [H4, VE]; rfl
   have hf1 : EL (X0 (Q9 (XQ Qb Qa Qd Qc) (q * ((Qb.length : Int) / 2)) (qs.map Prod.fst))) := EO (FP hfu)
   refine Rg (Va (Qg rfl Qf rfl k53.range rfl) rfl rfl (Pu rfl (Va (Qg rfl XD rfl k82.range rfl) rfl rfl ?_)))
   refine Ge (ZP (r := [.int .i64 gen, .int .i64 0, .int .u8 3, u70]) rfl Yv (by decide) (by decide) rfl rfl rfl) rfl rfl ?_
   rintro u88 W84 ⟨k85, b86, z87⟩
   have h8 : QD 4 (W66.heap.size :: W42.heap.size :: W7.heap.size :: W2.heap.size :: w.heap.size :: L) W84 u88 ([((ZL gen (Qz (rs.map Prod.fst) : Int)), u70)].map Vm) := k85.rd (hL.notin (Nat.le_refl _))
   replace y1 := y1.below b86
   replace y2 := y2.below b86
   replace hs7 := hs7.below b86
   replace k8 := k8.below b86
   replace k14 := k14.below b86
   replace k53 := k53.below b86
   replace hB := Qe hB b86
   replace hL := LL.below hL b86
   have hYY : (X0 (Q9 (XQ (X0 (Q9 (XQ Qb Qa Qd Qc) (q * ((Qb.length : Int) / 2)) (qs.map Prod.fst))).Qb (X0 (Q9 (XQ Qb Qa Qd Qc) (q * ((Qb.length : Int) / 2)) (qs.map Prod.fst))).Qa (X0 (Q9 (XQ Qb Qa Qd Qc) (q * ((Qb.length : Int) / 2)) (qs.map Prod.fst))).Qd (X0 (Q9 (XQ Qb Qa Qd Qc) (q * ((Qb.length : Int) / 2)) (qs.map Prod.fst))).Qc) (q * (((X0 (Q9 (XQ Qb Qa Qd Qc) (q * ((Qb.length : Int) / 2)) (qs.map Prod.fst))).Qb.length : Int) / 2)) ([((ZL gen (Qz (rs.map Prod.fst) : Int)), u70)].map Prod.fst))) = YC (XQ Qb Qa Qd Qc) (q * ((Qb.length : Int) / 2)) gen (rs.map Prod.fst) := QbX hX1 he1 rfl
   have hYY : (X0 (Q9 (XQ (X0 (Q9 (XQ Qb Qa Qd Qc) (q * ((Qb.length : Int) / 2)) (qs.map Prod.fst))).Qb (X0 (Q9 (XQ Qb Qa Qd Qc) (q * ((Qb.length : Int) / 2)) (qs.map Prod.fst))).Qa (X0 (Q9 (XQ Qb Qa Qd Qc) (q * ((Qb.length : Int) / 2)) (qs.map Prod.fst))).Qd (X0 (Q9 (XQ Qb Qa Qd Qc) (q * ((Qb.length : Int) / 2)) (qs.map Prod.fst))).Qc) (q * (((X0 (Q9 (XQ Qb Qa Qd Qc) (q * ((Qb.length : Int) / 2)) (qs.map Prod.fst))).Qb.length : Int) / 2)) ([((ZL gen (Qz (rs.map Prod.fst) : Int)), u70)].map Prod.fst))) = YC (XQ Qb Qa Qd Qc) (q * ((Qb.length : Int) / 2)) gen (rs.map Prod.fst) := QbX hX1 he1 rfl
   refine Ge (QQ rfl Tryd.func47 rfl rfl rfl ((by have h_ := QbV (X0 (Q9 (XQ Qb Qa Qd Qc) (q * ((Qb.length : Int) / 2)) (qs.map Prod.fst))).Qb (X0 (Q9 (XQ Qb Qa Qd Qc) (q * ((Qb.length : Int) / 2)) (qs.map Prod.fst))).Qa (X0 (Q9 (XQ Qb Qa Qd Qc) (q * ((Qb.length : Int) / 2)) (qs.map Prod.fst))).Qd (X0 (Q9 (XQ Qb Qa Qd Qc) (q * ((Qb.length : Int) / 2)) (qs.map Prod.fst))).Qc _ _ q [((ZL gen (Qz (rs.map Prod.fst) : Int)), u70)] _ W84 _ hL y1 y2 h8 (fun q_ hq_ => by rw [List.mem_singleton.1 hq_]; exact hs7) hf1 hq (by omega) (fun q_ hq_ => by rw [List.mem_singleton.1 hq_]; exact ⟨⟨Int.le_refl _, by show (0 : Int) <= 100000; decide⟩, Gg _ _, by show 7 <= 100; decide, by show (0 : Int) <= 3 /\ (3 : Int) <= 255; decide⟩) (hR.below hB); rw [hYY] at h_; exact h_))) rfl rfl ?_
   rintro _ W90 ⟨⟨z1, z2, rfl, g1, g2⟩, b89⟩
   replace k8 := k8.below b89
   replace k14 := k14.below b89
   replace k53 := k53.below b89
   replace hB := Qe hB b89
   refine Pu rfl (Pu rfl (Pu rfl ?_))
   refine WL.do (Qh (cs' := [z1, z2, .int .i64 ((YC (XQ Qb Qa Qd Qc) (q * ((Qb.length : Int) / 2)) gen (rs.map Prod.fst)).Qd), .bool ((YC (XQ Qb Qa Qd Qc) (q * ((Qb.length : Int) / 2)) gen (rs.map Prod.fst)).Qc)]) (vs := [z1, z2, .int .i64 ((YC (XQ Qb Qa Qd Qc) (q * ((Qb.length : Int) / 2)) gen (rs.map Prod.fst)).Qd), .bool ((YC (XQ Qb Qa Qd Qc) (q * ((Qb.length : Int) / 2)) gen (rs.map Prod.fst)).Qc)]) rfl Qj rfl rfl rfl (oC g1.one (oC g2.one (oC rfl (oC rfl Qk)))) k53 rfl (nB rfl) rfl) rfl ?_
   rintro _ W91 ⟨k93, o92⟩
   replace k8 := k8.other o92 n48
   replace k14 := k14.other o92 n49
   clear k53
   replace g1 := g1.only o92 (.tail _ (.head _))
   replace g2 := g2.only o92 (.tail _ (.head _))
   replace hB := o92.below hB l50
   refine Pu rfl (Ni (hK83 (Sq fun K94 hK94 => (Sq fun K95 hK95 => (Rg (Pu rfl (Va (Xl rfl rfl rfl) rfl rfl ?_)))))))
   refine Ni (hK95 ?_)
   refine WC.cond rfl (fun c96 => ?_) (fun c96 => ?_)
   .
    replace c96 := Q4 c96
    replace c96 := dF c96
    refine Sq fun K97 hK97 => (Rg (Va (Qg rfl Qf rfl k93.range rfl) rfl rfl (Va (QS rfl rfl ED) rfl rfl (Pu rfl ?_))))
    refine WL.do (Qh (cs' := [z1, z2, .int .i64 ((YC (XQ Qb Qa Qd Qc) (q * ((Qb.length : Int) / 2)) gen (rs.map Prod.fst)).Qd), .bool ((YC (XQ Qb Qa Qd Qc) (q * ((Qb.length : Int) / 2)) gen (rs.map Prod.fst)).Qc)]) (vs := [z1, z2, .int .i64 ((YC (XQ Qb Qa Qd Qc) (q * ((Qb.length : Int) / 2)) gen (rs.map Prod.fst)).Qd), .bool ((YC (XQ Qb Qa Qd Qc) (q * ((Qb.length : Int) / 2)) gen (rs.map Prod.fst)).Qc)]) rfl Qj rfl rfl rfl (oC g1.one (oC g2.one (oC rfl (oC rfl Qk)))) k8 rfl (nB rfl) rfl) rfl ?_
    rintro _ W98 ⟨k100, o99⟩
    replace k14 := k14.other o99 n18.symm
    clear k8
    replace g1 := g1.only o99 (.tail _ (.tail _ (.tail _ (.head _))))
    replace g2 := g2.only o99 (.tail _ (.tail _ (.tail _ (.head _))))
    replace hB := o99.below hB l12
    refine WL.do (Qh (cs' := [.int .i64 0, .int .i64 0, .int .i64 0]) (vs := [.int .i64 0, .int .i64 0, .int .i64 0]) rfl Qs rfl rfl rfl (oC rfl (oC rfl (oC rfl Qk))) k14 rfl (nB rfl) rfl) rfl ?_
    rintro _ W101 ⟨k103, o102⟩
    replace k100 := k100.other o102 n18
    clear k14
    replace g1 := g1.only o102 (.tail _ (.tail _ (.head _)))
    replace g2 := g2.only o102 (.tail _ (.tail _ (.head _)))
    replace hB := o102.below hB l19
    refine Pu rfl (Ni (hK97 ?_))
    exact WC.ret fun a_ ha_ => hQ (Xh rfl (.agg rfl Qf k100.range rfl) (.agg rfl Qq k103.range rfl) (.tmp rfl) (by unfold XA; rw [if_neg (by first | assumption | exact Classical.not_not.1 (by assumption))]; exact ⟨_, _, rfl, (g1.less (fun x hx => (.tail _ (.tail _ (.tail _ (.tail _ (.tail _ hx))))))), (g2.less (fun x hx => (.tail _ (.tail _ (.tail _ (.tail _ (.tail _ hx)))))))⟩) hB ha_)
   .
    replace c96 := Q2 c96
    replace c96 := dT c96
    refine WC.skip (hK94 (Sq fun K104 hK104 => (Rg (Va (Qg rfl Qf rfl k93.range rfl) rfl rfl (Pu rfl (Pu rfl (Pu rfl ?_)))))))
    refine Va (QR (r := 1 + (Qz (rs.map Prod.fst) : Int)) rfl rfl rfl (Qm (by omega))) rfl rfl (Va (QS rfl rfl (Qak _ _ _)) rfl rfl ?_)
    refine WL.do (Qh (cs' := [z1, z2, .int .i64 ((YC (XQ Qb Qa Qd Qc) (q * ((Qb.length : Int) / 2)) gen (rs.map Prod.fst)).Qd), .bool ((YC (XQ Qb Qa Qd Qc) (q * ((Qb.length : Int) / 2)) gen (rs.map Prod.fst)).Qc)]) (vs := [z1, z2, .int .i64 ((YC (XQ Qb Qa Qd Qc) (q * ((Qb.length : Int) / 2)) gen (rs.map Prod.fst)).Qd), .bool ((YC (XQ Qb Qa Qd Qc) (q * ((Qb.length : Int) / 2)) gen (rs.map Prod.fst)).Qc)]) rfl Qj rfl rfl rfl (oC g1.one (oC g2.one (oC rfl (oC rfl Qk)))) k8 rfl (nB rfl) rfl) rfl ?_
    rintro _ W105 ⟨k107, o106⟩
    replace k14 := k14.other o106 n18.symm
    clear k8
    replace g1 := g1.only o106 (.tail _ (.tail _ (.tail _ (.head _))))
    replace g2 := g2.only o106 (.tail _ (.tail _ (.tail _ (.head _))))
    replace hB := o106.below hB l12
    refine WL.do (Qh (cs' := [.int .i64 q, .int .i64 gen, .int .i64 (1 + (Qz (rs.map Prod.fst) : Int))]) (vs := [.int .i64 q, .int .i64 gen, .int .i64 (1 + (Qz (rs.map Prod.fst) : Int))]) rfl Qs rfl rfl rfl (oC rfl (oC rfl (oC rfl Qk))) k14 rfl (nB rfl) rfl) rfl ?_
    rintro _ W108 ⟨k110, o109⟩
    replace k107 := k107.other o109 n18
    clear k14
    replace g1 := g1.only o109 (.tail _ (.tail _ (.head _)))
    replace g2 := g2.only o109 (.tail _ (.tail _ (.head _)))
    replace hB := o109.below hB l19
    refine Pu rfl (Ni (hK104 ?_))
    exact WC.ret fun a_ ha_ => hQ (Xh rfl (.agg rfl Qf k107.range rfl) (.agg rfl Qq k110.range rfl) (.tmp rfl) (by unfold XA; rw [if_pos (by first | assumption | exact Classical.not_not.1 (by assumption))]; exact ⟨_, _, G7 (by first | assumption | exact Classical.not_not.1 (by assumption)), (g1.less (fun x hx => (.tail _ (.tail _ (.tail _ (.tail _ (.tail _ hx))))))), (g2.less (fun x hx => (.tail _ (.tail _ (.tail _ (.tail _ (.tail _ hx)))))))⟩) hB ha_)

theorem Du {d : DO} {fr : Int} {p : Pg} (h : d.err = 0 \/ d.err = 9) (hr : QM d.Qb d.Qa = true) (hl : d.Qa.length < 4096) (hp : 0 <= fr + p.idx /\ fr + p.idx < d.Qb.length) (hd : d.err = 0 -> d.Qc = false) : ((Yq d fr p).err = 0 \/ (Yq d fr p).err = 9) /\ (Yq d fr p).Qa.length <= d.Qa.length + 1 /\ (Yq d fr p).Qb.length = d.Qb.length /\ QM (Yq d fr p).Qb (Yq d fr p).Qa = true /\ ((Yq d fr p).err = 0 -> (Yq d fr p).Qc = false) := by
  rcases h with h | h
  . obtain ⟨a, b, c, e, g⟩ := d
    have h : g = 0 := h
    subst h
    have hd : e = false := hd rfl
    subst hd
    have hw := EN (f := c) (fr := fr) (p := p) (show QM a b = true from hr) (show b.length < 4096 from hl) hp
    rw [hw]
    split
    . exact ⟨.inr rfl, Nat.le_succ _, rfl, hr, fun h => by cases h⟩
    . refine ⟨.inl rfl, ?_, rfl, ?_, fun _ => rfl⟩
      . show (b ++ Kt fr [p]).length <= b.length + 1
        rw [List.length_append, Y6]; exact Nat.le_refl _
      . exact YF hr (by rw [Y6, List.length_singleton]; exact hl) fun q hq => by rw [List.mem_singleton.1 hq]; exact hp
  . rw [Gs (by rw [h]; decide)]
    exact ⟨.inr h, Nat.le_succ _, rfl, hr, hd⟩
theorem Hw {fr : Int} : ∀ (ps : List Pg) (d : DO), (d.err = 0 \/ d.err = 9) -> QM d.Qb d.Qa = true -> d.Qa.length + ps.length <= 4096 -> (∀ p ∈ ps, 0 <= fr + p.idx /\ fr + p.idx < d.Qb.length) -> (d.err = 0 -> d.Qc = false) -> ((Q9 d fr ps).err = 0 \/ (Q9 d fr ps).err = 9) /\ QM (Q9 d fr ps).Qb (Q9 d fr ps).Qa = true /\ ((Q9 d fr ps).err = 0 -> (Q9 d fr ps).Qc = false)
 | [], d, h, hr, _, _, hd => ⟨h, hr, hd⟩
 | p :: ps, d, h, hr, hl, hp, hd => by
  rw [List.length_cons] at hl
  obtain ⟨h1, h2, h3, h4, h5⟩ := Du (fr := fr) (p := p) h hr (by omega) (hp p (.head _)) hd
  exact Hw ps (Yq d fr p) h1 h4 (by omega) (fun q hq => by rw [h3]; exact hp q (.tail _ hq)) h5
theorem Dv {d : DO} (h : d.err = 0 \/ d.err = 9) (hr : QM d.Qb d.Qa = true) (hd : d.err = 0 -> d.Qc = false) : ((X0 d).err = 0 \/ (X0 d).err = 9) /\ ((X0 d).err = 0 -> (X0 d).Qc = false /\ (X0 d).Qa = [] /\ QM (X0 d).Qb (X0 d).Qa = true) := by
  rcases h with h | h
  . obtain ⟨a, b, c, e, g⟩ := d
    have h : g = 0 := h
    subst h
    have hd : e = false := hd rfl
    subst hd
    have hw := K0 (f := c) (show QM a b = true from hr)
    rw [hw]
    split
    . exact ⟨.inr rfl, fun h => by cases h⟩
    . exact ⟨.inl rfl, fun _ => ⟨rfl, rfl, Jc hr⟩⟩
  . rw [Gt (by rw [h]; decide)]
    exact ⟨.inr h, fun e => by rw [h] at e; cases e⟩
theorem Qei {was d : DO} (h : d.err = 0 \/ d.err = 9) : Xx was d = d := FE (by rcases h with h | h <;> rw [h] <;> decide)
theorem QcD {Qb : List (List Int)} {Qa : List (Int × List Int)} {f q gen : Int} {Q : Nat} {recs : List (List Int)} (hr : QM Qb Qa = true) (hq : q = (Q : Int)) (hQ : Q <= 1) (hfit : 1 + Qz recs <= Qb.length / 2) (hl : Qa.length + Qz recs <= 4096) : (YC (XQ Qb Qa f false) (q * ((Qb.length : Int) / 2)) gen recs).err = 0 \/ (YC (XQ Qb Qa f false) (q * ((Qb.length : Int) / 2)) gen recs).err = 9 := by
  have hin := Yz hQ (k := Qz recs) (n := Qb.length) (by omega)
  have hfr : q * ((Qb.length : Int) / 2) = ((Q * (Qb.length / 2) : Nat) : Int) := by rw [hq, Int.natCast_mul]; rfl
  rw [hfr]
  generalize Q * (Qb.length / 2) = fr at *
  obtain ⟨h1, h2, h3⟩ := Hw (fr := (fr : Int)) (Zp gen 1 recs) (XQ Qb Qa f false) (.inl rfl) hr (by rw [ZW]; exact hl) (GV hin) (fun _ => rfl)
  obtain ⟨k1, k2⟩ := Dv h1 h2 h3
  unfold YC
  rcases k1 with k1 | k1
  . obtain ⟨m1, m2, m3⟩ := k2 k1
    have hs : (X0 (Q9 (XQ Qb Qa f false) (fr : Int) (Zp gen 1 recs))).Qb.length = Qb.length := by rw [H4, VE]; rfl
    obtain ⟨n1, n2, n3, n4, n5⟩ := Du (fr := (fr : Int)) (p := ZL gen (Qz recs : Int)) (.inl k1) m3 (by rw [m2]; show 0 < 4096; decide) (by rw [hs]; show 0 <= (fr : Int) + 0 /\ (fr : Int) + 0 < _; omega) (fun _ => m1)
    exact (Dv n1 n4 n5).1
  . rw [Gs (by rw [k1]; decide), Gt (by rw [k1]; decide)]
    exact .inr k1
theorem Et {Qb : List (List Int)} {Qa : List (Int × List Int)} {f q : Int} {Q : Nat} {recs : List (List Int)} (hr : QM Qb Qa = true) (hq : q = (Q : Int)) (hQ : Q <= 1) (hg : (Xt Qb Qa false).2 = 0) (hfit : 1 + Qz recs <= Qb.length / 2) (hl : Qa.length + Qz recs <= 4096) : XA Qb Qa f false q (XF Qb Qa false Qb.length + 1) recs = QC Qb Qa f false q recs := by
 have he := QcD (f := f) (gen := XF Qb Qa false Qb.length + 1) hr hq hQ hfit hl
 have hn : (Xt Qb Qa false).1 = XF Qb Qa false Qb.length + 1 := by
  unfold Xt at hg ⊢
  split
  . rename_i h; rw [if_pos h] at hg; cases hg
  . rfl
 have e2 : QC Qb Qa f false q recs = if (YC (XQ Qb Qa f false) (q * ((Qb.length : Int) / 2)) (XF Qb Qa false Qb.length + 1) recs).err = 0 then (YC (XQ Qb Qa f false) (q * ((Qb.length : Int) / 2)) (XF Qb Qa false Qb.length + 1) recs, q, XF Qb Qa false Qb.length + 1, 1 + (Qz recs : Int)) else (YC (XQ Qb Qa f false) (q * ((Qb.length : Int) / 2)) (XF Qb Qa false Qb.length + 1) recs, 0, 0, 0) := by
  unfold QC
  rw [if_neg (fun h => h hg), hn, Qei he]
 rw [e2]
 rfl
theorem Qcv {Qb : List (List Int)} {Qa : List (Int × List Int)} (h : ¬ 1099511627776 < XF Qb Qa false Qb.length + 1) : (Xt Qb Qa false).2 = 0 := by
 unfold Xt
 rw [if_neg (by omega)]
theorem Qcu {Qb : List (List Int)} {Qa : List (Int × List Int)} {f q : Int} {recs : List (List Int)} (h : 1099511627776 < XF Qb Qa false Qb.length + 1) : QC Qb Qa f false q recs = (⟨Qb, Qa, f, false, 5⟩, 0, 0, 0) := by
 have hm := V0 Qb Qa false Qb.length
 have hn : Xt Qb Qa false = (0, 5) := by
  unfold Xt
  rw [if_pos (by omega)]
 unfold QC
 rw [hn, if_pos (by show ¬ (5 : Int) = 0; decide)]
theorem Qbe {Qb : List (List Int)} {Qa : List (Int × List Int)} {Qc : Bool} (h : (QM Qb Qa && decide (8 <= (Qb.length : Int))) = false) : Xg Qb Qa Qc = 1 := by
  unfold Xg
  rw [if_pos]
  cases hr : QM Qb Qa
  . exact .inl rfl
  . rw [hr, Bool.true_and] at h
    have := of_decide_eq_false h
    exact .inr (by omega)
theorem Qdi {Qb : List (List Int)} {Qa : List (Int × List Int)} (h : (QM Qb Qa && decide (8 <= (Qb.length : Int))) = true) : QM Qb Qa = true /\ 8 <= Qb.length := by
 rw [Bool.and_eq_true] at h
 have := of_decide_eq_true h.2
 exact ⟨h.1, by omega⟩
theorem Do {Qb : List (List Int)} {Qa : List (Int × List Int)} (hr : QM Qb Qa = true) (h8 : 8 <= Qb.length) : Xg Qb Qa true = 9 := by
 unfold Xg
 rw [if_neg (by rintro (e | e); rw [hr] at e; cases e; omega), if_pos rfl]
def EK (L : List Nat) (r : DO × Int × Int × Int) (u : Value) (W : World) : Prop := ∃ t1 t2, u = .tuple #[.agg #[t1, t2, .int .i64 r.1.Qd, .bool r.1.Qc], .agg #[.int .i64 r.2.1, .int .i64 r.2.2.1, .int .i64 r.2.2.2], .int .i64 r.1.err] /\ QD 128 L W t1 (r.1.Qb.map Qr) /\ QD 129 L W t2 (r.1.Qa.map QG)
theorem EK.below {L : List Nat} {r : DO × Int × Int × Int} {u : Value} {w w' : World} (h : EK L r u w) (hb : Below w.heap.size w w') : EK L r u w' := by
 obtain ⟨t1, t2, e, h1, h2⟩ := h
 exact ⟨t1, t2, e, h1.below hb, h2.below hb⟩
theorem EK.wr {base t n : Nat} {L : List Nat} {r : DO × Int × Int × Int} {u : Value} {w w' : World} (h : EK L r u w) (hw : EJ base t n w w') (hn : n < 128) : EK L r u w' := by
 obtain ⟨t1, t2, e, h1, h2⟩ := h
 exact ⟨t1, t2, e, h1.wr hw hn, h2.wr hw (by omega)⟩
theorem JS.wr' {base t n : Nat} {L : List Nat} {r : DO} {u : Value} {w w' : World} (h : JS L r u w) (hw : EJ base t n w w') (hn : n < 128) : JS L r u w' := by
 obtain ⟨t1, t2, e, h1, h2⟩ := h
 exact ⟨t1, t2, e, h1.wr hw hn, h2.wr hw (by omega)⟩
theorem Qfr {n half gen used : Int} (h : ¬ ZS n half gen used = 0) : ZS n half gen used = 1 := by
  unfold ZS at h ⊢
  split
  . rfl
  . rename_i h1
    rw [if_neg h1] at h
    exact absurd rfl h

theorem UG.wrO' {base t t' n n' : Nat} {u : Value} {w w' : World} (h : UG base t' n' u w) (hw : EJ base t n w w') (hn : (t' == t) = false) : UG base t' n' u w' := by
 obtain ⟨B, cs, h1, h2, h3, h4⟩ := h
 obtain ⟨C, c1, c2, k1, k2, k3, k0, k4, k5⟩ := hw
 exact ⟨B, cs, h1, h2, by unfold Jr; rw [k5.block B (h3.ne k2 hn)]; exact h3, h4⟩
theorem KX.wr {L : List Nat} {base t t' n : Nat} {r : DO} {u : Value} {w w' : World} (h : KX L base t' r u w) (hw : EJ base t n w w') (hn : (t' == t) = false) (h2 : n < 128) : KX L base t' r u w' := by
 obtain ⟨t1, t2, e, h1, h3⟩ := h
 exact ⟨t1, t2, e.wr hw hn, h1.wr hw h2, h3.wr hw (by omega)⟩
set_option maxHeartbeats 1000000 in
theorem GR (Qb : List (List Int)) (Qa : List (Int × List Int)) (Qd : Int) (Qc : Bool) (s1 s2 : Value) (half gen used : Int) (rs : List U6) (rv : Value) (w : World) (L : List Nat) (hL : LL L w) (h1 : QD 128 L w s1 (Qb.map Qr)) (h2 : QD 129 L w s2 (Qa.map QG)) (h3 : QD 1 L w rv (rs.map YV)) (hrs : Ya L w rs)  (hfu : -9223372036854775808 <= Qd /\ Qd <= 9223372036854775807) (hbd : YL Qb Qa) (hrb : ∀ r ∈ rs, Z0 r.1 /\ r.1.length <= 1000000) (hrl2 : rs.length <= 100000) (hul : -9223372036854775808 <= used /\ used <= 9223372036854775807) (hll : Qa.length <= 2000) (hR : U5 w) : CV Tryd.prog 25 [.agg #[s1, s2, .int .i64 Qd, .bool Qc], .agg #[.int .i64 half, .int .i64 gen, .int .i64 used], rv] w fun v W => ∃ t1 t2, v = .tuple #[.agg #[t1, t2, .int .i64 (Qy Qb Qa Qd Qc half gen used (rs.map Prod.fst)).1.Qd, .bool (Qy Qb Qa Qd Qc half gen used (rs.map Prod.fst)).1.Qc], .agg #[.int .i64 (Qy Qb Qa Qd Qc half gen used (rs.map Prod.fst)).2.1, .int .i64 (Qy Qb Qa Qd Qc half gen used (rs.map Prod.fst)).2.2.1, .int .i64 (Qy Qb Qa Qd Qc half gen used (rs.map Prod.fst)).2.2.2], .int .i64 (Qy Qb Qa Qd Qc half gen used (rs.map Prod.fst)).1.err] /\ QD 128 L W t1 ((Qy Qb Qa Qd Qc half gen used (rs.map Prod.fst)).1.Qb.map Qr) /\ QD 129 L W t2 ((Qy Qb Qa Qd Qc half gen used (rs.map Prod.fst)).1.Qa.map QG) := by
 have hrs0 := hrs
 refine QN (N := 86) (f := [(0, .agg #[s1, s2, .int .i64 Qd, .bool Qc]), (1, .agg #[.int .i64 half, .int .i64 gen, .int .i64 used]), (2, rv)]) Tryd.func25 rfl rfl rfl rfl fun Q hQ hE => ?_
 have hB := Below.refl w.heap.size w
 have h1m : Qb.length <= maxLen := by have := h1.len; rwa [List.length_map] at this
 unfold maxLen at h1m
 have h2m : Qa.length <= maxLen := by have := h2.len; rwa [List.length_map] at this
 unfold maxLen at h2m
 have h3m : rs.length <= maxLen := by have := h3.len; rwa [List.length_map] at this
 unfold maxLen at h3m
 refine Sq fun K1 hK1 => (Rg ?_)
 refine Ge (Xa rfl rfl rfl) rfl rfl ?_
 rintro _ W2 ⟨rfl, k3, b4, z5⟩
 have l6 := hB.size
 replace h1 := h1.more b4 (Nat.le_refl _)
 replace h2 := h2.more b4 (Nat.le_refl _)
 replace h3 := h3.more b4 (Nat.le_refl _)
 replace hrs := hrs.more b4 (Nat.le_refl _)
 replace hB := Qe hB b4
 replace hL := LL.more hL z5
 refine Ge (Xa rfl rfl rfl) rfl rfl ?_
 rintro _ W7 ⟨rfl, k8, b9, z10⟩
 have l12 := hB.size
 replace h1 := h1.more b9 (Nat.le_refl _)
 replace h2 := h2.more b9 (Nat.le_refl _)
 replace h3 := h3.more b9 (Nat.le_refl _)
 replace hrs := hrs.more b9 (Nat.le_refl _)
 replace k3 := k3.below b9
 replace hB := Qe hB b9
 replace hL := LL.more hL z10
 refine Ge (Qu rfl QV rfl) rfl rfl ?_
 rintro _ W13 ⟨rfl, k14, b15, z16⟩
 have n17 : w.heap.size ≠ W7.heap.size := Nat.ne_of_lt k3.lt
 have n18 : W2.heap.size ≠ W7.heap.size := Nat.ne_of_lt k8.lt
 have l19 := hB.size
 replace h1 := h1.more b15 (Nat.le_refl _)
 replace h2 := h2.more b15 (Nat.le_refl _)
 replace h3 := h3.more b15 (Nat.le_refl _)
 replace hrs := hrs.more b15 (Nat.le_refl _)
 replace k3 := k3.below b15
 replace k8 := k8.below b15
 replace hB := Qe hB b15
 replace hL := LL.more hL z16
 refine Ge (Qu rfl Xv rfl) rfl rfl ?_
 rintro _ W20 ⟨rfl, k21, b22, z23⟩
 have n24 : w.heap.size ≠ W13.heap.size := Nat.ne_of_lt k3.lt
 have n25 : W2.heap.size ≠ W13.heap.size := Nat.ne_of_lt k8.lt
 have n26 : W7.heap.size ≠ W13.heap.size := Nat.ne_of_lt k14.lt
 have l27 := hB.size
 replace h1 := h1.more b22 (Nat.le_refl _)
 replace h2 := h2.more b22 (Nat.le_refl _)
 replace h3 := h3.more b22 (Nat.le_refl _)
 replace hrs := hrs.more b22 (Nat.le_refl _)
 replace k3 := k3.below b22
 replace k8 := k8.below b22
 replace k14 := k14.below b22
 replace hB := Qe hB b22
 replace hL := LL.more hL z23
 refine Pu rfl (Ni (hK1 (Sq fun K28 hK28 => (WC.block (Sq fun K29 hK29 => (Rg (Va (Qg rfl Qf rfl k3.range rfl) rfl rfl ?_)))))))
 refine Ge (QQ rfl Tryd.func34 rfl rfl rfl ((show CV _ _ _ _ (fun v _ => ∃ b, v = .bool b /\ b = (QM Qb Qa && decide (8 <= (Qb.length : Int)))) from Calls.mono (QdK Qb Qa Qd Qc _ _ W20 _ hL h1 h2) fun _ _ h => by obtain ⟨v, he, hv, hb⟩ := h; exact ⟨v, he, ⟨_, hv, rfl⟩, hb⟩))) rfl rfl ?_
 rintro _ W31 ⟨⟨ab, rfl, hab⟩, b30⟩
 replace h1 := h1.below b30
 replace h2 := h2.below b30
 replace h3 := h3.below b30
 replace hrs := hrs.below b30
 replace k3 := k3.below b30
 replace k8 := k8.below b30
 replace k14 := k14.below b30
 replace k21 := k21.below b30
 replace hB := Qe hB b30
 replace hL := LL.below hL b30
 refine Va (XU rfl rfl) rfl rfl (Pu rfl (Ni (hK29 ?_)))
 refine WC.cond rfl (fun c32 => ?_) (fun c32 => ?_)
 .
  replace c32 := Q4 c32
  replace c32 := ZY c32
  refine Sq fun K33 hK33 => ?_
  refine WC.drawC 3 [(2, W7.heap.size, [.slice none 0 0, .slice none 0 0, .int .i64 0, .bool false], fun cs_ _ => cs_ = [s1, s2, .int .i64 Qd, .bool Qc])] [(some 18, .is (.agg #[s1, s2, .int .i64 Qd, .bool Qc])), (some 19, .is (.agg #[.int .i64 half, .int .i64 gen, .int .i64 used])), (none, .by fun _ _ => True)] [[], [], [0, 0]] ⟨fun _ _ _ _ h => h, trivial⟩ (mA ⟨fun _ _ _ _ h => h, trivial⟩) ⟨fun x hx => (by cases hx), trivial⟩ (Xo (mA ⟨_, rfl⟩)) (mA k14) ?_ ?_
  .
   refine Ql.cons rfl (fun Wd hd hbs_ => ?_) ?_
   .
    have k3 := k3.chgM hd (by simp only [List.map_cons, List.map_nil, List.mem_cons, List.not_mem_nil, or_false, not_or]; exact n17)
    exact Dd (Qg rfl Qf rfl k3.range rfl) rfl
   refine Ql.cons rfl (fun Wd hd hbs_ => ?_) ?_
   .
    have k8 := k8.chgM hd (by simp only [List.map_cons, List.map_nil, List.mem_cons, List.not_mem_nil, or_false, not_or]; exact n18)
    exact Dd (Qg rfl Qq rfl k8.range rfl) rfl
   refine Ql.hit rfl (fun Wd hd hb_ => ?_) ?_
   .
    have h1 := h1.chgM hd (mA (.tail _ (.head _)))
    have h2 := h2.chgM hd (mA (.tail _ (.head _)))
    exact (Qx (vs := [s1, s2, .int .i64 Qd, .bool Qc]) rfl Qj rfl rfl rfl (oC h1.one (oC h2.one (oC rfl (oC rfl Qk)))) hb_ rfl rfl).mono (fun _ W' h => ⟨h.2, Xj.is h.1, trivial⟩)
   exact trivial
  .
   intro W34 hd hq_
   replace h1 := h1.chgM hd (mA (.tail _ (.head _)))
   replace h2 := h2.chgM hd (mA (.tail _ (.head _)))
   replace h3 := h3.chgM hd (mA (.tail _ (.head _)))
   replace hrs := hrs.chgM hd (mA (.tail _ (.head _)))
   replace k3 := k3.chgM hd (by simp only [List.map_cons, List.map_nil, List.mem_cons, List.not_mem_nil, or_false, not_or]; exact n17)
   replace k8 := k8.chgM hd (by simp only [List.map_cons, List.map_nil, List.mem_cons, List.not_mem_nil, or_false, not_or]; exact n18)
   replace k21 := k21.chgM hd (by simp only [List.map_cons, List.map_nil, List.mem_cons, List.not_mem_nil, or_false, not_or]; exact n26.symm)
   have k35 := hq_ _ (.head _)
   replace k35 := Xj.blk k35
   replace hB := hd.toBelow hB (mA l19)
   replace hL := hL.chgM hd
   intro _ _
   refine WL.do (Qh (cs' := [.int .i64 half, .int .i64 gen, .int .i64 used]) (vs := [.int .i64 half, .int .i64 gen, .int .i64 used]) rfl Qs rfl rfl rfl (oC rfl (oC rfl (oC rfl Qk))) k21 rfl (nB rfl) rfl) rfl ?_
   rintro _ W36 ⟨k38, o37⟩
   replace k35 := k35.other o37 n26
   clear k21
   replace h1 := h1.only o37 (.head _)
   replace h2 := h2.only o37 (.head _)
   replace hB := o37.below hB l27
   refine Pu rfl (Ni (hK33 ?_))
   exact WC.ret fun a_ ha_ => hQ (Xh rfl (.agg rfl Qf k35.range rfl) (.agg rfl Qq k38.range rfl) (.tmp rfl) (by have hc := Qbe (Qc := Qc) (hab.symm.trans (by first | assumption | simp_all)); rw [JP (by rw [hc]; decide), hc]; exact ⟨_, _, rfl, (h1.less (fun x hx => (.tail _ (.tail _ (.tail _ (.tail _ hx)))))), (h2.less (fun x hx => (.tail _ (.tail _ (.tail _ (.tail _ hx))))))⟩) hB ha_)
 .
  replace c32 := Q2 c32
  refine Sq fun K39 hK39 => (Rg (Va (Qn (o1 := 3) rfl XC rfl rfl) rfl rfl (Va (Qi rfl Yt rfl (k3.cell (k := 3) rfl)) rfl rfl (Pu rfl (Ni (hK39 ?_))))))
  refine WC.cond rfl (fun c40 => ?_) (fun c40 => ?_)
  .
   refine Sq fun K41 hK41 => ?_
   refine WC.drawC 3 [(2, W7.heap.size, [.slice none 0 0, .slice none 0 0, .int .i64 0, .bool false], fun cs_ _ => cs_ = [s1, s2, .int .i64 Qd, .bool Qc])] [(some 23, .is (.agg #[s1, s2, .int .i64 Qd, .bool Qc])), (some 24, .is (.agg #[.int .i64 half, .int .i64 gen, .int .i64 used])), (none, .by fun _ _ => True)] [[], [], [0, 0]] ⟨fun _ _ _ _ h => h, trivial⟩ (mA ⟨fun _ _ _ _ h => h, trivial⟩) ⟨fun x hx => (by cases hx), trivial⟩ (Xo (mA ⟨_, rfl⟩)) (mA k14) ?_ ?_
   .
    refine Ql.cons rfl (fun Wd hd hbs_ => ?_) ?_
    .
     have k3 := k3.chgM hd (by simp only [List.map_cons, List.map_nil, List.mem_cons, List.not_mem_nil, or_false, not_or]; exact n17)
     exact Dd (Qg rfl Qf rfl k3.range rfl) rfl
    refine Ql.cons rfl (fun Wd hd hbs_ => ?_) ?_
    .
     have k8 := k8.chgM hd (by simp only [List.map_cons, List.map_nil, List.mem_cons, List.not_mem_nil, or_false, not_or]; exact n18)
     exact Dd (Qg rfl Qq rfl k8.range rfl) rfl
    refine Ql.hit rfl (fun Wd hd hb_ => ?_) ?_
    .
     have h1 := h1.chgM hd (mA (.tail _ (.head _)))
     have h2 := h2.chgM hd (mA (.tail _ (.head _)))
     exact (Qx (vs := [s1, s2, .int .i64 Qd, .bool Qc]) rfl Qj rfl rfl rfl (oC h1.one (oC h2.one (oC rfl (oC rfl Qk)))) hb_ rfl rfl).mono (fun _ W' h => ⟨h.2, Xj.is h.1, trivial⟩)
    exact trivial
   .
    intro W42 hd hq_
    replace h1 := h1.chgM hd (mA (.tail _ (.head _)))
    replace h2 := h2.chgM hd (mA (.tail _ (.head _)))
    replace h3 := h3.chgM hd (mA (.tail _ (.head _)))
    replace hrs := hrs.chgM hd (mA (.tail _ (.head _)))
    replace k3 := k3.chgM hd (by simp only [List.map_cons, List.map_nil, List.mem_cons, List.not_mem_nil, or_false, not_or]; exact n17)
    replace k8 := k8.chgM hd (by simp only [List.map_cons, List.map_nil, List.mem_cons, List.not_mem_nil, or_false, not_or]; exact n18)
    replace k21 := k21.chgM hd (by simp only [List.map_cons, List.map_nil, List.mem_cons, List.not_mem_nil, or_false, not_or]; exact n26.symm)
    have k43 := hq_ _ (.head _)
    replace k43 := Xj.blk k43
    replace hB := hd.toBelow hB (mA l19)
    replace hL := hL.chgM hd
    intro _ _
    refine WL.do (Qh (cs' := [.int .i64 half, .int .i64 gen, .int .i64 used]) (vs := [.int .i64 half, .int .i64 gen, .int .i64 used]) rfl Qs rfl rfl rfl (oC rfl (oC rfl (oC rfl Qk))) k21 rfl (nB rfl) rfl) rfl ?_
    rintro _ W44 ⟨k46, o45⟩
    replace k43 := k43.other o45 n26
    clear k21
    replace h1 := h1.only o45 (.head _)
    replace h2 := h2.only o45 (.head _)
    replace hB := o45.below hB l27
    refine Pu rfl (Ni (hK41 ?_))
    exact WC.ret fun a_ ha_ => hQ (Xh rfl (.agg rfl Qf k43.range rfl) (.agg rfl Qq k46.range rfl) (.tmp rfl) (by have hdn : Qc = true := (by first | assumption | simp_all); obtain ⟨hr1, hr2⟩ := Qdi (hab.symm.trans (by first | assumption | simp_all)); have hr3 := (ZU hr1).2.1; subst hdn; have hc := Do hr1 hr2; rw [JP (by rw [hc]; decide), hc]; exact ⟨_, _, rfl, (h1.less (fun x hx => (.tail _ (.tail _ (.tail _ (.tail _ hx)))))), (h2.less (fun x hx => (.tail _ (.tail _ (.tail _ (.tail _ hx))))))⟩) hB ha_)
  .
   replace c40 := ZY c40
   refine Sq fun K47 hK47 => ?_
   obtain ⟨hr1, hr2⟩ := Qdi (hab.symm.trans (by first | assumption | simp_all)); have hr3 := (ZU hr1).2.1
   refine Rg (Va (Qg rfl Qf rfl k3.range rfl) rfl rfl (Va (Qg rfl Qq rfl k8.range rfl) rfl rfl ?_))
   refine Ge (QQ rfl Tryd.func45 rfl rfl rfl (QaH Qb Qa Qd Qc _ _ half gen used W31 _ hL h1 h2 (by omega))) rfl rfl ?_
   rintro _ W49 ⟨⟨lb, rfl, hlb⟩, b48⟩
   replace h1 := h1.below b48
   replace h2 := h2.below b48
   replace h3 := h3.below b48
   replace hrs := hrs.below b48
   replace k3 := k3.below b48
   replace k8 := k8.below b48
   replace k14 := k14.below b48
   replace k21 := k21.below b48
   replace hB := Qe hB b48
   replace hL := LL.below hL b48
   refine Va (XU rfl rfl) rfl rfl (Pu rfl (Ni (hK47 ?_)))
   refine WC.cond rfl (fun c50 => ?_) (fun c50 => ?_)
   .
    replace c50 := Q4 c50
    replace c50 := ZY c50
    refine Sq fun K51 hK51 => ?_
    refine WC.drawC 3 [(2, W7.heap.size, [.slice none 0 0, .slice none 0 0, .int .i64 0, .bool false], fun cs_ _ => cs_ = [s1, s2, .int .i64 Qd, .bool Qc])] [(some 30, .is (.agg #[s1, s2, .int .i64 Qd, .bool Qc])), (some 31, .is (.agg #[.int .i64 half, .int .i64 gen, .int .i64 used])), (none, .by fun _ _ => True)] [[], [], [0, 0]] ⟨fun _ _ _ _ h => h, trivial⟩ (mA ⟨fun _ _ _ _ h => h, trivial⟩) ⟨fun x hx => (by cases hx), trivial⟩ (Xo (mA ⟨_, rfl⟩)) (mA k14) ?_ ?_
    .
     refine Ql.cons rfl (fun Wd hd hbs_ => ?_) ?_
     .
      have k3 := k3.chgM hd (by simp only [List.map_cons, List.map_nil, List.mem_cons, List.not_mem_nil, or_false, not_or]; exact n17)
      exact Dd (Qg rfl Qf rfl k3.range rfl) rfl
     refine Ql.cons rfl (fun Wd hd hbs_ => ?_) ?_
     .
      have k8 := k8.chgM hd (by simp only [List.map_cons, List.map_nil, List.mem_cons, List.not_mem_nil, or_false, not_or]; exact n18)
      exact Dd (Qg rfl Qq rfl k8.range rfl) rfl
     refine Ql.hit rfl (fun Wd hd hb_ => ?_) ?_
     .
      have h1 := h1.chgM hd (mA (.tail _ (.head _)))
      have h2 := h2.chgM hd (mA (.tail _ (.head _)))
      exact (Qx (vs := [s1, s2, .int .i64 Qd, .bool Qc]) rfl Qj rfl rfl rfl (oC h1.one (oC h2.one (oC rfl (oC rfl Qk)))) hb_ rfl rfl).mono (fun _ W' h => ⟨h.2, Xj.is h.1, trivial⟩)
     exact trivial
    .
     intro W52 hd hq_
     replace h1 := h1.chgM hd (mA (.tail _ (.head _)))
     replace h2 := h2.chgM hd (mA (.tail _ (.head _)))
     replace h3 := h3.chgM hd (mA (.tail _ (.head _)))
     replace hrs := hrs.chgM hd (mA (.tail _ (.head _)))
     replace k3 := k3.chgM hd (by simp only [List.map_cons, List.map_nil, List.mem_cons, List.not_mem_nil, or_false, not_or]; exact n17)
     replace k8 := k8.chgM hd (by simp only [List.map_cons, List.map_nil, List.mem_cons, List.not_mem_nil, or_false, not_or]; exact n18)
     replace k21 := k21.chgM hd (by simp only [List.map_cons, List.map_nil, List.mem_cons, List.not_mem_nil, or_false, not_or]; exact n26.symm)
     have k53 := hq_ _ (.head _)
     replace k53 := Xj.blk k53
     replace hB := hd.toBelow hB (mA l19)
     replace hL := hL.chgM hd
     intro _ _
     refine WL.do (Qh (cs' := [.int .i64 half, .int .i64 gen, .int .i64 used]) (vs := [.int .i64 half, .int .i64 gen, .int .i64 used]) rfl Qs rfl rfl rfl (oC rfl (oC rfl (oC rfl Qk))) k21 rfl (nB rfl) rfl) rfl ?_
     rintro _ W54 ⟨k56, o55⟩
     replace k53 := k53.other o55 n26
     clear k21
     replace h1 := h1.only o55 (.head _)
     replace h2 := h2.only o55 (.head _)
     replace hB := o55.below hB l27
     refine Pu rfl (Ni (hK51 ?_))
     exact WC.ret fun a_ ha_ => hQ (Xh rfl (.agg rfl Qf k53.range rfl) (.agg rfl Qq k56.range rfl) (.tmp rfl) (by have hdn : Qc = false := (by first | assumption | simp_all); subst hdn; have hck := Vy hr1 hr2; have hl_ : ¬ ZS (Qb.length : Int) half gen used = 0 := (fun h_ => by have := hlb.2 h_; simp_all); rw [Hf hck hl_, Qfr hl_]; exact ⟨_, _, rfl, (h1.less (fun x hx => (.tail _ (.tail _ (.tail _ (.tail _ hx)))))), (h2.less (fun x hx => (.tail _ (.tail _ (.tail _ (.tail _ hx))))))⟩) hB ha_)
   .
    replace c50 := Q2 c50
    refine WC.skip (hK28 (Sq fun K57 hK57 => ?_))
    have hlg : ZS (Qb.length : Int) half gen used = 0 := hlb.1 (by first | assumption | simp_all)
    obtain ⟨hl1, hl2, hl3, hl4, hl5⟩ := E6 hlg
    refine Rg (Pu rfl (Ni (hK57 (Sq fun K58 hK58 => (Sq fun K59 hK59 => (Rg (Pu rfl ?_)))))))
    refine Ni (hK59 (WC.block ?_))
    refine WC.loop (fun (i : Nat) => [(2, rv), (3, .pointer (some ⟨w.heap.size, 0, none⟩)), (4, .pointer (some ⟨W2.heap.size, 0, none⟩)), (6, .pointer (some ⟨W7.heap.size, 0, none⟩)), (7, .pointer (some ⟨W13.heap.size, 0, none⟩)), (8, .int .i64 0), (10, .int .i64 (i : Int)), (9, .int .i64 (1 + (Qz ((rs.take i).map Prod.fst) : Int)))]) (fun (i : Nat) W => i <= rs.length /\ (∀ r ∈ rs.take i, r.1.length <= 4096) /\ Below w.heap.size w W /\ LL (W13.heap.size :: W7.heap.size :: W2.heap.size :: w.heap.size :: L) W /\ QD 128 (W13.heap.size :: W7.heap.size :: W2.heap.size :: w.heap.size :: L) W s1 (Qb.map Qr) /\ QD 129 (W13.heap.size :: W7.heap.size :: W2.heap.size :: w.heap.size :: L) W s2 (Qa.map QG) /\ QD 1 (W13.heap.size :: W7.heap.size :: W2.heap.size :: w.heap.size :: L) W rv (rs.map YV) /\ Ya (W13.heap.size :: W7.heap.size :: W2.heap.size :: w.heap.size :: L) W rs /\ Xc W w.heap.size [s1, s2, .int .i64 Qd, .bool Qc] /\ Xc W W2.heap.size [.int .i64 half, .int .i64 gen, .int .i64 used] /\ Xc W W7.heap.size [.slice none 0 0, .slice none 0 0, .int .i64 0, .bool false] /\ Xc W W13.heap.size [.int .i64 0, .int .i64 0, .int .i64 0]) (fun (i : Nat) => rs.length - i) 0 (by repeat first | exact trivial | refine aR ?_ | refine aI (by omega) ?_) ⟨Nat.zero_le _, (fun r hr => by cases hr), hB, hL, h1, h2, h3, hrs, k3, k8, k14, k21⟩ ?_
    clear h1 h2 h3 hrs k3 k8 k14 k21 hB hL
    rintro K60 i W61 ⟨hi, hsm, hB, hL, h1, h2, h3, hrs, k3, k8, k14, k21⟩ hK60
    refine Sq fun K62 hK62 => (Sq fun K63 hK63 => (Rg (Pu rfl (Pu rfl (Va (QT rfl XO rfl h3) rfl rfl (Va (Xe rfl rfl rfl) rfl rfl (Ni ?_)))))))
    refine hK63 ?_
    refine WC.cond rfl (fun c64 => ?_) (fun c64 => ?_)
    .
     replace c64 := dT c64
     refine WC.skip (hK62 (Sq fun K65 hK65 => (WC.block (Sq fun K66 hK66 => (Sq fun K67 hK67 => ?_)))))
     obtain ⟨r68, e69⟩ : ∃ x, rs[i]? = some x := ⟨_, List.getElem?_eq_getElem (by omega)⟩
     have hrm := List.mem_of_getElem? e69
     have hrl := (hrb r68 hrm).2
     refine Rg (Pu rfl (Pu rfl ?_))
     refine Ge (XH i rfl XO rfl rfl h3 (by omega) (XG (enc := YV) e69)) rfl rfl ?_
     rintro u70 _ ⟨rfl, p71⟩
     refine Va (Zn rfl XR rfl p71) rfl rfl (Va (ZX (Ym rfl QH rfl (hrs0 r68 hrm)) (show _ = Value.int .i64 (r68.1.length : Int) by rw [List.length_map])) rfl rfl (Va (XL rfl rfl rfl) rfl rfl (Ni (hK67 ?_))))
     refine WC.cond rfl (fun c72 => ?_) (fun c72 => ?_)
     .
      replace c72 := dT c72
      refine Sq fun K73 hK73 => ?_
      refine WC.drawC 3 [(2, W7.heap.size, [.slice none 0 0, .slice none 0 0, .int .i64 0, .bool false], fun cs_ _ => cs_ = [s1, s2, .int .i64 Qd, .bool Qc])] [(some 44, .is (.agg #[s1, s2, .int .i64 Qd, .bool Qc])), (some 45, .is (.agg #[.int .i64 half, .int .i64 gen, .int .i64 used])), (none, .by fun _ _ => True)] [[], [], [0, 0]] ⟨fun _ _ _ _ h => h, trivial⟩ (mA ⟨fun _ _ _ _ h => h, trivial⟩) ⟨fun x hx => (by cases hx), trivial⟩ (Xo (mA ⟨_, rfl⟩)) (mA k14) ?_ ?_
      .
       refine Ql.cons rfl (fun Wd hd hbs_ => ?_) ?_
       .
        have k3 := k3.chgM hd (by simp only [List.map_cons, List.map_nil, List.mem_cons, List.not_mem_nil, or_false, not_or]; exact n17)
        exact Dd (Qg rfl Qf rfl k3.range rfl) rfl
       refine Ql.cons rfl (fun Wd hd hbs_ => ?_) ?_
       .
        have k8 := k8.chgM hd (by simp only [List.map_cons, List.map_nil, List.mem_cons, List.not_mem_nil, or_false, not_or]; exact n18)
        exact Dd (Qg rfl Qq rfl k8.range rfl) rfl
       refine Ql.hit rfl (fun Wd hd hb_ => ?_) ?_
       .
        have h1 := h1.chgM hd (mA (.tail _ (.head _)))
        have h2 := h2.chgM hd (mA (.tail _ (.head _)))
        exact (Qx (vs := [s1, s2, .int .i64 Qd, .bool Qc]) rfl Qj rfl rfl rfl (oC h1.one (oC h2.one (oC rfl (oC rfl Qk)))) hb_ rfl rfl).mono (fun _ W' h => ⟨h.2, Xj.is h.1, trivial⟩)
       exact trivial
      .
       intro W74 hd hq_
       replace h1 := h1.chgM hd (mA (.tail _ (.head _)))
       replace h2 := h2.chgM hd (mA (.tail _ (.head _)))
       replace h3 := h3.chgM hd (mA (.tail _ (.head _)))
       replace hrs := hrs.chgM hd (mA (.tail _ (.head _)))
       replace k3 := k3.chgM hd (by simp only [List.map_cons, List.map_nil, List.mem_cons, List.not_mem_nil, or_false, not_or]; exact n17)
       replace k8 := k8.chgM hd (by simp only [List.map_cons, List.map_nil, List.mem_cons, List.not_mem_nil, or_false, not_or]; exact n18)
       replace k21 := k21.chgM hd (by simp only [List.map_cons, List.map_nil, List.mem_cons, List.not_mem_nil, or_false, not_or]; exact n26.symm)
       have k75 := hq_ _ (.head _)
       replace k75 := Xj.blk k75
       replace hB := hd.toBelow hB (mA l19)
       replace hL := hL.chgM hd
       intro _ _
       refine WL.do (Qh (cs' := [.int .i64 half, .int .i64 gen, .int .i64 used]) (vs := [.int .i64 half, .int .i64 gen, .int .i64 used]) rfl Qs rfl rfl rfl (oC rfl (oC rfl (oC rfl Qk))) k21 rfl (nB rfl) rfl) rfl ?_
       rintro _ W76 ⟨k78, o77⟩
       replace k75 := k75.other o77 n26
       clear k21
       replace h1 := h1.only o77 (.head _)
       replace h2 := h2.only o77 (.head _)
       replace hB := o77.below hB l27
       refine Pu rfl (Ni (hK73 ?_))
       exact WC.ret fun a_ ha_ => hQ (Xh rfl (.agg rfl Qf k75.range rfl) (.agg rfl Qq k78.range rfl) (.tmp rfl) (by have hdn : Qc = false := (by first | assumption | simp_all); subst hdn; have hck := Vy hr1 hr2; rw [Hh hck hlg (D3 (List.mem_map_of_mem (f := Prod.fst) hrm) (by omega))]; exact ⟨_, _, rfl, (h1.less (fun x hx => (.tail _ (.tail _ (.tail _ (.tail _ hx)))))), (h2.less (fun x hx => (.tail _ (.tail _ (.tail _ (.tail _ hx))))))⟩) hB ha_)
     .
      replace c72 := dF c72
      refine WC.skip (hK66 ?_)
      have hsz : ZD (r68.1.length : Int) = (Z2 r68.1 : Int) := Ja (by omega)
      have hcs : Qz ((rs.take (i + 1)).map Prod.fst) = Qz ((rs.take i).map Prod.fst) + Z2 r68.1 := by rw [<- ZJ, List.take_add_one, e69, List.map_append]; rfl
      have hcl := Qaf (l := (rs.take i).map Prod.fst) (fun r_ hr_ => by obtain ⟨x_, hx_, rfl⟩ := List.mem_map.1 hr_; exact hsm x_ hx_)
      rw [List.length_map] at hcl
      have hcl2 := List.length_take_le i rs
      have hsd := GD (r68.1.length : Int)
      refine Rg (Pu rfl (Pu rfl (Pu rfl ?_)))
      refine Ge (XH i rfl XO rfl rfl h3 (by omega) (XG (enc := YV) e69)) rfl rfl ?_
      rintro u79 _ ⟨rfl, p80⟩
      refine Va (Zn rfl XR rfl p80) rfl rfl (Va (ZX (Ym rfl QH rfl (hrs0 r68 hrm)) (show _ = Value.int .i64 (r68.1.length : Int) by rw [List.length_map])) rfl rfl ?_)
      refine Ge (QQ rfl Tryd.func23 rfl rfl rfl (DB ((r68.1.length : Nat) : Int) W61 [] (LL.nil _) (by omega))) rfl rfl ?_
      rintro _ W82 ⟨rfl, b81⟩
      replace h1 := h1.below b81
      replace h2 := h2.below b81
      replace h3 := h3.below b81
      replace hrs := hrs.below b81
      replace k3 := k3.below b81
      replace k8 := k8.below b81
      replace k14 := k14.below b81
      replace k21 := k21.below b81
      replace hB := Qe hB b81
      replace hL := LL.below hL b81
      refine Va (QR (r := 1 + (Qz ((rs.take (i + 1)).map Prod.fst) : Int)) rfl rfl rfl (by rw [Qm (by omega)]; omega)) rfl rfl (Pu rfl (Ni (hK65 (Rg (Pu rfl (Va (QR (r := (i : Int) + 1) rfl rfl rfl (Qm (by omega))) rfl rfl (Pu rfl ?_)))))))
      refine Ni ?_
      exact hK60 (i + 1) ⟨(by omega), (fun r_ hr_ => by rw [List.take_add_one, e69] at hr_; rcases List.mem_append.1 hr_ with h_ | h_; exact hsm r_ h_; simp only [Option.toList_some, List.mem_singleton] at h_; rw [h_]; omega), hB, hL, h1, h2, h3, hrs, k3, k8, k14, k21⟩ (by omega) (by repeat first | exact trivial | refine aR ?_ | refine aI (by omega) ?_)
    .
     replace c64 := dF c64
     refine WC.exit ?_
     refine hK58 (Sq fun K83 hK83 => (Sq fun K84 hK84 => ?_))
     have hie : i = rs.length := by omega
     have hsa : ∀ r ∈ rs.map Prod.fst, r.length <= 4096 := fun r_ hr_ => by obtain ⟨x_, hx_, rfl⟩ := List.mem_map.1 hr_; exact hsm x_ (by rw [List.take_of_length_le (by omega)]; exact hx_)
     have hcie : Qz ((rs.take i).map Prod.fst) = Qz (rs.map Prod.fst) := by rw [List.take_of_length_le (by omega)]
     rw [hcie]
     refine Rg (Pu rfl (Va (Qn (o1 := 0) rfl QE rfl rfl) rfl rfl (Va (Qi rfl Q7 rfl (k3.cell (k := 0) rfl)) rfl rfl (Va (QT rfl QW rfl h1) rfl rfl (Va (Y3 (r := (Qb.length : Int) / 2) rfl rfl rfl (by omega) (by rw [Int.tdiv_eq_ediv_of_nonneg (by omega)]; exact (Qm (by omega)))) rfl rfl (Va (XL rfl rfl rfl) rfl rfl (Ni ?_)))))))
     refine hK84 ?_
     refine WC.cond rfl (fun c85 => ?_) (fun c85 => ?_)
     .
      replace c85 := dT c85
      refine Sq fun K86 hK86 => ?_
      refine WC.drawC 3 [(2, W7.heap.size, [.slice none 0 0, .slice none 0 0, .int .i64 0, .bool false], fun cs_ _ => cs_ = [s1, s2, .int .i64 Qd, .bool Qc])] [(some 60, .is (.agg #[s1, s2, .int .i64 Qd, .bool Qc])), (some 61, .is (.agg #[.int .i64 half, .int .i64 gen, .int .i64 used])), (none, .by fun _ _ => True)] [[], [], [0, 0]] ⟨fun _ _ _ _ h => h, trivial⟩ (mA ⟨fun _ _ _ _ h => h, trivial⟩) ⟨fun x hx => (by cases hx), trivial⟩ (Xo (mA ⟨_, rfl⟩)) (mA k14) ?_ ?_
      .
       refine Ql.cons rfl (fun Wd hd hbs_ => ?_) ?_
       .
        have k3 := k3.chgM hd (by simp only [List.map_cons, List.map_nil, List.mem_cons, List.not_mem_nil, or_false, not_or]; exact n17)
        exact Dd (Qg rfl Qf rfl k3.range rfl) rfl
       refine Ql.cons rfl (fun Wd hd hbs_ => ?_) ?_
       .
        have k8 := k8.chgM hd (by simp only [List.map_cons, List.map_nil, List.mem_cons, List.not_mem_nil, or_false, not_or]; exact n18)
        exact Dd (Qg rfl Qq rfl k8.range rfl) rfl
       refine Ql.hit rfl (fun Wd hd hb_ => ?_) ?_
       .
        have h1 := h1.chgM hd (mA (.tail _ (.head _)))
        have h2 := h2.chgM hd (mA (.tail _ (.head _)))
        exact (Qx (vs := [s1, s2, .int .i64 Qd, .bool Qc]) rfl Qj rfl rfl rfl (oC h1.one (oC h2.one (oC rfl (oC rfl Qk)))) hb_ rfl rfl).mono (fun _ W' h => ⟨h.2, Xj.is h.1, trivial⟩)
       exact trivial
      .
       intro W87 hd hq_
       replace h1 := h1.chgM hd (mA (.tail _ (.head _)))
       replace h2 := h2.chgM hd (mA (.tail _ (.head _)))
       replace h3 := h3.chgM hd (mA (.tail _ (.head _)))
       replace hrs := hrs.chgM hd (mA (.tail _ (.head _)))
       replace k3 := k3.chgM hd (by simp only [List.map_cons, List.map_nil, List.mem_cons, List.not_mem_nil, or_false, not_or]; exact n17)
       replace k8 := k8.chgM hd (by simp only [List.map_cons, List.map_nil, List.mem_cons, List.not_mem_nil, or_false, not_or]; exact n18)
       replace k21 := k21.chgM hd (by simp only [List.map_cons, List.map_nil, List.mem_cons, List.not_mem_nil, or_false, not_or]; exact n26.symm)
       have k88 := hq_ _ (.head _)
       replace k88 := Xj.blk k88
       replace hB := hd.toBelow hB (mA l19)
       replace hL := hL.chgM hd
       intro _ _
       refine WL.do (Qh (cs' := [.int .i64 half, .int .i64 gen, .int .i64 used]) (vs := [.int .i64 half, .int .i64 gen, .int .i64 used]) rfl Qs rfl rfl rfl (oC rfl (oC rfl (oC rfl Qk))) k21 rfl (nB rfl) rfl) rfl ?_
       rintro _ W89 ⟨k91, o90⟩
       replace k88 := k88.other o90 n26
       clear k21
       replace h1 := h1.only o90 (.head _)
       replace h2 := h2.only o90 (.head _)
       replace hB := o90.below hB l27
       refine Pu rfl (Ni (hK86 ?_))
       exact WC.ret fun a_ ha_ => hQ (Xh rfl (.agg rfl Qf k88.range rfl) (.agg rfl Qq k91.range rfl) (.tmp rfl) (by have hdn : Qc = false := (by first | assumption | simp_all); subst hdn; have hck := Vy hr1 hr2; rw [Hi hck hlg (UA hsa) (by omega)]; exact ⟨_, _, rfl, (h1.less (fun x hx => (.tail _ (.tail _ (.tail _ (.tail _ hx)))))), (h2.less (fun x hx => (.tail _ (.tail _ (.tail _ (.tail _ hx))))))⟩) hB ha_)
     .
      replace c85 := dF c85
      refine WC.skip (hK83 (Sq fun K92 hK92 => (Sq fun K93 hK93 => (Rg (Va (Qg rfl Qf rfl k3.range rfl) rfl rfl ?_)))))
      refine Ge (QQ rfl Tryd.func36 rfl rfl rfl (DE Qb Qa Qd Qc _ _ W61 _ hL h1 h2 hbd (by omega) (hR.below hB))) rfl rfl ?_
      rintro _ W95 ⟨rfl, b94⟩
      replace h1 := h1.below b94
      replace h2 := h2.below b94
      replace h3 := h3.below b94
      replace hrs := hrs.below b94
      replace k3 := k3.below b94
      replace k8 := k8.below b94
      replace k14 := k14.below b94
      replace k21 := k21.below b94
      replace hB := Qe hB b94
      replace hL := LL.below hL b94
      refine Va (XL rfl rfl rfl) rfl rfl (Ni (hK93 ?_))
      refine WC.cond rfl (fun c96 => ?_) (fun c96 => ?_)
      .
       replace c96 := dT c96
       refine Sq fun K97 hK97 => ?_
       refine WC.drawC 3 [(2, W7.heap.size, [.slice none 0 0, .slice none 0 0, .int .i64 0, .bool false], fun cs_ _ => cs_ = [s1, s2, .int .i64 Qd, .bool Qc])] [(some 65, .is (.agg #[s1, s2, .int .i64 Qd, .bool Qc])), (some 66, .is (.agg #[.int .i64 half, .int .i64 gen, .int .i64 used])), (none, .by fun _ _ => True)] [[], [], [0, 0]] ⟨fun _ _ _ _ h => h, trivial⟩ (mA ⟨fun _ _ _ _ h => h, trivial⟩) ⟨fun x hx => (by cases hx), trivial⟩ (Xo (mA ⟨_, rfl⟩)) (mA k14) ?_ ?_
       .
        refine Ql.cons rfl (fun Wd hd hbs_ => ?_) ?_
        .
         have k3 := k3.chgM hd (by simp only [List.map_cons, List.map_nil, List.mem_cons, List.not_mem_nil, or_false, not_or]; exact n17)
         exact Dd (Qg rfl Qf rfl k3.range rfl) rfl
        refine Ql.cons rfl (fun Wd hd hbs_ => ?_) ?_
        .
         have k8 := k8.chgM hd (by simp only [List.map_cons, List.map_nil, List.mem_cons, List.not_mem_nil, or_false, not_or]; exact n18)
         exact Dd (Qg rfl Qq rfl k8.range rfl) rfl
        refine Ql.hit rfl (fun Wd hd hb_ => ?_) ?_
        .
         have h1 := h1.chgM hd (mA (.tail _ (.head _)))
         have h2 := h2.chgM hd (mA (.tail _ (.head _)))
         exact (Qx (vs := [s1, s2, .int .i64 Qd, .bool Qc]) rfl Qj rfl rfl rfl (oC h1.one (oC h2.one (oC rfl (oC rfl Qk)))) hb_ rfl rfl).mono (fun _ W' h => ⟨h.2, Xj.is h.1, trivial⟩)
        exact trivial
       .
        intro W98 hd hq_
        replace h1 := h1.chgM hd (mA (.tail _ (.head _)))
        replace h2 := h2.chgM hd (mA (.tail _ (.head _)))
        replace h3 := h3.chgM hd (mA (.tail _ (.head _)))
        replace hrs := hrs.chgM hd (mA (.tail _ (.head _)))
        replace k3 := k3.chgM hd (by simp only [List.map_cons, List.map_nil, List.mem_cons, List.not_mem_nil, or_false, not_or]; exact n17)
        replace k8 := k8.chgM hd (by simp only [List.map_cons, List.map_nil, List.mem_cons, List.not_mem_nil, or_false, not_or]; exact n18)
        replace k21 := k21.chgM hd (by simp only [List.map_cons, List.map_nil, List.mem_cons, List.not_mem_nil, or_false, not_or]; exact n26.symm)
        have k99 := hq_ _ (.head _)
        replace k99 := Xj.blk k99
        replace hB := hd.toBelow hB (mA l19)
        replace hL := hL.chgM hd
        intro _ _
        refine WL.do (Qh (cs' := [.int .i64 half, .int .i64 gen, .int .i64 used]) (vs := [.int .i64 half, .int .i64 gen, .int .i64 used]) rfl Qs rfl rfl rfl (oC rfl (oC rfl (oC rfl Qk))) k21 rfl (nB rfl) rfl) rfl ?_
        rintro _ W100 ⟨k102, o101⟩
        replace k99 := k99.other o101 n26
        clear k21
        replace h1 := h1.only o101 (.head _)
        replace h2 := h2.only o101 (.head _)
        replace hB := o101.below hB l27
        refine Pu rfl (Ni (hK97 ?_))
        exact WC.ret fun a_ ha_ => hQ (Xh rfl (.agg rfl Qf k99.range rfl) (.agg rfl Qq k102.range rfl) (.tmp rfl) (by have hdn : Qc = false := (by first | assumption | simp_all); subst hdn; have hck := Vy hr1 hr2; rw [JO hck hlg (UA hsa) (by omega) (by rw [Qcu (by omega)]; show ¬ (5 : Int) = 0; decide), Qcu (by omega)]; exact ⟨_, _, rfl, (h1.less (fun x hx => (.tail _ (.tail _ (.tail _ (.tail _ hx)))))), (h2.less (fun x hx => (.tail _ (.tail _ (.tail _ (.tail _ hx))))))⟩) hB ha_)
      .
       replace c96 := dF c96
       refine WC.skip (hK92 (Sq fun K103 hK103 => ?_))
       have hq2 : 1 - half = 0 \/ 1 - half = 1 := by omega
       refine WC.drawQ 16 ⟨14, 12, 11, fun u W => UG W95.heap.size 25 4 u W, fun u W => KX (W13.heap.size :: W7.heap.size :: W2.heap.size :: w.heap.size :: L) W95.heap.size 25 (XA Qb Qa Qd Qc (1 - half) (XF Qb Qa Qc Qb.length + 1) (rs.map Prod.fst)).1 u W, EJ W95.heap.size 25 4⟩ ⟨15, 13, 12, fun u W => UG W95.heap.size 30 3 u W, fun u W => Ks W95.heap.size 30 [.int .i64 ((XA Qb Qa Qd Qc (1 - half) (XF Qb Qa Qc Qb.length + 1) (rs.map Prod.fst)).2.1), .int .i64 ((XA Qb Qa Qd Qc (1 - half) (XF Qb Qa Qc Qb.length + 1) (rs.map Prod.fst)).2.2.1), .int .i64 ((XA Qb Qa Qd Qc (1 - half) (XF Qb Qa Qc Qb.length + 1) (rs.map Prod.fst)).2.2.2)] u W, EJ W95.heap.size 30 3⟩ [(some 68, .is (.agg #[s1, s2, .int .i64 Qd, .bool Qc])), (some 69, .is (.pointer (some ⟨W2.heap.size, 0, none⟩))), (some 70, .is (.int .i64 half)), (some 71, .is (.int .i64 (1 - half))), (some 72, .is (.agg #[s1, s2, .int .i64 Qd, .bool Qc])), (some 73, .is (.int .i64 (XF Qb Qa Qc Qb.length + 1))), (some 74, .is (rv)), (some 75, .by fun u W => EK (W13.heap.size :: W7.heap.size :: W2.heap.size :: w.heap.size :: L) (XA Qb Qa Qd Qc (1 - half) (XF Qb Qa Qc Qb.length + 1) (rs.map Prod.fst)) u W), (some 67, .by fun u W => EK (W13.heap.size :: W7.heap.size :: W2.heap.size :: w.heap.size :: L) (XA Qb Qa Qd Qc (1 - half) (XF Qb Qa Qc Qb.length + 1) (rs.map Prod.fst)) u W), (some 76, .by fun u W => JS (W13.heap.size :: W7.heap.size :: W2.heap.size :: w.heap.size :: L) (XA Qb Qa Qd Qc (1 - half) (XF Qb Qa Qc Qb.length + 1) (rs.map Prod.fst)).1 u W), (some 77, .is (.agg #[.int .i64 ((XA Qb Qa Qd Qc (1 - half) (XF Qb Qa Qc Qb.length + 1) (rs.map Prod.fst)).2.1), .int .i64 ((XA Qb Qa Qd Qc (1 - half) (XF Qb Qa Qc Qb.length + 1) (rs.map Prod.fst)).2.2.1), .int .i64 ((XA Qb Qa Qd Qc (1 - half) (XF Qb Qa Qc Qb.length + 1) (rs.map Prod.fst)).2.2.2)])), (some 78, .is (.int .i64 ((XA Qb Qa Qd Qc (1 - half) (XF Qb Qa Qc Qb.length + 1) (rs.map Prod.fst)).1.err))), (some 11, .by fun u W => UG W95.heap.size 25 4 u W), (some 12, .by fun u W => UG W95.heap.size 30 3 u W), (none, .by fun _ _ => True), (none, .by fun _ _ => True)] [[], [], [1], [2], [], [4], [], [0, 3, 5, 6, 5], [7], [8], [8], [8], [], [], [12, 9, 7, 0, 1, 2, 3, 4, 5, 6, 7, 8, 9, 12, 13], [13, 10, 14, 0, 1, 2, 3, 4, 5, 6, 7, 8, 9, 10, 12, 13, 14]] (by kernel_rfl) (by kernel_rfl) (by kernel_rfl) (by kernel_rfl) (by kernel_rfl) (by kernel_rfl) (by kernel_rfl) ⟨fun _ _ _ hb h => h.below hb, fun _ _ _ hb h => h.below hb, fun _ _ _ hb h => h.below hb, fun _ _ _ hb h => h.below hb, fun _ _ _ hb h => h.below hb, fun _ _ _ _ h => h, fun _ _ _ _ h => h, trivial⟩ ⟨rfl, rfl, rfl, (show (14 : Nat) ≠ 12 by decide), (show (14 : Nat) < 16 by decide), ⟨fun _ _ _ hw h => h.wr hw (by decide), fun _ _ _ hw h => h.wr hw (by decide), fun _ _ _ hw h => h.wr' hw (by decide), fun _ _ _ hw h => h.wr hw, fun _ _ _ hw h => h.wrO' hw rfl, fun _ _ _ _ h => h, fun _ _ _ _ h => h, trivial⟩, fun _ _ _ hb h => h.below hb, fun _ _ hb hw => hw.below hb⟩ ⟨rfl, rfl, rfl, (show (15 : Nat) ≠ 13 by decide), (show (15 : Nat) < 16 by decide), ⟨fun _ _ _ hw h => h.wr hw (by decide), fun _ _ _ hw h => h.wr hw (by decide), fun _ _ _ hw h => h.wr' hw (by decide), fun _ _ _ hw h => h.wrO' hw rfl, fun _ _ _ hw h => h.wr hw, fun _ _ _ _ h => h, fun _ _ _ _ h => h, trivial⟩, fun _ _ _ hb h => h.below hb, fun _ _ hb hw => hw.below hb⟩ ⟨(show (14 : Nat) ≠ 15 by decide), (show (12 : Nat) ≠ 13 by decide), (show (14 : Nat) ≠ 13 by decide), (show (15 : Nat) ≠ 12 by decide)⟩ (fun _ _ _ hw h => h.wr hw rfl (by decide)) (fun _ _ _ hw h => h.wr hw rfl) ?_ ?_
       .
        refine XI.cons ⟨(show (0 : Nat) ≠ 14 by decide), (show (0 : Nat) ≠ 15 by decide)⟩ (fun Wd hd => ?_) ?_
        .
         have k3 := k3.below hd
         exact Dd (Qg rfl Qf rfl k3.range rfl) rfl
        refine XI.cons ⟨(show (1 : Nat) ≠ 14 by decide), (show (1 : Nat) ≠ 15 by decide)⟩ (fun Wd hd => ?_) ?_
        .
         exact Dd (Qn (o1 := 0) rfl ZC rfl rfl) rfl
        refine XI.cons ⟨(show (2 : Nat) ≠ 14 by decide), (show (2 : Nat) ≠ 15 by decide)⟩ (fun Wd hd => ?_) ?_
        .
         have k8 := k8.below hd
         exact Dd (Qi rfl Qv rfl (k8.cell (k := 0) rfl)) rfl
        refine XI.cons ⟨(show (3 : Nat) ≠ 14 by decide), (show (3 : Nat) ≠ 15 by decide)⟩ (fun Wd hd => ?_) ?_
        .
         exact Dd (Zm (r := 1 - half) rfl rfl rfl (Qm (by omega))) rfl
        refine XI.cons ⟨(show (4 : Nat) ≠ 14 by decide), (show (4 : Nat) ≠ 15 by decide)⟩ (fun Wd hd => ?_) ?_
        .
         have k3 := k3.below hd
         exact Dd (Qg rfl Qf rfl k3.range rfl) rfl
        refine XI.cons ⟨(show (5 : Nat) ≠ 14 by decide), (show (5 : Nat) ≠ 15 by decide)⟩ (fun Wd hd => ?_) ?_
        .
         have h1 := h1.below hd
         have h2 := h2.below hd
         exact DR.mono (QQ rfl Tryd.func36 rfl rfl rfl (DE Qb Qa Qd Qc _ _ Wd _ (LL.below hL hd) h1 h2 hbd (by omega) (hR.below (Qe hB hd)))) (fun v W' ⟨h, hb⟩ => ⟨hb, (by rw [h]; exact rfl)⟩)
        refine XI.cons ⟨(show (6 : Nat) ≠ 14 by decide), (show (6 : Nat) ≠ 15 by decide)⟩ (fun Wd hd => ?_) ?_
        .
         exact Dd (Qt rfl rfl) rfl
        refine XI.cons ⟨(show (7 : Nat) ≠ 14 by decide), (show (7 : Nat) ≠ 15 by decide)⟩ (fun Wd hd => ?_) ?_
        .
         have h1 := h1.below hd
         have h2 := h2.below hd
         have h3 := h3.below hd
         have hrs := hrs.below hd
         exact DR.mono (QQ rfl Tryd.func37 rfl rfl rfl (QeE Qb Qa Qd Qc _ _ (1 - half) (XF Qb Qa Qc Qb.length + 1) rs rv Wd _ (LL.below hL hd) h1 h2 h3 hrs hfu hq2 (by omega) (fun r hr => ⟨(hrb r hr).1, hsa _ (List.mem_map_of_mem hr)⟩) (by omega) (hR.below (Qe hB hd)))) (fun v W_ h => ⟨h.2, h.1⟩)
        refine XI.cons ⟨(show (8 : Nat) ≠ 14 by decide), (show (8 : Nat) ≠ 15 by decide)⟩ (fun Wd hd => ?_) ?_
        .
         intro u18_7 p18_7
         exact DV.dr (Qt rfl rfl) ⟨Below.refl _ _, p18_7⟩
        refine XI.cons ⟨(show (9 : Nat) ≠ 14 by decide), (show (9 : Nat) ≠ 15 by decide)⟩ (fun Wd hd => ?_) ?_
        .
         intro u18_8 p18_8
         obtain ⟨t1_, t2_, rfl, g1_, g2_⟩ := p18_8
         exact DV.dr (Zd rfl rfl rfl) ⟨Below.refl _ _, ⟨t1_, t2_, rfl, g1_, g2_⟩⟩
        refine XI.cons ⟨(show (10 : Nat) ≠ 14 by decide), (show (10 : Nat) ≠ 15 by decide)⟩ (fun Wd hd => ?_) ?_
        .
         intro u18_8 p18_8
         obtain ⟨t1_, t2_, rfl, g1_, g2_⟩ := p18_8
         exact Dd (Zd rfl rfl rfl) rfl
        refine XI.cons ⟨(show (11 : Nat) ≠ 14 by decide), (show (11 : Nat) ≠ 15 by decide)⟩ (fun Wd hd => ?_) ?_
        .
         intro u18_8 p18_8
         obtain ⟨t1_, t2_, rfl, g1_, g2_⟩ := p18_8
         exact Dd (Zd rfl rfl rfl) rfl
        refine XI.cons ⟨(show (12 : Nat) ≠ 14 by decide), (show (12 : Nat) ≠ 15 by decide)⟩ (fun Wd hd => ?_) ?_
        .
         exact (Ul (cs := [.slice none 0 0, .slice none 0 0, .int .i64 0, .bool false]) rfl QV rfl).mono (fun v W' h => ⟨h.1, (h.2 hd).newT rfl⟩)
        refine XI.cons ⟨(show (13 : Nat) ≠ 14 by decide), (show (13 : Nat) ≠ 15 by decide)⟩ (fun Wd hd => ?_) ?_
        .
         exact (Ul (cs := [.int .i64 0, .int .i64 0, .int .i64 0]) rfl Xv rfl).mono (fun v W' h => ⟨h.1, (h.2 hd).newT rfl⟩)
        refine XI.hitA rfl (fun Wd hd ut hut => ?_) ?_
        .
         intro u18_9 p18_9 u18_7 p18_7 u18_7 p18_7 u18_8 p18_8 u18_9 p18_9 u18_13 p18_13
         obtain ⟨va, vb, rfl, ka, kb⟩ := p18_9
         exact (Jk (vs := [va, vb, .int .i64 (XA Qb Qa Qd Qc (1 - half) (XF Qb Qa Qc Qb.length + 1) (rs.map Prod.fst)).1.Qd, .bool (XA Qb Qa Qd Qc (1 - half) (XF Qb Qa Qc Qb.length + 1) (rs.map Prod.fst)).1.Qc]) rfl Qj rfl hut rfl rfl (oC ka.one (oC kb.one (oC rfl (oC rfl Qk)))) rfl).mono (fun v W' h => ⟨h.1, va, vb, h.2, ka.wr h.1 (by decide), kb.wr h.1 (by decide)⟩)
        refine XI.hitB ⟨(show (15 : Nat) ≠ 14 by decide), rfl⟩ (fun Wd hd ut hut => ?_) ?_
        .
         intro u18_14 p18_14 u18_7 p18_7 u18_8 p18_8 u18_9 p18_9 u18_12 p18_12 u18_14 p18_14
         exact (Jk (vs := [.int .i64 ((XA Qb Qa Qd Qc (1 - half) (XF Qb Qa Qc Qb.length + 1) (rs.map Prod.fst)).2.1), .int .i64 ((XA Qb Qa Qd Qc (1 - half) (XF Qb Qa Qc Qb.length + 1) (rs.map Prod.fst)).2.2.1), .int .i64 ((XA Qb Qa Qd Qc (1 - half) (XF Qb Qa Qc Qb.length + 1) (rs.map Prod.fst)).2.2.2)]) rfl Qs rfl hut rfl rfl (oC rfl (oC rfl (oC rfl Qk))) rfl).mono (fun v W' h => ⟨h.1, h.2⟩)
        exact trivial
       .
        rintro W104 hd _ _ - ⟨t105, t106, ⟨BQ12, rfl, g111, y113⟩, j107, j108⟩ - ⟨BQ13, rfl, g112, y114⟩
        have k109 := y113.blk
        have k110 := y114.blk
        intro _ _ _ _ _ _ _ _ _ _
        have n119 : W7.heap.size ≠ BQ12 := Nat.ne_of_lt (Nat.lt_of_lt_of_le k14.lt g111)
        have n120 : W7.heap.size ≠ BQ13 := Nat.ne_of_lt (Nat.lt_of_lt_of_le k14.lt g112)
        have n121 : W13.heap.size ≠ BQ12 := Nat.ne_of_lt (Nat.lt_of_lt_of_le k21.lt g111)
        have n122 : W13.heap.size ≠ BQ13 := Nat.ne_of_lt (Nat.lt_of_lt_of_le k21.lt g112)
        have n123 : BQ12 ≠ BQ13 := y113.ne y114 rfl
        replace h1 := h1.more (Below.refl _ _) g111
        replace h1 := h1.more hd g112
        replace h2 := h2.more (Below.refl _ _) g111
        replace h2 := h2.more hd g112
        replace h3 := h3.more (Below.refl _ _) g111
        replace h3 := h3.more hd g112
        replace hrs := hrs.more (Below.refl _ _) g111
        replace hrs := hrs.more hd g112
        replace k3 := k3.below hd
        replace k8 := k8.below hd
        replace k14 := k14.below hd
        replace k21 := k21.below hd
        replace j107 := (j107.offB k109 (by simp)).offB k110 (by simp)
        replace j108 := (j108.offB k109 (by simp)).offB k110 (by simp)
        have l124 := Nat.le_trans hB.size g111
        have l125 := Nat.le_trans hB.size g112
        replace hB := Qe hB hd
        replace hL := LL.cons (LL.cons (LL.below hL hd) k109.lt) k110.lt
        refine Pu rfl (Ni (hK103 (Sq fun K126 hK126 => (Sq fun K127 hK127 => (Rg (Pu rfl (Va (Xl rfl rfl rfl) rfl rfl ?_)))))))
        refine Ni (hK127 ?_)
        refine WC.cond rfl (fun c128 => ?_) (fun c128 => ?_)
        .
         replace c128 := Q4 c128
         replace c128 := dF c128
         refine Sq fun K129 hK129 => ?_
         refine WC.drawC 5 [(3, W7.heap.size, [.slice none 0 0, .slice none 0 0, .int .i64 0, .bool false], fun cs_ _ => cs_ = [t105, t106, .int .i64 ((XA Qb Qa Qd Qc (1 - half) (XF Qb Qa Qc Qb.length + 1) (rs.map Prod.fst)).1.Qd), .bool ((XA Qb Qa Qd Qc (1 - half) (XF Qb Qa Qc Qb.length + 1) (rs.map Prod.fst)).1.Qc)]), (4, W13.heap.size, [.int .i64 0, .int .i64 0, .int .i64 0], fun cs_ _ => cs_ = [.int .i64 half, .int .i64 gen, .int .i64 used])] [(some 81, .is (.agg #[t105, t106, .int .i64 ((XA Qb Qa Qd Qc (1 - half) (XF Qb Qa Qc Qb.length + 1) (rs.map Prod.fst)).1.Qd), .bool ((XA Qb Qa Qd Qc (1 - half) (XF Qb Qa Qc Qb.length + 1) (rs.map Prod.fst)).1.Qc)])), (some 82, .is (.agg #[.int .i64 half, .int .i64 gen, .int .i64 used])), (some 83, .is (.int .i64 ((XA Qb Qa Qd Qc (1 - half) (XF Qb Qa Qc Qb.length + 1) (rs.map Prod.fst)).1.err))), (none, .by fun _ _ => True), (none, .by fun _ _ => True)] [[], [], [], [0, 0], [1, 3, 0, 1, 3]] ⟨fun _ _ _ _ h => h, fun _ _ _ _ h => h, trivial⟩ (mB ⟨fun _ _ _ _ h => h, fun _ _ _ _ h => h, trivial⟩ ⟨fun _ _ _ _ h => h, fun _ _ _ _ h => h, trivial⟩) ⟨fun x hx => (by simp only [List.mem_cons, List.not_mem_nil, or_false] at hx; subst hx; exact ⟨(show ¬ ((4 : Nat) = 3) by decide), n26.symm⟩), ⟨fun x hx => (by cases hx), trivial⟩⟩ (Xo (mB ⟨_, rfl⟩ ⟨_, rfl⟩)) (mB k14 k21) ?_ ?_
         .
          refine Ql.cons rfl (fun Wd hd hbs_ => ?_) ?_
          .
           have k109 := k109.chgM hd (by simp only [List.map_cons, List.map_nil, List.mem_cons, List.not_mem_nil, or_false, not_or]; exact ⟨n119.symm, n121.symm⟩)
           exact Dd (Qg rfl Qf rfl k109.range rfl) rfl
          refine Ql.cons rfl (fun Wd hd hbs_ => ?_) ?_
          .
           have k8 := k8.chgM hd (by simp only [List.map_cons, List.map_nil, List.mem_cons, List.not_mem_nil, or_false, not_or]; exact ⟨n18, n25⟩)
           exact Dd (Qg rfl Qq rfl k8.range rfl) rfl
          refine Ql.cons rfl (fun Wd hd hbs_ => ?_) ?_
          .
           exact Dd (Qt rfl rfl) rfl
          refine Ql.hit rfl (fun Wd hd hb_ => ?_) ?_
          .
           have j107 := j107.chgM hd (mB (.tail _ (.tail _ (.tail _ (.head _)))) (.tail _ (.tail _ (.head _))))
           have j108 := j108.chgM hd (mB (.tail _ (.tail _ (.tail _ (.head _)))) (.tail _ (.tail _ (.head _))))
           exact (Qx (vs := [t105, t106, .int .i64 ((XA Qb Qa Qd Qc (1 - half) (XF Qb Qa Qc Qb.length + 1) (rs.map Prod.fst)).1.Qd), .bool ((XA Qb Qa Qd Qc (1 - half) (XF Qb Qa Qc Qb.length + 1) (rs.map Prod.fst)).1.Qc)]) rfl Qj rfl rfl rfl (oC j107.one (oC j108.one (oC rfl (oC rfl Qk)))) hb_ rfl rfl).mono (fun _ W' h => ⟨h.2, Xj.is h.1, trivial⟩)
          refine Ql.hit rfl (fun Wd hd hb_ => ?_) ?_
          .
           intro u20_3 p20_3 u20_3 p20_3
           exact (Qx (vs := [.int .i64 half, .int .i64 gen, .int .i64 used]) rfl Qs rfl rfl rfl (oC rfl (oC rfl (oC rfl Qk))) hb_ rfl rfl).mono (fun _ W' h => ⟨h.2, Xj.is h.1, trivial⟩)
          exact trivial
         .
          intro W130 hd hq_
          replace h1 := h1.chgM hd (mB (.tail _ (.tail _ (.tail _ (.head _)))) (.tail _ (.tail _ (.head _))))
          replace h2 := h2.chgM hd (mB (.tail _ (.tail _ (.tail _ (.head _)))) (.tail _ (.tail _ (.head _))))
          replace h3 := h3.chgM hd (mB (.tail _ (.tail _ (.tail _ (.head _)))) (.tail _ (.tail _ (.head _))))
          replace hrs := hrs.chgM hd (mB (.tail _ (.tail _ (.tail _ (.head _)))) (.tail _ (.tail _ (.head _))))
          replace j107 := j107.chgM hd (mB (.tail _ (.tail _ (.tail _ (.head _)))) (.tail _ (.tail _ (.head _))))
          replace j108 := j108.chgM hd (mB (.tail _ (.tail _ (.tail _ (.head _)))) (.tail _ (.tail _ (.head _))))
          replace k3 := k3.chgM hd (by simp only [List.map_cons, List.map_nil, List.mem_cons, List.not_mem_nil, or_false, not_or]; exact ⟨n17, n24⟩)
          replace k8 := k8.chgM hd (by simp only [List.map_cons, List.map_nil, List.mem_cons, List.not_mem_nil, or_false, not_or]; exact ⟨n18, n25⟩)
          replace k109 := k109.chgM hd (by simp only [List.map_cons, List.map_nil, List.mem_cons, List.not_mem_nil, or_false, not_or]; exact ⟨n119.symm, n121.symm⟩)
          replace k110 := k110.chgM hd (by simp only [List.map_cons, List.map_nil, List.mem_cons, List.not_mem_nil, or_false, not_or]; exact ⟨n120.symm, n122.symm⟩)
          have k131 := hq_ _ (.head _)
          replace k131 := Xj.blk k131
          have k132 := hq_ _ (.tail _ (.head _))
          replace k132 := Xj.blk k132
          replace hB := hd.toBelow hB (mB l19 l27)
          replace hL := hL.chgM hd
          intro _ _
          intro _ _
          refine Pu rfl (Ni (hK129 ?_))
          exact WC.ret fun a_ ha_ => hQ (Xh rfl (.agg rfl Qf k131.range rfl) (.agg rfl Qq k132.range rfl) (.tmp rfl) (by have hdn : Qc = false := (by first | assumption | simp_all); subst hdn; have hck := Vy hr1 hr2; have hls := Et (f := Qd) (q := 1 - half) (Q := (1 - half).toNat) (recs := rs.map Prod.fst) (Qa := Qa) hr1 (by omega) (by omega) (Qcv (by omega)) (by omega) (by omega); rw [JO hck hlg (UA hsa) (by omega) (by rw [<- hls]; exact (by first | assumption | exact Classical.not_not.1 (by assumption))), <- hls]; exact ⟨_, _, rfl, (j107.less (fun x hx => (.tail _ (.tail _ (.tail _ (.tail _ (.tail _ (.tail _ hx)))))))), (j108.less (fun x hx => (.tail _ (.tail _ (.tail _ (.tail _ (.tail _ (.tail _ hx))))))))⟩) hB ha_)
        .
         replace c128 := Q2 c128
         replace c128 := dT c128
         refine WC.skip (hK126 (Sq fun K133 hK133 => ?_))
         refine WC.drawC 3 [(2, W7.heap.size, [.slice none 0 0, .slice none 0 0, .int .i64 0, .bool false], fun cs_ _ => cs_ = [t105, t106, .int .i64 ((XA Qb Qa Qd Qc (1 - half) (XF Qb Qa Qc Qb.length + 1) (rs.map Prod.fst)).1.Qd), .bool ((XA Qb Qa Qd Qc (1 - half) (XF Qb Qa Qc Qb.length + 1) (rs.map Prod.fst)).1.Qc)])] [(some 84, .is (.agg #[t105, t106, .int .i64 ((XA Qb Qa Qd Qc (1 - half) (XF Qb Qa Qc Qb.length + 1) (rs.map Prod.fst)).1.Qd), .bool ((XA Qb Qa Qd Qc (1 - half) (XF Qb Qa Qc Qb.length + 1) (rs.map Prod.fst)).1.Qc)])), (some 85, .is (.agg #[.int .i64 ((XA Qb Qa Qd Qc (1 - half) (XF Qb Qa Qc Qb.length + 1) (rs.map Prod.fst)).2.1), .int .i64 ((XA Qb Qa Qd Qc (1 - half) (XF Qb Qa Qc Qb.length + 1) (rs.map Prod.fst)).2.2.1), .int .i64 ((XA Qb Qa Qd Qc (1 - half) (XF Qb Qa Qc Qb.length + 1) (rs.map Prod.fst)).2.2.2)])), (none, .by fun _ _ => True)] [[], [], [0, 0]] ⟨fun _ _ _ _ h => h, trivial⟩ (mA ⟨fun _ _ _ _ h => h, trivial⟩) ⟨fun x hx => (by cases hx), trivial⟩ (Xo (mA ⟨_, rfl⟩)) (mA k14) ?_ ?_
         .
          refine Ql.cons rfl (fun Wd hd hbs_ => ?_) ?_
          .
           have k109 := k109.chgM hd (by simp only [List.map_cons, List.map_nil, List.mem_cons, List.not_mem_nil, or_false, not_or]; exact n119.symm)
           exact Dd (Qg rfl Qf rfl k109.range rfl) rfl
          refine Ql.cons rfl (fun Wd hd hbs_ => ?_) ?_
          .
           have k110 := k110.chgM hd (by simp only [List.map_cons, List.map_nil, List.mem_cons, List.not_mem_nil, or_false, not_or]; exact n120.symm)
           exact Dd (Qg rfl Qq rfl k110.range rfl) rfl
          refine Ql.hit rfl (fun Wd hd hb_ => ?_) ?_
          .
           have j107 := j107.chgM hd (mA (.tail _ (.tail _ (.tail _ (.head _)))))
           have j108 := j108.chgM hd (mA (.tail _ (.tail _ (.tail _ (.head _)))))
           exact (Qx (vs := [t105, t106, .int .i64 ((XA Qb Qa Qd Qc (1 - half) (XF Qb Qa Qc Qb.length + 1) (rs.map Prod.fst)).1.Qd), .bool ((XA Qb Qa Qd Qc (1 - half) (XF Qb Qa Qc Qb.length + 1) (rs.map Prod.fst)).1.Qc)]) rfl Qj rfl rfl rfl (oC j107.one (oC j108.one (oC rfl (oC rfl Qk)))) hb_ rfl rfl).mono (fun _ W' h => ⟨h.2, Xj.is h.1, trivial⟩)
          exact trivial
         .
          intro W134 hd hq_
          replace h1 := h1.chgM hd (mA (.tail _ (.tail _ (.tail _ (.head _)))))
          replace h2 := h2.chgM hd (mA (.tail _ (.tail _ (.tail _ (.head _)))))
          replace h3 := h3.chgM hd (mA (.tail _ (.tail _ (.tail _ (.head _)))))
          replace hrs := hrs.chgM hd (mA (.tail _ (.tail _ (.tail _ (.head _)))))
          replace j107 := j107.chgM hd (mA (.tail _ (.tail _ (.tail _ (.head _)))))
          replace j108 := j108.chgM hd (mA (.tail _ (.tail _ (.tail _ (.head _)))))
          replace k3 := k3.chgM hd (by simp only [List.map_cons, List.map_nil, List.mem_cons, List.not_mem_nil, or_false, not_or]; exact n17)
          replace k8 := k8.chgM hd (by simp only [List.map_cons, List.map_nil, List.mem_cons, List.not_mem_nil, or_false, not_or]; exact n18)
          replace k21 := k21.chgM hd (by simp only [List.map_cons, List.map_nil, List.mem_cons, List.not_mem_nil, or_false, not_or]; exact n26.symm)
          replace k109 := k109.chgM hd (by simp only [List.map_cons, List.map_nil, List.mem_cons, List.not_mem_nil, or_false, not_or]; exact n119.symm)
          replace k110 := k110.chgM hd (by simp only [List.map_cons, List.map_nil, List.mem_cons, List.not_mem_nil, or_false, not_or]; exact n120.symm)
          have k135 := hq_ _ (.head _)
          replace k135 := Xj.blk k135
          replace hB := hd.toBelow hB (mA l19)
          replace hL := hL.chgM hd
          intro _ _
          refine WL.do (Qh (cs' := [.int .i64 ((XA Qb Qa Qd Qc (1 - half) (XF Qb Qa Qc Qb.length + 1) (rs.map Prod.fst)).2.1), .int .i64 ((XA Qb Qa Qd Qc (1 - half) (XF Qb Qa Qc Qb.length + 1) (rs.map Prod.fst)).2.2.1), .int .i64 ((XA Qb Qa Qd Qc (1 - half) (XF Qb Qa Qc Qb.length + 1) (rs.map Prod.fst)).2.2.2)]) (vs := [.int .i64 ((XA Qb Qa Qd Qc (1 - half) (XF Qb Qa Qc Qb.length + 1) (rs.map Prod.fst)).2.1), .int .i64 ((XA Qb Qa Qd Qc (1 - half) (XF Qb Qa Qc Qb.length + 1) (rs.map Prod.fst)).2.2.1), .int .i64 ((XA Qb Qa Qd Qc (1 - half) (XF Qb Qa Qc Qb.length + 1) (rs.map Prod.fst)).2.2.2)]) rfl Qs rfl rfl rfl (oC rfl (oC rfl (oC rfl Qk))) k21 rfl (nB rfl) rfl) rfl ?_
          rintro _ W136 ⟨k138, o137⟩
          replace k135 := k135.other o137 n26
          clear k21
          replace j107 := j107.only o137 (.tail _ (.tail _ (.head _)))
          replace j108 := j108.only o137 (.tail _ (.tail _ (.head _)))
          replace hB := o137.below hB l27
          refine Pu rfl (Ni (hK133 ?_))
          exact WC.ret fun a_ ha_ => hQ (Xh rfl (.agg rfl Qf k135.range rfl) (.agg rfl Qq k138.range rfl) (.tmp rfl) (by have hdn : Qc = false := (by first | assumption | simp_all); subst hdn; have hck := Vy hr1 hr2; have hls := Et (f := Qd) (q := 1 - half) (Q := (1 - half).toNat) (recs := rs.map Prod.fst) (Qa := Qa) hr1 (by omega) (by omega) (Qcv (by omega)) (by omega) (by omega); rw [Hg hck hlg (UA hsa) (by omega) (by rw [<- hls]; exact (by first | assumption | exact Classical.not_not.1 (by assumption))), <- hls]; exact ⟨_, _, G7 (by first | assumption | exact Classical.not_not.1 (by assumption)), (j107.less (fun x hx => (.tail _ (.tail _ (.tail _ (.tail _ (.tail _ (.tail _ hx)))))))), (j108.less (fun x hx => (.tail _ (.tail _ (.tail _ (.tail _ (.tail _ (.tail _ hx))))))))⟩) hB ha_)

set_option maxHeartbeats 1000000 in
theorem Dn (Qb : List (List Int)) (Qa : List (Int × List Int)) (Qd : Int) (Qc : Bool) (s1 s2 : Value) (half gen used : Int) (rs : List U6) (rv : Value) (w : World) (L : List Nat) (hL : LL L w) (h1 : QD 128 L w s1 (Qb.map Qr)) (h2 : QD 129 L w s2 (Qa.map QG)) (h3 : QD 1 L w rv (rs.map YV)) (hrs : Ya L w rs)  (hfu : -9223372036854775808 <= Qd /\ Qd <= 9223372036854775807) (hbd : YL Qb Qa) (hrg : ∀ r ∈ rs, Z0 r.1) (hul : -9223372036854775808 <= used /\ used <= 9223372036854775807) (hT : ZM w) (hR : U5 w) : CV Tryd.prog 5 [.agg #[s1, s2, .int .i64 Qd, .bool Qc], .agg #[.int .i64 half, .int .i64 gen, .int .i64 used], rv] w fun v W => v = .bool true := by
 have hrs0 := hrs
 refine QN (N := 72) (f := [(0, .agg #[s1, s2, .int .i64 Qd, .bool Qc]), (1, .agg #[.int .i64 half, .int .i64 gen, .int .i64 used]), (2, rv)]) Tryd.func5 rfl rfl rfl rfl fun Q hQ hE => ?_
 have hB := Below.refl w.heap.size w
 have h1m : Qb.length <= maxLen := by have := h1.len; rwa [List.length_map] at this
 unfold maxLen at h1m
 have h2m : Qa.length <= maxLen := by have := h2.len; rwa [List.length_map] at this
 unfold maxLen at h2m
 have h3m : rs.length <= maxLen := by have := h3.len; rwa [List.length_map] at this
 unfold maxLen at h3m
 refine Sq fun K1 hK1 => (Rg ?_)
 refine Ge (Xa rfl rfl rfl) rfl rfl ?_
 rintro _ W2 ⟨rfl, k3, b4, z5⟩
 have l6 := hB.size
 replace h1 := h1.more b4 (Nat.le_refl _)
 replace h2 := h2.more b4 (Nat.le_refl _)
 replace h3 := h3.more b4 (Nat.le_refl _)
 replace hrs := hrs.more b4 (Nat.le_refl _)
 replace hB := Qe hB b4
 replace hL := LL.more hL z5
 refine Ge (Xa rfl rfl rfl) rfl rfl ?_
 rintro _ W7 ⟨rfl, k8, b9, z10⟩
 have l12 := hB.size
 replace h1 := h1.more b9 (Nat.le_refl _)
 replace h2 := h2.more b9 (Nat.le_refl _)
 replace h3 := h3.more b9 (Nat.le_refl _)
 replace hrs := hrs.more b9 (Nat.le_refl _)
 replace k3 := k3.below b9
 replace hB := Qe hB b9
 replace hL := LL.more hL z10
 refine Pu rfl (Ni (hK1 (Sq fun K13 hK13 => (Sq fun K14 hK14 => (Rg ?_)))))
 refine Ge (QQ rfl Tryd.func9 rfl rfl rfl (Qem W7 [] (LL.nil _) (hT.below hB))) rfl rfl ?_
 rintro _ W16 ⟨rfl, b15⟩
 replace h1 := h1.below b15
 replace h2 := h2.below b15
 replace h3 := h3.below b15
 replace hrs := hrs.below b15
 replace k3 := k3.below b15
 replace k8 := k8.below b15
 replace hB := Qe hB b15
 replace hL := LL.below hL b15
 refine Va (XU rfl rfl) rfl rfl (Ni (hK14 (WC.condF rfl (WC.skip (hK13 (Sq fun K17 hK17 => (Rg ?_)))))))
 refine Pu rfl (Va (QT rfl XO rfl h3) rfl rfl (Pu rfl (Ni (hK17 (Sq fun K18 hK18 => (Sq fun K19 hK19 => (Rg ?_)))))))
 refine Pu rfl (Ni (hK19 (WC.block ?_)))
 refine WC.loop2 (fun (i : Nat) (n : Int) => [(2, rv), (3, .pointer (some ⟨w.heap.size, 0, none⟩)), (4, .pointer (some ⟨W2.heap.size, 0, none⟩)), (6, .bool false), (7, .int .i64 n), (8, .int .i64 (i : Int))]) (fun (i : Nat) (n : Int) W => i <= rs.length /\ 0 <= n /\ (n <= (rs.length : Int) \/ n <= 19000) /\ (∀ r ∈ rs.take i, (r.1.length : Int) <= n \/ 10000 <= n) /\ ((rs.length : Int) <= n) /\ Below w.heap.size w W /\ LL (W2.heap.size :: w.heap.size :: L) W /\ QD 128 (W2.heap.size :: w.heap.size :: L) W s1 (Qb.map Qr) /\ QD 129 (W2.heap.size :: w.heap.size :: L) W s2 (Qa.map QG) /\ QD 1 (W2.heap.size :: w.heap.size :: L) W rv (rs.map YV) /\ Ya (W2.heap.size :: w.heap.size :: L) W rs /\ Xc W w.heap.size [s1, s2, .int .i64 Qd, .bool Qc] /\ Xc W W2.heap.size [.int .i64 half, .int .i64 gen, .int .i64 used]) (fun (i : Nat) (n : Int) => rs.length - i) 0 (rs.length : Int) (by repeat first | exact trivial | refine aR ?_ | refine aI (by omega) ?_) ⟨Nat.zero_le _, (by omega), (.inl (Int.le_refl _)), (fun r hr => by cases hr), (Int.le_refl _), hB, hL, h1, h2, h3, hrs, k3, k8⟩ ?_
 clear h1 h2 h3 hrs k3 k8 hB hL
 rintro K20 i n W21 ⟨hi, hn0, hn1, hnl, hnr, hB, hL, h1, h2, h3, hrs, k3, k8⟩ hK20
 refine Sq fun K22 hK22 => (Sq fun K23 hK23 => (Rg (Pu rfl (Pu rfl (Va (QT rfl XO rfl h3) rfl rfl (Va (Xe rfl rfl rfl) rfl rfl (Pu rfl ?_)))))))
 refine WL.split 23 rfl (fun g24 => ?_) (fun g24 => ?_)
 .
  replace g24 := dT g24
  refine Pu rfl (Va (Hc rfl rfl rfl) rfl rfl (Pu rfl (Ni (hK23 ?_))))
  refine WC.cond rfl (fun c25 => ?_) (fun c25 => ?_)
  .
   replace c25 := dT c25
   refine WC.skip (hK22 (Sq fun K26 hK26 => (WC.block ?_)))
   have hge := List.getElem?_eq_getElem (l := rs) (i := i) (by omega)
   refine Rg (Pu rfl (Pu rfl (Pu rfl ?_)))
   obtain ⟨r27, e28⟩ : ∃ x, rs[i]? = some x := ⟨_, List.getElem?_eq_getElem (by omega)⟩
   refine Ge (XH i rfl XO rfl rfl h3 (by omega) (XG (enc := YV) e28)) rfl rfl ?_
   rintro u29 _ ⟨rfl, p30⟩
   refine Va (Zn rfl XR rfl p30) rfl rfl (Va (ZX (Ym rfl QH rfl (hrs0 r27 (List.mem_of_getElem? e28))) (show _ = Value.int .i64 (r27.1.length : Int) by rw [List.length_map])) rfl rfl ?_)
   obtain ⟨mn, hmn, hmn2⟩ : ∃ m_ : Int, m_ = (if (10000 : Int) < (r27.1.length : Int) then 10000 else (r27.1.length : Int)) /\ (m_ = r27.1.length /\ m_ <= 10000 \/ m_ = 10000) := ⟨_, rfl, by split <;> omega⟩
   refine Va (ZX (Fz rfl rfl rfl) (congrArg (Value.int .i64) hmn.symm)) rfl rfl (Va (QR (r := n + mn) rfl rfl rfl (Qm (by omega))) rfl rfl (Pu rfl (Ni (hK26 (Rg (Pu rfl (Va (QR (r := (i : Int) + 1) rfl rfl rfl (Qm (by omega))) rfl rfl ?_)))))))
   refine Pu rfl (Ni ?_)
   exact hK20 (i + 1) (n + mn) ⟨(by omega), (by omega), (by omega), (fun r_ hr_ => by rw [List.take_add_one, e28] at hr_; rcases List.mem_append.1 hr_ with h_ | h_; (have := hnl r_ h_; omega); simp only [Option.toList_some, List.mem_singleton] at h_; rw [h_]; omega), (by omega), hB, hL, h1, h2, h3, hrs, k3, k8⟩ (by omega) (by repeat first | exact trivial | refine aR ?_ | refine aI (by omega) ?_)
  .
   replace c25 := dF c25
   refine WC.exit ?_
   refine hK18 (Sq fun K31 hK31 => (Sq fun K32 hK32 => (Rg (Va (Qg rfl Qf rfl k3.range rfl) rfl rfl ?_))))
   refine Ge (QQ rfl Tryd.func10 rfl rfl rfl (D6 Qb Qa Qd Qc _ _ W21 _ hL h1 h2)) rfl rfl ?_
   rintro _ W34 ⟨⟨gb, rfl, hgb⟩, b33⟩
   replace h1 := h1.below b33
   replace h2 := h2.below b33
   replace h3 := h3.below b33
   replace hrs := hrs.below b33
   replace k3 := k3.below b33
   replace k8 := k8.below b33
   replace hB := Qe hB b33
   replace hL := LL.below hL b33
   refine Pu rfl ?_
   refine WL.split 39 rfl (fun g35 => ?_) (fun g35 => ?_)
   .
    refine Of rfl (Of rfl (Pu rfl (Ni (hK32 (WC.condT rfl (Sq fun K36 hK36 => (Rg ?_)))))))
    refine Pu rfl (Ni (hK36 ?_))
    exact WC.ret fun a_ ha_ => hQ (QI rfl (.tmp rfl) rfl hB ha_)
   .
    replace g35 := ZY g35
    refine Pu rfl (Va (XL rfl rfl rfl) rfl rfl (Pu rfl (Ni (hK32 ?_))))
    refine WC.cond rfl (fun c37 => ?_) (fun c37 => ?_)
    .
     replace c37 := dT c37
     refine Sq fun K38 hK38 => (Rg (Pu rfl (Ni (hK38 ?_))))
     exact WC.ret fun a_ ha_ => hQ (QI rfl (.tmp rfl) rfl hB ha_)
    .
     replace c37 := dF c37
     refine WC.skip (hK31 (Sq fun K39 hK39 => ?_))
     have hgs := hgb (by first | assumption | simp_all)
     have hie : i = rs.length := by omega
     have hsb : ∀ r ∈ rs, Z0 r.1 /\ r.1.length <= 1000000 := fun r_ hr_ => ⟨hrg r_ hr_, by have := hnl r_ (by rw [List.take_of_length_le (by omega)]; exact hr_); omega⟩
     refine Rg (Va (Qg rfl Qf rfl k3.range rfl) rfl rfl (Va (Qg rfl Qq rfl k8.range rfl) rfl rfl (Pu rfl ?_)))
     refine Ge (QQ rfl Tryd.func24 rfl rfl rfl (HY Qb Qa Qd Qc _ _ half gen used rs _ W34 _ hL h1 h2 h3 hrs hfu hbd hsb (by omega) hul (hT.below hB))) rfl rfl ?_
     rintro _ W41 ⟨⟨a1, a2, rfl, ag1, ag2⟩, b40⟩
     replace h1 := h1.below b40
     replace h2 := h2.below b40
     replace h3 := h3.below b40
     replace hrs := hrs.below b40
     replace k3 := k3.below b40
     replace k8 := k8.below b40
     replace hB := Qe hB b40
     replace hL := LL.below hL b40
     refine Pu rfl (Pu rfl (Pu rfl (Pu rfl ?_)))
     refine Ge (Qu rfl QV rfl) rfl rfl ?_
     rintro _ W42 ⟨rfl, k43, b44, z45⟩
     have n46 : w.heap.size ≠ W41.heap.size := Nat.ne_of_lt k3.lt
     have n47 : W2.heap.size ≠ W41.heap.size := Nat.ne_of_lt k8.lt
     have l48 := hB.size
     replace h1 := h1.more b44 (Nat.le_refl _)
     replace h2 := h2.more b44 (Nat.le_refl _)
     replace h3 := h3.more b44 (Nat.le_refl _)
     replace hrs := hrs.more b44 (Nat.le_refl _)
     replace ag1 := ag1.more b44 (Nat.le_refl _)
     replace ag2 := ag2.more b44 (Nat.le_refl _)
     replace k3 := k3.below b44
     replace k8 := k8.below b44
     replace hB := Qe hB b44
     replace hL := LL.more hL z45
     refine Ge (Qu rfl Xv rfl) rfl rfl ?_
     rintro _ W49 ⟨rfl, k50, b51, z52⟩
     have n53 : w.heap.size ≠ W42.heap.size := Nat.ne_of_lt k3.lt
     have n54 : W2.heap.size ≠ W42.heap.size := Nat.ne_of_lt k8.lt
     have n55 : W41.heap.size ≠ W42.heap.size := Nat.ne_of_lt k43.lt
     have l56 := hB.size
     replace h1 := h1.more b51 (Nat.le_refl _)
     replace h2 := h2.more b51 (Nat.le_refl _)
     replace h3 := h3.more b51 (Nat.le_refl _)
     replace hrs := hrs.more b51 (Nat.le_refl _)
     replace ag1 := ag1.more b51 (Nat.le_refl _)
     replace ag2 := ag2.more b51 (Nat.le_refl _)
     replace k3 := k3.below b51
     replace k8 := k8.below b51
     replace k43 := k43.below b51
     replace hB := Qe hB b51
     replace hL := LL.more hL z52
     refine WL.do (Qh (cs' := [a1, a2, .int .i64 ((Qy Qb Qa Qd Qc half gen used (rs.map Prod.fst)).1.Qd), .bool ((Qy Qb Qa Qd Qc half gen used (rs.map Prod.fst)).1.Qc)]) (vs := [a1, a2, .int .i64 ((Qy Qb Qa Qd Qc half gen used (rs.map Prod.fst)).1.Qd), .bool ((Qy Qb Qa Qd Qc half gen used (rs.map Prod.fst)).1.Qc)]) rfl Qj rfl rfl rfl (oC ag1.one (oC ag2.one (oC rfl (oC rfl Qk)))) k43 rfl (nB rfl) rfl) rfl ?_
     rintro _ W57 ⟨k59, o58⟩
     replace k3 := k3.other o58 n46
     replace k8 := k8.other o58 n47
     replace k50 := k50.other o58 n55.symm
     clear k43
     replace h1 := h1.only o58 (.tail _ (.head _))
     replace h2 := h2.only o58 (.tail _ (.head _))
     replace h3 := h3.only o58 (.tail _ (.head _))
     replace hrs := hrs.only o58 (.tail _ (.head _))
     replace ag1 := ag1.only o58 (.tail _ (.head _))
     replace ag2 := ag2.only o58 (.tail _ (.head _))
     replace hB := o58.below hB l48
     replace hL := LL.only hL o58
     refine WL.do (Qh (cs' := [.int .i64 ((Qy Qb Qa Qd Qc half gen used (rs.map Prod.fst)).2.1), .int .i64 ((Qy Qb Qa Qd Qc half gen used (rs.map Prod.fst)).2.2.1), .int .i64 ((Qy Qb Qa Qd Qc half gen used (rs.map Prod.fst)).2.2.2)]) (vs := [.int .i64 ((Qy Qb Qa Qd Qc half gen used (rs.map Prod.fst)).2.1), .int .i64 ((Qy Qb Qa Qd Qc half gen used (rs.map Prod.fst)).2.2.1), .int .i64 ((Qy Qb Qa Qd Qc half gen used (rs.map Prod.fst)).2.2.2)]) rfl Qs rfl rfl rfl (oC rfl (oC rfl (oC rfl Qk))) k50 rfl (nB rfl) rfl) rfl ?_
     rintro _ W60 ⟨k62, o61⟩
     replace k3 := k3.other o61 n53
     replace k8 := k8.other o61 n54
     replace k59 := k59.other o61 n55
     clear k50
     replace h1 := h1.only o61 (.head _)
     replace h2 := h2.only o61 (.head _)
     replace h3 := h3.only o61 (.head _)
     replace hrs := hrs.only o61 (.head _)
     replace ag1 := ag1.only o61 (.head _)
     replace ag2 := ag2.only o61 (.head _)
     replace hB := o61.below hB l56
     replace hL := LL.only hL o61
     refine Pu rfl (Ni (hK39 (Sq fun K63 hK63 => (Rg (Va (Qg rfl Qf rfl k3.range rfl) rfl rfl (Va (Qg rfl Qq rfl k8.range rfl) rfl rfl (Pu rfl ?_)))))))
     refine Ge (QQ rfl Tryd.func25 rfl rfl rfl (GR Qb Qa Qd Qc _ _ half gen used rs _ W60 _ hL h1 h2 h3 hrs hfu hbd hsb (by omega) hul (by omega) (hR.below hB))) rfl rfl ?_
     rintro _ W65 ⟨⟨b1, b2, rfl, bg1, bg2⟩, b64⟩
     replace ag1 := ag1.below b64
     replace ag2 := ag2.below b64
     replace k59 := k59.below b64
     replace k62 := k62.below b64
     replace hB := Qe hB b64
     replace hL := LL.below hL b64
     refine Pu rfl (Pu rfl (Pu rfl (Pu rfl ?_)))
     refine Ge (Qu rfl QV rfl) rfl rfl ?_
     rintro _ W66 ⟨rfl, k67, b68, z69⟩
     have n72 : W41.heap.size ≠ W65.heap.size := Nat.ne_of_lt k59.lt
     have n73 : W42.heap.size ≠ W65.heap.size := Nat.ne_of_lt k62.lt
     have l74 := hB.size
     replace ag1 := ag1.more b68 (Nat.le_refl _)
     replace ag2 := ag2.more b68 (Nat.le_refl _)
     replace bg1 := bg1.more b68 (Nat.le_refl _)
     replace bg2 := bg2.more b68 (Nat.le_refl _)
     replace k59 := k59.below b68
     replace k62 := k62.below b68
     replace hB := Qe hB b68
     replace hL := LL.more hL z69
     refine Ge (Qu rfl Xv rfl) rfl rfl ?_
     rintro _ W75 ⟨rfl, k76, b77, z78⟩
     have n81 : W41.heap.size ≠ W66.heap.size := Nat.ne_of_lt k59.lt
     have n82 : W42.heap.size ≠ W66.heap.size := Nat.ne_of_lt k62.lt
     have n83 : W65.heap.size ≠ W66.heap.size := Nat.ne_of_lt k67.lt
     have l84 := hB.size
     replace ag1 := ag1.more b77 (Nat.le_refl _)
     replace ag2 := ag2.more b77 (Nat.le_refl _)
     replace bg1 := bg1.more b77 (Nat.le_refl _)
     replace bg2 := bg2.more b77 (Nat.le_refl _)
     replace k59 := k59.below b77
     replace k62 := k62.below b77
     replace k67 := k67.below b77
     replace hB := Qe hB b77
     replace hL := LL.more hL z78
     refine WL.do (Qh (cs' := [b1, b2, .int .i64 ((Qy Qb Qa Qd Qc half gen used (rs.map Prod.fst)).1.Qd), .bool ((Qy Qb Qa Qd Qc half gen used (rs.map Prod.fst)).1.Qc)]) (vs := [b1, b2, .int .i64 ((Qy Qb Qa Qd Qc half gen used (rs.map Prod.fst)).1.Qd), .bool ((Qy Qb Qa Qd Qc half gen used (rs.map Prod.fst)).1.Qc)]) rfl Qj rfl rfl rfl (oC bg1.one (oC bg2.one (oC rfl (oC rfl Qk)))) k67 rfl (nB rfl) rfl) rfl ?_
     rintro _ W85 ⟨k87, o86⟩
     replace k59 := k59.other o86 n72
     replace k62 := k62.other o86 n73
     replace k76 := k76.other o86 n83.symm
     clear k67
     replace ag1 := ag1.only o86 (.tail _ (.head _))
     replace ag2 := ag2.only o86 (.tail _ (.head _))
     replace bg1 := bg1.only o86 (.tail _ (.head _))
     replace bg2 := bg2.only o86 (.tail _ (.head _))
     replace hB := o86.below hB l74
     replace hL := LL.only hL o86
     refine WL.do (Qh (cs' := [.int .i64 ((Qy Qb Qa Qd Qc half gen used (rs.map Prod.fst)).2.1), .int .i64 ((Qy Qb Qa Qd Qc half gen used (rs.map Prod.fst)).2.2.1), .int .i64 ((Qy Qb Qa Qd Qc half gen used (rs.map Prod.fst)).2.2.2)]) (vs := [.int .i64 ((Qy Qb Qa Qd Qc half gen used (rs.map Prod.fst)).2.1), .int .i64 ((Qy Qb Qa Qd Qc half gen used (rs.map Prod.fst)).2.2.1), .int .i64 ((Qy Qb Qa Qd Qc half gen used (rs.map Prod.fst)).2.2.2)]) rfl Qs rfl rfl rfl (oC rfl (oC rfl (oC rfl Qk))) k76 rfl (nB rfl) rfl) rfl ?_
     rintro _ W88 ⟨k90, o89⟩
     replace k59 := k59.other o89 n81
     replace k62 := k62.other o89 n82
     replace k87 := k87.other o89 n83
     clear k76
     replace ag1 := ag1.only o89 (.head _)
     replace ag2 := ag2.only o89 (.head _)
     replace bg1 := bg1.only o89 (.head _)
     replace bg2 := bg2.only o89 (.head _)
     replace hB := o89.below hB l84
     replace hL := LL.only hL o89
     refine Pu rfl (Ni (hK63 (Sq fun K91 hK91 => (Rg (Va (Qg rfl Qf rfl k59.range rfl) rfl rfl (Va (Qg rfl Qf rfl k87.range rfl) rfl rfl ?_))))))
     refine Ge (QQ rfl Tryd.func16 rfl rfl rfl (Qac ((Qy Qb Qa Qd Qc half gen used (rs.map Prod.fst)).1.Qb) ((Qy Qb Qa Qd Qc half gen used (rs.map Prod.fst)).1.Qa) ((Qy Qb Qa Qd Qc half gen used (rs.map Prod.fst)).1.Qd) ((Qy Qb Qa Qd Qc half gen used (rs.map Prod.fst)).1.Qc) _ _ _ _ W88 _ hL ag1 ag2 bg1 bg2)) rfl rfl ?_
     rintro _ W93 ⟨rfl, b92⟩
     replace k62 := k62.below b92
     replace k90 := k90.below b92
     replace hB := Qe hB b92
     refine Pu rfl (Va (Qg rfl Qq rfl k62.range rfl) rfl rfl (Va (Qg rfl Qq rfl k90.range rfl) rfl rfl (Va (He rfl rfl rfl) rfl rfl (Pu rfl (Pu rfl (Pu rfl (Pu rfl ?_)))))))
     refine Va (Qfx (Zw rfl rfl rfl) rfl) rfl rfl (Pu rfl (Pu rfl (Ni (hK91 ?_))))
     exact WC.ret fun a_ ha_ => hQ (QI rfl (.tmp rfl) rfl hB ha_)
 .
  replace g24 := dF g24
  refine Of rfl (Of rfl (Pu rfl (Ni (hK23 (WC.condF rfl ?_)))))
  refine WC.exit ?_
  refine hK18 (Sq fun K94 hK94 => (Sq fun K95 hK95 => (Rg (Va (Qg rfl Qf rfl k3.range rfl) rfl rfl ?_))))
  refine Ge (QQ rfl Tryd.func10 rfl rfl rfl (D6 Qb Qa Qd Qc _ _ W21 _ hL h1 h2)) rfl rfl ?_
  rintro _ W97 ⟨⟨gb, rfl, hgb⟩, b96⟩
  replace h1 := h1.below b96
  replace h2 := h2.below b96
  replace h3 := h3.below b96
  replace hrs := hrs.below b96
  replace k3 := k3.below b96
  replace k8 := k8.below b96
  replace hB := Qe hB b96
  replace hL := LL.below hL b96
  refine Pu rfl ?_
  refine WL.split 39 rfl (fun g98 => ?_) (fun g98 => ?_)
  .
   refine Of rfl (Of rfl (Pu rfl (Ni (hK95 (WC.condT rfl (Sq fun K99 hK99 => (Rg ?_)))))))
   refine Pu rfl (Ni (hK99 ?_))
   exact WC.ret fun a_ ha_ => hQ (QI rfl (.tmp rfl) rfl hB ha_)
  .
   replace g98 := ZY g98
   refine Pu rfl (Va (XL rfl rfl rfl) rfl rfl (Pu rfl (Ni (hK95 ?_))))
   refine WC.cond rfl (fun c100 => ?_) (fun c100 => ?_)
   .
    replace c100 := dT c100
    refine Sq fun K101 hK101 => (Rg (Pu rfl (Ni (hK101 ?_))))
    exact WC.ret fun a_ ha_ => hQ (QI rfl (.tmp rfl) rfl hB ha_)
   .
    replace c100 := dF c100
    refine WC.skip (hK94 (Sq fun K102 hK102 => ?_))
    have hgs := hgb (by first | assumption | simp_all)
    have hie : i = rs.length := by omega
    have hsb : ∀ r ∈ rs, Z0 r.1 /\ r.1.length <= 1000000 := fun r_ hr_ => ⟨hrg r_ hr_, by have := hnl r_ (by rw [List.take_of_length_le (by omega)]; exact hr_); omega⟩
    refine Rg (Va (Qg rfl Qf rfl k3.range rfl) rfl rfl (Va (Qg rfl Qq rfl k8.range rfl) rfl rfl (Pu rfl ?_)))
    refine Ge (QQ rfl Tryd.func24 rfl rfl rfl (HY Qb Qa Qd Qc _ _ half gen used rs _ W97 _ hL h1 h2 h3 hrs hfu hbd hsb (by omega) hul (hT.below hB))) rfl rfl ?_
    rintro _ W104 ⟨⟨a1, a2, rfl, ag1, ag2⟩, b103⟩
    replace h1 := h1.below b103
    replace h2 := h2.below b103
    replace h3 := h3.below b103
    replace hrs := hrs.below b103
    replace k3 := k3.below b103
    replace k8 := k8.below b103
    replace hB := Qe hB b103
    replace hL := LL.below hL b103
    refine Pu rfl (Pu rfl (Pu rfl (Pu rfl ?_)))
    refine Ge (Qu rfl QV rfl) rfl rfl ?_
    rintro _ W105 ⟨rfl, k106, b107, z108⟩
    have n109 : w.heap.size ≠ W104.heap.size := Nat.ne_of_lt k3.lt
    have n110 : W2.heap.size ≠ W104.heap.size := Nat.ne_of_lt k8.lt
    have l111 := hB.size
    replace h1 := h1.more b107 (Nat.le_refl _)
    replace h2 := h2.more b107 (Nat.le_refl _)
    replace h3 := h3.more b107 (Nat.le_refl _)
    replace hrs := hrs.more b107 (Nat.le_refl _)
    replace ag1 := ag1.more b107 (Nat.le_refl _)
    replace ag2 := ag2.more b107 (Nat.le_refl _)
    replace k3 := k3.below b107
    replace k8 := k8.below b107
    replace hB := Qe hB b107
    replace hL := LL.more hL z108
    refine Ge (Qu rfl Xv rfl) rfl rfl ?_
    rintro _ W112 ⟨rfl, k113, b114, z115⟩
    have n116 : w.heap.size ≠ W105.heap.size := Nat.ne_of_lt k3.lt
    have n117 : W2.heap.size ≠ W105.heap.size := Nat.ne_of_lt k8.lt
    have n118 : W104.heap.size ≠ W105.heap.size := Nat.ne_of_lt k106.lt
    have l119 := hB.size
    replace h1 := h1.more b114 (Nat.le_refl _)
    replace h2 := h2.more b114 (Nat.le_refl _)
    replace h3 := h3.more b114 (Nat.le_refl _)
    replace hrs := hrs.more b114 (Nat.le_refl _)
    replace ag1 := ag1.more b114 (Nat.le_refl _)
    replace ag2 := ag2.more b114 (Nat.le_refl _)
    replace k3 := k3.below b114
    replace k8 := k8.below b114
    replace k106 := k106.below b114
    replace hB := Qe hB b114
    replace hL := LL.more hL z115
    refine WL.do (Qh (cs' := [a1, a2, .int .i64 ((Qy Qb Qa Qd Qc half gen used (rs.map Prod.fst)).1.Qd), .bool ((Qy Qb Qa Qd Qc half gen used (rs.map Prod.fst)).1.Qc)]) (vs := [a1, a2, .int .i64 ((Qy Qb Qa Qd Qc half gen used (rs.map Prod.fst)).1.Qd), .bool ((Qy Qb Qa Qd Qc half gen used (rs.map Prod.fst)).1.Qc)]) rfl Qj rfl rfl rfl (oC ag1.one (oC ag2.one (oC rfl (oC rfl Qk)))) k106 rfl (nB rfl) rfl) rfl ?_
    rintro _ W120 ⟨k122, o121⟩
    replace k3 := k3.other o121 n109
    replace k8 := k8.other o121 n110
    replace k113 := k113.other o121 n118.symm
    clear k106
    replace h1 := h1.only o121 (.tail _ (.head _))
    replace h2 := h2.only o121 (.tail _ (.head _))
    replace h3 := h3.only o121 (.tail _ (.head _))
    replace hrs := hrs.only o121 (.tail _ (.head _))
    replace ag1 := ag1.only o121 (.tail _ (.head _))
    replace ag2 := ag2.only o121 (.tail _ (.head _))
    replace hB := o121.below hB l111
    replace hL := LL.only hL o121
    refine WL.do (Qh (cs' := [.int .i64 ((Qy Qb Qa Qd Qc half gen used (rs.map Prod.fst)).2.1), .int .i64 ((Qy Qb Qa Qd Qc half gen used (rs.map Prod.fst)).2.2.1), .int .i64 ((Qy Qb Qa Qd Qc half gen used (rs.map Prod.fst)).2.2.2)]) (vs := [.int .i64 ((Qy Qb Qa Qd Qc half gen used (rs.map Prod.fst)).2.1), .int .i64 ((Qy Qb Qa Qd Qc half gen used (rs.map Prod.fst)).2.2.1), .int .i64 ((Qy Qb Qa Qd Qc half gen used (rs.map Prod.fst)).2.2.2)]) rfl Qs rfl rfl rfl (oC rfl (oC rfl (oC rfl Qk))) k113 rfl (nB rfl) rfl) rfl ?_
    rintro _ W123 ⟨k125, o124⟩
    replace k3 := k3.other o124 n116
    replace k8 := k8.other o124 n117
    replace k122 := k122.other o124 n118
    clear k113
    replace h1 := h1.only o124 (.head _)
    replace h2 := h2.only o124 (.head _)
    replace h3 := h3.only o124 (.head _)
    replace hrs := hrs.only o124 (.head _)
    replace ag1 := ag1.only o124 (.head _)
    replace ag2 := ag2.only o124 (.head _)
    replace hB := o124.below hB l119
    replace hL := LL.only hL o124
    refine Pu rfl (Ni (hK102 (Sq fun K126 hK126 => (Rg (Va (Qg rfl Qf rfl k3.range rfl) rfl rfl (Va (Qg rfl Qq rfl k8.range rfl) rfl rfl (Pu rfl ?_)))))))
    refine Ge (QQ rfl Tryd.func25 rfl rfl rfl (GR Qb Qa Qd Qc _ _ half gen used rs _ W123 _ hL h1 h2 h3 hrs hfu hbd hsb (by omega) hul (by omega) (hR.below hB))) rfl rfl ?_
    rintro _ W128 ⟨⟨b1, b2, rfl, bg1, bg2⟩, b127⟩
    replace ag1 := ag1.below b127
    replace ag2 := ag2.below b127
    replace k122 := k122.below b127
    replace k125 := k125.below b127
    replace hB := Qe hB b127
    replace hL := LL.below hL b127
    refine Pu rfl (Pu rfl (Pu rfl (Pu rfl ?_)))
    refine Ge (Qu rfl QV rfl) rfl rfl ?_
    rintro _ W129 ⟨rfl, k130, b131, z132⟩
    have n135 : W104.heap.size ≠ W128.heap.size := Nat.ne_of_lt k122.lt
    have n136 : W105.heap.size ≠ W128.heap.size := Nat.ne_of_lt k125.lt
    have l137 := hB.size
    replace ag1 := ag1.more b131 (Nat.le_refl _)
    replace ag2 := ag2.more b131 (Nat.le_refl _)
    replace bg1 := bg1.more b131 (Nat.le_refl _)
    replace bg2 := bg2.more b131 (Nat.le_refl _)
    replace k122 := k122.below b131
    replace k125 := k125.below b131
    replace hB := Qe hB b131
    replace hL := LL.more hL z132
    refine Ge (Qu rfl Xv rfl) rfl rfl ?_
    rintro _ W138 ⟨rfl, k139, b140, z141⟩
    have n144 : W104.heap.size ≠ W129.heap.size := Nat.ne_of_lt k122.lt
    have n145 : W105.heap.size ≠ W129.heap.size := Nat.ne_of_lt k125.lt
    have n146 : W128.heap.size ≠ W129.heap.size := Nat.ne_of_lt k130.lt
    have l147 := hB.size
    replace ag1 := ag1.more b140 (Nat.le_refl _)
    replace ag2 := ag2.more b140 (Nat.le_refl _)
    replace bg1 := bg1.more b140 (Nat.le_refl _)
    replace bg2 := bg2.more b140 (Nat.le_refl _)
    replace k122 := k122.below b140
    replace k125 := k125.below b140
    replace k130 := k130.below b140
    replace hB := Qe hB b140
    replace hL := LL.more hL z141
    refine WL.do (Qh (cs' := [b1, b2, .int .i64 ((Qy Qb Qa Qd Qc half gen used (rs.map Prod.fst)).1.Qd), .bool ((Qy Qb Qa Qd Qc half gen used (rs.map Prod.fst)).1.Qc)]) (vs := [b1, b2, .int .i64 ((Qy Qb Qa Qd Qc half gen used (rs.map Prod.fst)).1.Qd), .bool ((Qy Qb Qa Qd Qc half gen used (rs.map Prod.fst)).1.Qc)]) rfl Qj rfl rfl rfl (oC bg1.one (oC bg2.one (oC rfl (oC rfl Qk)))) k130 rfl (nB rfl) rfl) rfl ?_
    rintro _ W148 ⟨k150, o149⟩
    replace k122 := k122.other o149 n135
    replace k125 := k125.other o149 n136
    replace k139 := k139.other o149 n146.symm
    clear k130
    replace ag1 := ag1.only o149 (.tail _ (.head _))
    replace ag2 := ag2.only o149 (.tail _ (.head _))
    replace bg1 := bg1.only o149 (.tail _ (.head _))
    replace bg2 := bg2.only o149 (.tail _ (.head _))
    replace hB := o149.below hB l137
    replace hL := LL.only hL o149
    refine WL.do (Qh (cs' := [.int .i64 ((Qy Qb Qa Qd Qc half gen used (rs.map Prod.fst)).2.1), .int .i64 ((Qy Qb Qa Qd Qc half gen used (rs.map Prod.fst)).2.2.1), .int .i64 ((Qy Qb Qa Qd Qc half gen used (rs.map Prod.fst)).2.2.2)]) (vs := [.int .i64 ((Qy Qb Qa Qd Qc half gen used (rs.map Prod.fst)).2.1), .int .i64 ((Qy Qb Qa Qd Qc half gen used (rs.map Prod.fst)).2.2.1), .int .i64 ((Qy Qb Qa Qd Qc half gen used (rs.map Prod.fst)).2.2.2)]) rfl Qs rfl rfl rfl (oC rfl (oC rfl (oC rfl Qk))) k139 rfl (nB rfl) rfl) rfl ?_
    rintro _ W151 ⟨k153, o152⟩
    replace k122 := k122.other o152 n144
    replace k125 := k125.other o152 n145
    replace k150 := k150.other o152 n146
    clear k139
    replace ag1 := ag1.only o152 (.head _)
    replace ag2 := ag2.only o152 (.head _)
    replace bg1 := bg1.only o152 (.head _)
    replace bg2 := bg2.only o152 (.head _)
    replace hB := o152.below hB l147
    replace hL := LL.only hL o152
    refine Pu rfl (Ni (hK126 (Sq fun K154 hK154 => (Rg (Va (Qg rfl Qf rfl k122.range rfl) rfl rfl (Va (Qg rfl Qf rfl k150.range rfl) rfl rfl ?_))))))
    refine Ge (QQ rfl Tryd.func16 rfl rfl rfl (Qac ((Qy Qb Qa Qd Qc half gen used (rs.map Prod.fst)).1.Qb) ((Qy Qb Qa Qd Qc half gen used (rs.map Prod.fst)).1.Qa) ((Qy Qb Qa Qd Qc half gen used (rs.map Prod.fst)).1.Qd) ((Qy Qb Qa Qd Qc half gen used (rs.map Prod.fst)).1.Qc) _ _ _ _ W151 _ hL ag1 ag2 bg1 bg2)) rfl rfl ?_
    rintro _ W156 ⟨rfl, b155⟩
    replace k125 := k125.below b155
    replace k153 := k153.below b155
    replace hB := Qe hB b155
    refine Pu rfl (Va (Qg rfl Qq rfl k125.range rfl) rfl rfl (Va (Qg rfl Qq rfl k153.range rfl) rfl rfl (Va (He rfl rfl rfl) rfl rfl (Pu rfl (Pu rfl (Pu rfl (Pu rfl ?_)))))))
    refine Va (Qfx (Zw rfl rfl rfl) rfl) rfl rfl (Pu rfl (Pu rfl (Ni (hK154 ?_))))
    exact WC.ret fun a_ ha_ => hQ (QI rfl (.tmp rfl) rfl hB ha_)

end Go.Proofs.YtfachlmgdlnpoaaDoor
