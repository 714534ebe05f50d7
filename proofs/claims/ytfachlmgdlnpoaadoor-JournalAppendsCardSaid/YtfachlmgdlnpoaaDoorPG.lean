/- The fixed fact of layer 15; JournalAgain. The fixed fact of layer 15; JournalAgain. JournalAgain. As XDrR, with two operations ahead of the last ones  -/
import Derived.Test.YtfachlmgdlnpoaaDoorPF
namespace Go.Proofs.YtfachlmgdlnpoaaDoor
open Go.RowKit
set_option linter.unusedVariables false
set_option linter.unusedSimpArgs false
set_option maxRecDepth 8000
set_option maxHeartbeats 2000000

theorem Opn.next1 {S : List (List Int)} {n Q : Nat} {G : Int} {l : List (List Int)} (h : Opn S n Q G l) (hG : G < 1099511627776) : ∃ S', YM S [] (-1) false = ((⟨S', [], -1, false, 0⟩, ((1 - Q : Nat) : Int), G + 1, 1 + (Qz l : Int)), l) /\ Opn S' n (1 - Q) (G + 1) l := by
 have hc := Vc h.right (by rw [h.len]; exact h.n1)
 obtain ⟨A, B, rfl, hh⟩ := h.half
 have hfit := hh.fit
 obtain ⟨S', e, ho⟩ := Qfg (f := -1) (q := ((1 - Q : Nat) : Int)) (Q := 1 - Q) h.right (by rw [h.len]; exact h.n1) rfl (by omega) (by decide) (by rw [h.len, h.max]; exact hG) h.lb (by rw [h.len]; exact hfit) (by have := h.n2; rw [List.length_nil]; omega) h.byt
 rw [h.len, h.max] at e ho
 exact ⟨S', by rw [JZ hc h.both (by rw [e]), e], ho⟩
def Hg (L : List Nat) (S : List (List Int)) (T : List (Int × List Int)) (f : Int) (d : Bool) (h g u e : Int) (v : Value) (W : World) : Prop := ∃ t1 t2, v = .tuple #[.agg #[t1, t2, .int .i64 f, .bool d], .agg #[.int .i64 h, .int .i64 g, .int .i64 u], .int .i64 e] /\ QC 128 L W t1 (S.map Qq) /\ QC 129 L W t2 (T.map QD)
def Qfx (L : List Nat) (S : List (List Int)) (T : List (Int × List Int)) (f : Int) (d : Bool) (h g u e : Int) (l : List (List Int)) (v : Value) (W : World) : Prop := ∃ t1 t2 lv rs, v = .tuple #[.agg #[t1, t2, .int .i64 f, .bool d], .agg #[.int .i64 h, .int .i64 g, .int .i64 u], lv, .int .i64 e] /\ QC 128 L W t1 (S.map Qq) /\ QC 129 L W t2 (T.map QD) /\ QC 1 L W lv (rs.map JD) /\ YP L W rs /\ (∀ r ∈ rs, ZX r.1 /\ r.1.length <= 1000000) /\ rs.map Prod.fst = l
theorem Hg.below {L : List Nat} {S : List (List Int)} {T : List (Int × List Int)} {f : Int} {d : Bool} {h g u e : Int} {v : Value} {w w' : World} (hh : Hg L S T f d h g u e v w) (hb : Below w.heap.size w w') : Hg L S T f d h g u e v w' := by
 obtain ⟨t1, t2, ev, h1, h2⟩ := hh
 exact ⟨t1, t2, ev, h1.below hb, h2.below hb⟩
theorem Hg.only {L : List Nat} {S : List (List Int)} {T : List (Int × List Int)} {f : Int} {d : Bool} {h g u e : Int} {v : Value} {w w' : World} (hh : Hg L S T f d h g u e v w) {B : Nat} (ho : Yf B w w') (hB : B ∈ L) : Hg L S T f d h g u e v w' := by
 obtain ⟨t1, t2, ev, h1, h2⟩ := hh
 exact ⟨t1, t2, ev, h1.only ho hB, h2.only ho hB⟩
def Dp (L : List Nat) (S : List (List Int)) (T : List (Int × List Int)) (f : Int) (d : Bool) (v : Value) (W : World) : Prop := ∃ t1 t2, v = .agg #[t1, t2, .int .i64 f, .bool d] /\ QC 128 L W t1 (S.map Qq) /\ QC 129 L W t2 (T.map QD)
theorem Dp.below {L : List Nat} {S : List (List Int)} {T : List (Int × List Int)} {f : Int} {d : Bool} {v : Value} {w w' : World} (hh : Dp L S T f d v w) (hb : Below w.heap.size w w') : Dp L S T f d v w' := by
 obtain ⟨t1, t2, ev, h1, h2⟩ := hh
 exact ⟨t1, t2, ev, h1.below hb, h2.below hb⟩
theorem Dp.only {L : List Nat} {S : List (List Int)} {T : List (Int × List Int)} {f : Int} {d : Bool} {v : Value} {w w' : World} (hh : Dp L S T f d v w) {B : Nat} (ho : Yf B w w') (hB : B ∈ L) : Dp L S T f d v w' := by
 obtain ⟨t1, t2, ev, h1, h2⟩ := hh
 exact ⟨t1, t2, ev, h1.only ho hB, h2.only ho hB⟩

section
variable {Qb : List (List Int)} {Qa : List (Int × List Int)} {Qd : Int} {Qc : Bool} {s1 s2 : Value} {w : World} {L : List Nat} {S : List (List Int)} {T : List (Int × List Int)} {f : Int} {d : Bool} {h g u e : Int} {l : List (List Int)}
theorem QeA (hE : YM Qb Qa Qd Qc = ((⟨S, T, f, d, e⟩, h, g, u), l)) (hL : LL L w) (h1 : QC 128 L w s1 (Qb.map Qq)) (h2 : QC 129 L w s2 (Qa.map QD)) (hfu : -9223372036854775808 <= Qd /\ Qd <= 9223372036854775807) (hbd : YJ Qb Qa) (hT : ZF w) : CV Tryd.prog 12 [.agg #[s1, s2, .int .i64 Qd, .bool Qc]] w fun v W => Qfx L S T f d h g u e l v W := by
 have := Qez Qb Qa Qd Qc s1 s2 w L hL h1 h2 hfu hbd hT
 rw [hE] at this
 exact this
theorem QcA (hE : Xa Qb Qa Qd Qc = (⟨S, T, f, d, e⟩, h, g, u)) (hL : LL L w) (h1 : QC 128 L w s1 (Qb.map Qq)) (h2 : QC 129 L w s2 (Qa.map QD)) (hfu : -9223372036854775808 <= Qd /\ Qd <= 9223372036854775807) (hbd : YJ Qb Qa) (hT : ZF w) : CV Tryd.prog 20 [.agg #[s1, s2, .int .i64 Qd, .bool Qc]] w fun v W => Hg L S T f d h g u e v W := by
 have := Ev Qb Qa Qd Qc s1 s2 w L hL h1 h2 hfu hbd hT
 rw [hE] at this
 exact this
theorem Qc1 {half gen used : Int} {rec : List Int} {rv : Value} (hE : QW Qb Qa Qd Qc half gen used rec = (⟨S, T, f, d, e⟩, h, g, u)) (hL : LL L w) (h1 : QC 128 L w s1 (Qb.map Qq)) (h2 : QC 129 L w s2 (Qa.map QD)) (h3 : QC 1 L w rv (Vq rec)) (hfu : -9223372036854775808 <= Qd /\ Qd <= 9223372036854775807) (hbd : YJ Qb Qa) (hrb : ZX rec) (hul : -9223372036854775808 <= used /\ used <= 9223372036854775807) (hrm : rec.length <= 1000000000) (hT : ZF w) : CV Tryd.prog 18 [.agg #[s1, s2, .int .i64 Qd, .bool Qc], .agg #[.int .i64 half, .int .i64 gen, .int .i64 used], rv] w fun v W => Hg L S T f d h g u e v W := by
 have := EF Qb Qa Qd Qc s1 s2 half gen used rec rv w L hL h1 h2 h3 hfu hbd hrb hul hrm hT
 rw [hE] at this
 exact this
theorem Qfb {n : Nat} (hn : 1 <= n /\ n <= 2048) (hL : LL L w) : CV Tryd.prog 27 [.int .i64 (n : Int)] w fun v W => ∃ t1 t2, v = .tuple #[.agg #[t1, t2, .int .i64 (-1), .bool false], .int .i64 0] /\ QC 128 L W t1 ((List.replicate n z0).map Qq) /\ QC 129 L W t2 (([] : List (Int × List Int)).map QD) := by
 have := Qfa (n : Int) w L hL hL
 have e : Up (n : Int) = ⟨List.replicate n z0, [], -1, false, 0⟩ := by unfold Up; rw [if_neg (by omega), Int.toNat_natCast]
 rw [e] at this
 exact this
end
set_option maxHeartbeats 1000000 in
theorem QdL (Qb : List (List Int)) (Qa : List (Int × List Int)) (Qd : Int) (Qc : Bool) (s1 s2 : Value) (w : World) (L : List Nat) (hL : LL L w) (h1 : QC 128 L w s1 (Qb.map Qq)) (h2 : QC 129 L w s2 (Qa.map QD)) : CV Tryd.prog 10 [.agg #[s1, s2, .int .i64 Qd, .bool Qc]] w fun v W => ∃ b, v = .bool b /\ (b = false -> Qb.length <= 60 /\ Qa.length <= 60) := by
 refine QL (N := 13) (f := [(0, .agg #[s1, s2, .int .i64 Qd, .bool Qc])]) Tryd.func10 rfl rfl rfl rfl fun Q hQ hE => ?_
 have hB := Below.refl w.heap.size w
 have h1m : Qb.length <= maxLen := by have := h1.len; rwa [List.length_map] at this
 unfold maxLen at h1m
 have h2m : Qa.length <= maxLen := by have := h2.len; rwa [List.length_map] at this
 unfold maxLen at h2m
 refine Sq fun K1 hK1 => (Rg ?_)
 refine Ge (Xb rfl rfl rfl) rfl rfl ?_
 rintro _ W2 ⟨rfl, k3, b4, z5⟩
 have l6 := hB.size
 replace h1 := h1.more b4 (Nat.le_refl _)
 replace h2 := h2.more b4 (Nat.le_refl _)
 replace hB := Qe hB b4
 refine Pu rfl (Ni (hK1 (Sq fun K7 hK7 => (Rg (Va (Qm (o1 := 0) rfl QE rfl rfl) rfl rfl (Va (Qi rfl Q9 rfl (k3.cell (k := 0) rfl)) rfl rfl (Va (QY rfl QX rfl h1) rfl rfl ?_)))))))
 refine Va (XQ rfl rfl rfl) rfl rfl (Pu rfl ?_)
 refine WL.split 7 rfl (fun g8 => ?_) (fun g8 => ?_)
 .
  replace g8 := dT g8
  refine Of rfl (Of rfl (Of rfl (Of rfl (Pu rfl (Pu rfl (Ni (hK7 ?_)))))))
  exact WC.ret fun a_ ha_ => hQ (QI rfl (.tmp rfl) ⟨_, rfl, fun hb_ => by first | (simp at hb_; done) | (simp at hb_; omega) | (simp_all; done) | (simp_all; omega)⟩ hB ha_)
 .
  replace g8 := dF g8
  refine Va (Qm (o1 := 1) rfl QG rfl rfl) rfl rfl (Va (Qi rfl Xg rfl (k3.cell (k := 1) rfl)) rfl rfl (Va (QY rfl QZ rfl h2) rfl rfl (Va (XQ rfl rfl rfl) rfl rfl (Pu rfl (Pu rfl (Ni (hK7 ?_)))))))
  exact WC.ret fun a_ ha_ => hQ (QI rfl (.tmp rfl) ⟨_, rfl, fun hb_ => by first | (simp at hb_; done) | (simp at hb_; omega) | (simp_all; done) | (simp_all; omega)⟩ hB ha_)

section
variable {ops : Array Oper} {o : Oper} {N : Nat} {f : Fl} {w : World}
theorem EN {α β : Type} {g : α -> β} {l : List α} {x y z : β} (h : l.map g = [x, y, z]) : ∃ a b c, l = [a, b, c] /\ g a = x /\ g b = y /\ g c = z := by
 match l, h with
 | [a, b, c], h => simp at h; exact ⟨a, b, c, rfl, h.1, h.2.1, h.2.2⟩
theorem QcD : (Tryd.prog.fieldsOf 30).toList.map (fun f => (f.name == "_", f.type, f.offset)) = [(false, 3, 0), (false, 3, 1), (false, 3, 2)] := by kernel_rfl
theorem EU (a b c : Int) : (part 3 #[.int .i64 a, .int .i64 b, .int .i64 c] 0).run Tryd.prog w = .ok (.int .i64 a) w /\ (part 3 #[.int .i64 a, .int .i64 b, .int .i64 c] 1).run Tryd.prog w = .ok (.int .i64 b) w /\ (part 3 #[.int .i64 a, .int .i64 b, .int .i64 c] 2).run Tryd.prog w = .ok (.int .i64 c) w := by
 have g2 : (isAgg 3).run Tryd.prog w = .ok false w := by
  unfold isAgg
  rw [Sem.run_bind, run_underlying Tryd.underlying3 w]; rfl
 refine ⟨?_, ?_, ?_⟩ <;> simp [part, Sem.run_bind, g2]
theorem QaA (a b c : Int) : (Op.equalIn 10000 30 (.agg #[.int .i64 a, .int .i64 b, .int .i64 c]) (.agg #[.int .i64 a, .int .i64 b, .int .i64 c])).run Tryd.prog w = .ok true w := by
 rw [show (10000 : Nat) = 9999 + 1 from rfl, run_equalIn_struct w 9999 30 _ _ (by kernel_rfl) (by kernel_rfl)]
 obtain ⟨f0, f1, f2, hfs, h0, h1, h2⟩ := EN QcD
 rw [hfs]
 simp only [Prod.mk.injEq] at h0 h1 h2
 obtain ⟨n0, t0, o0⟩ := h0
 obtain ⟨n1, t1, o1⟩ := h1
 obtain ⟨n2, t2, o2⟩ := h2
 have m0 : f0.name ≠ "_" := by simpa using n0
 have m1 : f1.name ≠ "_" := by simpa using n1
 have m2 : f2.name ≠ "_" := by simpa using n2
 obtain ⟨p0, p1, p2⟩ := EU (w := w) a b c
 have e0 := run_equalIn_int (P := Tryd.prog) (w := w) 9998 3 .i64 .i64 a a Tryd.underlying3
 have e1 := run_equalIn_int (P := Tryd.prog) (w := w) 9998 3 .i64 .i64 b b Tryd.underlying3
 have e2 := run_equalIn_int (P := Tryd.prog) (w := w) 9998 3 .i64 .i64 c c Tryd.underlying3
 rw [beq_self_eq_true] at e0 e1 e2
 simp only [Op.eqFields, if_pos m0, if_pos m1, if_pos m2, t0, o0, t1, o1, t2, o2, Sem.run_bind, p0, Result.andThen_ok]
 rw [show (9999 : Nat) = 9998 + 1 from rfl, e0]
 simp only [Result.andThen_ok, Bool.not_true, Bool.false_eq_true, if_false, Sem.run_bind, p1]
 rw [e1]
 simp only [Result.andThen_ok, Bool.not_true, Bool.false_eq_true, if_false, Sem.run_bind, p2]
 rw [e2]
 simp
theorem G3 {t' : TypeId} {x y : Operand} {a b c : Int} (ho : o.op = .binOp .eql 30 x y t') (hx : ev f x = some (.agg #[.int .i64 a, .int .i64 b, .int .i64 c])) (hy : ev f y = some (.agg #[.int .i64 a, .int .i64 b, .int .i64 c])) (hw : QN ops o f = some true := by rfl) : DV Tryd.prog ops o N f w (.bool true) := fun k ha => by
 have hx := ha.ev hx
 have hy := ha.ev hy
 have hg : Tryd.prog.eqGuardType Tryd.prog.depth 30 = false := by kernel_rfl
 have hgd : (eqGuard .eql 30 x y (.agg #[.int .i64 a, .int .i64 b, .int .i64 c]) (.agg #[.int .i64 a, .int .i64 b, .int .i64 c])).run Tryd.prog w = .ok () w := by
  simp [eqGuard, Sem.run_bind, hg]
 have e1 : binOp .eql 30 (.agg #[.int .i64 a, .int .i64 b, .int .i64 c]) (.agg #[.int .i64 a, .int .i64 b, .int .i64 c]) = (do pure (.bool (<- Op.equal 30 (.agg #[.int .i64 a, .int .i64 b, .int .i64 c]) (.agg #[.int .i64 a, .int .i64 b, .int .i64 c])))) := rfl
 have e2 : (Op.equal 30 (.agg #[.int .i64 a, .int .i64 b, .int .i64 c]) (.agg #[.int .i64 a, .int .i64 b, .int .i64 c])).run Tryd.prog w = .ok true w := QaA a b c
 exact QJ.pure (Qw ha hw) _ (by unfold execOp; simp only [ho, hx, hy, Sem.run_bind, hgd, Result.andThen_ok, e1, e2, Sem.run_pure]) ⟨rfl, rfl⟩
theorem Qad (a b c : Int) : Tryd.prog.built 30 [(0, .int .i64 a), (1, .int .i64 b), (2, .int .i64 c)] = some [Value.int .i64 a, .int .i64 b, .int .i64 c].toArray := by kernel_rfl
end
theorem QdD {rs : List JJ} {x : List Int} (h : rs.map Prod.fst = [x]) : ∃ r0, rs = [r0] /\ r0.1 = x := by
 match rs, h with
 | [r], h => exact ⟨r, rfl, by simpa using h⟩
theorem Qd9 (n : Nat) : ZX (List.replicate n 0) := fun x hx => by rw [(List.mem_replicate.1 hx).2]; exact ⟨by decide, by decide⟩
theorem QdF (n : Nat) : YJ (List.replicate n z0) [] := ⟨fun z hz => by rw [(List.mem_replicate.1 hz).2]; exact Gi, fun p hp => absurd hp List.not_mem_nil⟩
set_option maxHeartbeats 1000000 in
theorem Qd6  (w : World) (L : List Nat) (hL : LL L w)   (hT : ZF w) : CV Tryd.prog 9 [] w fun v W => v = .bool true := by
 refine QL (N := 79) (f := []) Tryd.func9 rfl rfl rfl rfl fun Q hQ hE => ?_
 have hB := Below.refl w.heap.size w
 refine Sq fun K1 hK1 => (Rg (Pu rfl (Ni (hK1 (Sq fun K2 hK2 => (Rg ?_))))))
 refine Ge (QO rfl Tryd.func27 rfl rfl rfl (Qfb (n := 8) ⟨by omega, by omega⟩ hL)) rfl rfl ?_
 rintro _ W4 ⟨⟨n1, n2, rfl, q1, q2⟩, b3⟩
 replace hB := Qe hB b3
 replace hL := LL.below hL b3
 refine Pu rfl (Pu rfl (Pu rfl ?_))
 refine Ge (Qs rfl QU rfl) rfl rfl ?_
 rintro _ W5 ⟨rfl, k6, b7, z8⟩
 have l9 := hB.size
 replace q1 := q1.more b7 (Nat.le_refl _)
 replace q2 := q2.more b7 (Nat.le_refl _)
 replace hB := Qe hB b7
 replace hL := LL.more hL z8
 refine WL.do (Qh (cs' := [n1, n2, .int .i64 (-1), .bool false]) (vs := [n1, n2, .int .i64 (-1), .bool false]) rfl Qj rfl rfl rfl (oC q1.one (oC q2.one (oC rfl (oC rfl Qk)))) k6 rfl (nB rfl) rfl) rfl ?_
 rintro _ W10 ⟨k12, o11⟩
 clear k6
 replace q1 := q1.only o11 (.head _)
 replace q2 := q2.only o11 (.head _)
 replace hB := o11.below hB l9
 replace hL := LL.only hL o11
 refine Pu rfl (Ni (hK2 (Sq fun K13 hK13 => ?_)))
 obtain ⟨SF, eF, oF⟩ := Da (n := 8) (by decide) (by decide) (f := -1) (by decide)
 refine Rg (Va (Qg rfl Qf rfl k12.range rfl) rfl rfl ?_)
 refine Ge (QO rfl Tryd.func20 rfl rfl rfl (QcA eF hL q1 q2 (by decide) (QdF 8) (hT.below hB))) rfl rfl ?_
 rintro _ W15 ⟨⟨f1, f2, rfl, fk1, fk2⟩, b14⟩
 replace q1 := q1.below b14
 replace q2 := q2.below b14
 replace k12 := k12.below b14
 replace hB := Qe hB b14
 replace hL := LL.below hL b14
 refine Pu rfl (Pu rfl (Pu rfl (Pu rfl ?_)))
 refine Ge (Qs rfl XE rfl) rfl rfl ?_
 rintro _ W16 ⟨rfl, k17, b18, z19⟩
 have n20 : W4.heap.size ≠ W15.heap.size := Nat.ne_of_lt k12.lt
 have l21 := hB.size
 replace q1 := q1.more b18 (Nat.le_refl _)
 replace q2 := q2.more b18 (Nat.le_refl _)
 replace fk1 := fk1.more b18 (Nat.le_refl _)
 replace fk2 := fk2.more b18 (Nat.le_refl _)
 replace k12 := k12.below b18
 replace hB := Qe hB b18
 replace hL := LL.more hL z19
 refine WL.do (Qh (cs' := [f1, f2, .int .i64 (-1), .bool false]) (vs := [f1, f2, .int .i64 (-1), .bool false]) rfl Qj rfl rfl rfl (oC fk1.one (oC fk2.one (oC rfl (oC rfl Qk)))) k12 rfl (nB rfl) rfl) rfl ?_
 rintro _ W22 ⟨k24, o23⟩
 replace k17 := k17.other o23 n20.symm
 clear k12
 replace q1 := q1.only o23 (.tail _ (.head _))
 replace q2 := q2.only o23 (.tail _ (.head _))
 replace fk1 := fk1.only o23 (.tail _ (.head _))
 replace fk2 := fk2.only o23 (.tail _ (.head _))
 replace hB := o23.below hB l9
 replace hL := LL.only hL o23
 refine WL.do (Qh (cs' := [.int .i64 0, .int .i64 1, .int .i64 1]) (vs := [.int .i64 0, .int .i64 1, .int .i64 1]) rfl Qv rfl rfl rfl (oC rfl (oC rfl (oC rfl Qk))) k17 rfl (nB rfl) rfl) rfl ?_
 rintro _ W25 ⟨k27, o26⟩
 replace k24 := k24.other o26 n20
 clear k17
 replace q1 := q1.only o26 (.head _)
 replace q2 := q2.only o26 (.head _)
 replace fk1 := fk1.only o26 (.head _)
 replace fk2 := fk2.only o26 (.head _)
 replace hB := o26.below hB l21
 replace hL := LL.only hL o26
 refine Pu rfl (Ni (hK13 (Sq fun K28 hK28 => ?_)))
 obtain ⟨SA, eA0, oA⟩ := oF.app (f := -1) (by decide) (r := List.replicate 150 0) (Qd9 150) (by decide) (by decide)
 have eA : QW SF [] (-1) false 0 1 1 (List.replicate 150 0) = (⟨SA, [], -1, false, 0⟩, 0, 1, 3) := eA0
 refine WC.drawC 10 [(8, W4.heap.size, [f1, f2, .int .i64 (-1), .bool false], fun cs_ W_ => ∃ t1_ t2_, cs_ = [t1_, t2_, .int .i64 (-1), .bool false] /\ QC 128 (W15.heap.size :: W4.heap.size :: L) W_ t1_ (SA.map Qq) /\ QC 129 (W15.heap.size :: W4.heap.size :: L) W_ t2_ (([] : List (Int × List Int)).map QD)), (9, W15.heap.size, [.int .i64 0, .int .i64 1, .int .i64 1], fun cs_ _ => cs_ = [.int .i64 0, .int .i64 1, .int .i64 3])] [(some 21, .is (.agg #[f1, f2, .int .i64 (-1), .bool false])), (some 22, .is (.agg #[.int .i64 0, .int .i64 1, .int .i64 1])), (some 23, .by fun u W => QC 1 (W15.heap.size :: W4.heap.size :: L) W u (Vq (List.replicate 150 0))), (some 24, .by fun u W => Hg (W15.heap.size :: W4.heap.size :: L) SA [] (-1) false 0 1 3 0 u W), (some 20, .by fun u W => Hg (W15.heap.size :: W4.heap.size :: L) SA [] (-1) false 0 1 3 0 u W), (some 25, .by fun u W => Dp (W15.heap.size :: W4.heap.size :: L) SA [] (-1) false u W), (some 26, .is (.agg #[.int .i64 0, .int .i64 1, .int .i64 3])), (some 27, .is (.int .i64 0)), (none, .by fun _ _ => True), (none, .by fun _ _ => True)] [[], [], [], [0, 1, 2], [3], [4], [4], [4], [5, 3, 0, 1, 2, 3, 4, 5], [6, 8, 0, 1, 2, 3, 4, 5, 6, 8]] ⟨fun _ _ _ hb h => h.below hb, fun _ _ _ hb h => h.below hb, fun _ _ _ hb h => h.below hb, fun _ _ _ hb h => h.below hb, fun _ _ _ _ h => h, fun _ _ _ _ h => h, trivial⟩ (mB ⟨fun _ _ _ ho h => h.only ho (.tail _ (.head _)), fun _ _ _ ho h => h.only ho (.tail _ (.head _)), fun _ _ _ ho h => h.only ho (.tail _ (.head _)), fun _ _ _ ho h => h.only ho (.tail _ (.head _)), fun _ _ _ _ h => h, fun _ _ _ _ h => h, trivial⟩ ⟨fun _ _ _ ho h => h.only ho (.head _), fun _ _ _ ho h => h.only ho (.head _), fun _ _ _ ho h => h.only ho (.head _), fun _ _ _ ho h => h.only ho (.head _), fun _ _ _ _ h => h, fun _ _ _ _ h => h, trivial⟩) ⟨fun x hx => (by simp only [List.mem_cons, List.not_mem_nil, or_false] at hx; subst hx; exact ⟨(show ¬ ((9 : Nat) = 8) by decide), n20.symm⟩), ⟨fun x hx => (by cases hx), trivial⟩⟩ (fun e he => by simp only [List.mem_cons, List.not_mem_nil, or_false] at he; rcases he with rfl | rfl; exact ⟨fun cs_ W_ W2_ hb_ h_ => by obtain ⟨t1_, t2_, e_, g1_, g2_⟩ := h_; exact ⟨t1_, t2_, e_, g1_.below hb_, g2_.below hb_⟩, fun x hx hne cs_ W_ W2_ ho_ h_ => by obtain ⟨t1_, t2_, e_, g1_, g2_⟩ := h_; simp only [List.mem_cons, List.not_mem_nil, or_false] at hx; rcases hx with rfl | rfl; exact absurd rfl hne; exact ⟨t1_, t2_, e_, g1_.only ho_ (.head _), g2_.only ho_ (.head _)⟩⟩; exact ⟨fun _ _ _ _ h => h, fun _ _ _ _ _ _ _ h => h⟩) (mB k24 k27) ?_ ?_
 .
  refine Ql.cons rfl (fun Wd hd hbs_ => ?_) ?_
  .
   have k24 := hbs_ _ (.head _) (show 0 ∈ ([5, 3, 0, 1, 2, 3, 4, 5] : List Nat) by decide)
   exact Dd (Qg rfl Qf rfl k24.range rfl) rfl
  refine Ql.cons rfl (fun Wd hd hbs_ => ?_) ?_
  .
   have k27 := hbs_ _ (.tail _ (.head _)) (show 1 ∈ ([6, 8, 0, 1, 2, 3, 4, 5, 6, 8] : List Nat) by decide)
   exact Dd (Qg rfl Qr rfl k27.range rfl) rfl
  refine Ql.cons rfl (fun Wd hd hbs_ => ?_) ?_
  .
   exact DR.mono (D3 (r := [Value.int .u8 0]) rfl XY (fun e he => by rw [Tryd.underlying40] at he; cases he; kernel_rfl) rfl rfl (by decide) (by decide) (by decide) (by decide)) (fun v W' h => ⟨h.2.1, by have h_ := h.1.rd (L := W15.heap.size :: W4.heap.size :: L) (fun e_ => absurd ((hL.chgM hd) _ e_) (Nat.lt_irrefl _)); rw [<- List.map_replicate] at h_; exact h_⟩)
  refine Ql.cons rfl (fun Wd hd hbs_ => ?_) ?_
  .
   intro u3_2 p3_2
   have fk1 := fk1.chgM hd (mB (.tail _ (.head _)) (.head _))
   have fk2 := fk2.chgM hd (mB (.tail _ (.head _)) (.head _))
   exact DR.mono (QO rfl Tryd.func18 rfl rfl rfl (Qc1 eA (hL.chgM hd) fk1 fk2 p3_2 (by decide) oF.byt (Qd9 150) (by decide) (by decide) (hT.below (hd.toBelow hB (mB l9 l21))))) (fun v W_ h => ⟨h.2, h.1⟩)
  refine Ql.cons rfl (fun Wd hd hbs_ => ?_) ?_
  .
   intro u3_3 p3_3
   exact DV.dr (Qt rfl rfl) ⟨Below.refl _ _, p3_3⟩
  refine Ql.cons rfl (fun Wd hd hbs_ => ?_) ?_
  .
   intro u3_4 p3_4
   obtain ⟨t1_, t2_, rfl, g1_, g2_⟩ := p3_4
   exact DV.dr (X7 rfl rfl rfl) ⟨Below.refl _ _, ⟨t1_, t2_, rfl, g1_, g2_⟩⟩
  refine Ql.cons rfl (fun Wd hd hbs_ => ?_) ?_
  .
   intro u3_4 p3_4
   obtain ⟨t1_, t2_, rfl, g1_, g2_⟩ := p3_4
   exact Dd (X7 rfl rfl rfl) rfl
  refine Ql.cons rfl (fun Wd hd hbs_ => ?_) ?_
  .
   intro u3_4 p3_4
   obtain ⟨t1_, t2_, rfl, g1_, g2_⟩ := p3_4
   exact Dd (X7 rfl rfl rfl) rfl
  refine Ql.hit rfl (fun Wd hd hb_ => ?_) ?_
  .
   intro u3_5 p3_5 u3_3 p3_3 u3_2 p3_2 u3_3 p3_3 u3_4 p3_4 u3_5 p3_5
   obtain ⟨t1_, t2_, rfl, g1_, g2_⟩ := p3_5
   exact DR.mono (QB (vs := [t1_, t2_, .int .i64 (-1), .bool false]) rfl Qj rfl rfl rfl (oC g1_.one (oC g2_.one (oC rfl (oC rfl Qk)))) hb_ rfl rfl) (fun _ W_ h => ⟨h.2, ⟨_, h.1, t1_, t2_, rfl, g1_.only h.2 (.tail _ (.head _)), g2_.only h.2 (.tail _ (.head _))⟩, trivial⟩)
  refine Ql.hit rfl (fun Wd hd hb_ => ?_) ?_
  .
   intro u3_8 p3_8 u3_2 p3_2 u3_3 p3_3 u3_4 p3_4 u3_5 p3_5 u3_8 p3_8
   exact (QB (vs := [.int .i64 0, .int .i64 1, .int .i64 3]) rfl Qv rfl rfl rfl (oC rfl (oC rfl (oC rfl Qk))) hb_ rfl rfl).mono (fun _ W' h => ⟨h.2, XC.is h.1, trivial⟩)
  exact trivial
 .
  intro W29 hd hq_
  replace q1 := q1.chgM hd (mB (.tail _ (.head _)) (.head _))
  replace q2 := q2.chgM hd (mB (.tail _ (.head _)) (.head _))
  replace fk1 := fk1.chgM hd (mB (.tail _ (.head _)) (.head _))
  replace fk2 := fk2.chgM hd (mB (.tail _ (.head _)) (.head _))
  have k30 := hq_ _ (.head _)
  obtain ⟨_, k30, t33, t34, rfl, j31, j32⟩ := k30
  have k35 := hq_ _ (.tail _ (.head _))
  replace k35 := XC.blk k35
  replace hB := hd.toBelow hB (mB l9 l21)
  replace hL := hL.chgM hd
  intro u3_2 p3_2
  intro u3_3 p3_3
  intro u3_4 p3_4
  intro u3_5 p3_5
  intro _ _
  intro _ _
  refine Pu rfl (Ni (hK28 (Sq fun K36 hK36 => (Sq fun K37 hK37 => (Rg (Pu rfl (Va (Xr rfl rfl rfl) rfl rfl ?_)))))))
  refine Pu rfl (Pu rfl (Va (Xr rfl rfl rfl) rfl rfl (Pu rfl (Pu rfl (Pu rfl (Va (Xr rfl rfl rfl) rfl rfl (Pu rfl ?_)))))))
  refine Pu rfl (Va (Qm (o1 := 2) rfl Xf rfl rfl) rfl rfl (Va (Qi rfl Qu rfl (k35.cell (k := 2) rfl)) rfl rfl (Va (Xr rfl rfl rfl) rfl rfl (Pu rfl (Pu rfl (Va (Qm (o1 := 0) rfl ZM rfl rfl) rfl rfl (Va (Qi rfl Qu rfl (k35.cell (k := 0) rfl)) rfl rfl ?_)))))))
  refine Va (Xr rfl rfl rfl) rfl rfl (Pu rfl (Pu rfl (Va (Qm (o1 := 1) rfl XN rfl rfl) rfl rfl (Va (Qi rfl Qu rfl (k35.cell (k := 1) rfl)) rfl rfl (Va (Xr rfl rfl rfl) rfl rfl (Pu rfl (Ni ?_)))))))
  refine hK37 (WC.condF rfl (WC.skip (hK36 (Sq fun K38 hK38 => ?_))))
  obtain ⟨SO, eO0, oO⟩ := oA.next1 (by decide)
  have eO : YM SA [] (-1) false = ((⟨SO, [], -1, false, 0⟩, 1, 2, 3), [List.replicate 150 0]) := eO0
  refine Rg (Va (Qg rfl Qf rfl k30.range rfl) rfl rfl ?_)
  refine Ge (QO rfl Tryd.func12 rfl rfl rfl (QeA eO hL j31 j32 (by decide) oA.byt (hT.below hB))) rfl rfl ?_
  rintro _ W40 ⟨⟨o1, o2, ov, or, rfl, ok1, ok2, ok3, ok4, ok5, ok6⟩, b39⟩
  replace hB := Qe hB b39
  obtain ⟨r0, rfl, er0⟩ := QdD ok6
  have hr0 := ok4 r0 (.head _)
  refine Pu rfl (Pu rfl (Pu rfl (Pu rfl (Pu rfl ?_))))
  refine Ge (Qs rfl QU rfl) rfl rfl ?_
  rintro _ W41 ⟨rfl, k42, b43, z44⟩
  have l47 := hB.size
  replace ok1 := ok1.more b43 (Nat.le_refl _)
  replace ok2 := ok2.more b43 (Nat.le_refl _)
  replace ok3 := ok3.more b43 (Nat.le_refl _)
  replace hr0 := hr0.more b43 (Nat.le_refl _)
  replace hB := Qe hB b43
  refine Ge (Qs rfl XE rfl) rfl rfl ?_
  rintro _ W48 ⟨rfl, k49, b50, z51⟩
  have n54 : W40.heap.size ≠ W41.heap.size := Nat.ne_of_lt k42.lt
  have l55 := hB.size
  replace ok1 := ok1.more b50 (Nat.le_refl _)
  replace ok2 := ok2.more b50 (Nat.le_refl _)
  replace ok3 := ok3.more b50 (Nat.le_refl _)
  replace hr0 := hr0.more b50 (Nat.le_refl _)
  replace k42 := k42.below b50
  replace hB := Qe hB b50
  refine WL.do (Qh (cs' := [o1, o2, .int .i64 (-1), .bool false]) (vs := [o1, o2, .int .i64 (-1), .bool false]) rfl Qj rfl rfl rfl (oC ok1.one (oC ok2.one (oC rfl (oC rfl Qk)))) k42 rfl (nB rfl) rfl) rfl ?_
  rintro _ W56 ⟨k58, o57⟩
  replace k49 := k49.other o57 n54.symm
  clear k42
  replace ok3 := ok3.only o57 (.tail _ (.head _))
  replace hr0 := hr0.only o57 (.tail _ (.head _))
  replace hB := o57.below hB l47
  refine WL.do (Qh (cs' := [.int .i64 1, .int .i64 2, .int .i64 3]) (vs := [.int .i64 1, .int .i64 2, .int .i64 3]) rfl Qv rfl rfl rfl (oC rfl (oC rfl (oC rfl Qk))) k49 rfl (nB rfl) rfl) rfl ?_
  rintro _ W59 ⟨k61, o60⟩
  clear k49
  replace ok3 := ok3.only o60 (.head _)
  replace hr0 := hr0.only o60 (.head _)
  replace hB := o60.below hB l55
  refine Pu rfl (Pu rfl (Ni (hK38 (Sq fun K62 hK62 => (Rg (Pu rfl (Va (Zo rfl rfl rfl) rfl rfl ?_)))))))
  refine Pu rfl (Va (Qg rfl Qr rfl k61.range rfl) rfl rfl (Va (QP rfl rfl (Qad _ _ _)) rfl rfl (Va (G3 rfl rfl rfl) rfl rfl (Pu rfl (Pu rfl (Pu rfl (Va (QY rfl YB rfl ok3) rfl rfl ?_)))))))
  refine Va (Zo rfl rfl rfl) rfl rfl (Pu rfl (Pu rfl (Pu rfl ?_)))
  refine Ge (XR 0 rfl YB rfl rfl ok3 (by omega) (XL (enc := JD) rfl)) rfl rfl ?_
  rintro u63 _ ⟨rfl, p64⟩
  refine Va (ZR rfl Zj rfl p64) rfl rfl (Va (QY rfl QF rfl hr0) rfl rfl (Va (Zo rfl rfl rfl) rfl rfl (Pu rfl (Pu rfl (Ni (hK62 ?_))))))
  exact WC.ret fun a_ ha_ => hQ (QI rfl (.tmp rfl) (by rw [er0]; rfl) hB ha_)


structure WrQ where
 s : Nat
 t : Nat
 dt : Nat
 pt : Value -> World -> Prop
 q : Value -> World -> Prop
 rel : World -> World -> Prop
section
variable {P : Program} {N : Nat} {sd : List (Option Tmp × VS)} {dl : List (List Nat)}
structure OkQ (w : World) (sd : List (Option Tmp × VS)) (dl : List (List Nat)) (m : Nat) (a : WrQ) : Prop where
 ht : sd[a.t]? = some (some a.dt, .by a.pt)
 hs : sd[a.s]? = some (none, .by fun _ _ => True)
 hts : ((dl[a.s]?).getD []).contains a.t = true
 hne : a.s ≠ a.t
 hsm : a.s < m
 hrel : VS.monoR a.rel sd
 hq : ∀ u W W', Below W.heap.size W W' -> a.q u W -> a.q u W'
 hbr : ∀ W W', Below w.heap.size w W -> a.rel W W' -> Below w.heap.size w W'
end
section
variable {base hi : Nat} {L L' : List Nat} {S : List (List Int)} {t1 t2 u : Value} {cs : List JJ} {w w' : World}
theorem QC.moreL {s : Nat} {v : Value} {rs : List (List Value)} (h : QC s L w v rs) (hb : Below w.heap.size w w') : ∀ (L' : List Nat), (∀ x ∈ L', x ∈ L \/ w.heap.size <= x) -> QC s L' w' v rs
  | [], _ => (h.below hb).less (fun x hx => by cases hx)
  | x :: L', hl => by
    have ih := QC.moreL h hb L' fun y hy => hl y (.tail _ hy)
    rcases hl x (.head _) with hx | hx
    . obtain ⟨h0, hr, a, cap, h1, h2, h3, h4, h5⟩ := ih
      obtain ⟨_, _, a', cap', h1', _, _, _, h5'⟩ := h.below hb
      rw [h1] at h1'
      cases h1'
      refine ⟨h0, hr, a, cap, h1, h2, h3, h4, fun hn => ?_⟩
      obtain ⟨X, o, e, hX, hc⟩ := h5 hn
      obtain ⟨X', o', e', hX', _⟩ := h5' hn
      rw [e] at e'
      cases e'
      exact ⟨X, o, e, fun q => by rcases List.mem_cons.1 q with q | q; exact hX' (q ▸ hx); exact hX q, hc⟩
    . obtain ⟨h0, hr, a, cap, h1, h2, h3, h4, h5⟩ := ih
      obtain ⟨_, _, a', cap', h1', _, _, _, h5'⟩ := h
      rw [h1] at h1'
      cases h1'
      refine ⟨h0, hr, a, cap, h1, h2, h3, h4, fun hn => ?_⟩
      obtain ⟨X, o, e, hX, hc⟩ := h5 hn
      obtain ⟨X', o', e', hX', hc'⟩ := h5' hn
      rw [e] at e'
      cases e'
      have hne := h0
      have hlen : 0 < rs.flatten.length := by
        rw [ZC hr]
        exact Nat.mul_pos (List.length_pos_iff.2 hn) h0
      have hXl : X < w.heap.size := by
        have := hc' 0 _ (List.getElem?_eq_getElem hlen)
        exact World.block_lt_of_cell? w _ this
      exact ⟨X, o, e, fun q => by rcases List.mem_cons.1 q with q | q; omega; exact hX q, hc⟩
end
section
variable {P : Program} {ops : Array Oper} {o : Oper} {N : Nat} {f : Fl} {w : World}
end
section
variable {base hi : Nat} {L : List Nat} {S : List (List Int)} {a e : Int} {cs : List JJ} {cv v : Value} {w w' : World}
end

section
variable {P : Program} {ops : Array Oper} {o : Oper} {N : Nat} {f : Fl} {w : World}
theorem Qd2 {t s bytes base : Nat} {x y : Operand} {u v2 : Value} {rs news : List (List Value)} {L : List Nat} {Cs : List (Nat × List Value)} (ho : o.op = .call { callee := .builtin .append, args := #[x, y], argTypes := #[t, t] }) (ht : Hd P t s bytes = true) (hx : ev f x = some u) (hy : ev f y = some v2)
    (h : Vl s base L rs u w) (h2 : QC s [] w v2 news) (h1 : ∀ r ∈ news, ∀ u ∈ r, u.oneCell' = true) (hm : rs.length + news.length <= maxLen) (hby : (rs.length + news.length) * bytes <= 140737488355328) (hb : base <= w.heap.size) (hL : LL L w) (hC : ∀ c ∈ Cs, Xe w c.1 c.2 /\ c.1 ∈ L) (hne : news ≠ []) (hw : QN ops o f = some true := by rfl) : DR P ops o N f w fun u' W => Vl s base L (rs ++ news) u' W /\ Below base w W /\ w.heap.size <= W.heap.size /\ ∀ c ∈ Cs, Xe W c.1 c.2 := fun a ha => by
  rcases h with ⟨rfl, rfl, h0⟩ | ⟨D, q1, hDL, hO⟩
  . refine QJ.mono (JE (rs := []) (L := []) ho ht hx hy (QC.nil h0) h2 (by simpa using hne) (by simpa using hm) (by simpa using hby) hw a ha) fun v W ⟨k1, k2, k3⟩ => ⟨.inr ⟨w.heap.size, hb, fun e => Nat.lt_irrefl _ (hL _ e), k1⟩, k2.mono hb, Nat.le_of_lt k3, fun c hc => (hC c hc).1.below k2⟩
  . refine QJ.mono (Vt ho ht hx hy hO h2 h1 hm hby hw a ha) fun v W ⟨B', k1, k2⟩ => ⟨.inr ⟨B', k2.le q1 hb, ?_, k1⟩, k2.from_base q1 hb, k2.size, fun c hc => (hC c hc).1.grow k2 (fun e => hDL (e ▸ (hC c hc).2))⟩
    intro e
    have := k2.new
    rcases this with rfl | hh
    . exact hDL e
    . have := hL _ e; omega
theorem QcL {t bytes : Nat} {x3 x4 x5 x6 : Operand} {n3 n4 n5 n6 : Int} (ho : o.op = .buildSlice t 7 #[(0, .const (.int .u8 108)), (1, .const (.int .u8 111)), (2, .const (.int .u8 103)), (3, x3), (4, x4), (5, x5), (6, x6)]) (ht : Hd P t 1 bytes = true) (h3 : ev f x3 = some (.int .u8 n3)) (h4 : ev f x4 = some (.int .u8 n4)) (h5 : ev f x5 = some (.int .u8 n5)) (h6 : ev f x6 = some (.int .u8 n6)) (hw : QN ops o f = some true := by rfl) : DR P ops o N f w (Hi 1 w (Vq [108, 111, 103, n3, n4, n5, n6])) := by
 obtain ⟨e, i, Z, hu, hi, hZ, hs, rfl, hzs⟩ := YZ ht
 have hc : ∀ v : Value, ev f (Operand.const v) = some v := fun v => rfl
 refine Fv (ps := [(0, .int .u8 108), (1, .int .u8 111), (2, .int .u8 103), (3, .int .u8 n3), (4, .int .u8 n4), (5, .int .u8 n5), (6, .int .u8 n6)]) (rs := Vq [108, 111, 103, n3, n4, n5, n6]) ho hu hi hZ hs (by decide) (by simp [evl, hc, h3, h4, h5, h6]) (by omega) ?_ (by simp) rfl (by unfold maxLen; omega) hw
 rw [if_neg (by decide)]
 have hl : ∀ c : Array Value, c.size = 7 -> Instr.fill (fun k => some (k * 1, 1)) c [(0, .int .u8 108), (1, .int .u8 111), (2, .int .u8 103), (3, .int .u8 n3), (4, .int .u8 n4), (5, .int .u8 n5), (6, .int .u8 n6)] = some #[.int .u8 108, .int .u8 111, .int .u8 103, .int .u8 n3, .int .u8 n4, .int .u8 n5, .int .u8 n6] := fun c hc => by
  obtain ⟨l⟩ := c
  match l, hc with
  | [a, b, c, d, e, f, g], _ => simp [Instr.fill, Value.cells]
 exact hl _ (by simp)
end

theorem Qay (Qb : List (List Int)) (l : List (Int × List Int)) (i : Nat) : (XT (fun _ _ z => z) l Qb i).length = Qb.length := by rw [Gx l Qb i 0]; exact Z8 Qb l
theorem HW (d : DO) : (XI d).Qb.length = d.Qb.length := by
  unfold XI Xz
  split
  . split
    . rfl
    . split
      . rfl
      . split
        . rfl
        . exact Qay _ _ _
  . rfl
def ZH (Qb : List (List Int)) (Qa : List (Int × List Int)) (Qd : Int) (Qc : Bool) (q gen : Int) (recs : List (List Int)) : DO × Int × Int × Int :=
 if (Yy (Xx Qb Qa Qd Qc) (q * ((Qb.length : Int) / 2)) gen recs).err = 0 then (Yy (Xx Qb Qa Qd Qc) (q * ((Qb.length : Int) / 2)) gen recs, q, gen, 1 + (Qz recs : Int)) else (Yy (Xx Qb Qa Qd Qc) (q * ((Qb.length : Int) / 2)) gen recs, 0, 0, 0)
theorem Qep {Qb : List (List Int)} {Qa : List (Int × List Int)} {Qd : Int} {Qc : Bool} {q gen : Int} {recs : List (List Int)} {X : DO} (hX : X = XI (QT (Xx Qb Qa Qd Qc) (q * ((Qb.length : Int) / 2)) (Zh gen 1 recs))) (he : ¬ X.err = 0) : ZH Qb Qa Qd Qc q gen recs = (X, 0, 0, 0) := by
 subst hX
 unfold ZH Yy
 rw [Gm he, Gn he, if_neg he]
theorem QbM {Qb : List (List Int)} {Qa : List (Int × List Int)} {Qd : Int} {Qc : Bool} {q gen : Int} {recs : List (List Int)} {X Y : DO} (hX : X = XI (QT (Xx Qb Qa Qd Qc) (q * ((Qb.length : Int) / 2)) (Zh gen 1 recs))) (hx : X.err = 0) (hY : Y = XI (QT (Xx X.Qb X.Qa X.Qd X.Qc) (q * ((X.Qb.length : Int) / 2)) [ZE gen (Qz recs : Int)])) : Y = Yy (Xx Qb Qa Qd Qc) (q * ((Qb.length : Int) / 2)) gen recs := by
 have hl : X.Qb.length = Qb.length := by rw [hX, HW, Vz]; rfl
 have hd : Xx X.Qb X.Qa X.Qd X.Qc = X := by
  obtain ⟨a, b, c, d, e⟩ := X
  cases hx
  rfl
 rw [hY, hl, hd, hX]
 rfl
theorem pqo {qs : List PV} {gen : Int} {recs : List (List Int)} (h : qs.map Prod.fst = Zh gen 1 recs) (hb : ∀ r ∈ recs, ZX r) (hc : Qz recs <= 90000) : ∀ q ∈ qs, (0 <= q.1.idx /\ q.1.idx <= 100000) /\ ZX q.1.dat /\ q.1.dat.length <= 100 /\ (0 <= q.1.mks /\ q.1.mks <= 255) := fun q hq => by
 have hm : q.1 ∈ Zh gen 1 recs := h ▸ List.mem_map_of_mem (f := Prod.fst) hq
 obtain ⟨k, hk⟩ := List.mem_iff_getElem?.1 hm
 have hl := (List.getElem?_eq_some_iff.1 hk).1
 rw [ZQ] at hl
 obtain ⟨h1, _, h3, h4, h5, r, hr, j, h6⟩ := Vg hk
 exact ⟨by omega, by rw [h6]; exact JG (hb r hr) j, h5, by omega⟩
theorem Qe8 {L : List Nat} {w : World} {qs : List PV} (h : Yv L w qs) : ∀ r ∈ qs.map YU, ∀ u ∈ r, u.oneCell' = true := fun r hr u hu => by
 obtain ⟨q, hq, rfl⟩ := List.mem_map.1 hr
 simp only [List.mem_cons, List.not_mem_nil, or_false] at hu
 rcases hu with rfl | rfl | rfl | rfl
 . rfl
 . rfl
 . rfl
 . exact (h q hq).one
theorem Qb7 (gen fr : Int) (rec : List Int) {qs : List PV} (h : qs.map Prod.fst = Xo gen fr rec) : qs.map YU ≠ [] := fun e => by
 have e1 := congrArg List.length h
 have e2 := List.map_eq_nil_iff.1 e
 rw [e2, XK] at e1
 have := J2 rec
 simp at e1
 omega
theorem Vl.rd {s base : Nat} {L : List Nat} {rs : List (List Value)} {u : Value} {w : World} (h : Vl s base L rs u w) : QC s L w u rs := by
 rcases h with ⟨rfl, rfl, h0⟩ | ⟨B, h1, h2, h3⟩
 . exact QC.nil h0
 . exact h3.rd h2
theorem Qbb (a d : Value) (ha : ∃ n, a = .int .i64 n) (hd : ∃ x n c, d = .slice x n c) : Tryd.prog.built 96 [(0, a), (2, .int .u8 3), (3, d)] = some [a, .int .i64 0, .int .u8 3, d].toArray := by
 obtain ⟨n, rfl⟩ := ha
 obtain ⟨x, y, c, rfl⟩ := hd
 kernel_rfl
theorem UW : Tryd.prog.built 30 [] = some [Value.int .i64 0, .int .i64 0, .int .i64 0].toArray := by kernel_rfl
theorem G1 {P : Program} {ops : Array Oper} {o : Oper} {N : Nat} {f : Fl} {w : World} {t s s' : Nat} {L : List Nat} {x : Operand} {v : Value} {rs : List (List Value)} (ho : o.op = .call { callee := .builtin .len, args := #[x], argTypes := #[t] }) (ht : XZ P t s' = true) (hx : ev f x = some v) (hr : QC s L w v rs) (hw : QN ops o f = some true := by rfl) : DV P ops o N f w (.int .i64 (rs.length : Int)) := Yj ho ht hx hr hw
set_option maxHeartbeats 1000000 in
theorem Qeo (Qb : List (List Int)) (Qa : List (Int × List Int)) (Qd : Int) (Qc : Bool) (s1 s2 : Value) (q gen : Int) (rs : List JJ) (rv : Value) (w : World) (L : List Nat) (hL : LL L w) (h1 : QC 128 L w s1 (Qb.map Qq)) (h2 : QC 129 L w s2 (Qa.map QD)) (h3 : QC 1 L w rv (rs.map JD)) (hrs : YP L w rs)  (hfu : -9223372036854775808 <= Qd /\ Qd <= 9223372036854775807) (hq : q = 0 \/ q = 1) (hsl : Qb.length <= 2048) (hrb : ∀ r ∈ rs, ZX r.1 /\ r.1.length <= 4096) (hcnt : Qz (rs.map Prod.fst) <= 90000) (hR : UD w) : CV Tryd.prog 37 [.agg #[s1, s2, .int .i64 Qd, .bool Qc], .int .i64 q, .int .i64 gen, rv] w fun v W => ∃ t1 t2, v = .tuple #[.agg #[t1, t2, .int .i64 (ZH Qb Qa Qd Qc q gen (rs.map Prod.fst)).1.Qd, .bool (ZH Qb Qa Qd Qc q gen (rs.map Prod.fst)).1.Qc], .agg #[.int .i64 (ZH Qb Qa Qd Qc q gen (rs.map Prod.fst)).2.1, .int .i64 (ZH Qb Qa Qd Qc q gen (rs.map Prod.fst)).2.2.1, .int .i64 (ZH Qb Qa Qd Qc q gen (rs.map Prod.fst)).2.2.2], .int .i64 (ZH Qb Qa Qd Qc q gen (rs.map Prod.fst)).1.err] /\ QC 128 L W t1 ((ZH Qb Qa Qd Qc q gen (rs.map Prod.fst)).1.Qb.map Qq) /\ QC 129 L W t2 ((ZH Qb Qa Qd Qc q gen (rs.map Prod.fst)).1.Qa.map QD) := by
 have h10 := h1
 have h20 := h2
 have hrs0 := hrs
 have h30 := h3
 refine QL (N := 81) (f := [(0, .agg #[s1, s2, .int .i64 Qd, .bool Qc]), (1, .int .i64 q), (2, .int .i64 gen), (3, rv)]) Tryd.func37 rfl rfl rfl rfl fun Q hQ hE => ?_
 have hB := Below.refl w.heap.size w
 have h1m : Qb.length <= maxLen := by have := h1.len; rwa [List.length_map] at this
 unfold maxLen at h1m
 have h2m : Qa.length <= maxLen := by have := h2.len; rwa [List.length_map] at this
 unfold maxLen at h2m
 have h3m : rs.length <= maxLen := by have := h3.len; rwa [List.length_map] at this
 unfold maxLen at h3m
 refine Sq fun K1 hK1 => (Rg ?_)
 refine Ge (Xb rfl rfl rfl) rfl rfl ?_
 rintro _ W2 ⟨rfl, k3, b4, z5⟩
 have l6 := hB.size
 replace h1 := h1.more b4 (Nat.le_refl _)
 replace h2 := h2.more b4 (Nat.le_refl _)
 replace h3 := h3.more b4 (Nat.le_refl _)
 replace hB := Qe hB b4
 replace hL := LL.more hL z5
 refine Ge (Qs rfl QU rfl) rfl rfl ?_
 rintro _ W7 ⟨rfl, k8, b9, z10⟩
 have l12 := hB.size
 replace h1 := h1.more b9 (Nat.le_refl _)
 replace h2 := h2.more b9 (Nat.le_refl _)
 replace h3 := h3.more b9 (Nat.le_refl _)
 replace k3 := k3.below b9
 replace hB := Qe hB b9
 replace hL := LL.more hL z10
 refine Ge (Qs rfl XE rfl) rfl rfl ?_
 rintro _ W13 ⟨rfl, k14, b15, z16⟩
 have n18 : W2.heap.size ≠ W7.heap.size := Nat.ne_of_lt k8.lt
 have l19 := hB.size
 replace h1 := h1.more b15 (Nat.le_refl _)
 replace h2 := h2.more b15 (Nat.le_refl _)
 replace h3 := h3.more b15 (Nat.le_refl _)
 replace k3 := k3.below b15
 replace k8 := k8.below b15
 replace hB := Qe hB b15
 replace hL := LL.more hL z16
 refine Pu rfl (Ni (hK1 (Sq fun K20 hK20 => (Rg (Pu rfl (Ni (hK20 ?_)))))))
 refine Sq fun K21 hK21 => (Sq fun K22 hK22 => (Rg (Pu rfl (Ni (hK22 (WC.block ?_))))))
 have h5 : Vl 4 w.heap.size (W7.heap.size :: W2.heap.size :: w.heap.size :: L) (([] : List PV).map YU) (.slice none 0 0) W13 := .inl ⟨rfl, rfl, by decide⟩
 refine WC.loop3 (fun (i : Nat) (qs : List PV) (ov : Value) => [(1, .int .i64 q), (2, .int .i64 gen), (3, rv), (4, .pointer (some ⟨w.heap.size, 0, none⟩)), (8, .pointer (some ⟨W2.heap.size, 0, none⟩)), (9, .pointer (some ⟨W7.heap.size, 0, none⟩)), (10, .int .i64 0), (12, .int .i64 (i : Int)), (11, ov)]) (fun (i : Nat) (qs : List PV) (ov : Value) W => i <= rs.length /\ qs.map Prod.fst = Zh gen 1 ((rs.take i).map Prod.fst) /\ qs.length = Qz ((rs.take i).map Prod.fst) /\ Yv L w qs /\ Below w.heap.size w W /\ LL (W7.heap.size :: W2.heap.size :: w.heap.size :: L) W /\ QC 128 (W7.heap.size :: W2.heap.size :: w.heap.size :: L) W s1 (Qb.map Qq) /\ QC 129 (W7.heap.size :: W2.heap.size :: w.heap.size :: L) W s2 (Qa.map QD) /\ QC 1 (W7.heap.size :: W2.heap.size :: w.heap.size :: L) W rv (rs.map JD) /\ Vl 4 w.heap.size (W7.heap.size :: W2.heap.size :: w.heap.size :: L) (qs.map YU) ov W /\ Xe W w.heap.size [s1, s2, .int .i64 Qd, .bool Qc] /\ Xe W W2.heap.size [.slice none 0 0, .slice none 0 0, .int .i64 0, .bool false] /\ Xe W W7.heap.size [.int .i64 0, .int .i64 0, .int .i64 0]) (fun (i : Nat) (qs : List PV) (ov : Value) => rs.length - i) 0 [] (.slice none 0 0) (by repeat first | exact trivial | refine aR ?_ | refine aI (by omega) ?_) ⟨Nat.zero_le _, rfl, rfl, (fun q hq => by cases hq), hB, hL, h1, h2, h3, h5, k3, k8, k14⟩ ?_
 clear h1 h2 h3 h5 k3 k8 k14 hB hL
 rintro K23 i qs ov W24 ⟨hi, hqf, hql, hqs, hB, hL, h1, h2, h3, h5, k3, k8, k14⟩ hK23
 refine Sq fun K25 hK25 => (Sq fun K26 hK26 => (Rg (Pu rfl (Pu rfl (Va (QY rfl YB rfl h3) rfl rfl (Va (Xh rfl rfl rfl) rfl rfl (Ni ?_)))))))
 refine hK26 ?_
 refine WC.cond rfl (fun c27 => ?_) (fun c27 => ?_)
 .
  replace c27 := dT c27
  refine WC.skip (hK25 (Sq fun K28 hK28 => (WC.block ?_)))
  obtain ⟨r29, e30⟩ : ∃ x, rs[i]? = some x := ⟨_, List.getElem?_eq_getElem (by omega)⟩
  have hrm := List.mem_of_getElem? e30
  have hcs : Qz ((rs.take (i + 1)).map Prod.fst) = Qz ((rs.take i).map Prod.fst) + ZV r29.1 := by rw [<- ZT, List.take_add_one, e30, List.map_append]; rfl
  have hct : Qz ((rs.take (i + 1)).map Prod.fst) <= Qz (rs.map Prod.fst) := by rw [List.map_take]; exact KA _
  refine Rg (Pu rfl (Pu rfl (Pu rfl ?_)))
  refine Ge (XR i rfl YB rfl rfl h3 (by omega) (XL (enc := JD) e30)) rfl rfl ?_
  rintro u31 _ ⟨rfl, p32⟩
  refine Va (ZR rfl Zj rfl p32) rfl rfl (Pu rfl (Pu rfl (Va (ZS (G1 rfl YA rfl h5.rd) (show _ = Value.int .i64 ((Qz ((rs.take i).map Prod.fst) : Nat) : Int) by rw [List.length_map, hql])) rfl rfl (Va (QR (r := (1 + (Qz ((rs.take i).map Prod.fst) : Int))) rfl rfl rfl (Qn (by omega))) rfl rfl ?_))))
  refine Ge (QO rfl Tryd.func46 rfl rfl rfl (F1 gen (1 + (Qz ((rs.take i).map Prod.fst) : Int)) r29.1 r29.2 w W24 L (fun x hx => hL x (.tail _ (.tail _ (.tail _ hx)))) (fun x hx => hL x (.tail _ (.tail _ (.tail _ hx)))) hB (hrs0 r29 hrm) (by omega) (hrb r29 hrm).2)) rfl rfl ?_
  rintro v6 W34 ⟨⟨qs2, h6, hq2f, hq2s⟩, b33⟩
  replace h1 := h1.below b33
  replace h2 := h2.below b33
  replace h3 := h3.below b33
  replace h5 := h5.below b33
  replace k3 := k3.below b33
  replace k8 := k8.below b33
  replace k14 := k14.below b33
  replace hB := Qe hB b33
  replace hL := LL.below hL b33
  have hq2l : qs2.length = ZV r29.1 := by rw [<- XK, <- hq2f, List.length_map]
  have h6r := h6.rd (L := []) (fun x hx => by cases hx)
  refine Ge (Qd2 (base := w.heap.size) (Cs := [(w.heap.size, [s1, s2, .int .i64 Qd, .bool Qc]), (W2.heap.size, [.slice none 0 0, .slice none 0 0, .int .i64 0, .bool false]), (W7.heap.size, [.int .i64 0, .int .i64 0, .int .i64 0])]) rfl Yr rfl rfl h5 h6r (Qe8 hq2s) (by rw [List.length_map, List.length_map]; unfold maxLen; omega) (by rw [List.length_map, List.length_map]; omega) hB.size hL (fun c hc => by simp only [List.mem_cons, List.not_mem_nil, or_false] at hc; rcases hc with rfl | rfl | rfl; exact ⟨k3, (.tail _ (.tail _ (.head _)))⟩; exact ⟨k8, (.tail _ (.head _))⟩; exact ⟨k14, (.head _)⟩) (Qb7 _ _ _ hq2f)) rfl rfl ?_
  rintro u35 W36 ⟨h52, b37, z38, hk39⟩
  replace k3 := hk39 _ (.head _)
  replace k8 := hk39 _ (.tail _ (.head _))
  replace k14 := hk39 _ (.tail _ (.tail _ (.head _)))
  replace hB := hB.trans b37
  replace hL : LL (W7.heap.size :: W2.heap.size :: w.heap.size :: L) W36 := fun x hx => Nat.lt_of_lt_of_le (hL x hx) z38
  replace h5 : Vl 4 w.heap.size (W7.heap.size :: W2.heap.size :: w.heap.size :: L) ((qs ++ qs2).map YU) u35 W36 := by rw [List.map_append]; exact h52
  replace h1 := QC.moreL h10 hB (W7.heap.size :: W2.heap.size :: w.heap.size :: L) (fun x_ hx_ => by simp only [List.mem_cons] at hx_; rcases hx_ with rfl | rfl | rfl | hx_; exact .inr l19; exact .inr l12; exact .inr l6; exact .inl hx_)
  replace h2 := QC.moreL h20 hB (W7.heap.size :: W2.heap.size :: w.heap.size :: L) (fun x_ hx_ => by simp only [List.mem_cons] at hx_; rcases hx_ with rfl | rfl | rfl | hx_; exact .inr l19; exact .inr l12; exact .inr l6; exact .inl hx_)
  replace h3 := QC.moreL h30 hB (W7.heap.size :: W2.heap.size :: w.heap.size :: L) (fun x_ hx_ => by simp only [List.mem_cons] at hx_; rcases hx_ with rfl | rfl | rfl | hx_; exact .inr l19; exact .inr l12; exact .inr l6; exact .inl hx_)
  refine Pu rfl (Ni (hK28 (Rg (Pu rfl (Va (QR (r := (i : Int) + 1) rfl rfl rfl (Qn (by omega))) rfl rfl (Pu rfl (Ni ?_)))))))
  exact hK23 (i + 1) (qs ++ qs2) u35 ⟨(by omega), (by rw [List.map_append, hqf, List.take_add_one, e30, List.map_append, Option.toList_some, List.map_cons, List.map_nil, JY, hq2f]), (by rw [List.length_append, hql, hq2l, hcs]), (fun q hq => by rcases List.mem_append.1 hq with h_ | h_; exact hqs q h_; exact hq2s q h_), hB, hL, h1, h2, h3, h5, k3, k8, k14⟩ (by omega) (by repeat first | exact trivial | refine aR ?_ | refine aI (by omega) ?_)
 .
  replace c27 := dF c27
  refine WC.exit ?_
  refine hK21 (Sq fun K40 hK40 => ?_)
  have hie : i = rs.length := by omega
  have hqa : qs.map Prod.fst = Zh gen 1 (rs.map Prod.fst) := by rw [hqf, List.take_of_length_le (by omega)]
  have hqn : qs.length = Qz (rs.map Prod.fst) := by rw [hql, List.take_of_length_le (by omega)]
  have hpq := pqo hqa (fun r_ hr_ => by obtain ⟨x_, hx_, rfl⟩ := List.mem_map.1 hr_; exact (hrb x_ hx_).1) hcnt
  have hX1 : (XI (QT (Xx Qb Qa Qd Qc) (q * ((Qb.length : Int) / 2)) (qs.map Prod.fst))) = XI (QT (Xx Qb Qa Qd Qc) (q * ((Qb.length : Int) / 2)) (Zh gen 1 (rs.map Prod.fst))) := by rw [hqa]
  have hqW : Yv (W7.heap.size :: W2.heap.size :: w.heap.size :: L) W24 qs := fun q hq => QC.moreL (hqs q hq) hB (W7.heap.size :: W2.heap.size :: w.heap.size :: L) (fun x_ hx_ => by simp only [List.mem_cons] at hx_; rcases hx_ with rfl | rfl | rfl | hx_; exact .inr l19; exact .inr l12; exact .inr l6; exact .inl hx_)
  refine Rg (Va (Qg rfl Qf rfl k3.range rfl) rfl rfl (Pu rfl (Pu rfl ?_)))
  refine Ge (QO rfl Tryd.func47 rfl rfl rfl (EW Qb Qa Qd Qc _ _ q qs _ W24 _ hL h1 h2 h5.rd hqW hfu hq hsl hpq (hR.below hB))) rfl rfl ?_
  rintro _ W42 ⟨⟨x1, x2, rfl, y1, y2⟩, b41⟩
  replace h5 := h5.below b41
  replace k8 := k8.below b41
  replace k14 := k14.below b41
  replace hB := Qe hB b41
  replace hL := LL.below hL b41
  refine Pu rfl (Pu rfl (Pu rfl ?_))
  refine Ge (Qs rfl QU rfl) rfl rfl ?_
  rintro _ W43 ⟨rfl, k44, b45, z46⟩
  have n48 : W2.heap.size ≠ W42.heap.size := Nat.ne_of_lt k8.lt
  have n49 : W7.heap.size ≠ W42.heap.size := Nat.ne_of_lt k14.lt
  have l50 := hB.size
  replace h5 := h5.more b45 (Nat.le_refl _)
  replace y1 := y1.more b45 (Nat.le_refl _)
  replace y2 := y2.more b45 (Nat.le_refl _)
  replace k8 := k8.below b45
  replace k14 := k14.below b45
  replace hB := Qe hB b45
  replace hL := LL.more hL z46
  refine WL.do (Qh (cs' := [x1, x2, .int .i64 ((XI (QT (Xx Qb Qa Qd Qc) (q * ((Qb.length : Int) / 2)) (qs.map Prod.fst))).Qd), .bool ((XI (QT (Xx Qb Qa Qd Qc) (q * ((Qb.length : Int) / 2)) (qs.map Prod.fst))).Qc)]) (vs := [x1, x2, .int .i64 ((XI (QT (Xx Qb Qa Qd Qc) (q * ((Qb.length : Int) / 2)) (qs.map Prod.fst))).Qd), .bool ((XI (QT (Xx Qb Qa Qd Qc) (q * ((Qb.length : Int) / 2)) (qs.map Prod.fst))).Qc)]) rfl Qj rfl rfl rfl (oC y1.one (oC y2.one (oC rfl (oC rfl Qk)))) k44 rfl (nB rfl) rfl) rfl ?_
  rintro _ W51 ⟨k53, o52⟩
  replace k8 := k8.other o52 n48
  replace k14 := k14.other o52 n49
  clear k44
  replace h5 := h5.only o52 (.head _)
  replace y1 := y1.only o52 (.head _)
  replace y2 := y2.only o52 (.head _)
  replace hB := o52.below hB l50
  replace hL := LL.only hL o52
  refine Pu rfl (Ni (hK40 (Sq fun K54 hK54 => (Sq fun K55 hK55 => (Rg (Pu rfl (Va (Xr rfl rfl rfl) rfl rfl ?_)))))))
  refine Ni (hK55 ?_)
  refine WC.cond rfl (fun c56 => ?_) (fun c56 => ?_)
  .
   replace c56 := Q7 c56
   replace c56 := dF c56
   refine Sq fun K57 hK57 => (Rg (Va (Qg rfl Qf rfl k53.range rfl) rfl rfl (Va (QP rfl rfl UW) rfl rfl (Pu rfl ?_))))
   refine WL.do (Qh (cs' := [x1, x2, .int .i64 ((XI (QT (Xx Qb Qa Qd Qc) (q * ((Qb.length : Int) / 2)) (qs.map Prod.fst))).Qd), .bool ((XI (QT (Xx Qb Qa Qd Qc) (q * ((Qb.length : Int) / 2)) (qs.map Prod.fst))).Qc)]) (vs := [x1, x2, .int .i64 ((XI (QT (Xx Qb Qa Qd Qc) (q * ((Qb.length : Int) / 2)) (qs.map Prod.fst))).Qd), .bool ((XI (QT (Xx Qb Qa Qd Qc) (q * ((Qb.length : Int) / 2)) (qs.map Prod.fst))).Qc)]) rfl Qj rfl rfl rfl (oC y1.one (oC y2.one (oC rfl (oC rfl Qk)))) k8 rfl (nB rfl) rfl) rfl ?_
   rintro _ W58 ⟨k60, o59⟩
   replace k14 := k14.other o59 n18.symm
   clear k8
   replace y1 := y1.only o59 (.tail _ (.tail _ (.head _)))
   replace y2 := y2.only o59 (.tail _ (.tail _ (.head _)))
   replace hB := o59.below hB l12
   refine WL.do (Qh (cs' := [.int .i64 0, .int .i64 0, .int .i64 0]) (vs := [.int .i64 0, .int .i64 0, .int .i64 0]) rfl Qv rfl rfl rfl (oC rfl (oC rfl (oC rfl Qk))) k14 rfl (nB rfl) rfl) rfl ?_
   rintro _ W61 ⟨k63, o62⟩
   replace k60 := k60.other o62 n18
   clear k14
   replace y1 := y1.only o62 (.tail _ (.head _))
   replace y2 := y2.only o62 (.tail _ (.head _))
   replace hB := o62.below hB l19
   refine Pu rfl (Ni (hK57 ?_))
   exact WC.ret fun a_ ha_ => hQ (Xp rfl (.agg rfl Qf k60.range rfl) (.agg rfl Qr k63.range rfl) (.tmp rfl) (by rw [Qep hX1 (by first | assumption | exact Classical.not_not.1 (by assumption))]; exact ⟨_, _, rfl, (y1.less (fun x hx => (.tail _ (.tail _ (.tail _ (.tail _ hx)))))), (y2.less (fun x hx => (.tail _ (.tail _ (.tail _ (.tail _ hx))))))⟩) hB ha_)
  .
   replace c56 := Q4 c56
   replace c56 := dT c56
   refine WC.skip (hK54 (Sq fun K64 hK64 => (Rg (Pu rfl (Va (ZS (G1 rfl YA rfl h5.rd) (show _ = Value.int .i64 ((Qz (rs.map Prod.fst) : Nat) : Int) by rw [List.length_map, hqn])) rfl rfl (Pu rfl (Ni ?_)))))))
   refine hK64 (Sq fun K65 hK65 => (Rg (Pu rfl (Pu rfl (Va (XM (r := (Qz (rs.map Prod.fst) : Int) / 2 ^ (8 * 0) % 256) rfl Tryd.underlying3 Tryd.underlying5 rfl (by rw [Ji, show (2 : Int) ^ (8 * 0) = 1 from rfl, Int.ediv_one])) rfl rfl (Pu rfl (Va (Jd (r := (Qz (rs.map Prod.fst) : Int) / 2 ^ (8 * 1)) rfl rfl rfl (by decide) (by decide) rfl) rfl rfl ?_)))))))
   refine Va (XM (r := (Qz (rs.map Prod.fst) : Int) / 2 ^ (8 * 1) % 256) rfl Tryd.underlying3 Tryd.underlying5 rfl (Ji _)) rfl rfl (Pu rfl (Va (Jd (r := (Qz (rs.map Prod.fst) : Int) / 2 ^ (8 * 2)) rfl rfl rfl (by decide) (by decide) rfl) rfl rfl (Va (XM (r := (Qz (rs.map Prod.fst) : Int) / 2 ^ (8 * 2) % 256) rfl Tryd.underlying3 Tryd.underlying5 rfl (Ji _)) rfl rfl (Pu rfl (Va (Jd (r := (Qz (rs.map Prod.fst) : Int) / 2 ^ (8 * 3)) rfl rfl rfl (by decide) (by decide) rfl) rfl rfl (Va (XM (r := (Qz (rs.map Prod.fst) : Int) / 2 ^ (8 * 3) % 256) rfl Tryd.underlying3 Tryd.underlying5 rfl (Ji _)) rfl rfl ?_))))))
   refine Ge (QcL rfl XY rfl rfl rfl rfl) rfl rfl ?_
   rintro u70 W66 ⟨k67, b68, z69⟩
   have hs7 : QC 1 (W42.heap.size :: W7.heap.size :: W2.heap.size :: w.heap.size :: L) W66 u70 (Vq (ZE gen (Qz (rs.map Prod.fst) : Int)).dat) := k67.rd (hL.notin (Nat.le_refl _))
   replace y1 := y1.below b68
   replace y2 := y2.below b68
   replace k8 := k8.below b68
   replace k14 := k14.below b68
   replace k53 := k53.below b68
   replace hB := Qe hB b68
   replace hL := LL.below hL b68
   refine Va (QP rfl rfl (Qbb _ _ ⟨_, rfl⟩ hs7.slice)) rfl rfl ?_
   refine Ge (Qs rfl VA rfl) rfl rfl ?_
   rintro _ W71 ⟨rfl, k72, b73, z74⟩
   have n76 : W2.heap.size ≠ W66.heap.size := Nat.ne_of_lt k8.lt
   have n77 : W7.heap.size ≠ W66.heap.size := Nat.ne_of_lt k14.lt
   have n78 : W42.heap.size ≠ W66.heap.size := Nat.ne_of_lt k53.lt
   have l79 := hB.size
   replace y1 := y1.more b73 (Nat.le_refl _)
   replace y2 := y2.more b73 (Nat.le_refl _)
   replace hs7 := hs7.more b73 (Nat.le_refl _)
   replace k8 := k8.below b73
   replace k14 := k14.below b73
   replace k53 := k53.below b73
   replace hB := Qe hB b73
   replace hL := LL.more hL z74
   refine WL.do (Qh (cs' := [.int .i64 gen, .int .i64 0, .int .u8 3, u70]) (vs := [.int .i64 gen, .int .i64 0, .int .u8 3, u70]) rfl ZG rfl rfl rfl (oC rfl (oC rfl (oC rfl (oC hs7.one Qk)))) k72 rfl (nB rfl) rfl) rfl ?_
   rintro _ W80 ⟨k82, o81⟩
   replace k8 := k8.other o81 n76
   replace k14 := k14.other o81 n77
   replace k53 := k53.other o81 n78
   clear k72
   replace y1 := y1.only o81 (.head _)
   replace y2 := y2.only o81 (.head _)
   replace hs7 := hs7.only o81 (.head _)
   replace hB := o81.below hB l79
   replace hL := LL.only hL o81
   refine Ni (hK65 (Sq fun K83 hK83 => ?_))
   have he1 : (XI (QT (Xx Qb Qa Qd Qc) (q * ((Qb.length : Int) / 2)) (qs.map Prod.fst))).err = 0 := by first | assumption | exact Classical.not_not.1 (by assumption)
   have hl1 : (XI (QT (Xx Qb Qa Qd Qc) (q * ((Qb.length : Int) / 2)) (qs.map Prod.fst))).Qb.length = Qb.length := by rw [HW, Vz]; rfl
   have hf1 : EH (XI (QT (Xx Qb Qa Qd Qc) (q * ((Qb.length : Int) / 2)) (qs.map Prod.fst))) := EK (FL hfu)
   refine Rg (Va (Qg rfl Qf rfl k53.range rfl) rfl rfl (Pu rfl (Va (Qg rfl XB rfl k82.range rfl) rfl rfl ?_)))
   refine Ge (ZJ (r := [.int .i64 gen, .int .i64 0, .int .u8 3, u70]) rfl Yr (by decide) (by decide) rfl rfl rfl) rfl rfl ?_
   rintro u88 W84 ⟨k85, b86, z87⟩
   have h8 : QC 4 (W66.heap.size :: W42.heap.size :: W7.heap.size :: W2.heap.size :: w.heap.size :: L) W84 u88 ([((ZE gen (Qz (rs.map Prod.fst) : Int)), u70)].map YU) := k85.rd (hL.notin (Nat.le_refl _))
   replace y1 := y1.below b86
   replace y2 := y2.below b86
   replace hs7 := hs7.below b86
   replace k8 := k8.below b86
   replace k14 := k14.below b86
   replace k53 := k53.below b86
   replace hB := Qe hB b86
   replace hL := LL.below hL b86
   have hYY : (XI (QT (Xx (XI (QT (Xx Qb Qa Qd Qc) (q * ((Qb.length : Int) / 2)) (qs.map Prod.fst))).Qb (XI (QT (Xx Qb Qa Qd Qc) (q * ((Qb.length : Int) / 2)) (qs.map Prod.fst))).Qa (XI (QT (Xx Qb Qa Qd Qc) (q * ((Qb.length : Int) / 2)) (qs.map Prod.fst))).Qd (XI (QT (Xx Qb Qa Qd Qc) (q * ((Qb.length : Int) / 2)) (qs.map Prod.fst))).Qc) (q * (((XI (QT (Xx Qb Qa Qd Qc) (q * ((Qb.length : Int) / 2)) (qs.map Prod.fst))).Qb.length : Int) / 2)) ([((ZE gen (Qz (rs.map Prod.fst) : Int)), u70)].map Prod.fst))) = Yy (Xx Qb Qa Qd Qc) (q * ((Qb.length : Int) / 2)) gen (rs.map Prod.fst) := QbM hX1 he1 rfl
   have hYY : (XI (QT (Xx (XI (QT (Xx Qb Qa Qd Qc) (q * ((Qb.length : Int) / 2)) (qs.map Prod.fst))).Qb (XI (QT (Xx Qb Qa Qd Qc) (q * ((Qb.length : Int) / 2)) (qs.map Prod.fst))).Qa (XI (QT (Xx Qb Qa Qd Qc) (q * ((Qb.length : Int) / 2)) (qs.map Prod.fst))).Qd (XI (QT (Xx Qb Qa Qd Qc) (q * ((Qb.length : Int) / 2)) (qs.map Prod.fst))).Qc) (q * (((XI (QT (Xx Qb Qa Qd Qc) (q * ((Qb.length : Int) / 2)) (qs.map Prod.fst))).Qb.length : Int) / 2)) ([((ZE gen (Qz (rs.map Prod.fst) : Int)), u70)].map Prod.fst))) = Yy (Xx Qb Qa Qd Qc) (q * ((Qb.length : Int) / 2)) gen (rs.map Prod.fst) := QbM hX1 he1 rfl
   refine Ge (QO rfl Tryd.func47 rfl rfl rfl ((by have h_ := EW (XI (QT (Xx Qb Qa Qd Qc) (q * ((Qb.length : Int) / 2)) (qs.map Prod.fst))).Qb (XI (QT (Xx Qb Qa Qd Qc) (q * ((Qb.length : Int) / 2)) (qs.map Prod.fst))).Qa (XI (QT (Xx Qb Qa Qd Qc) (q * ((Qb.length : Int) / 2)) (qs.map Prod.fst))).Qd (XI (QT (Xx Qb Qa Qd Qc) (q * ((Qb.length : Int) / 2)) (qs.map Prod.fst))).Qc _ _ q [((ZE gen (Qz (rs.map Prod.fst) : Int)), u70)] _ W84 _ hL y1 y2 h8 (fun q_ hq_ => by rw [List.mem_singleton.1 hq_]; exact hs7) hf1 hq (by omega) (fun q_ hq_ => by rw [List.mem_singleton.1 hq_]; exact ⟨⟨Int.le_refl _, by show (0 : Int) <= 100000; decide⟩, K0 _ _, by show 7 <= 100; decide, by show (0 : Int) <= 3 /\ (3 : Int) <= 255; decide⟩) (hR.below hB); rw [hYY] at h_; exact h_))) rfl rfl ?_
   rintro _ W90 ⟨⟨z1, z2, rfl, g1, g2⟩, b89⟩
   replace k8 := k8.below b89
   replace k14 := k14.below b89
   replace k53 := k53.below b89
   replace hB := Qe hB b89
   refine Pu rfl (Pu rfl (Pu rfl ?_))
   refine WL.do (Qh (cs' := [z1, z2, .int .i64 ((Yy (Xx Qb Qa Qd Qc) (q * ((Qb.length : Int) / 2)) gen (rs.map Prod.fst)).Qd), .bool ((Yy (Xx Qb Qa Qd Qc) (q * ((Qb.length : Int) / 2)) gen (rs.map Prod.fst)).Qc)]) (vs := [z1, z2, .int .i64 ((Yy (Xx Qb Qa Qd Qc) (q * ((Qb.length : Int) / 2)) gen (rs.map Prod.fst)).Qd), .bool ((Yy (Xx Qb Qa Qd Qc) (q * ((Qb.length : Int) / 2)) gen (rs.map Prod.fst)).Qc)]) rfl Qj rfl rfl rfl (oC g1.one (oC g2.one (oC rfl (oC rfl Qk)))) k53 rfl (nB rfl) rfl) rfl ?_
   rintro _ W91 ⟨k93, o92⟩
   replace k8 := k8.other o92 n48
   replace k14 := k14.other o92 n49
   clear k53
   replace g1 := g1.only o92 (.tail _ (.head _))
   replace g2 := g2.only o92 (.tail _ (.head _))
   replace hB := o92.below hB l50
   refine Pu rfl (Ni (hK83 (Sq fun K94 hK94 => (Sq fun K95 hK95 => (Rg (Pu rfl (Va (Xr rfl rfl rfl) rfl rfl ?_)))))))
   refine Ni (hK95 ?_)
   refine WC.cond rfl (fun c96 => ?_) (fun c96 => ?_)
   .
    replace c96 := Q7 c96
    replace c96 := dF c96
    refine Sq fun K97 hK97 => (Rg (Va (Qg rfl Qf rfl k93.range rfl) rfl rfl (Va (QP rfl rfl UW) rfl rfl (Pu rfl ?_))))
    refine WL.do (Qh (cs' := [z1, z2, .int .i64 ((Yy (Xx Qb Qa Qd Qc) (q * ((Qb.length : Int) / 2)) gen (rs.map Prod.fst)).Qd), .bool ((Yy (Xx Qb Qa Qd Qc) (q * ((Qb.length : Int) / 2)) gen (rs.map Prod.fst)).Qc)]) (vs := [z1, z2, .int .i64 ((Yy (Xx Qb Qa Qd Qc) (q * ((Qb.length : Int) / 2)) gen (rs.map Prod.fst)).Qd), .bool ((Yy (Xx Qb Qa Qd Qc) (q * ((Qb.length : Int) / 2)) gen (rs.map Prod.fst)).Qc)]) rfl Qj rfl rfl rfl (oC g1.one (oC g2.one (oC rfl (oC rfl Qk)))) k8 rfl (nB rfl) rfl) rfl ?_
    rintro _ W98 ⟨k100, o99⟩
    replace k14 := k14.other o99 n18.symm
    clear k8
    replace g1 := g1.only o99 (.tail _ (.tail _ (.tail _ (.head _))))
    replace g2 := g2.only o99 (.tail _ (.tail _ (.tail _ (.head _))))
    replace hB := o99.below hB l12
    refine WL.do (Qh (cs' := [.int .i64 0, .int .i64 0, .int .i64 0]) (vs := [.int .i64 0, .int .i64 0, .int .i64 0]) rfl Qv rfl rfl rfl (oC rfl (oC rfl (oC rfl Qk))) k14 rfl (nB rfl) rfl) rfl ?_
    rintro _ W101 ⟨k103, o102⟩
    replace k100 := k100.other o102 n18
    clear k14
    replace g1 := g1.only o102 (.tail _ (.tail _ (.head _)))
    replace g2 := g2.only o102 (.tail _ (.tail _ (.head _)))
    replace hB := o102.below hB l19
    refine Pu rfl (Ni (hK97 ?_))
    exact WC.ret fun a_ ha_ => hQ (Xp rfl (.agg rfl Qf k100.range rfl) (.agg rfl Qr k103.range rfl) (.tmp rfl) (by unfold ZH; rw [if_neg (by first | assumption | exact Classical.not_not.1 (by assumption))]; exact ⟨_, _, rfl, (g1.less (fun x hx => (.tail _ (.tail _ (.tail _ (.tail _ (.tail _ hx))))))), (g2.less (fun x hx => (.tail _ (.tail _ (.tail _ (.tail _ (.tail _ hx)))))))⟩) hB ha_)
   .
    replace c96 := Q4 c96
    replace c96 := dT c96
    refine WC.skip (hK94 (Sq fun K104 hK104 => (Rg (Va (Qg rfl Qf rfl k93.range rfl) rfl rfl (Pu rfl (Pu rfl (Pu rfl ?_)))))))
    refine Va (QR (r := 1 + (Qz (rs.map Prod.fst) : Int)) rfl rfl rfl (Qn (by omega))) rfl rfl (Va (QP rfl rfl (Qad _ _ _)) rfl rfl ?_)
    refine WL.do (Qh (cs' := [z1, z2, .int .i64 ((Yy (Xx Qb Qa Qd Qc) (q * ((Qb.length : Int) / 2)) gen (rs.map Prod.fst)).Qd), .bool ((Yy (Xx Qb Qa Qd Qc) (q * ((Qb.length : Int) / 2)) gen (rs.map Prod.fst)).Qc)]) (vs := [z1, z2, .int .i64 ((Yy (Xx Qb Qa Qd Qc) (q * ((Qb.length : Int) / 2)) gen (rs.map Prod.fst)).Qd), .bool ((Yy (Xx Qb Qa Qd Qc) (q * ((Qb.length : Int) / 2)) gen (rs.map Prod.fst)).Qc)]) rfl Qj rfl rfl rfl (oC g1.one (oC g2.one (oC rfl (oC rfl Qk)))) k8 rfl (nB rfl) rfl) rfl ?_
    rintro _ W105 ⟨k107, o106⟩
    replace k14 := k14.other o106 n18.symm
    clear k8
    replace g1 := g1.only o106 (.tail _ (.tail _ (.tail _ (.head _))))
    replace g2 := g2.only o106 (.tail _ (.tail _ (.tail _ (.head _))))
    replace hB := o106.below hB l12
    refine WL.do (Qh (cs' := [.int .i64 q, .int .i64 gen, .int .i64 (1 + (Qz (rs.map Prod.fst) : Int))]) (vs := [.int .i64 q, .int .i64 gen, .int .i64 (1 + (Qz (rs.map Prod.fst) : Int))]) rfl Qv rfl rfl rfl (oC rfl (oC rfl (oC rfl Qk))) k14 rfl (nB rfl) rfl) rfl ?_
    rintro _ W108 ⟨k110, o109⟩
    replace k107 := k107.other o109 n18
    clear k14
    replace g1 := g1.only o109 (.tail _ (.tail _ (.head _)))
    replace g2 := g2.only o109 (.tail _ (.tail _ (.head _)))
    replace hB := o109.below hB l19
    refine Pu rfl (Ni (hK104 ?_))
    exact WC.ret fun a_ ha_ => hQ (Xp rfl (.agg rfl Qf k107.range rfl) (.agg rfl Qr k110.range rfl) (.tmp rfl) (by unfold ZH; rw [if_pos (by first | assumption | exact Classical.not_not.1 (by assumption))]; exact ⟨_, _, Fg (by first | assumption | exact Classical.not_not.1 (by assumption)), (g1.less (fun x hx => (.tail _ (.tail _ (.tail _ (.tail _ (.tail _ hx))))))), (g2.less (fun x hx => (.tail _ (.tail _ (.tail _ (.tail _ (.tail _ hx)))))))⟩) hB ha_)

theorem Dq {d : DO} {fr : Int} {p : Pg} (h : d.err = 0 \/ d.err = 9) (hr : QH d.Qb d.Qa = true) (hl : d.Qa.length < 4096) (hp : 0 <= fr + p.idx /\ fr + p.idx < d.Qb.length) (hd : d.err = 0 -> d.Qc = false) : ((Ym d fr p).err = 0 \/ (Ym d fr p).err = 9) /\ (Ym d fr p).Qa.length <= d.Qa.length + 1 /\ (Ym d fr p).Qb.length = d.Qb.length /\ QH (Ym d fr p).Qb (Ym d fr p).Qa = true /\ ((Ym d fr p).err = 0 -> (Ym d fr p).Qc = false) := by
  rcases h with h | h
  . obtain ⟨a, b, c, e, g⟩ := d
    have h : g = 0 := h
    subst h
    have hd : e = false := hd rfl
    subst hd
    have hw := EJ (f := c) (fr := fr) (p := p) (show QH a b = true from hr) (show b.length < 4096 from hl) hp
    rw [hw]
    split
    . exact ⟨.inr rfl, Nat.le_succ _, rfl, hr, fun h => by cases h⟩
    . refine ⟨.inl rfl, ?_, rfl, ?_, fun _ => rfl⟩
      . show (b ++ Kg fr [p]).length <= b.length + 1
        rw [List.length_append, Y3]; exact Nat.le_refl _
      . exact YC hr (by rw [Y3, List.length_singleton]; exact hl) fun q hq => by rw [List.mem_singleton.1 hq]; exact hp
  . rw [Gm (by rw [h]; decide)]
    exact ⟨.inr h, Nat.le_succ _, rfl, hr, hd⟩
theorem Ki {fr : Int} : ∀ (ps : List Pg) (d : DO), (d.err = 0 \/ d.err = 9) -> QH d.Qb d.Qa = true -> d.Qa.length + ps.length <= 4096 -> (∀ p ∈ ps, 0 <= fr + p.idx /\ fr + p.idx < d.Qb.length) -> (d.err = 0 -> d.Qc = false) -> ((QT d fr ps).err = 0 \/ (QT d fr ps).err = 9) /\ QH (QT d fr ps).Qb (QT d fr ps).Qa = true /\ ((QT d fr ps).err = 0 -> (QT d fr ps).Qc = false)
 | [], d, h, hr, _, _, hd => ⟨h, hr, hd⟩
 | p :: ps, d, h, hr, hl, hp, hd => by
  rw [List.length_cons] at hl
  obtain ⟨h1, h2, h3, h4, h5⟩ := Dq (fr := fr) (p := p) h hr (by omega) (hp p (.head _)) hd
  exact Ki ps (Ym d fr p) h1 h4 (by omega) (fun q hq => by rw [h3]; exact hp q (.tail _ hq)) h5
theorem HX {d : DO} (h : d.err = 0 \/ d.err = 9) (hr : QH d.Qb d.Qa = true) (hd : d.err = 0 -> d.Qc = false) : ((XI d).err = 0 \/ (XI d).err = 9) /\ ((XI d).err = 0 -> (XI d).Qc = false /\ (XI d).Qa = [] /\ QH (XI d).Qb (XI d).Qa = true) := by
  rcases h with h | h
  . obtain ⟨a, b, c, e, g⟩ := d
    have h : g = 0 := h
    subst h
    have hd : e = false := hd rfl
    subst hd
    have hw := KT (f := c) (show QH a b = true from hr)
    rw [hw]
    split
    . exact ⟨.inr rfl, fun h => by cases h⟩
    . exact ⟨.inl rfl, fun _ => ⟨rfl, rfl, U3 hr⟩⟩
  . rw [Gn (by rw [h]; decide)]
    exact ⟨.inr h, fun e => by rw [h] at e; cases e⟩
theorem Fz {was d : DO} (h : d.err = 0 \/ d.err = 9) : Xw was d = d := FA (by rcases h with h | h <;> rw [h] <;> decide)
theorem Qcr {Qb : List (List Int)} {Qa : List (Int × List Int)} {f q gen : Int} {Q : Nat} {recs : List (List Int)} (hr : QH Qb Qa = true) (hq : q = (Q : Int)) (hQ : Q <= 1) (hfit : 1 + Qz recs <= Qb.length / 2) (hl : Qa.length + Qz recs <= 4096) : (Yy (Xx Qb Qa f false) (q * ((Qb.length : Int) / 2)) gen recs).err = 0 \/ (Yy (Xx Qb Qa f false) (q * ((Qb.length : Int) / 2)) gen recs).err = 9 := by
  have hin := Yw hQ (k := Qz recs) (n := Qb.length) (by omega)
  have hfr : q * ((Qb.length : Int) / 2) = ((Q * (Qb.length / 2) : Nat) : Int) := by rw [hq, Int.natCast_mul]; rfl
  rw [hfr]
  generalize Q * (Qb.length / 2) = fr at *
  obtain ⟨h1, h2, h3⟩ := Ki (fr := (fr : Int)) (Zh gen 1 recs) (Xx Qb Qa f false) (.inl rfl) hr (by rw [ZQ]; exact hl) (GP hin) (fun _ => rfl)
  obtain ⟨k1, k2⟩ := HX h1 h2 h3
  unfold Yy
  rcases k1 with k1 | k1
  . obtain ⟨m1, m2, m3⟩ := k2 k1
    have hs : (XI (QT (Xx Qb Qa f false) (fr : Int) (Zh gen 1 recs))).Qb.length = Qb.length := by rw [HW, Vz]; rfl
    obtain ⟨n1, n2, n3, n4, n5⟩ := Dq (fr := (fr : Int)) (p := ZE gen (Qz recs : Int)) (.inl k1) m3 (by rw [m2]; show 0 < 4096; decide) (by rw [hs]; show 0 <= (fr : Int) + 0 /\ (fr : Int) + 0 < _; omega) (fun _ => m1)
    exact (HX n1 n4 n5).1
  . rw [Gm (by rw [k1]; decide), Gn (by rw [k1]; decide)]
    exact .inr k1
theorem Qcp {Qb : List (List Int)} {Qa : List (Int × List Int)} {f q : Int} {Q : Nat} {recs : List (List Int)} (hr : QH Qb Qa = true) (hq : q = (Q : Int)) (hQ : Q <= 1) (hg : (Xs Qb Qa false).2 = 0) (hfit : 1 + Qz recs <= Qb.length / 2) (hl : Qa.length + Qz recs <= 4096) : ZH Qb Qa f false q (Ze Qb Qa false Qb.length + 1) recs = QQ Qb Qa f false q recs := by
 have he := Qcr (f := f) (gen := Ze Qb Qa false Qb.length + 1) hr hq hQ hfit hl
 have hn : (Xs Qb Qa false).1 = Ze Qb Qa false Qb.length + 1 := by
  unfold Xs at hg ⊢
  split
  . rename_i h; rw [if_pos h] at hg; cases hg
  . rfl
 have e2 : QQ Qb Qa f false q recs = if (Yy (Xx Qb Qa f false) (q * ((Qb.length : Int) / 2)) (Ze Qb Qa false Qb.length + 1) recs).err = 0 then (Yy (Xx Qb Qa f false) (q * ((Qb.length : Int) / 2)) (Ze Qb Qa false Qb.length + 1) recs, q, Ze Qb Qa false Qb.length + 1, 1 + (Qz recs : Int)) else (Yy (Xx Qb Qa f false) (q * ((Qb.length : Int) / 2)) (Ze Qb Qa false Qb.length + 1) recs, 0, 0, 0) := by
  unfold QQ
  rw [if_neg (fun h => h hg), hn, Fz he]
 rw [e2]
 rfl
theorem QeE {Qb : List (List Int)} {Qa : List (Int × List Int)} (h : ¬ 1099511627776 < Ze Qb Qa false Qb.length + 1) : (Xs Qb Qa false).2 = 0 := by
 unfold Xs
 rw [if_neg (by omega)]
theorem QeD {Qb : List (List Int)} {Qa : List (Int × List Int)} {f q : Int} {recs : List (List Int)} (h : 1099511627776 < Ze Qb Qa false Qb.length + 1) : QQ Qb Qa f false q recs = (⟨Qb, Qa, f, false, 5⟩, 0, 0, 0) := by
 have hm := VT Qb Qa false Qb.length
 have hn : Xs Qb Qa false = (0, 5) := by
  unfold Xs
  rw [if_pos (by omega)]
 unfold QQ
 rw [hn, if_pos (by show ¬ (5 : Int) = 0; decide)]
theorem HH {Qb : List (List Int)} {Qa : List (Int × List Int)} {Qc : Bool} (h : (QH Qb Qa && decide (8 <= (Qb.length : Int))) = false) : XA Qb Qa Qc = 1 := by
  unfold XA
  rw [if_pos]
  cases hr : QH Qb Qa
  . exact .inl rfl
  . rw [hr, Bool.true_and] at h
    have := of_decide_eq_false h
    exact .inr (by omega)
theorem FG {Qb : List (List Int)} {Qa : List (Int × List Int)} (h : (QH Qb Qa && decide (8 <= (Qb.length : Int))) = true) : QH Qb Qa = true /\ 8 <= Qb.length := by
 rw [Bool.and_eq_true] at h
 have := of_decide_eq_true h.2
 exact ⟨h.1, by omega⟩
theorem G5 {Qb : List (List Int)} {Qa : List (Int × List Int)} (hr : QH Qb Qa = true) (h8 : 8 <= Qb.length) : XA Qb Qa true = 9 := by
 unfold XA
 rw [if_neg (by rintro (e | e); rw [hr] at e; cases e; omega), if_pos rfl]
def Qd7 (L : List Nat) (r : DO × Int × Int × Int) (u : Value) (W : World) : Prop := ∃ t1 t2, u = .tuple #[.agg #[t1, t2, .int .i64 r.1.Qd, .bool r.1.Qc], .agg #[.int .i64 r.2.1, .int .i64 r.2.2.1, .int .i64 r.2.2.2], .int .i64 r.1.err] /\ QC 128 L W t1 (r.1.Qb.map Qq) /\ QC 129 L W t2 (r.1.Qa.map QD)
theorem Qd7.below {L : List Nat} {r : DO × Int × Int × Int} {u : Value} {w w' : World} (h : Qd7 L r u w) (hb : Below w.heap.size w w') : Qd7 L r u w' := by
 obtain ⟨t1, t2, e, h1, h2⟩ := h
 exact ⟨t1, t2, e, h1.below hb, h2.below hb⟩
set_option maxHeartbeats 1000000 in
theorem QaE (Qb : List (List Int)) (Qa : List (Int × List Int)) (Qd : Int) (Qc : Bool) (s1 s2 : Value) (w : World) (L : List Nat) (hL : LL L w) (h1 : QC 128 L w s1 (Qb.map Qq)) (h2 : QC 129 L w s2 (Qa.map QD))  (hfu : -9223372036854775808 <= Qd /\ Qd <= 9223372036854775807) (hbd : YJ Qb Qa) (hll : Qa.length <= 2000) (hR : UD w) : CV Tryd.prog 21 [.agg #[s1, s2, .int .i64 Qd, .bool Qc]] w fun v W => ∃ t1 t2, v = .tuple #[.agg #[t1, t2, .int .i64 (Xa Qb Qa Qd Qc).1.Qd, .bool (Xa Qb Qa Qd Qc).1.Qc], .agg #[.int .i64 (Xa Qb Qa Qd Qc).2.1, .int .i64 (Xa Qb Qa Qd Qc).2.2.1, .int .i64 (Xa Qb Qa Qd Qc).2.2.2], .int .i64 (Xa Qb Qa Qd Qc).1.err] /\ QC 128 L W t1 ((Xa Qb Qa Qd Qc).1.Qb.map Qq) /\ QC 129 L W t2 ((Xa Qb Qa Qd Qc).1.Qa.map QD) := by
 refine QL (N := 26) (f := [(0, .agg #[s1, s2, .int .i64 Qd, .bool Qc])]) Tryd.func21 rfl rfl rfl rfl fun Q hQ hE => ?_
 have hB := Below.refl w.heap.size w
 have h1m : Qb.length <= maxLen := by have := h1.len; rwa [List.length_map] at this
 unfold maxLen at h1m
 have h2m : Qa.length <= maxLen := by have := h2.len; rwa [List.length_map] at this
 unfold maxLen at h2m
 refine Sq fun K1 hK1 => (Rg ?_)
 refine Ge (Xb rfl rfl rfl) rfl rfl ?_
 rintro _ W2 ⟨rfl, k3, b4, z5⟩
 have l6 := hB.size
 replace h1 := h1.more b4 (Nat.le_refl _)
 replace h2 := h2.more b4 (Nat.le_refl _)
 replace hB := Qe hB b4
 replace hL := LL.more hL z5
 refine Ge (Qs rfl QU rfl) rfl rfl ?_
 rintro _ W7 ⟨rfl, k8, b9, z10⟩
 have l12 := hB.size
 replace h1 := h1.more b9 (Nat.le_refl _)
 replace h2 := h2.more b9 (Nat.le_refl _)
 replace k3 := k3.below b9
 replace hB := Qe hB b9
 replace hL := LL.more hL z10
 refine Ge (Qs rfl XE rfl) rfl rfl ?_
 rintro _ W13 ⟨rfl, k14, b15, z16⟩
 have n18 : W2.heap.size ≠ W7.heap.size := Nat.ne_of_lt k8.lt
 have l19 := hB.size
 replace h1 := h1.more b15 (Nat.le_refl _)
 replace h2 := h2.more b15 (Nat.le_refl _)
 replace k3 := k3.below b15
 replace k8 := k8.below b15
 replace hB := Qe hB b15
 replace hL := LL.more hL z16
 refine Pu rfl (Ni (hK1 (Sq fun K20 hK20 => (Sq fun K21 hK21 => (Rg (Va (Qg rfl Qf rfl k3.range rfl) rfl rfl ?_))))))
 refine Ge (QO rfl Tryd.func34 rfl rfl rfl ((show CV _ _ _ _ (fun v _ => ∃ b, v = .bool b /\ b = (QH Qb Qa && decide (8 <= (Qb.length : Int)))) from Calls.mono (DK Qb Qa Qd Qc _ _ W13 _ hL h1 h2) fun _ _ h => by obtain ⟨v, he, hv, hb⟩ := h; exact ⟨v, he, ⟨_, hv, rfl⟩, hb⟩))) rfl rfl ?_
 rintro _ W23 ⟨⟨ab, rfl, hab⟩, b22⟩
 replace h1 := h1.below b22
 replace h2 := h2.below b22
 replace k3 := k3.below b22
 replace k8 := k8.below b22
 replace k14 := k14.below b22
 replace hB := Qe hB b22
 replace hL := LL.below hL b22
 refine Va (XP rfl rfl) rfl rfl (Ni (hK21 ?_))
 refine WC.cond rfl (fun c24 => ?_) (fun c24 => ?_)
 .
  replace c24 := Q7 c24
  replace c24 := ZN c24
  refine Sq fun K25 hK25 => (Rg (Va (Qg rfl Qf rfl k3.range rfl) rfl rfl (Va (QP rfl rfl UW) rfl rfl ?_)))
  refine WL.do (Qh (cs' := [s1, s2, .int .i64 Qd, .bool Qc]) (vs := [s1, s2, .int .i64 Qd, .bool Qc]) rfl Qj rfl rfl rfl (oC h1.one (oC h2.one (oC rfl (oC rfl Qk)))) k8 rfl (nB rfl) rfl) rfl ?_
  rintro _ W26 ⟨k28, o27⟩
  replace k14 := k14.other o27 n18.symm
  clear k8
  replace h1 := h1.only o27 (.tail _ (.head _))
  replace h2 := h2.only o27 (.tail _ (.head _))
  replace hB := o27.below hB l12
  refine WL.do (Qh (cs' := [.int .i64 0, .int .i64 0, .int .i64 0]) (vs := [.int .i64 0, .int .i64 0, .int .i64 0]) rfl Qv rfl rfl rfl (oC rfl (oC rfl (oC rfl Qk))) k14 rfl (nB rfl) rfl) rfl ?_
  rintro _ W29 ⟨k31, o30⟩
  replace k28 := k28.other o30 n18
  clear k14
  replace h1 := h1.only o30 (.head _)
  replace h2 := h2.only o30 (.head _)
  replace hB := o30.below hB l19
  refine Pu rfl (Ni (hK25 ?_))
  exact WC.ret fun a_ ha_ => hQ (Xp rfl (.agg rfl Qf k28.range rfl) (.agg rfl Qr k31.range rfl) (.tmp rfl) (by have hc := HH (Qc := Qc) (hab.symm.trans (by first | assumption | simp_all)); rw [Kw (by rw [hc]; decide), hc]; exact ⟨_, _, rfl, (h1.less (fun x hx => (.tail _ (.tail _ (.tail _ hx))))), (h2.less (fun x hx => (.tail _ (.tail _ (.tail _ hx)))))⟩) hB ha_)
 .
  replace c24 := Q4 c24
  refine WC.skip (hK20 (Sq fun K32 hK32 => (Sq fun K33 hK33 => (Rg (Va (Qm (o1 := 3) rfl Xu rfl rfl) rfl rfl (Va (Qi rfl Z7 rfl (k3.cell (k := 3) rfl)) rfl rfl (Ni ?_)))))))
  refine hK33 ?_
  refine WC.cond rfl (fun c34 => ?_) (fun c34 => ?_)
  .
   refine Sq fun K35 hK35 => (Rg (Va (Qg rfl Qf rfl k3.range rfl) rfl rfl (Va (QP rfl rfl UW) rfl rfl ?_)))
   refine WL.do (Qh (cs' := [s1, s2, .int .i64 Qd, .bool Qc]) (vs := [s1, s2, .int .i64 Qd, .bool Qc]) rfl Qj rfl rfl rfl (oC h1.one (oC h2.one (oC rfl (oC rfl Qk)))) k8 rfl (nB rfl) rfl) rfl ?_
   rintro _ W36 ⟨k38, o37⟩
   replace k14 := k14.other o37 n18.symm
   clear k8
   replace h1 := h1.only o37 (.tail _ (.head _))
   replace h2 := h2.only o37 (.tail _ (.head _))
   replace hB := o37.below hB l12
   refine WL.do (Qh (cs' := [.int .i64 0, .int .i64 0, .int .i64 0]) (vs := [.int .i64 0, .int .i64 0, .int .i64 0]) rfl Qv rfl rfl rfl (oC rfl (oC rfl (oC rfl Qk))) k14 rfl (nB rfl) rfl) rfl ?_
   rintro _ W39 ⟨k41, o40⟩
   replace k38 := k38.other o40 n18
   clear k14
   replace h1 := h1.only o40 (.head _)
   replace h2 := h2.only o40 (.head _)
   replace hB := o40.below hB l19
   refine Pu rfl (Ni (hK35 ?_))
   exact WC.ret fun a_ ha_ => hQ (Xp rfl (.agg rfl Qf k38.range rfl) (.agg rfl Qr k41.range rfl) (.tmp rfl) (by have hdn : Qc = true := (by first | assumption | simp_all); obtain ⟨hr1, hr2⟩ := FG (hab.symm.trans (by first | assumption | simp_all)); have hr3 := (Zz hr1).2.1; subst hdn; have hc := G5 hr1 hr2; rw [Kw (by rw [hc]; decide), hc]; exact ⟨_, _, rfl, (h1.less (fun x hx => (.tail _ (.tail _ (.tail _ hx))))), (h2.less (fun x hx => (.tail _ (.tail _ (.tail _ hx)))))⟩) hB ha_)
  .
   replace c34 := ZN c34
   refine WC.skip (hK32 (Sq fun K42 hK42 => (Sq fun K43 hK43 => ?_)))
   obtain ⟨hr1, hr2⟩ := FG (hab.symm.trans (by first | assumption | simp_all)); have hr3 := (Zz hr1).2.1
   refine Rg (Va (Qg rfl Qf rfl k3.range rfl) rfl rfl ?_)
   refine Ge (QO rfl Tryd.func36 rfl rfl rfl (Dy Qb Qa Qd Qc _ _ W23 _ hL h1 h2 hbd (by omega) (hR.below hB))) rfl rfl ?_
   rintro _ W45 ⟨rfl, b44⟩
   replace h1 := h1.below b44
   replace h2 := h2.below b44
   replace k3 := k3.below b44
   replace k8 := k8.below b44
   replace k14 := k14.below b44
   replace hB := Qe hB b44
   replace hL := LL.below hL b44
   refine Va (XQ rfl rfl rfl) rfl rfl (Ni (hK43 ?_))
   refine WC.cond rfl (fun c46 => ?_) (fun c46 => ?_)
   .
    replace c46 := dT c46
    refine Sq fun K47 hK47 => (Rg (Va (Qg rfl Qf rfl k3.range rfl) rfl rfl (Va (QP rfl rfl UW) rfl rfl ?_)))
    refine WL.do (Qh (cs' := [s1, s2, .int .i64 Qd, .bool Qc]) (vs := [s1, s2, .int .i64 Qd, .bool Qc]) rfl Qj rfl rfl rfl (oC h1.one (oC h2.one (oC rfl (oC rfl Qk)))) k8 rfl (nB rfl) rfl) rfl ?_
    rintro _ W48 ⟨k50, o49⟩
    replace k14 := k14.other o49 n18.symm
    clear k8
    replace h1 := h1.only o49 (.tail _ (.head _))
    replace h2 := h2.only o49 (.tail _ (.head _))
    replace hB := o49.below hB l12
    refine WL.do (Qh (cs' := [.int .i64 0, .int .i64 0, .int .i64 0]) (vs := [.int .i64 0, .int .i64 0, .int .i64 0]) rfl Qv rfl rfl rfl (oC rfl (oC rfl (oC rfl Qk))) k14 rfl (nB rfl) rfl) rfl ?_
    rintro _ W51 ⟨k53, o52⟩
    replace k50 := k50.other o52 n18
    clear k14
    replace h1 := h1.only o52 (.head _)
    replace h2 := h2.only o52 (.head _)
    replace hB := o52.below hB l19
    refine Pu rfl (Ni (hK47 ?_))
    exact WC.ret fun a_ ha_ => hQ (Xp rfl (.agg rfl Qf k50.range rfl) (.agg rfl Qr k53.range rfl) (.tmp rfl) (by have hdn : Qc = false := (by first | assumption | simp_all); subst hdn; rw [U9 (Vc hr1 hr2), QeD (by omega)]; exact ⟨_, _, rfl, (h1.less (fun x hx => (.tail _ (.tail _ (.tail _ hx))))), (h2.less (fun x hx => (.tail _ (.tail _ (.tail _ hx)))))⟩) hB ha_)
   .
    replace c46 := dF c46
    refine WC.skip (hK42 (Sq fun K54 hK54 => ?_))
    refine dM 7 [(some 19, .is (.agg #[s1, s2, .int .i64 Qd, .bool Qc])), (some 20, .is (.agg #[s1, s2, .int .i64 Qd, .bool Qc])), (some 21, .is (.int .i64 (Ze Qb Qa Qc Qb.length + 1))), (some 22, .by fun u W => Qd7 (W7.heap.size :: W2.heap.size :: w.heap.size :: L) (ZH Qb Qa Qd Qc 0 (Ze Qb Qa Qc Qb.length + 1) []) u W), (some 23, .by fun u W => KS (W7.heap.size :: W2.heap.size :: w.heap.size :: L) (ZH Qb Qa Qd Qc 0 (Ze Qb Qa Qc Qb.length + 1) []).1 u W), (some 24, .is (.agg #[.int .i64 ((ZH Qb Qa Qd Qc 0 (Ze Qb Qa Qc Qb.length + 1) []).2.1), .int .i64 ((ZH Qb Qa Qd Qc 0 (Ze Qb Qa Qc Qb.length + 1) []).2.2.1), .int .i64 ((ZH Qb Qa Qd Qc 0 (Ze Qb Qa Qc Qb.length + 1) []).2.2.2)])), (some 25, .is (.int .i64 ((ZH Qb Qa Qd Qc 0 (Ze Qb Qa Qc Qb.length + 1) []).1.err)))] [[], [], [1], [0, 2, 2], [3], [3], [3]] ⟨fun _ _ _ hb h => h.below hb, fun _ _ _ hb h => h.below hb, trivial⟩ ?_ ?_
    .
     refine Dc (fun Wd hd => ?_) ?_
     .
      have k3 := k3.below hd
      exact Dd (Qg rfl Qf rfl k3.range rfl) rfl
     refine Dc (fun Wd hd => ?_) ?_
     .
      have k3 := k3.below hd
      exact Dd (Qg rfl Qf rfl k3.range rfl) rfl
     refine Dc (fun Wd hd => ?_) ?_
     .
      have h1 := h1.below hd
      have h2 := h2.below hd
      exact DR.mono (QO rfl Tryd.func36 rfl rfl rfl (Dy Qb Qa Qd Qc _ _ Wd _ (LL.below hL hd) h1 h2 hbd (by omega) (hR.below (Qe hB hd)))) (fun v W' ⟨h, hb⟩ => ⟨hb, (by rw [h]; exact rfl)⟩)
     refine Dc (fun Wd hd => ?_) ?_
     .
      have h1 := h1.below hd
      have h2 := h2.below hd
      exact DR.mono (QO rfl Tryd.func37 rfl rfl rfl (Qeo Qb Qa Qd Qc _ _ 0 (Ze Qb Qa Qc Qb.length + 1) [] (.slice none 0 0) Wd _ (LL.below hL hd) h1 h2 (QC.nil (by decide)) (fun r hr => by cases hr) hfu (.inl rfl) (by omega) (fun r hr => by cases hr) (Nat.zero_le _) (hR.below (Qe hB hd)))) (fun v W_ h => ⟨h.2, h.1⟩)
     refine Dc (fun Wd hd => ?_) ?_
     .
      intro u7_3 p7_3
      obtain ⟨t1_, t2_, rfl, g1_, g2_⟩ := p7_3
      exact DV.dr (X7 rfl rfl rfl) ⟨Below.refl _ _, ⟨t1_, t2_, rfl, g1_, g2_⟩⟩
     refine Dc (fun Wd hd => ?_) ?_
     .
      intro u7_3 p7_3
      obtain ⟨t1_, t2_, rfl, g1_, g2_⟩ := p7_3
      exact Dd (X7 rfl rfl rfl) rfl
     refine Dc (fun Wd hd => ?_) ?_
     .
      intro u7_3 p7_3
      obtain ⟨t1_, t2_, rfl, g1_, g2_⟩ := p7_3
      exact Dd (X7 rfl rfl rfl) rfl
     exact trivial
    .
     intro W55 b56
     intro _ _
     rintro _ ⟨b1, b2, rfl, bg1, bg2⟩
     replace k8 := k8.below b56
     replace k14 := k14.below b56
     replace hB := Qe hB b56
     refine WL.do (Qh (cs' := [b1, b2, .int .i64 ((ZH Qb Qa Qd Qc 0 (Ze Qb Qa Qc Qb.length + 1) []).1.Qd), .bool ((ZH Qb Qa Qd Qc 0 (Ze Qb Qa Qc Qb.length + 1) []).1.Qc)]) (vs := [b1, b2, .int .i64 ((ZH Qb Qa Qd Qc 0 (Ze Qb Qa Qc Qb.length + 1) []).1.Qd), .bool ((ZH Qb Qa Qd Qc 0 (Ze Qb Qa Qc Qb.length + 1) []).1.Qc)]) rfl Qj rfl rfl rfl (oC bg1.one (oC bg2.one (oC rfl (oC rfl Qk)))) k8 rfl (nB rfl) rfl) rfl ?_
     rintro _ W57 ⟨k59, o58⟩
     replace k14 := k14.other o58 n18.symm
     clear k8
     replace bg1 := bg1.only o58 (.tail _ (.head _))
     replace bg2 := bg2.only o58 (.tail _ (.head _))
     replace hB := o58.below hB l12
     refine WL.do (Qh (cs' := [.int .i64 ((ZH Qb Qa Qd Qc 0 (Ze Qb Qa Qc Qb.length + 1) []).2.1), .int .i64 ((ZH Qb Qa Qd Qc 0 (Ze Qb Qa Qc Qb.length + 1) []).2.2.1), .int .i64 ((ZH Qb Qa Qd Qc 0 (Ze Qb Qa Qc Qb.length + 1) []).2.2.2)]) (vs := [.int .i64 ((ZH Qb Qa Qd Qc 0 (Ze Qb Qa Qc Qb.length + 1) []).2.1), .int .i64 ((ZH Qb Qa Qd Qc 0 (Ze Qb Qa Qc Qb.length + 1) []).2.2.1), .int .i64 ((ZH Qb Qa Qd Qc 0 (Ze Qb Qa Qc Qb.length + 1) []).2.2.2)]) rfl Qv rfl rfl rfl (oC rfl (oC rfl (oC rfl Qk))) k14 rfl (nB rfl) rfl) rfl ?_
     rintro _ W60 ⟨k62, o61⟩
     replace k59 := k59.other o61 n18
     clear k14
     replace bg1 := bg1.only o61 (.head _)
     replace bg2 := bg2.only o61 (.head _)
     replace hB := o61.below hB l19
     refine Pu rfl (Ni (hK54 ?_))
     exact WC.ret fun a_ ha_ => hQ (Xp rfl (.agg rfl Qf k59.range rfl) (.agg rfl Qr k62.range rfl) (.tmp rfl) (by have hdn : Qc = false := (by first | assumption | simp_all); subst hdn; rw [U9 (Vc hr1 hr2), <- Qcp (q := 0) (Q := 0) hr1 rfl (by decide) (QeE (by omega)) (by show 1 + 0 <= _; omega) (by show _ + 0 <= _; omega)]; exact ⟨_, _, rfl, (bg1.less (fun x hx => (.tail _ (.tail _ (.tail _ hx))))), (bg2.less (fun x hx => (.tail _ (.tail _ (.tail _ hx)))))⟩) hB ha_)

theorem Qfe {n half gen used : Int} (h : ¬ Yn n half gen used = 0) : Yn n half gen used = 1 := by
  unfold Yn at h ⊢
  split
  . rfl
  . rename_i h1
    rw [if_neg h1] at h
    exact absurd rfl h
theorem Qfs {qs : List PV} {gen fr : Int} {rec : List Int} (h : qs.map Prod.fst = Xo gen fr rec) (hb : ZX rec) (hf : 0 <= fr) (hc : fr + (ZV rec : Int) <= 100000) : ∀ q ∈ qs, (0 <= q.1.idx /\ q.1.idx <= 100000) /\ ZX q.1.dat /\ q.1.dat.length <= 100 /\ (0 <= q.1.mks /\ q.1.mks <= 255) := fun q hq => by
  have hm : q.1 ∈ Xo gen fr rec := h ▸ List.mem_map_of_mem (f := Prod.fst) hq
  obtain ⟨k, hk⟩ := List.mem_iff_getElem?.1 hm
  have hl := (List.getElem?_eq_some_iff.1 hk).1
  rw [XK] at hl
  rw [YD hl] at hk
  have e := Option.some.inj hk
  rw [<- e]
  refine ⟨⟨?_, ?_⟩, JG hb _, G6 _ _, ?_⟩
  . show 0 <= fr + (k : Int); omega
  . show fr + (k : Int) <= 100000; omega
  . show (0 : Int) <= (if k = 0 then 1 else 0) + (if k + 1 = ZV rec then 2 else 0) /\ (if k = 0 then (1 : Int) else 0) + (if k + 1 = ZV rec then 2 else 0) <= 255
    split <;> split <;> decide
theorem Qai {Qb : List (List Int)} {Qa : List (Int × List Int)} {f q gen used : Int} {Q : Nat} {rec : List Int} (hr : QH Qb Qa = true) (hq : q = (Q : Int)) (hQ : Q <= 1) (hu : 0 <= used) (hfit : used + (ZV rec : Int) <= (Qb.length : Int) / 2) (hl : Qa.length + ZV rec <= 4096) : (XI (QT (Xx Qb Qa f false) (q * ((Qb.length : Int) / 2)) (Xo gen used rec))).err = 0 \/ (XI (QT (Xx Qb Qa f false) (q * ((Qb.length : Int) / 2)) (Xo gen used rec))).err = 9 := by
 have hfr : q * ((Qb.length : Int) / 2) = ((Q * (Qb.length / 2) : Nat) : Int) := by rw [hq, Int.natCast_mul]; rfl
 have hin : Q * (Qb.length / 2) + Qb.length / 2 <= Qb.length := by
  have : Q = 0 \/ Q = 1 := by omega
  rcases this with rfl | rfl <;> omega
 rw [hfr]
 generalize Q * (Qb.length / 2) = fr at *
 obtain ⟨h1, h2, h3⟩ := Ki (fr := (fr : Int)) (Xo gen used rec) (Xx Qb Qa f false) (.inl rfl) hr (by rw [XK]; exact hl) (fun p hp => by
  obtain ⟨k, hk⟩ := List.mem_iff_getElem?.1 hp
  obtain ⟨e1, e2, _⟩ := Jx hk
  show 0 <= (fr : Int) + p.idx /\ (fr : Int) + p.idx < (Qb.length : Int)
  omega) (fun _ => rfl)
 exact (HX h1 h2 h3).1
set_option maxHeartbeats 1000000 in
theorem QaI (Qb : List (List Int)) (Qa : List (Int × List Int)) (Qd : Int) (Qc : Bool) (s1 s2 : Value) (half gen used : Int) (rec : List Int) (rv : Value) (w : World) (L : List Nat) (hL : LL L w) (h1 : QC 128 L w s1 (Qb.map Qq)) (h2 : QC 129 L w s2 (Qa.map QD)) (h3 : QC 1 L w rv (Vq rec))  (hfu : -9223372036854775808 <= Qd /\ Qd <= 9223372036854775807) (hbd : YJ Qb Qa) (hrb : ZX rec) (hul : -9223372036854775808 <= used /\ used <= 9223372036854775807) (hrm : rec.length <= 1000000000) (hll : Qa.length <= 2000) (hR : UD w) : CV Tryd.prog 19 [.agg #[s1, s2, .int .i64 Qd, .bool Qc], .agg #[.int .i64 half, .int .i64 gen, .int .i64 used], rv] w fun v W => ∃ t1 t2, v = .tuple #[.agg #[t1, t2, .int .i64 (QW Qb Qa Qd Qc half gen used rec).1.Qd, .bool (QW Qb Qa Qd Qc half gen used rec).1.Qc], .agg #[.int .i64 (QW Qb Qa Qd Qc half gen used rec).2.1, .int .i64 (QW Qb Qa Qd Qc half gen used rec).2.2.1, .int .i64 (QW Qb Qa Qd Qc half gen used rec).2.2.2], .int .i64 (QW Qb Qa Qd Qc half gen used rec).1.err] /\ QC 128 L W t1 ((QW Qb Qa Qd Qc half gen used rec).1.Qb.map Qq) /\ QC 129 L W t2 ((QW Qb Qa Qd Qc half gen used rec).1.Qa.map QD) := by
 have h30 := h3
 have hn41 : rec.length <= 4096 -> ZV rec <= 41 := fun h_ => by unfold ZV; split <;> omega
 refine QL (N := 77) (f := [(0, .agg #[s1, s2, .int .i64 Qd, .bool Qc]), (1, .agg #[.int .i64 half, .int .i64 gen, .int .i64 used]), (2, rv)]) Tryd.func19 rfl rfl rfl rfl fun Q hQ hE => ?_
 have hB := Below.refl w.heap.size w
 have h1m : Qb.length <= maxLen := by have := h1.len; rwa [List.length_map] at this
 unfold maxLen at h1m
 have h2m : Qa.length <= maxLen := by have := h2.len; rwa [List.length_map] at this
 unfold maxLen at h2m
 refine Sq fun K1 hK1 => (Rg ?_)
 refine Ge (Xb rfl rfl rfl) rfl rfl ?_
 rintro _ W2 ⟨rfl, k3, b4, z5⟩
 have l6 := hB.size
 replace h1 := h1.more b4 (Nat.le_refl _)
 replace h2 := h2.more b4 (Nat.le_refl _)
 replace h3 := h3.more b4 (Nat.le_refl _)
 replace hB := Qe hB b4
 replace hL := LL.more hL z5
 refine Ge (Xb rfl rfl rfl) rfl rfl ?_
 rintro _ W7 ⟨rfl, k8, b9, z10⟩
 have n11 : w.heap.size ≠ W2.heap.size := Nat.ne_of_lt k3.lt
 have l12 := hB.size
 replace h1 := h1.more b9 (Nat.le_refl _)
 replace h2 := h2.more b9 (Nat.le_refl _)
 replace h3 := h3.more b9 (Nat.le_refl _)
 replace k3 := k3.below b9
 replace hB := Qe hB b9
 replace hL := LL.more hL z10
 refine Ge (Qs rfl QU rfl) rfl rfl ?_
 rintro _ W13 ⟨rfl, k14, b15, z16⟩
 have n17 : w.heap.size ≠ W7.heap.size := Nat.ne_of_lt k3.lt
 have n18 : W2.heap.size ≠ W7.heap.size := Nat.ne_of_lt k8.lt
 have l19 := hB.size
 replace h1 := h1.more b15 (Nat.le_refl _)
 replace h2 := h2.more b15 (Nat.le_refl _)
 replace h3 := h3.more b15 (Nat.le_refl _)
 replace k3 := k3.below b15
 replace k8 := k8.below b15
 replace hB := Qe hB b15
 replace hL := LL.more hL z16
 refine Ge (Qs rfl XE rfl) rfl rfl ?_
 rintro _ W20 ⟨rfl, k21, b22, z23⟩
 have n24 : w.heap.size ≠ W13.heap.size := Nat.ne_of_lt k3.lt
 have n25 : W2.heap.size ≠ W13.heap.size := Nat.ne_of_lt k8.lt
 have n26 : W7.heap.size ≠ W13.heap.size := Nat.ne_of_lt k14.lt
 have l27 := hB.size
 replace h1 := h1.more b22 (Nat.le_refl _)
 replace h2 := h2.more b22 (Nat.le_refl _)
 replace h3 := h3.more b22 (Nat.le_refl _)
 replace k3 := k3.below b22
 replace k8 := k8.below b22
 replace k14 := k14.below b22
 replace hB := Qe hB b22
 replace hL := LL.more hL z23
 refine Pu rfl (Ni (hK1 (Sq fun K28 hK28 => (WC.block (Sq fun K29 hK29 => (Rg (Va (Qg rfl Qf rfl k3.range rfl) rfl rfl ?_)))))))
 refine Ge (QO rfl Tryd.func34 rfl rfl rfl ((show CV _ _ _ _ (fun v _ => ∃ b, v = .bool b /\ b = (QH Qb Qa && decide (8 <= (Qb.length : Int)))) from Calls.mono (DK Qb Qa Qd Qc _ _ W20 _ hL h1 h2) fun _ _ h => by obtain ⟨v, he, hv, hb⟩ := h; exact ⟨v, he, ⟨_, hv, rfl⟩, hb⟩))) rfl rfl ?_
 rintro _ W31 ⟨⟨ab, rfl, hab⟩, b30⟩
 replace h1 := h1.below b30
 replace h2 := h2.below b30
 replace h3 := h3.below b30
 replace k3 := k3.below b30
 replace k8 := k8.below b30
 replace k14 := k14.below b30
 replace k21 := k21.below b30
 replace hB := Qe hB b30
 replace hL := LL.below hL b30
 refine Va (XP rfl rfl) rfl rfl (Pu rfl (Ni (hK29 ?_)))
 refine WC.cond rfl (fun c32 => ?_) (fun c32 => ?_)
 .
  replace c32 := Q7 c32
  replace c32 := ZN c32
  refine Sq fun K33 hK33 => ?_
  refine WC.drawC 3 [(2, W7.heap.size, [.slice none 0 0, .slice none 0 0, .int .i64 0, .bool false], fun cs_ _ => cs_ = [s1, s2, .int .i64 Qd, .bool Qc])] [(some 16, .is (.agg #[s1, s2, .int .i64 Qd, .bool Qc])), (some 17, .is (.agg #[.int .i64 half, .int .i64 gen, .int .i64 used])), (none, .by fun _ _ => True)] [[], [], [0, 0]] ⟨fun _ _ _ _ h => h, trivial⟩ (mA ⟨fun _ _ _ _ h => h, trivial⟩) ⟨fun x hx => (by cases hx), trivial⟩ (XF (mA ⟨_, rfl⟩)) (mA k14) ?_ ?_
  .
   refine Ql.cons rfl (fun Wd hd hbs_ => ?_) ?_
   .
    have k3 := k3.chgM hd (by simp only [List.map_cons, List.map_nil, List.mem_cons, List.not_mem_nil, or_false, not_or]; exact n17)
    exact Dd (Qg rfl Qf rfl k3.range rfl) rfl
   refine Ql.cons rfl (fun Wd hd hbs_ => ?_) ?_
   .
    have k8 := k8.chgM hd (by simp only [List.map_cons, List.map_nil, List.mem_cons, List.not_mem_nil, or_false, not_or]; exact n18)
    exact Dd (Qg rfl Qr rfl k8.range rfl) rfl
   refine Ql.hit rfl (fun Wd hd hb_ => ?_) ?_
   .
    have h1 := h1.chgM hd (mA (.tail _ (.head _)))
    have h2 := h2.chgM hd (mA (.tail _ (.head _)))
    exact (QB (vs := [s1, s2, .int .i64 Qd, .bool Qc]) rfl Qj rfl rfl rfl (oC h1.one (oC h2.one (oC rfl (oC rfl Qk)))) hb_ rfl rfl).mono (fun _ W' h => ⟨h.2, XC.is h.1, trivial⟩)
   exact trivial
  .
   intro W34 hd hq_
   replace h1 := h1.chgM hd (mA (.tail _ (.head _)))
   replace h2 := h2.chgM hd (mA (.tail _ (.head _)))
   replace h3 := h3.chgM hd (mA (.tail _ (.head _)))
   replace k3 := k3.chgM hd (by simp only [List.map_cons, List.map_nil, List.mem_cons, List.not_mem_nil, or_false, not_or]; exact n17)
   replace k8 := k8.chgM hd (by simp only [List.map_cons, List.map_nil, List.mem_cons, List.not_mem_nil, or_false, not_or]; exact n18)
   replace k21 := k21.chgM hd (by simp only [List.map_cons, List.map_nil, List.mem_cons, List.not_mem_nil, or_false, not_or]; exact n26.symm)
   have k35 := hq_ _ (.head _)
   replace k35 := XC.blk k35
   replace hB := hd.toBelow hB (mA l19)
   replace hL := hL.chgM hd
   intro _ _
   refine WL.do (Qh (cs' := [.int .i64 half, .int .i64 gen, .int .i64 used]) (vs := [.int .i64 half, .int .i64 gen, .int .i64 used]) rfl Qv rfl rfl rfl (oC rfl (oC rfl (oC rfl Qk))) k21 rfl (nB rfl) rfl) rfl ?_
   rintro _ W36 ⟨k38, o37⟩
   replace k35 := k35.other o37 n26
   clear k21
   replace h1 := h1.only o37 (.head _)
   replace h2 := h2.only o37 (.head _)
   replace hB := o37.below hB l27
   refine Pu rfl (Ni (hK33 ?_))
   exact WC.ret fun a_ ha_ => hQ (Xp rfl (.agg rfl Qf k35.range rfl) (.agg rfl Qr k38.range rfl) (.tmp rfl) (by have hc := HH (Qc := Qc) (hab.symm.trans (by first | assumption | simp_all)); rw [KB (by rw [hc]; decide), hc]; exact ⟨_, _, rfl, (h1.less (fun x hx => (.tail _ (.tail _ (.tail _ (.tail _ hx)))))), (h2.less (fun x hx => (.tail _ (.tail _ (.tail _ (.tail _ hx))))))⟩) hB ha_)
 .
  replace c32 := Q4 c32
  refine Sq fun K39 hK39 => (Rg (Va (Qm (o1 := 3) rfl Xu rfl rfl) rfl rfl (Va (Qi rfl Z7 rfl (k3.cell (k := 3) rfl)) rfl rfl (Pu rfl (Ni (hK39 ?_))))))
  refine WC.cond rfl (fun c40 => ?_) (fun c40 => ?_)
  .
   refine Sq fun K41 hK41 => ?_
   refine WC.drawC 3 [(2, W7.heap.size, [.slice none 0 0, .slice none 0 0, .int .i64 0, .bool false], fun cs_ _ => cs_ = [s1, s2, .int .i64 Qd, .bool Qc])] [(some 21, .is (.agg #[s1, s2, .int .i64 Qd, .bool Qc])), (some 22, .is (.agg #[.int .i64 half, .int .i64 gen, .int .i64 used])), (none, .by fun _ _ => True)] [[], [], [0, 0]] ⟨fun _ _ _ _ h => h, trivial⟩ (mA ⟨fun _ _ _ _ h => h, trivial⟩) ⟨fun x hx => (by cases hx), trivial⟩ (XF (mA ⟨_, rfl⟩)) (mA k14) ?_ ?_
   .
    refine Ql.cons rfl (fun Wd hd hbs_ => ?_) ?_
    .
     have k3 := k3.chgM hd (by simp only [List.map_cons, List.map_nil, List.mem_cons, List.not_mem_nil, or_false, not_or]; exact n17)
     exact Dd (Qg rfl Qf rfl k3.range rfl) rfl
    refine Ql.cons rfl (fun Wd hd hbs_ => ?_) ?_
    .
     have k8 := k8.chgM hd (by simp only [List.map_cons, List.map_nil, List.mem_cons, List.not_mem_nil, or_false, not_or]; exact n18)
     exact Dd (Qg rfl Qr rfl k8.range rfl) rfl
    refine Ql.hit rfl (fun Wd hd hb_ => ?_) ?_
    .
     have h1 := h1.chgM hd (mA (.tail _ (.head _)))
     have h2 := h2.chgM hd (mA (.tail _ (.head _)))
     exact (QB (vs := [s1, s2, .int .i64 Qd, .bool Qc]) rfl Qj rfl rfl rfl (oC h1.one (oC h2.one (oC rfl (oC rfl Qk)))) hb_ rfl rfl).mono (fun _ W' h => ⟨h.2, XC.is h.1, trivial⟩)
    exact trivial
   .
    intro W42 hd hq_
    replace h1 := h1.chgM hd (mA (.tail _ (.head _)))
    replace h2 := h2.chgM hd (mA (.tail _ (.head _)))
    replace h3 := h3.chgM hd (mA (.tail _ (.head _)))
    replace k3 := k3.chgM hd (by simp only [List.map_cons, List.map_nil, List.mem_cons, List.not_mem_nil, or_false, not_or]; exact n17)
    replace k8 := k8.chgM hd (by simp only [List.map_cons, List.map_nil, List.mem_cons, List.not_mem_nil, or_false, not_or]; exact n18)
    replace k21 := k21.chgM hd (by simp only [List.map_cons, List.map_nil, List.mem_cons, List.not_mem_nil, or_false, not_or]; exact n26.symm)
    have k43 := hq_ _ (.head _)
    replace k43 := XC.blk k43
    replace hB := hd.toBelow hB (mA l19)
    replace hL := hL.chgM hd
    intro _ _
    refine WL.do (Qh (cs' := [.int .i64 half, .int .i64 gen, .int .i64 used]) (vs := [.int .i64 half, .int .i64 gen, .int .i64 used]) rfl Qv rfl rfl rfl (oC rfl (oC rfl (oC rfl Qk))) k21 rfl (nB rfl) rfl) rfl ?_
    rintro _ W44 ⟨k46, o45⟩
    replace k43 := k43.other o45 n26
    clear k21
    replace h1 := h1.only o45 (.head _)
    replace h2 := h2.only o45 (.head _)
    replace hB := o45.below hB l27
    refine Pu rfl (Ni (hK41 ?_))
    exact WC.ret fun a_ ha_ => hQ (Xp rfl (.agg rfl Qf k43.range rfl) (.agg rfl Qr k46.range rfl) (.tmp rfl) (by have hdn : Qc = true := (by first | assumption | simp_all); obtain ⟨hr1, hr2⟩ := FG (hab.symm.trans (by first | assumption | simp_all)); have hr3 := (Zz hr1).2.1; subst hdn; have hc := G5 hr1 hr2; rw [KB (by rw [hc]; decide), hc]; exact ⟨_, _, rfl, (h1.less (fun x hx => (.tail _ (.tail _ (.tail _ (.tail _ hx)))))), (h2.less (fun x hx => (.tail _ (.tail _ (.tail _ (.tail _ hx))))))⟩) hB ha_)
  .
   replace c40 := ZN c40
   refine Sq fun K47 hK47 => ?_
   obtain ⟨hr1, hr2⟩ := FG (hab.symm.trans (by first | assumption | simp_all)); have hr3 := (Zz hr1).2.1
   refine Rg (Va (Qg rfl Qf rfl k3.range rfl) rfl rfl (Va (Qg rfl Qr rfl k8.range rfl) rfl rfl ?_))
   refine Ge (QO rfl Tryd.func45 rfl rfl rfl (QaC Qb Qa Qd Qc _ _ half gen used W31 _ hL h1 h2 (by omega))) rfl rfl ?_
   rintro _ W49 ⟨⟨lb, rfl, hlb⟩, b48⟩
   replace h1 := h1.below b48
   replace h2 := h2.below b48
   replace h3 := h3.below b48
   replace k3 := k3.below b48
   replace k8 := k8.below b48
   replace k14 := k14.below b48
   replace k21 := k21.below b48
   replace hB := Qe hB b48
   replace hL := LL.below hL b48
   refine Va (XP rfl rfl) rfl rfl (Pu rfl (Ni (hK47 ?_)))
   refine WC.cond rfl (fun c50 => ?_) (fun c50 => ?_)
   .
    replace c50 := Q7 c50
    replace c50 := ZN c50
    refine Sq fun K51 hK51 => ?_
    refine WC.drawC 3 [(2, W7.heap.size, [.slice none 0 0, .slice none 0 0, .int .i64 0, .bool false], fun cs_ _ => cs_ = [s1, s2, .int .i64 Qd, .bool Qc])] [(some 28, .is (.agg #[s1, s2, .int .i64 Qd, .bool Qc])), (some 29, .is (.agg #[.int .i64 half, .int .i64 gen, .int .i64 used])), (none, .by fun _ _ => True)] [[], [], [0, 0]] ⟨fun _ _ _ _ h => h, trivial⟩ (mA ⟨fun _ _ _ _ h => h, trivial⟩) ⟨fun x hx => (by cases hx), trivial⟩ (XF (mA ⟨_, rfl⟩)) (mA k14) ?_ ?_
    .
     refine Ql.cons rfl (fun Wd hd hbs_ => ?_) ?_
     .
      have k3 := k3.chgM hd (by simp only [List.map_cons, List.map_nil, List.mem_cons, List.not_mem_nil, or_false, not_or]; exact n17)
      exact Dd (Qg rfl Qf rfl k3.range rfl) rfl
     refine Ql.cons rfl (fun Wd hd hbs_ => ?_) ?_
     .
      have k8 := k8.chgM hd (by simp only [List.map_cons, List.map_nil, List.mem_cons, List.not_mem_nil, or_false, not_or]; exact n18)
      exact Dd (Qg rfl Qr rfl k8.range rfl) rfl
     refine Ql.hit rfl (fun Wd hd hb_ => ?_) ?_
     .
      have h1 := h1.chgM hd (mA (.tail _ (.head _)))
      have h2 := h2.chgM hd (mA (.tail _ (.head _)))
      exact (QB (vs := [s1, s2, .int .i64 Qd, .bool Qc]) rfl Qj rfl rfl rfl (oC h1.one (oC h2.one (oC rfl (oC rfl Qk)))) hb_ rfl rfl).mono (fun _ W' h => ⟨h.2, XC.is h.1, trivial⟩)
     exact trivial
    .
     intro W52 hd hq_
     replace h1 := h1.chgM hd (mA (.tail _ (.head _)))
     replace h2 := h2.chgM hd (mA (.tail _ (.head _)))
     replace h3 := h3.chgM hd (mA (.tail _ (.head _)))
     replace k3 := k3.chgM hd (by simp only [List.map_cons, List.map_nil, List.mem_cons, List.not_mem_nil, or_false, not_or]; exact n17)
     replace k8 := k8.chgM hd (by simp only [List.map_cons, List.map_nil, List.mem_cons, List.not_mem_nil, or_false, not_or]; exact n18)
     replace k21 := k21.chgM hd (by simp only [List.map_cons, List.map_nil, List.mem_cons, List.not_mem_nil, or_false, not_or]; exact n26.symm)
     have k53 := hq_ _ (.head _)
     replace k53 := XC.blk k53
     replace hB := hd.toBelow hB (mA l19)
     replace hL := hL.chgM hd
     intro _ _
     refine WL.do (Qh (cs' := [.int .i64 half, .int .i64 gen, .int .i64 used]) (vs := [.int .i64 half, .int .i64 gen, .int .i64 used]) rfl Qv rfl rfl rfl (oC rfl (oC rfl (oC rfl Qk))) k21 rfl (nB rfl) rfl) rfl ?_
     rintro _ W54 ⟨k56, o55⟩
     replace k53 := k53.other o55 n26
     clear k21
     replace h1 := h1.only o55 (.head _)
     replace h2 := h2.only o55 (.head _)
     replace hB := o55.below hB l27
     refine Pu rfl (Ni (hK51 ?_))
     exact WC.ret fun a_ ha_ => hQ (Xp rfl (.agg rfl Qf k53.range rfl) (.agg rfl Qr k56.range rfl) (.tmp rfl) (by have hdn : Qc = false := (by first | assumption | simp_all); subst hdn; have hck := Vc hr1 hr2; have hl_ : ¬ Yn (Qb.length : Int) half gen used = 0 := (fun h_ => by have := hlb.2 h_; simp_all); rw [HN hck hl_, Qfe hl_]; exact ⟨_, _, rfl, (h1.less (fun x hx => (.tail _ (.tail _ (.tail _ (.tail _ hx)))))), (h2.less (fun x hx => (.tail _ (.tail _ (.tail _ (.tail _ hx))))))⟩) hB ha_)
   .
    replace c50 := Q4 c50
    refine Sq fun K57 hK57 => ?_
    have hlg : Yn (Qb.length : Int) half gen used = 0 := hlb.1 (by first | assumption | simp_all)
    obtain ⟨hl1, hl2, hl3, hl4, hl5⟩ := Qco hlg
    refine Rg (Pu rfl (Va (ZS (Yj rfl QF rfl h3) (show _ = Value.int .i64 (rec.length : Int) by rw [List.length_map])) rfl rfl (Va (XQ rfl rfl rfl) rfl rfl (Pu rfl (Ni (hK57 ?_))))))
    refine WC.cond rfl (fun c58 => ?_) (fun c58 => ?_)
    .
     replace c58 := dT c58
     refine Sq fun K59 hK59 => ?_
     refine WC.drawC 3 [(2, W7.heap.size, [.slice none 0 0, .slice none 0 0, .int .i64 0, .bool false], fun cs_ _ => cs_ = [s1, s2, .int .i64 Qd, .bool Qc])] [(some 34, .is (.agg #[s1, s2, .int .i64 Qd, .bool Qc])), (some 35, .is (.agg #[.int .i64 half, .int .i64 gen, .int .i64 used])), (none, .by fun _ _ => True)] [[], [], [0, 0]] ⟨fun _ _ _ _ h => h, trivial⟩ (mA ⟨fun _ _ _ _ h => h, trivial⟩) ⟨fun x hx => (by cases hx), trivial⟩ (XF (mA ⟨_, rfl⟩)) (mA k14) ?_ ?_
     .
      refine Ql.cons rfl (fun Wd hd hbs_ => ?_) ?_
      .
       have k3 := k3.chgM hd (by simp only [List.map_cons, List.map_nil, List.mem_cons, List.not_mem_nil, or_false, not_or]; exact n17)
       exact Dd (Qg rfl Qf rfl k3.range rfl) rfl
      refine Ql.cons rfl (fun Wd hd hbs_ => ?_) ?_
      .
       have k8 := k8.chgM hd (by simp only [List.map_cons, List.map_nil, List.mem_cons, List.not_mem_nil, or_false, not_or]; exact n18)
       exact Dd (Qg rfl Qr rfl k8.range rfl) rfl
      refine Ql.hit rfl (fun Wd hd hb_ => ?_) ?_
      .
       have h1 := h1.chgM hd (mA (.tail _ (.head _)))
       have h2 := h2.chgM hd (mA (.tail _ (.head _)))
       exact (QB (vs := [s1, s2, .int .i64 Qd, .bool Qc]) rfl Qj rfl rfl rfl (oC h1.one (oC h2.one (oC rfl (oC rfl Qk)))) hb_ rfl rfl).mono (fun _ W' h => ⟨h.2, XC.is h.1, trivial⟩)
      exact trivial
     .
      intro W60 hd hq_
      replace h1 := h1.chgM hd (mA (.tail _ (.head _)))
      replace h2 := h2.chgM hd (mA (.tail _ (.head _)))
      replace h3 := h3.chgM hd (mA (.tail _ (.head _)))
      replace k3 := k3.chgM hd (by simp only [List.map_cons, List.map_nil, List.mem_cons, List.not_mem_nil, or_false, not_or]; exact n17)
      replace k8 := k8.chgM hd (by simp only [List.map_cons, List.map_nil, List.mem_cons, List.not_mem_nil, or_false, not_or]; exact n18)
      replace k21 := k21.chgM hd (by simp only [List.map_cons, List.map_nil, List.mem_cons, List.not_mem_nil, or_false, not_or]; exact n26.symm)
      have k61 := hq_ _ (.head _)
      replace k61 := XC.blk k61
      replace hB := hd.toBelow hB (mA l19)
      replace hL := hL.chgM hd
      intro _ _
      refine WL.do (Qh (cs' := [.int .i64 half, .int .i64 gen, .int .i64 used]) (vs := [.int .i64 half, .int .i64 gen, .int .i64 used]) rfl Qv rfl rfl rfl (oC rfl (oC rfl (oC rfl Qk))) k21 rfl (nB rfl) rfl) rfl ?_
      rintro _ W62 ⟨k64, o63⟩
      replace k61 := k61.other o63 n26
      clear k21
      replace h1 := h1.only o63 (.head _)
      replace h2 := h2.only o63 (.head _)
      replace hB := o63.below hB l27
      refine Pu rfl (Ni (hK59 ?_))
      exact WC.ret fun a_ ha_ => hQ (Xp rfl (.agg rfl Qf k61.range rfl) (.agg rfl Qr k64.range rfl) (.tmp rfl) (by have hdn : Qc = false := (by first | assumption | simp_all); subst hdn; have hck := Vc hr1 hr2; rw [HQ hck hlg (by omega)]; exact ⟨_, _, rfl, (h1.less (fun x hx => (.tail _ (.tail _ (.tail _ (.tail _ hx)))))), (h2.less (fun x hx => (.tail _ (.tail _ (.tail _ (.tail _ hx))))))⟩) hB ha_)
    .
     replace c58 := dF c58
     refine Sq fun K65 hK65 => ?_
     have hr41 := hn41 (by omega)
     have hsz := JO (r := rec) (by omega)
     refine dM 10 [(some 37, .is (rv)), (some 38, .is (.int .i64 (rec.length : Int))), (some 39, .is (.int .i64 (X2 (rec.length : Int)))), (some 40, .is (.pointer (some ⟨w.heap.size, 0, none⟩))), (some 41, .is (s1)), (some 42, .is (.int .i64 (Qb.length : Int))), (some 43, .is (.int .i64 ((Qb.length : Int) / 2))), (some 44, .is (.pointer (some ⟨W2.heap.size, 2, none⟩))), (some 45, .is (.int .i64 used)), (some 46, .is (.int .i64 (((Qb.length : Int) / 2) - used)))] [[], [0], [1], [], [3], [4], [5], [], [7], [6, 8]] (by exact trivial) ?_ ?_
     .
      refine Dc (fun Wd hd => ?_) ?_
      .
       exact Dd (Qt rfl rfl) rfl
      refine Dc (fun Wd hd => ?_) ?_
      .
       have h3 := h3.below hd
       exact Dd (ZS (Yj rfl QF rfl h3) (show _ = Value.int .i64 (rec.length : Int) by rw [List.length_map])) rfl
      refine Dc (fun Wd hd => ?_) ?_
      .
       exact DR.mono (QO rfl Tryd.func23 rfl rfl rfl (Fa ((rec.length : Nat) : Int) Wd [] (LL.nil _) (by omega))) (fun v W' ⟨h, hb⟩ => ⟨hb, (by rw [h]; exact rfl)⟩)
      refine Dc (fun Wd hd => ?_) ?_
      .
       exact Dd (Qm (o1 := 0) rfl QE rfl rfl) rfl
      refine Dc (fun Wd hd => ?_) ?_
      .
       have k3 := k3.below hd
       exact Dd (Qi rfl Q9 rfl (k3.cell (k := 0) rfl)) rfl
      refine Dc (fun Wd hd => ?_) ?_
      .
       have h1 := h1.below hd
       exact Dd (QY rfl QX rfl h1) rfl
      refine Dc (fun Wd hd => ?_) ?_
      .
       exact Dd (Vn (r := (Qb.length : Int) / 2) rfl rfl rfl (by omega) (by rw [Int.tdiv_eq_ediv_of_nonneg (by omega)]; exact (Qn (by omega)))) rfl
      refine Dc (fun Wd hd => ?_) ?_
      .
       exact Dd (Qm (o1 := 2) rfl Xf rfl rfl) rfl
      refine Dc (fun Wd hd => ?_) ?_
      .
       have k8 := k8.below hd
       exact Dd (Qi rfl Qu rfl (k8.cell (k := 2) rfl)) rfl
      refine Dc (fun Wd hd => ?_) ?_
      .
       exact Dd (Zn (r := ((Qb.length : Int) / 2) - used) rfl rfl rfl (Qn (by omega))) rfl
      exact trivial
     .
      intro W66 b67
      replace h1 := h1.below b67
      replace h2 := h2.below b67
      replace h3 := h3.below b67
      replace k3 := k3.below b67
      replace k8 := k8.below b67
      replace k14 := k14.below b67
      replace k21 := k21.below b67
      replace hB := Qe hB b67
      replace hL := LL.below hL b67
      refine Va (XQ rfl rfl rfl) rfl rfl (Pu rfl (Ni (hK65 ?_)))
      refine WC.cond rfl (fun c68 => ?_) (fun c68 => ?_)
      .
       replace c68 := dT c68
       refine Sq fun K69 hK69 => ?_
       refine WC.drawC 3 [(2, W7.heap.size, [.slice none 0 0, .slice none 0 0, .int .i64 0, .bool false], fun cs_ _ => cs_ = [s1, s2, .int .i64 Qd, .bool Qc])] [(some 48, .is (.agg #[s1, s2, .int .i64 Qd, .bool Qc])), (some 49, .is (.agg #[.int .i64 half, .int .i64 gen, .int .i64 used])), (none, .by fun _ _ => True)] [[], [], [0, 0]] ⟨fun _ _ _ _ h => h, trivial⟩ (mA ⟨fun _ _ _ _ h => h, trivial⟩) ⟨fun x hx => (by cases hx), trivial⟩ (XF (mA ⟨_, rfl⟩)) (mA k14) ?_ ?_
       .
        refine Ql.cons rfl (fun Wd hd hbs_ => ?_) ?_
        .
         have k3 := k3.chgM hd (by simp only [List.map_cons, List.map_nil, List.mem_cons, List.not_mem_nil, or_false, not_or]; exact n17)
         exact Dd (Qg rfl Qf rfl k3.range rfl) rfl
        refine Ql.cons rfl (fun Wd hd hbs_ => ?_) ?_
        .
         have k8 := k8.chgM hd (by simp only [List.map_cons, List.map_nil, List.mem_cons, List.not_mem_nil, or_false, not_or]; exact n18)
         exact Dd (Qg rfl Qr rfl k8.range rfl) rfl
        refine Ql.hit rfl (fun Wd hd hb_ => ?_) ?_
        .
         have h1 := h1.chgM hd (mA (.tail _ (.head _)))
         have h2 := h2.chgM hd (mA (.tail _ (.head _)))
         exact (QB (vs := [s1, s2, .int .i64 Qd, .bool Qc]) rfl Qj rfl rfl rfl (oC h1.one (oC h2.one (oC rfl (oC rfl Qk)))) hb_ rfl rfl).mono (fun _ W' h => ⟨h.2, XC.is h.1, trivial⟩)
        exact trivial
       .
        intro W70 hd hq_
        replace h1 := h1.chgM hd (mA (.tail _ (.head _)))
        replace h2 := h2.chgM hd (mA (.tail _ (.head _)))
        replace h3 := h3.chgM hd (mA (.tail _ (.head _)))
        replace k3 := k3.chgM hd (by simp only [List.map_cons, List.map_nil, List.mem_cons, List.not_mem_nil, or_false, not_or]; exact n17)
        replace k8 := k8.chgM hd (by simp only [List.map_cons, List.map_nil, List.mem_cons, List.not_mem_nil, or_false, not_or]; exact n18)
        replace k21 := k21.chgM hd (by simp only [List.map_cons, List.map_nil, List.mem_cons, List.not_mem_nil, or_false, not_or]; exact n26.symm)
        have k71 := hq_ _ (.head _)
        replace k71 := XC.blk k71
        replace hB := hd.toBelow hB (mA l19)
        replace hL := hL.chgM hd
        intro _ _
        refine WL.do (Qh (cs' := [.int .i64 half, .int .i64 gen, .int .i64 used]) (vs := [.int .i64 half, .int .i64 gen, .int .i64 used]) rfl Qv rfl rfl rfl (oC rfl (oC rfl (oC rfl Qk))) k21 rfl (nB rfl) rfl) rfl ?_
        rintro _ W72 ⟨k74, o73⟩
        replace k71 := k71.other o73 n26
        clear k21
        replace h1 := h1.only o73 (.head _)
        replace h2 := h2.only o73 (.head _)
        replace hB := o73.below hB l27
        refine Pu rfl (Ni (hK69 ?_))
        exact WC.ret fun a_ ha_ => hQ (Xp rfl (.agg rfl Qf k71.range rfl) (.agg rfl Qr k74.range rfl) (.tmp rfl) (by have hdn : Qc = false := (by first | assumption | simp_all); subst hdn; have hck := Vc hr1 hr2; rw [HR hck hlg (by omega) (by omega)]; exact ⟨_, _, rfl, (h1.less (fun x hx => (.tail _ (.tail _ (.tail _ (.tail _ hx)))))), (h2.less (fun x hx => (.tail _ (.tail _ (.tail _ (.tail _ hx))))))⟩) hB ha_)
      .
       replace c68 := dF c68
       refine WC.skip (hK28 (Sq fun K75 hK75 => ?_))
       have hcf : used + (ZV rec : Int) <= (Qb.length : Int) / 2 := by omega
       refine Rg (Pu rfl (Va (Qm (o1 := 1) rfl XN rfl rfl) rfl rfl (Va (Qi rfl Qu rfl (k8.cell (k := 1) rfl)) rfl rfl (Va (Qm (o1 := 2) rfl Xf rfl rfl) rfl rfl (Va (Qi rfl Qu rfl (k8.cell (k := 2) rfl)) rfl rfl ?_)))))
       have hLb := hL
       have hLb := hL
       refine Ge (QO rfl Tryd.func46 rfl rfl rfl (F1 gen used rec rv w W66 L (fun x hx => hL x (.tail _ (.tail _ (.tail _ (.tail _ hx))))) (fun x hx => hL x (.tail _ (.tail _ (.tail _ (.tail _ hx))))) hB h30 (by omega) (by omega))) rfl rfl ?_
       rintro pv W77 ⟨⟨qs, h6, hqf, hqs⟩, b76⟩
       replace h1 := h1.below b76
       replace h2 := h2.below b76
       replace h3 := h3.below b76
       replace k3 := k3.below b76
       replace k8 := k8.below b76
       replace k14 := k14.below b76
       replace k21 := k21.below b76
       replace hB := Qe hB b76
       replace hL := LL.below hL b76
       have h6r : QC 4 (W13.heap.size :: W7.heap.size :: W2.heap.size :: w.heap.size :: L) W77 pv (qs.map YU) := h6.rd (fun x hx => hLb x hx)
       have hqW : Yv (W13.heap.size :: W7.heap.size :: W2.heap.size :: w.heap.size :: L) W77 qs := fun q hq => QC.moreL (hqs q hq) hB (W13.heap.size :: W7.heap.size :: W2.heap.size :: w.heap.size :: L) (fun x_ hx_ => by simp only [List.mem_cons] at hx_; rcases hx_ with rfl | rfl | rfl | rfl | hx_; exact .inr l27; exact .inr l19; exact .inr l12; exact .inr l6; exact .inl hx_)
       have hql : qs.length = ZV rec := by rw [<- XK, <- hqf, List.length_map]
       refine Pu rfl (Ni (hK75 (Sq fun K78 hK78 => (Rg (Va (Qg rfl Qf rfl k3.range rfl) rfl rfl (Va (Qm (o1 := 0) rfl ZM rfl rfl) rfl rfl (Va (Qi rfl Qu rfl (k8.cell (k := 0) rfl)) rfl rfl ?_)))))))
       refine Pu rfl ?_
       refine Ge (QO rfl Tryd.func47 rfl rfl rfl (EW Qb Qa Qd Qc _ _ half qs _ W77 _ hL h1 h2 h6r hqW hfu hl1 (by omega) (Qfs hqf hrb (by omega) (by omega)) (hR.below hB))) rfl rfl ?_
       rintro _ W80 ⟨⟨x1, x2, rfl, y1, y2⟩, b79⟩
       replace h1 := h1.below b79
       replace h2 := h2.below b79
       replace h3 := h3.below b79
       replace h6r := h6r.below b79
       replace hqW := hqW.below b79
       replace k3 := k3.below b79
       replace k8 := k8.below b79
       replace k14 := k14.below b79
       replace k21 := k21.below b79
       replace hB := Qe hB b79
       replace hL := LL.below hL b79
       refine Pu rfl (Pu rfl (Pu rfl ?_))
       refine Ge (Qs rfl QU rfl) rfl rfl ?_
       rintro _ W81 ⟨rfl, k82, b83, z84⟩
       have n85 : w.heap.size ≠ W80.heap.size := Nat.ne_of_lt k3.lt
       have n86 : W2.heap.size ≠ W80.heap.size := Nat.ne_of_lt k8.lt
       have n87 : W7.heap.size ≠ W80.heap.size := Nat.ne_of_lt k14.lt
       have n88 : W13.heap.size ≠ W80.heap.size := Nat.ne_of_lt k21.lt
       have l89 := hB.size
       replace h1 := h1.more b83 (Nat.le_refl _)
       replace h2 := h2.more b83 (Nat.le_refl _)
       replace h3 := h3.more b83 (Nat.le_refl _)
       replace h6r := h6r.more b83 (Nat.le_refl _)
       replace hqW := hqW.more b83 (Nat.le_refl _)
       replace y1 := y1.more b83 (Nat.le_refl _)
       replace y2 := y2.more b83 (Nat.le_refl _)
       replace k3 := k3.below b83
       replace k8 := k8.below b83
       replace k14 := k14.below b83
       replace k21 := k21.below b83
       replace hB := Qe hB b83
       replace hL := LL.more hL z84
       refine WL.do (Qh (cs' := [x1, x2, .int .i64 ((XI (QT (Xx Qb Qa Qd Qc) (half * ((Qb.length : Int) / 2)) (qs.map Prod.fst))).Qd), .bool ((XI (QT (Xx Qb Qa Qd Qc) (half * ((Qb.length : Int) / 2)) (qs.map Prod.fst))).Qc)]) (vs := [x1, x2, .int .i64 ((XI (QT (Xx Qb Qa Qd Qc) (half * ((Qb.length : Int) / 2)) (qs.map Prod.fst))).Qd), .bool ((XI (QT (Xx Qb Qa Qd Qc) (half * ((Qb.length : Int) / 2)) (qs.map Prod.fst))).Qc)]) rfl Qj rfl rfl rfl (oC y1.one (oC y2.one (oC rfl (oC rfl Qk)))) k82 rfl (nB rfl) rfl) rfl ?_
       rintro _ W90 ⟨k92, o91⟩
       replace k3 := k3.other o91 n85
       replace k8 := k8.other o91 n86
       replace k14 := k14.other o91 n87
       replace k21 := k21.other o91 n88
       clear k82
       replace h1 := h1.only o91 (.head _)
       replace h2 := h2.only o91 (.head _)
       replace h3 := h3.only o91 (.head _)
       replace h6r := h6r.only o91 (.head _)
       replace hqW := hqW.only o91 (.head _)
       replace y1 := y1.only o91 (.head _)
       replace y2 := y2.only o91 (.head _)
       replace hB := o91.below hB l89
       replace hL := LL.only hL o91
       refine Pu rfl (Ni (hK78 (Sq fun K93 hK93 => (Sq fun K94 hK94 => (Rg (Pu rfl (Va (Xr rfl rfl rfl) rfl rfl ?_)))))))
       refine Ni (hK94 ?_)
       refine WC.cond rfl (fun c95 => ?_) (fun c95 => ?_)
       .
        replace c95 := Q7 c95
        replace c95 := dF c95
        refine Sq fun K96 hK96 => ?_
        refine WC.drawC 5 [(3, W7.heap.size, [.slice none 0 0, .slice none 0 0, .int .i64 0, .bool false], fun cs_ _ => cs_ = [x1, x2, .int .i64 ((XI (QT (Xx Qb Qa Qd Qc) (half * ((Qb.length : Int) / 2)) (qs.map Prod.fst))).Qd), .bool ((XI (QT (Xx Qb Qa Qd Qc) (half * ((Qb.length : Int) / 2)) (qs.map Prod.fst))).Qc)]), (4, W13.heap.size, [.int .i64 0, .int .i64 0, .int .i64 0], fun cs_ _ => cs_ = [.int .i64 half, .int .i64 gen, .int .i64 used])] [(some 66, .is (.agg #[x1, x2, .int .i64 ((XI (QT (Xx Qb Qa Qd Qc) (half * ((Qb.length : Int) / 2)) (qs.map Prod.fst))).Qd), .bool ((XI (QT (Xx Qb Qa Qd Qc) (half * ((Qb.length : Int) / 2)) (qs.map Prod.fst))).Qc)])), (some 67, .is (.agg #[.int .i64 half, .int .i64 gen, .int .i64 used])), (some 68, .is (.int .i64 ((XI (QT (Xx Qb Qa Qd Qc) (half * ((Qb.length : Int) / 2)) (qs.map Prod.fst))).err))), (none, .by fun _ _ => True), (none, .by fun _ _ => True)] [[], [], [], [0, 0], [1, 3, 0, 1, 3]] ⟨fun _ _ _ _ h => h, fun _ _ _ _ h => h, trivial⟩ (mB ⟨fun _ _ _ _ h => h, fun _ _ _ _ h => h, trivial⟩ ⟨fun _ _ _ _ h => h, fun _ _ _ _ h => h, trivial⟩) ⟨fun x hx => (by simp only [List.mem_cons, List.not_mem_nil, or_false] at hx; subst hx; exact ⟨(show ¬ ((4 : Nat) = 3) by decide), n26.symm⟩), ⟨fun x hx => (by cases hx), trivial⟩⟩ (XF (mB ⟨_, rfl⟩ ⟨_, rfl⟩)) (mB k14 k21) ?_ ?_
        .
         refine Ql.cons rfl (fun Wd hd hbs_ => ?_) ?_
         .
          have k92 := k92.chgM hd (by simp only [List.map_cons, List.map_nil, List.mem_cons, List.not_mem_nil, or_false, not_or]; exact ⟨n87.symm, n88.symm⟩)
          exact Dd (Qg rfl Qf rfl k92.range rfl) rfl
         refine Ql.cons rfl (fun Wd hd hbs_ => ?_) ?_
         .
          have k8 := k8.chgM hd (by simp only [List.map_cons, List.map_nil, List.mem_cons, List.not_mem_nil, or_false, not_or]; exact ⟨n18, n25⟩)
          exact Dd (Qg rfl Qr rfl k8.range rfl) rfl
         refine Ql.cons rfl (fun Wd hd hbs_ => ?_) ?_
         .
          exact Dd (Qt rfl rfl) rfl
         refine Ql.hit rfl (fun Wd hd hb_ => ?_) ?_
         .
          have y1 := y1.chgM hd (mB (.tail _ (.tail _ (.head _))) (.tail _ (.head _)))
          have y2 := y2.chgM hd (mB (.tail _ (.tail _ (.head _))) (.tail _ (.head _)))
          exact (QB (vs := [x1, x2, .int .i64 ((XI (QT (Xx Qb Qa Qd Qc) (half * ((Qb.length : Int) / 2)) (qs.map Prod.fst))).Qd), .bool ((XI (QT (Xx Qb Qa Qd Qc) (half * ((Qb.length : Int) / 2)) (qs.map Prod.fst))).Qc)]) rfl Qj rfl rfl rfl (oC y1.one (oC y2.one (oC rfl (oC rfl Qk)))) hb_ rfl rfl).mono (fun _ W' h => ⟨h.2, XC.is h.1, trivial⟩)
         refine Ql.hit rfl (fun Wd hd hb_ => ?_) ?_
         .
          intro u14_3 p14_3 u14_3 p14_3
          exact (QB (vs := [.int .i64 half, .int .i64 gen, .int .i64 used]) rfl Qv rfl rfl rfl (oC rfl (oC rfl (oC rfl Qk))) hb_ rfl rfl).mono (fun _ W' h => ⟨h.2, XC.is h.1, trivial⟩)
         exact trivial
        .
         intro W97 hd hq_
         replace h1 := h1.chgM hd (mB (.tail _ (.tail _ (.head _))) (.tail _ (.head _)))
         replace h2 := h2.chgM hd (mB (.tail _ (.tail _ (.head _))) (.tail _ (.head _)))
         replace h3 := h3.chgM hd (mB (.tail _ (.tail _ (.head _))) (.tail _ (.head _)))
         replace h6r := h6r.chgM hd (mB (.tail _ (.tail _ (.head _))) (.tail _ (.head _)))
         replace hqW := hqW.chgM hd (mB (.tail _ (.tail _ (.head _))) (.tail _ (.head _)))
         replace y1 := y1.chgM hd (mB (.tail _ (.tail _ (.head _))) (.tail _ (.head _)))
         replace y2 := y2.chgM hd (mB (.tail _ (.tail _ (.head _))) (.tail _ (.head _)))
         replace k3 := k3.chgM hd (by simp only [List.map_cons, List.map_nil, List.mem_cons, List.not_mem_nil, or_false, not_or]; exact ⟨n17, n24⟩)
         replace k8 := k8.chgM hd (by simp only [List.map_cons, List.map_nil, List.mem_cons, List.not_mem_nil, or_false, not_or]; exact ⟨n18, n25⟩)
         replace k92 := k92.chgM hd (by simp only [List.map_cons, List.map_nil, List.mem_cons, List.not_mem_nil, or_false, not_or]; exact ⟨n87.symm, n88.symm⟩)
         have k98 := hq_ _ (.head _)
         replace k98 := XC.blk k98
         have k99 := hq_ _ (.tail _ (.head _))
         replace k99 := XC.blk k99
         replace hB := hd.toBelow hB (mB l19 l27)
         replace hL := hL.chgM hd
         intro _ _
         intro _ _
         refine Pu rfl (Ni (hK96 ?_))
         exact WC.ret fun a_ ha_ => hQ (Xp rfl (.agg rfl Qf k98.range rfl) (.agg rfl Qr k99.range rfl) (.tmp rfl) (by have hdn : Qc = false := (by first | assumption | simp_all); subst hdn; have hck := Vc hr1 hr2; have hae := Qai (f := Qd) (gen := gen) (q := half) (Q := half.toNat) (rec := rec) (Qa := Qa) hr1 (by omega) (by omega) (by omega) hcf (by omega); rw [<- hqf] at hae; have hdi := Fz (was := Xx Qb Qa Qd false) hae; have e_ := HM (Qd := Qd) (rec := rec) hck hlg (by omega) (by omega) (d := QT (Xx Qb Qa Qd false) (half * ((Qb.length : Int) / 2)) (qs.map Prod.fst)) (by rw [hqf]) (by rw [hdi]; exact (by first | assumption | exact Classical.not_not.1 (by assumption))); rw [hdi] at e_; rw [e_]; exact ⟨_, _, rfl, (y1.less (fun x hx => (.tail _ (.tail _ (.tail _ (.tail _ (.tail _ hx))))))), (y2.less (fun x hx => (.tail _ (.tail _ (.tail _ (.tail _ (.tail _ hx)))))))⟩) hB ha_)
       .
        replace c95 := Q4 c95
        replace c95 := dT c95
        refine WC.skip (hK93 (Sq fun K100 hK100 => (Rg (Va (Qm (o1 := 2) rfl Xf rfl rfl) rfl rfl (Va (Qi rfl Qu rfl (k8.cell (k := 2) rfl)) rfl rfl (Pu rfl (Va (ZS (G1 rfl YA rfl h6r) (show _ = Value.int .i64 (X2 (rec.length : Int)) by rw [List.length_map, hql, hsz])) rfl rfl ?_)))))))
        refine Va (QR (r := used + (X2 (rec.length : Int))) rfl rfl rfl (Qn (by omega))) rfl rfl (Va (Qm (o1 := 2) rfl Xf rfl rfl) rfl rfl ?_)
        refine WL.do (Qh (cs' := [.int .i64 half, .int .i64 gen, .int .i64 (used + (X2 (rec.length : Int)))]) (vs := [.int .i64 (used + (X2 (rec.length : Int)))]) rfl Zr rfl rfl rfl (oC rfl Qk) k8 rfl (nB rfl) rfl) rfl ?_
        rintro _ W101 ⟨k103, o102⟩
        replace k3 := k3.other o102 n11
        replace k14 := k14.other o102 n18.symm
        replace k21 := k21.other o102 n25.symm
        replace k92 := k92.other o102 n86.symm
        clear k8
        replace h1 := h1.only o102 (.tail _ (.tail _ (.tail _ (.head _))))
        replace h2 := h2.only o102 (.tail _ (.tail _ (.tail _ (.head _))))
        replace h3 := h3.only o102 (.tail _ (.tail _ (.tail _ (.head _))))
        replace h6r := h6r.only o102 (.tail _ (.tail _ (.tail _ (.head _))))
        replace hqW := hqW.only o102 (.tail _ (.tail _ (.tail _ (.head _))))
        replace y1 := y1.only o102 (.tail _ (.tail _ (.tail _ (.head _))))
        replace y2 := y2.only o102 (.tail _ (.tail _ (.tail _ (.head _))))
        replace hB := o102.below hB l12
        replace hL := LL.only hL o102
        refine Ni (hK100 (Sq fun K104 hK104 => ?_))
        refine WC.drawC 3 [(2, W7.heap.size, [.slice none 0 0, .slice none 0 0, .int .i64 0, .bool false], fun cs_ _ => cs_ = [x1, x2, .int .i64 ((XI (QT (Xx Qb Qa Qd Qc) (half * ((Qb.length : Int) / 2)) (qs.map Prod.fst))).Qd), .bool ((XI (QT (Xx Qb Qa Qd Qc) (half * ((Qb.length : Int) / 2)) (qs.map Prod.fst))).Qc)])] [(some 75, .is (.agg #[x1, x2, .int .i64 ((XI (QT (Xx Qb Qa Qd Qc) (half * ((Qb.length : Int) / 2)) (qs.map Prod.fst))).Qd), .bool ((XI (QT (Xx Qb Qa Qd Qc) (half * ((Qb.length : Int) / 2)) (qs.map Prod.fst))).Qc)])), (some 76, .is (.agg #[.int .i64 half, .int .i64 gen, .int .i64 (used + (X2 (rec.length : Int)))])), (none, .by fun _ _ => True)] [[], [], [0, 0]] ⟨fun _ _ _ _ h => h, trivial⟩ (mA ⟨fun _ _ _ _ h => h, trivial⟩) ⟨fun x hx => (by cases hx), trivial⟩ (XF (mA ⟨_, rfl⟩)) (mA k14) ?_ ?_
        .
         refine Ql.cons rfl (fun Wd hd hbs_ => ?_) ?_
         .
          have k92 := k92.chgM hd (by simp only [List.map_cons, List.map_nil, List.mem_cons, List.not_mem_nil, or_false, not_or]; exact n87.symm)
          exact Dd (Qg rfl Qf rfl k92.range rfl) rfl
         refine Ql.cons rfl (fun Wd hd hbs_ => ?_) ?_
         .
          have k103 := k103.chgM hd (by simp only [List.map_cons, List.map_nil, List.mem_cons, List.not_mem_nil, or_false, not_or]; exact n18)
          exact Dd (Qg rfl Qr rfl k103.range rfl) rfl
         refine Ql.hit rfl (fun Wd hd hb_ => ?_) ?_
         .
          have y1 := y1.chgM hd (mA (.tail _ (.tail _ (.head _))))
          have y2 := y2.chgM hd (mA (.tail _ (.tail _ (.head _))))
          exact (QB (vs := [x1, x2, .int .i64 ((XI (QT (Xx Qb Qa Qd Qc) (half * ((Qb.length : Int) / 2)) (qs.map Prod.fst))).Qd), .bool ((XI (QT (Xx Qb Qa Qd Qc) (half * ((Qb.length : Int) / 2)) (qs.map Prod.fst))).Qc)]) rfl Qj rfl rfl rfl (oC y1.one (oC y2.one (oC rfl (oC rfl Qk)))) hb_ rfl rfl).mono (fun _ W' h => ⟨h.2, XC.is h.1, trivial⟩)
         exact trivial
        .
         intro W105 hd hq_
         replace h1 := h1.chgM hd (mA (.tail _ (.tail _ (.head _))))
         replace h2 := h2.chgM hd (mA (.tail _ (.tail _ (.head _))))
         replace h3 := h3.chgM hd (mA (.tail _ (.tail _ (.head _))))
         replace h6r := h6r.chgM hd (mA (.tail _ (.tail _ (.head _))))
         replace hqW := hqW.chgM hd (mA (.tail _ (.tail _ (.head _))))
         replace y1 := y1.chgM hd (mA (.tail _ (.tail _ (.head _))))
         replace y2 := y2.chgM hd (mA (.tail _ (.tail _ (.head _))))
         replace k3 := k3.chgM hd (by simp only [List.map_cons, List.map_nil, List.mem_cons, List.not_mem_nil, or_false, not_or]; exact n17)
         replace k103 := k103.chgM hd (by simp only [List.map_cons, List.map_nil, List.mem_cons, List.not_mem_nil, or_false, not_or]; exact n18)
         replace k21 := k21.chgM hd (by simp only [List.map_cons, List.map_nil, List.mem_cons, List.not_mem_nil, or_false, not_or]; exact n26.symm)
         replace k92 := k92.chgM hd (by simp only [List.map_cons, List.map_nil, List.mem_cons, List.not_mem_nil, or_false, not_or]; exact n87.symm)
         have k106 := hq_ _ (.head _)
         replace k106 := XC.blk k106
         replace hB := hd.toBelow hB (mA l19)
         replace hL := hL.chgM hd
         intro _ _
         refine WL.do (Qh (cs' := [.int .i64 half, .int .i64 gen, .int .i64 (used + (X2 (rec.length : Int)))]) (vs := [.int .i64 half, .int .i64 gen, .int .i64 (used + (X2 (rec.length : Int)))]) rfl Qv rfl rfl rfl (oC rfl (oC rfl (oC rfl Qk))) k21 rfl (nB rfl) rfl) rfl ?_
         rintro _ W107 ⟨k109, o108⟩
         replace k106 := k106.other o108 n26
         clear k21
         replace y1 := y1.only o108 (.tail _ (.head _))
         replace y2 := y2.only o108 (.tail _ (.head _))
         replace hB := o108.below hB l27
         refine Pu rfl (Ni (hK104 ?_))
         exact WC.ret fun a_ ha_ => hQ (Xp rfl (.agg rfl Qf k106.range rfl) (.agg rfl Qr k109.range rfl) (.tmp rfl) (by have hdn : Qc = false := (by first | assumption | simp_all); subst hdn; have hck := Vc hr1 hr2; have hae := Qai (f := Qd) (gen := gen) (q := half) (Q := half.toNat) (rec := rec) (Qa := Qa) hr1 (by omega) (by omega) (by omega) hcf (by omega); rw [<- hqf] at hae; have hdi := Fz (was := Xx Qb Qa Qd false) hae; have e_ := HO (Qd := Qd) (rec := rec) hck hlg (by omega) (by omega) (d := QT (Xx Qb Qa Qd false) (half * ((Qb.length : Int) / 2)) (qs.map Prod.fst)) (by rw [hqf]) (by rw [hdi]; exact (by first | assumption | exact Classical.not_not.1 (by assumption))); rw [hdi] at e_; rw [e_]; exact ⟨_, _, Fg (by first | assumption | exact Classical.not_not.1 (by assumption)), (y1.less (fun x hx => (.tail _ (.tail _ (.tail _ (.tail _ (.tail _ hx))))))), (y2.less (fun x hx => (.tail _ (.tail _ (.tail _ (.tail _ (.tail _ hx)))))))⟩) hB ha_)

set_option maxHeartbeats 1000000 in
theorem Qbh (Qb : List (List Int)) (Qa : List (Int × List Int)) (Qd : Int) (Qc : Bool) (s1 s2 : Value) (half gen used : Int) (rec : List Int) (rv : Value) (w : World) (L : List Nat) (hL : LL L w) (h1 : QC 128 L w s1 (Qb.map Qq)) (h2 : QC 129 L w s2 (Qa.map QD)) (h3 : QC 1 L w rv (Vq rec))  (hfu : -9223372036854775808 <= Qd /\ Qd <= 9223372036854775807) (hbd : YJ Qb Qa) (hrb : ZX rec) (hul : -9223372036854775808 <= used /\ used <= 9223372036854775807) (hT : ZF w) (hR : UD w) : CV Tryd.prog 4 [.agg #[s1, s2, .int .i64 Qd, .bool Qc], .agg #[.int .i64 half, .int .i64 gen, .int .i64 used], rv] w fun v W => v = .bool true := by
 refine QL (N := 93) (f := [(0, .agg #[s1, s2, .int .i64 Qd, .bool Qc]), (1, .agg #[.int .i64 half, .int .i64 gen, .int .i64 used]), (2, rv)]) Tryd.func4 rfl rfl rfl rfl fun Q hQ hE => ?_
 have hB := Below.refl w.heap.size w
 have h1m : Qb.length <= maxLen := by have := h1.len; rwa [List.length_map] at this
 unfold maxLen at h1m
 have h2m : Qa.length <= maxLen := by have := h2.len; rwa [List.length_map] at this
 unfold maxLen at h2m
 refine Sq fun K1 hK1 => (Rg ?_)
 refine Ge (Xb rfl rfl rfl) rfl rfl ?_
 rintro _ W2 ⟨rfl, k3, b4, z5⟩
 have l6 := hB.size
 replace h1 := h1.more b4 (Nat.le_refl _)
 replace h2 := h2.more b4 (Nat.le_refl _)
 replace h3 := h3.more b4 (Nat.le_refl _)
 replace hB := Qe hB b4
 replace hL := LL.more hL z5
 refine Ge (Xb rfl rfl rfl) rfl rfl ?_
 rintro _ W7 ⟨rfl, k8, b9, z10⟩
 have l12 := hB.size
 replace h1 := h1.more b9 (Nat.le_refl _)
 replace h2 := h2.more b9 (Nat.le_refl _)
 replace h3 := h3.more b9 (Nat.le_refl _)
 replace k3 := k3.below b9
 replace hB := Qe hB b9
 replace hL := LL.more hL z10
 refine Pu rfl (Ni (hK1 (Sq fun K13 hK13 => (Sq fun K14 hK14 => (Rg ?_)))))
 refine Ge (QO rfl Tryd.func9 rfl rfl rfl (Qd6 W7 [] (LL.nil _) (hT.below hB))) rfl rfl ?_
 rintro _ W16 ⟨rfl, b15⟩
 replace h1 := h1.below b15
 replace h2 := h2.below b15
 replace h3 := h3.below b15
 replace k3 := k3.below b15
 replace k8 := k8.below b15
 replace hB := Qe hB b15
 replace hL := LL.below hL b15
 refine Va (XP rfl rfl) rfl rfl (Ni (hK14 (WC.condF rfl (WC.skip (hK13 (Sq fun K17 hK17 => (Sq fun K18 hK18 => ?_)))))))
 refine Rg (Va (Qg rfl Qf rfl k3.range rfl) rfl rfl ?_)
 refine Ge (QO rfl Tryd.func10 rfl rfl rfl (QdL Qb Qa Qd Qc _ _ W16 _ hL h1 h2)) rfl rfl ?_
 rintro _ W20 ⟨⟨gb, rfl, hgb⟩, b19⟩
 replace h1 := h1.below b19
 replace h2 := h2.below b19
 replace h3 := h3.below b19
 replace k3 := k3.below b19
 replace k8 := k8.below b19
 replace hB := Qe hB b19
 replace hL := LL.below hL b19
 refine Pu rfl ?_
 refine WL.split 23 rfl (fun g21 => ?_) (fun g21 => ?_)
 .
  refine Of rfl (Of rfl (Of rfl (Pu rfl (Ni (hK18 (WC.condT rfl (Sq fun K22 hK22 => ?_)))))))
  refine Rg (Pu rfl (Ni (hK22 ?_)))
  exact WC.ret fun a_ ha_ => hQ (QI rfl (.tmp rfl) rfl hB ha_)
 .
  replace g21 := ZN g21
  refine Pu rfl (Va (ZS (Yj rfl QF rfl h3) (show _ = Value.int .i64 (rec.length : Int) by rw [List.length_map])) rfl rfl (Va (XQ rfl rfl rfl) rfl rfl (Pu rfl (Ni (hK18 ?_)))))
  refine WC.cond rfl (fun c23 => ?_) (fun c23 => ?_)
  .
   replace c23 := dT c23
   refine Sq fun K24 hK24 => (Rg (Pu rfl (Ni (hK24 ?_))))
   exact WC.ret fun a_ ha_ => hQ (QI rfl (.tmp rfl) rfl hB ha_)
  .
   replace c23 := dF c23
   refine WC.skip (hK17 (Sq fun K25 hK25 => ?_))
   have hgs := hgb (by first | assumption | simp_all)
   refine Rg (Va (Qg rfl Qf rfl k3.range rfl) rfl rfl (Va (Qg rfl Qr rfl k8.range rfl) rfl rfl (Pu rfl ?_)))
   refine Ge (QO rfl Tryd.func18 rfl rfl rfl (EF Qb Qa Qd Qc _ _ half gen used rec _ W20 _ hL h1 h2 h3 hfu hbd hrb hul (by omega) (hT.below hB))) rfl rfl ?_
   rintro _ W27 ⟨⟨a1, a2, rfl, ag1, ag2⟩, b26⟩
   replace h1 := h1.below b26
   replace h2 := h2.below b26
   replace h3 := h3.below b26
   replace k3 := k3.below b26
   replace k8 := k8.below b26
   replace hB := Qe hB b26
   replace hL := LL.below hL b26
   refine Pu rfl (Pu rfl (Pu rfl (Pu rfl ?_)))
   refine Ge (Qs rfl QU rfl) rfl rfl ?_
   rintro _ W28 ⟨rfl, k29, b30, z31⟩
   have n32 : w.heap.size ≠ W27.heap.size := Nat.ne_of_lt k3.lt
   have n33 : W2.heap.size ≠ W27.heap.size := Nat.ne_of_lt k8.lt
   have l34 := hB.size
   replace h1 := h1.more b30 (Nat.le_refl _)
   replace h2 := h2.more b30 (Nat.le_refl _)
   replace h3 := h3.more b30 (Nat.le_refl _)
   replace ag1 := ag1.more b30 (Nat.le_refl _)
   replace ag2 := ag2.more b30 (Nat.le_refl _)
   replace k3 := k3.below b30
   replace k8 := k8.below b30
   replace hB := Qe hB b30
   replace hL := LL.more hL z31
   refine Ge (Qs rfl XE rfl) rfl rfl ?_
   rintro _ W35 ⟨rfl, k36, b37, z38⟩
   have n39 : w.heap.size ≠ W28.heap.size := Nat.ne_of_lt k3.lt
   have n40 : W2.heap.size ≠ W28.heap.size := Nat.ne_of_lt k8.lt
   have n41 : W27.heap.size ≠ W28.heap.size := Nat.ne_of_lt k29.lt
   have l42 := hB.size
   replace h1 := h1.more b37 (Nat.le_refl _)
   replace h2 := h2.more b37 (Nat.le_refl _)
   replace h3 := h3.more b37 (Nat.le_refl _)
   replace ag1 := ag1.more b37 (Nat.le_refl _)
   replace ag2 := ag2.more b37 (Nat.le_refl _)
   replace k3 := k3.below b37
   replace k8 := k8.below b37
   replace k29 := k29.below b37
   replace hB := Qe hB b37
   replace hL := LL.more hL z38
   refine WL.do (Qh (cs' := [a1, a2, .int .i64 ((QW Qb Qa Qd Qc half gen used rec).1.Qd), .bool ((QW Qb Qa Qd Qc half gen used rec).1.Qc)]) (vs := [a1, a2, .int .i64 ((QW Qb Qa Qd Qc half gen used rec).1.Qd), .bool ((QW Qb Qa Qd Qc half gen used rec).1.Qc)]) rfl Qj rfl rfl rfl (oC ag1.one (oC ag2.one (oC rfl (oC rfl Qk)))) k29 rfl (nB rfl) rfl) rfl ?_
   rintro _ W43 ⟨k45, o44⟩
   replace k3 := k3.other o44 n32
   replace k8 := k8.other o44 n33
   replace k36 := k36.other o44 n41.symm
   clear k29
   replace h1 := h1.only o44 (.tail _ (.head _))
   replace h2 := h2.only o44 (.tail _ (.head _))
   replace h3 := h3.only o44 (.tail _ (.head _))
   replace ag1 := ag1.only o44 (.tail _ (.head _))
   replace ag2 := ag2.only o44 (.tail _ (.head _))
   replace hB := o44.below hB l34
   replace hL := LL.only hL o44
   refine WL.do (Qh (cs' := [.int .i64 ((QW Qb Qa Qd Qc half gen used rec).2.1), .int .i64 ((QW Qb Qa Qd Qc half gen used rec).2.2.1), .int .i64 ((QW Qb Qa Qd Qc half gen used rec).2.2.2)]) (vs := [.int .i64 ((QW Qb Qa Qd Qc half gen used rec).2.1), .int .i64 ((QW Qb Qa Qd Qc half gen used rec).2.2.1), .int .i64 ((QW Qb Qa Qd Qc half gen used rec).2.2.2)]) rfl Qv rfl rfl rfl (oC rfl (oC rfl (oC rfl Qk))) k36 rfl (nB rfl) rfl) rfl ?_
   rintro _ W46 ⟨k48, o47⟩
   replace k3 := k3.other o47 n39
   replace k8 := k8.other o47 n40
   replace k45 := k45.other o47 n41
   clear k36
   replace h1 := h1.only o47 (.head _)
   replace h2 := h2.only o47 (.head _)
   replace h3 := h3.only o47 (.head _)
   replace ag1 := ag1.only o47 (.head _)
   replace ag2 := ag2.only o47 (.head _)
   replace hB := o47.below hB l42
   replace hL := LL.only hL o47
   refine Pu rfl (Ni (hK25 (Sq fun K49 hK49 => (Rg (Va (Qg rfl Qf rfl k3.range rfl) rfl rfl (Va (Qg rfl Qr rfl k8.range rfl) rfl rfl (Pu rfl ?_)))))))
   refine Ge (QO rfl Tryd.func19 rfl rfl rfl (QaI Qb Qa Qd Qc _ _ half gen used rec _ W46 _ hL h1 h2 h3 hfu hbd hrb hul (by omega) (by omega) (hR.below hB))) rfl rfl ?_
   rintro _ W51 ⟨⟨b1, b2, rfl, bg1, bg2⟩, b50⟩
   replace h1 := h1.below b50
   replace h2 := h2.below b50
   replace h3 := h3.below b50
   replace ag1 := ag1.below b50
   replace ag2 := ag2.below b50
   replace k3 := k3.below b50
   replace k45 := k45.below b50
   replace k48 := k48.below b50
   replace hB := Qe hB b50
   replace hL := LL.below hL b50
   refine Pu rfl (Pu rfl (Pu rfl (Pu rfl ?_)))
   refine Ge (Qs rfl QU rfl) rfl rfl ?_
   rintro _ W52 ⟨rfl, k53, b54, z55⟩
   have n56 : w.heap.size ≠ W51.heap.size := Nat.ne_of_lt k3.lt
   have n58 : W27.heap.size ≠ W51.heap.size := Nat.ne_of_lt k45.lt
   have n59 : W28.heap.size ≠ W51.heap.size := Nat.ne_of_lt k48.lt
   have l60 := hB.size
   replace h1 := h1.more b54 (Nat.le_refl _)
   replace h2 := h2.more b54 (Nat.le_refl _)
   replace h3 := h3.more b54 (Nat.le_refl _)
   replace ag1 := ag1.more b54 (Nat.le_refl _)
   replace ag2 := ag2.more b54 (Nat.le_refl _)
   replace bg1 := bg1.more b54 (Nat.le_refl _)
   replace bg2 := bg2.more b54 (Nat.le_refl _)
   replace k3 := k3.below b54
   replace k45 := k45.below b54
   replace k48 := k48.below b54
   replace hB := Qe hB b54
   replace hL := LL.more hL z55
   refine Ge (Qs rfl XE rfl) rfl rfl ?_
   rintro _ W61 ⟨rfl, k62, b63, z64⟩
   have n65 : w.heap.size ≠ W52.heap.size := Nat.ne_of_lt k3.lt
   have n67 : W27.heap.size ≠ W52.heap.size := Nat.ne_of_lt k45.lt
   have n68 : W28.heap.size ≠ W52.heap.size := Nat.ne_of_lt k48.lt
   have n69 : W51.heap.size ≠ W52.heap.size := Nat.ne_of_lt k53.lt
   have l70 := hB.size
   replace h1 := h1.more b63 (Nat.le_refl _)
   replace h2 := h2.more b63 (Nat.le_refl _)
   replace h3 := h3.more b63 (Nat.le_refl _)
   replace ag1 := ag1.more b63 (Nat.le_refl _)
   replace ag2 := ag2.more b63 (Nat.le_refl _)
   replace bg1 := bg1.more b63 (Nat.le_refl _)
   replace bg2 := bg2.more b63 (Nat.le_refl _)
   replace k3 := k3.below b63
   replace k45 := k45.below b63
   replace k48 := k48.below b63
   replace k53 := k53.below b63
   replace hB := Qe hB b63
   replace hL := LL.more hL z64
   refine WL.do (Qh (cs' := [b1, b2, .int .i64 ((QW Qb Qa Qd Qc half gen used rec).1.Qd), .bool ((QW Qb Qa Qd Qc half gen used rec).1.Qc)]) (vs := [b1, b2, .int .i64 ((QW Qb Qa Qd Qc half gen used rec).1.Qd), .bool ((QW Qb Qa Qd Qc half gen used rec).1.Qc)]) rfl Qj rfl rfl rfl (oC bg1.one (oC bg2.one (oC rfl (oC rfl Qk)))) k53 rfl (nB rfl) rfl) rfl ?_
   rintro _ W71 ⟨k73, o72⟩
   replace k3 := k3.other o72 n56
   replace k45 := k45.other o72 n58
   replace k48 := k48.other o72 n59
   replace k62 := k62.other o72 n69.symm
   clear k53
   replace h1 := h1.only o72 (.tail _ (.head _))
   replace h2 := h2.only o72 (.tail _ (.head _))
   replace h3 := h3.only o72 (.tail _ (.head _))
   replace ag1 := ag1.only o72 (.tail _ (.head _))
   replace ag2 := ag2.only o72 (.tail _ (.head _))
   replace bg1 := bg1.only o72 (.tail _ (.head _))
   replace bg2 := bg2.only o72 (.tail _ (.head _))
   replace hB := o72.below hB l60
   replace hL := LL.only hL o72
   refine WL.do (Qh (cs' := [.int .i64 ((QW Qb Qa Qd Qc half gen used rec).2.1), .int .i64 ((QW Qb Qa Qd Qc half gen used rec).2.2.1), .int .i64 ((QW Qb Qa Qd Qc half gen used rec).2.2.2)]) (vs := [.int .i64 ((QW Qb Qa Qd Qc half gen used rec).2.1), .int .i64 ((QW Qb Qa Qd Qc half gen used rec).2.2.1), .int .i64 ((QW Qb Qa Qd Qc half gen used rec).2.2.2)]) rfl Qv rfl rfl rfl (oC rfl (oC rfl (oC rfl Qk))) k62 rfl (nB rfl) rfl) rfl ?_
   rintro _ W74 ⟨k76, o75⟩
   replace k3 := k3.other o75 n65
   replace k45 := k45.other o75 n67
   replace k48 := k48.other o75 n68
   replace k73 := k73.other o75 n69
   clear k62
   replace h1 := h1.only o75 (.head _)
   replace h2 := h2.only o75 (.head _)
   replace h3 := h3.only o75 (.head _)
   replace ag1 := ag1.only o75 (.head _)
   replace ag2 := ag2.only o75 (.head _)
   replace bg1 := bg1.only o75 (.head _)
   replace bg2 := bg2.only o75 (.head _)
   replace hB := o75.below hB l70
   replace hL := LL.only hL o75
   refine Pu rfl (Ni (hK49 (Sq fun K77 hK77 => (Rg (Va (Qg rfl Qf rfl k3.range rfl) rfl rfl ?_)))))
   refine Ge (QO rfl Tryd.func20 rfl rfl rfl (Ev Qb Qa Qd Qc _ _ W74 _ hL h1 h2 hfu hbd (hT.below hB))) rfl rfl ?_
   rintro _ W79 ⟨⟨c1, c2, rfl, cg1, cg2⟩, b78⟩
   replace h1 := h1.below b78
   replace h2 := h2.below b78
   replace h3 := h3.below b78
   replace ag1 := ag1.below b78
   replace ag2 := ag2.below b78
   replace bg1 := bg1.below b78
   replace bg2 := bg2.below b78
   replace k3 := k3.below b78
   replace k45 := k45.below b78
   replace k48 := k48.below b78
   replace k73 := k73.below b78
   replace k76 := k76.below b78
   replace hB := Qe hB b78
   replace hL := LL.below hL b78
   refine Pu rfl (Pu rfl (Pu rfl (Pu rfl ?_)))
   refine Ge (Qs rfl QU rfl) rfl rfl ?_
   rintro _ W80 ⟨rfl, k81, b82, z83⟩
   have n84 : w.heap.size ≠ W79.heap.size := Nat.ne_of_lt k3.lt
   have n86 : W27.heap.size ≠ W79.heap.size := Nat.ne_of_lt k45.lt
   have n87 : W28.heap.size ≠ W79.heap.size := Nat.ne_of_lt k48.lt
   have n88 : W51.heap.size ≠ W79.heap.size := Nat.ne_of_lt k73.lt
   have n89 : W52.heap.size ≠ W79.heap.size := Nat.ne_of_lt k76.lt
   have l90 := hB.size
   replace h1 := h1.more b82 (Nat.le_refl _)
   replace h2 := h2.more b82 (Nat.le_refl _)
   replace h3 := h3.more b82 (Nat.le_refl _)
   replace ag1 := ag1.more b82 (Nat.le_refl _)
   replace ag2 := ag2.more b82 (Nat.le_refl _)
   replace bg1 := bg1.more b82 (Nat.le_refl _)
   replace bg2 := bg2.more b82 (Nat.le_refl _)
   replace cg1 := cg1.more b82 (Nat.le_refl _)
   replace cg2 := cg2.more b82 (Nat.le_refl _)
   replace k3 := k3.below b82
   replace k45 := k45.below b82
   replace k48 := k48.below b82
   replace k73 := k73.below b82
   replace k76 := k76.below b82
   replace hB := Qe hB b82
   replace hL := LL.more hL z83
   refine Ge (Qs rfl XE rfl) rfl rfl ?_
   rintro _ W91 ⟨rfl, k92, b93, z94⟩
   have n95 : w.heap.size ≠ W80.heap.size := Nat.ne_of_lt k3.lt
   have n97 : W27.heap.size ≠ W80.heap.size := Nat.ne_of_lt k45.lt
   have n98 : W28.heap.size ≠ W80.heap.size := Nat.ne_of_lt k48.lt
   have n99 : W51.heap.size ≠ W80.heap.size := Nat.ne_of_lt k73.lt
   have n100 : W52.heap.size ≠ W80.heap.size := Nat.ne_of_lt k76.lt
   have n101 : W79.heap.size ≠ W80.heap.size := Nat.ne_of_lt k81.lt
   have l102 := hB.size
   replace h1 := h1.more b93 (Nat.le_refl _)
   replace h2 := h2.more b93 (Nat.le_refl _)
   replace h3 := h3.more b93 (Nat.le_refl _)
   replace ag1 := ag1.more b93 (Nat.le_refl _)
   replace ag2 := ag2.more b93 (Nat.le_refl _)
   replace bg1 := bg1.more b93 (Nat.le_refl _)
   replace bg2 := bg2.more b93 (Nat.le_refl _)
   replace cg1 := cg1.more b93 (Nat.le_refl _)
   replace cg2 := cg2.more b93 (Nat.le_refl _)
   replace k3 := k3.below b93
   replace k45 := k45.below b93
   replace k48 := k48.below b93
   replace k73 := k73.below b93
   replace k76 := k76.below b93
   replace k81 := k81.below b93
   replace hB := Qe hB b93
   replace hL := LL.more hL z94
   refine WL.do (Qh (cs' := [c1, c2, .int .i64 ((Xa Qb Qa Qd Qc).1.Qd), .bool ((Xa Qb Qa Qd Qc).1.Qc)]) (vs := [c1, c2, .int .i64 ((Xa Qb Qa Qd Qc).1.Qd), .bool ((Xa Qb Qa Qd Qc).1.Qc)]) rfl Qj rfl rfl rfl (oC cg1.one (oC cg2.one (oC rfl (oC rfl Qk)))) k81 rfl (nB rfl) rfl) rfl ?_
   rintro _ W103 ⟨k105, o104⟩
   replace k3 := k3.other o104 n84
   replace k45 := k45.other o104 n86
   replace k48 := k48.other o104 n87
   replace k73 := k73.other o104 n88
   replace k76 := k76.other o104 n89
   replace k92 := k92.other o104 n101.symm
   clear k81
   replace h1 := h1.only o104 (.tail _ (.head _))
   replace h2 := h2.only o104 (.tail _ (.head _))
   replace h3 := h3.only o104 (.tail _ (.head _))
   replace ag1 := ag1.only o104 (.tail _ (.head _))
   replace ag2 := ag2.only o104 (.tail _ (.head _))
   replace bg1 := bg1.only o104 (.tail _ (.head _))
   replace bg2 := bg2.only o104 (.tail _ (.head _))
   replace cg1 := cg1.only o104 (.tail _ (.head _))
   replace cg2 := cg2.only o104 (.tail _ (.head _))
   replace hB := o104.below hB l90
   replace hL := LL.only hL o104
   refine WL.do (Qh (cs' := [.int .i64 ((Xa Qb Qa Qd Qc).2.1), .int .i64 ((Xa Qb Qa Qd Qc).2.2.1), .int .i64 ((Xa Qb Qa Qd Qc).2.2.2)]) (vs := [.int .i64 ((Xa Qb Qa Qd Qc).2.1), .int .i64 ((Xa Qb Qa Qd Qc).2.2.1), .int .i64 ((Xa Qb Qa Qd Qc).2.2.2)]) rfl Qv rfl rfl rfl (oC rfl (oC rfl (oC rfl Qk))) k92 rfl (nB rfl) rfl) rfl ?_
   rintro _ W106 ⟨k108, o107⟩
   replace k3 := k3.other o107 n95
   replace k45 := k45.other o107 n97
   replace k48 := k48.other o107 n98
   replace k73 := k73.other o107 n99
   replace k76 := k76.other o107 n100
   replace k105 := k105.other o107 n101
   clear k92
   replace h1 := h1.only o107 (.head _)
   replace h2 := h2.only o107 (.head _)
   replace h3 := h3.only o107 (.head _)
   replace ag1 := ag1.only o107 (.head _)
   replace ag2 := ag2.only o107 (.head _)
   replace bg1 := bg1.only o107 (.head _)
   replace bg2 := bg2.only o107 (.head _)
   replace cg1 := cg1.only o107 (.head _)
   replace cg2 := cg2.only o107 (.head _)
   replace hB := o107.below hB l102
   replace hL := LL.only hL o107
   refine Pu rfl (Ni (hK77 (Sq fun K109 hK109 => (Rg (Va (Qg rfl Qf rfl k3.range rfl) rfl rfl ?_)))))
   refine Ge (QO rfl Tryd.func21 rfl rfl rfl (QaE Qb Qa Qd Qc _ _ W106 _ hL h1 h2 hfu hbd (by omega) (hR.below hB))) rfl rfl ?_
   rintro _ W111 ⟨⟨d1, d2, rfl, dg1, dg2⟩, b110⟩
   replace h3 := h3.below b110
   replace ag1 := ag1.below b110
   replace ag2 := ag2.below b110
   replace bg1 := bg1.below b110
   replace bg2 := bg2.below b110
   replace cg1 := cg1.below b110
   replace cg2 := cg2.below b110
   replace k45 := k45.below b110
   replace k48 := k48.below b110
   replace k73 := k73.below b110
   replace k76 := k76.below b110
   replace k105 := k105.below b110
   replace k108 := k108.below b110
   replace hB := Qe hB b110
   replace hL := LL.below hL b110
   refine Pu rfl (Pu rfl (Pu rfl (Pu rfl ?_)))
   refine Ge (Qs rfl QU rfl) rfl rfl ?_
   rintro _ W112 ⟨rfl, k113, b114, z115⟩
   have n118 : W27.heap.size ≠ W111.heap.size := Nat.ne_of_lt k45.lt
   have n119 : W28.heap.size ≠ W111.heap.size := Nat.ne_of_lt k48.lt
   have n120 : W51.heap.size ≠ W111.heap.size := Nat.ne_of_lt k73.lt
   have n121 : W52.heap.size ≠ W111.heap.size := Nat.ne_of_lt k76.lt
   have n122 : W79.heap.size ≠ W111.heap.size := Nat.ne_of_lt k105.lt
   have n123 : W80.heap.size ≠ W111.heap.size := Nat.ne_of_lt k108.lt
   have l124 := hB.size
   replace h3 := h3.more b114 (Nat.le_refl _)
   replace ag1 := ag1.more b114 (Nat.le_refl _)
   replace ag2 := ag2.more b114 (Nat.le_refl _)
   replace bg1 := bg1.more b114 (Nat.le_refl _)
   replace bg2 := bg2.more b114 (Nat.le_refl _)
   replace cg1 := cg1.more b114 (Nat.le_refl _)
   replace cg2 := cg2.more b114 (Nat.le_refl _)
   replace dg1 := dg1.more b114 (Nat.le_refl _)
   replace dg2 := dg2.more b114 (Nat.le_refl _)
   replace k45 := k45.below b114
   replace k48 := k48.below b114
   replace k73 := k73.below b114
   replace k76 := k76.below b114
   replace k105 := k105.below b114
   replace k108 := k108.below b114
   replace hB := Qe hB b114
   replace hL := LL.more hL z115
   refine Ge (Qs rfl XE rfl) rfl rfl ?_
   rintro _ W125 ⟨rfl, k126, b127, z128⟩
   have n131 : W27.heap.size ≠ W112.heap.size := Nat.ne_of_lt k45.lt
   have n132 : W28.heap.size ≠ W112.heap.size := Nat.ne_of_lt k48.lt
   have n133 : W51.heap.size ≠ W112.heap.size := Nat.ne_of_lt k73.lt
   have n134 : W52.heap.size ≠ W112.heap.size := Nat.ne_of_lt k76.lt
   have n135 : W79.heap.size ≠ W112.heap.size := Nat.ne_of_lt k105.lt
   have n136 : W80.heap.size ≠ W112.heap.size := Nat.ne_of_lt k108.lt
   have n137 : W111.heap.size ≠ W112.heap.size := Nat.ne_of_lt k113.lt
   have l138 := hB.size
   replace h3 := h3.more b127 (Nat.le_refl _)
   replace ag1 := ag1.more b127 (Nat.le_refl _)
   replace ag2 := ag2.more b127 (Nat.le_refl _)
   replace bg1 := bg1.more b127 (Nat.le_refl _)
   replace bg2 := bg2.more b127 (Nat.le_refl _)
   replace cg1 := cg1.more b127 (Nat.le_refl _)
   replace cg2 := cg2.more b127 (Nat.le_refl _)
   replace dg1 := dg1.more b127 (Nat.le_refl _)
   replace dg2 := dg2.more b127 (Nat.le_refl _)
   replace k45 := k45.below b127
   replace k48 := k48.below b127
   replace k73 := k73.below b127
   replace k76 := k76.below b127
   replace k105 := k105.below b127
   replace k108 := k108.below b127
   replace k113 := k113.below b127
   replace hB := Qe hB b127
   replace hL := LL.more hL z128
   refine WL.do (Qh (cs' := [d1, d2, .int .i64 ((Xa Qb Qa Qd Qc).1.Qd), .bool ((Xa Qb Qa Qd Qc).1.Qc)]) (vs := [d1, d2, .int .i64 ((Xa Qb Qa Qd Qc).1.Qd), .bool ((Xa Qb Qa Qd Qc).1.Qc)]) rfl Qj rfl rfl rfl (oC dg1.one (oC dg2.one (oC rfl (oC rfl Qk)))) k113 rfl (nB rfl) rfl) rfl ?_
   rintro _ W139 ⟨k141, o140⟩
   replace k45 := k45.other o140 n118
   replace k48 := k48.other o140 n119
   replace k73 := k73.other o140 n120
   replace k76 := k76.other o140 n121
   replace k105 := k105.other o140 n122
   replace k108 := k108.other o140 n123
   replace k126 := k126.other o140 n137.symm
   clear k113
   replace h3 := h3.only o140 (.tail _ (.head _))
   replace ag1 := ag1.only o140 (.tail _ (.head _))
   replace ag2 := ag2.only o140 (.tail _ (.head _))
   replace bg1 := bg1.only o140 (.tail _ (.head _))
   replace bg2 := bg2.only o140 (.tail _ (.head _))
   replace cg1 := cg1.only o140 (.tail _ (.head _))
   replace cg2 := cg2.only o140 (.tail _ (.head _))
   replace dg1 := dg1.only o140 (.tail _ (.head _))
   replace dg2 := dg2.only o140 (.tail _ (.head _))
   replace hB := o140.below hB l124
   replace hL := LL.only hL o140
   refine WL.do (Qh (cs' := [.int .i64 ((Xa Qb Qa Qd Qc).2.1), .int .i64 ((Xa Qb Qa Qd Qc).2.2.1), .int .i64 ((Xa Qb Qa Qd Qc).2.2.2)]) (vs := [.int .i64 ((Xa Qb Qa Qd Qc).2.1), .int .i64 ((Xa Qb Qa Qd Qc).2.2.1), .int .i64 ((Xa Qb Qa Qd Qc).2.2.2)]) rfl Qv rfl rfl rfl (oC rfl (oC rfl (oC rfl Qk))) k126 rfl (nB rfl) rfl) rfl ?_
   rintro _ W142 ⟨k144, o143⟩
   replace k45 := k45.other o143 n131
   replace k48 := k48.other o143 n132
   replace k73 := k73.other o143 n133
   replace k76 := k76.other o143 n134
   replace k105 := k105.other o143 n135
   replace k108 := k108.other o143 n136
   replace k141 := k141.other o143 n137
   clear k126
   replace h3 := h3.only o143 (.head _)
   replace ag1 := ag1.only o143 (.head _)
   replace ag2 := ag2.only o143 (.head _)
   replace bg1 := bg1.only o143 (.head _)
   replace bg2 := bg2.only o143 (.head _)
   replace cg1 := cg1.only o143 (.head _)
   replace cg2 := cg2.only o143 (.head _)
   replace dg1 := dg1.only o143 (.head _)
   replace dg2 := dg2.only o143 (.head _)
   replace hB := o143.below hB l138
   replace hL := LL.only hL o143
   refine Pu rfl (Ni (hK109 (Sq fun K145 hK145 => (Rg (Va (Qg rfl Qf rfl k45.range rfl) rfl rfl (Va (Qg rfl Qf rfl k73.range rfl) rfl rfl ?_))))))
   refine Ge (QO rfl Tryd.func16 rfl rfl rfl (D6 ((QW Qb Qa Qd Qc half gen used rec).1.Qb) ((QW Qb Qa Qd Qc half gen used rec).1.Qa) ((QW Qb Qa Qd Qc half gen used rec).1.Qd) ((QW Qb Qa Qd Qc half gen used rec).1.Qc) _ _ _ _ W142 _ hL ag1 ag2 bg1 bg2)) rfl rfl ?_
   rintro _ W147 ⟨rfl, b146⟩
   replace h3 := h3.below b146
   replace cg1 := cg1.below b146
   replace cg2 := cg2.below b146
   replace dg1 := dg1.below b146
   replace dg2 := dg2.below b146
   replace k48 := k48.below b146
   replace k76 := k76.below b146
   replace k105 := k105.below b146
   replace k108 := k108.below b146
   replace k141 := k141.below b146
   replace k144 := k144.below b146
   replace hB := Qe hB b146
   replace hL := LL.below hL b146
   refine Pu rfl (Va (Qg rfl Qr rfl k48.range rfl) rfl rfl (Va (Qg rfl Qr rfl k76.range rfl) rfl rfl (Va (G3 rfl rfl rfl) rfl rfl (Pu rfl (Pu rfl (Pu rfl (Pu rfl ?_)))))))
   refine Va (QeX (Zo rfl rfl rfl) rfl) rfl rfl (Pu rfl (Pu rfl (Va (Qg rfl Qf rfl k105.range rfl) rfl rfl (Va (Qg rfl Qf rfl k141.range rfl) rfl rfl ?_))))
   refine Ge (QO rfl Tryd.func16 rfl rfl rfl (D6 ((Xa Qb Qa Qd Qc).1.Qb) ((Xa Qb Qa Qd Qc).1.Qa) ((Xa Qb Qa Qd Qc).1.Qd) ((Xa Qb Qa Qd Qc).1.Qc) _ _ _ _ W147 _ hL cg1 cg2 dg1 dg2)) rfl rfl ?_
   rintro _ W149 ⟨rfl, b148⟩
   replace h3 := h3.below b148
   replace k108 := k108.below b148
   replace k144 := k144.below b148
   replace hB := Qe hB b148
   refine Pu rfl (Pu rfl (Va (Qg rfl Qr rfl k108.range rfl) rfl rfl (Va (Qg rfl Qr rfl k144.range rfl) rfl rfl (Va (G3 rfl rfl rfl) rfl rfl (Pu rfl (Pu rfl (Pu rfl ?_)))))))
   refine Pu rfl (Va (QeX (Zo rfl rfl rfl) rfl) rfl rfl (Pu rfl (Pu rfl (Pu rfl (Va (ZS (Yj rfl QF rfl h3) (show _ = Value.int .i64 (rec.length : Int) by rw [List.length_map])) rfl rfl ?_)))))
   refine Ge (QO rfl Tryd.func22 rfl rfl rfl (ES ((rec.length : Nat) : Int) W149 [] (LL.nil _) (by omega))) rfl rfl ?_
   rintro _ W151 ⟨rfl, b150⟩
   replace h3 := h3.below b150
   replace hB := Qe hB b150
   refine Pu rfl (Va (ZS (Yj rfl QF rfl h3) (show _ = Value.int .i64 (rec.length : Int) by rw [List.length_map])) rfl rfl ?_)
   refine Ge (QO rfl Tryd.func23 rfl rfl rfl (Fa ((rec.length : Nat) : Int) W151 [] (LL.nil _) (by omega))) rfl rfl ?_
   rintro _ W153 ⟨rfl, b152⟩
   replace hB := Qe hB b152
   refine Va (QeX (Zo rfl rfl rfl) rfl) rfl rfl (Pu rfl (Pu rfl (Ni (hK145 ?_))))
   exact WC.ret fun a_ ha_ => hQ (QI rfl (.tmp rfl) rfl hB ha_)

end Go.Proofs.YtfachlmgdlnpoaaDoor
