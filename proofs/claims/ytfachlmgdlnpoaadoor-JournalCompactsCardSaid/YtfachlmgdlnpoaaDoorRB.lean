/- Package disk, walked. Package disk: Read, Sync, Fall; the reference. The laws on disks: alive, great, DiskReads. A region whose order is drawn, of whi -/
import Derived.Lib.Overlaps
import Derived.Sort.OwnSorted
import Derived.Lib.SlicesCompact
import Derived.Lib.RowBridge
import Derived.Lib.AppendZeros
import Derived.Laws.BitsAllLaws
import Derived.Laws.Closers25b
import Derived.Deep.QuietTactic
import Derived.BigQuiet
import Derived.RegionTactic
import Derived.Deep.RegionWith
import Derived.Deep.RegionHeld3
import Derived.StillTailTactics
import Derived.Laws.Bits64
import Derived.ChangeKeysEq
import Derived.Laws.StructEq
import Derived.Deep.MidRow
import Derived.Lib.SlBuf
import Derived.Laws.CopyRow
import Derived.Laws.MakeOwn
import Derived.Test.YtfachlmgdlnpoaaDoorRA
namespace Go.Proofs.YtfachlmgdlnpoaaDoor
open Go.RowKit
set_option linter.unusedVariables false
set_option linter.unusedSimpArgs false
set_option maxRecDepth 8000
set_option maxHeartbeats 2000000

def Qr (z : List Int) : List Value := z.map (Value.int .u8)
def QG (p : Int × List Int) : List Value := .int .i64 p.1 :: Qr p.2
theorem Qo (z : List Int) : (Qr z).length = z.length := by simp [Qr]
theorem YU (z : List Int) : ∀ u ∈ Qr z, u.oneCell' = true := fun u hu => by
 obtain ⟨n, _, rfl⟩ := List.mem_map.1 hu
 rfl
theorem Qfn (p : Int × List Int) : ∀ u ∈ QG p, u.oneCell' = true := VY rfl (YU p.2)
theorem D0 {α : Type} {enc : α -> List Value} (h : ∀ x, ∀ u ∈ enc x, u.oneCell' = true) (xs : List α) : ∀ r ∈ xs.map enc, ∀ u ∈ r, u.oneCell' = true := fun r hr => by
 obtain ⟨x, _, rfl⟩ := List.mem_map.1 hr
 exact h x
theorem XG {α : Type} {enc : α -> List Value} {xs : List α} {i : Nat} {x : α} (h : xs[i]? = some x) : (xs.map enc)[i]? = some (enc x) := by rw [List.getElem?_map, h]; rfl
theorem Ed {L : List Nat} {w : World} {v : Value} {xs : List (List Int)} (h : QD 128 L w v (xs.map Qr)) {i : Nat} {x : List Int} (hx : xs[i]? = some x) : x.length = 128 := by
 have := h.2.1 _ (List.mem_of_getElem? (XG (enc := Qr) hx))
 rwa [Qo] at this
theorem J1 {L : List Nat} {w : World} {v : Value} {xs : List (Int × List Int)} (h : QD 129 L w v (xs.map QG)) {i : Nat} {x : Int × List Int} (hx : xs[i]? = some x) : x.2.length = 128 := by
 have := h.2.1 _ (List.mem_of_getElem? (XG (enc := QG) hx))
 simpa [QG, Qo] using this
def KF {α : Type} (p : α -> Bool) : List α -> Int -> Int
 | [], _ => -1
 | x :: l, i => if p x then i else KF p l (i + 1)
theorem Qa5 {α : Type} {p : α -> Bool} {xs : List α} {i : Nat} {x : α} (h : xs[i]? = some x) (hx : p x = false) : KF p (xs.drop i) i = KF p (xs.drop (i + 1)) ((i + 1 : Nat) : Int) := by
 obtain ⟨hl, he⟩ := List.getElem?_eq_some_iff.1 h
 rw [List.drop_eq_getElem_cons hl, he, KF, hx]
 simp
theorem Qa6 {α : Type} {p : α -> Bool} {xs : List α} {i : Nat} {x : α} (h : xs[i]? = some x) (hx : p x = true) : KF p (xs.drop i) i = i := by
 obtain ⟨hl, he⟩ := List.getElem?_eq_some_iff.1 h
 rw [List.drop_eq_getElem_cons hl, he, KF, hx]
 simp
theorem QcG {α : Type} {p : α -> Bool} {xs : List α} {i : Nat} (h : ¬ (i : Int) < xs.length) : KF p (xs.drop i) i = -1 := by
 rw [List.drop_eq_nil_of_le (by omega)]; rfl
theorem Eu {α : Type} {p : α -> Bool} : ∀ (xs : List α) (i : Int), 0 <= i -> decide (0 <= KF p xs i) = xs.any p
 | [], i, _ => by simp [KF]
 | x :: l, i, h => by
  unfold KF
  cases hx : p x with
  | true => simp [hx, h]
  | false => simp [hx]; have := Eu (p := p) l (i + 1) (by omega); simpa using this
section
variable {P : Program} {ops : Array Oper} {o : Oper} {N : Nat} {f : Fl} {w : World}
theorem QT {α : Type} {enc : α -> List Value} {xs : List α} {t s s' : Nat} {L : List Nat} {x : Operand} {v : Value} (ho : o.op = .call { callee := .builtin .len, args := #[x], argTypes := #[t] }) (ht : X3 P t s' = true) (hx : ev f x = some v) (hr : QD s L w v (xs.map enc)) (hw : QP ops o f = some true := by rfl) : DV P ops o N f w (.int .i64 (xs.length : Int)) := by
 have := Kj (N := N) ho ht hx hr hw
 rwa [List.length_map] at this
end
def Vq (Qb : List (List Int)) (a : Int) : Bool := decide (0 <= a) && decide (a < Qb.length)
theorem Da {Qb : List (List Int)} {a : Int} (h : Vq Qb a = true) : 0 <= a /\ a < Qb.length := by simpa [Vq] using h
set_option maxHeartbeats 1000000 in
theorem QcI (Qb : List (List Int)) (Qa : List (Int × List Int)) (Qd : Int) (Qc : Bool) (s1 s2 : Value) (at_ : Int) (w : World) (L : List Nat) (hL : LL L w) (h1 : QD 128 L w s1 (Qb.map Qr)) (h2 : QD 129 L w s2 (Qa.map QG)) : CV Tryd.prog 71 [.agg #[s1, s2, .int .i64 Qd, .bool Qc], .int .i64 at_] w fun v W => v = .bool (Vq Qb at_) := by
 refine QN (N := 14) (f := [(0, .agg #[s1, s2, .int .i64 Qd, .bool Qc]), (1, .int .i64 at_)]) Tryd.func71 rfl rfl rfl rfl fun Q hQ hE => ?_
 have hB := Below.refl w.heap.size w
 have h1m : Qb.length <= maxLen := by have := h1.len; rwa [List.length_map] at this
 unfold maxLen at h1m
 have h2m : Qa.length <= maxLen := by have := h2.len; rwa [List.length_map] at this
 unfold maxLen at h2m
 refine Sq fun K1 hK1 => (Rg ?_)
 refine Ge (Xa rfl rfl rfl) rfl rfl ?_
 rintro _ W2 ⟨rfl, k3, b4, z5⟩
 have l6 := hB.size
 replace h1 := h1.more b4 (Nat.le_refl _)
 replace hB := Qe hB b4
 refine Pu rfl (Ni (hK1 (Sq fun K7 hK7 => (Rg (Pu rfl (Va (Yr rfl rfl rfl) rfl rfl (Pu rfl ?_)))))))
 refine WL.split 7 rfl (fun g8 => ?_) (fun g8 => ?_)
 .
  replace g8 := dT g8
  refine Pu rfl (Va (Qn (o1 := 0) rfl QE rfl rfl) rfl rfl (Va (Qi rfl Q7 rfl (k3.cell (k := 0) rfl)) rfl rfl (Va (QT rfl QW rfl h1) rfl rfl (Va (Xe rfl rfl rfl) rfl rfl (Pu rfl (Pu rfl (Ni ?_)))))))
  refine hK7 ?_
  exact WC.ret fun a_ ha_ => hQ (QI rfl (.tmp rfl) (by simp [Vq, *]) hB ha_)
 .
  replace g8 := dF g8
  refine Of rfl (Of rfl (Of rfl (Of rfl (Of rfl (Pu rfl (Pu rfl (Ni ?_)))))))
  refine hK7 ?_
  exact WC.ret fun a_ ha_ => hQ (QI rfl (.tmp rfl) (by simp [Vq, *]) hB ha_)

set_option maxHeartbeats 1000000 in
theorem QbY (Qb : List (List Int)) (Qa : List (Int × List Int)) (Qd : Int) (Qc : Bool) (s1 s2 : Value) (p : Int × List Int) (hp : p.2.length = 128) (u : Value) (w : World) (L : List Nat) (hL : LL L w) (h1 : QD 128 L w s1 (Qb.map Qr)) (h2 : QD 129 L w s2 (Qa.map QG)) (h0 : JB L w u [s1, s2, .int .i64 Qd, .bool Qc]) : CV Tryd.prog 70 [.agg (QG p).toArray, u] w fun v W => v = .bool (!Vq Qb p.1) := by
 refine QN (N := 9) (f := [(0, .agg (QG p).toArray), (1, u)]) Tryd.func70 rfl rfl rfl rfl fun Q hQ hE => ?_
 have hB := Below.refl w.heap.size w
 have h1m : Qb.length <= maxLen := by have := h1.len; rwa [List.length_map] at this
 unfold maxLen at h1m
 have h2m : Qa.length <= maxLen := by have := h2.len; rwa [List.length_map] at this
 unfold maxLen at h2m
 refine Sq fun K1 hK1 => (Rg ?_)
 refine Ge (Xa (cs := (QG p)) rfl rfl rfl) rfl rfl ?_
 rintro _ W2 ⟨rfl, k3, b4, z5⟩
 have l6 := hB.size
 replace h1 := h1.more b4 (Nat.le_refl _)
 replace h2 := h2.more b4 (Nat.le_refl _)
 replace h0 := h0.more b4 (Nat.le_refl _)
 replace hB := Qe hB b4
 refine Pu rfl (Ni (hK1 (Sq fun K7 hK7 => (Rg (Va (Zc rfl Qf rfl h0 rfl) rfl rfl (Va (Qn (o1 := 0) rfl ZB rfl rfl) rfl rfl (Va (Qi rfl Qv rfl (k3.cell (k := 0) rfl)) rfl rfl ?_)))))))
 refine Ge (QQ rfl Tryd.func71 rfl rfl rfl (QcI _ _ _ _ _ _ p.1 W2 [] (LL.nil _) (h1.less (by simp)) (h2.less (by simp)))) rfl rfl ?_
 rintro _ W9 ⟨rfl, b8⟩
 replace hB := Qe hB b8
 refine Va (XU rfl rfl) rfl rfl (Pu rfl (Ni (hK7 ?_)))
 exact WC.ret fun a_ ha_ => hQ (QI rfl (.tmp rfl) rfl hB ha_)

set_option maxHeartbeats 1000000 in
theorem Fq (xs : List (Int × List Int)) (p : Int × List Int -> Bool) (sv g : Value) (w : World) (L : List Nat) (hL : LL L w) (h2 : QD 129 L w sv (xs.map QG))  (hg : ∀ W, Below w.heap.size w W -> ∀ x ∈ xs, FV Tryd.prog g [.agg (QG x).toArray] W fun v _ => v = .bool (p x)) : CV Tryd.prog 85 [sv, g] w fun v W => v = .int .i64 (KF p xs 0) := by
 refine QN (N := 19) (f := [(0, sv), (1, g)]) Tryd.func85 rfl rfl rfl rfl fun Q hQ hE => ?_
 have hB := Below.refl w.heap.size w
 have h2m : xs.length <= maxLen := by have := h2.len; rwa [List.length_map] at this
 unfold maxLen at h2m
 refine Sq fun K1 hK1 => (Rg (Pu rfl (Ni (hK1 (Sq fun K2 hK2 => (Sq fun K3 hK3 => (Rg ?_)))))))
 refine Pu rfl (Va (QT rfl QY rfl h2) rfl rfl (Pu rfl (Ni (hK3 (WC.block ?_)))))
 refine WC.loop (fun (i : Nat) => [(0, sv), (1, g), (7, .int .i64 (xs.length : Int)), (8, .int .i64 (i : Int))]) (fun (i : Nat) W => i <= xs.length /\ KF p xs 0 = KF p (xs.drop i) i /\ Below w.heap.size w W /\ LL (L) W /\ QD 129 (L) W sv (xs.map QG)) (fun (i : Nat) => xs.length - i) 0 (by repeat first | exact trivial | refine aR ?_ | refine aI (by omega) ?_) ⟨Nat.zero_le _, rfl, hB, hL, h2⟩ ?_
 clear h2 hB hL
 rintro K4 i W5 ⟨hi, hv, hB, hL, h2⟩ hK4
 refine Sq fun K6 hK6 => (Rg (Va (Xe rfl rfl rfl) rfl rfl (Ni (hK6 (Sq fun K7 hK7 => ?_)))))
 refine WC.cond rfl (fun c8 => ?_) (fun c8 => ?_)
 .
  replace c8 := dT c8
  refine WC.skip (hK7 (Sq fun K9 hK9 => (WC.block (Sq fun K10 hK10 => (Rg (Pu rfl (Pu rfl ?_)))))))
  refine Ni (hK10 (Sq fun K11 hK11 => (Rg (Pu rfl (Pu rfl (Pu rfl ?_))))))
  obtain ⟨r12, e13⟩ : ∃ x, xs[i]? = some x := ⟨_, List.getElem?_eq_getElem (by omega)⟩
  have Lr12 := J1 h2 e13
  refine Ge (XH i rfl QY rfl rfl h2 (by omega) (XG e13)) rfl rfl ?_
  rintro u14 _ ⟨rfl, p15⟩
  refine Va (Zc rfl Vd rfl p15 (by simp [QG, Qo, Lr12])) rfl rfl ?_
  refine Ge (Qeu rfl rfl rfl (hg _ hB r12 (List.mem_of_getElem? e13))) rfl rfl ?_
  rintro _ W17 ⟨rfl, b16⟩
  replace h2 := h2.below b16
  replace hB := Qe hB b16
  replace hL := LL.below hL b16
  refine Ni (hK11 ?_)
  refine WC.cond rfl (fun c18 => ?_) (fun c18 => ?_)
  .
   refine Sq fun K19 hK19 => (Rg (Pu rfl (Pu rfl (Ni (hK19 ?_)))))
   exact WC.ret fun a_ ha_ => hQ (QI rfl (.tmp rfl) (by rw [hv, Qa6 e13 (by assumption)]) hB ha_)
  .
   refine WC.skip (hK9 (Rg (Va (QR (r := (i : Int) + 1) rfl rfl rfl (Qm (by omega))) rfl rfl (Pu rfl (Ni ?_)))))
   exact hK4 (i + 1) ⟨(by omega), (by rw [hv]; exact Qa5 e13 (by assumption)), hB, hL, h2⟩ (by omega) (by repeat first | exact trivial | refine aR ?_ | refine aI (by omega) ?_)
 .
  replace c8 := dF c8
  refine WC.exit ?_
  refine hK2 (Sq fun K20 hK20 => (Rg (Pu rfl (Ni (hK20 ?_)))))
  exact WC.ret fun a_ ha_ => hQ (QI rfl (.tmp rfl) (by rw [hv, QcG (by omega)]) hB ha_)

set_option maxHeartbeats 1000000 in
theorem KY (xs : List (Int × List Int)) (p : Int × List Int -> Bool) (sv g : Value) (w : World) (L : List Nat) (hL : LL L w) (h2 : QD 129 L w sv (xs.map QG))  (hg : ∀ W, Below w.heap.size w W -> ∀ x ∈ xs, FV Tryd.prog g [.agg (QG x).toArray] W fun v _ => v = .bool (p x)) : CV Tryd.prog 69 [sv, g] w fun v W => v = .bool (xs.any p) := by
 refine QN (N := 9) (f := [(0, sv), (1, g)]) Tryd.func69 rfl rfl rfl rfl fun Q hQ hE => ?_
 have hB := Below.refl w.heap.size w
 have h2m : xs.length <= maxLen := by have := h2.len; rwa [List.length_map] at this
 unfold maxLen at h2m
 refine WC.seq fun K1 hK1 => (WC.region (Pu rfl (WL.nil (hK1 (WC.seq fun K2 hK2 => (WC.region (Pu rfl ?_)))))))
 refine Pu rfl ?_
 refine WL.get (QQ rfl Tryd.func85 rfl rfl rfl (Fq xs p _ _ w L (by first | exact hL | exact LL.below hL hB) h2 (fun W hW => hg W (Qe hB hW)))) rfl rfl ?_
 rintro _ W4 ⟨rfl, b3⟩
 replace hB := Qe hB b3
 refine WL.val (Yr rfl rfl rfl) rfl rfl (Pu rfl (WL.nil (hK2 ?_)))
 exact WC.ret fun a_ ha_ => hQ (QI rfl (.tmp rfl) (by rw [Eu xs 0 (by omega)]) hB ha_)

def QM (Qb : List (List Int)) (Qa : List (Int × List Int)) : Bool :=
 !((decide ((Qb.length : Int) < 1) || decide (2048 < (Qb.length : Int))) || decide (4096 < (Qa.length : Int))) && !Qa.any fun p => !Vq Qb p.1
set_option maxHeartbeats 1000000 in
theorem Ga (Qb : List (List Int)) (Qa : List (Int × List Int)) (Qd : Int) (Qc : Bool) (s1 s2 : Value) (w : World) (L : List Nat) (hL : LL L w) (h1 : QD 128 L w s1 (Qb.map Qr)) (h2 : QD 129 L w s2 (Qa.map QG)) : CV Tryd.prog 50 [.agg #[s1, s2, .int .i64 Qd, .bool Qc]] w fun v W => v = .bool (QM Qb Qa) := by
 refine QN (N := 24) (f := [(0, .agg #[s1, s2, .int .i64 Qd, .bool Qc])]) Tryd.func50 rfl rfl rfl rfl fun Q hQ hE => ?_
 have hB := Below.refl w.heap.size w
 have h1m : Qb.length <= maxLen := by have := h1.len; rwa [List.length_map] at this
 unfold maxLen at h1m
 have h2m : Qa.length <= maxLen := by have := h2.len; rwa [List.length_map] at this
 unfold maxLen at h2m
 refine Sq fun K1 hK1 => (Rg ?_)
 refine Ge (Xa rfl rfl rfl) rfl rfl ?_
 rintro _ W2 ⟨rfl, k3, b4, z5⟩
 have l6 := hB.size
 replace h1 := h1.more b4 (Nat.le_refl _)
 replace h2 := h2.more b4 (Nat.le_refl _)
 replace hB := Qe hB b4
 refine Pu rfl (Ni (hK1 (Sq fun K7 hK7 => (Sq fun K8 hK8 => (Rg (Va (Qn (o1 := 0) rfl QE rfl rfl) rfl rfl (Va (Qi rfl Q7 rfl (k3.cell (k := 0) rfl)) rfl rfl ?_)))))))
 refine Va (QT rfl QW rfl h1) rfl rfl (Va (Xe rfl rfl rfl) rfl rfl (Pu rfl ?_))
 refine WL.split 7 rfl (fun g9 => ?_) (fun g9 => ?_)
 .
  replace g9 := dT g9
  refine Of rfl (Of rfl (Of rfl (Of rfl (Pu rfl (Pu rfl (Of rfl (Of rfl ?_)))))))
  refine Of rfl (Of rfl (Pu rfl (Ni (hK8 (WC.condT rfl (Sq fun K10 hK10 => (Rg ?_)))))))
  refine Pu rfl (Ni (hK10 ?_))
  exact WC.ret fun a_ ha_ => hQ (QI rfl (.tmp rfl) (by unfold QM; simp [*]) hB ha_)
 .
  replace g9 := dF g9
  refine Va (Qn (o1 := 0) rfl QE rfl rfl) rfl rfl (Va (Qi rfl Q7 rfl (k3.cell (k := 0) rfl)) rfl rfl (Va (QT rfl QW rfl h1) rfl rfl (Va (XL rfl rfl rfl) rfl rfl (Pu rfl (Pu rfl ?_)))))
  refine WL.split 13 rfl (fun g11 => ?_) (fun g11 => ?_)
  .
   replace g11 := dT g11
   refine Of rfl (Of rfl (Of rfl (Of rfl (Pu rfl (Ni (hK8 (WC.condT rfl ?_)))))))
   refine Sq fun K12 hK12 => (Rg (Pu rfl (Ni (hK12 ?_))))
   exact WC.ret fun a_ ha_ => hQ (QI rfl (.tmp rfl) (by unfold QM; simp [*]) hB ha_)
  .
   replace g11 := dF g11
   refine Va (Qn (o1 := 1) rfl QJ rfl rfl) rfl rfl (Va (Qi rfl Xf rfl (k3.cell (k := 1) rfl)) rfl rfl (Va (QT rfl QY rfl h2) rfl rfl (Va (XL rfl rfl rfl) rfl rfl (Pu rfl (Ni (hK8 ?_))))))
   refine WC.cond rfl (fun c13 => ?_) (fun c13 => ?_)
   .
    replace c13 := dT c13
    refine Sq fun K14 hK14 => (Rg (Pu rfl (Ni (hK14 ?_))))
    exact WC.ret fun a_ ha_ => hQ (QI rfl (.tmp rfl) (by unfold QM; simp [*]) hB ha_)
   .
    replace c13 := dF c13
    refine WC.skip (hK7 (Sq fun K15 hK15 => (Rg (Va (Qn (o1 := 1) rfl QJ rfl rfl) rfl rfl (Va (Qi rfl Xf rfl (k3.cell (k := 1) rfl)) rfl rfl (Va (Qee rfl rfl rfl) rfl rfl ?_))))))
    refine Ge (QQ rfl Tryd.func69 rfl rfl rfl (KY Qa _ _ _ W2 [] (LL.nil _) (h2.less (by simp)) (fun W hW x hx => Qet (cs := [.pointer (some ⟨w.heap.size, 0, none⟩)]) Tryd.func70 rfl rfl (QbY Qb Qa Qd Qc s1 s2 x (by obtain ⟨i, hi⟩ := List.getElem?_of_mem hx; exact J1 h2 hi) _ W [] (LL.nil _) ((h1.less (by simp)).below hW) ((h2.less (by simp)).below hW) ⟨Nat.succ_pos _, w.heap.size, 0, rfl, by simp, (k3.below hW).range⟩)))) rfl rfl ?_
    rintro _ W17 ⟨rfl, b16⟩
    replace hB := Qe hB b16
    refine Va (XU rfl rfl) rfl rfl (Pu rfl (Ni (hK15 ?_)))
    exact WC.ret fun a_ ha_ => hQ (QI rfl (.tmp rfl) (by unfold QM; simp [*]) hB ha_)

def Q8 (Qd : Int) (Qc : Bool) : Int × Bool × Int := if Qd = 0 then (Qd, true, 9) else if 0 < Qd then (Qd - 1, Qc, 0) else (Qd, Qc, 0)
set_option maxHeartbeats 1000000 in
theorem Qc8 (Qb : List (List Int)) (Qa : List (Int × List Int)) (Qd : Int) (Qc : Bool) (s1 s2 : Value) (w : World) (L : List Nat) (hL : LL L w) (h1 : QD 128 L w s1 (Qb.map Qr)) (h2 : QD 129 L w s2 (Qa.map QG))  (hfu : -9223372036854775808 <= Qd /\ Qd <= 9223372036854775807) : CV Tryd.prog 79 [.agg #[s1, s2, .int .i64 Qd, .bool Qc]] w fun v W => v = .tuple #[.agg #[s1, s2, .int .i64 (Q8 Qd Qc).1, .bool (Q8 Qd Qc).2.1], .int .i64 (Q8 Qd Qc).2.2] := by
 refine QN (N := 17) (f := [(0, .agg #[s1, s2, .int .i64 Qd, .bool Qc])]) Tryd.func79 rfl rfl rfl rfl fun Q hQ hE => ?_
 have hB := Below.refl w.heap.size w
 have h1m : Qb.length <= maxLen := by have := h1.len; rwa [List.length_map] at this
 unfold maxLen at h1m
 have h2m : Qa.length <= maxLen := by have := h2.len; rwa [List.length_map] at this
 unfold maxLen at h2m
 refine Sq fun K1 hK1 => (Rg ?_)
 refine Ge (Xa rfl rfl rfl) rfl rfl ?_
 rintro _ W2 ⟨rfl, k3, b4, z5⟩
 have l6 := hB.size
 replace h1 := h1.more b4 (Nat.le_refl _)
 replace h2 := h2.more b4 (Nat.le_refl _)
 replace hB := Qe hB b4
 refine Ge (Qu rfl QV rfl) rfl rfl ?_
 rintro _ W7 ⟨rfl, k8, b9, z10⟩
 have n11 : w.heap.size ≠ W2.heap.size := Nat.ne_of_lt k3.lt
 have l12 := hB.size
 replace h1 := h1.more b9 (Nat.le_refl _)
 replace h2 := h2.more b9 (Nat.le_refl _)
 replace k3 := k3.below b9
 replace hB := Qe hB b9
 refine Pu rfl (Ni (hK1 (Sq fun K13 hK13 => (Sq fun K14 hK14 => (Rg (Va (Qn (o1 := 2) rfl XZ rfl rfl) rfl rfl (Va (Qi rfl Qv rfl (k3.cell (k := 2) rfl)) rfl rfl ?_)))))))
 refine Va (Zw rfl rfl rfl) rfl rfl (Ni (hK14 ?_))
 refine WC.cond rfl (fun c15 => ?_) (fun c15 => ?_)
 .
  replace c15 := dT c15
  refine Sq fun K16 hK16 => (Rg (Va (Qn (o1 := 3) rfl XC rfl rfl) rfl rfl ?_))
  refine WL.do (Qh (cs' := [s1, s2, .int .i64 Qd, .bool true]) (vs := [.bool true]) rfl UQ rfl rfl rfl (oC rfl Qk) k3 rfl (nB rfl) rfl) rfl ?_
  rintro _ W17 ⟨k19, o18⟩
  replace k8 := k8.other o18 n11.symm
  clear k3
  replace h1 := h1.only o18 (.tail _ (.head _))
  replace h2 := h2.only o18 (.tail _ (.head _))
  replace hB := o18.below hB l6
  refine Ni (hK16 (Sq fun K20 hK20 => (Rg (Va (Qg rfl Qf rfl k19.range rfl) rfl rfl ?_))))
  refine WL.do (Qh (cs' := [s1, s2, .int .i64 Qd, .bool true]) (vs := [s1, s2, .int .i64 Qd, .bool true]) rfl Qj rfl rfl rfl (oC h1.one (oC h2.one (oC rfl (oC rfl Qk)))) k8 rfl (nB rfl) rfl) rfl ?_
  rintro _ W21 ⟨k23, o22⟩
  clear k8
  replace hB := o22.below hB l12
  refine Pu rfl (Ni (hK20 ?_))
  exact WC.ret fun a_ ha_ => hQ (QO rfl (.agg rfl Qf k23.range rfl) (.tmp rfl) (by simp [Q8, *]) hB ha_)
 .
  replace c15 := dF c15
  refine WC.skip (hK13 (Sq fun K24 hK24 => (Sq fun K25 hK25 => (Rg (Va (Qn (o1 := 2) rfl XZ rfl rfl) rfl rfl (Va (Qi rfl Qv rfl (k3.cell (k := 2) rfl)) rfl rfl (Va (XL rfl rfl rfl) rfl rfl ?_)))))))
  refine Ni (hK25 ?_)
  refine WC.cond rfl (fun c26 => ?_) (fun c26 => ?_)
  .
   replace c26 := dT c26
   refine Rg (Va (Qn (o1 := 2) rfl XZ rfl rfl) rfl rfl (Va (Qi rfl Qv rfl (k3.cell (k := 2) rfl)) rfl rfl (Va (Zm (r := Qd - 1) rfl rfl rfl (Qm (by omega))) rfl rfl (Va (Qn (o1 := 2) rfl XZ rfl rfl) rfl rfl ?_))))
   refine WL.do (Qh (cs' := [s1, s2, .int .i64 (Qd - 1), .bool Qc]) (vs := [.int .i64 (Qd - 1)]) rfl ZO rfl rfl rfl (oC rfl Qk) k3 rfl (nB rfl) rfl) rfl ?_
   rintro _ W27 ⟨k29, o28⟩
   replace k8 := k8.other o28 n11.symm
   clear k3
   replace h1 := h1.only o28 (.tail _ (.head _))
   replace h2 := h2.only o28 (.tail _ (.head _))
   replace hB := o28.below hB l6
   refine Ni (hK24 (Sq fun K30 hK30 => (Rg (Va (Qg rfl Qf rfl k29.range rfl) rfl rfl ?_))))
   refine WL.do (Qh (cs' := [s1, s2, .int .i64 (Qd - 1), .bool Qc]) (vs := [s1, s2, .int .i64 (Qd - 1), .bool Qc]) rfl Qj rfl rfl rfl (oC h1.one (oC h2.one (oC rfl (oC rfl Qk)))) k8 rfl (nB rfl) rfl) rfl ?_
   rintro _ W31 ⟨k33, o32⟩
   clear k8
   replace hB := o32.below hB l12
   refine Pu rfl (Ni (hK30 ?_))
   exact WC.ret fun a_ ha_ => hQ (QO rfl (.agg rfl Qf k33.range rfl) (.tmp rfl) (by simp [Q8, *]) hB ha_)
  .
   replace c26 := dF c26
   refine WC.skip (hK24 (Sq fun K34 hK34 => (Rg (Va (Qg rfl Qf rfl k3.range rfl) rfl rfl ?_))))
   refine WL.do (Qh (cs' := [s1, s2, .int .i64 Qd, .bool Qc]) (vs := [s1, s2, .int .i64 Qd, .bool Qc]) rfl Qj rfl rfl rfl (oC h1.one (oC h2.one (oC rfl (oC rfl Qk)))) k8 rfl (nB rfl) rfl) rfl ?_
   rintro _ W35 ⟨k37, o36⟩
   clear k8
   replace hB := o36.below hB l12
   refine Pu rfl (Ni (hK34 ?_))
   exact WC.ret fun a_ ha_ => hQ (QO rfl (.agg rfl Qf k37.range rfl) (.tmp rfl) (by simp [Q8, *]) hB ha_)

set_option maxHeartbeats 1000000 in
theorem Qej (Qa : List (Int × List Int)) (s2 : Value) (w : World) (L : List Nat) (hL : LL L w) (h2 : QD 129 L w s2 (Qa.map QG)) : CV Tryd.prog 80 [s2] w fun v W => ∃ a, v = .slice a Qa.length Qa.length /\ QD 129 L W v (Qa.map QG) := by
 refine QN (N := 9) (f := [(0, s2)]) Tryd.func80 rfl rfl rfl rfl fun Q hQ hE => ?_
 have hB := Below.refl w.heap.size w
 have h2m : Qa.length <= maxLen := by have := h2.len; rwa [List.length_map] at this
 unfold maxLen at h2m
 refine WC.seq fun K1 hK1 => (WC.region (Pu rfl (WL.nil (hK1 (WC.seq fun K2 hK2 => (WC.region (Pu rfl ?_)))))))
 refine Pu rfl (WL.val (QT rfl QY rfl h2) rfl rfl (Pu rfl (WL.val (QT rfl QY rfl h2) rfl rfl ?_)))
 refine WL.get (Qeg rfl QY rfl h2 rfl rfl (by rw [List.length_map])) rfl rfl ?_
 rintro u3 _ ⟨rfl, a4, ea4, fa4⟩
 refine Pu rfl (WL.nil (hK2 ?_))
 exact WC.ret fun a_ ha_ => hQ (QI rfl (.tmp rfl) ⟨_, (by rw [ea4, List.length_map]), fa4⟩ hB ha_)

set_option maxHeartbeats 1000000 in
theorem Qc5 (Qb : List (List Int)) (s1 : Value) (w : World) (L : List Nat) (hL : LL L w) (h1 : QD 128 L w s1 (Qb.map Qr))  (hne : Qb ≠ []) (hsm : Qb.length <= 2048) : CV Tryd.prog 72 [s1] w fun v W => ∃ B, w.heap.size <= B /\ Y5 128 W v (Qb.map Qr) B := by
 refine QN (N := 8) (f := [(0, s1)]) Tryd.func72 rfl rfl rfl rfl fun Q hQ hE => ?_
 have hB := Below.refl w.heap.size w
 have h1m : Qb.length <= maxLen := by have := h1.len; rwa [List.length_map] at this
 unfold maxLen at h1m
 refine Sq fun K1 hK1 => (Rg (Pu rfl (Ni (hK1 (Sq fun K2 hK2 => (Sq fun K3 hK3 => (Rg ?_)))))))
 refine Pu rfl (Va (Qd8 rfl Tryd.underlying22 rfl h1 (by simpa using hne)) rfl rfl (Ni (hK3 (WC.condF rfl (WC.skip (hK2 (Sq fun K4 hK4 => ?_)))))))
 refine Rg ?_
 refine Ge (Gh rfl UT (by decide)) rfl rfl ?_
 rintro u9 W5 ⟨k6, b7, z8⟩
 have l10 := hB.size
 replace h1 := h1.more b7 (Nat.le_refl _)
 replace hB := Qe hB b7
 refine Pu rfl ?_
 refine Ge (Vx (rs := []) (news := (Qb.map Qr)) rfl UT rfl rfl k6 h1 (D0 YU Qb) (by simp; unfold maxLen; omega) (by simp; omega)) rfl rfl ?_
 rintro u14 W11 ⟨B15, k12, g13⟩
 have l16 := g13.le l10 hB.size
 replace hB := g13.below hB l10 hB.size
 refine Pu rfl (Ni (hK4 ?_))
 exact WC.ret fun a_ ha_ => hQ (QI rfl (.tmp rfl) ⟨B15, l16, (by simpa using k12)⟩ hB ha_)

def z0 : List Int := List.replicate 128 0
theorem Xy : z0.length = 128 := by simp [z0]
theorem Yh : (Value.agg (Array.replicate 128 (Value.int .u8 0))).cells.toList = Qr z0 := by simp [Value.cells, Qr, z0]
theorem Qfg : (Tryd.prog.info? 77).bind (·.zero) = some (.agg (QG (0, z0)).toArray) := by kernel_rfl
set_option maxHeartbeats 1000000 in
theorem Qdw (i : Int) (old z : List Int) (w : World) (L : List Nat) (hL : LL L w)   (ho : old.length = 128) (hz : z.length = 128) : CV Tryd.prog 82 [.int .i64 i, .agg (Qr old).toArray, .agg (Qr z).toArray] w fun v W => v = .agg (Qr z).toArray := by
 refine QN (N := 8) (f := [(0, .int .i64 i), (1, .agg (Qr old).toArray), (2, .agg (Qr z).toArray)]) Tryd.func82 rfl rfl rfl rfl fun Q hQ hE => ?_
 have hB := Below.refl w.heap.size w
 refine Sq fun K1 hK1 => (Rg ?_)
 refine Ge (Xa (cs := (Qr old)) rfl rfl rfl) rfl rfl ?_
 rintro _ W2 ⟨rfl, k3, b4, z5⟩
 have l6 := hB.size
 replace hB := Qe hB b4
 refine Ge (Xa (cs := (Qr z)) rfl rfl rfl) rfl rfl ?_
 rintro _ W7 ⟨rfl, k8, b9, z10⟩
 have l12 := hB.size
 replace hB := Qe hB b9
 refine Ge (Qu (cs := Qr z0) rfl ZE Yh) rfl rfl ?_
 rintro _ W13 ⟨rfl, k14, b15, z16⟩
 have l19 := hB.size
 replace k8 := k8.below b15
 replace hB := Qe hB b15
 refine Ni (hK1 (Sq fun K20 hK20 => (Rg (Va (Qg rfl QF rfl k8.range (by rw [Qo]; exact hz)) rfl rfl ?_))))
 refine WL.do (Qx (vs := (Qr z)) rfl Q1 rfl rfl rfl (YU z) k14 (by rw [Qo]; exact hz) (by rw [Qo]; exact Xy)) rfl ?_
 rintro _ W21 ⟨k23, o22⟩
 clear k14
 replace hB := o22.below hB l19
 refine Ni (hK20 ?_)
 exact WC.ret fun a_ ha_ => hQ (QI rfl (.agg rfl QF k23.range (by rw [Qo]; exact hz)) rfl hB ha_)

def XW (tk : Nat -> List Int -> List Int -> List Int) : List (Int × List Int) -> List (List Int) -> Nat -> List (List Int)
 | [], Qb, _ => Qb
 | p :: l, Qb, i => XW tk l (Qb.set p.1.toNat (tk i (Qb[p.1.toNat]?.getD []) p.2)) (i + 1)
theorem F2 {tk : Nat -> List Int -> List Int -> List Int} {l : List (Int × List Int)} {cur : List (List Int)} {i : Nat} {p : Int × List Int} {r : List Int} (h : l[i]? = some p) (hr : cur[p.1.toNat]? = some r) : XW tk (l.drop i) cur i = XW tk (l.drop (i + 1)) (cur.set p.1.toNat (tk i r p.2)) (i + 1) := by
 obtain ⟨hl, he⟩ := List.getElem?_eq_some_iff.1 h
 rw [List.drop_eq_getElem_cons hl, he, XW, hr]
 rfl
theorem GF {tk : Nat -> List Int -> List Int -> List Int} {l : List (Int × List Int)} {cur : List (List Int)} {i : Nat} (h : ¬ (i : Int) < l.length) : XW tk (l.drop i) cur i = cur := by
 rw [List.drop_eq_nil_of_le (by omega)]; rfl
theorem Qfl {w : World} {v : Value} {xs : List (List Int)} {B : Nat} (h : Y5 128 w v (xs.map Qr) B) {i : Nat} {x : List Int} (hx : xs[i]? = some x) : x.length = 128 := by
 have := h.2.1 _ (List.mem_of_getElem? (XG (enc := Qr) hx))
 rwa [Qo] at this
set_option maxHeartbeats 1000000 in
theorem QbL (Qb : List (List Int)) (Qa : List (Int × List Int)) (Qd : Int) (Qc : Bool) (s1 s2 : Value) (tk : Nat -> List Int -> List Int -> List Int) (g : Value) (w : World) (L : List Nat) (hL : LL L w) (h1 : QD 128 L w s1 (Qb.map Qr)) (h2 : QD 129 L w s2 (Qa.map QG))  (hL0 : LL L w) (hne : Qb ≠ []) (hsm : Qb.length <= 2048) (hrt : ∀ p ∈ Qa, 0 <= p.1 /\ p.1 < Qb.length) (hg : ∀ W, Below w.heap.size w W -> ∀ (i : Nat) (x z : List Int), i < Qa.length -> x.length = 128 -> z.length = 128 -> (FV Tryd.prog g [.int .i64 (i : Int), .agg (Qr x).toArray, .agg (Qr z).toArray] W fun v _ => v = .agg (Qr (tk i x z)).toArray) /\ (tk i x z).length = 128) : CV Tryd.prog 51 [.agg #[s1, s2, .int .i64 Qd, .bool Qc], g] w fun v W => ∃ s1', v = .agg #[s1', .slice none 0 0, .int .i64 Qd, .bool Qc] /\ QD 128 L W s1' ((XW tk Qa Qb 0).map Qr) := by
 refine QN (N := 38) (f := [(0, .agg #[s1, s2, .int .i64 Qd, .bool Qc]), (1, g)]) Tryd.func51 rfl rfl rfl rfl fun Q hQ hE => ?_
 have hB := Below.refl w.heap.size w
 have h1m : Qb.length <= maxLen := by have := h1.len; rwa [List.length_map] at this
 unfold maxLen at h1m
 have h2m : Qa.length <= maxLen := by have := h2.len; rwa [List.length_map] at this
 unfold maxLen at h2m
 refine Sq fun K1 hK1 => (Rg ?_)
 refine Ge (Xa rfl rfl rfl) rfl rfl ?_
 rintro _ W2 ⟨rfl, k3, b4, z5⟩
 have l6 := hB.size
 replace h1 := h1.more b4 (Nat.le_refl _)
 replace h2 := h2.more b4 (Nat.le_refl _)
 replace hB := Qe hB b4
 replace hL := LL.more hL z5
 refine Ge (Qu rfl QV rfl) rfl rfl ?_
 rintro _ W7 ⟨rfl, k8, b9, z10⟩
 have n11 : w.heap.size ≠ W2.heap.size := Nat.ne_of_lt k3.lt
 have l12 := hB.size
 replace h1 := h1.more b9 (Nat.le_refl _)
 replace h2 := h2.more b9 (Nat.le_refl _)
 replace k3 := k3.below b9
 replace hB := Qe hB b9
 replace hL := LL.more hL z10
 refine Ni (hK1 (Sq fun K13 hK13 => (Rg (Va (Qn (o1 := 0) rfl QE rfl rfl) rfl rfl (Va (Qi rfl Q7 rfl (k3.cell (k := 0) rfl)) rfl rfl ?_)))))
 refine Ge (QQ rfl Tryd.func72 rfl rfl rfl (Qc5 Qb s1 W7 [] (LL.nil _) (h1.less (by simp)) hne (by omega))) rfl rfl ?_
 rintro u17 W19 ⟨⟨B14, q16, k15⟩, b18⟩
 have n20 : w.heap.size ≠ B14 := Nat.ne_of_lt (Nat.lt_of_lt_of_le k3.lt q16)
 have n21 : W2.heap.size ≠ B14 := Nat.ne_of_lt (Nat.lt_of_lt_of_le k8.lt q16)
 have l22 := Nat.le_trans hB.size q16
 replace h1 := h1.more b18 q16
 replace h2 := h2.more b18 q16
 replace k3 := k3.below b18
 replace k8 := k8.below b18
 replace hB := Qe hB b18
 replace hL := LL.cons (LL.below hL b18) k15.lt
 refine Va (Qn (o1 := 0) rfl QE rfl rfl) rfl rfl ?_
 refine WL.do (Qh (cs' := [u17, s2, .int .i64 Qd, .bool Qc]) (vs := [u17]) rfl JV rfl rfl (Ux k15.one) (oC k15.one Qk) k3 rfl (nB rfl) rfl) rfl ?_
 rintro _ W23 ⟨k25, o24⟩
 replace k8 := k8.other o24 n11.symm
 replace k15 := k15.other o24 n20.symm
 clear k3
 replace h1 := h1.only o24 (.tail _ (.tail _ (.head _)))
 replace h2 := h2.only o24 (.tail _ (.tail _ (.head _)))
 replace hB := o24.below hB l6
 replace hL := LL.only hL o24
 refine Ni (hK13 (Sq fun K26 hK26 => (Sq fun K27 hK27 => (Rg (Va (Qn (o1 := 1) rfl QJ rfl rfl) rfl rfl (Va (Qi rfl Xf rfl (k25.cell (k := 1) rfl)) rfl rfl (Va (QT rfl QY rfl h2) rfl rfl ?_)))))))
 refine Pu rfl (Ni (hK27 (WC.block ?_)))
 refine WC.loop2 (fun (i : Nat) (cur : List (List Int)) => [(1, g), (2, .pointer (some ⟨w.heap.size, 0, none⟩)), (4, .pointer (some ⟨W2.heap.size, 0, none⟩)), (12, s2), (13, .int .i64 (Qa.length : Int)), (14, .int .i64 (i : Int))]) (fun (i : Nat) (cur : List (List Int)) W => i <= Qa.length /\ XW tk Qa Qb 0 = XW tk (Qa.drop i) cur i /\ cur.length = Qb.length /\ Below w.heap.size w W /\ LL (B14 :: W2.heap.size :: w.heap.size :: L) W /\ QD 128 (B14 :: W2.heap.size :: w.heap.size :: L) W s1 (Qb.map Qr) /\ QD 129 (B14 :: W2.heap.size :: w.heap.size :: L) W s2 (Qa.map QG) /\ Xc W w.heap.size [u17, s2, .int .i64 Qd, .bool Qc] /\ Xc W W2.heap.size [.slice none 0 0, .slice none 0 0, .int .i64 0, .bool false] /\ Y5 128 W u17 (cur.map Qr) B14) (fun (i : Nat) (cur : List (List Int)) => Qa.length - i) 0 Qb (by repeat first | exact trivial | refine aR ?_ | refine aI (by omega) ?_) ⟨Nat.zero_le _, rfl, rfl, hB, hL, h1, h2, k25, k8, k15⟩ ?_
 clear h1 h2 k25 k8 k15 hB hL
 rintro K28 i cur W29 ⟨hi, hv, hc, hB, hL, h1, h2, k25, k8, k15⟩ hK28
 refine Sq fun K30 hK30 => (Rg (Va (Xe rfl rfl rfl) rfl rfl (Ni (hK30 (Sq fun K31 hK31 => ?_)))))
 refine WC.cond rfl (fun c32 => ?_) (fun c32 => ?_)
 .
  replace c32 := dT c32
  refine WC.skip (hK31 (Sq fun K33 hK33 => (WC.block (Sq fun K34 hK34 => (Rg (Pu rfl ?_))))))
  obtain ⟨r35, e36⟩ : ∃ x, Qa[i]? = some x := ⟨_, List.getElem?_eq_getElem (by omega)⟩
  have Lr35 := J1 h2 e36
  have Rr35 := hrt r35 (List.mem_of_getElem? e36)
  refine Ge (XH i rfl QY rfl rfl h2 (by omega) (XG e36)) rfl rfl ?_
  rintro u37 _ ⟨rfl, p38⟩
  refine Va (Zc rfl Vd rfl p38 (by simp [QG, Qo, Lr35])) rfl rfl ?_
  refine Ge (Qu (cs := QG (0, z0)) rfl Qfg rfl) rfl rfl ?_
  rintro _ W39 ⟨rfl, k40, b41, z42⟩
  have n43 : w.heap.size ≠ W29.heap.size := Nat.ne_of_lt k25.lt
  have n44 : W2.heap.size ≠ W29.heap.size := Nat.ne_of_lt k8.lt
  have n45 : B14 ≠ W29.heap.size := Nat.ne_of_lt k15.lt
  have l46 := hB.size
  replace h1 := h1.more b41 (Nat.le_refl _)
  replace h2 := h2.more b41 (Nat.le_refl _)
  replace k25 := k25.below b41
  replace k8 := k8.below b41
  replace k15 := k15.below b41
  replace hB := Qe hB b41
  replace hL := LL.more hL z42
  refine Pu rfl ?_
  refine WL.do (Qx (vs := (QG r35)) rfl Gx rfl rfl rfl (oC rfl (YU r35.2)) k40 (by simp [QG, Qo, Lr35]) (by simp [QG, Qo, Xy])) rfl ?_
  rintro _ W47 ⟨k49, o48⟩
  replace k25 := k25.other o48 n43
  replace k8 := k8.other o48 n44
  replace k15 := k15.other o48 n45
  clear k40
  replace h1 := h1.only o48 (.head _)
  replace h2 := h2.only o48 (.head _)
  replace hB := o48.below hB l46
  replace hL := LL.only hL o48
  refine Ni (hK34 ?_)
  obtain ⟨r50, e51⟩ : ∃ x, cur[r35.1.toNat]? = some x := ⟨_, List.getElem?_eq_getElem (by omega)⟩
  have Lr50 := Qfl k15 e51
  refine dM 15 [(some 19, .is (.pointer (some ⟨w.heap.size, 0, none⟩))), (some 20, .is (u17)), (some 21, .is (.pointer (some ⟨W29.heap.size, 0, none⟩))), (some 22, .is (.int .i64 r35.1)), (some 23, .is (g)), (some 24, .is (.int .i64 (i : Int))), (some 25, .is (.pointer (some ⟨w.heap.size, 0, none⟩))), (some 26, .is (u17)), (some 27, .is (.pointer (some ⟨W29.heap.size, 0, none⟩))), (some 28, .is (.int .i64 r35.1)), (some 29, .is (.pointer (some ⟨B14, r35.1.toNat * 128, none⟩))), (some 30, .is (.agg (Qr r50).toArray)), (some 31, .is (.pointer (some ⟨W29.heap.size, 1, none⟩))), (some 32, .is (.agg (Qr r35.2).toArray)), (some 33, .is (.agg (Qr (tk i r50 r35.2)).toArray))] [[], [0], [], [2], [], [], [], [6], [], [8], [7, 9], [10], [], [12], [4, 5, 11, 13]] (by exact trivial) ?_ ?_
  .
   refine Dc (fun Wd hd => ?_) ?_
   .
    exact Dd (Qn (o1 := 0) rfl QE rfl rfl) rfl
   refine Dc (fun Wd hd => ?_) ?_
   .
    have k25 := k25.below hd
    exact Dd (Qi rfl Q7 rfl (k25.cell (k := 0) rfl)) rfl
   refine Dc (fun Wd hd => ?_) ?_
   .
    exact Dd (Qn (o1 := 0) rfl ZB rfl rfl) rfl
   refine Dc (fun Wd hd => ?_) ?_
   .
    have k49 := k49.below hd
    exact Dd (Qi rfl Qv rfl (k49.cell (k := 0) rfl)) rfl
   refine Dc (fun Wd hd => ?_) ?_
   .
    exact Dd (Qt rfl rfl) rfl
   refine Dc (fun Wd hd => ?_) ?_
   .
    exact Dd (Qt rfl rfl) rfl
   refine Dc (fun Wd hd => ?_) ?_
   .
    exact Dd (Qn (o1 := 0) rfl QE rfl rfl) rfl
   refine Dc (fun Wd hd => ?_) ?_
   .
    have k25 := k25.below hd
    exact Dd (Qi rfl Q7 rfl (k25.cell (k := 0) rfl)) rfl
   refine Dc (fun Wd hd => ?_) ?_
   .
    exact Dd (Qn (o1 := 0) rfl ZB rfl rfl) rfl
   refine Dc (fun Wd hd => ?_) ?_
   .
    have k49 := k49.below hd
    exact Dd (Qi rfl Qv rfl (k49.cell (k := 0) rfl)) rfl
   refine Dc (fun Wd hd => ?_) ?_
   .
    have k15 := k15.below hd
    exact Dd (UC r35.1.toNat rfl QW rfl rfl k15 (by omega) (by rw [List.length_map]; omega) rfl) rfl
   refine Dc (fun Wd hd => ?_) ?_
   .
    have k15 := k15.below hd
    exact Dd (QcV rfl QF rfl k15 rfl (XG e51)) rfl
   refine Dc (fun Wd hd => ?_) ?_
   .
    exact Dd (Qn (o1 := 1) rfl Vc rfl rfl) rfl
   refine Dc (fun Wd hd => ?_) ?_
   .
    have k49 := k49.below hd
    exact Dd (Qg (cs := (Qr r35.2)) rfl QF rfl (k49.partE (n := 128) (by simp [QG, List.take_of_length_le, Qo, Lr35])) (by rw [Qo]; exact Lr35)) rfl
   refine Dc (fun Wd hd => ?_) ?_
   .
    exact DR.mono (Qeu rfl rfl rfl ((hg _ (Qe hB hd) i r50 r35.2 (by omega) (by first | assumption) (by first | assumption)).1)) (fun v W' ⟨h, hb⟩ => ⟨hb, (by rw [h]; exact rfl)⟩)
   exact trivial
  .
   intro W52 b53
   replace h1 := h1.below b53
   replace h2 := h2.below b53
   replace k25 := k25.below b53
   replace k8 := k8.below b53
   replace k15 := k15.below b53
   replace hB := Qe hB b53
   replace hL := LL.below hL b53
   refine Va (UC r35.1.toNat rfl QW rfl rfl k15 (by omega) (by rw [List.length_map]; omega) rfl) rfl rfl ?_
   refine WL.do (HW (r := (Qr (tk i r50 r35.2))) rfl Q1 rfl rfl rfl (YU (tk i r50 r35.2)) k15 rfl (by rw [List.length_map]; omega) (by rw [Qo]; exact (hg w (Below.refl _ _) i r50 r35.2 (by omega) (by first | assumption) (by first | assumption)).2)) rfl ?_
   rintro _ W54 ⟨k56, o55⟩
   replace k25 := k25.other o55 n20
   replace k8 := k8.other o55 n21
   clear k15
   replace h1 := h1.only o55 (.tail _ (.head _))
   replace h2 := h2.only o55 (.tail _ (.head _))
   replace hB := o55.below hB l22
   replace hL := LL.only hL o55
   rw [<- List.map_set] at k56
   refine Ni (hK33 (Rg (Va (QR (r := (i : Int) + 1) rfl rfl rfl (Qm (by omega))) rfl rfl (Pu rfl (Ni ?_)))))
   replace hL := hL.less (fun x hx => (.tail _ hx))
   replace h1 := h1.less (fun x hx => (.tail _ hx))
   replace h2 := h2.less (fun x hx => (.tail _ hx))
   exact hK28 (i + 1) (cur.set r35.1.toNat (tk i r50 r35.2)) ⟨(by omega), (by rw [hv]; exact F2 e36 e51), (by rw [List.length_set]; exact hc), hB, hL, h1, h2, k25, k8, k56⟩ (by omega) (by repeat first | exact trivial | refine aR ?_ | refine aI (by omega) ?_)
 .
  replace c32 := dF c32
  refine WC.exit ?_
  refine hK26 (Sq fun K57 hK57 => (Rg (Va (Qn (o1 := 1) rfl QJ rfl rfl) rfl rfl ?_)))
  refine WL.do (Qh (cs' := [u17, .slice none 0 0, .int .i64 Qd, .bool Qc]) (vs := [.slice none 0 0]) rfl YM rfl rfl rfl (oC rfl Qk) k25 rfl (nB rfl) rfl) rfl ?_
  rintro _ W58 ⟨k60, o59⟩
  replace k8 := k8.other o59 n11.symm
  replace k15 := k15.other o59 n20.symm
  clear k25
  replace hB := o59.below hB l6
  refine Ni (hK57 (Sq fun K61 hK61 => (Rg (Va (Qg rfl Qf rfl k60.range rfl) rfl rfl ?_))))
  refine WL.do (Qh (cs' := [u17, .slice none 0 0, .int .i64 Qd, .bool Qc]) (vs := [u17, .slice none 0 0, .int .i64 Qd, .bool Qc]) rfl Qj rfl rfl rfl (oC k15.one (oC rfl (oC rfl (oC rfl Qk)))) k8 rfl (nB rfl) rfl) rfl ?_
  rintro _ W62 ⟨k64, o63⟩
  replace k15 := k15.other o63 n21.symm
  clear k8
  replace hB := o63.below hB l12
  refine Ni (hK61 ?_)
  exact WC.ret fun a_ ha_ => hQ (QI rfl (.agg rfl Qf k64.range rfl) ⟨_, rfl, (by rw [hv, GF (by omega)]; exact k15.notin hL0 l22)⟩ hB ha_)

structure DO where
 Qb : List (List Int)
 Qa : List (Int × List Int)
 Qd : Int
 Qc : Bool
 err : Int
def Uy (n : Int) : DO := if n < 1 \/ 2048 < n then ⟨[], [], 0, false, 1⟩ else ⟨List.replicate n.toNat z0, [], -1, false, 0⟩
def Q0 (Qb : List (List Int)) (Qa : List (Int × List Int)) (Qd : Int) (Qc : Bool) (a : Int) (z : List Int) : DO :=
 if QM Qb Qa = false then ⟨Qb, Qa, Qd, Qc, 1⟩ else if Vq Qb a = false then ⟨Qb, Qa, Qd, Qc, 1⟩ else if Qc = true then ⟨Qb, Qa, Qd, Qc, 9⟩
 else if (Qa.length : Int) = 4096 then ⟨Qb, Qa, Qd, Qc, 10⟩ else if ¬ (Q8 Qd Qc).2.2 = 0 then ⟨Qb, Qa, (Q8 Qd Qc).1, (Q8 Qd Qc).2.1, (Q8 Qd Qc).2.2⟩ else ⟨Qb, Qa ++ [(a, z)], (Q8 Qd Qc).1, (Q8 Qd Qc).2.1, 0⟩
def Zl (l : List (Int × List Int)) (a : Int) : Nat -> Option (List Int)
 | 0 => none
 | n + 1 => match l[n]? with
  | some p => if p.1 = a then some p.2 else Zl l a n
  | none => Zl l a n
def Xn (Qb : List (List Int)) (Qa : List (Int × List Int)) (Qc : Bool) (a : Int) : List Int × Int :=
 if QM Qb Qa = false then (z0, 1) else if Vq Qb a = false then (z0, 1) else if Qc = true then (z0, 9)
 else match Zl Qa a Qa.length with
  | some z => (z, 0)
  | none => (Qb[a.toNat]?.getD [], 0)
def Xz (Qb : List (List Int)) (Qa : List (Int × List Int)) (Qd : Int) (Qc : Bool) : DO :=
 if QM Qb Qa = false then ⟨Qb, Qa, Qd, Qc, 1⟩ else if Qc = true then ⟨Qb, Qa, Qd, Qc, 9⟩ else if ¬ (Q8 Qd Qc).2.2 = 0 then ⟨Qb, Qa, (Q8 Qd Qc).1, (Q8 Qd Qc).2.1, (Q8 Qd Qc).2.2⟩ else ⟨XW (fun _ _ z => z) Qa Qb 0, [], (Q8 Qd Qc).1, (Q8 Qd Qc).2.1, 0⟩
theorem ZU {Qb : List (List Int)} {Qa : List (Int × List Int)} (h : QM Qb Qa = true) : Qb ≠ [] /\ Qb.length <= 2048 /\ Qa.length <= 4096 /\ ∀ p ∈ Qa, 0 <= p.1 /\ p.1 < Qb.length := by
 unfold QM Vq at h
 simp only [Bool.and_eq_true, Bool.not_eq_true', Bool.or_eq_false_iff, decide_eq_false_iff_not, List.any_eq_false, Bool.and_eq_true, decide_eq_true_eq, Bool.not_eq_true', Bool.and_eq_false_iff, not_or] at h
 obtain ⟨⟨⟨h1, h2⟩, h3⟩, h4⟩ := h
 refine ⟨fun e => by subst e; simp at h1, by omega, by omega, fun p hp => ?_⟩
 have := h4 p hp
 simp at this
 omega
theorem Dq (a : Int) (z : List Int) (hz : z.length = 128) : Tryd.prog.built 77 [(0, .int .i64 a), (1, .agg (Qr z).toArray)] = some (QG (a, z)).toArray := by
 have e0 : Tryd.prog.built 77 [(0, .int .i64 a)] = some (QG (a, z0)).toArray := by kernel_rfl
 have e1 : (Qr z).toArray.size = 128 := by simp [Qr, hz]
 have h1 : Tryd.prog.built 77 [(0, .int .i64 a), (1, .agg (Qr z).toArray)] = Instr.fill (fun k => [(0, 1), (1, 128)][k]?) (QG (a, z0)).toArray [(1, .agg (Qr z).toArray)] := by kernel_rfl
 rw [h1]
 have e2 : (QG (a, z0)).toArray.size = 129 := by simp [QG, Qo, Xy]
 unfold Instr.fill
 simp only [List.getElem?_cons_succ, List.getElem?_cons_zero, Value.cells, e1, e2]
 have gen : ∀ (l : List Value) (k : Nat) (cs : Array Value), 1 + k + l.length = cs.size -> ((l.zipIdx k).foldl (fun cs (p : Value × Nat) => cs.setIfInBounds (1 + p.2) p.1) cs).toList = cs.toList.take (1 + k) ++ l := by
  intro l
  induction l with
  | nil => intro k cs h; simp only [List.length_nil, Nat.add_zero] at h; rw [List.take_of_length_le (by simp [h])]; simp
  | cons x l ih =>
   intro k cs h
   simp only [List.zipIdx_cons, List.foldl_cons]
   rw [ih (k + 1) _ (by simp at h ⊢; omega)]
   have hk : 1 + k < cs.toList.length := by simp at h ⊢; omega
   rw [Array.toList_setIfInBounds, <- Nat.add_assoc, List.take_succ_eq_append_getElem (by simpa using hk)]
   simp only [List.getElem_set_self, List.append_assoc, List.singleton_append, List.cons_append, List.nil_append]
   congr 1
   rw [List.take_set, List.set_eq_of_length_le (by rw [List.length_take]; omega)]
 simp only [ne_eq, not_true_eq_false, gt_iff_lt, Nat.lt_irrefl, or_self, if_false, Instr.fill, <- Array.foldl_toList, Array.toList_zipIdx]
 have h2 := gen (Qr z) 0 (QG (a, z0)).toArray (by simp [Qo, hz, QG, Xy])
 have h3 : (List.foldl (fun cs (p : Value × Nat) => cs.setIfInBounds (1 + p.2) p.1) (QG (a, z0)).toArray ((Qr z).zipIdx 0)) = (QG (a, z)).toArray := by
  apply Array.ext'
  rw [h2]; simp [QG]
 simpa using h3
set_option maxHeartbeats 1000000 in
theorem Qfo (n : Int) (w : World) (L : List Nat) (hL : LL L w)   (hL0 : LL L w) : CV Tryd.prog 27 [.int .i64 n] w fun v W => ∃ s1' s2', v = .tuple #[.agg #[s1', s2', .int .i64 (Uy n).Qd, .bool (Uy n).Qc], .int .i64 (Uy n).err] /\ QD 128 L W s1' ((Uy n).Qb.map Qr) /\ QD 129 L W s2' ((Uy n).Qa.map QG) := by
 refine QN (N := 14) (f := [(0, .int .i64 n)]) Tryd.func27 rfl rfl rfl rfl fun Q hQ hE => ?_
 have hB := Below.refl w.heap.size w
 refine Sq fun K1 hK1 => (Rg ?_)
 refine Ge (Qu rfl QV rfl) rfl rfl ?_
 rintro _ W2 ⟨rfl, k3, b4, z5⟩
 have l6 := hB.size
 replace hB := Qe hB b4
 refine Pu rfl (Ni (hK1 (Sq fun K7 hK7 => (Sq fun K8 hK8 => (Rg (Pu rfl (Va (Xe rfl rfl rfl) rfl rfl ?_)))))))
 refine Pu rfl ?_
 refine WL.split 6 rfl (fun g9 => ?_) (fun g9 => ?_)
 .
  replace g9 := dT g9
  refine Of rfl (Of rfl (Pu rfl (Ni (hK8 (WC.condT rfl (Sq fun K10 hK10 => (Rg ?_)))))))
  refine Va (QS rfl rfl (Xi (cs := [.slice none 0 0, .slice none 0 0, .int .i64 0, .bool false]) (by kernel_rfl) Qk)) rfl rfl ?_
  refine WL.do (Qh (cs' := [.slice none 0 0, .slice none 0 0, .int .i64 0, .bool false]) (vs := [.slice none 0 0, .slice none 0 0, .int .i64 0, .bool false]) rfl Qj rfl rfl rfl (oC rfl (oC rfl (oC rfl (oC rfl Qk)))) k3 rfl (nB rfl) rfl) rfl ?_
  rintro _ W11 ⟨k13, o12⟩
  clear k3
  replace hB := o12.below hB l6
  refine Pu rfl (Ni (hK10 ?_))
  exact WC.ret fun a_ ha_ => hQ (QO rfl (.agg rfl Qf k13.range rfl) (.tmp rfl) (by rw [show Uy n = ⟨[], [], 0, false, 1⟩ from (by first | (unfold Uy; generalize Q8 Qd Qc = bb at *; simp [Uy, g9]; done) | (simp [Uy, g9]; done))]; exact ⟨_, _, rfl, (QD.nil (by decide)), (QD.nil (by decide))⟩) hB ha_)
 .
  replace g9 := dF g9
  refine Pu rfl (Va (XL rfl rfl rfl) rfl rfl (Pu rfl (Ni (hK8 ?_))))
  refine WC.cond rfl (fun c14 => ?_) (fun c14 => ?_)
  .
   replace c14 := dT c14
   refine Sq fun K15 hK15 => (Rg (Va (QS rfl rfl (Xi (cs := [.slice none 0 0, .slice none 0 0, .int .i64 0, .bool false]) (by kernel_rfl) Qk)) rfl rfl ?_))
   refine WL.do (Qh (cs' := [.slice none 0 0, .slice none 0 0, .int .i64 0, .bool false]) (vs := [.slice none 0 0, .slice none 0 0, .int .i64 0, .bool false]) rfl Qj rfl rfl rfl (oC rfl (oC rfl (oC rfl (oC rfl Qk)))) k3 rfl (nB rfl) rfl) rfl ?_
   rintro _ W16 ⟨k18, o17⟩
   clear k3
   replace hB := o17.below hB l6
   refine Pu rfl (Ni (hK15 ?_))
   exact WC.ret fun a_ ha_ => hQ (QO rfl (.agg rfl Qf k18.range rfl) (.tmp rfl) (by rw [show Uy n = ⟨[], [], 0, false, 1⟩ from (by first | (unfold Uy; generalize Q8 Qd Qc = bb at *; simp [Uy, g9, c14]; done) | (simp [Uy, g9, c14]; done))]; exact ⟨_, _, rfl, (QD.nil (by decide)), (QD.nil (by decide))⟩) hB ha_)
  .
   replace c14 := dF c14
   refine WC.skip (hK7 (Sq fun K19 hK19 => (Rg (Pu rfl ?_))))
   refine Ge (D9 (r := Qr z0) rfl UT (fun e he => by rw [Tryd.underlying22] at he; cases he; kernel_rfl) rfl rfl (by omega) (by decide) (by omega) (by unfold maxLen; omega)) rfl rfl ?_
   rintro u24 W20 ⟨k21, b22, z23⟩
   rw [<- List.map_replicate] at k21
   have n25 : w.heap.size ≠ W2.heap.size := Nat.ne_of_lt k3.lt
   have l26 := hB.size
   replace k3 := k3.below b22
   replace hB := Qe hB b22
   refine Va (QS rfl rfl (Xi (cs := [u24, .slice none 0 0, .int .i64 (-1), .bool false]) (by kernel_rfl) (oC k21.one (oC rfl Qk)))) rfl rfl ?_
   refine WL.do (Qh (cs' := [u24, .slice none 0 0, .int .i64 (-1), .bool false]) (vs := [u24, .slice none 0 0, .int .i64 (-1), .bool false]) rfl Qj rfl rfl rfl (oC k21.one (oC rfl (oC rfl (oC rfl Qk)))) k3 rfl (nB rfl) rfl) rfl ?_
   rintro _ W27 ⟨k29, o28⟩
   replace k21 := k21.other o28 n25.symm
   clear k3
   replace hB := o28.below hB l6
   refine Pu rfl (Ni (hK19 ?_))
   exact WC.ret fun a_ ha_ => hQ (QO rfl (.agg rfl Qf k29.range rfl) (.tmp rfl) (by rw [show Uy n = ⟨List.replicate n.toNat z0, [], (-1), false, 0⟩ from (by first | (unfold Uy; generalize Q8 Qd Qc = bb at *; simp [Uy, g9, c14]; done) | (simp [Uy, g9, c14]; done))]; exact ⟨_, _, rfl, (k21.notin hL0 l26), (QD.nil (by decide))⟩) hB ha_)

set_option maxHeartbeats 1000000 in
theorem Qdq (Qb : List (List Int)) (Qa : List (Int × List Int)) (Qd : Int) (Qc : Bool) (s1 s2 : Value) (a : Int) (z : List Int) (w : World) (L : List Nat) (hL : LL L w) (h1 : QD 128 L w s1 (Qb.map Qr)) (h2 : QD 129 L w s2 (Qa.map QG))  (hL0 : LL L w) (hfu : -9223372036854775808 <= Qd /\ Qd <= 9223372036854775807) (hz : z.length = 128) : CV Tryd.prog 63 [.agg #[s1, s2, .int .i64 Qd, .bool Qc], .int .i64 a, .agg (Qr z).toArray] w fun v W => ∃ s1' s2', v = .tuple #[.agg #[s1', s2', .int .i64 (Q0 Qb Qa Qd Qc a z).Qd, .bool (Q0 Qb Qa Qd Qc a z).Qc], .int .i64 (Q0 Qb Qa Qd Qc a z).err] /\ QD 128 L W s1' ((Q0 Qb Qa Qd Qc a z).Qb.map Qr) /\ QD 129 L W s2' ((Q0 Qb Qa Qd Qc a z).Qa.map QG) := by
 refine QN (N := 46) (f := [(0, .agg #[s1, s2, .int .i64 Qd, .bool Qc]), (1, .int .i64 a), (2, .agg (Qr z).toArray)]) Tryd.func63 rfl rfl rfl rfl fun Q hQ hE => ?_
 have hB := Below.refl w.heap.size w
 have h1m : Qb.length <= maxLen := by have := h1.len; rwa [List.length_map] at this
 unfold maxLen at h1m
 have h2m : Qa.length <= maxLen := by have := h2.len; rwa [List.length_map] at this
 unfold maxLen at h2m
 refine Sq fun K1 hK1 => (Rg ?_)
 refine Ge (Xa rfl rfl rfl) rfl rfl ?_
 rintro _ W2 ⟨rfl, k3, b4, z5⟩
 have l6 := hB.size
 replace h1 := h1.more b4 (Nat.le_refl _)
 replace h2 := h2.more b4 (Nat.le_refl _)
 replace hB := Qe hB b4
 replace hL := LL.more hL z5
 refine Ge (Xa (cs := (Qr z)) rfl rfl rfl) rfl rfl ?_
 rintro _ W7 ⟨rfl, k8, b9, z10⟩
 have n11 : w.heap.size ≠ W2.heap.size := Nat.ne_of_lt k3.lt
 have l12 := hB.size
 replace h1 := h1.more b9 (Nat.le_refl _)
 replace h2 := h2.more b9 (Nat.le_refl _)
 replace k3 := k3.below b9
 replace hB := Qe hB b9
 replace hL := LL.more hL z10
 refine Ge (Qu rfl QV rfl) rfl rfl ?_
 rintro _ W13 ⟨rfl, k14, b15, z16⟩
 have n17 : w.heap.size ≠ W7.heap.size := Nat.ne_of_lt k3.lt
 have l19 := hB.size
 replace h1 := h1.more b15 (Nat.le_refl _)
 replace h2 := h2.more b15 (Nat.le_refl _)
 replace k3 := k3.below b15
 replace k8 := k8.below b15
 replace hB := Qe hB b15
 replace hL := LL.more hL z16
 refine Pu rfl (Ni (hK1 (Sq fun K20 hK20 => (Sq fun K21 hK21 => (Rg (Va (Qg rfl Qf rfl k3.range rfl) rfl rfl ?_))))))
 refine Ge (QQ rfl Tryd.func50 rfl rfl rfl (Ga _ _ _ _ _ _ W13 [] (LL.nil _) (h1.less (by simp)) (h2.less (by simp)))) rfl rfl ?_
 rintro _ W23 ⟨rfl, b22⟩
 replace h1 := h1.below b22
 replace h2 := h2.below b22
 replace k3 := k3.below b22
 replace k8 := k8.below b22
 replace k14 := k14.below b22
 replace hB := Qe hB b22
 replace hL := LL.below hL b22
 refine Va (XU rfl rfl) rfl rfl (Pu rfl ?_)
 refine WL.split 12 rfl (fun g24 => ?_) (fun g24 => ?_)
 .
  replace g24 := Q4 g24
  refine Of rfl (Of rfl (Of rfl (Of rfl (Pu rfl (Ni (hK21 (WC.condT rfl ?_)))))))
  refine Sq fun K25 hK25 => (Rg (Va (Qg rfl Qf rfl k3.range rfl) rfl rfl ?_))
  refine WL.do (Qh (cs' := [s1, s2, .int .i64 Qd, .bool Qc]) (vs := [s1, s2, .int .i64 Qd, .bool Qc]) rfl Qj rfl rfl rfl (oC h1.one (oC h2.one (oC rfl (oC rfl Qk)))) k14 rfl (nB rfl) rfl) rfl ?_
  rintro _ W26 ⟨k28, o27⟩
  clear k14
  replace h1 := h1.only o27 (.head _)
  replace h2 := h2.only o27 (.head _)
  replace hB := o27.below hB l19
  refine Pu rfl (Ni (hK25 ?_))
  exact WC.ret fun a_ ha_ => hQ (QO rfl (.agg rfl Qf k28.range rfl) (.tmp rfl) (by rw [show Q0 Qb Qa Qd Qc a z = ⟨Qb, Qa, Qd, Qc, 1⟩ from (by first | (unfold Q0; generalize Q8 Qd Qc = bb at *; simp [Q0, g24]; done) | (simp [Q0, g24]; done))]; exact ⟨_, _, rfl, (h1.less (fun x hx => (.tail _ (.tail _ (.tail _ hx))))), (h2.less (fun x hx => (.tail _ (.tail _ (.tail _ hx)))))⟩) hB ha_)
 .
  replace g24 := Q2 g24
  have hr := ZU g24; obtain ⟨hne, hsm, hlm, hrt⟩ := hr
  refine Va (Qg rfl Qf rfl k3.range rfl) rfl rfl (Pu rfl ?_)
  refine Ge (QQ rfl Tryd.func71 rfl rfl rfl (QcI _ _ _ _ _ _ a W23 [] (LL.nil _) (h1.less (by simp)) (h2.less (by simp)))) rfl rfl ?_
  rintro _ W30 ⟨rfl, b29⟩
  replace h1 := h1.below b29
  replace h2 := h2.below b29
  replace k3 := k3.below b29
  replace k8 := k8.below b29
  replace k14 := k14.below b29
  replace hB := Qe hB b29
  replace hL := LL.below hL b29
  refine Va (XU rfl rfl) rfl rfl (Pu rfl (Ni (hK21 ?_)))
  refine WC.cond rfl (fun c31 => ?_) (fun c31 => ?_)
  .
   replace c31 := Q4 c31
   refine Sq fun K32 hK32 => (Rg (Va (Qg rfl Qf rfl k3.range rfl) rfl rfl ?_))
   refine WL.do (Qh (cs' := [s1, s2, .int .i64 Qd, .bool Qc]) (vs := [s1, s2, .int .i64 Qd, .bool Qc]) rfl Qj rfl rfl rfl (oC h1.one (oC h2.one (oC rfl (oC rfl Qk)))) k14 rfl (nB rfl) rfl) rfl ?_
   rintro _ W33 ⟨k35, o34⟩
   clear k14
   replace h1 := h1.only o34 (.head _)
   replace h2 := h2.only o34 (.head _)
   replace hB := o34.below hB l19
   refine Pu rfl (Ni (hK32 ?_))
   exact WC.ret fun a_ ha_ => hQ (QO rfl (.agg rfl Qf k35.range rfl) (.tmp rfl) (by rw [show Q0 Qb Qa Qd Qc a z = ⟨Qb, Qa, Qd, Qc, 1⟩ from (by first | (unfold Q0; generalize Q8 Qd Qc = bb at *; simp [Q0, g24, c31]; done) | (simp [Q0, g24, c31]; done))]; exact ⟨_, _, rfl, (h1.less (fun x hx => (.tail _ (.tail _ (.tail _ hx))))), (h2.less (fun x hx => (.tail _ (.tail _ (.tail _ hx)))))⟩) hB ha_)
  .
   replace c31 := Q2 c31
   refine WC.skip (hK20 (Sq fun K36 hK36 => (Sq fun K37 hK37 => (Rg (Va (Qn (o1 := 3) rfl XC rfl rfl) rfl rfl (Va (Qi rfl Yt rfl (k3.cell (k := 3) rfl)) rfl rfl (Ni ?_)))))))
   refine hK37 ?_
   refine WC.cond rfl (fun c38 => ?_) (fun c38 => ?_)
   .
    refine Sq fun K39 hK39 => (Rg (Va (Qg rfl Qf rfl k3.range rfl) rfl rfl ?_))
    refine WL.do (Qh (cs' := [s1, s2, .int .i64 Qd, .bool Qc]) (vs := [s1, s2, .int .i64 Qd, .bool Qc]) rfl Qj rfl rfl rfl (oC h1.one (oC h2.one (oC rfl (oC rfl Qk)))) k14 rfl (nB rfl) rfl) rfl ?_
    rintro _ W40 ⟨k42, o41⟩
    clear k14
    replace h1 := h1.only o41 (.head _)
    replace h2 := h2.only o41 (.head _)
    replace hB := o41.below hB l19
    refine Pu rfl (Ni (hK39 ?_))
    exact WC.ret fun a_ ha_ => hQ (QO rfl (.agg rfl Qf k42.range rfl) (.tmp rfl) (by rw [show Q0 Qb Qa Qd Qc a z = ⟨Qb, Qa, Qd, Qc, 9⟩ from (by first | (unfold Q0; generalize Q8 Qd Qc = bb at *; simp [Q0, g24, c31, c38]; done) | (simp [Q0, g24, c31, c38]; done))]; exact ⟨_, _, rfl, (h1.less (fun x hx => (.tail _ (.tail _ (.tail _ hx))))), (h2.less (fun x hx => (.tail _ (.tail _ (.tail _ hx)))))⟩) hB ha_)
   .
    replace c38 := ZY c38
    refine WC.skip (hK36 (Sq fun K43 hK43 => (Sq fun K44 hK44 => (Rg (Va (Qn (o1 := 1) rfl QJ rfl rfl) rfl rfl (Va (Qi rfl Xf rfl (k3.cell (k := 1) rfl)) rfl rfl (Va (QT rfl QY rfl h2) rfl rfl ?_)))))))
    refine Va (Zw rfl rfl rfl) rfl rfl (Ni (hK44 ?_))
    refine WC.cond rfl (fun c45 => ?_) (fun c45 => ?_)
    .
     replace c45 := dT c45
     refine Sq fun K46 hK46 => (Rg (Va (Qg rfl Qf rfl k3.range rfl) rfl rfl ?_))
     refine WL.do (Qh (cs' := [s1, s2, .int .i64 Qd, .bool Qc]) (vs := [s1, s2, .int .i64 Qd, .bool Qc]) rfl Qj rfl rfl rfl (oC h1.one (oC h2.one (oC rfl (oC rfl Qk)))) k14 rfl (nB rfl) rfl) rfl ?_
     rintro _ W47 ⟨k49, o48⟩
     clear k14
     replace h1 := h1.only o48 (.head _)
     replace h2 := h2.only o48 (.head _)
     replace hB := o48.below hB l19
     refine Pu rfl (Ni (hK46 ?_))
     exact WC.ret fun a_ ha_ => hQ (QO rfl (.agg rfl Qf k49.range rfl) (.tmp rfl) (by rw [show Q0 Qb Qa Qd Qc a z = ⟨Qb, Qa, Qd, Qc, 10⟩ from (by first | (unfold Q0; generalize Q8 Qd Qc = bb at *; simp [Q0, g24, c31, c38, c45]; done) | (simp [Q0, g24, c31, c38, c45]; done))]; exact ⟨_, _, rfl, (h1.less (fun x hx => (.tail _ (.tail _ (.tail _ hx))))), (h2.less (fun x hx => (.tail _ (.tail _ (.tail _ hx)))))⟩) hB ha_)
    .
     replace c45 := dF c45
     refine WC.skip (hK43 (Sq fun K50 hK50 => (Rg (Va (Qg rfl Qf rfl k3.range rfl) rfl rfl ?_))))
     refine Ge (QQ rfl Tryd.func79 rfl rfl rfl (Qc8 Qb Qa Qd Qc s1 s2 W30 [] (LL.nil _) (h1.less (by simp)) (h2.less (by simp)) hfu)) rfl rfl ?_
     rintro _ W52 ⟨rfl, b51⟩
     replace h1 := h1.below b51
     replace h2 := h2.below b51
     replace k3 := k3.below b51
     replace k8 := k8.below b51
     replace k14 := k14.below b51
     replace hB := Qe hB b51
     replace hL := LL.below hL b51
     refine Pu rfl (Pu rfl (Pu rfl ?_))
     refine WL.do (Qh (cs' := [s1, s2, .int .i64 ((Q8 Qd Qc).1), .bool ((Q8 Qd Qc).2.1)]) (vs := [s1, s2, .int .i64 ((Q8 Qd Qc).1), .bool ((Q8 Qd Qc).2.1)]) rfl Qj rfl rfl rfl (oC h1.one (oC h2.one (oC rfl (oC rfl Qk)))) k3 rfl (nB rfl) rfl) rfl ?_
     rintro _ W53 ⟨k55, o54⟩
     replace k8 := k8.other o54 n11.symm
     replace k14 := k14.other o54 n17.symm
     clear k3
     replace h1 := h1.only o54 (.tail _ (.tail _ (.head _)))
     replace h2 := h2.only o54 (.tail _ (.tail _ (.head _)))
     replace hB := o54.below hB l6
     replace hL := LL.only hL o54
     refine Pu rfl (Ni (hK50 (Sq fun K56 hK56 => (Sq fun K57 hK57 => (Rg (Pu rfl (Va (Xl rfl rfl rfl) rfl rfl ?_)))))))
     refine Ni (hK57 ?_)
     refine WC.cond rfl (fun c58 => ?_) (fun c58 => ?_)
     .
      replace c58 := Q4 c58
      replace c58 := dF c58
      refine Sq fun K59 hK59 => (Rg (Va (Qg rfl Qf rfl k55.range rfl) rfl rfl (Pu rfl ?_)))
      refine WL.do (Qh (cs' := [s1, s2, .int .i64 ((Q8 Qd Qc).1), .bool ((Q8 Qd Qc).2.1)]) (vs := [s1, s2, .int .i64 ((Q8 Qd Qc).1), .bool ((Q8 Qd Qc).2.1)]) rfl Qj rfl rfl rfl (oC h1.one (oC h2.one (oC rfl (oC rfl Qk)))) k14 rfl (nB rfl) rfl) rfl ?_
      rintro _ W60 ⟨k62, o61⟩
      clear k14
      replace h1 := h1.only o61 (.head _)
      replace h2 := h2.only o61 (.head _)
      replace hB := o61.below hB l19
      refine Pu rfl (Ni (hK59 ?_))
      exact WC.ret fun a_ ha_ => hQ (QO rfl (.agg rfl Qf k62.range rfl) (.tmp rfl) (by rw [show Q0 Qb Qa Qd Qc a z = ⟨Qb, Qa, (Q8 Qd Qc).1, (Q8 Qd Qc).2.1, (Q8 Qd Qc).2.2⟩ from (by first | (unfold Q0; generalize Q8 Qd Qc = bb at *; simp [Q0, g24, c31, c38, c45, c58]; done) | (simp [Q0, g24, c31, c38, c45, c58]; done))]; exact ⟨_, _, rfl, (h1.less (fun x hx => (.tail _ (.tail _ (.tail _ hx))))), (h2.less (fun x hx => (.tail _ (.tail _ (.tail _ hx)))))⟩) hB ha_)
     .
      replace c58 := Q2 c58
      replace c58 := dT c58
      refine WC.skip (hK56 (Sq fun K63 hK63 => ?_))
      refine dM 7 [(some 36, .is (.pointer (some ⟨w.heap.size, 1, none⟩))), (some 37, .is (s2)), (some 38, .by fun u W => Qen 129 (W7.heap.size :: W2.heap.size :: w.heap.size :: L) W u (Qa.map QG)), (some 39, .is (.int .i64 a)), (some 40, .is (.agg (Qr z).toArray)), (some 41, .is (.agg (QG (a, z)).toArray)), (some 42, .by fun u W => QD 129 (W7.heap.size :: W2.heap.size :: w.heap.size :: L) W u [(QG (a, z))])] [[], [0], [1], [], [], [3, 4], [5]] ⟨fun _ _ _ hb h => h.below hb, fun _ _ _ hb h => h.below hb, trivial⟩ ?_ ?_
      .
       refine Dc (fun Wd hd => ?_) ?_
       .
        exact Dd (Qn (o1 := 1) rfl QJ rfl rfl) rfl
       refine Dc (fun Wd hd => ?_) ?_
       .
        have k55 := k55.below hd
        exact Dd (Qi rfl Xf rfl (k55.cell (k := 1) rfl)) rfl
       refine Dc (fun Wd hd => ?_) ?_
       .
        have h1 := h1.below hd
        have h2 := h2.below hd
        exact DR.mono (QQ rfl Tryd.func80 rfl rfl rfl (Qej Qa s2 Wd _ (LL.below hL hd) h2)) (fun v W' h => ⟨h.2, (by obtain ⟨a, h1, h2⟩ := h.1; exact ⟨a, by rw [List.length_map]; exact h1, h2⟩)⟩)
       refine Dc (fun Wd hd => ?_) ?_
       .
        exact Dd (Qt rfl rfl) rfl
       refine Dc (fun Wd hd => ?_) ?_
       .
        have k8 := k8.below hd
        exact Dd (Qg rfl QF rfl k8.range (by rw [Qo]; exact hz)) rfl
       refine Dc (fun Wd hd => ?_) ?_
       .
        exact Dd (QS rfl rfl (Dq _ _ hz)) rfl
       refine Dc (fun Wd hd => ?_) ?_
       .
        exact (ZP (r := (QG (a, z))) rfl Yw (by decide) (by decide) rfl rfl (by simp [QG, Qo, hz])).mono (fun v W' h => ⟨h.2.1, h.1.notin (LL.below hL hd) (Nat.le_refl _)⟩)
       exact trivial
      .
       intro W64 b65
       rintro u10_2 ⟨a10, rfl, p10_2⟩
       intro u10_6 p10_6
       replace h1 := h1.below b65
       replace k55 := k55.below b65
       replace k14 := k14.below b65
       replace hB := Qe hB b65
       refine Ge (JM (rs := (Qa.map QG)) (news := [(QG (a, z))]) rfl Yw rfl rfl p10_2 p10_6 (by simp) (by simp; unfold maxLen; omega) (by simp; omega)) rfl rfl ?_
       rintro u70 W66 ⟨k67, b68, z69⟩
       have n71 : w.heap.size ≠ W64.heap.size := Nat.ne_of_lt k55.lt
       have n73 : W7.heap.size ≠ W64.heap.size := Nat.ne_of_lt k14.lt
       have l74 := hB.size
       replace h1 := h1.more b68 (Nat.le_refl _)
       replace k55 := k55.below b68
       replace k14 := k14.below b68
       replace hB := Qe hB b68
       rw [show (Qa.map QG) ++ [QG (a, z)] = (Qa ++ [(a, z)]).map QG from by simp] at k67
       refine Va (Qn (o1 := 1) rfl QJ rfl rfl) rfl rfl ?_
       refine WL.do (Qh (cs' := [s1, u70, .int .i64 ((Q8 Qd Qc).1), .bool ((Q8 Qd Qc).2.1)]) (vs := [u70]) rfl YM rfl rfl (Ux k67.one) (oC k67.one Qk) k55 rfl (nB rfl) rfl) rfl ?_
       rintro _ W75 ⟨k77, o76⟩
       replace k14 := k14.other o76 n17.symm
       replace k67 := k67.other o76 n71.symm
       clear k55
       replace h1 := h1.only o76 (.tail _ (.tail _ (.tail _ (.head _))))
       replace hB := o76.below hB l6
       refine Ni (hK63 (Sq fun K78 hK78 => (Rg (Va (Qg rfl Qf rfl k77.range rfl) rfl rfl ?_))))
       refine WL.do (Qh (cs' := [s1, u70, .int .i64 ((Q8 Qd Qc).1), .bool ((Q8 Qd Qc).2.1)]) (vs := [s1, u70, .int .i64 ((Q8 Qd Qc).1), .bool ((Q8 Qd Qc).2.1)]) rfl Qj rfl rfl rfl (oC h1.one (oC k67.one (oC rfl (oC rfl Qk)))) k14 rfl (nB rfl) rfl) rfl ?_
       rintro _ W79 ⟨k81, o80⟩
       replace k67 := k67.other o80 n73.symm
       clear k14
       replace h1 := h1.only o80 (.tail _ (.head _))
       replace hB := o80.below hB l19
       refine Pu rfl (Ni (hK78 ?_))
       exact WC.ret fun a_ ha_ => hQ (QO rfl (.agg rfl Qf k81.range rfl) (.tmp rfl) (by rw [show Q0 Qb Qa Qd Qc a z = ⟨Qb, Qa ++ [(a, z)], (Q8 Qd Qc).1, (Q8 Qd Qc).2.1, 0⟩ from (by first | (unfold Q0; generalize Q8 Qd Qc = bb at *; simp [Q0, g24, c31, c38, c45, c58]; done) | (simp [Q0, g24, c31, c38, c45, c58]; done))]; exact ⟨_, _, rfl, (h1.less (fun x hx => (.tail _ (.tail _ (.tail _ (.tail _ hx)))))), (k67.notin hL0 l74)⟩) hB ha_)

theorem G5 {l : List (Int × List Int)} {a : Int} {n : Nat} {p : Int × List Int} (h : l[n]? = some p) (ha : p.1 = a) : Zl l a (n + 1) = some p.2 := by simp [Zl, h, ha]
theorem G4 {l : List (Int × List Int)} {a : Int} {n : Nat} {p : Int × List Int} (h : l[n]? = some p) (ha : ¬ p.1 = a) : Zl l a (n + 1) = Zl l a n := by simp [Zl, h, ha]
theorem UE : Tryd.prog.built 75 [] = some (Qr z0).toArray := by kernel_rfl
set_option maxHeartbeats 1000000 in
theorem Qb8 (Qb : List (List Int)) (Qa : List (Int × List Int)) (Qd : Int) (Qc : Bool) (s1 s2 : Value) (a : Int) (w : World) (L : List Nat) (hL : LL L w) (h1 : QD 128 L w s1 (Qb.map Qr)) (h2 : QD 129 L w s2 (Qa.map QG)) : CV Tryd.prog 73 [.agg #[s1, s2, .int .i64 Qd, .bool Qc], .int .i64 a] w fun v W => v = .tuple #[.agg (Qr (Xn Qb Qa Qc a).1).toArray, .int .i64 (Xn Qb Qa Qc a).2] := by
 refine QN (N := 47) (f := [(0, .agg #[s1, s2, .int .i64 Qd, .bool Qc]), (1, .int .i64 a)]) Tryd.func73 rfl rfl rfl rfl fun Q hQ hE => ?_
 have hB := Below.refl w.heap.size w
 have h1m : Qb.length <= maxLen := by have := h1.len; rwa [List.length_map] at this
 unfold maxLen at h1m
 have h2m : Qa.length <= maxLen := by have := h2.len; rwa [List.length_map] at this
 unfold maxLen at h2m
 refine Sq fun K1 hK1 => (Rg ?_)
 refine Ge (Xa rfl rfl rfl) rfl rfl ?_
 rintro _ W2 ⟨rfl, k3, b4, z5⟩
 have l6 := hB.size
 replace h1 := h1.more b4 (Nat.le_refl _)
 replace h2 := h2.more b4 (Nat.le_refl _)
 replace hB := Qe hB b4
 replace hL := LL.more hL z5
 refine Ge (Qu (cs := Qr z0) rfl ZE Yh) rfl rfl ?_
 rintro _ W7 ⟨rfl, k8, b9, z10⟩
 have l12 := hB.size
 replace h1 := h1.more b9 (Nat.le_refl _)
 replace h2 := h2.more b9 (Nat.le_refl _)
 replace k3 := k3.below b9
 replace hB := Qe hB b9
 replace hL := LL.more hL z10
 refine Pu rfl (Ni (hK1 (Sq fun K13 hK13 => (Sq fun K14 hK14 => (Rg (Va (Qg rfl Qf rfl k3.range rfl) rfl rfl ?_))))))
 refine Ge (QQ rfl Tryd.func50 rfl rfl rfl (Ga _ _ _ _ _ _ W7 [] (LL.nil _) (h1.less (by simp)) (h2.less (by simp)))) rfl rfl ?_
 rintro _ W16 ⟨rfl, b15⟩
 replace h1 := h1.below b15
 replace h2 := h2.below b15
 replace k3 := k3.below b15
 replace k8 := k8.below b15
 replace hB := Qe hB b15
 replace hL := LL.below hL b15
 refine Va (XU rfl rfl) rfl rfl (Pu rfl ?_)
 refine WL.split 10 rfl (fun g17 => ?_) (fun g17 => ?_)
 .
  replace g17 := Q4 g17
  refine Of rfl (Of rfl (Of rfl (Of rfl (Pu rfl (Ni (hK14 (WC.condT rfl ?_)))))))
  refine Sq fun K18 hK18 => (Rg (Va (QS rfl rfl UE) rfl rfl ?_))
  refine WL.do (Qx (vs := (Qr z0)) rfl Q1 rfl rfl rfl (YU z0) k8 (by rw [Qo]; exact Xy) (by rw [Qo]; exact Xy)) rfl ?_
  rintro _ W19 ⟨k21, o20⟩
  clear k8
  replace hB := o20.below hB l12
  refine Pu rfl (Ni (hK18 ?_))
  exact WC.ret fun a_ ha_ => hQ (QO rfl (.agg rfl QF k21.range (by rw [Qo]; exact Xy)) (.tmp rfl) (by rw [show Xn Qb Qa Qc a = (z0, 1) from (by simp [Xn, g17])]) hB ha_)
 .
  replace g17 := Q2 g17
  have hr := ZU g17; obtain ⟨hne, hsm, hlm, hrt⟩ := hr
  refine Va (Qg rfl Qf rfl k3.range rfl) rfl rfl (Pu rfl ?_)
  refine Ge (QQ rfl Tryd.func71 rfl rfl rfl (QcI _ _ _ _ _ _ a W16 [] (LL.nil _) (h1.less (by simp)) (h2.less (by simp)))) rfl rfl ?_
  rintro _ W23 ⟨rfl, b22⟩
  replace h1 := h1.below b22
  replace h2 := h2.below b22
  replace k3 := k3.below b22
  replace k8 := k8.below b22
  replace hB := Qe hB b22
  replace hL := LL.below hL b22
  refine Va (XU rfl rfl) rfl rfl (Pu rfl (Ni (hK14 ?_)))
  refine WC.cond rfl (fun c24 => ?_) (fun c24 => ?_)
  .
   replace c24 := Q4 c24
   refine Sq fun K25 hK25 => (Rg (Va (QS rfl rfl UE) rfl rfl ?_))
   refine WL.do (Qx (vs := (Qr z0)) rfl Q1 rfl rfl rfl (YU z0) k8 (by rw [Qo]; exact Xy) (by rw [Qo]; exact Xy)) rfl ?_
   rintro _ W26 ⟨k28, o27⟩
   clear k8
   replace hB := o27.below hB l12
   refine Pu rfl (Ni (hK25 ?_))
   exact WC.ret fun a_ ha_ => hQ (QO rfl (.agg rfl QF k28.range (by rw [Qo]; exact Xy)) (.tmp rfl) (by rw [show Xn Qb Qa Qc a = (z0, 1) from (by simp [Xn, g17, c24])]) hB ha_)
  .
   replace c24 := Q2 c24
   have hh := Da c24; obtain ⟨hb1, hb2⟩ := hh
   refine WC.skip (hK13 (Sq fun K29 hK29 => (Sq fun K30 hK30 => (Rg (Va (Qn (o1 := 3) rfl XC rfl rfl) rfl rfl (Va (Qi rfl Yt rfl (k3.cell (k := 3) rfl)) rfl rfl (Ni ?_)))))))
   refine hK30 ?_
   refine WC.cond rfl (fun c31 => ?_) (fun c31 => ?_)
   .
    refine Sq fun K32 hK32 => (Rg (Va (QS rfl rfl UE) rfl rfl ?_))
    refine WL.do (Qx (vs := (Qr z0)) rfl Q1 rfl rfl rfl (YU z0) k8 (by rw [Qo]; exact Xy) (by rw [Qo]; exact Xy)) rfl ?_
    rintro _ W33 ⟨k35, o34⟩
    clear k8
    replace hB := o34.below hB l12
    refine Pu rfl (Ni (hK32 ?_))
    exact WC.ret fun a_ ha_ => hQ (QO rfl (.agg rfl QF k35.range (by rw [Qo]; exact Xy)) (.tmp rfl) (by rw [show Xn Qb Qa Qc a = (z0, 9) from (by simp [Xn, g17, c24, c31])]) hB ha_)
   .
    replace c31 := ZY c31
    refine WC.skip (hK29 (Sq fun K36 hK36 => (Sq fun K37 hK37 => (Rg (Va (Qn (o1 := 1) rfl QJ rfl rfl) rfl rfl (Va (Qi rfl Xf rfl (k3.cell (k := 1) rfl)) rfl rfl (Va (QT rfl QY rfl h2) rfl rfl ?_)))))))
    refine Va (Zm (r := (Qa.length : Int) - 1) rfl rfl rfl (Qm (by omega))) rfl rfl (Pu rfl (Ni (hK37 (WC.block ?_))))
    refine WC.loop (fun (n : Nat) => [(1, .int .i64 a), (2, .pointer (some ⟨w.heap.size, 0, none⟩)), (4, .pointer (some ⟨W2.heap.size, 0, none⟩)), (6, .int .i64 ((n : Int) - 1))]) (fun (n : Nat) W => n <= Qa.length /\ Zl Qa a Qa.length = Zl Qa a n /\ Below w.heap.size w W /\ LL (W2.heap.size :: w.heap.size :: L) W /\ QD 128 (W2.heap.size :: w.heap.size :: L) W s1 (Qb.map Qr) /\ QD 129 (W2.heap.size :: w.heap.size :: L) W s2 (Qa.map QG) /\ Xc W w.heap.size [s1, s2, .int .i64 Qd, .bool Qc] /\ Xc W W2.heap.size (Qr z0)) (fun (n : Nat) => n) Qa.length (by repeat first | exact trivial | refine aR ?_ | refine aI (by omega) ?_) ⟨Nat.le_refl _, rfl, hB, hL, h1, h2, k3, k8⟩ ?_
    clear h1 h2 k3 k8 hB hL
    rintro K38 n W39 ⟨hi, hv, hB, hL, h1, h2, k3, k8⟩ hK38
    refine Sq fun K40 hK40 => (Sq fun K41 hK41 => (Rg (Pu rfl (Va (Yr rfl rfl rfl) rfl rfl (Ni (hK41 ?_))))))
    refine WC.cond rfl (fun c42 => ?_) (fun c42 => ?_)
    .
     replace c42 := dT c42
     refine WC.skip (hK40 (Sq fun K43 hK43 => (WC.block (Sq fun K44 hK44 => (Rg (Va (Qn (o1 := 1) rfl QJ rfl rfl) rfl rfl (Va (Qi rfl Xf rfl (k3.cell (k := 1) rfl)) rfl rfl ?_)))))))
     refine Pu rfl ?_
     obtain ⟨r45, e46⟩ : ∃ x, Qa[(n - 1)]? = some x := ⟨_, List.getElem?_eq_getElem (by omega)⟩
     have Lr45 := J1 h2 e46
     refine Ge (XH (n - 1) rfl QY rfl rfl h2 (by omega) (XG e46)) rfl rfl ?_
     rintro u47 _ ⟨rfl, p48⟩
     refine Ge (V1 1 rfl ZB rfl p48 (cs' := [.int .i64 r45.1]) (by simp [QG, List.take_of_length_le, Qo, Lr45]) (Nat.succ_pos _)) rfl rfl ?_
     rintro u49 _ ⟨rfl, p50⟩
     refine Va (Zn rfl Qv rfl p50) rfl rfl (Pu rfl (Va (Zw rfl rfl rfl) rfl rfl (Ni (hK44 ?_))))
     refine WC.cond rfl (fun c51 => ?_) (fun c51 => ?_)
     .
      replace c51 := dT c51
      refine Sq fun K52 hK52 => (Rg (Va (Qn (o1 := 1) rfl QJ rfl rfl) rfl rfl (Va (Qi rfl Xf rfl (k3.cell (k := 1) rfl)) rfl rfl (Pu rfl ?_))))
      refine Ge (XH (n - 1) rfl QY rfl rfl h2 (by omega) (XG e46)) rfl rfl ?_
      rintro u53 _ ⟨rfl, p54⟩
      refine Ge (V1 128 rfl Vc rfl p54 (cs' := (Qr r45.2)) (by simp [QG, List.take_of_length_le, Qo, Lr45]) (by simp [QG, Qo, Lr45])) rfl rfl ?_
      rintro u55 _ ⟨rfl, p56⟩
      refine Va (Zc rfl QF rfl p56 (by rw [Qo]; exact Lr45)) rfl rfl ?_
      refine WL.do (Qx (vs := (Qr r45.2)) rfl Q1 rfl rfl rfl (YU r45.2) k8 (by rw [Qo]; exact Lr45) (by rw [Qo]; exact Xy)) rfl ?_
      rintro _ W57 ⟨k59, o58⟩
      clear k8
      replace hB := o58.below hB l12
      refine Pu rfl (Ni (hK52 ?_))
      exact WC.ret fun a_ ha_ => hQ (QO rfl (.agg rfl QF k59.range (by rw [Qo]; exact Lr45)) (.tmp rfl) (by rw [show Xn Qb Qa Qc a = (r45.2, 0) from (by unfold Xn; rw [hv, show n = (n - 1) + 1 by omega, G5 e46 c51]; simp [g17, c24, c31, c42, c51])]) hB ha_)
     .
      replace c51 := dF c51
      refine WC.skip (hK43 (Rg (Pu rfl (Va (Zm (r := ((n : Int) - 1) - 1) rfl rfl rfl (Qm (by omega))) rfl rfl (Pu rfl (Ni ?_))))))
      exact hK38 (n - 1) ⟨(by omega), (by rw [hv, show n = (n - 1) + 1 by omega]; exact G4 e46 c51), hB, hL, h1, h2, k3, k8⟩ (by omega) (by repeat first | exact trivial | refine aR ?_ | refine aI (by omega) ?_)
    .
     replace c42 := dF c42
     refine WC.exit ?_
     refine hK36 (Sq fun K60 hK60 => (Rg (Va (Qn (o1 := 0) rfl QE rfl rfl) rfl rfl (Va (Qi rfl Q7 rfl (k3.cell (k := 0) rfl)) rfl rfl (Pu rfl ?_)))))
     obtain ⟨r61, e62⟩ : ∃ x, Qb[a.toNat]? = some x := ⟨_, List.getElem?_eq_getElem (by omega)⟩
     have Lr61 := Ed h1 e62
     refine Ge (XH a.toNat rfl QW rfl rfl h1 (by omega) (XG e62)) rfl rfl ?_
     rintro u63 _ ⟨rfl, p64⟩
     refine Va (Zc rfl QF rfl p64 (by rw [Qo]; exact Lr61)) rfl rfl ?_
     refine WL.do (Qx (vs := (Qr r61)) rfl Q1 rfl rfl rfl (YU r61) k8 (by rw [Qo]; exact Lr61) (by rw [Qo]; exact Xy)) rfl ?_
     rintro _ W65 ⟨k67, o66⟩
     clear k8
     replace hB := o66.below hB l12
     refine Pu rfl (Ni (hK60 ?_))
     exact WC.ret fun a_ ha_ => hQ (QO rfl (.agg rfl QF k67.range (by rw [Qo]; exact Lr61)) (.tmp rfl) (by rw [show Xn Qb Qa Qc a = (r61, 0) from (by unfold Xn; rw [hv, show n = 0 by omega]; simp [Zl, e62, g17, c24, c31, c42])]) hB ha_)

set_option maxHeartbeats 1000000 in
theorem QeB (Qb : List (List Int)) (Qa : List (Int × List Int)) (Qd : Int) (Qc : Bool) (s1 s2 : Value) (w : World) (L : List Nat) (hL : LL L w) (h1 : QD 128 L w s1 (Qb.map Qr)) (h2 : QD 129 L w s2 (Qa.map QG))  (hL0 : LL L w) (hfu : -9223372036854775808 <= Qd /\ Qd <= 9223372036854775807) : CV Tryd.prog 65 [.agg #[s1, s2, .int .i64 Qd, .bool Qc]] w fun v W => ∃ s1' s2', v = .tuple #[.agg #[s1', s2', .int .i64 (Xz Qb Qa Qd Qc).Qd, .bool (Xz Qb Qa Qd Qc).Qc], .int .i64 (Xz Qb Qa Qd Qc).err] /\ QD 128 L W s1' ((Xz Qb Qa Qd Qc).Qb.map Qr) /\ QD 129 L W s2' ((Xz Qb Qa Qd Qc).Qa.map QG) := by
 refine QN (N := 23) (f := [(0, .agg #[s1, s2, .int .i64 Qd, .bool Qc])]) Tryd.func65 rfl rfl rfl rfl fun Q hQ hE => ?_
 have hB := Below.refl w.heap.size w
 have h1m : Qb.length <= maxLen := by have := h1.len; rwa [List.length_map] at this
 unfold maxLen at h1m
 have h2m : Qa.length <= maxLen := by have := h2.len; rwa [List.length_map] at this
 unfold maxLen at h2m
 refine Sq fun K1 hK1 => (Rg ?_)
 refine Ge (Xa rfl rfl rfl) rfl rfl ?_
 rintro _ W2 ⟨rfl, k3, b4, z5⟩
 have l6 := hB.size
 replace h1 := h1.more b4 (Nat.le_refl _)
 replace h2 := h2.more b4 (Nat.le_refl _)
 replace hB := Qe hB b4
 replace hL := LL.more hL z5
 refine Ge (Qu rfl QV rfl) rfl rfl ?_
 rintro _ W7 ⟨rfl, k8, b9, z10⟩
 have n11 : w.heap.size ≠ W2.heap.size := Nat.ne_of_lt k3.lt
 have l12 := hB.size
 replace h1 := h1.more b9 (Nat.le_refl _)
 replace h2 := h2.more b9 (Nat.le_refl _)
 replace k3 := k3.below b9
 replace hB := Qe hB b9
 replace hL := LL.more hL z10
 refine Pu rfl (Ni (hK1 (Sq fun K13 hK13 => (Sq fun K14 hK14 => (Rg (Va (Qg rfl Qf rfl k3.range rfl) rfl rfl ?_))))))
 refine Ge (QQ rfl Tryd.func50 rfl rfl rfl (Ga _ _ _ _ _ _ W7 [] (LL.nil _) (h1.less (by simp)) (h2.less (by simp)))) rfl rfl ?_
 rintro _ W16 ⟨rfl, b15⟩
 replace h1 := h1.below b15
 replace h2 := h2.below b15
 replace k3 := k3.below b15
 replace k8 := k8.below b15
 replace hB := Qe hB b15
 replace hL := LL.below hL b15
 refine Va (XU rfl rfl) rfl rfl (Ni (hK14 ?_))
 refine WC.cond rfl (fun c17 => ?_) (fun c17 => ?_)
 .
  replace c17 := Q4 c17
  refine Sq fun K18 hK18 => (Rg (Va (Qg rfl Qf rfl k3.range rfl) rfl rfl ?_))
  refine WL.do (Qh (cs' := [s1, s2, .int .i64 Qd, .bool Qc]) (vs := [s1, s2, .int .i64 Qd, .bool Qc]) rfl Qj rfl rfl rfl (oC h1.one (oC h2.one (oC rfl (oC rfl Qk)))) k8 rfl (nB rfl) rfl) rfl ?_
  rintro _ W19 ⟨k21, o20⟩
  clear k8
  replace h1 := h1.only o20 (.head _)
  replace h2 := h2.only o20 (.head _)
  replace hB := o20.below hB l12
  refine Pu rfl (Ni (hK18 ?_))
  exact WC.ret fun a_ ha_ => hQ (QO rfl (.agg rfl Qf k21.range rfl) (.tmp rfl) (by rw [show Xz Qb Qa Qd Qc = ⟨Qb, Qa, Qd, Qc, 1⟩ from (by first | (unfold Xz; generalize Q8 Qd Qc = bb at *; simp [Xz, c17]; done) | (simp [Xz, c17]; done))]; exact ⟨_, _, rfl, (h1.less (fun x hx => (.tail _ (.tail _ hx)))), (h2.less (fun x hx => (.tail _ (.tail _ hx))))⟩) hB ha_)
 .
  replace c17 := Q2 c17
  have hr := ZU c17; obtain ⟨hne, hsm, hlm, hrt⟩ := hr
  refine WC.skip (hK13 (Sq fun K22 hK22 => (Sq fun K23 hK23 => (Rg (Va (Qn (o1 := 3) rfl XC rfl rfl) rfl rfl (Va (Qi rfl Yt rfl (k3.cell (k := 3) rfl)) rfl rfl (Ni ?_)))))))
  refine hK23 ?_
  refine WC.cond rfl (fun c24 => ?_) (fun c24 => ?_)
  .
   refine Sq fun K25 hK25 => (Rg (Va (Qg rfl Qf rfl k3.range rfl) rfl rfl ?_))
   refine WL.do (Qh (cs' := [s1, s2, .int .i64 Qd, .bool Qc]) (vs := [s1, s2, .int .i64 Qd, .bool Qc]) rfl Qj rfl rfl rfl (oC h1.one (oC h2.one (oC rfl (oC rfl Qk)))) k8 rfl (nB rfl) rfl) rfl ?_
   rintro _ W26 ⟨k28, o27⟩
   clear k8
   replace h1 := h1.only o27 (.head _)
   replace h2 := h2.only o27 (.head _)
   replace hB := o27.below hB l12
   refine Pu rfl (Ni (hK25 ?_))
   exact WC.ret fun a_ ha_ => hQ (QO rfl (.agg rfl Qf k28.range rfl) (.tmp rfl) (by rw [show Xz Qb Qa Qd Qc = ⟨Qb, Qa, Qd, Qc, 9⟩ from (by first | (unfold Xz; generalize Q8 Qd Qc = bb at *; simp [Xz, c17, c24]; done) | (simp [Xz, c17, c24]; done))]; exact ⟨_, _, rfl, (h1.less (fun x hx => (.tail _ (.tail _ hx)))), (h2.less (fun x hx => (.tail _ (.tail _ hx))))⟩) hB ha_)
  .
   replace c24 := ZY c24
   refine WC.skip (hK22 (Sq fun K29 hK29 => (Rg (Va (Qg rfl Qf rfl k3.range rfl) rfl rfl ?_))))
   refine Ge (QQ rfl Tryd.func79 rfl rfl rfl (Qc8 Qb Qa Qd Qc s1 s2 W16 [] (LL.nil _) (h1.less (by simp)) (h2.less (by simp)) hfu)) rfl rfl ?_
   rintro _ W31 ⟨rfl, b30⟩
   replace h1 := h1.below b30
   replace h2 := h2.below b30
   replace k3 := k3.below b30
   replace k8 := k8.below b30
   replace hB := Qe hB b30
   replace hL := LL.below hL b30
   refine Pu rfl (Pu rfl (Pu rfl ?_))
   refine WL.do (Qh (cs' := [s1, s2, .int .i64 ((Q8 Qd Qc).1), .bool ((Q8 Qd Qc).2.1)]) (vs := [s1, s2, .int .i64 ((Q8 Qd Qc).1), .bool ((Q8 Qd Qc).2.1)]) rfl Qj rfl rfl rfl (oC h1.one (oC h2.one (oC rfl (oC rfl Qk)))) k3 rfl (nB rfl) rfl) rfl ?_
   rintro _ W32 ⟨k34, o33⟩
   replace k8 := k8.other o33 n11.symm
   clear k3
   replace h1 := h1.only o33 (.tail _ (.head _))
   replace h2 := h2.only o33 (.tail _ (.head _))
   replace hB := o33.below hB l6
   replace hL := LL.only hL o33
   refine Pu rfl (Ni (hK29 (Sq fun K35 hK35 => (Sq fun K36 hK36 => (Rg (Pu rfl (Va (Xl rfl rfl rfl) rfl rfl ?_)))))))
   refine Ni (hK36 ?_)
   refine WC.cond rfl (fun c37 => ?_) (fun c37 => ?_)
   .
    replace c37 := Q4 c37
    replace c37 := dF c37
    refine Sq fun K38 hK38 => (Rg (Va (Qg rfl Qf rfl k34.range rfl) rfl rfl (Pu rfl ?_)))
    refine WL.do (Qh (cs' := [s1, s2, .int .i64 ((Q8 Qd Qc).1), .bool ((Q8 Qd Qc).2.1)]) (vs := [s1, s2, .int .i64 ((Q8 Qd Qc).1), .bool ((Q8 Qd Qc).2.1)]) rfl Qj rfl rfl rfl (oC h1.one (oC h2.one (oC rfl (oC rfl Qk)))) k8 rfl (nB rfl) rfl) rfl ?_
    rintro _ W39 ⟨k41, o40⟩
    clear k8
    replace h1 := h1.only o40 (.head _)
    replace h2 := h2.only o40 (.head _)
    replace hB := o40.below hB l12
    refine Pu rfl (Ni (hK38 ?_))
    exact WC.ret fun a_ ha_ => hQ (QO rfl (.agg rfl Qf k41.range rfl) (.tmp rfl) (by rw [show Xz Qb Qa Qd Qc = ⟨Qb, Qa, (Q8 Qd Qc).1, (Q8 Qd Qc).2.1, (Q8 Qd Qc).2.2⟩ from (by first | (unfold Xz; generalize Q8 Qd Qc = bb at *; simp [Xz, c17, c24, c37]; done) | (simp [Xz, c17, c24, c37]; done))]; exact ⟨_, _, rfl, (h1.less (fun x hx => (.tail _ (.tail _ hx)))), (h2.less (fun x hx => (.tail _ (.tail _ hx))))⟩) hB ha_)
   .
    replace c37 := Q2 c37
    replace c37 := dT c37
    refine WC.skip (hK35 (Sq fun K42 hK42 => (Rg (Va (Qg rfl Qf rfl k34.range rfl) rfl rfl ?_))))
    refine Ge (QQ rfl Tryd.func51 rfl rfl rfl (QbL Qb Qa ((Q8 Qd Qc).1) ((Q8 Qd Qc).2.1) s1 s2 (fun _ _ z => z) _ W32 _ hL h1 h2 hL hne hsm hrt (fun W hW i x z hi hx hz => ⟨Qet (cs := []) Tryd.func82 rfl rfl (Qdw i x z W [] (LL.nil _) hx hz), hz⟩))) rfl rfl ?_
    rintro _ W46 ⟨⟨u43, rfl, hk44⟩, b45⟩
    replace k8 := k8.below b45
    replace hB := Qe hB b45
    refine WL.do (Qh (cs' := [u43, .slice none 0 0, .int .i64 ((Q8 Qd Qc).1), .bool ((Q8 Qd Qc).2.1)]) (vs := [u43, .slice none 0 0, .int .i64 ((Q8 Qd Qc).1), .bool ((Q8 Qd Qc).2.1)]) rfl Qj rfl rfl rfl (oC hk44.one (oC rfl (oC rfl (oC rfl Qk)))) k8 rfl (nB rfl) rfl) rfl ?_
    rintro _ W47 ⟨k49, o48⟩
    clear k8
    replace hk44 := hk44.only o48 (.head _)
    replace hB := o48.below hB l12
    refine Pu rfl (Ni (hK42 ?_))
    exact WC.ret fun a_ ha_ => hQ (QO rfl (.agg rfl Qf k49.range rfl) (.tmp rfl) (by rw [show Xz Qb Qa Qd Qc = ⟨(XW (fun _ _ z => z) Qa Qb 0), [], (Q8 Qd Qc).1, (Q8 Qd Qc).2.1, 0⟩ from (by first | (unfold Xz; generalize Q8 Qd Qc = bb at *; simp [Xz, c17, c24, c37]; done) | (simp [Xz, c17, c24, c37]; done))]; exact ⟨_, _, rfl, (hk44.less (fun x hx => (.tail _ (.tail _ hx)))), (QD.nil (by decide))⟩) hB ha_)

theorem Je {L : List Nat} {w : World} {v : Value} {l : List (Int × List Int)} (h : QD 129 L w v (l.map QG)) (a : Int) : ∀ (n : Nat) (z : List Int), Zl l a n = some z -> z.length = 128
  | 0, z, h' => by simp [Zl] at h'
  | n + 1, z, h' => by
    unfold Zl at h'
    split at h'
    . rename_i p hp
      split at h'
      . cases h'; exact J1 h hp
      . exact Je h a n z h'
    . exact Je h a n z h'
theorem Yk {L L' : List Nat} {w w' : World} {v v' : Value} {Qb : List (List Int)} {Qa : List (Int × List Int)} {Qc : Bool} {a : Int} (h : QD 128 L w v (Qb.map Qr)) (h2 : QD 129 L' w' v' (Qa.map QG)) : (Xn Qb Qa Qc a).1.length = 128 := by
  unfold Xn
  split
  . exact Xy
  . split
    . exact Xy
    . rename_i hh
      split
      . exact Xy
      . split
        . rename_i z hz; exact Je h2 a _ z hz
        . have hb := Da (by simpa using hh)
          obtain ⟨x, hx⟩ : ∃ x, Qb[a.toNat]? = some x := ⟨_, List.getElem?_eq_getElem (by omega)⟩
          rw [hx]
          exact Ed h hx

def VS.monoR (rel : World -> World -> Prop) : List (Option Tmp × VS) -> Prop
 | [] => True
 | (_, .is _) :: l => VS.monoR rel l
 | (_, .by p) :: l => (∀ u W W', rel W W' -> p u W -> p u W') /\ VS.monoR rel l
theorem Ui {rel : World -> World -> Prop} : ∀ {sd : List (Option Tmp × VS)}, VS.monoR rel sd -> ∀ {j : Nat} {d : Option Tmp} {p : Value -> World -> Prop}, sd[j]? = some (d, .by p) -> ∀ u W W', rel W W' -> p u W -> p u W'
 | [], _, j, d, p, h => by simp at h
 | (d', .is v) :: l, hm, j, d, p, h => by
  cases j with
  | zero => simp at h
  | succ j => exact Ui (sd := l) hm (by simpa using h)
 | (d', .by q) :: l, hm, j, d, p, h => by
  cases j with
  | zero =>
   simp only [List.getElem?_cons_zero, Option.some.injEq, Prod.mk.injEq, VS.by.injEq] at h
   rw [<- h.2]
   exact hm.1
  | succ j => exact Ui (sd := l) hm.2 (by simpa using h)
def Q5 (P : Program) (ops : Array Oper) (N : Nat) (w0 : World) (sd : List (Option Tmp × VS)) (dl : List (List Nat)) (f : Fl) (s t dt : Nat) (pt q : Value -> World -> Prop) (rel : World -> World -> Prop) : Nat -> List Oper -> Prop
 | _, [] => True
 | k, o :: l => (if k = s then ∀ W, Below w0.heap.size w0 W -> ∀ ut, pt ut W -> XE P ops o N W (sd.set t (some dt, .is ut)) (fun v W' => rel W W' /\ q ut W') ((dl[k]?).getD []) f
   else ∀ W, Below w0.heap.size w0 W -> XE P ops o N W sd (fun v W' => Below W.heap.size W W' /\ XT sd k v W') ((dl[k]?).getD []) f) /\ Q5 P ops N w0 sd dl f s t dt pt q rel (k + 1) l
section
variable {P : Program} {N : Nat} {sd : List (Option Tmp × VS)} {dl : List (List Nat)}
theorem Q5.cons {ops : Array Oper} {w0 : World} {f : Fl} {k s t dt : Nat} {pt q : Value -> World -> Prop} {rel : World -> World -> Prop} {o : Oper} {l : List Oper} (hk : k ≠ s) (h : ∀ W, Below w0.heap.size w0 W -> XE P ops o N W sd (fun v W' => Below W.heap.size W W' /\ XT sd k v W') ((dl[k]?).getD []) f) (hl : Q5 P ops N w0 sd dl f s t dt pt q rel (k + 1) l) : Q5 P ops N w0 sd dl f s t dt pt q rel k (o :: l) := ⟨by rw [if_neg hk]; exact h, hl⟩
theorem Q5.hit {ops : Array Oper} {w0 : World} {f : Fl} {s t dt : Nat} {pt q : Value -> World -> Prop} {rel : World -> World -> Prop} {o : Oper} {l : List Oper} (h : ∀ W, Below w0.heap.size w0 W -> ∀ ut, pt ut W -> XE P ops o N W (sd.set t (some dt, .is ut)) (fun v W' => rel W W' /\ q ut W') ((dl[s]?).getD []) f) (hl : Q5 P ops N w0 sd dl f s t dt pt q rel (s + 1) l) : Q5 P ops N w0 sd dl f s t dt pt q rel s (o :: l) := ⟨by rw [if_pos rfl]; exact h, hl⟩
theorem GZ {t dt : Nat} {u : Value} {j : Nat} (hj : j ≠ t) (v : Value) (W : World) : XT (sd.set t (some dt, .is u)) j v W = XT sd j v W := by
 unfold XT
 rw [List.getElem?_set_ne (fun e => hj e.symm)]
theorem G0 {t dt : Nat} {u : Value} (ht : t < sd.length) (W : World) : XT (sd.set t (some dt, .is u)) t u W := by
 unfold XT
 rw [List.getElem?_set_self ht]
 rfl
theorem map_set {t dt : Nat} {s s' : VS} (ht : sd[t]? = some (some dt, s)) : (sd.set t (some dt, s')).map (·.1) = sd.map (·.1) := by
  apply List.ext_getElem?
  intro i
  rw [List.getElem?_map, List.getElem?_map]
  by_cases e : i = t
  . subst e
    rw [ht, List.getElem?_set_self (List.getElem?_eq_some_iff.1 ht).1]
    rfl
  . rw [List.getElem?_set_ne (fun h => e h.symm)]
theorem Kg {t dt : Nat} {s s' : VS} (ht : sd[t]? = some (some dt, s)) (h : E8 N sd = true) : E8 N (sd.set t (some dt, s')) = true := by
 have key : ∀ (l : List (Option Tmp × VS)), E8 N l = (l.map (·.1)).all fun p => match p with | some d => decide (d < N) | none => true := fun l => by
  unfold E8
  rw [List.all_map]
  rfl
 rw [key, map_set ht, <- key]
 exact h
theorem WC.drawR {id : Nat} {f : Fl} {w : World} {Q : Exit -> Act -> World -> Prop} (m s t dt : Nat) (pt q : Value -> World -> Prop) (rel : World -> World -> Prop) {ops : List Oper} (sd : List (Option Tmp × VS)) (dl : List (List Nat)) (hm : P.follows .mixedOrders = true) (hb : VT .any ops.toArray = true) (hbp : VT .any (ops.take m).toArray = true) (htl : UI .any ops.toArray (ops.take m).length = true) (hdl : (ops.take m).map (XJ .any) = dl)
    (hds : (ops.take m).map (·.dst) = sd.map (·.1)) (hN : E8 N sd = true) (hmono : VS.mono sd)
    (ht : sd[t]? = some (some dt, .by pt)) (hs : sd[s]? = some (none, .by fun _ _ => True)) (hts : ((dl[s]?).getD []).contains t = true) (hst' : s ≠ t) (hsm : s < m) (hrel : VS.monoR rel sd) (hq : ∀ u W W', Below W.heap.size W W' -> q u W -> q u W') (hbr : ∀ W W', Below w.heap.size w W -> rel W W' -> Below w.heap.size w W')
    (hst : Q5 P (ops.take m).toArray N w sd dl f s t dt pt q rel 0 (ops.take m))
    (hend : ∀ W, Below w.heap.size w W -> ∀ ut, pt ut W -> q ut W -> V8 (fun f W => WL P ops.toArray Q N (ops.drop m) f W) W (sd.set t (some dt, .is ut)) f) : WC P N (.region id ops.toArray true) Q f w := fun a ha => by
  obtain ⟨pre, hpre⟩ : ∃ pre, pre = ops.take m := ⟨_, rfl⟩
  obtain ⟨suf, hsuf⟩ : ∃ suf, suf = ops.drop m := ⟨_, rfl⟩
  have hops : pre ++ suf = ops := by rw [hpre, hsuf]; exact List.take_append_drop m ops
  rw [<- hpre] at hbp htl hdl hds hst
  rw [<- hsuf] at hend
  clear hpre hsuf
  subst hops
  have hlen : dl.length = sd.length := by rw [<- hdl, List.length_map, <- List.length_map (f := (·.dst)), hds, List.length_map]
  have hpl : pre.length = dl.length := by rw [<- hdl, List.length_map]
  have htlt : t < sd.length := (List.getElem?_eq_some_iff.1 ht).1
  have hslt : s < sd.length := (List.getElem?_eq_some_iff.1 hs).1
  refine wp_region_any hm ?_
  have hrep : Array.replicate (pre ++ suf).toArray.size false = Array.replicate pre.toArray.size false ++ Array.replicate suf.length false := by
    simp [Array.replicate_append_replicate]
  rw [hrep]
  have hsz : (pre ++ suf).toArray.size = pre.toArray.size + suf.length := by simp
  rw [hsz]
  refine J4 (pre := pre.toArray) (suf := suf) hb hbp (by simp) (by simpa using htl) pre.toArray.size _ (by simp) (fun j hj => by simp [Array.getD_eq_getD_getElem?, Array.getElem?_replicate] at hj; split at hj <;> simp_all) a w.drew ?_
  have hda : ∀ j, Xs .any pre.toArray j = (dl[j]?).getD [] := by
    intro j
    subst hdl
    simp only [Xs, List.getElem?_map, List.getElem?_toArray]
  have hF0 : ∀ j, (Array.replicate pre.toArray.size false).getD j false = true -> False := fun j hj => by simp [Array.getD_eq_getD_getElem?, Array.getElem?_replicate] at hj; split at hj <;> simp_all
  have hmemt : t ∈ (dl[s]?).getD [] := by simpa using hts
  refine UO hbp a (fun _ W => Below w.heap.size w W) (fun j g W => XT sd j (g j) W /\ (j = s -> q (g t) W)) (fun i _ W W' => if i = s then rel W W' else Below W.heap.size W W') ?_ ?_ ?_ pre.toArray.size _ (fun _ => undef) a w.drew (by simp) (by
      have := List.countP_le_length (p := fun b => !b) (l := (Array.replicate pre.toArray.size false).toList)
      simpa using this) (fun j hj => (hF0 j hj).elim) (XV.start fun j hj => hF0 j hj) (YJ (Below.refl _ _) 1) (fun j hj => (hF0 j hj).elim)
  . intro i g W W' j g' hB hne ⟨h, hqj⟩
    by_cases hi : i = s
    . rw [if_pos hi] at hB
      refine ⟨?_, fun hj => absurd (hj.trans hi.symm) hne⟩
      unfold XT at h ⊢
      cases hsj : sd[j]? with
      | none => trivial
      | some p =>
        obtain ⟨d, s'⟩ := p
        rw [hsj] at h
        cases s' with
        | is v => exact h
        | «by» p => exact Ui hrel hsj _ W W' hB h
    . rw [if_neg hi] at hB
      refine ⟨?_, fun hj => hq _ _ _ hB (hqj hj)⟩
      unfold XT at h ⊢
      cases hsj : sd[j]? with
      | none => trivial
      | some p =>
        obtain ⟨d, s'⟩ := p
        rw [hsj] at h
        cases s' with
        | is v => exact h
        | «by» p => exact Kc hmono hsj _ W W' hB h
  . intro i o hoi L g W _ _ hG hd
    have key : ∀ (l : List Oper) (k : Nat), Q5 P pre.toArray N w sd dl f s t dt pt q rel k l -> ∀ j o, l[j]? = some o ->
        (if k + j = s then ∀ W, Below w.heap.size w W -> ∀ ut, pt ut W -> XE P pre.toArray o N W (sd.set t (some dt, .is ut)) (fun v W' => rel W W' /\ q ut W') ((dl[k + j]?).getD []) f
          else ∀ W, Below w.heap.size w W -> XE P pre.toArray o N W sd (fun v W' => Below W.heap.size W W' /\ XT sd (k + j) v W') ((dl[k + j]?).getD []) f) := by
      intro l
      induction l with
      | nil => intro k _ j o h; simp at h
      | cons x l ih =>
        intro k hs j o h
        cases j with
        | zero =>
          simp only [List.getElem?_cons_zero, Option.some.injEq] at h
          subst h
          exact hs.1
        | succ j =>
          have := ih (k + 1) hs.2 j o (by simpa using h)
          rw [show k + (j + 1) = k + 1 + j by omega]
          exact this
    have hk := key pre 0 hst i o (by simpa using hoi)
    rw [Nat.zero_add] at hk
    have hdo : XJ .any o = (dl[i]?).getD [] := by rw [<- hda i, Yn hoi]
    rw [hdo] at hd ⊢
    rw [Vu (ds := sd.map (·.1)) (by simpa using hds)]
    by_cases hi : i = s
    . rw [if_pos hi] at hk
      subst hi
      have hpt : pt (g t) W := by
        have := (hd t hmemt).1
        rw [X4] at this
        unfold XT at this
        rw [ht] at this
        exact this
      obtain ⟨ut, hut⟩ : ∃ ut, ut = g t := ⟨_, rfl⟩
      have hH : Vp (fun j g w => XT (sd.set t (some dt, .is ut)) j (g j) w) dl g W ((dl[i]?).getD []) := Vp.of _ fun j hj => by
        have h1 := (hd j hj).1
        rw [hda j] at h1
        show XT _ j (Zj g (j :: _) j) W
        rw [X4] at h1 ⊢
        by_cases e : j = t
        . subst e
          rw [<- hut]
          exact G0 htlt W
        . rw [GZ e]
          exact h1
      have hfin := XE.to (Kg ht hN) _ f a (hk W hG ut (by rw [hut]; exact hpt)) ha hH
      rw [map_set ht] at hfin
      refine hfin.mono fun v W' h => ⟨by rw [if_pos rfl]; exact h.1, hbr _ _ hG h.1, ?_, fun _ => ?_⟩
      . unfold XT
        rw [hs]
        trivial
      . have e : Zj (Ua g i v) (i :: (dl[i]?).getD []) t = g t := by
          unfold Zj Ua
          rw [if_pos (by simp [hmemt]), if_neg (fun h => hst' h.symm)]
        rw [e, <- hut]
        exact h.2
    . rw [if_neg hi] at hk
      have hH : Vp (fun j g w => XT sd j (g j) w) dl g W ((dl[i]?).getD []) := Vp.of _ fun j hj => by have := (hd j hj).1; rwa [hda j] at this
      refine (XE.to hN _ f a (hk W hG) ha hH).mono fun v W' h => ⟨by rw [if_neg hi]; exact h.1, hG.trans (h.1.mono hG.size), ?_, fun e => absurd e hi⟩
      simp only [X4]
      rw [show Ua g i v i = v by simp [Ua]]
      exact h.2
  . intro L g W hL hG hd
    rw [Vu (ds := sd.map (·.1)) (by simpa using hds)]
    have hsize : pre.toArray.size = sd.length := by simp; omega
    have hpt : pt (g t) W := by
      have := (hd t (by omega)).1
      rw [X4] at this
      unfold XT at this
      rw [ht] at this
      exact this
    have hqt : q (g t) W := by
      have := (hd s (by omega)).2 rfl
      have e : Zj g (s :: Xs .any pre.toArray s) t = g t := by
        rw [hda s]
        unfold Zj
        rw [if_pos (by simp [hmemt])]
      rwa [e] at this
    obtain ⟨ut, hut⟩ : ∃ ut, ut = g t := ⟨_, rfl⟩
    have hH : Vp (fun j g w => XT (sd.set t (some dt, .is ut)) j (g j) w) dl g W (List.range' 0 sd.length) := Vp.of _ fun j hj => by
      have hj' : j < pre.toArray.size := by
        simp [List.mem_range'] at hj
        simp
        omega
      have h1 := (hd j hj').1
      rw [hda j] at h1
      show XT _ j (Zj g (j :: _) j) W
      rw [X4] at h1 ⊢
      by_cases e : j = t
      . subst e
        rw [<- hut]
        exact G0 htlt W
      . rw [GZ e]
        exact h1
    have hfin := V8.to (Q := fun a W => wpList P (pre ++ suf).toArray Q suf a W) (Kg (s' := .is ut) ht hN) (fun f h a ha => h a ha) (sd.set t (some dt, .is ut)) 0 f a (by simp) (hend W hG ut (by rw [hut]; exact hpt) (by rw [hut]; exact hqt)) ha (by rw [List.length_set]; exact hH)
    rw [List.length_set, map_set ht] at hfin
    show wpOps P (pre ++ suf).toArray Q (List.range' pre.toArray.size suf.length) _ _
    rw [wpOps_eq_wpList suf pre.toArray.size (fun j => by simp [List.getElem?_append_right])]
    rw [List.range_eq_range', hsize]
    exact hfin
end
def PtB (base : Nat) (L : List Nat) (w : World) (u : Value) (cs : List Value) : Prop := 0 < cs.length /\ ∃ X o, u = .pointer (some ⟨X, o, none⟩) /\ X < base /\ X ∉ L /\ w.rangeAt X o cs
theorem PtB.ptr {base : Nat} {L : List Nat} {w : World} {u : Value} {cs : List Value} (h : PtB base L w u cs) : JB L w u cs := by
 obtain ⟨h0, X, o, h1, _, h2, h3⟩ := h
 exact ⟨h0, X, o, h1, h2, h3⟩
theorem PtB.below {base : Nat} {L : List Nat} {w w' : World} {u : Value} {cs : List Value} (h : PtB base L w u cs) (hb : Below w.heap.size w w') : PtB base L w' u cs := by
 obtain ⟨h0, X, o, h1, hx, h2, h3⟩ := h
 exact ⟨h0, X, o, h1, hx, h2, Vi h3 (Up.of_below (L := L) hb) h2⟩
def UG (base t n : Nat) (u : Value) (w : World) : Prop := ∃ B cs, u = .pointer (some ⟨B, 0, none⟩) /\ base <= B /\ Jr w B t cs /\ cs.length = n
theorem UG.below {base t n : Nat} {u : Value} {w w' : World} (h : UG base t n u w) (hb : Below w.heap.size w w') : UG base t n u w' := by
 obtain ⟨B, cs, h1, h2, h3, h4⟩ := h
 exact ⟨B, cs, h1, h2, by unfold Jr; rw [hb.block B h3.blk.lt]; exact h3, h4⟩
theorem Ks.newT {base t n : Nat} {cs : List Value} {u : Value} {w : World} (h : Ks base t cs u w) (hn : cs.length = n) : UG base t n u w := by
 obtain ⟨B, h1, h2, h3⟩ := h
 exact ⟨B, cs, h1, h2, h3, hn⟩
def EJ (base t n : Nat) (w w' : World) : Prop := ∃ C cs cs', base <= C /\ Jr w C t cs /\ Jr w' C t cs' /\ cs.length = n /\ cs'.length = n /\ Yi C w w'
theorem EJ.below {base t n : Nat} {w0 w w' : World} (h : EJ base t n w w') (hb : Below base w0 w) : Below base w0 w' := by
 obtain ⟨C, cs, cs', h1, h2, h3, _, h4, h5⟩ := h
 exact h5.below hb h1
theorem UG.wr {base t n : Nat} {u : Value} {w w' : World} (h : UG base t n u w) (hw : EJ base t n w w') : UG base t n u w' := by
  obtain ⟨B, cs, h1, h2, h3, h4⟩ := h
  obtain ⟨C, c1, c2, k1, k2, k3, k0, k4, k5⟩ := hw
  by_cases e : B = C
  . subst e
    exact ⟨B, c2, h1, h2, k3, k4⟩
  . exact ⟨B, cs, h1, h2, by unfold Jr; rw [k5.block B e]; exact h3, h4⟩
theorem Ks.wr {base t t' n : Nat} {cs : List Value} {u : Value} {w w' : World} (h : Ks base t' cs u w) (hw : EJ base t n w w') (hn : (t' == t) = false) : Ks base t' cs u w' := by
 obtain ⟨B, h1, h2, h3⟩ := h
 obtain ⟨C, c1, c2, k1, k2, k3, k0, k4, k5⟩ := hw
 exact ⟨B, h1, h2, by unfold Jr; rw [k5.block B (h3.ne k2 hn)]; exact h3⟩
theorem PtB.wr {base t n : Nat} {L : List Nat} {w w' : World} {u : Value} {cs : List Value} (h : PtB base L w u cs) (hw : EJ base t n w w') : PtB base L w' u cs := by
 obtain ⟨h0, X, o, h1, hx, h2, h3⟩ := h
 obtain ⟨C, c1, c2, k1, k2, k3, k0, k4, k5⟩ := hw
 exact ⟨h0, X, o, h1, hx, h2, Vi h3 (Up.of_only (L := [C]) k5 (.head _)) (by simp; omega)⟩
theorem QD.offB {s : Nat} {L : List Nat} {w : World} {v : Value} {rs : List (List Value)} {B : Nat} {cs : List Value} (h : QD s L w v rs) (hk : Xc w B cs) (hl : cs.length < s) : QD s (B :: L) w v rs := by
 obtain ⟨h0, hr, a, cap, h1, h2, h3, h4, h5⟩ := h
 refine ⟨h0, hr, a, cap, h1, h2, h3, h4, fun hn => ?_⟩
 obtain ⟨X, o, e, hX, hc⟩ := h5 hn
 refine ⟨X, o, e, ?_, hc⟩
 have hlen : s <= rs.flatten.length := by
  rw [ZI hr]
  exact Nat.le_mul_of_pos_left s (List.length_pos_iff.2 hn)
 have hne : X ≠ B := fun e => by
  subst e
  obtain ⟨t, ht⟩ := hk
  have := hc (s - 1) _ (List.getElem?_eq_getElem (by omega))
  simp [World.cell?, ht] at this
  obtain ⟨h', _⟩ := List.getElem?_eq_some_iff.1 this
  omega
 simp [hne, hX]
theorem QD.wr {s base t n : Nat} {L : List Nat} {w w' : World} {v : Value} {rs : List (List Value)} (h : QD s L w v rs) (hw : EJ base t n w w') (hn : n < s) : QD s L w' v rs := by
 obtain ⟨C, c1, c2, k1, k2, k3, k0, k4, k5⟩ := hw
 exact ((h.offB k2.blk (by omega)).only k5 (.head _)).less (fun x hx => .tail _ hx)
section
variable {P : Program} {ops : Array Oper} {o : Oper} {N : Nat} {f : Fl} {w : World}
theorem Qef {t : TypeId} {x : Operand} {k off base : Nat} {L : List Nat} {u : Value} {cs cs' : List Value} (n : Nat) (ho : o.op = .fieldAddr t x k) (hf : YK P t k off = true) (hx : ev f x = some u) (hp : PtB base L w u cs) (hr : (cs.drop off).take n = cs') (hn : 0 < cs'.length) (hw : QP ops o f = some true := by rfl) : DR P ops o N f w fun u' W => w = W /\ PtB base L w u' cs' := fun a ha => by
 obtain ⟨_, X, o0, rfl, hb, hX, hc⟩ := hp
 have hx := ha.ev hx
 refine QK.pure (Qw ha hw) _ (by unfold execOp; simp only [ho, hx, Sem.run_bind, GM hf, Result.andThen_ok]; rfl) ⟨rfl, hn, X, _, rfl, hb, hX, ?_⟩
 have := Uw hc off n
 rwa [hr] at this
theorem Qab {t s : Nat} {L : List Nat} {w0 : World} {x y : Operand} {v : Value} {rs : List (List Value)} {K : IntKind} {i : Int} {r : List Value} (k : Nat) (ho : o.op = .indexAddr t x y) (ht : X3 P t s = true) (hx : ev f x = some v) (hy : ev f y = some (.int K i)) (hr : QD s L w0 v rs) (hd : Below w0.heap.size w0 w) (hk : i = (k : Int)) (hi : rs[k]? = some r) (hw : QP ops o f = some true := by rfl) :
  DR P ops o N f w fun u W => w = W /\ PtB w0.heap.size L w u r := fun a ha => by
 have hr' := hr.below hd
 obtain ⟨h0, hl, ad, cap, rfl, h2, h3, h4, h5⟩ := hr'
 obtain ⟨e, hu, hs⟩ := X6 ht
 have hx := ha.ev hx
 have hy := ha.ev hy
 subst hk
 have hlt := (List.getElem?_eq_some_iff.1 hi).1
 have hne : rs ≠ [] := by intro e; subst e; simp at hlt
 obtain ⟨X, o0, rfl, hX, hc⟩ := h5 hne
 have hrun := JX (w := w) (n := rs.length) (c := cap) hu hs X o0 K (k : Int) (by omega) (by omega)
 refine QK.pure (Qw ha hw) (.pointer (some ⟨X, o0 + k * s, none⟩)) (by unfold execOp; simp only [ho, hx, hy, Sem.run_bind, hrun, Result.andThen_ok]; rfl) ⟨rfl, by rw [hl r (List.mem_of_getElem? hi)]; exact h0, X, _, rfl, E3 hr rfl hne, hX, ?_⟩
 have := Uw hc (k * s) s
 rw [UZ hl hi] at this
 simpa using this
theorem Jk {t t' base n : Nat} {x y : Operand} {u V : Value} {vs : List Value} (ho : o.op = .store t x y) (ht : Zh P t n = true) (hx : ev f x = some u) (hp : UG base t' n u w) (hy : ev f y = some V) (hv : V.cells.toList = vs) (h1 : ∀ v ∈ vs, v.oneCell' = true) (hn : vs.length = n) (hw : QP ops o f = some true := by rfl) : DR P ops o N f w fun _ W => EJ base t' n w W /\ Ks base t' vs u W := fun a ha => by
 obtain ⟨B, cs, rfl, hB, hb, hc⟩ := hp
 obtain ⟨i, hi, hs⟩ := Vl ht
 have hx := ha.ev hx
 have hy := ha.ev hy
 exact QK.of_wp (Qw ha hw) fun K hK => by
  have hst := run_storeCells_at P B 0 t' vs 0 _ w hb (by simp; omega) h1
  simp only [Nat.add_zero] at hst
  have hcs : (cs.toArray.toList.take 0 ++ vs ++ cs.toArray.toList.drop (0 + vs.length)) = vs := by
   rw [List.drop_eq_nil_of_le (by simp; omega)]
   simp
  rw [hcs] at hst
  have hsz : V.cells.size = i.size := by rw [<- Array.length_toList, hv, hn, hs]
  unfold Oper.wp execOp
  simp only [ho, hx, hy, Instr.storeAt, Instr.sureAddr, storeVar, sizeOf, typeInfo, Sem.run_bind, Sem.run_pure, Result.andThen_ok, run_program, hi, hsz, hv, ne_eq, not_true_eq_false, if_false, hst]
  have e : (w.setRow B vs.toArray).heap[B]? = some (.cells vs.toArray t' (0, 0)) := setRow_heap w B _ _ t' _ hb
  exact hK _ _ ⟨⟨B, cs, vs, hB, hb, e, hc, hn, Vk w B _⟩, B, rfl, hB, e⟩
end
def RwB (s : Nat) (w : World) (B : Nat) (R : List (List Value)) : Prop := 0 < s /\ (∀ r ∈ R, r.length = s) /\ R.length <= maxLen /\ Xc w B R.flatten
theorem DD {s : Nat} : ∀ (n : Nat) (l : List Value), l.length = n * s -> ∃ rows : List (List Value), rows.length = n /\ (∀ r ∈ rows, r.length = s) /\ rows.flatten = l
 | 0, l, h => ⟨[], rfl, fun r hr => (by cases hr), (by rw [Nat.zero_mul] at h; rw [List.length_eq_zero_iff.1 h]; rfl)⟩
 | n + 1, l, h => by
  rw [Nat.succ_mul] at h
  obtain ⟨rows, h1, h2, h3⟩ := DD (s := s) n (l.drop s) (by rw [List.length_drop]; omega)
  refine ⟨l.take s :: rows, by simp [h1], fun r hr => ?_, by rw [List.flatten_cons, h3, List.take_append_drop]⟩
  rcases List.mem_cons.1 hr with rfl | hr
  . rw [List.length_take]; omega
  . exact h2 r hr
theorem Y5.open {s : Nat} {w : World} {v : Value} {rs : List (List Value)} {B : Nat} (h : Y5 s w v rs B) : ∃ sp, v = .slice (some ⟨B, 0, none⟩) rs.length (rs ++ sp).length /\ RwB s w B (rs ++ sp) := by
 obtain ⟨h0, hr, cap, sp, rfl, h2, h3, h4, h5⟩ := h
 obtain ⟨rows, k1, k2, rfl⟩ := DD (cap - rs.length) sp h4
 have e : (rs ++ rows).length = cap := by rw [List.length_append, k1]; omega
 refine ⟨rows, by rw [e], h0, fun r hr' => ?_, by rw [e]; exact h3, by rw [List.flatten_append]; exact h5⟩
 rcases List.mem_append.1 hr' with h | h
 . exact hr r h
 . exact k2 r h
theorem RwB.own {s : Nat} {w : World} {B : Nat} {rs sp : List (List Value)} (h : RwB s w B (rs ++ sp)) : Y5 s w (.slice (some ⟨B, 0, none⟩) rs.length (rs ++ sp).length) rs B := by
 obtain ⟨h0, hr, hm, hb⟩ := h
 have hsp : ∀ r ∈ sp, r.length = s := fun r hr' => hr r (List.mem_append.2 (.inr hr'))
 refine ⟨h0, fun r hr' => hr r (List.mem_append.2 (.inl hr')), _, sp.flatten, rfl, by simp, hm, ?_, by rw [<- List.flatten_append]; exact hb⟩
 rw [ZI hsp, List.length_append, Nat.add_sub_cancel_left]
def Qcs (c l o0 s : Nat) : Nat := if c = l then o0 else o0 + l * s
theorem QdU {c l s B o0 : Nat} : (if c = l then some (⟨B, o0, none⟩ : Addr) else some (if l * s = 0 then ⟨B, o0, none⟩ else ⟨B, o0 + l * s, none⟩)) = some ⟨B, Qcs c l o0 s, none⟩ := by
  unfold Qcs
  split
  . rfl
  . split
    . rename_i h; rw [h]; rfl
    . rfl
section
variable {P : Program} {ops : Array Oper} {o : Oper} {N : Nat} {f : Fl} {w : World}
theorem Qe4 {t s B o0 n c : Nat} {x y : Operand} {K : IntKind} (l : Nat) {i : Int} (ho : o.op = .slice t x (some y) none none) (ht : X3 P t s = true) (hx : ev f x = some (.slice (some ⟨B, o0, none⟩) n c)) (hy : ev f y = some (.int K i)) (hi : i = (l : Int)) (hl : l <= n) (hn : n <= c) (hw : QP ops o f = some true := by rfl) :
  DV P ops o N f w (.slice (some ⟨B, Qcs c l o0 s, none⟩) (n - l) (c - l)) := fun a ha => by
 subst hi
 obtain ⟨e, hu, hs⟩ := X6 ht
 have hx := ha.ev hx
 have hy := ha.ev hy
 cases hi : P.info? e with
 | none => rw [hi] at hs; cases hs
 | some q =>
  have hq : q.size = s := by simpa [hi] using hs
  refine QK.pure (Qw ha hw) _ ?_ ⟨rfl, rfl⟩
  have h1 : ((l : Int) <= (n : Int)) := by omega
  have h2 : ((n : Int) <= (c : Int)) := by omega
  have h3 : (0 : Int) <= (l : Int) := by omega
  unfold execOp
  simp only [ho, Option.map_none, Option.map_some, hx, hy, Instr.sliceAt, Sem.run_bind, run_underlying hu, Result.andThen_ok, Instr.slice, Instr.sliceBounds, Instr.sliceBound, asIntOf, Sem.run_pure, sizeOf, typeInfo, run_program, hi]
  simp [h1, h2, h3, hq, Zs, Addr.add, hl]
  exact QdU
end
-- contracts of what writes to a block that it is given
structure Vg (B : Nat) (w w' : World) : Prop where
 os : w'.os = w.os
 tape : w'.tape = w.tape
 output : w'.output = w.output
 size : w.heap.size <= w'.heap.size
 block : ∀ k, k < w.heap.size -> k ≠ B -> w'.heap[k]? = w.heap[k]?
theorem Vg.refl (B : Nat) (w : World) : Vg B w w := ⟨rfl, rfl, rfl, Nat.le_refl _, fun _ _ _ => rfl⟩
theorem Vg.thenB {B : Nat} {w W W' : World} (h : Vg B w W) (b : Below W.heap.size W W') : Vg B w W' :=
 ⟨by rw [b.os, h.os], by rw [b.tape, h.tape], by rw [b.output, h.output], Nat.le_trans h.size b.size, fun k hk hn => by rw [b.block k (Nat.lt_of_lt_of_le hk h.size), h.block k hk hn]⟩
theorem Vg.only {B C : Nat} {w W W' : World} (h : Vg B w W) (o : Yi C W W') (hC : C = B \/ w.heap.size <= C) : Vg B w W' :=
 ⟨by rw [o.os, h.os], by rw [o.tape, h.tape], by rw [o.output, h.output], by rw [o.size]; exact h.size, fun k hk hn => by rw [o.block k (by omega), h.block k hk hn]⟩
def CW (P : Program) (F : FuncId) (args : List Value) (w : World) (B : Nat) (R : Value -> World -> Prop) : Prop := Calls P F args.toArray w fun e w' => ∃ v, e = .returned v /\ R v w' /\ Vg B w w'
def Qd4 (P : Program) (fn : Func) (R : Value -> World -> Prop) (B : Nat) (w0 : World) (a : Act) (w : World) : Prop := a.defers = [] /\ ∃ v, (results fn a.tmps).run P w = .ok v w /\ R v w /\ Vg B w0 w
theorem Kl {P : Program} {F : FuncId} {fn : Func} {body : Code} {w : World} {B : Nat} {R : Value -> World -> Prop} {N : Nat} {vs : List Value} (hf : P.funcs[F]? = some fn) (hb : fn.body = some body) (hn : fn.ntmps = N) (hN : decide (vs.length <= N) = true) {f : Fl}
  (hfr : (vs.zipIdx.map fun p => (p.2, p.1)) = f) (h : ∀ Q : Exit -> Act -> World -> Prop, (∀ {a W}, Qd4 P fn R B w a W -> Q .ret a W) -> (∀ {a W}, Qd4 P fn R B w a W -> Q .normal a W) -> WC P N body Q f w) : CW P F vs w B R :=
 EC vs f hf hb hn hN hfr.symm (h _ (fun {a W} ⟨h1, v, h2, h3, h4⟩ => ⟨h1, v, h2, v, rfl, h3, h4⟩) (fun {a W} ⟨h1, v, h2, h3, h4⟩ => ⟨h1, v, h2, v, rfl, h3, h4⟩))
section
variable {P : Program} {ops : Array Oper} {o : Oper} {N : Nat} {f : Fl} {w : World} {R : Value -> World -> Prop} {fn : Func}
end
section
variable {P : Program} {ops : Array Oper} {o : Oper} {N : Nat} {f : Fl} {w : World}
end
def FL (s base : Nat) (rs : List (List Value)) (u : Value) (w : World) : Prop := (u = .slice none 0 0 /\ rs = [] /\ 0 < s) \/ ∃ B sp, base <= B /\ u = .slice (some ⟨B, 0, none⟩) rs.length (rs ++ sp).length /\ RwB s w B (rs ++ sp) /\ (rs = [] -> sp = [])
theorem FL.of_own {s base B : Nat} {rs : List (List Value)} {u : Value} {w : World} (h : Y5 s w u rs B) (hb : base <= B) (hn : rs ≠ []) : FL s base rs u w := by
 obtain ⟨sp, h1, h2⟩ := h.open
 exact .inr ⟨B, sp, hb, h1, h2, fun e => absurd e hn⟩
theorem FL.of_lit {s base : Nat} {u : Value} {w : World} (h : KZ s base u w) : FL s base [] u w := by
 obtain ⟨B, hb, rfl, ho⟩ := h
 obtain ⟨sp, h1, h2⟩ := ho.open
 have e : sp = [] := by
  have := congrArg (fun v : Value => match v with | .slice _ _ c => c | _ => 0) h1
  simp at this
  exact List.length_eq_zero_iff.1 this.symm
 subst e
 exact .inr ⟨B, [], hb, rfl, h2, fun _ => rfl⟩
section
variable {P : Program} {ops : Array Oper} {o : Oper} {N : Nat} {f : Fl} {w : World} {R : Value -> World -> Prop}
theorem Qfa {t s bytes base : Nat} {x y : Operand} {u v2 : Value} {news : List (List Value)} {L : List Nat} (ho : o.op = .call { callee := .builtin .append, args := #[x, y], argTypes := #[t, t] }) (ht : Hq P t s bytes = true) (hx : ev f x = some u) (hy : ev f y = some v2)
    (h : KZ s base u w) (h2 : QD s L w v2 news) (h1 : ∀ r ∈ news, ∀ u ∈ r, u.oneCell' = true) (hm : news.length <= maxLen) (hby : news.length * bytes <= 140737488355328) (hb : base <= w.heap.size) (hw : QP ops o f = some true := by rfl) : DR P ops o N f w fun u W => Below w.heap.size w W /\ FL s base news u W := fun a ha => by
  by_cases hn : news = []
  . subst hn
    obtain ⟨e, q, Z, hu, hi, hz, rfl, rfl, hzs⟩ := Y1 ht
    have hx := ha.ev hx
    have hy := ha.ev hy
    have hN := FL.of_lit h
    obtain ⟨B, hB, rfl, ho'⟩ := h
    obtain ⟨_, hl2, a2, cap2, rfl, hd1, hd2, hd3, hd4⟩ := h2
    have hr0 : (Builtin.append_ #[t, t] o.type #[.slice (some ⟨B, 0, none⟩) 0 0, .slice a2 0 cap2]).run P w = .ok (.slice (some ⟨B, 0, none⟩) 0 0) w := by
      cases a2 with
      | none => simp [Builtin.append_, run_underlying hu, sizeOf, typeInfo, hi, Builtin.lenOf, Builtin.firstCells, storeCells]
      | some a2 => simp [Builtin.append_, run_underlying hu, sizeOf, typeInfo, hi, Builtin.lenOf, Builtin.firstCells, loadCells, loadCellsFrom, storeCells]
    refine QK.of_wp (Qw ha hw) fun K hK => ?_
    unfold Oper.wp execOp
    simp only [List.length_nil] at hy
    simp only [ho, resolve, invoke, builtin, Sem.run_bind, Sem.run_pure, Result.andThen_ok, List.map_toArray, List.map_cons, List.map_nil, hx, hy, hr0]
    exact hK _ _ ⟨Below.refl _ _, hN⟩
  . exact QK.mono (Dl ho ht hx hy h h2 hm hby hb hw a ha) fun v W ⟨hb', B, hB, hO⟩ => ⟨hb', FL.of_own hO hB hn⟩
end
theorem Qao {α : Type} {enc : α -> List Value} {xs : List α} {i : Nat} {x : α} (h : xs[i]? = some x) : (xs.map enc)[i]? = some (enc x) := by rw [List.getElem?_map, h]; rfl
section
variable {P : Program} {ops : Array Oper} {o : Oper} {N : Nat} {f : Fl} {w : World}
end
section
variable {α : Type} {g : α -> Bool} {r : α -> α -> Bool} {n : Nat}
end

end Go.Proofs.YtfachlmgdlnpoaaDoor
namespace Go.Proofs.YtfachlmgdlnpoaaDoor
open Go.RowKit Go.Sort
set_option linter.unusedVariables false
set_option linter.unusedSimpArgs false
-- the order of lists of bytes
def Zv (s base : Nat) (rs : List (List Value)) (u : Value) (w : World) : Prop := (u = .slice none 0 0 /\ rs = [] /\ 0 < s) \/ ∃ B, base <= B /\ Y5 s w u rs B
theorem Zv.below {s base : Nat} {rs : List (List Value)} {u : Value} {w w' : World} (h : Zv s base rs u w) (hb : Below w.heap.size w w') : Zv s base rs u w' := by
 rcases h with h | ⟨B, h1, h2⟩
 . exact .inl h
 . exact .inr ⟨B, h1, h2.below hb⟩
theorem Zv.rd {s base : Nat} {rs : List (List Value)} {u : Value} {w : World} (h : Zv s base rs u w) {L : List Nat} (hL : ∀ x ∈ L, x < base) : QD s L w u rs := by
 rcases h with ⟨rfl, rfl, h0⟩ | ⟨B, h1, h2⟩
 . exact QD.nil h0
 . exact h2.rd (fun hx => by have := hL B hx; omega)
theorem YR.from_base {B B' base : Nat} {w w' : World} (h : YR B B' w w') (hB : base <= B) (hs : base <= w.heap.size) : Below base w w' := ⟨h.os, h.tape, h.output, h.size, fun k hk => h.block k (by omega) (by omega)⟩
section
variable {P : Program} {ops : Array Oper} {o : Oper} {N : Nat} {f : Fl} {w : World} {R : Value -> World -> Prop}
theorem V6 {t s bytes base : Nat} {x y : Operand} {u v2 : Value} {rs news : List (List Value)} {L : List Nat} (ho : o.op = .call { callee := .builtin .append, args := #[x, y], argTypes := #[t, t] }) (ht : Hq P t s bytes = true) (hx : ev f x = some u) (hy : ev f y = some v2)
    (h : Zv s base rs u w) (h2 : QD s L w v2 news) (h1 : ∀ r ∈ news, ∀ u ∈ r, u.oneCell' = true) (hm : rs.length + news.length <= maxLen) (hby : (rs.length + news.length) * bytes <= 140737488355328) (hb : base <= w.heap.size) (hw : QP ops o f = some true := by rfl) : DR P ops o N f w fun u' W => Zv s base (rs ++ news) u' W /\ Below base w W := fun a ha => by
  rcases h with ⟨rfl, rfl, h0⟩ | ⟨B, hB, hO⟩
  . by_cases hn : news = []
    . subst hn
      obtain ⟨e, q, Z, hu, hi, hz, rfl, rfl, hzs⟩ := Y1 ht
      have hx := ha.ev hx
      have hy := ha.ev hy
      obtain ⟨_, hl2, a2, cap2, rfl, hd1, hd2, hd3, hd4⟩ := h2
      have hr0 : (Builtin.append_ #[t, t] o.type #[.slice none 0 0, .slice a2 0 cap2]).run P w = .ok (.slice none 0 0) w := by
        cases a2 with
        | none => simp [Builtin.append_, run_underlying hu, sizeOf, typeInfo, hi, Builtin.lenOf, Builtin.firstCells, storeCells]
        | some a2 => simp [Builtin.append_, run_underlying hu, sizeOf, typeInfo, hi, Builtin.lenOf, Builtin.firstCells, loadCells, loadCellsFrom, storeCells]
      refine QK.of_wp (Qw ha hw) fun K hK => ?_
      unfold Oper.wp execOp
      simp only [List.length_nil] at hy
      simp only [ho, resolve, invoke, builtin, Sem.run_bind, Sem.run_pure, Result.andThen_ok, List.map_toArray, List.map_cons, List.map_nil, hx, hy, hr0]
      exact hK _ _ ⟨.inl ⟨rfl, rfl, h0⟩, Below.refl _ _⟩
    . refine QK.mono (JM (rs := []) ho ht hx hy (QD.nil (L := L) h0) h2 hn hm hby hw a ha) fun v W ⟨k1, k2, k3⟩ => ⟨.inr ⟨_, hb, k1⟩, k2.mono hb⟩
  . exact QK.mono (Vx ho ht hx hy hO h2 h1 hm hby hw a ha) fun v W ⟨B', k1, k2⟩ => ⟨.inr ⟨B', k2.le hB hb, k1⟩, k2.from_base hB hb⟩
end
end Go.Proofs.YtfachlmgdlnpoaaDoor
namespace Go.Proofs.YtfachlmgdlnpoaaDoor
open Go.RowKit
set_option linter.unusedVariables false
set_option linter.unusedSimpArgs false
set_option maxRecDepth 8000
set_option maxHeartbeats 2000000

section
variable {P : Program} {N : Nat} {sd : List (Option Tmp × VS)} {dl : List (List Nat)}
end
section
variable {P : Program} {ops : Array Oper} {o : Oper} {N : Nat} {f : Fl} {w : World}
end
section
variable {P : Program} {ops : Array Oper} {md : Region.Mode}
theorem H8 {Q : Exit -> Act -> World -> Prop} (hb : VT md ops = true) (a : Act) (G : (Nat -> Bool) -> World -> Prop) (F : H3) (R : Nat -> (Nat -> Value) -> World -> World -> Prop)
    (hF : ∀ i f w w' j g, R i f w w' -> j ≠ i -> i ∉ Xs md ops j -> F j g w -> F j g w')
    (hstep : ∀ i o, ops[i]? = some o -> ∀ L f w, L i = false -> (∀ j, i ∈ Xs md ops j -> L j = false) -> G L w -> (∀ j ∈ XJ md o, F j (Zj f (j :: Xs md ops j)) w) ->
      QK P ops o (Yl ops f (XJ md o) a) w fun v w' => R i (Zj f (XJ md o)) w w' /\ G (Ua L i true) w' /\ F i (Zj (Ua f i v) (i :: XJ md o)) w')
    (hend : ∀ L f w, (∀ j, L j = decide (j < ops.size)) -> G L w -> (∀ j, j < ops.size -> F j (Zj f (j :: Xs md ops j)) w) -> Q .normal (Yl ops f (List.range ops.size) a) w) :
    ∀ (fuel : Nat) (listed : Array Bool) (f : Nat -> Value) (a' : Act) (w : World), listed.size = ops.size -> (listed.toList.countP (fun b => !b) <= fuel) ->
      (∀ j, listed.getD j false = true -> ∀ k ∈ Xs md ops j, listed.getD k false = true) ->
      XV ops (fun j => listed.getD j false = true) f a a' -> G (fun j => listed.getD j false) w -> (∀ j, listed.getD j false = true -> F j (Zj f (j :: Xs md ops j)) w) -> wpAny P md ops Q fuel listed a' w := by
  have ho := Em hb
  have fin : ∀ (listed : Array Bool) (f : Nat -> Value) (a' : Act) (w : World), listed.size = ops.size -> Region.ready md ops listed = [] ->
      XV ops (fun j => listed.getD j false = true) f a a' -> G (fun j => listed.getD j false) w -> (∀ j, listed.getD j false = true -> F j (Zj f (j :: Xs md ops j)) w) -> Q .normal a' w := by
    intro listed f a' w hsz hr hag hg hf
    have hl := JR hb hsz hr
    have hout : ∀ j, listed.getD j false = true -> j < ops.size := by
      intro j h
      rcases Nat.lt_or_ge j ops.size with h' | h'
      . exact h'
      . simp [Array.getElem?_eq_none (by omega : listed.size <= j)] at h
    have e : a' = Yl ops f (List.range ops.size) a := by
      refine hag.unique ((XV.of ho f a (List.range ops.size)).congr (fun j => ?_) (fun _ _ => rfl))
      rw [List.mem_range]
      exact ⟨hl j, hout j⟩
    rw [e]
    refine hend _ f w (fun j => ?_) hg fun j hj => hf j (hl j hj)
    by_cases hj : j < ops.size
    . rw [hl j hj]; simp [hj]
    . have : ¬ listed.getD j false = true := fun h => hj (hout j h)
      rw [Bool.not_eq_true] at this
      rw [this]; simp [hj]
  intro fuel
  induction fuel with
  | zero =>
    intro listed f a' w hsz hc hcl hag hg hf
    have hr : Region.ready md ops listed = [] := by
      rw [List.eq_nil_iff_forall_not_mem]
      intro j hj
      obtain ⟨h0, o, hoj, _⟩ := mem_ready.1 hj
      have hjs : j < ops.size := (Array.getElem?_eq_some_iff.1 hoj).1
      have hc0 : listed.toList.countP (fun b => !b) = 0 := by omega
      rw [List.countP_eq_zero] at hc0
      have h1 := hc0 listed[j] (by simp)
      rw [Array.getD_eq_getD_getElem?, Array.getElem?_eq_getElem (by omega)] at h0
      simp only [Option.getD_some] at h0
      rw [h0] at h1
      exact h1 rfl
    exact ⟨hr, fin listed f a' w hsz hr hag hg hf⟩
  | succ fuel ih =>
    intro listed f a' w hsz hc hcl hag hg hf
    refine ⟨fun hr => fin listed f a' w hsz hr hag hg hf, fun i hi => ?_⟩
    obtain ⟨h0, o, hoi, hdep⟩ := mem_ready.1 hi
    have his : i < ops.size := (Array.getElem?_eq_some_iff.1 hoi).1
    obtain ⟨hsel, hlt, hlook⟩ := Jd hb hoi
    have hdl : ∀ j ∈ XJ md o, listed.getD j false = true := by
      intro j hj
      obtain ⟨e, he, rfl⟩ := List.mem_map.1 hj
      obtain ⟨he1, he2⟩ := List.mem_filter.1 he
      exact hdep e (by simpa using he1) he2
    have hun : ¬ listed.getD i false = true := by
      intro h
      rw [Array.getD_eq_getD_getElem?, Array.getElem?_eq_getElem (by omega)] at h0 h
      simp only [Option.getD_some] at h0 h
      rw [h0] at h
      cases h
    have hA := XV.of ho f a (XJ md o)
    have hdst : o.dst = Zr ops i := by simp [Zr, hoi]
    have hset : ∀ j, (listed.setIfInBounds i true).getD j false = Ua (fun j => listed.getD j false) i true j := by
      intro j
      unfold Ua
      by_cases e : j = i
      . subst e
        simp [Array.getD_eq_getD_getElem?, hsz, his]
      . rw [getD_set_ne false (fun h => e h.symm), if_neg e]
    refine QK.wpOp hoi hsel (a := Yl ops f (XJ md o) a) (by rw [hag.size, hA.size]) (fun t ht => ?_)
      (hstep i o hoi (fun j => listed.getD j false) f w (by simpa using hun) (fun j hj => by
        rw [<- Bool.not_eq_true]
        exact fun h => hun (hcl j h i hj)) hg fun j hj => hf j (hdl j hj)) fun v w' hR => ?_
    . by_cases hts : t < a.tmps.size
      . by_cases e : ∃ j, Zr ops j = some t
        . obtain ⟨j, hd⟩ := e
          have hj' : j < ops.size := by
            rcases Nat.lt_or_ge j ops.size with h | h
            . exact h
            . simp [Zr, Array.getElem?_eq_none h] at hd
          have hl := hlook j t hj' hd
          by_cases hjd : j ∈ XJ md o
          . rw [hag.put j t (hdl j hjd) hd hts, hA.put j t hjd hd hts]
          . have hjl : ¬ listed.getD j false = true := by
              intro hjl
              rcases hl.1 ht with h | h | h
              . exact hun (h ▸ hjl)
              . exact hjd h
              . exact hun (hcl j hjl i h)
            rw [hag.same t (fun k hk hkd => hjl (ho k j t hkd hd ▸ hk)), hA.same t (fun k hk hkd => hjd (ho k j t hkd hd ▸ hk))]
        . have hn : ∀ j, Zr ops j ≠ some t := fun j hj => e ⟨j, hj⟩
          rw [hag.same t (fun j _ => hn j), hA.same t (fun j _ => hn j)]
      . rw [Array.getElem?_eq_none (by rw [hag.size]; exact Nat.le_of_not_lt hts), Array.getElem?_eq_none (by rw [hA.size]; exact Nat.le_of_not_lt hts)]
    . obtain ⟨hR1, hR3, hR2⟩ := hR
      have hset' : ∀ j, (listed.setIfInBounds i true).getD j false = true ↔ (j = i \/ listed.getD j false = true) := by
        intro j
        rw [hset j]
        unfold Ua
        by_cases e : j = i <;> simp [e]
      rw [hdst]
      refine ih (listed.setIfInBounds i true) (Ua f i v) _ w' (by simp [hsz]) ?_ ?_ ?_ (by rw [show (fun j => (listed.setIfInBounds i true).getD j false) = Ua (fun j => listed.getD j false) i true from funext hset]; exact hR3) ?_
      . have hc2 : (listed.setIfInBounds i true).toList.countP (fun b => !b) + 1 <= listed.toList.countP (fun b => !b) := by
          rw [Array.toList_setIfInBounds]
          have hlen : i < listed.toList.length := by simpa [hsz] using his
          have hli : listed.toList[i] = false := by
            rw [Array.getD_eq_getD_getElem?, Array.getElem?_eq_getElem (by omega)] at h0
            simpa using h0
          rw [List.countP_set hlen, hli]
          have : 0 < listed.toList.countP (fun b => !b) := List.countP_pos_iff.2 ⟨false, by rw [<- hli]; exact List.getElem_mem _, rfl⟩
          simp only [Bool.not_false, Bool.not_true, if_true, Bool.false_eq_true, if_false]
          omega
        omega
      . intro j hj k hk
        rw [hset'] at hj ⊢
        rcases hj with rfl | hj
        . rw [Yn hoi] at hk
          exact .inr (hdl k hk)
        . exact .inr (hcl j hj k hk)
      . exact hag.step ho i v hset' (fun j hji _ => by simp [Ua, hji]) (by simp [Ua])
      . intro j hj
        rw [hset'] at hj
        by_cases e : j = i
        . subst e
          rw [Yn hoi]
          exact hR2
        . have hjl := hj.resolve_left e
          have hnc : (j :: Xs md ops j).contains i = false := by
            rw [<- Bool.not_eq_true, List.contains_iff_mem, List.mem_cons]
            rintro (h | h)
            . exact e h.symm
            . exact hun (hcl j hjl i h)
          rw [HE hnc]
          exact hF i _ w w' j _ hR1 e (fun h => hun (hcl j hjl i h)) (hf j hjl)
end
section
variable {P : Program} {N : Nat} {sd : List (Option Tmp × VS)} {dl : List (List Nat)} {G : Bool -> World -> Prop}
end
theorem Xc.chg {w w' : World} {B C : Nat} {cs : List Value} (h : Xc w C cs) (g : Vg B w w') (hn : C ≠ B) : Xc w' C cs := by
 obtain ⟨t, h'⟩ := h
 exact ⟨t, by rw [g.block C (Xc.lt ⟨t, h'⟩) hn]; exact h'⟩
def Y4 (w1 : World) (L : List Nat) (w : World) : Prop := Below w1.heap.size w1 w
theorem Y4.below {w1 w w' : World} {L : List Nat} (h : Y4 w1 L w) (hb : Below w.heap.size w w') : Y4 w1 L w' := Below.trans h (hb.mono (Below.size h))
section
variable {P : Program} {ops : Array Oper} {o : Oper} {N : Nat} {f : Fl} {w : World}
theorem QZ {x : Operand} {a : Addr} (ho : o.op = .nilCheck x) (hx : ev f x = some (.pointer (some a))) (hw : QP ops o f = some true := by rfl) : DV P ops o N f w (.pointer (some a)) := fun k ha => by
 have hx := ha.ev hx
 exact QK.pure (Qw ha hw) _ (by unfold execOp; simp [ho, hx, Sem.run_bind, Sem.run_pure]) ⟨rfl, rfl⟩
end
def Zk {α : Type} (z : List α) (o : Nat) (l : List α) : List α := z.take o ++ (l ++ z.drop (o + l.length))
theorem Ky {α : Type} {z l : List α} {o : Nat} (h : o + l.length <= z.length) : (Zk z o l).length = z.length := by
 unfold Zk; rw [List.length_append, List.length_append, List.length_take, List.length_drop]; omega
theorem HK {α β : Type} (g : α -> β) (z : List α) (o : Nat) (l : List α) : (Zk z o l).map g = Zk (z.map g) o (l.map g) := by
 unfold Zk; simp [List.map_take, List.map_drop]
theorem QaP {α : Type} (z : List α) (o : Nat) : Zk z o [] = z := by unfold Zk; simp
theorem QaQ {α : Type} {z l : List α} {o : Nat} {x : α} (h : o + l.length < z.length) : (Zk z o l).set (o + l.length) x = Zk z o (l ++ [x]) := by
 unfold Zk
 have h1 : (z.take o).length = o := by rw [List.length_take]; omega
 rw [List.set_append_right _ _ (by omega), h1, show o + l.length - o = l.length by omega, List.set_append_right _ _ (Nat.le_refl _), Nat.sub_self, List.append_assoc]
 congr 2
 rw [List.drop_eq_getElem_cons h, List.set_cons_zero, List.length_append, List.length_singleton, show o + l.length + 1 = o + (l.length + 1) by omega]; rfl
theorem Jj : ∀ zs : List Int, (zs.map fun z => [Value.int .u8 z]).flatten = zs.map (Value.int .u8)
 | [] => rfl
 | z :: l => by rw [List.map_cons, List.flatten_cons, Jj l]; rfl
theorem HU {α : Type} : ∀ ys : List α, (ys.map fun u => [u]).flatten = ys
 | [] => rfl
 | u :: l => by rw [List.map_cons, List.flatten_cons, HU l]; rfl
section
variable {P : Program} {ops : Array Oper} {o : Oper} {N : Nat} {f : Fl} {w : World}
theorem Jm {t t' : TypeId} {x y : Operand} {K K2 : IntKind} {m n r : Int} (ho : o.op = .binOp .shr t x y t') (hx : ev f x = some (.int K m)) (hy : ev f y = some (.int K2 n)) (hn : 0 <= n) (hn2 : n <= K.bits) (hr : m / 2 ^ n.toNat = r) (hw : QP ops o f = some true := by rfl) : DV P ops o N f w (.int K r) := fun a ha =>
 QK.shr (Qw ha hw) ho (ha.ev hx) (ha.ev hy) hn hn2 hr ⟨rfl, rfl⟩
theorem Fy {t t' : TypeId} {x y : Operand} {K K2 : IntKind} {m n r : Int} (ho : o.op = .binOp .shl t x y t') (hx : ev f x = some (.int K m)) (hy : ev f y = some (.int K2 n)) (hn : 0 <= n) (hn2 : n <= K.bits) (hr : K.wrap (m * 2 ^ n.toNat) = r) (hw : QP ops o f = some true := by rfl) : DV P ops o N f w (.int K r) := fun a ha =>
 QK.shl (Qw ha hw) ho (ha.ev hx) (ha.ev hy) hn hn2 hr ⟨rfl, rfl⟩
theorem Qec {t n c s : Nat} {a : Option Addr} {x : Operand} (ho : o.op = .call { callee := .builtin .len, args := #[x], argTypes := #[t] }) (ht : X3 P t s = true) (hx : ev f x = some (.slice a n c)) (hw : QP ops o f = some true := by rfl) : DV P ops o N f w (.int .i64 (n : Int)) := by
 obtain ⟨e, hu, _⟩ := X6 ht
 exact Hd ho hu hx hw
theorem Qed {t : TypeId} {x y : Operand} {n c B o0 o1 : Nat} {K : IntKind} {i : Int} (k : Nat) (ho : o.op = .indexAddr t x y) (ht : X3 P t 1 = true) (hx : ev f x = some (.slice (some ⟨B, o0, none⟩) n c)) (hy : ev f y = some (.int K i)) (hk : i = (k : Int)) (hi : k < n) (h1 : o0 + k = o1) (hw : QP ops o f = some true := by rfl) : DV P ops o N f w (.pointer (some ⟨B, o1, none⟩)) := fun a ha => by
 obtain ⟨e, hu, hs⟩ := X6 ht
 have hx := ha.ev hx
 have hy := ha.ev hy
 subst hk
 have hrun := JX (w := w) (n := n) (c := c) hu hs B o0 K (k : Int) (by omega) (by omega)
 refine QK.pure (Qw ha hw) _ (by unfold execOp; simp only [ho, hx, hy, Sem.run_bind, hrun, Result.andThen_ok]; rfl) ⟨?_, rfl⟩
 rw [<- h1]; simp
theorem VN {t e : TypeId} {x y z : Operand} {n B o0 : Nat} {l h : Int} (k1 k2 : Nat) (ho : o.op = .slice t x (some y) (some z) none) (hu : P.underlying t = some (.array n e)) (hs : Zh P e 1 = true) (hx : ev f x = some (.pointer (some ⟨B, o0, none⟩))) (hy : ev f y = some (.int .i64 l)) (hz : ev f z = some (.int .i64 h)) (hk1 : l = (k1 : Int)) (hk2 : h = (k2 : Int)) (h12 : k1 <= k2) (hh : k2 <= n) (hn : k1 < n) {o1 m c : Nat} (h3 : o0 + k1 = o1) (h4 : k2 - k1 = m) (h5 : n - k1 = c) (hw : QP ops o f = some true := by rfl) : DV P ops o N f w (.slice (some ⟨B, o1, none⟩) m c) := fun a ha => by
 subst hk1 hk2
 have hx := ha.ev hx
 have hy := ha.ev hy
 have hz := ha.ev hz
 obtain ⟨i, hi, hsz⟩ := Vl hs
 have e1 : (k1 : Int) <= (k2 : Int) := by omega
 have e2 : (k2 : Int) <= (n : Int) := by omega
 refine QK.pure (Qw ha hw) _ ?_ ⟨by rw [<- h3, <- h4, <- h5], rfl⟩
 unfold execOp
 simp only [ho, Option.map_none, Option.map_some, hx, hy, hz, Instr.sliceAt, Sem.run_bind, run_underlying hu, Result.andThen_ok, Instr.sureAddr, Instr.sliceBounds, Instr.sliceBound, asIntOf, Sem.run_pure, sizeOf, typeInfo, run_program, hi]
 have e3 : ¬ n = k1 := by omega
 simp [e1, e2, e3, h12, Zs, hsz]
theorem Qbd {t e : TypeId} {x y : Operand} {n B o0 : Nat} {l : Int} (k1 : Nat) (ho : o.op = .slice t x (some y) none none) (hu : P.underlying t = some (.array n e)) (hs : Zh P e 1 = true) (hx : ev f x = some (.pointer (some ⟨B, o0, none⟩))) (hy : ev f y = some (.int .i64 l)) (hk1 : l = (k1 : Int)) (hn : k1 < n) {o1 c : Nat} (h3 : o0 + k1 = o1) (h5 : n - k1 = c) (hw : QP ops o f = some true := by rfl) : DV P ops o N f w (.slice (some ⟨B, o1, none⟩) c c) := fun a ha => by
 subst hk1
 have hx := ha.ev hx
 have hy := ha.ev hy
 obtain ⟨i, hi, hsz⟩ := Vl hs
 have e1 : (k1 : Int) <= (n : Int) := by omega
 refine QK.pure (Qw ha hw) _ ?_ ⟨by rw [<- h3, <- h5], rfl⟩
 unfold execOp
 simp only [ho, Option.map_none, Option.map_some, hx, hy, Instr.sliceAt, Sem.run_bind, run_underlying hu, Result.andThen_ok, Instr.sureAddr, Instr.sliceBounds, Instr.sliceBound, asIntOf, Sem.run_pure, sizeOf, typeInfo, run_program, hi]
 have e3 : ¬ n = k1 := by omega
 simp [e1, e3, Zs, hsz]
theorem Qd7 {t s n c : Nat} {a : Option Addr} {x y : Operand} {K : IntKind} (h : Nat) {i : Int} (ho : o.op = .slice t x none (some y) none) (ht : X3 P t s = true) (hx : ev f x = some (.slice a n c)) (hy : ev f y = some (.int K i)) (hi : i = (h : Int)) (hl : h <= c) (hw : QP ops o f = some true := by rfl) :
  DV P ops o N f w (.slice a h c) := fun k ha => by
 subst hi
 obtain ⟨e, hu, hs⟩ := X6 ht
 have hx := ha.ev hx
 have hy := ha.ev hy
 cases hi : P.info? e with
 | none => rw [hi] at hs; cases hs
 | some q =>
  refine QK.pure (Qw ha hw) _ ?_ ⟨rfl, rfl⟩
  have h1 : ((h : Int) <= (c : Int)) := by omega
  have h3 : (0 : Int) <= (h : Int) := by omega
  unfold execOp
  simp only [ho, Option.map_none, Option.map_some, hx, hy, Instr.sliceAt, Sem.run_bind, run_underlying hu, Result.andThen_ok, Instr.slice, Instr.sliceBounds, Instr.sliceBound, asIntOf, Sem.run_pure, sizeOf, typeInfo, run_program, hi]
  cases a <;> simp [h1, h3, Addr.add]
theorem Qd6 {t s n c : Nat} {a : Option Addr} {x y : Operand} {K : IntKind} (l : Nat) {i : Int} (ho : o.op = .slice t x (some y) none none) (ht : X3 P t s = true) (hx : ev f x = some (.slice a n c)) (hy : ev f y = some (.int K i)) (hi : i = (l : Int)) (hl : l <= n) (hn : n <= c) (hw : QP ops o f = some true := by rfl) :
  DV P ops o N f w (.slice (a.map fun q => if c = l then q else q.add (l * s)) (n - l) (c - l)) := fun k ha => by
 subst hi
 obtain ⟨e, hu, hs⟩ := X6 ht
 have hx := ha.ev hx
 have hy := ha.ev hy
 cases hi : P.info? e with
 | none => rw [hi] at hs; cases hs
 | some q =>
  have hq : q.size = s := by simpa [hi] using hs
  refine QK.pure (Qw ha hw) _ ?_ ⟨rfl, rfl⟩
  have h1 : ((l : Int) <= (n : Int)) := by omega
  have h2 : ((n : Int) <= (c : Int)) := by omega
  have h3 : (0 : Int) <= (l : Int) := by omega
  unfold execOp
  simp only [ho, Option.map_none, Option.map_some, hx, hy, Instr.sliceAt, Sem.run_bind, run_underlying hu, Result.andThen_ok, Instr.slice, Instr.sliceBounds, Instr.sliceBound, asIntOf, Sem.run_pure, sizeOf, typeInfo, run_program, hi]
  cases a with
  | none => simp [h1, h2, h3, hq, hl]
  | some a => simp [h1, h2, h3, hq, hl]; split <;> rfl
theorem QcW {t bytes : Nat} {K : IntKind} {n0 n1 n2 n3 : Int} (ho : o.op = .buildSlice t 4 #[(0, .const (.int K n0)), (1, .const (.int K n1)), (2, .const (.int K n2)), (3, .const (.int K n3))]) (ht : Hq P t 1 bytes = true) (hw : QP ops o f = some true := by rfl) : DR P ops o N f w (Hu 1 w ([n0, n1, n2, n3].map fun n => [.int K n])) := by
 obtain ⟨e, i, Z, hu, hi, hZ, hs, rfl, hzs⟩ := Y1 ht
 have hc : ∀ v : Value, ev f (Operand.const v) = some v := fun v => rfl
 refine FB (ps := [(0, .int K n0), (1, .int K n1), (2, .int K n2), (3, .int K n3)]) (rs := [n0, n1, n2, n3].map fun n => [.int K n]) ho hu hi hZ hs (by decide) (by simp [evl, hc]) (by omega) ?_ (by simp) rfl (by unfold maxLen; omega) hw
 rw [if_neg (by decide)]
 have hl : ∀ c : Array Value, c.size = 4 -> Instr.fill (fun k => some (k * 1, 1)) c [(0, .int K n0), (1, .int K n1), (2, .int K n2), (3, .int K n3)] = some #[.int K n0, .int K n1, .int K n2, .int K n3] := fun c hc => by
  obtain ⟨l⟩ := c
  match l, hc with
  | [a, b, c, d], _ => simp [Instr.fill, Value.cells]
 exact hl _ (by simp)
theorem Qeb {t len s : Nat} {parts : Array (Nat × Operand)} {e : TypeId} {i : TypeInfo} {Z : Value} {ps : List (Nat × Value)} {rs : List (List Value)} (ho : o.op = .buildSlice t len parts) (hu : P.underlying t = some (.slice e)) (hi : P.info? e = some i) (hz : i.zero = some Z) (hs : i.size = s) (h0 : 0 < s)
  (hp : (evl f (parts.toList.map (·.2))).map (fun vs => (parts.toList.map (·.1)).zip vs) = some ps) (hlen : len * s <= 16777216)
  (hf : Instr.fill (fun k => some (k * s, s)) (if len * s = 0 then #[] else (Array.range (len * s)).map (Z.cells[· % Z.cells.size]!)) ps = some rs.flatten.toArray) (hrs : ∀ r ∈ rs, r.length = s) (hl : rs.length = len) (hm : len <= maxLen) (hw : QP ops o f = some true := by rfl) : DR P ops o N f w (fun u W => u = .slice (some ⟨w.heap.size, 0, none⟩) len len /\ Hu s w rs u W) := fun a ha => by
 have key : (parts.map fun (i, x) => (i, a.eval x)).toList = ps := by
  cases hq : evl f (parts.toList.map (·.2)) with
  | none => rw [hq] at hp; cases hp
  | some vs =>
   rw [hq] at hp
   have h1 := ha.evl hq
   simp only [Option.map_some, Option.some.injEq] at hp
   rw [<- hp, <- h1, Array.toList_map]
   clear hp h1 hq ho
   induction parts.toList with
   | nil => rfl
   | cons p l ih => simp only [List.map_cons, List.zip_cons_cons, List.cons.injEq, true_and]; exact ih
 subst hs
 have hrun := VI (w := w) hu hi hz len (parts.map fun (i, x) => (i, a.eval x)) hlen (cs := rs.flatten.toArray) (by rw [key]; exact hf)
 exact QK.of_wp (Qw ha hw) fun K hK => by
  unfold Oper.wp execOp
  simp only [ho, Sem.run_bind, hrun, Sem.run_pure, Result.andThen_ok]
  obtain ⟨n1, n2, n3⟩ := Ka w e rs.flatten
  exact hK _ _ ⟨rfl, ⟨h0, hrs, len, [], by rw [hl], by omega, hm, by simp [hl], by simpa using n1⟩, n2, n3⟩
theorem QcX {t bytes : Nat} {K : IntKind} {n0 n1 n2 : Int} (ho : o.op = .buildSlice t 3 #[(0, .const (.int K n0)), (1, .const (.int K n1)), (2, .const (.int K n2))]) (ht : Hq P t 1 bytes = true) (hw : QP ops o f = some true := by rfl) : DR P ops o N f w (fun u W => u = .slice (some ⟨w.heap.size, 0, none⟩) 3 3 /\ Hu 1 w ([n0, n1, n2].map fun n => [.int K n]) u W) := by
 obtain ⟨e, i, Z, hu, hi, hZ, hs, rfl, hzs⟩ := Y1 ht
 have hc : ∀ v : Value, ev f (Operand.const v) = some v := fun v => rfl
 refine Qeb (ps := [(0, .int K n0), (1, .int K n1), (2, .int K n2)]) (rs := [n0, n1, n2].map fun n => [.int K n]) ho hu hi hZ hs (by decide) (by simp [evl, hc]) (by omega) ?_ (by simp) rfl (by unfold maxLen; omega) hw
 rw [if_neg (by decide)]
 have hl : ∀ c : Array Value, c.size = 3 -> Instr.fill (fun k => some (k * 1, 1)) c [(0, .int K n0), (1, .int K n1), (2, .int K n2)] = some #[.int K n0, .int K n1, .int K n2] := fun c hc => by
  obtain ⟨l⟩ := c
  match l, hc with
  | [a, b, c], _ => simp [Instr.fill, Value.cells]
 exact hl _ (by simp)
theorem ZX {u v : Value} (h : DV P ops o N f w u) (e : u = v) : DV P ops o N f w v := e ▸ h
theorem Qc1 {t e B : Nat} {x : Operand} {v : Value} {rs : List (List Value)} (ho : o.op = .convert t t x) (ht : P.underlying t = some (.slice e)) (he : P.underlying e = some (.int .u8)) (hx : ev f x = some v) (hr : Y5 1 w v rs B) (hw : QP ops o f = some true := by rfl) : DR P ops o N f w fun u W => u = v /\ Yi B w W /\ ∀ L : List Nat, B ∉ L -> QD 1 L W v rs := fun a ha => by
 have hrd := fun L (hB : B ∉ L) => hr.rd (L := L) hB
 obtain ⟨h0, hl, cap, sp, rfl, h2, h3, h4, tt, h5⟩ := hr
 have hx := ha.ev hx
 have hfz : (w.freeze ⟨B, (rs.flatten ++ sp).toArray.size, none⟩ 1).heap[B]? = some (.cells (rs.flatten ++ sp).toArray tt ((rs.flatten ++ sp).toArray.size, (rs.flatten ++ sp).toArray.size + 1)) := by
  unfold World.freeze
  rw [if_neg (by decide)]
  show (w.heap.modify B _)[B]? = _
  rw [Array.getElem?_modify, if_pos rfl, h5]
  rfl
 have hon : Yi B w (w.freeze ⟨B, (rs.flatten ++ sp).toArray.size, none⟩ 1) := by
  unfold World.freeze
  rw [if_neg (by decide)]
  refine ⟨rfl, rfl, rfl, by simp, fun k hk => ?_⟩
  show (w.heap.modify B _)[k]? = _
  rw [Array.getElem?_modify, if_neg (fun e => hk e.symm)]
 have hsh : w.shape? B = some (tt, (rs.flatten ++ sp).toArray.size) := by unfold World.shape?; rw [h5]
 refine QK.of_wp (Qw ha hw) fun K hK => ?_
 unfold Oper.wp execOp
 have hrun : (convert t t (.slice (some ⟨B, 0, none⟩) rs.length cap)).run P w = .ok (.slice (some ⟨B, 0, none⟩) rs.length cap) (w.freeze ⟨B, (rs.flatten ++ sp).toArray.size, none⟩ 1) := by
  simp [convert, run_underlying ht, run_underlying he, markStringish, hsh]
 simp only [ho, hx, Sem.run_bind, hrun, Result.andThen_ok, Sem.run_pure]
 refine hK _ _ ⟨rfl, hon, fun L hB => ?_⟩
 obtain ⟨g0, g1, ad, cp, g2, g3, g4, g5, g6⟩ := hrd L hB
 refine ⟨g0, g1, ad, cp, g2, g3, g4, g5, fun hn => ?_⟩
 obtain ⟨X, q, e1, e2, e3⟩ := g6 hn
 refine ⟨X, q, e1, e2, fun j u hj => ?_⟩
 have hX : X = B := by
  injection g2 with g21
  rw [e1] at g21
  injection g21 with g22
  injection g22 with g23
  exact g23.symm
 subst hX
 have := e3 j u hj
 unfold World.cell? at this ⊢
 rw [hfz]
 rw [h5] at this
 exact this
theorem Fw {t : Nat} {x y : Operand} {K : IntKind} {L : List Nat} {v : Value} {zs : List Int} {w0 : World} (k : Nat) {i : Int} (ho : o.op = .slice t x none (some y) none) (ht : X3 P t 1 = true) (hx : ev f x = some v) (hr : QD 1 L w0 v (zs.map fun z => [Value.int .u8 z])) (hy : ev f y = some (.int K i)) (hi : i = (k : Int)) (hk : k <= zs.length) (hw : QP ops o f = some true := by rfl) :
  DR P ops o N f w fun u W => w = W /\ QD 1 L w0 u ((zs.take k).map fun z => [Value.int .u8 z]) := by
 obtain ⟨h0, h1, a, cap, rfl, h2, h3, h4, h5⟩ := hr
 rw [List.length_map] at hx h2
 refine (Qd7 k ho ht hx hy hi (by omega) hw).mono fun u W h => ?_
 obtain ⟨rfl, rfl⟩ := h
 refine ⟨rfl, h0, fun r hr => h1 r (by rw [List.map_take] at hr; exact List.mem_of_mem_take hr), a, cap, by rw [List.length_map, List.length_take]; congr 1; omega, by rw [List.length_map, List.length_take]; omega, h3, h4, fun hn => ?_⟩
 obtain ⟨X, q, e, hX, hc⟩ := h5 (fun e => hn (by rw [List.map_take, e]; simp))
 refine ⟨X, q, e, hX, fun j u hj => hc j u ?_⟩
 rw [Jj] at hj ⊢
 rw [List.map_take, List.getElem?_take] at hj
 split at hj
 . exact hj
 . cases hj
theorem Fv {t : Nat} {x y : Operand} {K : IntKind} {L : List Nat} {v : Value} {zs : List Int} {w0 : World} (k : Nat) {i : Int} (ho : o.op = .slice t x (some y) none none) (ht : X3 P t 1 = true) (hx : ev f x = some v) (hr : QD 1 L w0 v (zs.map fun z => [Value.int .u8 z])) (hy : ev f y = some (.int K i)) (hi : i = (k : Int)) (hk : k <= zs.length) (hw : QP ops o f = some true := by rfl) :
    DR P ops o N f w fun u W => w = W /\ QD 1 L w0 u ((zs.drop k).map fun z => [Value.int .u8 z]) := by
  obtain ⟨h0, h1, a, cap, rfl, h2, h3, h4, h5⟩ := hr
  rw [List.length_map] at hx h2
  refine (Qd6 k ho ht hx hy hi hk h2 hw).mono fun u W h => ?_
  obtain ⟨rfl, rfl⟩ := h
  refine ⟨rfl, h0, fun r hr => h1 r (by rw [List.map_drop] at hr; exact List.mem_of_mem_drop hr), _, cap - k, by rw [List.length_map, List.length_drop], by rw [List.length_map, List.length_drop]; omega, by omega, fun e => by have := h4 (by cases a with | none => rfl | some q => cases e); omega, fun hn => ?_⟩
  have hlt : k < zs.length := by
    rcases Nat.lt_or_ge k zs.length with h | h
    . exact h
    . exact absurd (by rw [List.drop_of_length_le h]; rfl) hn
  obtain ⟨X, q, e, hX, hc⟩ := h5 (fun e => by have := congrArg List.length e; rw [List.length_map, List.length_nil] at this; omega)
  subst e
  refine ⟨X, q + k, ?_, hX, fun j u hj => ?_⟩
  . rw [Option.map_some, if_neg (by omega), Nat.mul_one]
    congr 1
    exact Zs X q k
  . rw [Jj, List.map_drop, List.getElem?_drop] at hj
    have := hc (k + j) u (by rw [Jj]; exact hj)
    rw [<- Nat.add_assoc] at this
    exact this
theorem Qc0 {x y : Operand} {t t' : TypeId} {B o1 X o2 n c m c' q : Nat} {cs ys : List Value} (ho : o.op = .call { callee := .builtin .copy, args := #[x, y], argTypes := #[t, t'] }) (ht : X3 P t 1 = true) (hx : ev f x = some (.slice (some ⟨B, o1, none⟩) n c)) (hy : ev f y = some (.slice (some ⟨X, o2, none⟩) m c')) (hb : Xc w B cs) (hr : w.rangeAt X o2 ys) (hm : ys.length = m) (hn : o1 + n <= cs.length) (hq : Nat.min m n = q) (h1 : ∀ v ∈ ys, v.oneCell' = true) (hw : QP ops o f = some true := by rfl) :
  DR P ops o N f w fun v W => v = .int .i64 (q : Int) /\ Xc W B (Zk cs o1 (ys.take q)) /\ Yi B w W := fun a ha => by
 have hx := ha.ev hx
 have hy := ha.ev hy
 obtain ⟨e, hu, hs⟩ := X6 ht
 obtain ⟨tt, hb'⟩ := hb
 have hqm : q <= m /\ q <= n := by rw [<- hq]; exact ⟨Nat.min_le_left _ _, Nat.min_le_right _ _⟩
 cases hi : P.info? e with
 | none => rw [hi] at hs; cases hs
 | some i =>
  have hz : i.size = 1 := by simpa [hi] using hs
  have hlen : (ys.take q).length = q := by rw [List.length_take]; omega
  have hf := run_firstCells_some (P := P) w i.size q ⟨X, o2, none⟩ m c' (ys.take q) (by rw [hz, hlen]; omega) (fun j u hj => by
   rw [List.getElem?_take] at hj
   split at hj
   . rw [Zs]; exact hr j u hj
   . cases hj)
  have hst := run_storeCells_at P B o1 tt (ys.take q) 0 _ w hb' (by simp [hlen]; omega) (fun v hv => h1 v (List.mem_of_mem_take hv))
  simp only [Nat.add_zero] at hst
  rw [hlen] at hst
  have hcs : (cs.toArray.toList.take o1 ++ ys.take q ++ cs.toArray.toList.drop (o1 + q)) = Zk cs o1 (ys.take q) := by unfold Zk; rw [hlen]; simp
  rw [hcs] at hst
  exact QK.of_wp (Qw ha hw) fun K hK => by
   unfold Oper.wp execOp
   simp only [ho, resolve, invoke, builtin, Sem.run_bind, Sem.run_pure, Result.andThen_ok, List.map_toArray, List.map_cons, List.map_nil, hx, hy, Builtin.copy_, run_underlying hu, List.getElem?_toArray, List.getElem?_cons_zero, List.getElem?_cons_succ, Builtin.lenOf, hq, sizeOf, typeInfo, run_program, hi, hf, hst]
   exact hK _ _ ⟨rfl, ⟨tt, setRow_heap w B _ _ tt _ hb'⟩, Vk w B _⟩
theorem QcZ {x y : Operand} {t t' : TypeId} {B o1 n c q : Nat} {L : List Nat} {cs ys : List Value} {yv : Value} (ho : o.op = .call { callee := .builtin .copy, args := #[x, y], argTypes := #[t, t'] }) (ht : X3 P t 1 = true) (hx : ev f x = some (.slice (some ⟨B, o1, none⟩) n c)) (hy : ev f y = some yv) (hb : Xc w B cs) (hr : QD 1 L w yv (ys.map fun u => [u])) (hn : o1 + n <= cs.length) (hq : Nat.min ys.length n = q) (h1 : ∀ v ∈ ys, v.oneCell' = true) (hw : QP ops o f = some true := by rfl) :
    DR P ops o N f w fun v W => v = .int .i64 (q : Int) /\ Xc W B (Zk cs o1 (ys.take q)) /\ Yi B w W := fun a ha => by
  obtain ⟨_, _, ad, cap, rfl, h3, h4, h5, h6⟩ := hr
  rw [List.length_map] at hy h3
  have hx := ha.ev hx
  have hy := ha.ev hy
  obtain ⟨e, hu, hs⟩ := X6 ht
  obtain ⟨tt, hb'⟩ := hb
  have hqm : q <= ys.length /\ q <= n := by rw [<- hq]; exact ⟨Nat.min_le_left _ _, Nat.min_le_right _ _⟩
  cases hi : P.info? e with
  | none => rw [hi] at hs; cases hs
  | some i =>
    have hz : i.size = 1 := by simpa [hi] using hs
    have hlen : (ys.take q).length = q := by rw [List.length_take]; omega
    have hfl : (ys.map fun u => [u]).flatten = ys := HU ys
    have hf : (Builtin.firstCells i.size q (.slice ad ys.length cap)).run P w = .ok (ys.take q).toArray w := by
      by_cases hne : ys = []
      . subst hne
        cases ad with
        | none => rw [run_firstCells_none]; simp
        | some ad => exact run_firstCells_some (P := P) w i.size q ad 0 cap _ (by have hq0 : q = 0 := (Nat.le_zero.1 hqm.1); rw [hq0]; simp) (fun j u hj => by simp at hj)
      . obtain ⟨X, o2, e2, _, hc⟩ := h6 (by simpa using hne)
        subst e2
        rw [hfl] at hc
        exact run_firstCells_some (P := P) w i.size q ⟨X, o2, none⟩ ys.length cap (ys.take q) (by rw [hz, hlen]; omega) (fun j u hj => by
          rw [List.getElem?_take] at hj
          split at hj
          . rw [Zs]; exact hc j u hj
          . cases hj)
    have hst := run_storeCells_at P B o1 tt (ys.take q) 0 _ w hb' (by simp [hlen]; omega) (fun v hv => h1 v (List.mem_of_mem_take hv))
    simp only [Nat.add_zero] at hst
    rw [hlen] at hst
    have hcs : (cs.toArray.toList.take o1 ++ ys.take q ++ cs.toArray.toList.drop (o1 + q)) = Zk cs o1 (ys.take q) := by unfold Zk; rw [hlen]; simp
    rw [hcs] at hst
    exact QK.of_wp (Qw ha hw) fun K hK => by
      unfold Oper.wp execOp
      simp only [ho, resolve, invoke, builtin, Sem.run_bind, Sem.run_pure, Result.andThen_ok, List.map_toArray, List.map_cons, List.map_nil, hx, hy, Builtin.copy_, run_underlying hu, List.getElem?_toArray, List.getElem?_cons_zero, List.getElem?_cons_succ, Builtin.lenOf, hq, sizeOf, typeInfo, run_program, hi, hf, hst]
      exact hK _ _ ⟨rfl, ⟨tt, setRow_heap w B _ _ tt _ hb'⟩, Vk w B _⟩
theorem Qd3 {s : Nat} {rs : List (List Value)} {r : List Value} {k j : Nat} {u : Value} (h : ∀ r ∈ rs, r.length = s) (hi : rs[k]? = some r) (hj : r[j]? = some u) : rs.flatten[k * s + j]? = some u := by
 have h1 := UZ h hi
 have hjs : j < s := by
  have := (List.getElem?_eq_some_iff.1 hj).1
  rw [h r (List.mem_of_getElem? hi)] at this
  exact this
 rw [<- h1, List.getElem?_take, if_pos hjs, List.getElem?_drop] at hj
 exact hj
theorem HR {s : Nat} : ∀ {rs : List (List Value)} {r : List Value} {k j : Nat} {u : Value}, (∀ r ∈ rs, r.length = s) -> rs[k]? = some r -> j < s -> rs.flatten.set (k * s + j) u = (rs.set k (r.set j u)).flatten
 | r0 :: rs, r, 0, j, u, h, hi, hj => by
  simp only [List.getElem?_cons_zero, Option.some.injEq] at hi
  subst hi
  have hl := h r0 (.head _)
  rw [Nat.zero_mul, Nat.zero_add, List.flatten_cons, List.set_append_left _ _ (by omega), List.set_cons_zero, List.flatten_cons]
 | r0 :: rs, r, k + 1, j, u, h, hi, hj => by
  have hl := h r0 (.head _)
  have ih := HR (rs := rs) (k := k) (u := u) (fun r hr => h r (.tail _ hr)) (by simpa using hi) hj
  rw [List.flatten_cons, List.set_append_right _ _ (by rw [hl, Nat.succ_mul]; omega), hl, show (k + 1) * s + j - s = k * s + j by rw [Nat.succ_mul]; omega, ih, List.set_cons_succ, List.flatten_cons]
theorem HX {t s B k j o0 : Nat} {x : Operand} {v u : Value} {rs : List (List Value)} {r : List Value} (ho : o.op = .load t x) (ht : J9 P t = true) (hx : ev f x = some (.pointer (some ⟨B, o0, none⟩))) (hr : Y5 s w v rs B) (hk : k * s + j = o0) (hi : rs[k]? = some r) (hj : r[j]? = some u) (hw : QP ops o f = some true := by rfl) : DV P ops o N f w u := by
 obtain ⟨h0, hl, cap, sp, rfl, h2, h3, h4, h5⟩ := hr
 refine Qi ho ht hx (h5.cell (k := o0) ?_) hw
 have h6 := Qd3 hl hi hj
 rw [<- hk, List.getElem?_append_left (List.getElem?_eq_some_iff.1 h6).1]
 exact h6
theorem Ha {t s B k j o0 : Nat} {x y : Operand} {V v : Value} {rs : List (List Value)} {r : List Value} (ho : o.op = .store t x y) (ht : Zh P t 1 = true) (hx : ev f x = some (.pointer (some ⟨B, o0, none⟩))) (hy : ev f y = some V) (hV : V.oneCell' = true) (hr : Y5 s w v rs B) (hk : k * s + j = o0) (hi : rs[k]? = some r) (hj : j < s) (hw : QP ops o f = some true := by rfl) : DR P ops o N f w fun _ W => Y5 s W v (rs.set k (r.set j V)) B /\ Yi B w W := by
  obtain ⟨h0, hl, cap, sp, rfl, h2, h3, h4, h5⟩ := hr
  have hlt := (List.getElem?_eq_some_iff.1 hi).1
  have hrl := hl r (List.mem_of_getElem? hi)
  have hlen : k * s + j < rs.flatten.length := by
    rw [ZI hl]
    have : (k + 1) * s <= rs.length * s := Nat.mul_le_mul_right _ hlt
    rw [Nat.succ_mul] at this
    omega
  refine (Qh (cs' := (rs.set k (r.set j V)).flatten ++ sp) ho ht hx hy (Ux hV) (VY hV Qk) h5 rfl (by rw [List.length_append]; omega) ?_ hw).mono fun _ W h => ⟨⟨h0, fun r' hr' => ?_, cap, sp, by rw [List.length_set], by rw [List.length_set]; exact h2, h3, by rw [List.length_set]; exact h4, h.1⟩, h.2⟩
  . rw [<- HR hl hi hj, <- hk, <- List.set_append_left _ _ hlen, List.set_eq_take_append_cons_drop, if_pos (by rw [List.length_append]; omega)]
    rfl
  . rcases List.mem_or_eq_of_mem_set hr' with h | h
    . exact hl r' h
    . rw [h, List.length_set]; exact hrl
end
theorem Vg.toBelow {B : Nat} {w0 w w' : World} (g : Vg B w w') (hb : Below w0.heap.size w0 w) (hB : w0.heap.size <= B) : Below w0.heap.size w0 w' :=
 ⟨by rw [g.os, hb.os], by rw [g.tape, hb.tape], by rw [g.output, hb.output], Nat.le_trans hb.size g.size, fun k hk => by rw [g.block k (Nat.lt_of_lt_of_le hk hb.size) (by omega), hb.block k hk]⟩
theorem Up.of_chg {L : List Nat} {B : Nat} {w w' : World} (h : Vg B w w') (hB : B ∈ L) : Up L w w' := ⟨h.size, fun k hk hlt => h.block k hlt (fun e => hk (e ▸ hB))⟩
theorem QD.chgL {s : Nat} {L : List Nat} {w w' : World} {v : Value} {rs : List (List Value)} (h : QD s L w v rs) {B : Nat} (g : Vg B w w') (hB : B ∈ L) : QD s L w' v rs := h.agree (.of_chg g hB)
theorem LL.chg {L : List Nat} {w w' : World} (h : LL L w) {B : Nat} (g : Vg B w w') : LL L w' := fun x hx => Nat.lt_of_lt_of_le (h x hx) g.size
theorem Y5.chgL {s : Nat} {w w' : World} {v : Value} {rs : List (List Value)} {C B : Nat} (h : Y5 s w v rs C) (g : Vg B w w') (hn : C ≠ B) : Y5 s w' v rs C := by
 obtain ⟨h0, hl, cap, sp, h1, h2, h3, h4, h5⟩ := h
 exact ⟨h0, hl, cap, sp, h1, h2, h3, h4, h5.chg g hn⟩
section
variable {P : Program} {ops : Array Oper} {o : Oper} {N : Nat} {f : Fl} {w : World} {R : Value -> World -> Prop} {fn : Func}
theorem Kk {B : Nat} {w0 : World} (h : fn.results = #[]) (hR : R (.tuple #[]) w) (hb : Vg B w0 w) {a : Act} (ha : Fr N a f) : Qd4 P fn R B w0 a w := by
 obtain ⟨x, v, hv, v', he, h1, h2⟩ := fn0 (P := P) (Rr := fun e w' => ∃ v, e = .returned v /\ R v w' /\ Vg B w0 w') h ⟨_, rfl, hR, hb⟩ ha
 cases he
 exact ⟨x, _, hv, h1, h2⟩
theorem UD {B : Nat} {w0 : World} {r0 r1 : ResultVar} {v0 v1 : Value} (h : fn.results = #[r0, r1]) (h0 : RV P f w r0 v0) (h1 : RV P f w r1 v1) (hR : R (.tuple #[v0, v1]) w) (hb : Vg B w0 w) {a : Act} (ha : Fr N a f) : Qd4 P fn R B w0 a w := by
 obtain ⟨x, v, hv, v', he, h1, h2⟩ := fn2 (Rr := fun e w' => ∃ v, e = .returned v /\ R v w' /\ Vg B w0 w') h h0 h1 ⟨_, rfl, hR, hb⟩ ha
 cases he
 exact ⟨x, _, hv, h1, h2⟩
theorem U0 {F : FuncId} {fn : Func} {xs : List Operand} {ts : Array TypeId} {vs : List Value} {B : Nat} (ho : o.op = .call { callee := .value (.func F), args := xs.toArray, argTypes := ts }) (hf : P.funcs[F]? = some fn) (hn : (fn.name == "runtime.NumGoroutine") = false) (hb : fn.body.isNone = false)
  (hx : evl f xs = some vs) (hc : CW P F vs w B R) (hw : QP ops o f = some true := by rfl) : DR P ops o N f w fun v W => R v W /\ Vg B w W :=
 FD (cap := #[]) ho rfl hf hn hb hx (by rw [Array.append_empty]; exact Calls.mono hc fun e w' ⟨v, he, h⟩ => ⟨v, he, h⟩) hw
end
theorem JJ (x y n : Nat) (hx : x % 2 ^ n = 0) (hy : y < 2 ^ n) : x ||| y = x + y := by
 have hx' : x = (x / 2 ^ n) <<< n := by
  rw [Nat.shiftLeft_eq]
  have := Nat.div_add_mod x (2 ^ n)
  rw [hx, Nat.add_zero, Nat.mul_comm] at this
  exact this.symm
 rw [hx', <- Nat.shiftLeft_add_eq_or_of_lt hy]
theorem Gw (x y : Int) (n : Nat) (hx0 : 0 <= x) (hx1 : x < 18446744073709551616) (hx : x % 2 ^ n = 0) (hy0 : 0 <= y) (hy1 : y < 2 ^ n) (hy2 : y < 18446744073709551616) : bits .or .u64 x y = x + y := by
 obtain ⟨a, rfl⟩ := Int.eq_ofNat_of_zero_le hx0
 obtain ⟨b, rfl⟩ := Int.eq_ofNat_of_zero_le hy0
 rw [u64_or_nat a b (by omega) (by omega), JJ a b n (by exact_mod_cast hx) (by exact_mod_cast hy1)]
 rfl
theorem KO (x : Int) : IntKind.u64.wrap x = x % 18446744073709551616 := IntKind.wrap_u64 x
abbrev Z0 (l : List Int) : Prop := ∀ x ∈ l, 0 <= x /\ x <= 255
def ZG (k : Nat) (n : Int) : List Int := (List.range k).map fun i => n / 2 ^ (8 * i) % 256
theorem Xp (k : Nat) (n : Int) : (ZG k n).length = k := by unfold ZG; simp
theorem Gf (k : Nat) (n : Int) : ZG (k + 1) n = ZG k n ++ [n / 2 ^ (8 * k) % 256] := by unfold ZG; rw [List.range_succ, List.map_append]; rfl
theorem KE (k : Nat) (n : Int) : Z0 (ZG k n) := fun x hx => by
 obtain ⟨i, _, rfl⟩ := List.mem_map.1 hx
 omega
def Zg : List Int -> Int
 | [] => 0
 | b :: l => b + 256 * Zg l
theorem QaO (k : Nat) : (2 : Int) ^ (8 * k) = 256 ^ k := by rw [Int.pow_mul]; rfl
theorem UP : ∀ (l : List Int) (b : Int), Zg (l ++ [b]) = Zg l + b * 2 ^ (8 * l.length)
 | [], b => by simp [Zg]
 | a :: l, b => by
  rw [List.cons_append, Zg, Zg, UP l b, List.length_cons, QaO, QaO, Int.pow_succ, Int.mul_add, <- Int.mul_assoc b, Int.mul_comm _ 256]
  omega
theorem Ur : ∀ (l : List Int), Z0 l -> 0 <= Zg l /\ Zg l < 2 ^ (8 * l.length)
 | [], _ => by simp [Zg]
 | b :: l, h => by
  have h1 := h b (.head _)
  have h2 := Ur l fun x hx => h x (.tail _ hx)
  rw [QaO] at h2
  rw [Zg, List.length_cons, QaO, Int.pow_succ]
  omega
def X9 (l : List Int) : Int := IntKind.i64.wrap (Zg l)
theorem Qbx (n : Int) : IntKind.i64.wrap n = if 9223372036854775808 <= n % 18446744073709551616 then n % 18446744073709551616 - 18446744073709551616 else n % 18446744073709551616 := by
 unfold IntKind.wrap
 simp only [show IntKind.i64.signed = true from rfl, Bool.true_and, show IntKind.i64.bits = 64 from rfl, decide_eq_true_eq]
 rfl
theorem Qct (n : Int) : BitVec.ofInt 64 (IntKind.i64.wrap n) = BitVec.ofInt 64 n := by
 apply BitVec.eq_of_toNat_eq
 rw [BitVec.toNat_ofInt, BitVec.toNat_ofInt, Qbx]
 congr 1
 show _ % (18446744073709551616 : Int) = n % (18446744073709551616 : Int)
 split <;> omega
theorem EE (a b : Int) : bits BinOp.or IntKind.i64 a (IntKind.i64.wrap b) = IntKind.i64.wrap (bits BinOp.or IntKind.u64 a b) := by
 have e : ∀ m : Nat, m < 18446744073709551616 -> IntKind.u64.wrap (m : Int) = (m : Int) := fun m h => Uq (by omega)
 show IntKind.i64.wrap (((BitVec.ofInt 64 a ||| BitVec.ofInt 64 (IntKind.i64.wrap b)).toNat : Nat) : Int) = IntKind.i64.wrap (IntKind.u64.wrap (((BitVec.ofInt 64 a ||| BitVec.ofInt 64 b).toNat : Nat) : Int))
 rw [Qct, e _ (BitVec.isLt _)]
theorem QeO {a b : Int} {i : Nat} (hi : i <= 7) (h0 : 0 <= a) (ha : a < 2 ^ (8 * i)) (hb : 0 <= b /\ b <= 255) : bits BinOp.or IntKind.i64 (IntKind.i64.wrap a) (IntKind.i64.wrap (b * 2 ^ (8 * i))) = IntKind.i64.wrap (a + b * 2 ^ (8 * i)) := by
 have hp : (2 : Int) ^ (8 * i) <= 72057594037927936 := by
  match i, hi with
  | 0, _ => decide | 1, _ => decide | 2, _ => decide | 3, _ => decide | 4, _ => decide | 5, _ => decide | 6, _ => decide | 7, _ => decide
 have hpp : (0 : Int) < 2 ^ (8 * i) := Int.pow_pos (by decide)
 have hm : b * 2 ^ (8 * i) <= 255 * 72057594037927936 := Int.mul_le_mul hb.2 hp (by omega) (by decide)
 have hn : 0 <= b * 2 ^ (8 * i) := Int.mul_nonneg hb.1 (by omega)
 rw [Qm (x := a) (by omega), EE]
 congr 1
 have := Gw (b * 2 ^ (8 * i)) a (8 * i) hn (by omega) (Int.mul_emod_left _ _) h0 ha (by omega)
 rw [show bits BinOp.or IntKind.u64 a (b * 2 ^ (8 * i)) = bits BinOp.or IntKind.u64 (b * 2 ^ (8 * i)) a from by simp only [bits, BitVec.or_comm], this]
 omega
theorem QcL {l : List Int} {i : Nat} {b : Int} (hl : l.length <= 8) (hB : Z0 l) (hb : l[i]? = some b) : bits BinOp.or IntKind.i64 (X9 (l.take i)) (IntKind.i64.wrap (b * 2 ^ (8 * i))) = X9 (l.take (i + 1)) := by
 obtain ⟨hlt, he⟩ := List.getElem?_eq_some_iff.1 hb
 have ht : (l.take i).length = i := by rw [List.length_take]; omega
 have h1 := Ur (l.take i) fun x hx => hB x (List.mem_of_mem_take hx)
 rw [ht] at h1
 unfold X9
 rw [QeO (by omega) h1.1 h1.2 (hB b (List.mem_of_getElem? hb)), List.take_add_one, hb]
 show _ = IntKind.i64.wrap (Zg (l.take i ++ [b]))
 rw [UP, ht]
theorem Js (n : Int) : IntKind.u8.wrap n = n % 256 := by
 unfold IntKind.wrap
 simp only [show IntKind.u8.signed = false from rfl, Bool.false_and, show IntKind.u8.bits = 8 from rfl]
 rfl
theorem Qcb {z : List Int} {o0 i : Nat} {n : Int} (h : o0 + i < z.length) : (Qr (Zk z o0 (ZG i n))).take (o0 + i) ++ ([Value.int .u8 (n / 2 ^ (8 * i) % 256)] ++ (Qr (Zk z o0 (ZG i n))).drop (o0 + i + 1)) = Qr (Zk z o0 (ZG (i + 1) n)) := by
 have e := QaQ (z := z) (l := ZG i n) (o := o0) (x := n / 2 ^ (8 * i) % 256) (by rw [Xp]; omega)
 rw [Xp, <- Gf] at e
 rw [<- e, List.set_eq_take_append_cons_drop, if_pos (by rw [Ky (by rw [Xp]; omega)]; omega)]
 simp [Qr, List.map_take, List.map_drop]
theorem QaM {z : List Int} {sp : List Value} {o0 i : Nat} {n : Int} (h : o0 + i < z.length) : (Qr (Zk z o0 (ZG i n)) ++ sp).take (o0 + i) ++ ([Value.int .u8 (n / 2 ^ (8 * i) % 256)] ++ (Qr (Zk z o0 (ZG i n)) ++ sp).drop (o0 + i + 1)) = Qr (Zk z o0 (ZG (i + 1) n)) ++ sp := by
 have hl : (Qr (Zk z o0 (ZG i n))).length = z.length := by rw [Qo, Ky (by rw [Xp]; omega)]
 rw [List.take_append_of_le_length (by omega), List.drop_append_of_le_length (by omega), <- Qcb h]
 simp only [List.append_assoc]
set_option maxHeartbeats 1000000 in
theorem Qeq (z : List Int) (sp : List Value) (o0 k c : Nat) (n : Int) (P : Nat) (w : World) (L : List Nat) (hL : LL L w) (hPL : P ∈ L) (hp : Xc w P (Qr (Zk z o0 (ZG 0 n)) ++ sp))  (ho : o0 + k <= z.length) (hk8 : k <= 8) : CW Tryd.prog 75 [.slice (some ⟨P, o0, none⟩) k c, .int .i64 n] w P fun v W => v = .tuple #[] /\ Xc W P (Qr (Zk z o0 (ZG k n)) ++ sp) := by
 refine Kl (N := 19) (f := [(0, .slice (some ⟨P, o0, none⟩) k c), (1, .int .i64 n)]) Tryd.func75 rfl rfl rfl rfl fun Q hQ hE => ?_
 have hB := Vg.refl P w
 have hL0 := hL
 refine Sq fun K1 hK1 => (Rg (Pu rfl (Va (Qec rfl QH rfl) rfl rfl (Pu rfl (Ni (hK1 (WC.block ?_)))))))
 refine WC.loop (fun (i : Nat) => [(0, .slice (some ⟨P, o0, none⟩) k c), (1, .int .i64 n), (5, .slice (some ⟨P, o0, none⟩) k c), (6, .int .i64 (k : Int)), (7, .int .i64 (i : Int))]) (fun (i : Nat) W => i <= k /\ Vg P w W /\ LL (L) W /\ Xc W P (Qr (Zk z o0 (ZG i n)) ++ sp)) (fun (i : Nat) => k - i) 0 (by repeat first | exact trivial | refine aR ?_ | refine aI (by omega) ?_) ⟨Nat.zero_le _, hB, hL, hp⟩ ?_
 clear hp hB hL
 rintro K2 i W3 ⟨hi, hB, hL, hp⟩ hK2
 refine Sq fun K4 hK4 => (Rg (Va (Xe rfl rfl rfl) rfl rfl (Ni (hK4 (Sq fun K5 hK5 => ?_)))))
 refine WC.cond rfl (fun c6 => ?_) (fun c6 => ?_)
 .
  replace c6 := dT c6
  refine WC.skip (hK5 (Sq fun K7 hK7 => (WC.block (Sq fun K8 hK8 => (Rg (Pu rfl (Pu rfl ?_)))))))
  refine Ni (hK8 (Rg (Pu rfl (Pu rfl (Pu rfl (Pu rfl (Va (VO (r := 8 * (i : Int)) rfl rfl rfl (by rw [Qm (by omega)])) rfl rfl ?_)))))))
  refine Va (Jm (r := n / 2 ^ (8 * i)) rfl rfl rfl (by omega) (by show _ <= (64 : Int); omega) (by rw [show (8 * (i : Int)).toNat = 8 * i by omega])) rfl rfl (Va (XP (r := n / 2 ^ (8 * i) % 256) rfl Tryd.underlying3 Tryd.underlying5 rfl (Js _)) rfl rfl (Va (Qed (o1 := o0 + i) i rfl QH rfl rfl rfl (by omega) rfl) rfl rfl ?_))
  refine WL.do (Qh (cs' := Qr (Zk z o0 (ZG (i + 1) n)) ++ sp) (vs := [.int .u8 (n / 2 ^ (8 * i) % 256)]) rfl QA rfl rfl rfl (oC rfl Qk) hp rfl (by rw [List.length_append, Qo, Ky (by rw [Xp]; omega)]; omega) (QaM (by omega))) rfl ?_
  rintro _ W9 ⟨k11, o10⟩
  clear hp
  replace hB := Vg.only hB o10 (.inl rfl)
  replace hL := LL.only hL o10
  refine Ni (hK7 (Rg (Va (QR (r := (i : Int) + 1) rfl rfl rfl (Qm (by omega))) rfl rfl (Pu rfl (Ni ?_)))))
  exact hK2 (i + 1) ⟨(by omega), hB, hL, k11⟩ (by omega) (by repeat first | exact trivial | refine aR ?_ | refine aI (by omega) ?_)
 .
  replace c6 := dF c6
  refine WC.exit ?_
  intro a_ ha_
  exact hE (Kk rfl  ⟨rfl, (show i = k by omega) ▸ hp⟩ hB ha_)

abbrev Vw (zs : List Int) : List (List Value) := zs.map fun x => [Value.int .u8 x]
set_option maxHeartbeats 1000000 in
theorem QcK (zs : List Int) (zv : Value) (w : World) (L : List Nat) (hL : LL L w) (h1 : QD 1 L w zv (Vw zs))  (hby : Z0 zs) (h8 : zs.length <= 8) : CV Tryd.prog 78 [zv] w fun v W => v = .int .i64 (X9 zs) := by
 refine QN (N := 22) (f := [(0, zv)]) Tryd.func78 rfl rfl rfl rfl fun Q hQ hE => ?_
 have hB := Below.refl w.heap.size w
 refine Sq fun K1 hK1 => (Rg (Pu rfl (Ni (hK1 (Sq fun K2 hK2 => (Rg (Pu rfl ?_)))))))
 refine Ni (hK2 (Sq fun K3 hK3 => (Sq fun K4 hK4 => (Rg (Pu rfl (Va (QT rfl QH rfl h1) rfl rfl (Pu rfl ?_)))))))
 refine Ni (hK4 (WC.block ?_))
 refine WC.loop (fun (i : Nat) => [(0, zv), (2, .int .i64 0), (5, zv), (6, .int .i64 (zs.length : Int)), (7, .int .i64 (i : Int)), (3, .int .i64 (X9 (zs.take i)))]) (fun (i : Nat) W => i <= zs.length /\ Below w.heap.size w W /\ LL (L) W /\ QD 1 (L) W zv (Vw zs)) (fun (i : Nat) => zs.length - i) 0 (by repeat first | exact trivial | refine aR ?_ | refine aI (by omega) ?_) ⟨Nat.zero_le _, hB, hL, h1⟩ ?_
 clear h1 hB hL
 rintro K5 i W6 ⟨hi, hB, hL, h1⟩ hK5
 refine Sq fun K7 hK7 => (Rg (Va (Xe rfl rfl rfl) rfl rfl (Ni (hK7 (Sq fun K8 hK8 => ?_)))))
 refine WC.cond rfl (fun c9 => ?_) (fun c9 => ?_)
 .
  replace c9 := dT c9
  refine WC.skip (hK8 (Sq fun K10 hK10 => (WC.block (Sq fun K11 hK11 => (Rg (Pu rfl (Pu rfl ?_)))))))
  refine Ni (hK11 ?_)
  obtain ⟨r12, e13⟩ : ∃ x, zs[i]? = some x := ⟨_, List.getElem?_eq_getElem (by omega)⟩
  have hbb := hby r12 (List.mem_of_getElem? e13)
  refine Rg (Pu rfl (Pu rfl (Pu rfl ?_)))
  refine Ge (XH i rfl QH rfl rfl h1 (by omega) (XG (enc := fun x => [Value.int .u8 x]) e13)) rfl rfl ?_
  rintro u14 _ ⟨rfl, p15⟩
  refine Va (Zn rfl X1 rfl p15) rfl rfl (Va (XP (r := r12) rfl Tryd.underlying5 Tryd.underlying3 rfl (Qm (by omega))) rfl rfl (Pu rfl (Va (VO (r := 8 * (i : Int)) rfl rfl rfl (by rw [Qm (by omega)])) rfl rfl (Va (Fy (r := IntKind.i64.wrap (r12 * 2 ^ (8 * i))) rfl rfl rfl (by omega) (by show _ <= (64 : Int); omega) (by rw [show (8 * (i : Int)).toNat = 8 * i by omega])) rfl rfl (Va (Jn (r := X9 (zs.take (i + 1))) rfl rfl rfl (QcL (by omega) hby e13)) rfl rfl (Pu rfl (Ni ?_)))))))
  refine hK10 (Rg (Va (QR (r := (i : Int) + 1) rfl rfl rfl (Qm (by omega))) rfl rfl (Pu rfl (Ni ?_))))
  exact hK5 (i + 1) ⟨(by omega), hB, hL, h1⟩ (by omega) (by repeat first | exact trivial | refine aR ?_ | refine aI (by omega) ?_)
 .
  replace c9 := dF c9
  refine WC.exit ?_
  refine hK3 (Sq fun K16 hK16 => (Rg (Pu rfl (Pu rfl (Ni (hK16 ?_))))))
  exact WC.ret fun a_ ha_ => hQ (QI rfl (.tmp rfl) (by rw [List.take_of_length_le (by omega)]) hB ha_)

def Jq (x : Int) : Prop := 0 <= x /\ x < 18446744073709551616
theorem Qbj (op : BinOp) (a b : Int) : Jq (bits op .u64 a b) := by
 have h := bits_within op .u64 a b
 have h1 : IntKind.min .u64 = 0 := by decide
 have h2 : IntKind.max .u64 = 18446744073709551616 - 1 := by decide
 rw [h1, h2] at h
 unfold Jq
 omega
def X8 (x s : Int) : Int := bits BinOp.or .u32 (x * 2 ^ s.toNat % 4294967296) (x / 2 ^ (32 - s).toNat)
def Zo (x : Int) : Prop := 0 <= x /\ x < 4294967296
theorem ZZ (op : BinOp) (a b : Int) : Zo (bits op .u32 a b) := by
 have h := bits_within op .u32 a b
 have h1 : IntKind.min .u32 = 0 := by decide
 have h2 : IntKind.max .u32 = 4294967296 - 1 := by decide
 rw [h1, h2] at h
 unfold Zo
 omega
theorem Yx (x k : Int) (w : World) (hx : Zo x) (s : Int) (hs : bits BinOp.and .u64 (IntKind.u64.wrap k) 31 = s) (h0 : 0 <= s) (h1 : s < 32) :
  Calls Tryd.prog 87 #[.int .u32 x, .int .i64 k] w fun e w' => e = .returned (.int .u32 (X8 x s)) /\ w' = w := by
 obtain ⟨hx0, hx1⟩ := hx
 go_enter Tryd.func87, Tryd.ntmps87
 go_wp2
 go_ret
 exact ⟨rfl, rfl⟩
def U3 (x : Int) : Int := bits BinOp.xor .u32 (bits BinOp.xor .u32 (X8 x 30) (X8 x 19)) (X8 x 10)
theorem Qdc (x : Int) (w : World) (hx : Zo x) : Calls Tryd.prog 86 #[.int .u32 x] w fun e w' => e = .returned (.int .u32 (U3 x)) /\ w' = w := by
 have hx' := hx
 obtain ⟨hx0, hx1⟩ := hx'
 go_enter Tryd.func86, Tryd.ntmps86
 go_wp2_with (first
  | (go_at_call 87; first | (with_reducible refine (Yx x (-2) _ hx 30 (by decide) (by decide) (by decide)).mono ?_; rintro e w1 ⟨rfl, rfl⟩) | (with_reducible refine (Yx x (-13) _ hx 19 (by decide) (by decide) (by decide)).mono ?_; rintro e w2 ⟨rfl, rfl⟩) | (with_reducible refine (Yx x (-22) _ hx 10 (by decide) (by decide) (by decide)).mono ?_; rintro e w3 ⟨rfl, rfl⟩)))
 go_ret
 exact ⟨rfl, rfl⟩
def VQ (x : Int) : Int := bits BinOp.xor .u32 (bits BinOp.xor .u32 (X8 x 26) (X8 x 21)) (X8 x 7)
theorem Qdb (x : Int) (w : World) (hx : Zo x) : Calls Tryd.prog 88 #[.int .u32 x] w fun e w' => e = .returned (.int .u32 (VQ x)) /\ w' = w := by
 have hx' := hx
 obtain ⟨hx0, hx1⟩ := hx'
 go_enter Tryd.func88, Tryd.ntmps88
 go_wp2_with (first
  | (go_at_call 87; first | (with_reducible refine (Yx x (-6) _ hx 26 (by decide) (by decide) (by decide)).mono ?_; rintro e w1 ⟨rfl, rfl⟩) | (with_reducible refine (Yx x (-11) _ hx 21 (by decide) (by decide) (by decide)).mono ?_; rintro e w2 ⟨rfl, rfl⟩) | (with_reducible refine (Yx x (-25) _ hx 7 (by decide) (by decide) (by decide)).mono ?_; rintro e w3 ⟨rfl, rfl⟩)))
 go_ret
 exact ⟨rfl, rfl⟩
def VL (x : Int) : Int := bits BinOp.xor .u32 (bits BinOp.xor .u32 (X8 x 25) (X8 x 14)) (x / 8)
theorem QcB (x : Int) (w : World) (hx : Zo x) : Calls Tryd.prog 89 #[.int .u32 x] w fun e w' => e = .returned (.int .u32 (VL x)) /\ w' = w := by
 have hx' := hx
 obtain ⟨hx0, hx1⟩ := hx'
 go_enter Tryd.func89, Tryd.ntmps89
 go_wp2_with (first
  | (go_at_call 87; first | (with_reducible refine (Yx x (-7) _ hx 25 (by decide) (by decide) (by decide)).mono ?_; rintro e w1 ⟨rfl, rfl⟩) | (with_reducible refine (Yx x (-18) _ hx 14 (by decide) (by decide) (by decide)).mono ?_; rintro e w2 ⟨rfl, rfl⟩)))
 go_ret
 exact ⟨rfl, rfl⟩
def Uz (x : Int) : Int := bits BinOp.xor .u32 (bits BinOp.xor .u32 (X8 x 15) (X8 x 13)) (x / 1024)
theorem QcA (x : Int) (w : World) (hx : Zo x) : Calls Tryd.prog 90 #[.int .u32 x] w fun e w' => e = .returned (.int .u32 (Uz x)) /\ w' = w := by
 have hx' := hx
 obtain ⟨hx0, hx1⟩ := hx'
 go_enter Tryd.func90, Tryd.ntmps90
 go_wp2_with (first
  | (go_at_call 87; first | (with_reducible refine (Yx x (-17) _ hx 15 (by decide) (by decide) (by decide)).mono ?_; rintro e w1 ⟨rfl, rfl⟩) | (with_reducible refine (Yx x (-19) _ hx 13 (by decide) (by decide) (by decide)).mono ?_; rintro e w2 ⟨rfl, rfl⟩)))
 go_ret
 exact ⟨rfl, rfl⟩
def Zu (w : World) (B : Nat) (st : List Int) : Prop := st.length = 8 /\ (∀ x ∈ st, Zo x) /\ ∃ t, w.heap[B]? = some (.cells ([Value.int .i64 32, Value.int .i64 64] ++ st.map (Value.int .u32) ++ [Value.func (.func 86) #[] #[], Value.func (.func 88) #[] #[], Value.func (.func 89) #[] #[], Value.func (.func 90) #[] #[]]).toArray t (0, 0))
theorem Zu.lt {w : World} {B : Nat} {st : List Int} (h : Zu w B st) : B < w.heap.size := by
 obtain ⟨_, _, t, h⟩ := h
 exact (Array.getElem?_eq_some_iff.1 h).1
theorem Zu.but {w w' : World} {B : Nat} {st : List Int} (h : Zu w B st) {row : Option Nat} (hb : w.grownBy w' row) (hr : some B ≠ row) : Zu w' B st := by
 have hl := h.lt
 obtain ⟨h1, h2, t, h⟩ := h
 exact ⟨h1, h2, t, by obtain ⟨_, _, _, _, hb5⟩ := hb; rw [hb5 B hl hr]; exact h⟩
theorem Zu.below {w w' : World} {B : Nat} {st : List Int} (h : Zu w B st) (hb : Below w.heap.size w w') : Zu w' B st := by
 have hl := h.lt
 obtain ⟨h1, h2, t, h⟩ := h
 exact ⟨h1, h2, t, by rw [hb.block B hl]; exact h⟩
theorem Zu.cell {w : World} {B : Nat} {st : List Int} (h : Zu w B st) (k : Nat) (v : Value) (hv : ([Value.int .i64 32, Value.int .i64 64] ++ st.map (Value.int .u32) ++ [Value.func (.func 86) #[] #[], Value.func (.func 88) #[] #[], Value.func (.func 89) #[] #[], Value.func (.func 90) #[] #[]])[k]? = some v) : w.cell? ⟨B, k, none⟩ = some v /\ w.frozen? ⟨B, k, none⟩ = false := by
  obtain ⟨h1, h2, t, h⟩ := h
  have hk := (List.getElem?_eq_some_iff.1 hv).1
  constructor
  . simp [World.cell?, h] at hv ⊢
    exact hv
  . simp [World.frozen?, h]
theorem Zu.width {w : World} {B : Nat} {st : List Int} (h : Zu w B st) : w.cell? ⟨B, 0, none⟩ = some (.int .i64 32) := (h.cell 0 _ rfl).1
theorem Zu.count {w : World} {B : Nat} {st : List Int} (h : Zu w B st) : w.cell? ⟨B, 1, none⟩ = some (.int .i64 64) := (h.cell 1 _ rfl).1
theorem Zu.stAt {w : World} {B : Nat} {st : List Int} (h : Zu w B st) {j : Nat} (hj : j < 8) : w.cell? ⟨B, 2 + j, none⟩ = some (.int .u32 (QX st j)) /\ w.frozen? ⟨B, 2 + j, none⟩ = false := by
 refine h.cell (2 + j) _ ?_
 have hl := h.1
 rw [List.getElem?_append_left (by simp; omega), List.getElem?_append_right (by simp)]
 simp [QX, show j < st.length by omega]
theorem Zu.fn {w : World} {B : Nat} {st : List Int} (h : Zu w B st) : w.cell? ⟨B, 10, none⟩ = some (.func (.func 86) #[] #[]) /\ w.cell? ⟨B, 11, none⟩ = some (.func (.func 88) #[] #[]) /\ w.cell? ⟨B, 12, none⟩ = some (.func (.func 89) #[] #[]) /\ w.cell? ⟨B, 13, none⟩ = some (.func (.func 90) #[] #[]) := by
 have hl := h.1
 refine ⟨(h.cell 10 _ ?_).1, (h.cell 11 _ ?_).1, (h.cell 12 _ ?_).1, (h.cell 13 _ ?_).1⟩ <;> simp [hl]
theorem Zu.set {w : World} {B : Nat} {st : List Int} (h : Zu w B st) {j : Nat} (hj : j < 8) {x : Int} (hx : Zo x) : Zu (w.setCell ⟨B, 2 + j, none⟩ (.int .u32 x)) B (st.set j x) := by
  obtain ⟨h1, h2, t, h⟩ := h
  refine ⟨by simp [h1], fun y hy => ?_, t, ?_⟩
  . rcases List.mem_or_eq_of_mem_set hy with k | rfl
    . exact h2 y k
    . exact hx
  . simp only [World.setCell, Array.getElem?_modify, h]
    have e : ∀ (a b v : Value) (l r : List Value), j < l.length -> ([a, b] ++ l ++ r).set (2 + j) v = [a, b] ++ l.set j v ++ r := by
      intro a b v l r hl
      rw [Nat.add_comm, List.append_assoc, List.append_assoc]
      show a :: b :: (l ++ r).set j v = a :: b :: (l.set j v ++ r)
      rw [List.set_append_left _ _ hl]
    have e2 := e (Value.int .i64 32) (Value.int .i64 64) (Value.int .u32 x) (st.map (Value.int .u32)) [Value.func (.func 86) #[] #[], Value.func (.func 88) #[] #[], Value.func (.func 89) #[] #[], Value.func (.func 90) #[] #[]] (by simp [h1, hj])
    rw [List.map_set, <- e2]
    simp
theorem Zu.stIn {w : World} {B : Nat} {st : List Int} (h : Zu w B st) (j : Nat) : Zo (QX st j) := by
 by_cases hj : j < st.length
 . exact h.2.1 _ (FI hj)
 . unfold Zo; simp [QX, hj]
theorem Qae (x : Int) (w : World) (B : Nat) (st : List Int) (hr : Zu w B st) (hx : Jq x) : Calls Tryd.prog 95 #[.pointer (some ⟨B, 0, none⟩), .int .u64 x] w fun e w' => e = .returned (.int .u32 (x / 4294967296)) /\ w' = w := by
 have h0 := hr.width
 have hl := hr.lt
 obtain ⟨hx0, hx1⟩ := hx
 go_enter Tryd.func95, Tryd.ntmps95
 go_wp2
 go_ret
 exact ⟨rfl, rfl⟩
def YN : List Int := [7640891576956012808, 13503953896175478587, 4354685564936845355, 11912009170470909681, 5840696475078001361, 11170449401992604703, 2270897969802886507, 6620516959819538809]
def YD : List Int := [4794697086780616226, 8158064640168781261, 13096744586834688815, 16840607885511220156, 4131703408338449720, 6480981068601479193, 10538285296894168987, 12329834152419229976, 15566598209576043074, 1334009975649890238, 2608012711638119052, 6128411473006802146, 8268148722764581231, 9286055187155687089, 11230858885718282805, 13951009754708518548, 16472876342353939154, 17275323862435702243, 1135362057144423861, 2597628984639134821, 3308224258029322869, 5365058923640841347, 6679025012923562964, 8573033837759648693, 10970295158949994411, 12119686244451234320, 12683024718118986047, 13788192230050041572, 14330467153632333762, 15395433587784984357, 489312712824947311, 1452737877330783856, 2861767655752347644, 3322285676063803686, 5560940570517711597, 5996557281743188959, 7280758554555802590, 8532644243296465576, 9350256976987008742, 10552545826968843579, 11727347734174303076, 12113106623233404929, 14000437183269869457, 14369950271660146224, 15101387698204529176, 15463397548674623760, 17586052441742319658, 1182934255886127544, 1847814050463011016, 2177327727835720531, 2830643537854262169, 3796741975233480872, 4115178125766777443, 5681478168544905931, 6601373596472566643, 7507060721942968483, 8399075790359081724, 8693463985226723168, 9568029438360202098, 10144078919501101548, 10430055236837252648, 11840083180663258601, 13761210420658862357, 14299343276471374635, 14566680578165727644, 15097957966210449927, 16922976911328602910, 17689382322260857208, 500013540394364858, 748580250866718886, 1242879168328830382, 1977374033974150939, 2944078676154940804, 3659926193048069267, 4368137639120453308, 4836135668995329356, 5532061633213252278, 6448918945643986474, 6902733635092675308, 7801388544844847127]
structure ZM (w : World) : Prop where
 sq : ∀ k, k < 8 -> w.cell? ⟨0, k, none⟩ = some (.int .u64 (QX YN k))
 cu : ∀ k, k < 80 -> w.cell? ⟨3, k, none⟩ = some (.int .u64 (QX YD k))
theorem ZM.lt {w : World} (h : ZM w) : 0 < w.heap.size /\ 3 < w.heap.size := ⟨World.block_lt_of_cell? w _ (h.sq 0 (by decide)), World.block_lt_of_cell? w _ (h.cu 0 (by decide))⟩
theorem ZM.but {w w' : World} (h : ZM w) {B : Nat} (hb : w.grownBy w' (some B)) (hs : 0 ≠ B) (hc : 3 ≠ B) : ZM w' :=
 ⟨fun k hk => hb.cell (h.sq k hk) (by simpa using hs), fun k hk => hb.cell (h.cu k hk) (by simpa using hc)⟩
theorem ZM.below {w w' : World} (h : ZM w) (hb : Below w.heap.size w w') : ZM w' :=
 ⟨fun k hk => by rw [hb.cell h.lt.1]; exact h.sq k hk, fun k hk => by rw [hb.cell h.lt.2]; exact h.cu k hk⟩
theorem EV : ∀ k, k < 8 -> Jq (QX YN k) := by unfold Jq; decide
theorem Qc4 : ∀ k, k < 80 -> Jq (QX YD k) := by unfold Jq; decide
theorem YH {w w' : World} {B : Nat} (h : w.grownBy w' (some B)) (o : Nat) (v : Value) : w.grownBy (w'.setCell ⟨B, o, none⟩ v) (some B) := by
  refine ⟨h.os, h.tape, h.output, ?_, fun k hk hne => ?_⟩
  . have := h.size
    simpa [World.setCell] using this
  . rw [heap_setCell_other w' ⟨B, o, none⟩ k v (by simpa using hne)]
    exact h.block k hk hne
theorem UB {w w' : World} {row : Option Nat} (h : w.grownBy w' row) : w.grownBy w'.drew row := ⟨h.os, h.tape, h.output, h.size, h.block⟩
def XM : List Int := (List.range 8).map fun k => QX YN k / 4294967296
theorem Hn (k : Nat) (hk : k < 8) : QX XM k = QX YN k / 4294967296 := by simp [XM, QX, hk]
theorem Qbk (w : World) (B : Nat) (st : List Int) (hr : Zu w B st) (hT : ZM w) (hs : 0 ≠ B) (hc : 3 ≠ B) :
    Calls Tryd.prog 91 #[.pointer (some ⟨B, 0, none⟩)] w fun e w' => (∃ v, e = .returned v) /\ Zu w' B XM /\ w.grownBy w' (some B) := by
  go_enter Tryd.func91, Tryd.ntmps91
  go_wp2
  go_loopw [3] (fun i wr => ∃ (k : Nat) (st : List Int), k <= 8 /\ i = .int .i64 k /\ Zu wr B st /\ w.grownBy wr (some B) /\ ∀ k', k' < k -> QX st k' = QX XM k') (fun i _ => 8 - (intOf i).toNat)
  case atStart => exact ⟨0, st, by omega, rfl, hr, World.grownBy.refl _ _, fun k' h => by omega⟩
  case round =>
    obtain ⟨k, st, hk, rfl, hr, hg, hst⟩ := hrel
    have hT' : ZM wr := hT.but hg hs hc
    have hl := hr.lt
    by_cases hlt : k < 8
    . have c0 := hT'.sq k hlt
      obtain ⟨c1, f1⟩ := hr.stAt hlt
      have hin := EV k hlt
      have hcut := fun W (h : Zu W B st) => Qae (QX YN k) W B st h hin
      go_wp2
      go_region_with (go_at_call 95; refine (hcut _ (by first | exact hr | exact hr.drew)).mono ?_; rintro e w9 ⟨rfl, rfl⟩)
      go_wp2
      refine ⟨⟨k + 1, st.set k (QX XM k), by omega, by go_num, ?_, ?_, fun k' hk' => ?_⟩, by simp only [intOf]; omega⟩
      . have h := hr.set (j := k) hlt (x := QX YN k / 4294967296) (by unfold Jq at hin; unfold Zo; omega)
        rw [Hn k hlt]
        exact h
      . exact UB (YH hg _ _)
      . rw [UF st k k' _ (by rw [hr.1]; exact hlt)]
        by_cases e : k' = k
        . rw [if_pos e, e]
        . rw [if_neg e]; exact hst k' (by omega)
    . obtain rfl : k = 8 := by omega
      have e : st = XM := Z9 (by rw [hr.1]; rfl) fun j h => hst j (by rw [hr.1] at h; exact h)
      subst e
      go_wp2
      refine bodyPost_end (v := .tuple #[]) (by simp [results, Tryd.results91]) rfl ?_
      exact ⟨⟨_, rfl⟩, hr, hg⟩
theorem Hp {K : IntKind} {w : World} {B : Nat} {zs : List Int} (h : V9 K w B zs) : V9 K w.drew B zs := h
theorem Uo {B : Nat} {a w : World} (h : Below B a w) {g : Nat} (hg : B <= g) (cs : Array Value) : Below B a (w.setRow g cs) := by
  refine ⟨h.os, h.tape, h.output, ?_, fun k hk => ?_⟩
  . have := h.size
    simpa [World.setRow] using this
  . rw [setRow_other w g k cs (by omega)]
    exact h.block k hk
def EF : List Int -> Int := fun l => l.foldl (fun x c => x * 256 + c) 0
theorem Ho (l : List Int) (c : Int) : EF (l ++ [c]) = EF l * 256 + c := by simp [EF]
theorem FH : ∀ (n : Nat) (l : List Int), l.length = n -> ZK l -> 0 <= EF l /\ EF l < 256 ^ n
 | 0, l, h, _ => by
  obtain rfl : l = [] := List.length_eq_zero_iff.1 h
  simp [EF]
 | n + 1, l, h, hb => by
  have hne : l ≠ [] := by rintro rfl; simp at h
  rw [<- List.dropLast_concat_getLast hne] at hb ⊢
  have ih := FH n l.dropLast (by simp [h]) (fun x hx => hb x (by simp [hx]))
  have hc := hb (l.getLast hne) (by simp)
  rw [Ho, Int.pow_succ]
  omega
theorem YW {x : Int} (h0 : 0 <= x) (h1 : x < 4611686018427387904) : IntKind.i64.wrap x = x := by
 simp [IntKind.wrap, IntKind.bits, IntKind.signed]
 omega
theorem Gj (n j : Nat) : QX (List.replicate n 0) j = 0 := by
 unfold QX
 rw [List.getElem?_replicate]
 split <;> rfl
theorem YY (l : List Int) (t : Nat) (h : t < l.length) : l.take (t + 1) = l.take t ++ [QX l t] := by
 rw [List.take_add_one, FJ h]; simp [h]
theorem QdQ (x c : Int) (hx : 0 <= x /\ x < 72057594037927936) (hc : 0 <= c /\ c <= 255) : bits BinOp.or .u64 (x * 256) c = x * 256 + c := by
 obtain ⟨a, rfl⟩ := Int.eq_ofNat_of_zero_le hx.1
 obtain ⟨b, rfl⟩ := Int.eq_ofNat_of_zero_le hc.1
 have h := u64_or_nat (a * 256) b (by omega) (by omega)
 rw [show (((a * 256 : Nat) : Int)) = (a : Int) * 256 by simp] at h
 rw [h, JJ (a * 256) b 8 (by omega) (by omega)]
 simp
theorem Gm : (Tryd.prog.info? 157).bind (·.zero) = some (.agg (Array.replicate 80 (Value.int .u32 0))) := by kernel_rfl
theorem Kf : (Tryd.prog.info? 157).map (·.size) = some 80 := by kernel_rfl
theorem Dx : Tryd.prog.underlying 157 = some (.array 80 138) := by kernel_rfl
theorem QdR (x c : Int) (hx : 0 <= x /\ x < 16777216) (hc : 0 <= c /\ c <= 255) : bits BinOp.or .u32 (x * 256) c = x * 256 + c := by
 obtain ⟨a, rfl⟩ := Int.eq_ofNat_of_zero_le hx.1
 obtain ⟨b, rfl⟩ := Int.eq_ofNat_of_zero_le hc.1
 have h := u32_or_nat (a * 256) b (by omega) (by omega)
 rw [show (((a * 256 : Nat) : Int)) = (a : Int) * 256 by simp] at h
 rw [h, JJ (a * 256) b 8 (by omega) (by omega)]
 simp
def JE (zs : List Int) (i : Nat) : Int := EF ((zs.drop (i * 4)).take 4)
theorem Qar {zs : List Int} (hb : ZK zs) {i : Nat} (h : (i + 1) * 4 <= zs.length) : Zo (JE zs i) := by
 have := FH 4 ((zs.drop (i * 4)).take 4) (by simp; omega) (fun x hx => hb x (List.mem_of_mem_drop (List.mem_of_mem_take hx)))
 unfold Zo JE
 omega
def Y2 (m : List Int) (i : Nat) : Int := (QX m (i - 16) + VL (QX m (i - 15)) + QX m (i - 7) + Uz (QX m (i - 2))) % 4294967296
def Qp (zs : List Int) : Nat -> List Int
 | 0 => (List.range 16).map (JE zs) ++ List.replicate 64 0
 | k + 1 => (Qp zs k).set (16 + k) (Y2 (Qp zs k) (16 + k))
theorem Zi (zs : List Int) : ∀ k, (Qp zs k).length = 80
 | 0 => by simp [Qp]
 | k + 1 => by simp [Qp, Zi zs k]
theorem Ut {zs : List Int} (hb : ZK zs) (hl : zs.length = 64) : ∀ k x, x ∈ Qp zs k -> Zo x
  | 0, x, hx => by
    rcases List.mem_append.1 hx with h | h
    . obtain ⟨i, hi, rfl⟩ := List.mem_map.1 h
      exact Qar hb (by have := List.mem_range.1 hi; omega)
    . obtain ⟨-, rfl⟩ := List.mem_replicate.1 h
      unfold Zo; omega
  | k + 1, x, hx => by
    rcases List.mem_or_eq_of_mem_set hx with h | rfl
    . exact Ut hb hl k x h
    . unfold Zo Y2; omega
set_option maxHeartbeats 1000000 in
theorem Fg (w : World) (B : Nat) (st : List Int) (hr : Zu w B st) (v : Value) (zs : List Int) (hv : H2 .u8 w v zs) (hb : ZK zs) (hl : zs.length = 64) :
    Calls Tryd.prog 102 #[.pointer (some ⟨B, 0, none⟩), v] w fun e w' => e = .returned (Z6 .u32 (Qp zs 48)) /\ Below w.heap.size w w' := by
  obtain ⟨a, cap, rfl, hcap, hmax, hcell, -⟩ := hv
  obtain ⟨x, o, rfl, -⟩ := hcell 0 (by omega)
  replace hcell : ∀ k, k < 64 -> w.cell? ⟨x, o + k, none⟩ = some (.int .u8 (QX zs k)) := fun k hk => by
    obtain ⟨x', o', e, h⟩ := hcell k (by omega)
    cases e
    exact h
  have hx : x < w.heap.size := World.block_lt_of_cell? w _ (hcell 0 (by omega))
  have hB := hr.lt
  have hwd := hr.width
  rw [hl] at hcap ⊢
  go_enter Tryd.func102, Tryd.ntmps102
  go_wp2_with (first
    | (with_reducible refine Ko 4 ?_; refine Ys rfl 157 rfl .u32 80 Gm ?_; intro w1 A1 s1 b1)
    | (with_reducible refine Ko 5 ?_; refine Ys rfl 157 rfl .u32 80 Gm ?_; intro w2 A2 s2 b2; replace A1 := A1.below b2; have BB := Qe b1 b2; replace hwd := (hr.below BB).width))
  go_loopw [17] (fun i wr => ∃ (k : Nat) (ms : List Int), k <= 16 /\ i = .int .i64 k /\ V9 .u32 wr w.heap.size (List.replicate 80 0) /\ V9 .u32 wr w1.heap.size ms /\ ms.length = 80 /\ (∀ j, j < 80 -> QX ms j = if j < k then JE zs j else 0) /\ Below w.heap.size w wr) (fun i _ => 16 - (intOf i).toNat)
  case atStart => exact ⟨0, List.replicate 80 0, by omega, rfl, A1, A2, by simp, fun j h => by rw [Gj, if_neg (by omega)], BB⟩
  case round =>
    clear A1 A2 BB hwd
    obtain ⟨k, ms, hk, rfl, A1, A2, hml, hms, BB⟩ := hrel
    by_cases hlt : k < 16
    . have hc : ∀ j, j < 4 -> wr.cell? ⟨x, o + k * 4 + j, none⟩ = some (.int .u8 (QX ((zs.drop (k * 4)).take 4) j)) := fun j hj => by
        have h1 := hcell (k * 4 + j) (by omega)
        rw [<- Nat.add_assoc] at h1
        rw [BB.cell hx, h1]
        simp [QX, hj]
      have hbp : ZK ((zs.drop (k * 4)).take 4) := fun y hy => hb y (List.mem_of_mem_drop (List.mem_of_mem_take hy))
      have hlp : ((zs.drop (k * 4)).take 4).length = 4 := by simp; omega
      generalize hps : (zs.drop (k * 4)).take 4 = ps at *
      clear hcell
      go_wp2
      have hlen : (k + 1) * 4 - k * 4 = 4 := by omega
      simp only [hlen]
      go_loopw [8, 30] (fun y j wq => ∃ (t : Nat), t <= 4 /\ j = .int .i64 t /\ y = .int .u32 (EF (ps.take t)) /\ wq = wr) (fun _ j _ => 4 - (intOf j).toNat)
      case atStart => exact ⟨0, by omega, rfl, rfl, rfl⟩
      case round =>
        obtain ⟨t, ht, rfl, rfl, rfl⟩ := hrel
        by_cases hlt2 : t < 4
        . have hc0 := hc t hlt2
          have hbt := FH t (ps.take t) (by simp [hlp]; omega) (fun y hy => hbp y (List.mem_of_mem_take hy))
          have hcb := hbp.at t
          have hsn : EF (ps.take (t + 1)) = EF (ps.take t) * 256 + QX ps t := by rw [YY ps t (by omega), Ho]
          generalize QX ps t = c at *
          have hyb : 0 <= EF (ps.take t) /\ EF (ps.take t) < 16777216 := by
            have hp : (256 : Int) ^ t <= 256 ^ 3 := by
              rcases (by omega : t = 0 \/ t = 1 \/ t = 2 \/ t = 3) with rfl | rfl | rfl | rfl <;> decide
            omega
          generalize EF (ps.take t) = y at *
          have ho := QdR y c hyb hcb
          have hy0 := hyb.1
          have hy1 := hyb.2
          replace hsn := Lib.hid hsn
          clear hbt hyb hc
          go_wp2
          refine ⟨⟨t + 1, by omega, by go_num, ?_, by trivial⟩, by simp only [intOf]; omega⟩
          rw [hsn.out]
        . obtain rfl : t = 4 := by omega
          have hw : EF (ps.take 4) = JE zs k := by rw [<- hlp, List.take_length, <- hps]; rfl
          rw [hw]
          have f0 := A2.free (k := k) (by omega)
          have c0 := A2.cell (k := k) (by omega)
          clear hc
          go_wp2
          refine ⟨⟨k + 1, ms.set k (JE zs k), by omega, by go_num, A1.setOther (by omega) _ _, A2.set _ _, by simp [hml], fun j hj => ?_, BB.setCell (by show w.heap.size <= w1.heap.size; omega) _⟩, by simp only [intOf]; omega⟩
          rw [UF ms k j _ (by omega)]
          by_cases e : j = k
          . rw [if_pos e, if_pos (by omega), e]
          . rw [if_neg e, hms j hj]
            by_cases e2 : j < k
            . rw [if_pos e2, if_pos (by omega)]
            . rw [if_neg e2, if_neg (by omega)]
    . obtain rfl : k = 16 := by omega
      have e : ms = Qp zs 0 := Z9 (by rw [hml]; rfl) fun j h => by
        rw [hml] at h
        rw [hms j h]
        by_cases e : j < 16
        . rw [if_pos e]
          unfold Qp QX
          rw [List.getElem?_append_left (by simpa using e)]; simp [e]
        . rw [if_neg e]
          have e2 := Gj 64 (j - 16)
          unfold Qp
          unfold QX at e2 ⊢
          rw [List.getElem?_append_right (by simpa using e), List.length_map, List.length_range, e2]
      subst e
      clear hms hml hcell
      have hsl := Zi zs
      have hsi := Ut hb hl
      go_wp2
      go_loopw [11] (fun i wr => ∃ (i' : Nat), 16 <= i' /\ i' <= 64 /\ i = .int .i64 i' /\ V9 .u32 wr w.heap.size (List.replicate 80 0) /\ V9 .u32 wr w1.heap.size (Qp zs (i' - 16)) /\ Below w.heap.size w wr) (fun i _ => 64 - (intOf i).toNat)
      case atStart => exact ⟨16, by omega, by omega, rfl, A1, A2, BB⟩
      case round =>
        clear A1 A2 BB
        obtain ⟨i, hi0, hi1, rfl, A1, A2, BB⟩ := hrel
        have hr' := hr.below BB
        have hct := hr'.count
        by_cases hlt : i < 64
        . have hln := hsl (i - 16)
          have hin := hsi (i - 16)
          have hst : Qp zs (i + 1 - 16) = (Qp zs (i - 16)).set i (Y2 (Qp zs (i - 16)) i) := by
            rw [show i + 1 - 16 = (i - 16) + 1 by omega]
            show (Qp zs (i - 16)).set (16 + (i - 16)) (Y2 (Qp zs (i - 16)) (16 + (i - 16))) = _
            rw [show 16 + (i - 16) = i by omega]
          generalize Qp zs (i - 16) = ms at *
          have hat : ∀ j, j < 80 -> Zo (QX ms j) := fun j hj => hin _ (FI (by omega))
          obtain ⟨j1, e1, n1⟩ : ∃ j : Nat, IntKind.i64.wrap ((i : Int) - 16) = (j : Int) /\ i - 16 = j := ⟨i - 16, by rw [YW (by omega) (by omega)]; omega, rfl⟩
          obtain ⟨j2, e2, n2⟩ : ∃ j : Nat, IntKind.i64.wrap ((i : Int) - 15) = (j : Int) /\ i - 15 = j := ⟨i - 15, by rw [YW (by omega) (by omega)]; omega, rfl⟩
          obtain ⟨j3, e3, n3⟩ : ∃ j : Nat, IntKind.i64.wrap ((i : Int) - 7) = (j : Int) /\ i - 7 = j := ⟨i - 7, by rw [YW (by omega) (by omega)]; omega, rfl⟩
          obtain ⟨j4, e4, n4⟩ : ∃ j : Nat, IntKind.i64.wrap ((i : Int) - 2) = (j : Int) /\ i - 2 = j := ⟨i - 2, by rw [YW (by omega) (by omega)]; omega, rfl⟩
          have b1 : (j1 : Int) < 80 := by omega
          have b2' : (j2 : Int) < 80 := by omega
          have b3 : (j3 : Int) < 80 := by omega
          have b4 : (j4 : Int) < 80 := by omega
          have b5 : (i : Int) < 80 := by omega
          have c1 := A2.cell (k := j1) (by omega)
          have c2 := A2.cell (k := j2) (by omega)
          have c3 := A2.cell (k := j3) (by omega)
          have c4 := A2.cell (k := j4) (by omega)
          have nx : Y2 ms i = (QX ms j1 + VL (QX ms j2) + QX ms j3 + Uz (QX ms j4)) % 4294967296 := by unfold Y2; rw [n1, n2, n3, n4]
          replace nx := Lib.hid nx
          clear n1 n2 n3 n4
          have c5 := A2.cell (k := i) (by omega)
          have f5 := A2.free (k := i) (by omega)
          have HA := fun W => QcB (QX ms j2) W (hat _ (by omega))
          have HB := fun W => QcA (QX ms j4) W (hat _ (by omega))
          obtain ⟨f10, f11, f12, f13⟩ := hr'.fn
          replace hst := Lib.hid hst
          clear hin hsi hsl
          go_wp2
          go_still_tail 31, (by kernel_rfl)
          still_call (HA _)
          repeat still_step
          still_call (HB _)
          repeat still_step
          refine wpStill_nil ?_
          change wpList _ _ _ _ _ wr.drew
          go_wp2
          refine ⟨?_, ?_⟩
          . refine Exists.intro (Value.int .i64 ((i : Int) + 1)) ?_
            repeat apply Exists.intro (α := Value)
            refine ⟨⟨i + 1, by omega, by omega, by go_num, ?_, ?_, ?_⟩, rfl⟩
            . exact (Hp A1).setOther (by omega) _ _
            . rw [hst.out, nx.out]
              try simp only [IntKind.wrap_u64, Int.emod_add_emod]
              exact Hp (A2.set i _)
            . exact BB.drew.setCell (by show w.heap.size <= w1.heap.size; omega) _
          . show 64 - (intOf (Value.int .i64 ((i : Int) + 1))).toNat < 64 - (intOf (Value.int .i64 (i : Int))).toNat
            simp only [intOf]; omega
        . obtain rfl : i = 64 := by omega
          have hln := hsl (64 - 16)
          go_wp2_with (first
            | (with_reducible refine Ko 83 ?_; refine JT rfl 157 _ rfl 80 138 Dx Kf w1.heap.size rfl .u32 _ A2 hln ?_)
            | (with_reducible refine Qan (o := ⟨_, .store 157 _ _, _, _, _, _⟩) ?_; refine V3 rfl 157 _ _ rfl 80 Kf w.heap.size rfl .u32 _ _ rfl A1 (by simp) hln ?_; intro A3))
          refine bodyPost_ret (Jw rfl _ 80 138 Dx Kf w.heap.size rfl .u32 _ A3 hln) rfl ?_
          exact ⟨rfl, Uo BB (Nat.le_refl _) _⟩
theorem ZM.drewN {w : World} (h : ZM w) (n : Nat) : ZM (w.drewN n) := h.below (YI (Below.refl _ _) n)
theorem KU {w w' : World} (h : Below w.heap.size w w') (B : Nat) : w.grownBy w' (some B) := ⟨h.os, h.tape, h.output, h.size, fun k hk _ => h.block k hk⟩
theorem Jh (w : World) (g : Nat) (cs : Array Value) : w.grownBy (w.setRow g cs) (some g) := by
 refine ⟨rfl, rfl, rfl, by simp [World.setRow], fun k hk hne => ?_⟩
 rw [setRow_other w g k cs (by simpa using hne)]
theorem Qcw (x : Int) : Jq (x % 18446744073709551616) := by unfold Jq; omega
structure QfE where
 (a b c d e f g h : Int)
def Vs (e : Int) : Int := bits BinOp.xor .u64 (if IntKind.u64.signed = true then -1 else IntKind.u64.max) e
theorem Kd (x : Int) : Zo (x % 4294967296) := by unfold Zo; omega
structure Zf where
 (a b c d e f g h : Int)
def Zf.ok (v : Zf) : Prop := Zo v.a /\ Zo v.b /\ Zo v.c /\ Zo v.d /\ Zo v.e /\ Zo v.f /\ Zo v.g /\ Zo v.h
def Eo (e : Int) : Int := bits BinOp.xor .u32 (if IntKind.u32.signed = true then -1 else IntKind.u32.max) e
def YS (m : List Int) (i : Nat) (v : Zf) : Int := (v.h + VQ v.e + bits BinOp.xor .u32 (bits BinOp.and .u32 v.e v.f) (bits BinOp.and .u32 (Eo v.e) v.g) + QX YD i / 4294967296 + QX m i) % 4294967296
def Jo (v : Zf) : Int := (U3 v.a + bits BinOp.xor .u32 (bits BinOp.xor .u32 (bits BinOp.and .u32 v.a v.b) (bits BinOp.and .u32 v.a v.c)) (bits BinOp.and .u32 v.b v.c)) % 4294967296
def Ve (m : List Int) (i : Nat) (v : Zf) : Zf := ⟨(YS m i v + Jo v) % 4294967296, v.a, v.b, v.c, (v.d + YS m i v) % 4294967296, v.e, v.f, v.g⟩
def QL (m : List Int) (v : Zf) : Nat -> Zf
 | 0 => v
 | i + 1 => Ve m i (QL m v i)
theorem VW {m : List Int} {v : Zf} (h : v.ok) : ∀ i, (QL m v i).ok
 | 0 => h
 | i + 1 => by
  obtain ⟨h0, h1, h2, h3, h4, h5, h6, h7⟩ := VW (m := m) h i
  exact ⟨Kd _, h0, h1, h2, Kd _, h4, h5, h6⟩
def Q6 (st : List Int) : Zf := ⟨QX st 0, QX st 1, QX st 2, QX st 3, QX st 4, QX st 5, QX st 6, QX st 7⟩
def Zf.list (v : Zf) : List Int := [v.a, v.b, v.c, v.d, v.e, v.f, v.g, v.h]
def XS (st zs : List Int) : List Int := (List.range 8).map fun j => (QX st j + QX (QL (Qp zs 48) (Q6 st) 64).list j) % 4294967296
set_option maxHeartbeats 4000000 in
theorem FY (w : World) (B : Nat) (st : List Int) (hr : Zu w B st) (hT : ZM w) (hs : 0 ≠ B) (hc : 3 ≠ B) (v : Value) (zs : List Int) (hv : H2 .u8 w v zs) (hb : ZK zs) (hl : zs.length = 64) :
    Calls Tryd.prog 97 #[.pointer (some ⟨B, 0, none⟩), v] w fun e w' => (∃ v, e = .returned v) /\ Zu w' B (XS st zs) /\ w.grownBy w' (some B) := by
  have hB := hr.lt
  have hml := Zi zs 48
  have hmi := Ut hb hl 48
  have HS := fun W (h : Zu W B st) (hv : H2 .u8 W v zs) => Fg W B st h v zs hv hb hl
  have htk : XS st zs = (List.range 8).map fun j => (QX st j + QX (QL (Qp zs 48) (Q6 st) 64).list j) % 4294967296 := rfl
  generalize Qp zs 48 = ms at *
  have h8 : (Q6 st).ok := ⟨hr.stIn 0, hr.stIn 1, hr.stIn 2, hr.stIn 3, hr.stIn 4, hr.stIn 5, hr.stIn 6, hr.stIn 7⟩
  have he8 : Q6 st = ⟨QX st 0, QX st 1, QX st 2, QX st 3, QX st 4, QX st 5, QX st 6, QX st 7⟩ := rfl
  go_enter Tryd.func97, Tryd.ntmps97
  go_wp2_with (first
    | (go_at_call 102; (with_reducible refine (HS _ hr hv).mono ?_); rintro e w1 ⟨rfl, b1⟩)
    | (with_reducible refine Ko 4 ?_; refine Ys rfl 157 rfl .u32 80 Gm ?_; intro w2 A2 s2 b2; have BB := Qe b1 b2; have hr2 := hr.below BB; have hT2 := hT.below BB)
    | (with_reducible refine Qan (o := ⟨_, .store 157 _ _, _, _, _, _⟩) ?_; refine V3 rfl 157 _ _ rfl 80 Kf w1.heap.size rfl .u32 _ _ rfl A2 (by simp) hml ?_; intro A3))
  have hs1 := b1.size
  have hr3 : Zu (w2.setRow w1.heap.size (ms.map (Value.int .u32)).toArray) B st := hr2.but (Jh _ _ _) (by simp; omega)
  have hT3 : ZM (w2.setRow w1.heap.size (ms.map (Value.int .u32)).toArray) := hT2.but (Jh _ _ _) (by have := hT.lt.1; have := b1.size; omega) (by have := hT.lt.2; have := b1.size; omega)
  have BB3 := Uo BB (g := w1.heap.size) b1.size (ms.map (Value.int .u32)).toArray
  generalize w2.setRow w1.heap.size (ms.map (Value.int .u32)).toArray = w3 at *
  clear hr2 hT2 A2 BB HS
  have s0 : w3.cell? ⟨B, 2, none⟩ = some (.int .u32 (QX st 0)) := (hr3.stAt (j := 0) (by decide)).1
  have s1 : w3.cell? ⟨B, 3, none⟩ = some (.int .u32 (QX st 1)) := (hr3.stAt (j := 1) (by decide)).1
  have s2 : w3.cell? ⟨B, 4, none⟩ = some (.int .u32 (QX st 2)) := (hr3.stAt (j := 2) (by decide)).1
  have s3 : w3.cell? ⟨B, 5, none⟩ = some (.int .u32 (QX st 3)) := (hr3.stAt (j := 3) (by decide)).1
  have s4 : w3.cell? ⟨B, 6, none⟩ = some (.int .u32 (QX st 4)) := (hr3.stAt (j := 4) (by decide)).1
  have s5 : w3.cell? ⟨B, 7, none⟩ = some (.int .u32 (QX st 5)) := (hr3.stAt (j := 5) (by decide)).1
  have s6 : w3.cell? ⟨B, 8, none⟩ = some (.int .u32 (QX st 6)) := (hr3.stAt (j := 6) (by decide)).1
  have s7 : w3.cell? ⟨B, 9, none⟩ = some (.int .u32 (QX st 7)) := (hr3.stAt (j := 7) (by decide)).1
  have hct := hr3.count
  have hml' := hml
  go_quiet (fail)
  go_wp2
  go_quiet (fail)
  go_wp2
  have he : QL ms (Q6 st) 0 = Q6 st := rfl
  generalize hv0 : Q6 st = v0 at *
  go_loopw [5, 6, 7, 8, 9, 10, 11, 12, 65] (fun a b c d e f g h i wr => ∃ (k : Nat), k <= 64 /\ i = .int .i64 k /\ a = .int .u32 (QL ms v0 k).a /\ b = .int .u32 (QL ms v0 k).b /\ c = .int .u32 (QL ms v0 k).c /\ d = .int .u32 (QL ms v0 k).d /\ e = .int .u32 (QL ms v0 k).e /\ f = .int .u32 (QL ms v0 k).f /\ g = .int .u32 (QL ms v0 k).g /\ h = .int .u32 (QL ms v0 k).h /\ Zu wr B st /\ ZM wr /\ V9 .u32 wr w1.heap.size ms /\ Below w.heap.size w wr) (fun _ _ _ _ _ _ _ _ i _ => 64 - (intOf i).toNat)
  case atStart =>
    refine ⟨0, by omega, rfl, ?_, ?_, ?_, ?_, ?_, ?_, ?_, ?_, hr3, hT3.drewN _, A3, YI BB3 _⟩ <;> (rw [he, he8])
  case round =>
    clear hr3 hT3 A3 BB3 s0 s1 s2 s3 s4 s5 s6 s7 hct
    obtain ⟨k, hk, rfl, rfl, rfl, rfl, rfl, rfl, rfl, rfl, rfl, hr3, hT3, A3, BB3⟩ := hrel
    by_cases hlt : k < 64
    . have hok := VW (m := ms) h8 k
      have hnx : QL ms v0 (k + 1) = Ve ms k (QL ms v0 k) := rfl
      rcases hv : QL ms v0 k with ⟨a, b, c, d, e, f, g, h⟩
      rw [hv] at hok hnx
      obtain ⟨⟨a0, a1⟩, ⟨b0, b1'⟩, ⟨c0, c1⟩, ⟨d0, d1⟩, ⟨e0, e1⟩, ⟨f0, f1⟩, ⟨g0, g1⟩, ⟨h0, h1⟩⟩ := hok
      dsimp only at a0 a1 b0 b1' c0 c1 d0 d1 e0 e1 f0 f1 g0 g1 h0 h1
      have hcu := hT3.cu k (by omega)
      have hci := Qc4 k (by omega)
      have HC := fun W (h : Zu W B st) => Qae (QX YD k) W B st h hci
      have HB := fun W => Qdb e W ⟨e0, e1⟩
      have HA := fun W => Qdc a W ⟨a0, a1⟩
      have hms := A3.cell (k := k) (by omega)
      obtain ⟨f10, f11, f12, f13⟩ := hr3.fn
      have hk80 : (k : Int) < 80 := by omega
      replace hnx := Lib.hid hnx
      clear hv hmi htk he
      go_wp2
      go_quiet (first | (go_at_call 88; exact Calls.quiet_of_same (HB _)) | (go_at_call 95; exact Calls.quiet_of_same (HC _ hr3)))
      go_wp2_with (first
        | (go_at_call 86; (with_reducible refine (HA _).mono ?_); rintro e w9 ⟨rfl, rfl⟩))
      refine ⟨⟨k + 1, by omega, by go_num, ?_, congrArg (Value.int .u32) (congrArg Zf.b hnx.out).symm, congrArg (Value.int .u32) (congrArg Zf.c hnx.out).symm, congrArg (Value.int .u32) (congrArg Zf.d hnx.out).symm, ?_, congrArg (Value.int .u32) (congrArg Zf.f hnx.out).symm, congrArg (Value.int .u32) (congrArg Zf.g hnx.out).symm, congrArg (Value.int .u32) (congrArg Zf.h hnx.out).symm, hr3, hT3.drewN _, A3, YI BB3 _⟩, by simp only [intOf]; omega⟩ <;> rw [hnx.out]
      . show _ = Value.int .u32 ((YS ms k ⟨a, b, c, d, e, f, g, h⟩ + Jo ⟨a, b, c, d, e, f, g, h⟩) % 4294967296)
        unfold YS Jo Eo
        first | rfl | (simp only [IntKind.wrap_u64, Int.emod_add_emod, Int.add_emod_emod])
      . show _ = Value.int .u32 ((d + YS ms k ⟨a, b, c, d, e, f, g, h⟩) % 4294967296)
        unfold YS Eo
        first | rfl | (simp only [IntKind.wrap_u64, Int.emod_add_emod, Int.add_emod_emod])
    . obtain rfl : k = 64 := by omega
      have hok := VW (m := ms) h8 64
      rcases hv : QL ms v0 64 with ⟨a, b, c, d, e, f, g, h⟩
      rw [hv] at hok htk
      obtain ⟨⟨a0, a1⟩, ⟨b0, b1'⟩, ⟨c0, c1⟩, ⟨d0, d1⟩, ⟨e0, e1⟩, ⟨f0, f1⟩, ⟨g0, g1⟩, ⟨h0, h1⟩⟩ := hok
      dsimp only at a0 a1 b0 b1' c0 c1 d0 d1 e0 e1 f0 f1 g0 g1 h0 h1
      have hg := KU BB3 B
      replace htk := Lib.hid htk
      clear hv hmi he
      go_wp2
      rw [show Value.agg #[.int .u32 a, .int .u32 b, .int .u32 c, .int .u32 d, .int .u32 e, .int .u32 f, .int .u32 g, .int .u32 h] = Z6 .u32 [a, b, c, d, e, f, g, h] from rfl]
      have hls : ([a, b, c, d, e, f, g, h] : List Int).length = 8 := rfl
      have hlv : (Zf.list ⟨a, b, c, d, e, f, g, h⟩) = [a, b, c, d, e, f, g, h] := rfl
      replace hlv := Lib.hid hlv
      generalize ([a, b, c, d, e, f, g, h] : List Int) = ls at *
      clear a0 a1 b0 b1' c0 c1 d0 d1 e0 e1 f0 f1 g0 g1 h0 h1 BB3 A3 hT3
      go_loopw [135] (fun i wr => ∃ (j : Nat) (su : List Int), j <= 8 /\ i = .int .i64 j /\ Zu wr B su /\ w.grownBy wr (some B) /\ (∀ q, q < 8 -> QX su q = if q < j then (QX st q + QX ls q) % 4294967296 else QX st q)) (fun i _ => 8 - (intOf i).toNat)
      case atStart => exact ⟨0, st, by omega, rfl, hr3, hg, fun q hq => by rw [if_neg (by omega)]⟩
      case round =>
        clear hr3 hg
        obtain ⟨j, su, hj, rfl, hr3, hg, hsu⟩ := hrel
        by_cases hjl : j < 8
        . have hix : ∀ w, (Instr.index 141 (Z6 .u32 ls) (.int .i64 (j : Int))).run Tryd.prog w = .ok (.int .u32 (QX ls j)) w := fun w => by
            have h := EZ (w := w) (P := Tryd.prog) 141 8 138 Tryd.underlying141 _ Tryd.underlying138 rfl (by kernel_rfl) .u32 ls hls (j : Int) (by omega) (by omega)
            rwa [Int.toNat_natCast] at h
          obtain ⟨cj, fj⟩ := hr3.stAt hjl
          have hsj := hsu j hjl
          rw [if_neg (by omega)] at hsj
          rw [hsj] at cj
          have hjI : (j : Int) < 8 := by omega
          replace hsj := Lib.hid hsj
          replace hsu := Lib.hid hsu
          go_wp2
          go_still_tail 11, (by kernel_rfl)
          change wpList _ _ _ _ _ wr.drew
          go_wp2
          refine ⟨?_, ?_⟩
          . apply Exists.intro (α := Value)
            apply Exists.intro (α := Value)
            refine Exists.intro (Value.int .i64 ((j : Int) + 1)) ?_
            repeat apply Exists.intro (α := Value)
            refine ⟨⟨j + 1, su.set j ((QX st j + QX ls j) % 4294967296), by omega, by go_num, ?_, ?_, fun q hq => ?_⟩, rfl⟩
            . try simp only [IntKind.wrap_u64]
              have h := hr3.set hjl (Kd (QX st j + QX ls j))
              exact h
            . exact UB (YH hg _ _)
            . rw [UF su j q _ (by rw [hr3.1]; exact hjl)]
              by_cases e : q = j
              . rw [if_pos e, if_pos (by omega), e]
              . rw [if_neg e, hsu.out q hq]
                by_cases e2 : q < j
                . rw [if_pos e2, if_pos (by omega)]
                . rw [if_neg e2, if_neg (by omega)]
          . show 8 - (intOf (Value.int .i64 ((j : Int) + 1))).toNat < 8 - (intOf (Value.int .i64 (j : Int))).toNat
            simp only [intOf]; omega
        . obtain rfl : j = 8 := by omega
          have e : su = XS st zs := Z9 (by rw [hr3.1, htk.out]; simp) fun q hq => by
            rw [hr3.1] at hq
            rw [hsu q hq, if_pos hq, htk.out, hlv.out]
            simp [QX, hq]
          subst e
          go_wp2
          refine bodyPost_end (results_none rfl _ _ _) rfl ?_
          exact ⟨⟨_, rfl⟩, hr3, hg⟩
theorem U2 (n : Int) (w : World) (h : n = 32 \/ n = 64) : Calls Tryd.prog 96 #[.int .i64 n] w fun e w' => e = .returned (.int .i64 (2 * n)) /\ w' = w := by
 rcases h with rfl | rfl
 all_goals
  go_enter Tryd.func96, Tryd.ntmps96
  go_wp2
  go_ret
  exact ⟨rfl, rfl⟩
theorem Fo (n : Int) (w : World) (h : n = 32 \/ n = 64) : Calls Tryd.prog 105 #[.int .i64 n] w fun e w' => e = .returned (.int .i64 (n / 4)) /\ w' = w := by
 rcases h with rfl | rfl
 all_goals
  go_enter Tryd.func105, Tryd.ntmps105
  go_wp2
  go_ret
  exact ⟨rfl, rfl⟩
def V5 (n wd : Int) : Int := if n < 0 \/ 1099511627776 < n \/ (wd ≠ 32 /\ wd ≠ 64) then 0 else (n + 1 + wd / 4 + 2 * wd - 1) / (2 * wd) * (2 * wd)
theorem Qcl (n wd : Int) (w : World) (hn : -9223372036854775808 <= n /\ n <= 9223372036854775807) (hw : -9223372036854775808 <= wd /\ wd <= 9223372036854775807) :
    Calls Tryd.prog 103 #[.int .i64 n, .int .i64 wd] w fun e w' => e = .returned (.int .i64 (V5 n wd)) /\ w' = w := by
  by_cases h : n < 0 \/ 1099511627776 < n \/ (wd ≠ 32 /\ wd ≠ 64)
  . rw [show V5 n wd = 0 from if_pos h]
    have hb : (decide (n < 0) || (decide (1099511627776 < n) || (decide (wd ≠ 32) && decide (wd ≠ 64)))) = true := by simpa using h
    by_cases h1 : n < 0
    . have d1 : decide (n < 0) = true := decide_eq_true h1
      go_enter Tryd.func103, Tryd.ntmps103
      go_wp2
      go_ret
      exact ⟨rfl, rfl⟩
    . by_cases h2 : 1099511627776 < n
      . go_enter Tryd.func103, Tryd.ntmps103
        go_wp2
        go_ret
        exact ⟨rfl, rfl⟩
      . have h3 : wd ≠ 32 /\ wd ≠ 64 := by omega
        obtain ⟨h4, h5⟩ := h3
        have b4 : (wd != 32) = true := by simpa using h4
        have b5 : (wd != 64) = true := by simpa using h5
        clear hb h h4 h5
        go_enter Tryd.func103, Tryd.ntmps103
        go_wp2
        go_ret
        exact ⟨rfl, rfl⟩
  . have h6 : wd = 32 \/ wd = 64 := by omega
    have h7 : ¬ n < 0 := by omega
    have h8 : ¬ 1099511627776 < n := by omega
    rw [show V5 n wd = (n + 1 + wd / 4 + 2 * wd - 1) / (2 * wd) * (2 * wd) from if_neg h]
    clear h
    have HB := fun W => U2 wd W h6
    have HL := fun W => Fo wd W h6
    rcases h6 with rfl | rfl
    all_goals
      go_enter Tryd.func103, Tryd.ntmps103
      go_wp2_with (first
        | (go_at_call 96; (with_reducible refine (HB _).mono ?_); rintro e w1 ⟨rfl, rfl⟩)
        | (go_at_call 105; (with_reducible refine (HL _).mono ?_); rintro e w1 ⟨rfl, rfl⟩))
      go_ret
      exact ⟨rfl, rfl⟩
def XX (st : List Int) : List Int := (List.range 32).map fun i => QX st (i / 4) / 2 ^ (8 * (4 - 1 - i % 4)) % 256
theorem Hy (st : List Int) (i : Nat) (h : i < 32) : QX (XX st) i = QX st (i / 4) / 2 ^ (8 * (4 - 1 - i % 4)) % 256 := by simp [XX, QX, h]
set_option maxHeartbeats 1000000 in
theorem QbE (w : World) (B Bs : Nat) (st zs : List Int) (hr : Zu w B st) (hz : V9 .u8 w Bs zs) (hl : zs.length = 32) (hne : B ≠ Bs) :
    Calls Tryd.prog 93 #[.pointer (some ⟨B, 0, none⟩), .slice (some ⟨Bs, 0, none⟩) 32 32] w fun e w' => (∃ v, e = .returned v) /\ V9 .u8 w' Bs (XX st) /\ w.grownBy w' (some Bs) := by
  have hwd := hr.width
  go_enter Tryd.func93, Tryd.ntmps93
  go_wp2
  go_loopw [13] (fun i wr => ∃ (k : Nat) (ys : List Int), k <= 32 /\ i = .int .i64 k /\ Zu wr B st /\ V9 .u8 wr Bs ys /\ ys.length = 32 /\ w.grownBy wr (some Bs) /\ ∀ q, q < k -> QX ys q = QX (XX st) q) (fun i _ => 32 - (intOf i).toNat)
  case atStart => exact ⟨0, zs, by omega, rfl, hr, hz, hl, World.grownBy.refl _ _, fun q h => by omega⟩
  case round =>
    clear hr hz hwd
    obtain ⟨k, ys, hk, rfl, hr, hz, hyl, hg, hys⟩ := hrel
    by_cases hlt : k < 32
    . have hk8 : k / 4 < 8 := by omega
      obtain ⟨cj, -⟩ := hr.stAt hk8
      have hsi := hr.stIn (k / 4)
      have cs := hz.cell (k := k) (by omega)
      have fs := hz.free (k := k) (by omega)
      have hat := Hy st k hlt
      generalize QX st (k / 4) = s at *
      obtain ⟨s0, s1⟩ := hsi
      obtain ⟨q, e1, hq⟩ : ∃ q : Nat, IntKind.i64.wrap ((k : Int) / 4) = (q : Int) /\ q = k / 4 := ⟨k / 4, by rw [YW (by omega) (by omega)]; omega, rfl⟩
      obtain ⟨r, e2, hr2⟩ : ∃ r : Nat, (k : Int).tmod 4 = (r : Int) /\ r = k % 4 := ⟨k % 4, by rw [Int.tmod_eq_emod_of_nonneg (by omega)]; omega, rfl⟩
      have e5 : IntKind.i64.wrap 3 = 3 := by decide
      obtain ⟨t, e3, ht⟩ : ∃ t : Nat, IntKind.i64.wrap ((3 : Int) - (r : Int)) = (t : Int) /\ t = 3 - r := ⟨3 - r, by rw [YW (by omega) (by omega)]; omega, rfl⟩
      obtain ⟨u, e4, hu⟩ : ∃ u : Nat, IntKind.i64.wrap ((8 : Int) * (t : Int)) = (u : Int) /\ u = 8 * t := ⟨8 * t, by rw [YW (by omega) (by omega)]; omega, rfl⟩
      have hu2 : 8 * (4 - 1 - k % 4) = u := by omega
      rw [hu2] at hat
      have hu3 : (u : Int) < 32 := by omega
      have hq8 : (q : Int) < 8 := by omega
      rw [<- hq] at cj
      clear hu2 hq hr2 ht hu hk8
      replace hat := Lib.hid hat
      replace hys := Lib.hid hys
      go_wp2
      go_still_tail 20, (by kernel_rfl)
      change wpList _ _ _ _ _ wr.drew
      go_wp2
      refine ⟨⟨k + 1, ys.set k (s / 2 ^ u % 256), by omega, by go_num, hr.but (UB (YH (World.grownBy.refl wr (some Bs)) k _)) (by simpa using hne), Hp (hz.set k _), by simp [hyl], UB (YH hg _ _), fun q hq => ?_⟩, by simp only [intOf]; omega⟩
      rw [UF ys k q _ (by omega)]
      by_cases e : q = k
      . rw [if_pos e, e, hat.out]
      . rw [if_neg e]; exact hys.out q (by omega)
    . obtain rfl : k = 32 := by omega
      have e : ys = XX st := Z9 (by rw [hyl]; simp [XX]) fun q h => hys q (by rw [hyl] at h; exact h)
      subst e
      go_wp2
      refine bodyPost_end (results_none rfl _ _ _) rfl ?_
      exact ⟨⟨_, rfl⟩, hz, hg⟩
section
variable {P : Program} {ops : Array Oper} {md : Region.Mode}

structure Qdl where
 ka : Nat
 ks : Nat
 K : IntKind
 n : Nat
 v : List Int
inductive QfU where
 | plain
 | alloc (it : Qdl)
 | store (it : Qdl)
variable {ds : List (Option Tmp)} {dl : List (List Nat)} {G : World -> Prop} {F : H3} {base : Nat} {items : List Qdl} {a : Act}
end
end Go.Proofs.YtfachlmgdlnpoaaDoor
--@optional
namespace Go.Proofs.YtfachlmgdlnpoaaDoor
open Go.RowKit
set_option linter.unusedVariables false
set_option maxRecDepth 8000

end Go.Proofs.YtfachlmgdlnpoaaDoor
namespace Go.Proofs.YtfachlmgdlnpoaaDoor
open Go.RowKit
set_option linter.unusedVariables false
set_option linter.unusedSimpArgs false
set_option maxRecDepth 8000
set_option maxHeartbeats 2000000

section
variable {P : Program} {ops : Array Oper} {o : Oper} {a : Act} {w : World} {R : Value -> World -> Prop}

end
def pt (zs : List Int) (o : Nat) (ys : List Int) : List Int := zs.take o ++ ys ++ zs.drop (o + ys.length)
section
variable {P : Program} {ops : Array Oper} {o : Oper} {a : Act} {w : World} {R : Value -> World -> Prop}
end
section
variable {P : Program} {ops : Array Oper} {o : Oper} {a : Act} {w : World} {R : Value -> World -> Prop}
theorem G2 (K : IntKind) (n m : Nat) : madeCells (Array.replicate n (Value.int K 0)) m = if n = 0 then madeCells #[] m else Array.replicate m (Value.int K 0) := by
  by_cases hn : n = 0
  . subst hn; simp
  . rw [if_neg hn]
    apply Array.ext
    . simp [madeCells]
    . intro i h1 h2
      simp [madeCells]
      have : i % n < n := Nat.mod_lt _ (by omega)
      simp [this]
end
section
variable {P : Program} {ops : Array Oper} {o : Oper} {rest : List Oper} {a : Act} {w : World} {Q : Exit -> Act -> World -> Prop}
theorem H7 (hgd : o.guard = none) (d s : Operand) (t t' : TypeId) (ho : o.op = .call { callee := .builtin .copy, args := #[d, s], argTypes := #[t, t'] })
  (elem : TypeId) (hu : P.underlying t = some (.slice elem)) (hsz : (P.info? elem).map (·.size) = some 1) (B B' c c' n m : Nat) (hd : a.eval d = .slice (some ⟨B, 0, none⟩) n c) (hs : a.eval s = .slice (some ⟨B', 0, none⟩) m c') (K : IntKind) (zs ys : List Int)
  (hz : V9 K w B zs) (hy : ∀ q, q < m -> w.cell? ⟨B', q, none⟩ = some (.int K (QX ys q))) (hn : zs.length = n) (hm : ys.length = m) (hle : m <= n)
  (h : V9 K (w.setRow B ((ys.take m ++ zs.drop m).map (Value.int K)).toArray) B (ys.take m ++ zs.drop m) -> wpList P ops Q rest (a.put o.dst (goInt m)) (w.setRow B ((ys.take m ++ zs.drop m).map (Value.int K)).toArray)) : wpList P ops Q (o :: rest) a w := by
 subst hn
 have h' := h (hz.setRow _)
 refine wpList_plain hgd fun KK hK => ?_
 have hlt : (ys.take m).length = m := by simp [hm]
 obtain ⟨tz, hz⟩ := hz
 have hcell : ∀ j v, ((ys.take m).map (Value.int K))[j]? = some v -> w.cell? ((⟨B', 0, none⟩ : Addr).add j) = some v := by
  intro j v hj
  have hjm : j < m := by
   have := (List.getElem?_eq_some_iff.1 hj).1
   simpa [hm] using this
  have hc := hy j hjm
  rw [Addr.add_lit, Nat.zero_add, hc, <- hj]
  simp [hjm, QX, show j < ys.length by omega]
 have hr := run_copy_row (P := P) w t t' o.type elem B 0 zs.length c ⟨B', 0, none⟩ m c' _ tz ((ys.take m).map (Value.int K)) hu hsz hz (by rw [List.length_map, hlt]; exact (Nat.min_eq_left hle).symm) hcell (by simp only [List.size_toArray, List.length_map, hlt]; omega) (by intro v hv; obtain ⟨z, -, rfl⟩ := List.mem_map.1 hv; rfl)
 unfold Oper.wp execOp
 simp only [ho, resolve, invoke, builtin, Sem.run_bind, Sem.run_pure, Result.andThen_ok, List.map_toArray, List.map_cons, List.map_nil, hd, hs, hr]
 have e : (List.take 0 (zs.map (Value.int K)) ++ (ys.take m).map (Value.int K) ++ List.drop (0 + ((ys.take m).map (Value.int K)).length) (zs.map (Value.int K))) = (ys.take m ++ zs.drop m).map (Value.int K) := by
  rw [List.take_zero, List.nil_append, Nat.zero_add, List.length_map, hlt, List.map_append, List.map_drop]
 rw [e, List.length_map, hlt]
 exact hK _ _ h'
theorem H6 (hgd : o.guard = none) (t e : TypeId) (x y : Operand) (ho : o.op = .makeSlice t x y) (hu : P.underlying t = some (.slice e)) (K : IntKind) (hz : (P.info? e).bind (·.zero) = some (Value.int K 0)) (hs : (P.info? e).map (·.size) = some 1) (hb : (P.info? e).map (·.bytes) = some 1)
  (l n : Nat) (hx : a.eval x = .int .i64 l) (hy : a.eval y = .int .i64 n) (hle : l <= n) (hn : (n : Int) <= 281474976710656)
  (h : ∀ w1, V9 K w1 w.heap.size (List.replicate n 0) -> w.heap.size < w1.heap.size -> Below w.heap.size w w1 -> wpList P ops Q rest (a.put o.dst (.slice (some ⟨w.heap.size, 0, none⟩) l n)) w1) : wpList P ops Q (o :: rest) a w := by
 cases hi : P.info? e with
 | none => rw [hi] at hz; cases hz
 | some i =>
  rw [hi] at hz hs hb
  have hz' : i.zero = some (Value.int K 0) := hz
  have hs' : i.size = 1 := by simpa using hs
  have hb' : i.bytes = 1 := by simpa using hb
  refine wpList_plain hgd fun KK hK => ?_
  have hr := run_make w t e i _ hu hi hz' .i64 .i64 (l : Int) (n : Int) (by omega) (by omega) (by rw [hb']; omega) (by omega)
  have hm : madeCells (Value.int K 0).cells (n * 1) = ((List.replicate n (0 : Int)).map (Value.int K)).toArray := by
   have h1 := G2 K 1 (n * 1)
   rw [if_neg (by decide)] at h1
   rw [show (Value.int K 0).cells = Array.replicate 1 (Value.int K 0) from rfl, h1]
   simp
  unfold Oper.wp execOp
  simp only [ho, hx, hy, Sem.run_bind, hr, Int.toNat_natCast, hs', hm]
  refine hK _ _ (h _ ⟨e, ?_⟩ (Array.getElem?_eq_some_iff.1 (heap_alloc_new w _)).1 ((Below.refl _ _).alloc (Nat.le_refl _) _))
  rw [heap_alloc_new]
end
theorem JL {a b c : World} {row : Option Nat} (h : a.grownBy b row) (k : b.grownBy c row) : a.grownBy c row :=
 ⟨k.os.trans h.os, k.tape.trans h.tape, k.output.trans h.output, Nat.le_trans h.size k.size, fun i hi hne => (k.block i (Nat.lt_of_lt_of_le hi h.size) hne).trans (h.block i hi hne)⟩
theorem Gk {K : IntKind} {w w' : World} {B : Nat} {zs : List Int} (h : V9 K w B zs) {row : Option Nat} (hb : w.grownBy w' row) (hr : some B ≠ row) : V9 K w' B zs := by
 have hl := h.lt
 obtain ⟨t, h⟩ := h
 exact ⟨t, by rw [hb.block B hl hr]; exact h⟩
theorem Qa8 {w w' : World} {B : Nat} (h : w.grownBy w' (some B)) (p : Addr) (v : Value) (hp : w.heap.size <= p.block) : w.grownBy (w'.setCell p v) (some B) := by
  refine ⟨h.os, h.tape, h.output, ?_, fun k hk hne => ?_⟩
  . have := h.size
    simpa [World.setCell] using this
  . rw [heap_setCell_other w' p k v (by omega)]
    exact h.block k hk hne
def JH (p : List Int) (tot : Int) : Nat -> List Int
 | 0 => p
 | k + 1 => (JH p tot k).set (p.length - 1 - k) (tot * 8 / 2 ^ (8 * k) % 256)
theorem UV (p : List Int) (tot : Int) : ∀ k, (JH p tot k).length = p.length
 | 0 => rfl
 | k + 1 => by simp [JH, UV p tot k]
theorem GX {p : List Int} (h : ZK p) (tot : Int) : ∀ k, ZK (JH p tot k)
 | 0 => h
 | k + 1 => fun x hx => by
  rcases List.mem_or_eq_of_mem_set hx with h' | rfl
  . exact GX h tot k x h'
  . omega
def Xd (n : Nat) : Nat := (n + 1 + 8 + 64 - 1) / 64 * 64
theorem QaX (n : Nat) (h : n < 64) : V5 (n : Int) 32 = (Xd n : Nat) := by
 unfold V5 Xd
 rw [if_neg (by omega)]
 omega
theorem Uh (n : Nat) (h : n < 64) : n + 8 < Xd n /\ Xd n <= 128 /\ Xd n % 64 = 0 := by unfold Xd; omega
def VJ (hl : List Int) (n : Nat) : List Int := (hl.take n ++ List.replicate (Xd n - n) 0).set n 128
theorem GY (hl : List Int) (n : Nat) (h : n < 64) (hh : hl.length = n) : (VJ hl n).length = Xd n := by
 have := Uh n h
 simp [VJ, hh]
 omega
def Xr (st zs : List Int) : Nat -> List Int
 | 0 => st
 | k + 1 => XS (Xr st zs k) ((zs.drop (k * 64)).take 64)
set_option maxHeartbeats 4000000 in
theorem QcE (w : World) (B : Nat) (st : List Int) (hr : Zu w B st) (hT : ZM w) (hs : 0 ≠ B) (hc : 3 ≠ B) (Bh : Nat) (hl : List Int) (n : Nat) (hA : ∀ q, q < n -> w.cell? ⟨Bh, q, none⟩ = some (.int .u8 (QX hl q))) (hll : hl.length = n) (hn : n < 64) (hby : ZK hl) (tot : Int) (ht0 : 0 <= tot) (ht1 : tot < 72057594037927936) :
    Calls Tryd.prog 98 #[.pointer (some ⟨B, 0, none⟩), .slice (some ⟨Bh, 0, none⟩) n 64, .int .i64 tot] w fun e w' => (∃ v, e = .returned v) /\ Zu w' B (Xr st (JH (VJ hl n) tot 8) (Xd n / 64)) /\ w.grownBy w' (some B) := by
  have hB := hr.lt
  have hwd := hr.width
  have hpn := Uh n hn
  have hpl := GY hl n hn hll
  have hpb : ZK (VJ hl n) := fun x hx => by
    rcases List.mem_or_eq_of_mem_set hx with h | rfl
    . rcases List.mem_append.1 h with h | h
      . exact hby x (List.mem_of_mem_take h)
      . obtain ⟨-, rfl⟩ := List.mem_replicate.1 h; decide
    . decide
  have HP : ∀ W, Calls Tryd.prog 103 #[.int .i64 (n : Int), .int .i64 32] W fun e w' => e = .returned (.int .i64 ((Xd n : Nat) : Int)) /\ w' = W := fun W => by
    have h := Qcl (n : Int) 32 W (by omega) (by omega)
    rw [QaX n hn] at h
    exact h
  have hp0 : (hl.take n ++ List.replicate (Xd n - n) 0).set n 128 = VJ hl n := rfl
  have hrd : (List.replicate (Xd n) (0 : Int)).drop n = List.replicate (Xd n - n) 0 := by simp
  have hla : (hl.take n ++ List.replicate (Xd n - n) (0 : Int)).length = Xd n := by simp [hll]; omega
  obtain ⟨q0, hq0⟩ : ∃ q, hl.take n ++ List.replicate (Xd n - n) (0 : Int) = q := ⟨_, rfl⟩
  rw [hq0] at hp0 hla
  generalize VJ hl n = pb at *
  generalize Xd n = pn at *
  go_enter Tryd.func98, Tryd.ntmps98
  go_wp2_with (first
    | (go_at_call 103; (with_reducible refine (HP _).mono ?_); rintro e w1 ⟨rfl, rfl⟩)
    | (with_reducible refine Ko 17 ?_; refine H6 rfl 40 5 _ _ rfl Tryd.underlying40 .u8 (by kernel_rfl) (by kernel_rfl) (by kernel_rfl) pn pn rfl rfl (Nat.le_refl _) (by omega) ?_; intro w2 A2 s2 b2; have hr2 := hr.below b2; have hT2 := hT.below b2; have hA2 : ∀ q, q < n -> w2.cell? ⟨Bh, q, none⟩ = some (.int .u8 (QX hl q)) := fun q hq => by rw [b2.cell (World.block_lt_of_cell? _ _ (hA q hq))]; exact hA q hq)
    | (with_reducible refine Ko 20 ?_; refine H7 rfl _ _ _ _ rfl 5 Tryd.underlying40 (by kernel_rfl) w1.heap.size Bh _ _ pn n rfl rfl .u8 _ hl A2 hA2 (by simp) hll (by omega) ?_; rw [hrd, hq0]; intro A3; have c3 := A3.cell (k := n) (by omega); have f3 := A3.free (k := n) (by omega)))
  have hs2 := b2.size
  have hrA : Zu ((w2.setRow w1.heap.size (q0.map (Value.int .u8)).toArray).setCell ⟨w1.heap.size, n, none⟩ (.int .u8 128)) B st := hr2.but (YH (Jh _ _ _) _ _) (by simp; omega)
  have hTA : ZM ((w2.setRow w1.heap.size (q0.map (Value.int .u8)).toArray).setCell ⟨w1.heap.size, n, none⟩ (.int .u8 128)) := hT2.but (YH (Jh _ _ _) _ _) (by have := hT.lt.1; omega) (by have := hT.lt.2; omega)
  have hgA : w1.grownBy ((w2.setRow w1.heap.size (q0.map (Value.int .u8)).toArray).setCell ⟨w1.heap.size, n, none⟩ (.int .u8 128)) (some B) := KU ((Uo b2 (Nat.le_refl _) _).setCell (Nat.le_refl _) _) B
  have A4 := A3.set n 128
  rw [hp0] at A4
  generalize (w2.setRow w1.heap.size (q0.map (Value.int .u8)).toArray).setCell ⟨w1.heap.size, n, none⟩ (.int .u8 128) = w4 at *
  clear hr2 hT2 hA2 A2 A3 c3 f3 hp0 hla hrd hq0 hwd HP
  go_loopw [28] (fun i wr => ∃ (k : Nat), k <= 8 /\ i = .int .i64 k /\ Zu wr B st /\ ZM wr /\ V9 .u8 wr w1.heap.size (JH pb tot k) /\ w1.grownBy wr (some B)) (fun i _ => 8 - (intOf i).toNat)
  case atStart => exact ⟨0, by omega, rfl, hrA, hTA, A4, hgA⟩
  case round =>
    clear hrA hTA A4 hgA
    obtain ⟨k, hk, rfl, hr4, hT4, A4, hg4⟩ := hrel
    have hl4 := UV pb tot k
    by_cases hlt : k < 8
    . have hnx : JH pb tot (k + 1) = (JH pb tot k).set (pn - 1 - k) (tot * 8 / 2 ^ (8 * k) % 256) := by rw [<- hpl]; rfl
      generalize JH pb tot k = ps at *
      obtain ⟨j, e1, ej⟩ : ∃ j : Nat, (pn : Int) - 1 - (k : Int) = (j : Int) /\ pn - 1 - k = j := ⟨pn - 1 - k, by omega, rfl⟩
      rw [ej] at hnx
      have hj : j < pn := by omega
      have hjI : (j : Int) < pn := by omega
      have cj := A4.cell (k := j) (by omega)
      have fj := A4.free (k := j) (by omega)
      replace hnx := Lib.hid hnx
      clear ej
      go_wp2
      refine ⟨⟨k + 1, by omega, by go_num, hr4.but (YH (World.grownBy.refl wr (some w1.heap.size)) j _) (by simp; omega), hT4.but (YH (World.grownBy.refl wr (some w1.heap.size)) j _) (by have := hT.lt.1; omega) (by have := hT.lt.2; omega), ?_, ?_⟩, by simp only [intOf]; omega⟩
      . rw [hnx.out]
        exact A4.set j _
      . exact Qa8 hg4 _ _ (Nat.le_refl _)
    . obtain rfl : k = 8 := by omega
      have hwd := hr4.width
      have hpsb := GX hpb tot 8
      generalize hps : JH pb tot 8 = ps at *
      replace hps := Lib.hid hps
      have HBS := fun W => U2 32 W (by omega)
      obtain ⟨nb, hnb⟩ : ∃ nb, pn / 64 = nb := ⟨_, rfl⟩
      have hpnb : pn = nb * 64 := by omega
      have hps0 : ps.length = pn := by rw [hl4, hpl]
      clear hl4
      replace hnb := Lib.hid hnb
      replace hpnb := Lib.hid hpnb
      go_wp2_with (first
        | (go_at_call 96; (with_reducible refine (HBS _).mono ?_); rintro e w9 ⟨rfl, rfl⟩))
      go_loopw [6] (fun v wr => ∃ (k m o' : Nat), k <= nb /\ m = pn - k * 64 /\ (0 < m -> o' = k * 64) /\ v = .slice (some ⟨w1.heap.size, o', none⟩) m m /\ Zu wr B (Xr st ps k) /\ ZM wr /\ V9 .u8 wr w1.heap.size ps /\ w1.grownBy wr (some B)) (fun v _ => match v with | .slice _ n _ => n | _ => 0)
      case atStart => exact ⟨0, pn, 0, by omega, by omega, fun _ => by omega, rfl, hr4, hT4, A4, hg4⟩
      case round =>
        clear hr4 hT4 A4 hg4 hwd
        obtain ⟨k, m, o', hk, hm, ho', rfl, hr4, hT4, A4, hg4⟩ := hrel
        have hpn2 := hpnb.out
        by_cases hlt : k < nb
        . obtain rfl : o' = k * 64 := ho' (by omega)
          clear ho'
          have hmI : (0 : Int) < (m : Int) := by omega
          have hmB : (64 : Int) <= (m : Int) := by omega
          have hlen : ((ps.drop (k * 64)).take 64).length = 64 := by simp; omega
          have hv : H2 .u8 wr (.slice (some ⟨w1.heap.size, k * 64, none⟩) 64 m) ((ps.drop (k * 64)).take 64) := by
            refine ⟨some ⟨w1.heap.size, k * 64, none⟩, m, by rw [hlen], by omega, by unfold maxLen; omega, fun q hq => ⟨_, _, rfl, ?_⟩, by simp⟩
            rw [hlen] at hq
            have hcq := A4.cell (k := k * 64 + q) (by omega)
            rw [hcq]
            simp [QX, hq]
          have hvb : ZK ((ps.drop (k * 64)).take 64) := fun x hx => hpsb x (List.mem_of_mem_drop (List.mem_of_mem_take hx))
          have hnx : Xr st ps (k + 1) = XS (Xr st ps k) ((ps.drop (k * 64)).take 64) := rfl
          generalize (ps.drop (k * 64)).take 64 = zs at *
          generalize Xr st ps k = s1 at *
          have HT := FY wr B s1 hr4 hT4 hs hc _ zs hv hvb hlen
          replace hnx := Lib.hid hnx
          replace hm := Lib.hid hm
          clear hpn2
          go_wp2_with (first
            | (go_at_call 97; (with_reducible refine HT.mono ?_); rintro e w9 ⟨⟨v9, rfl⟩, hr9, hg9⟩))
          have hm2 := hm.out
          have hpn3 := hpnb.out
          have hne : B ≠ w1.heap.size := by omega
          have hT9 := hT4.but hg9 hs hc
          have A9 := Gk A4 hg9 (by simpa using fun e => hne e.symm)
          have hg10 := JL hg4 hg9
          by_cases e : m = 64
          . rw [if_pos e]
            refine ⟨⟨k + 1, m - 64, k * 64, by omega, by omega, fun h => by omega, rfl, ?_, hT9, A9, hg10⟩, by show m - 64 < m; omega⟩
            rw [hnx.out]; exact hr9
          . rw [if_neg e]
            refine ⟨⟨k + 1, m - 64, k * 64 + 64, by omega, by omega, fun h => by omega, rfl, ?_, hT9, A9, hg10⟩, by show m - 64 < m; omega⟩
            rw [hnx.out]; exact hr9
        . obtain rfl : k = nb := by omega
          have hm0 : m = 0 := by omega
          subst hm0
          clear hm hpn2
          go_wp2
          refine bodyPost_end (results_none rfl _ _ _) rfl ?_
          rw [hnb.out, hps.out]
          exact ⟨⟨_, rfl⟩, hr4, hg4⟩
end Go.Proofs.YtfachlmgdlnpoaaDoor
