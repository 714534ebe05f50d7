/- Package scalar, walked by the machine of symbols: what is left, products, the package's functions. Package scalar, walked by the machine of symbols: R -/
import Derived.Test.YtbiboamaigedjaaGreatDoorEVC
namespace Go.Proofs.YtbiboamaigedjaaGreatDoor
open Go.RowKit
set_option linter.unusedVariables false
set_option linter.unusedSimpArgs false
set_option maxRecDepth 8000
set_option maxHeartbeats 2000000

def Dy (xs : List Int) (k : Nat) : List Int := Qf 4 (Qj xs 8 / 2 ^ (512 - k) % QH)
theorem KQ (xs : List Int) (k : Nat) : (Dy xs k).length = 4 := Qa _ _
theorem UC (xs : List Int) (k : Nat) : Qt (Dy xs k) := Qx _ _
theorem Qg8 (xs : List Int) (k : Nat) : Qj (Dy xs k) 4 = Qj xs 8 / 2 ^ (512 - k) % QH := by
  have h : 0 <= Qj xs 8 / 2 ^ (512 - k) % QH /\ Qj xs 8 / 2 ^ (512 - k) % QH < 2 ^ 256 := by unfold QH; omega
  exact QZ h.1 h.2
theorem QeH {xs : List Int} (hx : Qt xs) : Dy xs 0 = [0, 0, 0, 0] := by
  have h8 := XX xs hx 8
  unfold Dy
  rw [Nat.sub_zero, Int.ediv_eq_zero_of_lt h8.1 h8.2]
  decide +kernel
theorem QeI {xs : List Int} (hx : Qt xs) {k : Nat} (hk : k < 512) : Hb (KF (Dy xs k) (Hh xs (511 - k))) = Dy xs (k + 1) := by
  have hb := Hg xs (511 - k)
  have hd := U7 (Dy xs k) (UC xs k) _ hb
  exact UE (QbD hd) (Qak rfl) (QeG xs hx (Dy xs k) (UC xs k) 8 k (by omega) (Qg8 xs k))
theorem QlH {xs : List Int} (hx : Qt xs) {k : Nat} (hk : k < 512) : bits .and .u64 (xs.getD (Int.toNat ((511 - (k : Int)) / 64)) 0 / 2 ^ Int.toNat ((511 - (k : Int)) % 64)) 1 = Hh xs (511 - k) := by
  have e1 : Int.toNat ((511 - (k : Int)) / 64) = (511 - k) / 64 := by omega
  have e2 : Int.toNat ((511 - (k : Int)) % 64) = (511 - k) % 64 := by omega
  rw [e1, e2, QE]
  have hx64 := hx.at ((511 - k) / 64)
  have h0 : 0 <= Qb xs ((511 - k) / 64) / 2 ^ ((511 - k) % 64) := Int.ediv_nonneg hx64.1 (Int.le_of_lt (Q7 _))
  have h1 : Qb xs ((511 - k) / 64) / 2 ^ ((511 - k) % 64) <= Qb xs ((511 - k) / 64) := Int.ediv_le_self _ hx64.1
  exact Zs _ 1 1 rfl (by omega) h0 (by omega)
set_option maxHeartbeats 1000000 in
theorem HX {xs : List Int} (hx : Qt xs) (hl : xs.length = 8) : PV Tryz.prog gT 42 [.a .u64 xs 8] (.a .u64 (Qf 4 (Qj xs 8 % QH)) 4) := by
  have e : Qf 4 (Qj xs 8 % QH) = Dy xs 512 := by unfold Dy; simp
  rw [e]
  refine PV.mk' Tryz.func42 rfl rfl rfl rfl fun w L hL hG => ?_
  refine S.enter Qm [.a .u64 xs 8] gT Tryz.func42 rfl rfl rfl (fun _ => rfl) hL hG ?_
  refine S.go false rfl (by repeat' (first | exact True.intro | refine And.intro ?_ ?_ | assumption | omega | (dsimp only; omega) | (simp only [Nat.add_eq, Nat.mul_eq, Nat.sub_eq, SV.wd]; omega) | exact rfl)) ?_
  refine S.recell 2 [.a .u64 (Dy xs 0) 4] rfl (fun ρ => by rw [QeH hx]; rfl) ⟨KQ xs 0, trivial⟩ rfl ?_
  refine S.loop [1, 2, 3] (fun k : Nat => [(6, .i .i64 (k : Int))]) (fun k => [(0, [.a .u64 xs 8]), (1, [.i .u64 0, .i .u64 0, .i .u64 0, .i .u64 0]), (2, [.a .u64 (Dy xs k) 4])]) (fun _ => []) (fun k => k <= 512) (fun k => 512 - k) 0 rfl (fun _ => rfl) (fun _ => rfl) rfl ⟨⟨rfl, rfl⟩, trivial⟩ (by repeat' (first | exact True.intro | refine And.intro ?_ ?_ | exact KQ xs 0 | assumption | exact rfl)) (fun _ _ _ => trivial) (by omega) fun J k hk again => ?_
  have hk' : k <= 512 := hk
  have hlen := KQ xs k
  have hlen' := KQ xs (k + 1)
  refine S.g false rfl ?_
  refine S.cond rfl (fun c => ?_) (fun c => ?_)
  . have c' : k < 512 := by omega
    have hb := Hg xs (511 - k)
    have hbe := QlH hx c'
    have h1 := (QdM (UC xs k) hlen hb)
    have h2 := QkR (U7 (Dy xs k) (UC xs k) _ hb) rfl
    rw [QeI hx c'] at h2
    rw [<- hbe] at h1
    have hdl : (KF (Dy xs k) (Hh xs (511 - k))).length = 4 := rfl
    rw [hbe] at h1
    generalize KF (Dy xs k) (Hh xs (511 - k)) = ds at *
    rw [<- hbe] at h1
    refine S.g false rfl ?_
    refine S.drp false [(9, .a .u64 ds 4), (10, .a .u64 (Dy xs (k + 1)) 4)] rfl rfl rfl ?_ (by repeat' (first | exact True.intro | refine And.intro ?_ ?_ | assumption | omega | (dsimp only; omega) | (simp only [Nat.add_eq, Nat.mul_eq, Nat.sub_eq, SV.wd]; omega) | exact rfl))
    refine S.g false rfl ?_
    refine S.again (again (k + 1) (show k + 1 <= 512 by omega) (show 512 - (k + 1) < 512 - k by omega)) ⟨⟨rfl, by omega⟩, rfl, rfl, rfl, trivial⟩ ?_ rfl rfl (fun x hx => hx) rfl (fun ρ W h => h.hs)
    repeat' (first | exact True.intro | refine And.intro ?_ ?_ | assumption | exact rfl)
  . obtain rfl : k = 512 := by omega
    refine S.go false rfl (by repeat' (first | exact True.intro | refine And.intro ?_ ?_ | assumption | omega | (dsimp only; omega) | (simp only [Nat.add_eq, Nat.mul_eq, Nat.sub_eq, SV.wd]; omega) | exact rfl)) ?_
    exact S.retv rfl rfl rfl rfl rfl
structure TSt where
  k : Nat
  p : List Int
structure TIn where
  j : Nat
  p : List Int
  c : Int
/-- One product among words, and what is carried. -/
theorem Qky {x y p c : Int} (hx : 0 <= x /\ x < 18446744073709551616) (hy : 0 <= y /\ y < 18446744073709551616) (hp : 0 <= p /\ p < 18446744073709551616) (hc : 0 <= c /\ c < 18446744073709551616) :
    (0 <= x * y / 18446744073709551616 /\ x * y / 18446744073709551616 < 18446744073709551616) /\ (0 <= x * y % 18446744073709551616 /\ x * y % 18446744073709551616 < 18446744073709551616) /\ (0 <= x * y / 18446744073709551616 + (x * y % 18446744073709551616 + p + 0) / 18446744073709551616 /\ x * y / 18446744073709551616 + (x * y % 18446744073709551616 + p + 0) / 18446744073709551616 < 18446744073709551616) /\ (0 <= x * y / 18446744073709551616 + (x * y % 18446744073709551616 + p + 0) / 18446744073709551616 + ((x * y % 18446744073709551616 + p + 0) % 18446744073709551616 + c + 0) / 18446744073709551616 /\ x * y / 18446744073709551616 + (x * y % 18446744073709551616 + p + 0) / 18446744073709551616 + ((x * y % 18446744073709551616 + p + 0) % 18446744073709551616 + c + 0) / 18446744073709551616 < 18446744073709551616) /\ ((x * y % 18446744073709551616 + p + 0) % 18446744073709551616 + c + 0) % 18446744073709551616 + (x * y / 18446744073709551616 + (x * y % 18446744073709551616 + p + 0) / 18446744073709551616 + ((x * y % 18446744073709551616 + p + 0) % 18446744073709551616 + c + 0) / 18446744073709551616) * 18446744073709551616 = x * y + p + c := by
  have hm := Fh (p := p) (c := c) hx hy
  generalize x * y = m at *
  omega
set_option maxHeartbeats 4000000 in
theorem QgG {xs ys cs : List Int} (hx : Qt xs) (hy : Qt ys) (hc : Qt cs) (hxl : xs.length = 4) (hyl : ys.length = 4) (hcl : cs.length = 4) : PV Tryz.prog gT 53 [.a .u64 xs 4, .a .u64 ys 4, .a .u64 cs 4] (.a .u64 (Qf 8 (Qj cs 4 + Qj xs 4 * Qj ys 4)) 8) := by
  refine PV.mk' Tryz.func53 rfl rfl rfl rfl fun w L hL hG => ?_
  refine S.enter Qm [.a .u64 xs 4, .a .u64 ys 4, .a .u64 cs 4] gT Tryz.func53 rfl rfl rfl (fun _ => rfl) hL hG ?_
  refine S.go false rfl (by repeat' (first | exact True.intro | refine And.intro ?_ ?_ | assumption | omega | (dsimp only; omega) | (simp only [Nat.add_eq, Nat.mul_eq, Nat.sub_eq, SV.wd]; omega) | exact rfl)) ?_
  refine S.recell 4 [.a .u64 (List.replicate 8 0) 8] rfl (fun ρ => rfl) ⟨rfl, trivial⟩ rfl ?_
  refine S.dr0 false rfl rfl rfl ?_ (by repeat' (first | exact True.intro | refine And.intro ?_ ?_ | exact rfl | decide))
  have hpl : (cs ++ [0, 0, 0, 0]).length = 8 := by simp [hcl]
  refine S.recell 4 [.a .u64 (cs ++ [0, 0, 0, 0]) 8] rfl (fun ρ => congrArg (fun z => Qk ρ [SV.a .u64 z 8]) (by
    show (List.take 0 _ ++ (List.take (Nat.min 4 8) (List.drop 0 cs) ++ List.drop (Nat.add 0 (Nat.min 4 8)) (List.replicate 8 (0 : Int)))) = _
    rw [List.drop_zero, List.take_zero, show Nat.min 4 8 = 4 from rfl, List.take_of_length_le (by omega)]
    rfl)) ⟨hpl, trivial⟩ rfl ?_
  refine S.g false rfl ?_
  refine S.loop [3, 4, 5, 6, 7] (fun s : TSt => [(18, .i .i64 (s.k : Int))]) (fun s => [(0, [.a .u64 xs 4]), (1, [.a .u64 ys 4]), (2, [.a .u64 cs 4]), (3, [.i .u64 0, .i .u64 0, .i .u64 0, .i .u64 0, .i .u64 0, .i .u64 0, .i .u64 0, .i .u64 0]), (4, [.a .u64 s.p 8])]) (fun _ => []) (fun s => s.k <= 4 /\ Qt s.p /\ s.p.length = 8 /\ Qj s.p 8 = Qj cs 4 + Qj xs s.k * Qj ys 4) (fun s => 4 - s.k) ⟨0, cs ++ [0, 0, 0, 0]⟩ rfl (fun _ => rfl) (fun _ => rfl) rfl ⟨⟨rfl, rfl⟩, trivial⟩ (by repeat' (first | exact True.intro | refine And.intro ?_ ?_ | assumption | exact rfl)) (fun _ _ _ => trivial) ⟨by show (0 : Nat) <= 4; omega, Qdm hc, hpl, by rw [Qd8 cs hcl]; simp [Qj]⟩ fun J s hs again => ?_
  obtain ⟨k, ps⟩ := s
  obtain ⟨hk, hpw, hpl2, hpv⟩ := hs
  simp only at hk hpw hpl2 hpv
  dsimp only
  refine S.g false rfl ?_
  refine S.cond rfl (fun c => ?_) (fun c => ?_)
  . have ck : k < 4 := by omega
    refine S.g false rfl ?_
    refine S.loop [3, 4, 5, 6, 7, 8, 18] (fun s : TIn => [(9, .i .u64 s.c), (21, .i .i64 (s.j : Int))]) (fun s => [(0, [.a .u64 xs 4]), (1, [.a .u64 ys 4]), (2, [.a .u64 cs 4]), (3, [.i .u64 0, .i .u64 0, .i .u64 0, .i .u64 0, .i .u64 0, .i .u64 0, .i .u64 0, .i .u64 0]), (4, [.a .u64 s.p 8])]) (fun _ => []) (fun s => s.j <= 4 /\ Qt s.p /\ s.p.length = 8 /\ (0 <= s.c /\ s.c < 18446744073709551616) /\ Qj s.p 8 + s.c * 2 ^ (64 * (k + s.j)) = (Qj cs 4 + Qj xs k * Qj ys 4) + Qb xs k * Qj ys s.j * 2 ^ (64 * k)) (fun s => 4 - s.j) ⟨0, ps, 0⟩ rfl (fun _ => rfl) (fun _ => rfl) rfl ⟨⟨rfl, rfl⟩, ⟨rfl, rfl⟩, trivial⟩ (by repeat' (first | exact True.intro | refine And.intro ?_ ?_ | assumption | exact rfl)) (fun _ _ _ => trivial) ⟨by show (0 : Nat) <= 4; omega, hpw, hpl2, ⟨by show (0 : Int) <= 0; omega, by show (0 : Int) < 18446744073709551616; omega⟩, by rw [hpv]; simp [Qj]⟩ fun J2 s2 hs2 again2 => ?_
    obtain ⟨j, qs, e⟩ := s2
    obtain ⟨hj, hqw, hql, he, hqv⟩ := hs2
    simp only at hj hqw hql he hqv
    dsimp only
    refine S.g false rfl ?_
    refine S.cond rfl (fun c2 => ?_) (fun c2 => ?_)
    . have cj : j < 4 := by omega
      have e1 : xs.getD (Int.toNat (k : Int)) 0 = Qb xs k := by rw [Int.toNat_natCast, QE]
      have e2 : ys.getD (Int.toNat (j : Int)) 0 = Qb ys j := by rw [Int.toNat_natCast, QE]
      have e4 : Int.toNat ((k : Int) + (j : Int)) = k + j := by omega
      have e3 : qs.getD (Int.toNat ((k : Int) + (j : Int))) 0 = Qb qs (k + j) := by rw [e4, QE]
      have hxk : 0 <= xs.getD (Int.toNat (k : Int)) 0 /\ xs.getD (Int.toNat (k : Int)) 0 < 18446744073709551616 := by rw [e1]; exact hx.at k
      have hyj : 0 <= ys.getD (Int.toNat (j : Int)) 0 /\ ys.getD (Int.toNat (j : Int)) 0 < 18446744073709551616 := by rw [e2]; exact hy.at j
      have hqj : 0 <= qs.getD (Int.toNat ((k : Int) + (j : Int))) 0 /\ qs.getD (Int.toNat ((k : Int) + (j : Int))) 0 < 18446744073709551616 := by rw [e3]; exact hqw.at (k + j)
      obtain ⟨m1, m2, m3, m4, m5⟩ := Qky hxk hyj hqj he
      have hM := KW _ _ hxk hyj
      have hstep := Dv qs xs ys k j _ e _ _ hql ck cj hqv (by rw [<- e1, <- e2, <- e3]; exact m5)
      generalize xs.getD (Int.toNat (k : Int)) 0 * ys.getD (Int.toNat (j : Int)) 0 / 18446744073709551616 = mh at *
      generalize xs.getD (Int.toNat (k : Int)) 0 * ys.getD (Int.toNat (j : Int)) 0 % 18446744073709551616 = ml at *
      refine S.g false rfl ?_
      refine S.drp (G := gT) false [(6, .t [.i .u64 mh, .i .u64 ml])] rfl rfl rfl ?_ (by repeat' (first | exact True.intro | refine And.intro ?_ ?_ | assumption | omega | (dsimp only; omega) | (simp only [Nat.add_eq, Nat.mul_eq, Nat.sub_eq, SV.wd]; omega) | exact rfl))
      refine S.g false rfl ?_
      refine S.ext rfl rfl rfl rfl rfl rfl rfl (Yg _ _ _ (by omega) hqj.1 (by omega) (by omega)) rfl ?_
      generalize qs.getD (Int.toNat ((k : Int) + (j : Int))) 0 = q at *
      generalize hl1 : (ml + q + 0) % 18446744073709551616 = l1 at *
      generalize ho1 : (ml + q + 0) / 18446744073709551616 = o1 at *
      refine S.go false rfl (by repeat' (first | exact True.intro | refine And.intro ?_ ?_ | assumption | omega | (dsimp only; omega) | (simp only [Nat.add_eq, Nat.mul_eq, Nat.sub_eq, SV.wd]; omega) | exact rfl)) ?_
      refine S.ext rfl rfl rfl rfl rfl rfl rfl (Yg _ _ _ (by omega) he.1 (by omega) (by omega)) rfl ?_
      have hl2 : 0 <= (l1 + e + 0) % 18446744073709551616 /\ (l1 + e + 0) % 18446744073709551616 < 18446744073709551616 := by omega
      generalize hl2e : (l1 + e + 0) % 18446744073709551616 = l2 at *
      generalize ho2 : (l1 + e + 0) / 18446744073709551616 = o2 at *
      refine S.go false rfl (by repeat' (first | exact True.intro | refine And.intro ?_ ?_ | omega | (dsimp only; omega) | (simp only [Nat.add_eq, Nat.mul_eq, Nat.sub_eq, SV.wd]; omega) | exact rfl)) ?_
      have hsl : (qs.set (Int.toNat ((k : Int) + (j : Int))) l2).length = 8 := by rw [List.length_set]; exact hql
      refine S.again (again2 ⟨j + 1, qs.set (k + j) l2, mh + o1 + o2⟩ ⟨by show j + 1 <= 4; omega, hqw.set _ hl2, by simp [hql], m4, hstep⟩ (show 4 - (j + 1) < 4 - j by omega)) ⟨⟨rfl, rfl⟩, ⟨rfl, by simp only; omega⟩, rfl, rfl, rfl, rfl, rfl, ⟨rfl, rfl⟩, ⟨rfl, rfl⟩, trivial⟩ ?_ rfl rfl (fun x hx => hx) rfl (fun ρ W h => h.hs)
      repeat' (first | exact True.intro | refine And.intro ?_ ?_ | assumption | exact congrArg (fun z => SV.a .u64 (qs.set z l2) 8) e4 | (show (qs.set (k + j) l2).length = 8; simp only [List.length_set]; exact hql) | exact rfl)
    . obtain rfl : j = 4 := by omega
      refine S.g false rfl ?_
      refine S.loop [3, 4, 5, 6, 7, 18] (fun s : TIn => [(9, .i .u64 s.c), (14, .i .i64 (s.j : Int))]) (fun s => [(0, [.a .u64 xs 4]), (1, [.a .u64 ys 4]), (2, [.a .u64 cs 4]), (3, [.i .u64 0, .i .u64 0, .i .u64 0, .i .u64 0, .i .u64 0, .i .u64 0, .i .u64 0, .i .u64 0]), (4, [.a .u64 s.p 8])]) (fun _ => []) (fun s => s.j <= 8 /\ k + 4 <= s.j /\ Qt s.p /\ s.p.length = 8 /\ (0 <= s.c /\ s.c < 18446744073709551616) /\ Qj s.p 8 + s.c * 2 ^ (64 * s.j) = (Qj cs 4 + Qj xs k * Qj ys 4) + Qb xs k * Qj ys 4 * 2 ^ (64 * k)) (fun s => 8 - s.j) ⟨k + 4, qs, e⟩ rfl (fun _ => rfl) (fun _ => rfl) rfl ⟨⟨rfl, rfl⟩, ⟨rfl, by simp only; omega⟩, trivial⟩ (by repeat' (first | exact True.intro | refine And.intro ?_ ?_ | assumption | exact rfl)) (fun _ _ _ => trivial) ⟨by show k + 4 <= 8; omega, by show k + 4 <= k + 4; omega, hqw, hql, he, hqv⟩ fun J3 s3 hs3 again3 => ?_
      obtain ⟨t, us, g⟩ := s3
      obtain ⟨ht, ht4, huw, hul, hg, huv⟩ := hs3
      simp only at ht ht4 huw hul hg huv
      dsimp only
      refine S.g false rfl ?_
      refine S.cond rfl (fun c3 => ?_) (fun c3 => ?_)
      . have c3' : t < 8 := by omega
        have e5 : us.getD (Int.toNat (t : Int)) 0 = Qb us t := by rw [Int.toNat_natCast, QE]
        have hut : 0 <= us.getD (Int.toNat (t : Int)) 0 /\ us.getD (Int.toNat (t : Int)) 0 < 18446744073709551616 := by rw [e5]; exact huw.at t
        have hst := HM us t _ g ((us.getD (Int.toNat (t : Int)) 0 + g + 0) % 18446744073709551616) ((us.getD (Int.toNat (t : Int)) 0 + g + 0) / 18446744073709551616) hul c3' huv (by rw [<- e5]; omega)
        refine S.go false rfl (by repeat' (first | exact True.intro | refine And.intro ?_ ?_ | assumption | omega | (dsimp only; omega) | (simp only [Nat.add_eq, Nat.mul_eq, Nat.sub_eq, SV.wd]; omega) | exact rfl)) ?_
        refine S.ext rfl rfl rfl rfl rfl rfl rfl (Yg _ _ _ hut.1 hg.1 (by omega) (by omega)) rfl ?_
        generalize us.getD (Int.toNat (t : Int)) 0 = u at *
        have hl2 : 0 <= (u + g + 0) % 18446744073709551616 /\ (u + g + 0) % 18446744073709551616 < 18446744073709551616 := by omega
        have hc2 : 0 <= (u + g + 0) / 18446744073709551616 /\ (u + g + 0) / 18446744073709551616 < 18446744073709551616 := by omega
        generalize (u + g + 0) % 18446744073709551616 = l2 at *
        generalize (u + g + 0) / 18446744073709551616 = o2 at *
        refine S.go false rfl (by repeat' (first | exact True.intro | refine And.intro ?_ ?_ | omega | (dsimp only; omega) | (simp only [Nat.add_eq, Nat.mul_eq, Nat.sub_eq, SV.wd]; omega) | exact rfl)) ?_
        refine S.again (again3 ⟨t + 1, us.set t l2, o2⟩ ⟨by show t + 1 <= 8; omega, by show k + 4 <= t + 1; omega, huw.set _ hl2, by simp [hul], hc2, hst⟩ (show 8 - (t + 1) < 8 - t by omega)) ⟨⟨rfl, rfl⟩, ⟨rfl, by simp only; omega⟩, rfl, rfl, rfl, rfl, rfl, ⟨rfl, rfl⟩, trivial⟩ ?_ rfl rfl (fun x hx => hx) rfl (fun ρ W h => h.hs)
        repeat' (first | exact True.intro | refine And.intro ?_ ?_ | assumption | exact congrArg (fun z => SV.a .u64 (us.set z l2) 8) (Int.toNat_natCast t) | (show (us.set t l2).length = 8; simp only [List.length_set]; exact hul) | exact rfl)
      . obtain rfl : t = 8 := by omega
        have hend := Qg2 us xs ys cs hx hy hc huw k ck g hg.1 huv
        refine S.g false rfl ?_
        refine S.again (again ⟨k + 1, us⟩ ⟨by show k + 1 <= 4; omega, huw, hul, hend⟩ (show 4 - (k + 1) < 4 - k by omega)) ⟨⟨rfl, by simp only; omega⟩, rfl, rfl, rfl, rfl, rfl, trivial⟩ ?_ rfl rfl (fun x hx => hx) rfl (fun ρ W h => h.hs)
        repeat' (first | exact True.intro | refine And.intro ?_ ?_ | assumption | exact rfl)
  . obtain rfl : k = 4 := by omega
    refine S.go false rfl (by repeat' (first | exact True.intro | refine And.intro ?_ ?_ | assumption | omega | (dsimp only; omega) | (simp only [Nat.add_eq, Nat.mul_eq, Nat.sub_eq, SV.wd]; omega) | exact rfl)) ?_
    have hp8 := JA ps hpw 8 hpl2
    rw [hpv] at hp8
    rw [<- hp8]
    exact S.retv rfl rfl rfl rfl rfl
theorem Qg4 {za : List Int} (hb : Qe za) (hl : za.length = 32) : PV Tryz.prog gT 26 [.a .u8 za 32] (.c (Qp za 32 < QH) inferInstance) := by
  have hv := Zj za hb
  have h1 := Ec hb hl
  have h2 := Qcf
  have h3 := Qfz (Qx 4 (Qp za 32)) ZI (Qa _ _) rfl
  have hb := K6 (Qf 4 (Qp za 32)) Vh (Qx _ _) ZI 4
  rw [QZ hv.1 hv.2, HI] at hb
  have hnl := Qa 4 (Qp za 32)
  have hsl : (Yu (Qf 4 (Qp za 32)) Vh 4).length = 4 := by simp [Yu]
  have key : ∀ b : Int, (b = if Qp za 32 < QH then 1 else 0) -> ((SV.c (b = 1) inferInstance).den QK = (SV.c (Qp za 32 < QH) inferInstance).den QK) := fun b hb => by
    simp only [SV.den]
    rw [hb]
    split <;> simp_all
  have hk := key _ hb
  clear hb key
  generalize U9 (Qf 4 (Qp za 32)) Vh 4 = b at *
  generalize Yu (Qf 4 (Qp za 32)) Vh 4 = ds at *
  generalize Qf 4 (Qp za 32) = ns at *
  refine PV.res (v := .c (b = 1) inferInstance) (PV.mk' Tryz.func26 rfl rfl rfl rfl fun w L hL hG => ?_) hk rfl
  refine S.enter Qm [.a .u8 za 32] gT Tryz.func26 rfl rfl rfl (fun _ => rfl) hL hG ?_
  refine S.go false rfl (by repeat' (first | exact True.intro | refine And.intro ?_ ?_ | assumption | omega | (dsimp only; omega) | (simp only [Nat.add_eq, Nat.mul_eq, Nat.sub_eq, SV.wd]; omega) | exact rfl)) ?_
  refine S.cv rfl rfl rfl rfl rfl rfl h1 ?_
  refine S.g false rfl ?_
  refine S.cv rfl rfl rfl rfl rfl rfl h2 ?_
  refine S.g false rfl ?_
  refine S.cv rfl rfl rfl rfl rfl rfl h3 ?_
  refine S.go false rfl (by repeat' (first | exact True.intro | refine And.intro ?_ ?_ | assumption | omega | (dsimp only; omega) | (simp only [Nat.add_eq, Nat.mul_eq, Nat.sub_eq, SV.wd]; omega) | exact rfl)) ?_
  exact S.retv rfl rfl rfl rfl rfl
set_option maxHeartbeats 1000000 in
theorem Dx {za : List Int} (hb : Qe za) (hl : za.length = 64) : PV Tryz.prog gT 18 [.a .u8 za 64] (.a .u8 (Q2 (Qp za 64 % QH)) 32) := by
  have h64 := QgC za hb
  have h1 := HX (Qx 8 (Qp za 64)) (Qa _ _)
  have e64 : (2 : Int) ^ (64 * 8) = 2 ^ 256 * 2 ^ 256 := by rw [<- Int.pow_add]
  have h642 : Qp za 64 < 2 ^ (64 * 8) := by rw [e64]; exact h64.2
  rw [JU 8 _ h64.1, Int.emod_eq_of_lt h64.1 h642] at h1
  rw [<- Ed za hb 8, <- Ei za 8] at h1
  have h2 := QcL (Qp za 64 % QH)
  have hbl := QM (Qp za 64 % QH)
  have hnl := Qa 4 (Qp za 64 % QH)
  generalize Qf 4 (Qp za 64 % QH) = ns at *
  generalize Q2 (Qp za 64 % QH) = bs at *
  refine PV.mk' Tryz.func18 rfl rfl rfl rfl fun w L hL hG => ?_
  refine S.enter Qm [.a .u8 za 64] gT Tryz.func18 rfl rfl rfl (fun _ => rfl) hL hG ?_
  refine S.go false rfl (by repeat' (first | exact True.intro | refine And.intro ?_ ?_ | assumption | omega | (dsimp only; omega) | (simp only [Nat.add_eq, Nat.mul_eq, Nat.sub_eq, SV.wd]; omega) | exact rfl)) ?_
  refine S.recell 2 [.a .u64 (EW za 8 0) 8] rfl (fun ρ => by rw [GU]; rfl) ⟨Zl za 8 0, trivial⟩ rfl ?_
  refine S.loop [2, 3, 6] (fun k : Nat => [(7, .i .i64 (k : Int))]) (fun k => [(1, [.a .u8 (List.replicate 32 0) 32]), (2, [.a .u64 (EW za 8 k) 8])]) (fun _ => []) (fun k => k <= 64) (fun k => 64 - k) 0 rfl (fun _ => rfl) (fun _ => rfl) rfl ⟨⟨rfl, rfl⟩, trivial⟩ (by repeat' (first | exact True.intro | refine And.intro ?_ ?_ | exact Zl za 8 0 | exact rfl)) (fun _ _ _ => trivial) (by omega) fun J k hk again => ?_
  have hk' : k <= 64 := hk
  have hlen := Zl za 8 k
  have hlen' := Zl za 8 (k + 1)
  refine S.g false rfl ?_
  refine S.cond rfl (fun c => ?_) (fun c => ?_)
  . have c' : k < 64 := by omega
    have hr := Gu hb (Int.toNat (k : Int))
    refine S.go false rfl (by repeat' (first | exact True.intro | refine And.intro ?_ ?_ | assumption | omega | (dsimp only; omega) | (simp only [Nat.add_eq, Nat.mul_eq, Nat.sub_eq, SV.wd]; omega) | exact rfl)) ?_
    refine S.dr0 false rfl rfl rfl ?_ (by repeat' (first | exact True.intro | refine And.intro ?_ ?_ | assumption | omega | (dsimp only; omega) | (simp only [Nat.add_eq, Nat.mul_eq, Nat.sub_eq, SV.wd]; omega) | exact rfl))
    refine S.g false rfl ?_
    refine S.again (again (k + 1) (show k + 1 <= 64 by omega) (show 64 - (k + 1) < 64 - k by omega)) ⟨⟨rfl, by omega⟩, rfl, rfl, rfl, trivial⟩ ?_ rfl rfl (fun x hx => hx) rfl (fun ρ W h => h.hs)
    repeat' (first | exact True.intro | refine And.intro ?_ ?_ | exact congrArg (fun z => SV.a .u64 z 8) (GV hb (n := 8) (by omega)) | assumption | exact rfl)
  . obtain rfl : k = 64 := by omega
    refine S.go false rfl (by repeat' (first | exact True.intro | refine And.intro ?_ ?_ | assumption | omega | (dsimp only; omega) | (simp only [Nat.add_eq, Nat.mul_eq, Nat.sub_eq, SV.wd]; omega) | exact rfl)) ?_
    refine S.cv rfl rfl rfl rfl rfl rfl h1 ?_
    refine S.g false rfl ?_
    refine S.cv rfl rfl rfl rfl rfl rfl h2 ?_
    refine S.go false rfl (by repeat' (first | exact True.intro | refine And.intro ?_ ?_ | assumption | omega | (dsimp only; omega) | (simp only [Nat.add_eq, Nat.mul_eq, Nat.sub_eq, SV.wd]; omega) | exact rfl)) ?_
    exact S.retv rfl rfl rfl rfl rfl
theorem Qfp {xb yb cb : List Int} (hx : Qe xb) (hy : Qe yb) (hc : Qe cb) (hxl : xb.length = 32) (hyl : yb.length = 32) (hcl : cb.length = 32) : PV Tryz.prog gT 20 [.a .u8 xb 32, .a .u8 yb 32, .a .u8 cb 32] (.a .u8 (Q2 ((Qp cb 32 + Qp xb 32 * Qp yb 32) % QH)) 32) := by
  have vx := Zj xb hx; have vy := Zj yb hy; have vc := Zj cb hc
  have h1 := Ec hx hxl
  have h2 := Ec hy hyl
  have h3 := Ec hc hcl
  have h4 := QgG (Qx 4 (Qp xb 32)) (Qx 4 (Qp yb 32)) (Qx 4 (Qp cb 32)) (Qa _ _) (Qa _ _) (Qa _ _)
  have h5 := HX (Qx 8 (Qj (Qf 4 (Qp cb 32)) 4 + Qj (Qf 4 (Qp xb 32)) 4 * Qj (Qf 4 (Qp yb 32)) 4)) (Qa _ _)
  rw [QZ vx.1 vx.2, QZ vy.1 vy.2, QZ vc.1 vc.2] at h4 h5
  have hb : Qp cb 32 + Qp xb 32 * Qp yb 32 < 2 ^ (64 * 8) := by
    have hm : Qp xb 32 * Qp yb 32 <= (2 ^ 256 - 1) * (2 ^ 256 - 1) := Int.mul_le_mul (by omega) (by omega) vy.1 (by decide +kernel)
    have e : (2 : Int) ^ (64 * 8) = 2 ^ 256 * 2 ^ 256 := by rw [<- Int.pow_add]
    rw [e]
    have := vc.2
    generalize Qp xb 32 * Qp yb 32 = m at *
    omega
  have h0 : 0 <= Qp cb 32 + Qp xb 32 * Qp yb 32 := by have := Int.mul_nonneg vx.1 vy.1; omega
  rw [JU 8 _ h0, Int.emod_eq_of_lt h0 hb] at h5
  have h6 := QcL ((Qp cb 32 + Qp xb 32 * Qp yb 32) % QH)
  have hbl := QM ((Qp cb 32 + Qp xb 32 * Qp yb 32) % QH)
  generalize Q2 ((Qp cb 32 + Qp xb 32 * Qp yb 32) % QH) = o at *
  generalize Qf 4 ((Qp cb 32 + Qp xb 32 * Qp yb 32) % QH) = p4 at *
  generalize Qf 8 (Qp cb 32 + Qp xb 32 * Qp yb 32) = p8 at *
  generalize Qf 4 (Qp cb 32) = nc at *
  generalize Qf 4 (Qp xb 32) = nx at *
  generalize Qf 4 (Qp yb 32) = ny at *
  refine PV.mk' Tryz.func20 rfl rfl rfl rfl fun w L hL hG => ?_
  refine S.enter Qm [.a .u8 xb 32, .a .u8 yb 32, .a .u8 cb 32] gT Tryz.func20 rfl rfl rfl (fun _ => rfl) hL hG ?_
  refine S.go false rfl (by repeat' (first | exact True.intro | refine And.intro ?_ ?_ | assumption | omega | (dsimp only; omega) | (simp only [Nat.add_eq, Nat.mul_eq, Nat.sub_eq, SV.wd]; omega) | exact rfl)) ?_
  refine S.drp false [(1, .a .u64 nx 4), (3, .a .u64 ny 4), (5, .a .u64 nc 4), (6, .a .u64 p8 8), (7, .a .u64 p4 4), (8, .a .u8 o 32)] rfl rfl rfl ?_ (by repeat' (first | exact True.intro | refine And.intro ?_ ?_ | assumption | omega | (dsimp only; omega) | (simp only [Nat.add_eq, Nat.mul_eq, Nat.sub_eq, SV.wd]; omega) | exact rfl))
  refine S.g false rfl ?_
  exact S.retv rfl rfl rfl rfl rfl
/-- Clamped bytes. -/
def QbG (za : List Int) : List Int := (za.set 0 (bits .and .u8 (za.getD 0 0) 248)).set 31 (bits .or .u8 (bits .and .u8 ((za.set 0 (bits .and .u8 (za.getD 0 0) 248)).getD 31 0) 127) 64)
theorem Qao {za : List Int} (hl : za.length = 32) : (QbG za).length = 32 := by simp [QbG, hl]
theorem Qiq (op : BinOp) (a b : Int) : 0 <= bits op .u8 a b /\ bits op .u8 a b <= 255 := by
  have h := bits_within op .u8 a b
  have h1 : IntKind.min .u8 = 0 := by decide
  have h2 : IntKind.max .u8 = 255 := by decide
  rw [h1, h2] at h
  exact h
theorem QbF {za : List Int} (hb : Qe za) : Qe (QbG za) := by
  intro x hx
  unfold QbG at hx
  rcases List.mem_or_eq_of_mem_set hx with h | h
  . rcases List.mem_or_eq_of_mem_set h with h | h
    . exact hb x h
    . rw [h]; exact Qiq _ _ _
  . rw [h]; exact Qiq _ _ _
theorem Qh1 {za : List Int} (hl : za.length = 32) : PV Tryz.prog gT 32 [.a .u8 za 32] (.a .u8 (QbG za) 32) := by
  have hcl := Qao hl
  refine PV.mk' Tryz.func32 rfl rfl rfl rfl fun w L hL hG => ?_
  refine S.enter Qm [.a .u8 za 32] gT Tryz.func32 rfl rfl rfl (fun _ => rfl) hL hG ?_
  refine S.go false rfl (by repeat' (first | exact True.intro | refine And.intro ?_ ?_ | exact hl | exact hcl | exact rfl)) ?_
  exact S.retv rfl rfl rfl rfl rfl
/-- What is carried behind m words of 38 times a number. -/
def Vl (xs : List Int) : Nat -> Int
  | 0 => 0
  | m + 1 => (Qb xs m * 38 + Vl xs m) / 18446744073709551616
def Qbm (xs : List Int) (m : Nat) : Int := (Qb xs m * 38 + Vl xs m) % 18446744073709551616
def HD (xs : List Int) (n : Nat) : List Int := (List.range n).map (Qbm xs)
theorem Qhy (xs : List Int) (hx : Qt xs) (m : Nat) : 0 <= Vl xs m /\ Vl xs m < 38 := by
  induction m with
  | zero => simp [Vl]
  | succ m ih => have := hx.at m; simp only [Vl]; omega
theorem GR (xs : List Int) (n : Nat) : Qt (HD xs n) := by
  intro x hx
  simp only [HD, List.mem_map] at hx
  obtain ⟨k, _, rfl⟩ := hx
  unfold Qbm; omega
theorem Qhw (xs : List Int) (hx : Qt xs) (n m : Nat) (hm : m <= n) : Qj (HD xs n) m + Vl xs m * 2 ^ (64 * m) = 38 * Qj xs m := by
  induction m with
  | zero => simp [Qj, Vl]
  | succ m ih =>
    have h0 := ih (by omega)
    have e : Qb (HD xs n) m = Qbm xs m := by simp [HD, Qb, show m < n by omega]
    simp only [Qj, Vl, e]
    rw [Vc]
    unfold Qbm
    generalize (2 : Int) ^ (64 * m) = q at *
    have h1 := Int.emod_add_mul_ediv (Qb xs m * 38 + Vl xs m) 18446744073709551616
    generalize (Qb xs m * 38 + Vl xs m) / 18446744073709551616 = d at *
    generalize (Qb xs m * 38 + Vl xs m) % 18446744073709551616 = r at *
    have e1 : r * q + d * (q * 18446744073709551616) = (r + 18446744073709551616 * d) * q := by grind
    have e2 : (Qb xs m * 38 + Vl xs m) * q = 38 * (Qb xs m * q) + Vl xs m * q := by grind
    rw [Int.add_assoc, e1, h1, e2]
    have e3 : 38 * (Qj xs m + Qb xs m * q) = 38 * Qj xs m + 38 * (Qb xs m * q) := by grind
    omega
theorem Qhx (v : Int) (hv : 0 <= v /\ v < 2 ^ 256) : HD (Qf 4 v) 4 = Qf 4 (38 * v % 2 ^ 256) /\ Vl (Qf 4 v) 4 = 38 * v / 2 ^ 256 := by
  have e := Qhw (Qf 4 v) (Qx _ _) 4 4 (Nat.le_refl _)
  rw [QZ hv.1 hv.2] at e
  have hs := XX (HD (Qf 4 v) 4) (GR _ _) 4
  constructor
  . refine UE (GR _ _) (by simp [HD]) ?_
    simp only [Nat.reduceMul, Int.reducePow] at *
    omega
  . simp only [Nat.reduceMul, Int.reducePow] at *
    omega
/-- What fold comes to. -/
theorem QfK (lo hi t c s k s2 k2 s3 : Int) (hlo : 0 <= lo /\ lo < 2 ^ 256) (hhi : 0 <= hi /\ hi < 2 ^ 256) (ht : t = 38 * hi % 2 ^ 256) (hc : c = 38 * hi / 2 ^ 256) (hs : s = (lo + t) % 2 ^ 256) (hk : k = (lo + t) / 2 ^ 256)
    (hs2 : s2 = (s + (c + k) * 38) % 2 ^ 256) (hk2 : k2 = (s + (c + k) * 38) / 2 ^ 256) (hs3 : s3 = s2 + k2 * 38) : s3 % pV = (lo + hi * 2 ^ 256) % pV /\ 0 <= s3 /\ s3 < 2 ^ 256 /\ 0 <= c /\ c < 38 /\ 0 <= k /\ k <= 1 /\ 0 <= k2 /\ k2 <= 1 := by
  have hp : (2 : Int) ^ 256 = 2 * pV + 38 := by decide +kernel
  have hpv : 1000000 < pV := by decide +kernel
  have e : lo + hi * 2 ^ 256 = s3 + (2 * hi + 2 * c + 2 * k + 2 * k2) * pV := by
    have a1 := Int.emod_add_mul_ediv (38 * hi) (2 ^ 256)
    have a2 := Int.emod_add_mul_ediv (lo + t) (2 ^ 256)
    have a3 := Int.emod_add_mul_ediv (s + (c + k) * 38) (2 ^ 256)
    rw [<- ht, <- hc] at a1
    rw [<- hs, <- hk] at a2
    rw [<- hs2, <- hk2] at a3
    rw [hp] at a1 a2 a3 ⊢
    subst hs3
    clear ht hc hs hk hs2 hk2 hp hlo hhi
    generalize pV = p at *
    grind
  refine ⟨by rw [e, Int.add_mul_emod_self_right], ?_⟩
  generalize (2 : Int) ^ 256 = M at *
  have c1 : 0 <= c /\ c < 38 := by
    subst hc
    refine ⟨Int.ediv_nonneg (by omega) (by omega), Int.ediv_lt_of_lt_mul (by omega) (by omega)⟩
  have t1 : 0 <= t /\ t < M := by
    subst ht
    exact ⟨Int.emod_nonneg _ (by omega), Int.emod_lt_of_pos _ (by omega)⟩
  have k1 : 0 <= k /\ k < 2 := by
    subst hk
    exact ⟨Int.ediv_nonneg (by omega) (by omega), Int.ediv_lt_of_lt_mul (by omega) (by omega)⟩
  have s1 : 0 <= s /\ s < M := by
    subst hs
    exact ⟨Int.emod_nonneg _ (by omega), Int.emod_lt_of_pos _ (by omega)⟩
  have k3 : 0 <= k2 /\ k2 < 2 := by
    subst hk2
    exact ⟨Int.ediv_nonneg (by omega) (by omega), Int.ediv_lt_of_lt_mul (by omega) (by omega)⟩
  have s4 : 0 <= s2 /\ s2 < M := by
    subst hs2
    exact ⟨Int.emod_nonneg _ (by omega), Int.emod_lt_of_pos _ (by omega)⟩
  have a3 := Int.emod_add_mul_ediv (s + (c + k) * 38) M
  rw [<- hs2, <- hk2] at a3
  refine ⟨by omega, ?_, c1.1, c1.2, k1.1, by omega, k3.1, by omega⟩
  have : k2 = 0 \/ k2 = 1 := by omega
  rcases this with rfl | rfl
  . omega
  . omega
theorem QeD (xs ys : List Int) (k : Nat) (T : Int) (h : T = Qj xs k * Qj ys 4 + Qb xs k * Qj ys 4 * 2 ^ (64 * k)) : T = Qj xs (k + 1) * Qj ys 4 := by
  have e : Qj xs (k + 1) = Qj xs k + Qb xs k * 2 ^ (64 * k) := rfl
  rw [h, e]
  clear h e
  generalize (2 : Int) ^ (64 * k) = q
  generalize Qj ys 4 = y
  generalize Qj xs k = x
  grind
theorem QiK : Qj (List.replicate 8 0) 8 = 0 := by decide +kernel
theorem QbN (j : Nat) : Qb (List.replicate 8 (0 : Int)) j = 0 := by
  simp only [Qb, List.getElem?_replicate]; split <;> rfl

theorem Db {x : Int} (h0 : 0 <= x) (h1 : x < 18446744073709551616) : bits BinOp.and IntKind.u64 x 1 = x % 2 := by
  have h := Zs x 1 1 rfl (by omega) h0 h1
  simpa using h

theorem DU : Qf 4 1 = [1, 0, 0, 0] := by decide +kernel
/-- A power, with so many of the exponent's bits still to come. -/
def XF (u v : Int) (m : Nat) : Int := u ^ (v / 2 ^ m).toNat % pV
theorem Qeg (u v : Int) (m : Nat) : 0 <= XF u v m /\ XF u v m < 2 ^ 256 := by
  have h := ZH (u ^ (v / 2 ^ m).toNat)
  have := DN
  unfold XF
  omega
theorem Dg (u v : Int) (hv : 0 <= v /\ v < 2 ^ 256) : XF u v 256 = 1 := by
  unfold XF
  rw [Int.ediv_eq_zero_of_lt hv.1 hv.2, show Int.toNat 0 = 0 from rfl, Int.pow_zero]
  decide +kernel
theorem Qc6 (u v : Int) (j : Nat) (hv : 0 <= v) (h : v / 2 ^ j % 2 = 0) : (XF u v (j + 1) * XF u v (j + 1)) % pV = XF u v j := by
  have hh := Up v j
  have hy : 0 <= v / 2 ^ (j + 1) := Int.ediv_nonneg hv (Int.le_of_lt (Q7 _))
  have e : (v / 2 ^ j).toNat = 2 * (v / 2 ^ (j + 1)).toNat := by omega
  unfold XF
  rw [e, Gz]
theorem Qef (u v : Int) (j : Nat) (hv : 0 <= v) (h : v / 2 ^ j % 2 = 1) : ((XF u v (j + 1) * XF u v (j + 1)) % pV * u) % pV = XF u v j := by
  have hh := Up v j
  have hy : 0 <= v / 2 ^ (j + 1) := Int.ediv_nonneg hv (Int.le_of_lt (Q7 _))
  have e : (v / 2 ^ j).toNat = 2 * (v / 2 ^ (j + 1)).toNat + 1 := by omega
  unfold XF
  rw [e, Gz, H3 u u _ rfl]
theorem Qi7 : 0 <= pV - 2 /\ pV - 2 < 2 ^ 256 := by decide +kernel
theorem Qjd (a : Int) (h0 : 0 <= a) (h1 : a < 18446744073709551616) : Qf 4 a = [a, 0, 0, 0] := by
  symm
  refine UE (fun x hx => by simp at hx; omega) rfl ?_
  simp [Qj, Qb]
theorem P_r : PV Tryz.prog gT 110 [] (.a .u64 (Qf 4 pV) 4) := by
  have h : PV Tryz.prog gT 110 [] (.g [.i .u64 18446744073709551597, .i .u64 18446744073709551615, .i .u64 18446744073709551615, .i .u64 9223372036854775807]) := by
    refine PV.mk' Tryz.func110 rfl rfl rfl rfl fun w L hL hG => ?_
    refine S.enter Qm [] gT Tryz.func110 rfl rfl rfl (fun _ => rfl) hL hG ?_
    refine S.go false rfl (by repeat' (first | exact True.intro | refine And.intro ?_ ?_ | assumption | omega | (dsimp only; omega) | (simp only [Nat.add_eq, Nat.mul_eq, Nat.sub_eq, SV.wd]; omega) | exact rfl)) ?_
    exact S.retv rfl rfl rfl rfl rfl
  rw [Qi9]
  exact h.res rfl rfl
set_option maxHeartbeats 1000000 in
theorem Qfw {za : List Int} (hb : Qe za) (hl : za.length = 32) : PV Tryz.prog gT 76 [.a .u8 za 32] (.a .u64 (Qf 4 (Qp za 32)) 4) := by
  rw [<- Ed za hb 4, <- Ei za 4]
  refine PV.mk' Tryz.func76 rfl rfl rfl rfl fun w L hL hG => ?_
  refine S.enter Qm [.a .u8 za 32] gT Tryz.func76 rfl rfl rfl (fun _ => rfl) hL hG ?_
  refine S.go false rfl (by repeat' (first | exact True.intro | refine And.intro ?_ ?_ | assumption | omega | (dsimp only; omega) | (simp only [Nat.add_eq, Nat.mul_eq, Nat.sub_eq, SV.wd]; omega) | exact rfl)) ?_
  refine S.recell 2 [.a .u64 (EW za 4 0) 4] rfl (fun ρ => by rw [GU]; rfl) ⟨Zl za 4 0, trivial⟩ rfl ?_
  refine S.loop [1, 2, 3] (fun k : Nat => [(4, .i .i64 (k : Int))]) (fun k => [(0, [.a .u8 za 32]), (1, [.i .u64 0, .i .u64 0, .i .u64 0, .i .u64 0]), (2, [.a .u64 (EW za 4 k) 4])]) (fun _ => []) (fun k => k <= 32) (fun k => 32 - k) 0 rfl (fun _ => rfl) (fun _ => rfl) rfl ⟨⟨rfl, rfl⟩, trivial⟩ (by repeat' (first | exact True.intro | refine And.intro ?_ ?_ | exact Zl za 4 0 | assumption | exact rfl)) (fun _ _ _ => trivial) (by omega) fun J k hk again => ?_
  have hk' : k <= 32 := hk
  have hlen := Zl za 4 k
  have hlen' := Zl za 4 (k + 1)
  refine S.g false rfl ?_
  refine S.cond rfl (fun c => ?_) (fun c => ?_)
  . have c' : k < 32 := by omega
    have hr := Gu hb (Int.toNat (k : Int))
    refine S.go false rfl (by repeat' (first | exact True.intro | refine And.intro ?_ ?_ | assumption | omega | (dsimp only; omega) | (simp only [Nat.add_eq, Nat.mul_eq, Nat.sub_eq, SV.wd]; omega) | exact rfl)) ?_
    refine S.dr0 false rfl rfl rfl ?_ (by repeat' (first | exact True.intro | refine And.intro ?_ ?_ | omega | (dsimp only; omega) | (simp only [Nat.add_eq, Nat.mul_eq, Nat.sub_eq, SV.wd]; omega) | exact rfl))
    refine S.g false rfl ?_
    refine S.again (again (k + 1) (show k + 1 <= 32 by omega) (show 32 - (k + 1) < 32 - k by omega)) ⟨⟨rfl, by omega⟩, rfl, rfl, rfl, trivial⟩ ?_ rfl rfl (fun x hx => hx) rfl (fun ρ W h => h.hs)
    repeat' (first | exact True.intro | refine And.intro ?_ ?_ | exact congrArg (fun z => SV.a .u64 z 4) (GV hb (n := 4) (by omega)) | exact hlen' | exact hl | exact rfl)
  . obtain rfl : k = 32 := by omega
    refine S.go false rfl (by repeat' (first | exact True.intro | refine And.intro ?_ ?_ | assumption | omega | (dsimp only; omega) | (simp only [Nat.add_eq, Nat.mul_eq, Nat.sub_eq, SV.wd]; omega) | exact rfl)) ?_
    exact S.retv rfl rfl rfl rfl rfl
set_option maxHeartbeats 1000000 in
theorem QcM (v : Int) : PV Tryz.prog gT 57 [.a .u64 (Qf 4 v) 4] (.a .u8 (Q2 v) 32) := by
  have hv : Q2 v = btW (Qf 4 v) 32 := (QcO _).symm
  rw [hv]
  have hnl := Qa 4 v
  generalize Qf 4 v = zs at *
  refine PV.mk' Tryz.func57 rfl rfl rfl rfl fun w L hL hG => ?_
  refine S.enter Qm [.a .u64 zs 4] gT Tryz.func57 rfl rfl rfl (fun _ => rfl) hL hG ?_
  refine S.go false rfl (by repeat' (first | exact True.intro | refine And.intro ?_ ?_ | assumption | omega | (dsimp only; omega) | (simp only [Nat.add_eq, Nat.mul_eq, Nat.sub_eq, SV.wd]; omega) | exact rfl)) ?_
  refine S.recell 2 [.a .u8 (btW zs 0) 32] rfl (fun ρ => by rw [Qat]) ⟨YW zs 0, trivial⟩ rfl ?_
  refine S.loop [1, 2, 3] (fun k : Nat => [(4, .i .i64 (k : Int))]) (fun k => [(0, [.a .u64 zs 4]), (1, [.a .u8 (List.replicate 32 0) 32]), (2, [.a .u8 (btW zs k) 32])]) (fun _ => []) (fun k => k <= 32) (fun k => 32 - k) 0 rfl (fun _ => rfl) (fun _ => rfl) rfl ⟨⟨rfl, rfl⟩, trivial⟩ (by repeat' (first | exact True.intro | refine And.intro ?_ ?_ | exact YW zs 0 | assumption | exact rfl)) (fun _ _ _ => trivial) (by omega) fun J k hk again => ?_
  have hk' : k <= 32 := hk
  have hlen := YW zs k
  have hlen' := YW zs (k + 1)
  refine S.g false rfl ?_
  refine S.cond rfl (fun c => ?_) (fun c => ?_)
  . have c' : k < 32 := by omega
    refine S.gn 14 false rfl ?_ (by repeat' (first | exact True.intro | refine And.intro ?_ ?_ | omega | (dsimp only; omega) | (simp only [Nat.add_eq, Nat.mul_eq, Nat.sub_eq, SV.wd]; omega) | exact rfl))
    refine S.gn 1 true rfl ?_ (by repeat' (first | exact True.intro | refine And.intro ?_ ?_ | omega | (dsimp only; omega) | (simp only [Nat.add_eq, Nat.mul_eq, Nat.sub_eq, SV.wd]; omega) | exact rfl))
    refine S.g false rfl ?_
    refine S.again (again (k + 1) (show k + 1 <= 32 by omega) (show 32 - (k + 1) < 32 - k by omega)) ⟨⟨rfl, by omega⟩, rfl, rfl, rfl, trivial⟩ ?_ rfl rfl (fun x hx => hx) rfl (fun ρ W h => h.hs)
    repeat' (first | exact True.intro | refine And.intro ?_ ?_ | exact congrArg (fun z => SV.a .u8 z 32) (Qau c') | exact hlen' | exact hnl | exact rfl)
  . obtain rfl : k = 32 := by omega
    refine S.go false rfl (by repeat' (first | exact True.intro | refine And.intro ?_ ?_ | assumption | omega | (dsimp only; omega) | (simp only [Nat.add_eq, Nat.mul_eq, Nat.sub_eq, SV.wd]; omega) | exact rfl)) ?_
    exact S.retv rfl rfl rfl rfl rfl
theorem QaH {xs ys : List Int} (h : ∀ j, j < 4 -> Qb xs j = Qb ys j) : Qj xs 4 = Qj ys 4 := by
  simp only [Qj]
  rw [h 0 (by omega), h 1 (by omega), h 2 (by omega), h 3 (by omega)]
theorem Qjr {xs ys : List Int} (hx : Qt xs) (hy : Qt ys) (hl : xs.length = 4) (hm : ys.length = 4) : PV Tryz.prog gT 75 [.a .u64 xs 4, .a .u64 ys 4] (.l (decide (Qj xs 4 < Qj ys 4))) := by
  refine PV.mk' Tryz.func75 rfl rfl rfl rfl fun w L hL hG => ?_
  refine S.enter Qm [.a .u64 xs 4, .a .u64 ys 4] gT Tryz.func75 rfl rfl rfl (fun _ => rfl) hL hG ?_
  refine S.go false rfl (by repeat' (first | exact True.intro | refine And.intro ?_ ?_ | assumption | omega | (dsimp only; omega) | (simp only [Nat.add_eq, Nat.mul_eq, Nat.sub_eq, SV.wd]; omega) | exact rfl)) ?_
  refine S.loop [2, 3, 4] (fun k : Nat => [(5, .i .i64 (3 - (k : Int)))]) (fun k => [(0, [.a .u64 xs 4]), (1, [.a .u64 ys 4])]) (fun _ => []) (fun k => k <= 4 /\ ∀ j, 4 - k <= j -> j < 4 -> Qb xs j = Qb ys j) (fun k => 4 - k) 0 rfl (fun _ => rfl) (fun _ => rfl) rfl ⟨⟨rfl, rfl⟩, trivial⟩ (by repeat' (first | exact True.intro | refine And.intro ?_ ?_ | assumption | exact rfl)) (fun _ _ _ => trivial) ⟨by omega, fun j h1 h2 => by omega⟩ fun J k hk again => ?_
  obtain ⟨hk', he⟩ := hk
  refine S.g false rfl ?_
  refine S.cond rfl (fun c => ?_) (fun c => ?_)
  . have c' : k < 4 := by omega
    have e0 : Int.toNat (3 - (k : Int)) = 3 - k := by omega
    have e1 : xs.getD (Int.toNat (3 - (k : Int))) 0 = Qb xs (3 - k) := by rw [e0, QE]
    have e2 : ys.getD (Int.toNat (3 - (k : Int))) 0 = Qb ys (3 - k) := by rw [e0, QE]
    refine S.g false rfl ?_
    refine S.dr0 false rfl rfl rfl ?_ (by repeat' (first | exact True.intro | refine And.intro ?_ ?_ | assumption | omega | (dsimp only; omega) | (simp only [Nat.add_eq, Nat.mul_eq, Nat.sub_eq, SV.wd]; omega) | exact rfl))
    refine S.g false rfl ?_
    refine S.cond rfl (fun c2 => ?_) (fun c2 => ?_)
    . refine S.g false rfl ?_
      refine S.dr0 false rfl rfl rfl ?_ (by repeat' (first | exact True.intro | refine And.intro ?_ ?_ | assumption | omega | (dsimp only; omega) | (simp only [Nat.add_eq, Nat.mul_eq, Nat.sub_eq, SV.wd]; omega) | exact rfl))
      refine S.g false rfl ?_
      refine S.rd 4 (.l (decide (Qj xs 4 < Qj ys 4))) rfl (fun ρ => by
        simp only [SV.den]
        rw [<- QkB xs ys hx hy (3 - k) (by omega) (fun j h1 h2 => he j (by omega) h2) (by rw [<- e1, <- e2]; exact c2)]
        simp only [e1, e2]) ?_
      exact S.retv rfl rfl rfl rfl rfl
    . refine S.g false rfl ?_
      refine S.again (again (k + 1) ⟨by show k + 1 <= 4; omega, fun j h1 h2 => by
        by_cases hj : j = 3 - k
        . rw [hj, <- e1, <- e2]; exact Decidable.of_not_not c2
        . exact he j (by omega) h2⟩ (show 4 - (k + 1) < 4 - k by omega)) ⟨⟨rfl, by omega⟩, rfl, rfl, rfl, trivial⟩ ?_ rfl rfl (fun x hx => hx) rfl (fun ρ W h => h.hs)
      repeat' (first | exact True.intro | refine And.intro ?_ ?_ | assumption | exact rfl)
  . obtain rfl : k = 4 := by omega
    have hv := QaH (fun j hj => he j (by omega) hj)
    refine S.g false rfl ?_
    refine S.rd 4 (.l (decide (Qj xs 4 < Qj ys 4))) rfl (fun ρ => by rw [hv, decide_eq_false (Int.lt_irrefl _)]; rfl) ?_
    exact S.retv rfl rfl rfl rfl rfl
theorem Qbo {u v : Int} (hu : 0 <= u /\ u < 2 ^ 256) (hv : 0 <= v /\ v < 2 ^ 256) : PV Tryz.prog gT 75 [.a .u64 (Qf 4 u) 4, .a .u64 (Qf 4 v) 4] (.l (decide (u < v))) := by
  have h := Qjr (Qx 4 u) (Qx 4 v) (Qa 4 u) (Qa 4 v)
  rwa [QZ hu.1 hu.2, QZ hv.1 hv.2] at h
theorem Ee {u v : Int} (hu : 0 <= u /\ u < 2 ^ 256) (hv : 0 <= v /\ v < 2 ^ 256) (h : u < v) : PV Tryz.prog gT 75 [.a .u64 (Qf 4 u) 4, .a .u64 (Qf 4 v) 4] (.l true) := by have := Qbo hu hv; rwa [decide_eq_true h] at this
theorem Eg {u v : Int} (hu : 0 <= u /\ u < 2 ^ 256) (hv : 0 <= v /\ v < 2 ^ 256) (h : ¬ u < v) : PV Tryz.prog gT 75 [.a .u64 (Qf 4 u) 4, .a .u64 (Qf 4 v) 4] (.l false) := by have := Qbo hu hv; rwa [decide_eq_false h] at this
set_option maxHeartbeats 1000000 in
theorem Qhs {xs ys : List Int} (hx : Qt xs) (hy : Qt ys) (hl : xs.length = 4) (hm : ys.length = 4) : PV Tryz.prog gT 100 [.a .u64 xs 4, .a .u64 ys 4] (.t [.a .u64 (Yu xs ys 4) 4, .i .u64 (U9 xs ys 4)]) := by
  rw [<- Qb2]
  refine PV.mk' Tryz.func100 rfl rfl rfl rfl fun w L hL hG => ?_
  refine S.enter Qm [.a .u64 xs 4, .a .u64 ys 4] gT Tryz.func100 rfl rfl rfl (fun _ => rfl) hL hG ?_
  refine S.go false rfl (by repeat' (first | exact True.intro | refine And.intro ?_ ?_ | assumption | omega | (dsimp only; omega) | (simp only [Nat.add_eq, Nat.mul_eq, Nat.sub_eq, SV.wd]; omega) | exact rfl)) ?_
  refine S.recell 3 [.a .u64 (sbW xs ys 0) 4] rfl (fun ρ => rfl) ⟨YS xs ys 0, trivial⟩ rfl ?_
  refine S.loop [2, 3, 4, 6] (fun k : Nat => [(7, .i .u64 (U9 xs ys k)), (8, .i .i64 (k : Int))]) (fun k => [(0, [.a .u64 xs 4]), (1, [.a .u64 ys 4]), (2, [.i .u64 0, .i .u64 0, .i .u64 0, .i .u64 0]), (3, [.a .u64 (sbW xs ys k) 4])]) (fun _ => []) (fun k => k <= 4) (fun k => 4 - k) 0 rfl (fun _ => rfl) (fun _ => rfl) rfl ⟨⟨rfl, rfl⟩, ⟨rfl, rfl⟩, trivial⟩ (by repeat' (first | exact True.intro | refine And.intro ?_ ?_ | exact YS xs ys 0 | assumption | exact rfl)) (fun _ _ _ => trivial) (by omega) fun J k hk again => ?_
  have hk' : k <= 4 := hk
  have hlen := YS xs ys k
  have hlen' := YS xs ys (k + 1)
  refine S.g false rfl ?_
  refine S.cond rfl (fun c => ?_) (fun c => ?_)
  . have c' : k < 4 := by omega
    have hb := K7 xs ys k
    have h1 := hx.at k
    have h2 := hy.at k
    have e1 : xs.getD (Int.toNat (k : Int)) 0 = Qb xs k := by rw [Int.toNat_natCast, QE]
    have e2 : ys.getD (Int.toNat (k : Int)) 0 = Qb ys k := by rw [Int.toNat_natCast, QE]
    have hE := QbY (xs.getD (Int.toNat (k : Int)) 0) (ys.getD (Int.toNat (k : Int)) 0) (U9 xs ys k) (by omega) (by omega) (by omega) hb.1 hb.2
    refine S.g false rfl ?_
    refine S.dre (G := gT) false [(8, .t [.i .u64 ((xs.getD (Int.toNat (k : Int)) 0 - ys.getD (Int.toNat (k : Int)) 0 - U9 xs ys k) % 18446744073709551616), .i .u64 (bor (xs.getD (Int.toNat (k : Int)) 0) (ys.getD (Int.toNat (k : Int)) 0) (U9 xs ys k))])] [] [8] rfl rfl rfl ?_ (by repeat' (first | exact True.intro | refine And.intro ?_ ?_ | assumption | omega | (dsimp only; omega) | (simp only [Nat.add_eq, Nat.mul_eq, Nat.sub_eq, SV.wd]; omega) | exact rfl))
    refine S.g false rfl ?_
    refine S.again (again (k + 1) (show k + 1 <= 4 by omega) (show 4 - (k + 1) < 4 - k by omega)) ⟨⟨rfl, by rw [e1, e2]; rfl⟩, ⟨rfl, by omega⟩, rfl, rfl, rfl, rfl, trivial⟩ ?_ rfl rfl (fun x hx => hx) rfl (fun ρ W h => h.hs)
    repeat' (first | exact True.intro | refine And.intro ?_ ?_ | exact congrArg (fun z => SV.a .u64 z 4) (Ds c') | assumption | exact rfl)
  . obtain rfl : k = 4 := by omega
    refine S.go false rfl (by repeat' (first | exact True.intro | refine And.intro ?_ ?_ | assumption | omega | (dsimp only; omega) | (simp only [Nat.add_eq, Nat.mul_eq, Nat.sub_eq, SV.wd]; omega) | exact rfl)) ?_
    exact S.rett rfl rfl rfl rfl rfl
theorem Qii (x y b : Int) (hx : 0 <= x) (hy : 0 <= y) (hb0 : 0 <= b) (hb : b <= 1) : PE Tryz.prog 98 [.i .u64 x, .i .u64 y, .i .u64 b] (.t [.i .u64 ((x + y + b) % 18446744073709551616), .i .u64 ((x + y + b) / 18446744073709551616)]) := ⟨rfl, rfl, fun w => Yg x y b hx hy hb0 hb w⟩
/-- A sum, as far as it has been reckoned. -/
def adW (xs ys : List Int) (k : Nat) : List Int := (List.range 4).map fun j => if j < k then QdS xs ys j else 0
theorem Gc (xs ys : List Int) (k : Nat) : (adW xs ys k).length = 4 := by simp [adW]
theorem Qij (xs ys : List Int) : adW xs ys 4 = Hr xs ys 4 := by
  unfold adW Hr
  refine List.map_congr_left fun j hj => ?_
  rw [List.mem_range] at hj
  rw [if_pos hj]
theorem Qgp {xs ys : List Int} {k : Nat} (hk : k < 4) : (adW xs ys k).set (Int.toNat (k : Int)) ((xs.getD (Int.toNat (k : Int)) 0 + ys.getD (Int.toNat (k : Int)) 0 + EX xs ys k) % 18446744073709551616) = adW xs ys (k + 1) := by
  rw [Int.toNat_natCast, QE, QE]
  refine XL hk (fun j hj hne => ?_) ?_
  . by_cases h : j < k
    . rw [if_pos (by omega), if_pos h]
    . rw [if_neg (by omega), if_neg h]
  . rw [if_pos (by omega)]
    rfl
set_option maxHeartbeats 1000000 in
theorem Qi6 {xs ys : List Int} (hx : Qt xs) (hy : Qt ys) (hl : xs.length = 4) (hm : ys.length = 4) : PV Tryz.prog gT 99 [.a .u64 xs 4, .a .u64 ys 4] (.t [.a .u64 (Hr xs ys 4) 4, .i .u64 (EX xs ys 4)]) := by
  rw [<- Qij]
  refine PV.mk' Tryz.func99 rfl rfl rfl rfl fun w L hL hG => ?_
  refine S.enter Qm [.a .u64 xs 4, .a .u64 ys 4] gT Tryz.func99 rfl rfl rfl (fun _ => rfl) hL hG ?_
  refine S.go false rfl (by repeat' (first | exact True.intro | refine And.intro ?_ ?_ | assumption | omega | (dsimp only; omega) | (simp only [Nat.add_eq, Nat.mul_eq, Nat.sub_eq, SV.wd]; omega) | exact rfl)) ?_
  refine S.recell 3 [.a .u64 (adW xs ys 0) 4] rfl (fun ρ => rfl) ⟨Gc xs ys 0, trivial⟩ rfl ?_
  refine S.loop [2, 3, 4, 6] (fun k : Nat => [(7, .i .u64 (EX xs ys k)), (8, .i .i64 (k : Int))]) (fun k => [(0, [.a .u64 xs 4]), (1, [.a .u64 ys 4]), (2, [.i .u64 0, .i .u64 0, .i .u64 0, .i .u64 0]), (3, [.a .u64 (adW xs ys k) 4])]) (fun _ => []) (fun k => k <= 4) (fun k => 4 - k) 0 rfl (fun _ => rfl) (fun _ => rfl) rfl ⟨⟨rfl, rfl⟩, ⟨rfl, rfl⟩, trivial⟩ (by repeat' (first | exact True.intro | refine And.intro ?_ ?_ | exact Gc xs ys 0 | assumption | exact rfl)) (fun _ _ _ => trivial) (by omega) fun J k hk again => ?_
  have hk' : k <= 4 := hk
  have hlen := Gc xs ys k
  have hlen' := Gc xs ys (k + 1)
  refine S.g false rfl ?_
  refine S.cond rfl (fun c => ?_) (fun c => ?_)
  . have c' : k < 4 := by omega
    have hb := QcJ xs ys hx hy k
    have h1 := hx.at k
    have h2 := hy.at k
    have e1 : xs.getD (Int.toNat (k : Int)) 0 = Qb xs k := by rw [Int.toNat_natCast, QE]
    have e2 : ys.getD (Int.toNat (k : Int)) 0 = Qb ys k := by rw [Int.toNat_natCast, QE]
    have hE := Qii (xs.getD (Int.toNat (k : Int)) 0) (ys.getD (Int.toNat (k : Int)) 0) (EX xs ys k) (by omega) (by omega) hb.1 hb.2
    refine S.g false rfl ?_
    refine S.dre (G := gT) false [(8, .t [.i .u64 ((xs.getD (Int.toNat (k : Int)) 0 + ys.getD (Int.toNat (k : Int)) 0 + EX xs ys k) % 18446744073709551616), .i .u64 ((xs.getD (Int.toNat (k : Int)) 0 + ys.getD (Int.toNat (k : Int)) 0 + EX xs ys k) / 18446744073709551616)])] [] [8] rfl rfl rfl ?_ (by repeat' (first | exact True.intro | refine And.intro ?_ ?_ | assumption | omega | (dsimp only; omega) | (simp only [Nat.add_eq, Nat.mul_eq, Nat.sub_eq, SV.wd]; omega) | exact rfl))
    refine S.g false rfl ?_
    refine S.again (again (k + 1) (show k + 1 <= 4 by omega) (show 4 - (k + 1) < 4 - k by omega)) ⟨⟨rfl, by rw [e1, e2]; rfl⟩, ⟨rfl, by omega⟩, rfl, rfl, rfl, rfl, trivial⟩ ?_ rfl rfl (fun x hx => hx) rfl (fun ρ W h => h.hs)
    repeat' (first | exact True.intro | refine And.intro ?_ ?_ | exact congrArg (fun z => SV.a .u64 z 4) (Qgp c') | assumption | exact rfl)
  . obtain rfl : k = 4 := by omega
    refine S.go false rfl (by repeat' (first | exact True.intro | refine And.intro ?_ ?_ | assumption | omega | (dsimp only; omega) | (simp only [Nat.add_eq, Nat.mul_eq, Nat.sub_eq, SV.wd]; omega) | exact rfl)) ?_
    exact S.rett rfl rfl rfl rfl rfl
theorem Qht {u v : Int} (hu : 0 <= u /\ u < 2 ^ 256) (hv : 0 <= v /\ v < 2 ^ 256) : PV Tryz.prog gT 100 [.a .u64 (Qf 4 u) 4, .a .u64 (Qf 4 v) 4] (.t [.a .u64 (Qf 4 ((u - v) % 2 ^ 256)) 4, .i .u64 (if u < v then 1 else 0)]) := by
  have h := Qhs (Qx 4 u) (Qx 4 v) (Qa 4 u) (Qa 4 v)
  rwa [(Dp hu hv).1, (Dp hu hv).2] at h
theorem Un {u v : Int} (hv : 0 <= v) (h : v <= u) (hu : u < 2 ^ 256) : PV Tryz.prog gT 100 [.a .u64 (Qf 4 u) 4, .a .u64 (Qf 4 v) 4] (.t [.a .u64 (Qf 4 (u - v)) 4, .i .u64 0]) := by
  have := Qht (u := u) (v := v) ⟨by omega, hu⟩ ⟨hv, by omega⟩
  rwa [Int.emod_eq_of_lt (by omega) (by omega), if_neg (by omega)] at this
theorem F1 {u v : Int} (hu : 0 <= u /\ u < 2 ^ 256) (hv : 0 <= v /\ v < 2 ^ 256) : PV Tryz.prog gT 99 [.a .u64 (Qf 4 u) 4, .a .u64 (Qf 4 v) 4] (.t [.a .u64 (Qf 4 ((u + v) % 2 ^ 256)) 4, .i .u64 ((u + v) / 2 ^ 256)]) := by
  have h := Qi6 (Qx 4 u) (Qx 4 v) (Qa 4 u) (Qa 4 v)
  have hq := Qd7 (Qf 4 u) (Qf 4 v) (Qx 4 u) (Qx 4 v) 4 4 (by omega)
  have hw := XX (Hr (Qf 4 u) (Qf 4 v) 4) (Hq _ _ 4) 4
  have hc := QcJ (Qf 4 u) (Qf 4 v) (Qx 4 u) (Qx 4 v) 4
  rw [QZ hu.1 hu.2, QZ hv.1 hv.2] at hq
  have e1 : EX (Qf 4 u) (Qf 4 v) 4 = (u + v) / 2 ^ 256 := by
    simp only [Nat.reduceMul, Int.reducePow] at hq hw ⊢
    omega
  have e2 : Hr (Qf 4 u) (Qf 4 v) 4 = Qf 4 ((u + v) % 2 ^ 256) := UE (Hq _ _ 4) (by simp [Hr]) (by
    simp only [Nat.reduceMul, Int.reducePow] at hq hw ⊢
    omega)
  rwa [e1, e2] at h
theorem F2 {u v : Int} (hu : 0 <= u) (hv : 0 <= v) (hs : u + v < 2 ^ 256) : PV Tryz.prog gT 99 [.a .u64 (Qf 4 u) 4, .a .u64 (Qf 4 v) 4] (.t [.a .u64 (Qf 4 (u + v)) 4, .i .u64 0]) := by
  have := F1 (u := u) (v := v) ⟨hu, by omega⟩ ⟨hv, by omega⟩
  rwa [Int.emod_eq_of_lt (by omega) hs, Int.ediv_eq_zero_of_lt (by omega) hs] at this
theorem Jo : 0 <= pV /\ pV < 2 ^ 256 := by decide +kernel
theorem QiF {v : Int} (hv : 0 <= v /\ v < 2 ^ 256) : PV Tryz.prog gT 134 [.a .u64 (Qf 4 v) 4] (.a .u64 (Qf 4 (v % pV)) 4) := by
  have hP := P_r
  refine PV.mk' Tryz.func134 rfl rfl rfl rfl fun w L hL hG => ?_
  refine S.enter Qm [.a .u64 (Qf 4 v) 4] gT Tryz.func134 rfl rfl rfl (fun _ => rfl) hL hG ?_
  refine S.go false rfl (by repeat' (first | exact True.intro | refine And.intro ?_ ?_ | assumption | omega | (dsimp only; omega) | (simp only [Nat.add_eq, Nat.mul_eq, Nat.sub_eq, SV.wd]; omega) | exact rfl)) ?_
  refine S.loop [1, 2] (fun s : Nat × Int => [(3, .i .i64 (s.1 : Int))]) (fun s => [(0, [.a .u64 (Qf 4 s.2) 4]), (1, [.i .u64 0, .i .u64 0, .i .u64 0, .i .u64 0])]) (fun _ => []) (fun s => s.1 <= 3 /\ (0 <= s.2 /\ s.2 < 2 ^ 256) /\ s.2 % pV = v % pV /\ (s.2 + s.1 * pV < 3 * pV \/ s.2 < pV)) (fun s => 3 - s.1) (0, v) rfl (fun _ => rfl) (fun _ => rfl) rfl ⟨⟨rfl, rfl⟩, trivial⟩ (by repeat' (first | exact True.intro | refine And.intro ?_ ?_ | assumption | exact rfl)) (fun _ _ _ => trivial) ⟨by show (0 : Nat) <= 3; omega, hv, rfl, Or.inl (by have := Qe5; show v + ((0 : Nat) : Int) * pV < 3 * pV; simp; omega)⟩ fun J s hs again => ?_
  obtain ⟨k, z⟩ := s
  obtain ⟨hk, hz, hzv, hzb⟩ := hs
  simp only at hk hz hzv hzb
  dsimp only
  have hzl := Qa 4 z
  have hpl := Qa 4 pV
  refine S.g false rfl ?_
  refine S.cond rfl (fun c => ?_) (fun c => ?_)
  . have c' : k < 3 := by omega
    by_cases hlt : z < pV
    . have hL := Ee hz Jo hlt
      refine S.g false rfl ?_
      refine S.drp false [(1, .a .u64 (Qf 4 pV) 4), (2, .l true)] rfl rfl rfl ?_ (by repeat' (first | exact True.intro | refine And.intro ?_ ?_ | assumption | omega | (dsimp only; omega) | (simp only [Nat.add_eq, Nat.mul_eq, Nat.sub_eq, SV.wd]; omega) | exact rfl))
      refine S.g false rfl ?_
      refine S.again (again (k + 1, z) ⟨by show k + 1 <= 3; omega, hz, hzv, Or.inr hlt⟩ (show 3 - (k + 1) < 3 - k by omega)) ⟨⟨rfl, by simp only; omega⟩, rfl, rfl, trivial⟩ ?_ rfl rfl (fun x hx => hx) rfl (fun ρ W h => h.hs)
      repeat' (first | exact True.intro | refine And.intro ?_ ?_ | assumption | exact rfl)
    . have hL := Eg hz Jo hlt
      have hM := Un Jo.1 (by omega : pV <= z) hz.2
      have hdl := Qa 4 (z - pV)
      refine S.g false rfl ?_
      refine S.drp false [(1, .a .u64 (Qf 4 pV) 4), (2, .l false)] rfl rfl rfl ?_ (by repeat' (first | exact True.intro | refine And.intro ?_ ?_ | assumption | omega | (dsimp only; omega) | (simp only [Nat.add_eq, Nat.mul_eq, Nat.sub_eq, SV.wd]; omega) | exact rfl))
      refine S.g false rfl ?_
      refine S.drp false [(1, .a .u64 (Qf 4 pV) 4), (2, .t [.a .u64 (Qf 4 (z - pV)) 4, .i .u64 0])] rfl rfl rfl ?_ (by repeat' (first | exact True.intro | refine And.intro ?_ ?_ | assumption | omega | (dsimp only; omega) | (simp only [Nat.add_eq, Nat.mul_eq, Nat.sub_eq, SV.wd]; omega) | exact rfl))
      refine S.g false rfl ?_
      have hpp := Jo
      refine S.again (again (k + 1, z - pV) ⟨by show k + 1 <= 3; omega, by simp only; omega, by simp only; rw [Int.sub_emod_right]; exact hzv, by simp only; unfold pV at *; omega⟩ (show 3 - (k + 1) < 3 - k by omega)) ⟨⟨rfl, by simp only; omega⟩, rfl, rfl, trivial⟩ ?_ rfl rfl (fun x hx => hx) rfl (fun ρ W h => h.hs)
      repeat' (first | exact True.intro | refine And.intro ?_ ?_ | assumption | exact rfl)
  . obtain rfl : k = 3 := by omega
    have hz3 : z = v % pV := by rw [<- hzv]; exact (Int.emod_eq_of_lt hz.1 (by unfold pV at *; omega)).symm
    refine S.go false rfl (by repeat' (first | exact True.intro | refine And.intro ?_ ?_ | assumption | omega | (dsimp only; omega) | (simp only [Nat.add_eq, Nat.mul_eq, Nat.sub_eq, SV.wd]; omega) | exact rfl)) ?_
    rw [<- hz3]
    exact S.retv rfl rfl rfl rfl rfl
theorem Qkg {u v : Int} (hu : 0 <= u) (hv : 0 <= v) (hs : u + v < 2 ^ 256) : PV Tryz.prog gT 111 [.a .u64 (Qf 4 u) 4, .a .u64 (Qf 4 v) 4] (.a .u64 (Qf 4 ((u + v) % pV)) 4) := by
  have h1 := F2 hu hv hs
  have h2 := QiF (v := u + v) ⟨by omega, hs⟩
  have l1 := Qa 4 u; have l2 := Qa 4 v; have l3 := Qa 4 (u + v); have l4 := Qa 4 ((u + v) % pV)
  generalize Qf 4 ((u + v) % pV) = r at *
  generalize Qf 4 (u + v) = s at *
  generalize Qf 4 u = x at *
  generalize Qf 4 v = y at *
  refine PV.mk' Tryz.func111 rfl rfl rfl rfl fun w L hL hG => ?_
  refine S.enter Qm [.a .u64 x 4, .a .u64 y 4] gT Tryz.func111 rfl rfl rfl (fun _ => rfl) hL hG ?_
  refine S.go false rfl (by repeat' (first | exact True.intro | refine And.intro ?_ ?_ | assumption | omega | (dsimp only; omega) | (simp only [Nat.add_eq, Nat.mul_eq, Nat.sub_eq, SV.wd]; omega) | exact rfl)) ?_
  refine S.cv rfl rfl rfl rfl rfl rfl h1 ?_
  refine S.go false rfl (by repeat' (first | exact True.intro | refine And.intro ?_ ?_ | assumption | omega | (dsimp only; omega) | (simp only [Nat.add_eq, Nat.mul_eq, Nat.sub_eq, SV.wd]; omega) | exact rfl)) ?_
  refine S.cv rfl rfl rfl rfl rfl rfl h2 ?_
  refine S.go false rfl (by repeat' (first | exact True.intro | refine And.intro ?_ ?_ | assumption | omega | (dsimp only; omega) | (simp only [Nat.add_eq, Nat.mul_eq, Nat.sub_eq, SV.wd]; omega) | exact rfl)) ?_
  exact S.retv rfl rfl rfl rfl rfl
theorem QbC {u v : Int} (hu : 0 <= u /\ u < pV) (hv : 0 <= v /\ v < pV) : PV Tryz.prog gT 74 [.a .u64 (Qf 4 u) 4, .a .u64 (Qf 4 v) 4] (.a .u64 (Qf 4 ((u - v) % pV)) 4) := by
  have hP := P_r
  have hp := Jo
  have hp2 : pV + pV < 2 ^ 256 := by decide +kernel
  have l1 := Qa 4 u; have l2 := Qa 4 v; have l3 := Qa 4 pV
  by_cases h : u < v
  . have h1 := Ee ⟨hu.1, by omega⟩ ⟨hv.1, by omega⟩ h
    have h2 := F2 (u := u) (v := pV) hu.1 hp.1 (by omega)
    have h3 := Un (u := u + pV) (v := v) hv.1 (by omega) (by omega)
    have e : (u - v) % pV = u + pV - v := by unfold pV at *; omega
    rw [e]
    have l4 := Qa 4 (u + pV); have l5 := Qa 4 (u + pV - v)
    generalize Qf 4 (u + pV - v) = r at *
    generalize Qf 4 (u + pV) = s at *
    generalize Qf 4 u = x at *
    generalize Qf 4 v = y at *
    generalize Qf 4 pV = p at *
    refine PV.mk' Tryz.func74 rfl rfl rfl rfl fun w L hL hG => ?_
    refine S.enter Qm [.a .u64 x 4, .a .u64 y 4] gT Tryz.func74 rfl rfl rfl (fun _ => rfl) hL hG ?_
    refine S.go false rfl (by repeat' (first | exact True.intro | refine And.intro ?_ ?_ | assumption | omega | (dsimp only; omega) | (simp only [Nat.add_eq, Nat.mul_eq, Nat.sub_eq, SV.wd]; omega) | exact rfl)) ?_
    refine S.cv rfl rfl rfl rfl rfl rfl h1 ?_
    refine S.g false rfl ?_
    refine S.drp false [(1, .a .u64 p 4), (2, .t [.a .u64 s 4, .i .u64 0])] rfl rfl rfl ?_ (by repeat' (first | exact True.intro | refine And.intro ?_ ?_ | assumption | omega | (dsimp only; omega) | (simp only [Nat.add_eq, Nat.mul_eq, Nat.sub_eq, SV.wd]; omega) | exact rfl))
    refine S.go false rfl (by repeat' (first | exact True.intro | refine And.intro ?_ ?_ | assumption | omega | (dsimp only; omega) | (simp only [Nat.add_eq, Nat.mul_eq, Nat.sub_eq, SV.wd]; omega) | exact rfl)) ?_
    refine S.cv rfl rfl rfl rfl rfl rfl h3 ?_
    refine S.go false rfl (by repeat' (first | exact True.intro | refine And.intro ?_ ?_ | assumption | omega | (dsimp only; omega) | (simp only [Nat.add_eq, Nat.mul_eq, Nat.sub_eq, SV.wd]; omega) | exact rfl)) ?_
    exact S.retv rfl rfl rfl rfl rfl
  . have h1 := Eg ⟨hu.1, by omega⟩ ⟨hv.1, by omega⟩ h
    have h3 := Un (u := u) (v := v) hv.1 (by omega) (by omega)
    have e : (u - v) % pV = u - v := by unfold pV at *; omega
    rw [e]
    have l5 := Qa 4 (u - v)
    generalize Qf 4 (u - v) = r at *
    generalize Qf 4 u = x at *
    generalize Qf 4 v = y at *
    refine PV.mk' Tryz.func74 rfl rfl rfl rfl fun w L hL hG => ?_
    refine S.enter Qm [.a .u64 x 4, .a .u64 y 4] gT Tryz.func74 rfl rfl rfl (fun _ => rfl) hL hG ?_
    refine S.go false rfl (by repeat' (first | exact True.intro | refine And.intro ?_ ?_ | assumption | omega | (dsimp only; omega) | (simp only [Nat.add_eq, Nat.mul_eq, Nat.sub_eq, SV.wd]; omega) | exact rfl)) ?_
    refine S.cv rfl rfl rfl rfl rfl rfl h1 ?_
    refine S.go false rfl (by repeat' (first | exact True.intro | refine And.intro ?_ ?_ | assumption | omega | (dsimp only; omega) | (simp only [Nat.add_eq, Nat.mul_eq, Nat.sub_eq, SV.wd]; omega) | exact rfl)) ?_
    refine S.cv rfl rfl rfl rfl rfl rfl h3 ?_
    refine S.go false rfl (by repeat' (first | exact True.intro | refine And.intro ?_ ?_ | assumption | omega | (dsimp only; omega) | (simp only [Nat.add_eq, Nat.mul_eq, Nat.sub_eq, SV.wd]; omega) | exact rfl)) ?_
    exact S.retv rfl rfl rfl rfl rfl
def esL : List Int := [18446744073709551614, 18446744073709551615, 18446744073709551615, 1152921504606846975]
def qsL : List Int := [18446744073709551611, 18446744073709551615, 18446744073709551615, 2305843009213693951]
def ttL : List Int := [2, 0, 0, 0]
def zzL : List Int := [0, 0, 0, 0]
theorem QhK : esL = Qf 4 (Qp (Y0 254 15) 32) := by decide +kernel
theorem Qhc : qsL = Qf 4 ((kN : Nat) : Int) := by decide +kernel
theorem QgF : ttL = Qf 4 2 := by decide +kernel
theorem KH : zzL = Qf 4 0 := by decide +kernel
theorem QkN : 0 <= Qp (Y0 254 15) 32 /\ Qp (Y0 254 15) 32 < 2 ^ 256 := by decide +kernel
theorem Qkq : 0 <= ((kN : Nat) : Int) /\ ((kN : Nat) : Int) < 2 ^ 256 := by decide +kernel
theorem QiP : (2 : Int) ^ kN % pV = iV := by
  have h : pmo pN 2 256 kN = 2 ^ kN % pN := F0 _ _ _ _ (by decide +kernel)
  have h2 : ((2 ^ kN % pN : Nat) : Int) = iV := by rw [<- h]; decide +kernel
  rw [<- h2, Int.natCast_emod, Int.natCast_pow, Yz]
  rfl
theorem DW {u v : Int} (hu : 0 <= u /\ u < 2 ^ 256) (hv : 0 <= v /\ v < 2 ^ 256) : decide (Qf 4 u = Qf 4 v) = decide (u = v) := by
  refine decide_eq_decide.2 ⟨fun h => ?_, fun h => by rw [h]⟩
  rw [<- QZ hu.1 hu.2, h, QZ hv.1 hv.2]
theorem Qfh {c : Int} (h : 0 <= c) : bits BinOp.and IntKind.u64 (Qb (Qf 4 c) 0) 1 = c % 2 := by
  have h0 := (Qx 4 c).at 0
  rw [Db h0.1 h0.2]
  have e : Qb (Qf 4 c) 0 = c / 2 ^ (64 * 0) % 18446744073709551616 := rfl
  rw [e, Nat.mul_zero, Int.pow_zero, Int.ediv_one]
  omega
/-- 38 times a number, as far as it has been reckoned. -/
def D0 (ys : List Int) (k : Nat) : List Int := (List.range 4).map fun j => if j < k then Qbm ys j else 0
theorem Jv (ys : List Int) (k : Nat) : (D0 ys k).length = 4 := by simp [D0]
theorem Qft (ys : List Int) : D0 ys 4 = HD ys 4 := by
  unfold D0 HD
  refine List.map_congr_left fun j hj => ?_
  rw [List.mem_range] at hj
  rw [if_pos hj]
theorem QdC {ys : List Int} {k : Nat} (hk : k < 4) {l : Int} (hl : l = Qbm ys k) : (D0 ys k).set (Int.toNat (k : Int)) l = D0 ys (k + 1) := by
  rw [Int.toNat_natCast]
  refine XL hk (fun j hj hne => ?_) ?_
  . by_cases h : j < k
    . rw [if_pos (by omega), if_pos h]
    . rw [if_neg (by omega), if_neg h]
  . rw [if_pos (by omega)]
    exact hl.symm
theorem QaE (n : Nat) : Qt (List.replicate n 0) := fun x hx => by rw [List.eq_of_mem_replicate hx]; decide
theorem G0 {x : SV} {a b c d : Int} {l : List Int} (h : l = [a, b, c, d]) : QI QK [x, SV.a .u64 l 4] = QI QK [x, SV.g [.i .u64 a, .i .u64 b, .i .u64 c, .i .u64 d]] := by subst h; rfl
set_option maxHeartbeats 2000000 in
theorem Qjx {lo hi : Int} (hlo : 0 <= lo /\ lo < 2 ^ 256) (hhi : 0 <= hi /\ hi < 2 ^ 256) : PV Tryz.prog gT 125 [.a .u64 (Qf 4 lo) 4, .a .u64 (Qf 4 hi) 4] (.a .u64 (Qf 4 ((lo + hi * 2 ^ 256) % pV)) 4) := by
  have hF := QfK lo hi _ _ _ _ _ _ _ hlo hhi rfl rfl rfl rfl rfl rfl rfl
  have hm := Qhx hi hhi
  have hp1 := F1 (u := lo) (v := 38 * hi % 2 ^ 256) hlo (by omega)
  have hyw := Qx 4 hi
  have hyl := Qa 4 hi
  have hxl := Qa 4 lo
  generalize Qf 4 hi = ys at *
  generalize ht : 38 * hi % 2 ^ 256 = t at *
  generalize hc : 38 * hi / 2 ^ 256 = c at *
  generalize hs : (lo + t) % 2 ^ 256 = s at *
  generalize hk : (lo + t) / 2 ^ 256 = k1 at *
  have hs0 : 0 <= s /\ s < 2 ^ 256 := by omega
  have hck : 0 <= (c + k1) * 38 /\ (c + k1) * 38 < 18446744073709551616 := by omega
  have hp2 := (F1 (u := s) (v := (c + k1) * 38) hs0 (by omega)).arg (G0 (Qjd _ hck.1 hck.2))
  generalize hs2 : (s + (c + k1) * 38) % 2 ^ 256 = s2 at *
  generalize hk2 : (s + (c + k1) * 38) / 2 ^ 256 = k2 at *
  have hs20 : 0 <= s2 /\ s2 < 2 ^ 256 := by omega
  have hp3 := (F1 (u := s2) (v := 38) hs20 (by omega)).arg (G0 (Qjd 38 (by omega) (by omega)))
  have hcut := QiF (v := s2 + k2 * 38) ⟨hF.2.1, hF.2.2.1⟩
  rw [hF.1] at hcut
  have htl := Qa 4 t; have hsl := Qa 4 s; have hs2l := Qa 4 s2
  generalize hr : Qf 4 ((lo + hi * 2 ^ 256) % pV) = r at *
  have hrl : r.length = 4 := by rw [<- hr]; exact Qa _ _
  refine PV.mk' Tryz.func125 rfl rfl rfl rfl fun w L hL hG => ?_
  refine S.enter Qm [.a .u64 (Qf 4 lo) 4, .a .u64 ys 4] gT Tryz.func125 rfl rfl rfl (fun _ => rfl) hL hG ?_
  refine S.go false rfl (by repeat' (first | exact True.intro | refine And.intro ?_ ?_ | assumption | omega | (dsimp only; omega) | (simp only [Nat.add_eq, Nat.mul_eq, Nat.sub_eq, SV.wd]; omega) | exact rfl)) ?_
  refine S.recell 3 [.a .u64 (D0 ys 0) 4] rfl (fun ρ => rfl) ⟨Jv ys 0, trivial⟩ rfl ?_
  refine S.loop [2, 3, 4, 5] (fun k : Nat => [(6, .i .u64 (Vl ys k)), (7, .i .i64 (k : Int))]) (fun k => [(0, [.a .u64 (Qf 4 lo) 4]), (1, [.a .u64 ys 4]), (2, [.i .u64 0, .i .u64 0, .i .u64 0, .i .u64 0]), (3, [.a .u64 (D0 ys k) 4])]) (fun _ => []) (fun k => k <= 4) (fun k => 4 - k) 0 rfl (fun _ => rfl) (fun _ => rfl) rfl ⟨⟨rfl, rfl⟩, ⟨rfl, rfl⟩, trivial⟩ (by repeat' (first | exact True.intro | refine And.intro ?_ ?_ | exact Jv ys 0 | assumption | exact rfl)) (fun _ _ _ => trivial) (by omega) fun J k hk again => ?_
  have hk' : k <= 4 := hk
  have hlen := Jv ys k
  have hlen' := Jv ys (k + 1)
  refine S.g false rfl ?_
  refine S.cond rfl (fun c5 => ?_) (fun c5 => ?_)
  . have c' : k < 4 := by omega
    have hb := Qhy ys hyw k
    have e1 : ys.getD (Int.toNat (k : Int)) 0 = Qb ys k := by rw [Int.toNat_natCast, QE]
    have h1 := hyw.at k
    rw [<- e1] at h1
    have hM := KW (ys.getD (Int.toNat (k : Int)) 0) 38 h1 (by omega)
    have hw : Qbm ys k = (ys.getD (Int.toNat (k : Int)) 0 * 38 + Vl ys k) % 18446744073709551616 := by rw [e1]; rfl
    have hcn : Vl ys (k + 1) = (ys.getD (Int.toNat (k : Int)) 0 * 38 + Vl ys k) / 18446744073709551616 := by rw [e1]; rfl
    refine S.go false rfl (by repeat' (first | exact True.intro | refine And.intro ?_ ?_ | assumption | omega | (dsimp only; omega) | (simp only [Nat.add_eq, Nat.mul_eq, Nat.sub_eq, SV.wd]; omega) | exact rfl)) ?_
    refine S.cv rfl rfl rfl rfl rfl rfl hM ?_
    refine S.go false rfl (by repeat' (first | exact True.intro | refine And.intro ?_ ?_ | assumption | omega | (dsimp only; omega) | (simp only [Nat.add_eq, Nat.mul_eq, Nat.sub_eq, SV.wd]; omega) | exact rfl)) ?_
    refine S.ext rfl rfl rfl rfl rfl rfl rfl (Yg _ _ _ (by omega) hb.1 (by omega) (by omega)) rfl ?_
    generalize ys.getD (Int.toNat (k : Int)) 0 = y at *
    generalize Vl ys k = cc at *
    refine S.go false rfl (by repeat' (first | exact True.intro | refine And.intro ?_ ?_ | omega | (dsimp only; omega) | (simp only [Nat.add_eq, Nat.mul_eq, Nat.sub_eq, SV.wd]; omega) | exact rfl)) ?_
    refine S.again (again (k + 1) (show k + 1 <= 4 by omega) (show 4 - (k + 1) < 4 - k by omega)) ⟨⟨rfl, by rw [hcn]; omega⟩, ⟨rfl, by omega⟩, rfl, rfl, rfl, rfl, trivial⟩ ?_ rfl rfl (fun x hx => hx) rfl (fun ρ W h => h.hs)
    repeat' (first | exact True.intro | refine And.intro ?_ ?_ | exact congrArg (fun z => SV.a .u64 z 4) (QdC c' (by rw [hw]; omega)) | assumption | exact rfl)
  . obtain rfl : k = 4 := by omega
    refine S.recell 3 [.a .u64 (Qf 4 t) 4] rfl (fun ρ => by rw [Qft, hm.1]) ⟨htl, trivial⟩ rfl ?_
    refine S.rd 6 (.i .u64 c) rfl (fun ρ => by rw [hm.2]) ?_
    refine S.go false rfl (by repeat' (first | exact True.intro | refine And.intro ?_ ?_ | assumption | omega | (dsimp only; omega) | (simp only [Nat.add_eq, Nat.mul_eq, Nat.sub_eq, SV.wd]; omega) | exact rfl)) ?_
    refine S.cv rfl rfl rfl rfl rfl rfl hp1 ?_
    refine S.go false rfl (by repeat' (first | exact True.intro | refine And.intro ?_ ?_ | assumption | omega | (dsimp only; omega) | (simp only [Nat.add_eq, Nat.mul_eq, Nat.sub_eq, SV.wd]; omega) | exact rfl)) ?_
    refine S.cv rfl rfl rfl rfl rfl rfl hp2 ?_
    refine S.go false rfl (by repeat' (first | exact True.intro | refine And.intro ?_ ?_ | assumption | omega | (dsimp only; omega) | (simp only [Nat.add_eq, Nat.mul_eq, Nat.sub_eq, SV.wd]; omega) | exact rfl)) ?_
    refine S.cond rfl (fun c6 => ?_) (fun c6 => ?_)
    . obtain rfl : k2 = 1 := by omega
      have e3 : (s2 + 38) % 2 ^ 256 = s2 + 1 * 38 := by omega
      rw [e3] at hp3
      have hs3l := Qa 4 (s2 + 1 * 38)
      refine S.go false rfl (by repeat' (first | exact True.intro | refine And.intro ?_ ?_ | assumption | omega | (dsimp only; omega) | (simp only [Nat.add_eq, Nat.mul_eq, Nat.sub_eq, SV.wd]; omega) | exact rfl)) ?_
      refine S.cv rfl rfl rfl rfl rfl rfl hp3 ?_
      refine S.go false rfl (by repeat' (first | exact True.intro | refine And.intro ?_ ?_ | assumption | omega | (dsimp only; omega) | (simp only [Nat.add_eq, Nat.mul_eq, Nat.sub_eq, SV.wd]; omega) | exact rfl)) ?_
      refine S.cv rfl rfl rfl rfl rfl rfl hcut ?_
      refine S.go false rfl (by repeat' (first | exact True.intro | refine And.intro ?_ ?_ | assumption | omega | (dsimp only; omega) | (simp only [Nat.add_eq, Nat.mul_eq, Nat.sub_eq, SV.wd]; omega) | exact rfl)) ?_
      exact S.retv rfl rfl rfl rfl rfl
    . obtain rfl : k2 = 0 := by omega
      rw [show s2 + 0 * 38 = s2 by omega] at hcut
      refine S.go false rfl (by repeat' (first | exact True.intro | refine And.intro ?_ ?_ | assumption | omega | (dsimp only; omega) | (simp only [Nat.add_eq, Nat.mul_eq, Nat.sub_eq, SV.wd]; omega) | exact rfl)) ?_
      refine S.cv rfl rfl rfl rfl rfl rfl hcut ?_
      refine S.go false rfl (by repeat' (first | exact True.intro | refine And.intro ?_ ?_ | assumption | omega | (dsimp only; omega) | (simp only [Nat.add_eq, Nat.mul_eq, Nat.sub_eq, SV.wd]; omega) | exact rfl)) ?_
      exact S.retv rfl rfl rfl rfl rfl
theorem Qjw {xs ys : List Int} (hx : Qt xs) (hy : Qt ys) (hl : xs.length = 4) (hm : ys.length = 4) : PV Tryz.prog gT 125 [.a .u64 xs 4, .a .u64 ys 4] (.a .u64 (Qf 4 ((Qj xs 4 + Qj ys 4 * 2 ^ 256) % pV)) 4) := by
  have h := Qjx (lo := Qj xs 4) (hi := Qj ys 4) (XX xs hx 4) (XX ys hy 4)
  rwa [<- JA xs hx 4 hl, <- JA ys hy 4 hm] at h
theorem Qjj {x y p c : Int} (hx : 0 <= x /\ x < 18446744073709551616) (hy : 0 <= y /\ y < 18446744073709551616) (hp : 0 <= p /\ p < 18446744073709551616) (hc : 0 <= c /\ c < 18446744073709551616) :
    (0 <= x * y / 18446744073709551616 /\ x * y / 18446744073709551616 < 18446744073709551616) /\ (0 <= x * y % 18446744073709551616 /\ x * y % 18446744073709551616 < 18446744073709551616) /\ (0 <= x * y / 18446744073709551616 + (p + x * y % 18446744073709551616 + 0) / 18446744073709551616 /\ x * y / 18446744073709551616 + (p + x * y % 18446744073709551616 + 0) / 18446744073709551616 < 18446744073709551616) /\ (0 <= x * y / 18446744073709551616 + (p + x * y % 18446744073709551616 + 0) / 18446744073709551616 + ((p + x * y % 18446744073709551616 + 0) % 18446744073709551616 + c + 0) / 18446744073709551616 /\ x * y / 18446744073709551616 + (p + x * y % 18446744073709551616 + 0) / 18446744073709551616 + ((p + x * y % 18446744073709551616 + 0) % 18446744073709551616 + c + 0) / 18446744073709551616 < 18446744073709551616) /\ ((p + x * y % 18446744073709551616 + 0) % 18446744073709551616 + c + 0) % 18446744073709551616 + (x * y / 18446744073709551616 + (p + x * y % 18446744073709551616 + 0) / 18446744073709551616 + ((p + x * y % 18446744073709551616 + 0) % 18446744073709551616 + c + 0) / 18446744073709551616) * 18446744073709551616 = x * y + p + c := by
  have hm := Fh (p := p) (c := c) hx hy
  generalize x * y = m at *
  omega
theorem Hm {l : List Int} {i j : Nat} (h : i ≠ j) (v : Int) : Qb (l.set i v) j = Qb l j := by simp [Qb, List.getElem?_set, h]
def lo4 (p : List Int) : List Int := [Qb p 0, Qb p 1, Qb p 2, Qb p 3]
def hi4 (p : List Int) : List Int := [Qb p 4, Qb p 5, Qb p 6, Qb p 7]
theorem Qd2 {a b c d : Int} (ha : 0 <= a /\ a < 18446744073709551616) (hb : 0 <= b /\ b < 18446744073709551616) (hc : 0 <= c /\ c < 18446744073709551616) (hd : 0 <= d /\ d < 18446744073709551616) : Qt [a, b, c, d] := by
  intro x hx
  simp only [List.mem_cons, List.not_mem_nil, or_false] at hx
  rcases hx with rfl | rfl | rfl | rfl <;> assumption
set_option exponentiation.threshold 600 in
theorem QkC (p : List Int) : Qj (lo4 p) 4 + Qj (hi4 p) 4 * 2 ^ 256 = Qj p 8 := by
  simp only [Qj, lo4, hi4, Qb, List.getElem?_cons_zero, List.getElem?_cons_succ, Option.getD_some, Nat.reduceMul, Nat.reduceAdd, Int.reducePow]
  omega
theorem QkK {a b c d a' b' c' d' : Int} {l m : List Int} (h : l = [a, b, c, d]) (h' : m = [a', b', c', d']) : QI QK [SV.a .u64 l 4, SV.a .u64 m 4] = QI QK [SV.g [.i .u64 a, .i .u64 b, .i .u64 c, .i .u64 d], SV.g [.i .u64 a', .i .u64 b', .i .u64 c', .i .u64 d']] := by subst h; subst h'; rfl
set_option maxHeartbeats 4000000 in
theorem Qi4 {xs ys : List Int} (hx : Qt xs) (hy : Qt ys) (hxl : xs.length = 4) (hyl : ys.length = 4) : PV Tryz.prog gT 89 [.a .u64 xs 4, .a .u64 ys 4] (.a .u64 (Qf 4 (Qj xs 4 * Qj ys 4 % pV)) 4) := by
  refine PV.mk' Tryz.func89 rfl rfl rfl rfl fun w L hL hG => ?_
  refine S.enter Qm [.a .u64 xs 4, .a .u64 ys 4] gT Tryz.func89 rfl rfl rfl (fun _ => rfl) hL hG ?_
  refine S.go false rfl (by repeat' (first | exact True.intro | refine And.intro ?_ ?_ | assumption | omega | (dsimp only; omega) | (simp only [Nat.add_eq, Nat.mul_eq, Nat.sub_eq, SV.wd]; omega) | exact rfl)) ?_
  refine S.recell 3 [.a .u64 (List.replicate 8 0) 8] rfl (fun ρ => rfl) ⟨rfl, trivial⟩ rfl ?_
  refine S.loop [2, 3, 4, 5] (fun s : TSt => [(6, .i .i64 (s.k : Int))]) (fun s => [(0, [.a .u64 xs 4]), (1, [.a .u64 ys 4]), (2, [.i .u64 0, .i .u64 0, .i .u64 0, .i .u64 0]), (3, [.a .u64 s.p 8])]) (fun _ => []) (fun s => s.k <= 4 /\ Qt s.p /\ s.p.length = 8 /\ Qj s.p 8 = Qj xs s.k * Qj ys 4 /\ ∀ j, s.k + 4 <= j -> Qb s.p j = 0) (fun s => 4 - s.k) ⟨0, List.replicate 8 0⟩ rfl (fun _ => rfl) (fun _ => rfl) rfl ⟨⟨rfl, rfl⟩, trivial⟩ (by repeat' (first | exact True.intro | refine And.intro ?_ ?_ | assumption | exact rfl)) (fun _ _ _ => trivial) ⟨by show (0 : Nat) <= 4; omega, QaE 8, rfl, by show Qj (List.replicate 8 0) 8 = _; rw [QiK]; simp [Qj], fun j _ => QbN j⟩ fun J s hs again => ?_
  obtain ⟨k, ps⟩ := s
  obtain ⟨hk, hpw, hpl2, hpv, hpz⟩ := hs
  simp only at hk hpw hpl2 hpv hpz
  dsimp only
  refine S.g false rfl ?_
  refine S.cond rfl (fun c => ?_) (fun c => ?_)
  . have ck : k < 4 := by omega
    refine S.g false rfl ?_
    refine S.loop [2, 3, 4, 5, 6] (fun s : TIn => [(7, .i .u64 s.c), (8, .i .i64 (s.j : Int))]) (fun s => [(0, [.a .u64 xs 4]), (1, [.a .u64 ys 4]), (2, [.i .u64 0, .i .u64 0, .i .u64 0, .i .u64 0]), (3, [.a .u64 s.p 8])]) (fun _ => []) (fun s => s.j <= 4 /\ Qt s.p /\ s.p.length = 8 /\ (0 <= s.c /\ s.c < 18446744073709551616) /\ Qj s.p 8 + s.c * 2 ^ (64 * (k + s.j)) = Qj xs k * Qj ys 4 + Qb xs k * Qj ys s.j * 2 ^ (64 * k) /\ ∀ j, k + 4 <= j -> Qb s.p j = 0) (fun s => 4 - s.j) ⟨0, ps, 0⟩ rfl (fun _ => rfl) (fun _ => rfl) rfl ⟨⟨rfl, rfl⟩, ⟨rfl, rfl⟩, trivial⟩ (by repeat' (first | exact True.intro | refine And.intro ?_ ?_ | assumption | exact rfl)) (fun _ _ _ => trivial) ⟨by show (0 : Nat) <= 4; omega, hpw, hpl2, ⟨by show (0 : Int) <= 0; omega, by show (0 : Int) < 18446744073709551616; omega⟩, by show Qj ps 8 + 0 * 2 ^ (64 * (k + 0)) = _; rw [hpv]; simp [Qj], hpz⟩ fun J2 s2 hs2 again2 => ?_
    obtain ⟨j, qs, e⟩ := s2
    obtain ⟨hj, hqw, hql, he, hqv, hqz⟩ := hs2
    simp only at hj hqw hql he hqv hqz
    dsimp only
    refine S.g false rfl ?_
    refine S.cond rfl (fun c2 => ?_) (fun c2 => ?_)
    . have cj : j < 4 := by omega
      have e1 : xs.getD (Int.toNat (k : Int)) 0 = Qb xs k := by rw [Int.toNat_natCast, QE]
      have e2 : ys.getD (Int.toNat (j : Int)) 0 = Qb ys j := by rw [Int.toNat_natCast, QE]
      have e4 : Int.toNat ((k : Int) + (j : Int)) = k + j := by omega
      have e3 : qs.getD (Int.toNat ((k : Int) + (j : Int))) 0 = Qb qs (k + j) := by rw [e4, QE]
      have hxk : 0 <= xs.getD (Int.toNat (k : Int)) 0 /\ xs.getD (Int.toNat (k : Int)) 0 < 18446744073709551616 := by rw [e1]; exact hx.at k
      have hyj : 0 <= ys.getD (Int.toNat (j : Int)) 0 /\ ys.getD (Int.toNat (j : Int)) 0 < 18446744073709551616 := by rw [e2]; exact hy.at j
      have hqj : 0 <= qs.getD (Int.toNat ((k : Int) + (j : Int))) 0 /\ qs.getD (Int.toNat ((k : Int) + (j : Int))) 0 < 18446744073709551616 := by rw [e3]; exact hqw.at (k + j)
      obtain ⟨m1, m2, m3, m4, m5⟩ := Qjj hxk hyj hqj he
      have hM := KW _ _ hxk hyj
      have hstep := Dv qs xs ys k j _ e _ _ hql ck cj hqv (by rw [<- e1, <- e2, <- e3]; exact m5)
      generalize xs.getD (Int.toNat (k : Int)) 0 * ys.getD (Int.toNat (j : Int)) 0 / 18446744073709551616 = mh at *
      generalize xs.getD (Int.toNat (k : Int)) 0 * ys.getD (Int.toNat (j : Int)) 0 % 18446744073709551616 = ml at *
      refine S.g false rfl ?_
      refine S.drp (G := gT) false [(6, .t [.i .u64 mh, .i .u64 ml])] rfl rfl rfl ?_ (by repeat' (first | exact True.intro | refine And.intro ?_ ?_ | assumption | omega | (dsimp only; omega) | (simp only [Nat.add_eq, Nat.mul_eq, Nat.sub_eq, SV.wd]; omega) | exact rfl))
      refine S.go false rfl (by repeat' (first | exact True.intro | refine And.intro ?_ ?_ | assumption | omega | (dsimp only; omega) | (simp only [Nat.add_eq, Nat.mul_eq, Nat.sub_eq, SV.wd]; omega) | exact rfl)) ?_
      refine S.ext rfl rfl rfl rfl rfl rfl rfl (Yg _ _ _ hqj.1 (by omega) (by omega) (by omega)) rfl ?_
      generalize qs.getD (Int.toNat ((k : Int) + (j : Int))) 0 = q at *
      generalize hl1 : (q + ml + 0) % 18446744073709551616 = l1 at *
      generalize ho1 : (q + ml + 0) / 18446744073709551616 = o1 at *
      refine S.go false rfl (by repeat' (first | exact True.intro | refine And.intro ?_ ?_ | assumption | omega | (dsimp only; omega) | (simp only [Nat.add_eq, Nat.mul_eq, Nat.sub_eq, SV.wd]; omega) | exact rfl)) ?_
      refine S.ext rfl rfl rfl rfl rfl rfl rfl (Yg _ _ _ (by omega) he.1 (by omega) (by omega)) rfl ?_
      have hl2 : 0 <= (l1 + e + 0) % 18446744073709551616 /\ (l1 + e + 0) % 18446744073709551616 < 18446744073709551616 := by omega
      generalize hl2e : (l1 + e + 0) % 18446744073709551616 = l2 at *
      generalize ho2 : (l1 + e + 0) / 18446744073709551616 = o2 at *
      refine S.go false rfl (by repeat' (first | exact True.intro | refine And.intro ?_ ?_ | omega | (dsimp only; omega) | (simp only [Nat.add_eq, Nat.mul_eq, Nat.sub_eq, SV.wd]; omega) | exact rfl)) ?_
      have hsl : (qs.set (Int.toNat ((k : Int) + (j : Int))) l2).length = 8 := by rw [List.length_set]; exact hql
      refine S.again (again2 ⟨j + 1, qs.set (k + j) l2, mh + o1 + o2⟩ ⟨by show j + 1 <= 4; omega, hqw.set _ hl2, by simp [hql], m4, hstep, fun t ht => by rw [Hm (by omega)]; exact hqz t ht⟩ (show 4 - (j + 1) < 4 - j by omega)) ⟨⟨rfl, rfl⟩, ⟨rfl, by simp only; omega⟩, rfl, rfl, rfl, rfl, ⟨rfl, rfl⟩, trivial⟩ ?_ rfl rfl (fun x hx => hx) rfl (fun ρ W h => h.hs)
      repeat' (first | exact True.intro | refine And.intro ?_ ?_ | assumption | exact congrArg (fun z => SV.a .u64 (qs.set z l2) 8) e4 | (show (qs.set (k + j) l2).length = 8; simp only [List.length_set]; exact hql) | exact rfl)
    . obtain rfl : j = 4 := by omega
      have ek : Int.toNat ((k : Int) + 4) = k + 4 := by omega
      have hst := HM qs (k + 4) _ e e 0 hql (by omega) hqv (by rw [hqz (k + 4) (Nat.le_refl _)]; omega)
      have hus := hqw.set (k + 4) he
      have hul : (qs.set (k + 4) e).length = 8 := by rw [List.length_set]; exact hql
      have hend := QeD xs ys k (Qj (qs.set (k + 4) e) 8) (by rw [<- hst]; simp)
      refine S.go false rfl (by repeat' (first | exact True.intro | refine And.intro ?_ ?_ | omega | (dsimp only; omega) | (simp only [Nat.add_eq, Nat.mul_eq, Nat.sub_eq, SV.wd]; omega) | exact rfl)) ?_
      refine S.again (again ⟨k + 1, qs.set (k + 4) e⟩ ⟨by show k + 1 <= 4; omega, hus, hul, hend, fun t ht => by rw [Hm (by simp only at ht; omega)]; exact hqz t (by simp only at ht; omega)⟩ (show 4 - (k + 1) < 4 - k by omega)) ⟨⟨rfl, by simp only; omega⟩, rfl, rfl, rfl, rfl, trivial⟩ ?_ rfl rfl (fun x hx => hx) rfl (fun ρ W h => h.hs)
      repeat' (first | exact True.intro | refine And.intro ?_ ?_ | assumption | exact congrArg (fun z => SV.a .u64 (qs.set z e) 8) ek | exact rfl)
  . obtain rfl : k = 4 := by omega
    have hF := Qjw (Qd2 (hpw.at 0) (hpw.at 1) (hpw.at 2) (hpw.at 3)) (Qd2 (hpw.at 4) (hpw.at 5) (hpw.at 6) (hpw.at 7)) rfl rfl
    have hlh := QkC ps
    rw [hpv] at hlh
    unfold lo4 hi4 at hlh
    rw [hlh] at hF
    have hF2 := hF.arg (QkK rfl rfl)
    simp only [<- QE] at hF2
    refine S.go false rfl (by repeat' (first | exact True.intro | refine And.intro ?_ ?_ | assumption | omega | (dsimp only; omega) | (simp only [Nat.add_eq, Nat.mul_eq, Nat.sub_eq, SV.wd]; omega) | exact rfl)) ?_
    refine S.cv rfl rfl rfl rfl rfl rfl hF2 ?_
    refine S.go false rfl (by repeat' (first | exact True.intro | refine And.intro ?_ ?_ | assumption | omega | (dsimp only; omega) | (simp only [Nat.add_eq, Nat.mul_eq, Nat.sub_eq, SV.wd]; omega) | exact rfl)) ?_
    exact S.retv rfl rfl rfl rfl rfl
theorem J4 {u v : Int} (hu : 0 <= u /\ u < 2 ^ 256) (hv : 0 <= v /\ v < 2 ^ 256) : PV Tryz.prog gT 89 [.a .u64 (Qf 4 u) 4, .a .u64 (Qf 4 v) 4] (.a .u64 (Qf 4 (u * v % pV)) 4) := by
  have h := Qi4 (Qx 4 u) (Qx 4 v) (Qa 4 u) (Qa 4 v)
  rwa [QZ hu.1 hu.2, QZ hv.1 hv.2] at h
theorem QlG {ys : List Int} (hy : Qt ys) {k : Nat} (hk : k < 256) : bits .and .u64 (ys.getD (Int.toNat ((255 - (k : Int)) / 64)) 0 / 2 ^ Int.toNat ((255 - (k : Int)) % 64)) 1 = Qj ys 4 / 2 ^ (255 - k) % 2 := by
  have e1 : Int.toNat ((255 - (k : Int)) / 64) = (255 - k) / 64 := by omega
  have e2 : Int.toNat ((255 - (k : Int)) % 64) = (255 - k) % 64 := by omega
  rw [e1, e2, QE, <- Qav ys hy 4 (255 - k) (by omega)]
  have hx64 := hy.at ((255 - k) / 64)
  have h0 : 0 <= Qb ys ((255 - k) / 64) / 2 ^ ((255 - k) % 64) := Int.ediv_nonneg hx64.1 (Int.le_of_lt (Q7 _))
  have h1 : Qb ys ((255 - k) / 64) / 2 ^ ((255 - k) % 64) <= Qb ys ((255 - k) / 64) := Int.ediv_le_self _ hx64.1
  exact Zs _ 1 1 rfl (by omega) h0 (by omega)
set_option maxHeartbeats 1000000 in
theorem QaN {u v : Int} (hu : 0 <= u /\ u < 2 ^ 256) (hv : 0 <= v /\ v < 2 ^ 256) : PV Tryz.prog gT 124 [.a .u64 (Qf 4 u) 4, .a .u64 (Qf 4 v) 4] (.a .u64 (Qf 4 (u ^ v.toNat % pV)) 4) := by
  have e0 : u ^ v.toNat % pV = XF u v 0 := by unfold XF; rw [Int.pow_zero, Int.ediv_one]
  rw [e0]
  have hvl := Qa 4 v; have hul := Qa 4 u
  have hvw := Qx 4 v
  have hvv := QZ hv.1 hv.2
  generalize Qf 4 v = ys at *
  refine PV.mk' Tryz.func124 rfl rfl rfl rfl fun w L hL hG => ?_
  refine S.enter Qm [.a .u64 (Qf 4 u) 4, .a .u64 ys 4] gT Tryz.func124 rfl rfl rfl (fun _ => rfl) hL hG ?_
  refine S.go false rfl (by repeat' (first | exact True.intro | refine And.intro ?_ ?_ | assumption | omega | (dsimp only; omega) | (simp only [Nat.add_eq, Nat.mul_eq, Nat.sub_eq, SV.wd]; omega) | exact rfl)) ?_
  have hol := Qa 4 (XF u v (256 - 0))
  refine S.recell 3 [.a .u64 (Qf 4 (XF u v (256 - 0))) 4] rfl (fun ρ => by rw [Nat.sub_zero, Dg u v hv, DU]; rfl) ⟨hol, trivial⟩ rfl ?_
  refine S.loop [2, 3, 4, 5] (fun k : Nat => [(6, .i .i64 (255 - (k : Int)))]) (fun k => [(0, [.a .u64 (Qf 4 u) 4]), (1, [.a .u64 ys 4]), (2, [.i .u64 0, .i .u64 0, .i .u64 0, .i .u64 0]), (3, [.a .u64 (Qf 4 (XF u v (256 - k))) 4])]) (fun _ => []) (fun k => k <= 256) (fun k => 256 - k) 0 rfl (fun _ => rfl) (fun _ => rfl) rfl ⟨⟨rfl, rfl⟩, trivial⟩ (by repeat' (first | exact True.intro | refine And.intro ?_ ?_ | exact hol | assumption | exact rfl)) (fun _ _ _ => trivial) (by omega) fun J k hk again => ?_
  have hk' : k <= 256 := hk
  have hlen := Qa 4 (XF u v (256 - k))
  refine S.g false rfl ?_
  refine S.cond rfl (fun c => ?_) (fun c => ?_)
  . have c' : k < 256 := by omega
    have hz := Qeg u v (256 - k)
    have hP := J4 hz hz
    have hlen' := Qa 4 (XF u v (256 - (k + 1)))
    have hbe := QlG hvw c'
    rw [hvv] at hbe
    have ek : 256 - k = (255 - k) + 1 := by omega
    have ek' : 256 - (k + 1) = 255 - k := by omega
    refine S.go false rfl (by repeat' (first | exact True.intro | refine And.intro ?_ ?_ | assumption | omega | (dsimp only; omega) | (simp only [Nat.add_eq, Nat.mul_eq, Nat.sub_eq, SV.wd]; omega) | exact rfl)) ?_
    refine S.cv rfl rfl rfl rfl rfl rfl hP ?_
    have hl2 := Qa 4 (XF u v (256 - k) * XF u v (256 - k) % pV)
    refine S.go false rfl (by repeat' (first | exact True.intro | refine And.intro ?_ ?_ | omega | (dsimp only; omega) | (simp only [Nat.add_eq, Nat.mul_eq, Nat.sub_eq, SV.wd]; omega) | exact rfl)) ?_
    refine S.cond rfl (fun c2 => ?_) (fun c2 => ?_)
    . rw [hbe] at c2
      have hm := ZH (XF u v (256 - k) * XF u v (256 - k))
      have hpp := Jo
      have hQ := J4 (u := XF u v (256 - k) * XF u v (256 - k) % pV) (v := u) ⟨hm.1, by omega⟩ hu
      have et := Qef u v (255 - k) hv.1 c2
      rw [<- ek, <- ek'] at et
      rw [et] at hQ
      refine S.go false rfl (by repeat' (first | exact True.intro | refine And.intro ?_ ?_ | assumption | omega | (dsimp only; omega) | (simp only [Nat.add_eq, Nat.mul_eq, Nat.sub_eq, SV.wd]; omega) | exact rfl)) ?_
      refine S.cv rfl rfl rfl rfl rfl rfl hQ ?_
      refine S.go false rfl (by repeat' (first | exact True.intro | refine And.intro ?_ ?_ | omega | (dsimp only; omega) | (simp only [Nat.add_eq, Nat.mul_eq, Nat.sub_eq, SV.wd]; omega) | exact rfl)) ?_
      refine S.again (again (k + 1) (show k + 1 <= 256 by omega) (show 256 - (k + 1) < 256 - k by omega)) ⟨⟨rfl, by omega⟩, rfl, rfl, rfl, rfl, trivial⟩ ?_ rfl rfl (fun x hx => hx) rfl (fun ρ W h => h.hs)
      repeat' (first | exact True.intro | refine And.intro ?_ ?_ | exact hlen' | assumption | exact rfl)
    . rw [hbe] at c2
      have et := Qc6 u v (255 - k) hv.1 (by omega)
      rw [<- ek, <- ek'] at et
      refine S.go false rfl (by repeat' (first | exact True.intro | refine And.intro ?_ ?_ | assumption | omega | (dsimp only; omega) | (simp only [Nat.add_eq, Nat.mul_eq, Nat.sub_eq, SV.wd]; omega) | exact rfl)) ?_
      refine S.again (again (k + 1) (show k + 1 <= 256 by omega) (show 256 - (k + 1) < 256 - k by omega)) ⟨⟨rfl, by omega⟩, rfl, rfl, rfl, rfl, trivial⟩ ?_ rfl rfl (fun x hx => hx) rfl (fun ρ W h => h.hs)
      repeat' (first | exact True.intro | refine And.intro ?_ ?_ | exact hlen' | exact congrArg (fun z => SV.a .u64 (Qf 4 z) 4) et | assumption | exact rfl)
  . obtain rfl : k = 256 := by omega
    refine S.go false rfl (by repeat' (first | exact True.intro | refine And.intro ?_ ?_ | assumption | omega | (dsimp only; omega) | (simp only [Nat.add_eq, Nat.mul_eq, Nat.sub_eq, SV.wd]; omega) | exact rfl)) ?_
    exact S.retv rfl rfl rfl rfl rfl
theorem Qbg : (pV - 2).toNat = (Qp (Y0 235 127) 32).toNat := by rw [Qcu]; decide +kernel
theorem QfG {u : Int} (hu : 0 <= u /\ u < 2 ^ 256) : PV Tryz.prog gT 88 [.a .u64 (Qf 4 u) 4] (.a .u64 (Qf 4 (D8 u)) 4) := by
  have hP := P_r
  have hp := Jo
  have h2 := (Un (u := pV) (v := 2) (by omega) (by decide +kernel) hp.2).arg (G0 (Qjd 2 (by omega) (by omega)))
  have h3 := QaN (u := u) (v := pV - 2) hu Qi7
  have e : u ^ (pV - 2).toNat % pV = D8 u := by rw [Qbg]; rfl
  rw [e] at h3
  have l1 := Qa 4 u; have l2 := Qa 4 (pV - 2); have l3 := Qa 4 pV; have l4 := Qa 4 (D8 u)
  generalize Qf 4 u = x at *
  generalize Qf 4 (pV - 2) = y at *
  generalize Qf 4 pV = p at *
  generalize Qf 4 (D8 u) = z at *
  refine PV.mk' Tryz.func88 rfl rfl rfl rfl fun w L hL hG => ?_
  refine S.enter Qm [.a .u64 x 4] gT Tryz.func88 rfl rfl rfl (fun _ => rfl) hL hG ?_
  refine S.go false rfl (by repeat' (first | exact True.intro | refine And.intro ?_ ?_ | assumption | omega | (dsimp only; omega) | (simp only [Nat.add_eq, Nat.mul_eq, Nat.sub_eq, SV.wd]; omega) | exact rfl)) ?_
  refine S.cv rfl rfl rfl rfl rfl rfl hP ?_
  refine S.go false rfl (by repeat' (first | exact True.intro | refine And.intro ?_ ?_ | assumption | omega | (dsimp only; omega) | (simp only [Nat.add_eq, Nat.mul_eq, Nat.sub_eq, SV.wd]; omega) | exact rfl)) ?_
  refine S.cv rfl rfl rfl rfl rfl rfl h2 ?_
  refine S.go false rfl (by repeat' (first | exact True.intro | refine And.intro ?_ ?_ | assumption | omega | (dsimp only; omega) | (simp only [Nat.add_eq, Nat.mul_eq, Nat.sub_eq, SV.wd]; omega) | exact rfl)) ?_
  refine S.cv rfl rfl rfl rfl rfl rfl h3 ?_
  refine S.go false rfl (by repeat' (first | exact True.intro | refine And.intro ?_ ?_ | assumption | omega | (dsimp only; omega) | (simp only [Nat.add_eq, Nat.mul_eq, Nat.sub_eq, SV.wd]; omega) | exact rfl)) ?_
  exact S.retv rfl rfl rfl rfl rfl
theorem QhH {y : SV} {a b c d : Int} {l : List Int} (h : l = [a, b, c, d]) : QI QK [SV.a .u64 l 4, y] = QI QK [SV.g [.i .u64 a, .i .u64 b, .i .u64 c, .i .u64 d], y] := by subst h; rfl
theorem Qiw {c : Int} (h : 0 <= c) : bits BinOp.and IntKind.u64 ((Qf 4 c).getD 0 0) 1 = c % 2 := by rw [QE]; exact Qfh h
set_option maxHeartbeats 2000000 in
theorem Qeo {u : Int} (hu : 0 <= u /\ u < pV) : PV Tryz.prog gT 113 [.a .u64 (Qf 4 u) 4] (.t [.a .u64 (Qf 4 (rV u)) 4, .l (okV u)]) := by
  have hp := DN
  have l0 := Qa2 u
  have l1 := Qa1 u
  have hi : 0 <= iV /\ iV < 2 ^ 256 := by decide +kernel
  have T0 := (QaN (u := u) (v := Qp (Y0 254 15) 32) ⟨hu.1, by omega⟩ QkN).arg (G0 QhK.symm)
  rw [show u ^ (Qp (Y0 254 15) 32).toNat % pV = Ym u from rfl] at T0
  have T1 := (QaN (u := 2) (v := ((kN : Nat) : Int)) (by omega) Qkq).arg (QkK QgF.symm Qhc.symm)
  rw [Int.toNat_natCast, QiP] at T1
  have P0 := J4 (u := Ym u) (v := Ym u) ⟨l0.1, by omega⟩ ⟨l0.1, by omega⟩
  have P1 := J4 (u := Ym u) (v := iV) ⟨l0.1, by omega⟩ hi
  rw [show Ym u * iV % pV = VC u from rfl] at P1
  have P2 := J4 (u := VC u) (v := VC u) ⟨l1.1, by omega⟩ ⟨l1.1, by omega⟩
  have s0 := ZH (Ym u * Ym u)
  have s1 := ZH (VC u * VC u)
  have hs0 : decide (Qf 4 (Ym u * Ym u % pV) = Qf 4 u) = EV u := DW (by omega) (by omega)
  have hs1 : decide (Qf 4 (VC u * VC u % pV) = Qf 4 u) = Dq u := DW (by omega) (by omega)
  have N0 := (QbC (u := 0) (v := Ym u) (by decide +kernel) l0).arg (QhH KH.symm)
  have N1 := (QbC (u := 0) (v := VC u) (by decide +kernel) l1).arg (QhH KH.symm)
  have o0 := Qiw l0.1
  have o1 := Qiw l1.1
  have n0 := Qa 4 u; have n1 := Qa 4 (Ym u); have n2 := Qa 4 (VC u); have n3 := Qa 4 iV
  have n4 := Qa 4 (Ym u * Ym u % pV); have n5 := Qa 4 (VC u * VC u % pV); have n6 := Qa 4 ((0 - Ym u) % pV); have n7 := Qa 4 ((0 - VC u) % pV)
  have hz := KH
  have hE : rV u = if EV u then Z6 (Ym u) else if Dq u then Z6 (VC u) else 0 := rfl
  have hO : okV u = (EV u || Dq u) := rfl
  have E0 : Z6 (Ym u) = if Ym u % 2 = 1 then (0 - Ym u) % pV else Ym u := rfl
  have E1 : Z6 (VC u) = if VC u % 2 = 1 then (0 - VC u) % pV else VC u := rfl
  refine PV.mk' Tryz.func113 rfl rfl rfl rfl fun w L hL hG => ?_
  refine S.enter Qm [.a .u64 (Qf 4 u) 4] gT Tryz.func113 rfl rfl rfl (fun _ => rfl) hL hG ?_
  refine S.go false rfl (by repeat' (first | exact True.intro | refine And.intro ?_ ?_ | assumption | omega | (dsimp only; omega) | (simp only [Nat.add_eq, Nat.mul_eq, Nat.sub_eq, SV.wd]; omega) | exact rfl)) ?_
  refine S.cv rfl rfl rfl rfl rfl rfl T0 ?_
  refine S.go false rfl (by repeat' (first | exact True.intro | refine And.intro ?_ ?_ | assumption | omega | (dsimp only; omega) | (simp only [Nat.add_eq, Nat.mul_eq, Nat.sub_eq, SV.wd]; omega) | exact rfl)) ?_
  refine S.drp false [(2, .a .u64 (Qf 4 (Ym u * Ym u % pV)) 4)] rfl rfl rfl ?_ (by repeat' (first | exact True.intro | refine And.intro ?_ ?_ | assumption | omega | (dsimp only; omega) | (simp only [Nat.add_eq, Nat.mul_eq, Nat.sub_eq, SV.wd]; omega) | exact rfl))
  refine S.g false rfl ?_
  refine S.cond rfl (fun c3 => ?_) (fun c3 => ?_)
  . have h0 : EV u = false := by rw [<- hs0]; exact decide_eq_false c3
    rw [h0] at hE hO
    refine S.go false rfl (by repeat' (first | exact True.intro | refine And.intro ?_ ?_ | assumption | omega | (dsimp only; omega) | (simp only [Nat.add_eq, Nat.mul_eq, Nat.sub_eq, SV.wd]; omega) | exact rfl)) ?_
    refine S.drp false [(3, .a .u64 (Qf 4 iV) 4), (4, .a .u64 (Qf 4 (VC u)) 4)] rfl rfl rfl ?_ (by repeat' (first | exact True.intro | refine And.intro ?_ ?_ | assumption | omega | (dsimp only; omega) | (simp only [Nat.add_eq, Nat.mul_eq, Nat.sub_eq, SV.wd]; omega) | exact rfl))
    refine S.go false rfl (by repeat' (first | exact True.intro | refine And.intro ?_ ?_ | assumption | omega | (dsimp only; omega) | (simp only [Nat.add_eq, Nat.mul_eq, Nat.sub_eq, SV.wd]; omega) | exact rfl)) ?_
    refine S.drp false [(2, .a .u64 (Qf 4 (VC u * VC u % pV)) 4)] rfl rfl rfl ?_ (by repeat' (first | exact True.intro | refine And.intro ?_ ?_ | assumption | omega | (dsimp only; omega) | (simp only [Nat.add_eq, Nat.mul_eq, Nat.sub_eq, SV.wd]; omega) | exact rfl))
    refine S.g false rfl ?_
    refine S.cond rfl (fun c6 => ?_) (fun c6 => ?_)
    . have h1 : Dq u = false := by rw [<- hs1]; exact decide_eq_false c6
      rw [h1] at hE hO
      rw [hE, hO, if_neg (by decide), if_neg (by decide), <- hz]
      refine S.go false rfl (by repeat' (first | exact True.intro | refine And.intro ?_ ?_ | assumption | omega | (dsimp only; omega) | (simp only [Nat.add_eq, Nat.mul_eq, Nat.sub_eq, SV.wd]; omega) | exact rfl)) ?_
      exact S.rett rfl rfl rfl rfl rfl
    . have h1 : Dq u = true := by rw [<- hs1]; exact decide_eq_true (Decidable.of_not_not c6)
      rw [h1] at hE hO
      rw [hE, hO, if_neg (by decide), if_pos rfl]
      refine S.go false rfl (by repeat' (first | exact True.intro | refine And.intro ?_ ?_ | assumption | omega | (dsimp only; omega) | (simp only [Nat.add_eq, Nat.mul_eq, Nat.sub_eq, SV.wd]; omega) | exact rfl)) ?_
      refine S.cond rfl (fun c8 => ?_) (fun c8 => ?_)
      . replace c8 : VC u % 2 = 1 := by rw [<- o1]; exact c8
        rw [E1, if_pos c8]
        refine S.go false rfl (by repeat' (first | exact True.intro | refine And.intro ?_ ?_ | assumption | omega | (dsimp only; omega) | (simp only [Nat.add_eq, Nat.mul_eq, Nat.sub_eq, SV.wd]; omega) | exact rfl)) ?_
        refine S.cv rfl rfl rfl rfl rfl rfl N1 ?_
        refine S.go false rfl (by repeat' (first | exact True.intro | refine And.intro ?_ ?_ | assumption | omega | (dsimp only; omega) | (simp only [Nat.add_eq, Nat.mul_eq, Nat.sub_eq, SV.wd]; omega) | exact rfl)) ?_
        exact S.rett rfl rfl rfl rfl rfl
      . replace c8 : ¬ VC u % 2 = 1 := by rw [<- o1]; exact c8
        rw [E1, if_neg c8]
        refine S.go false rfl (by repeat' (first | exact True.intro | refine And.intro ?_ ?_ | assumption | omega | (dsimp only; omega) | (simp only [Nat.add_eq, Nat.mul_eq, Nat.sub_eq, SV.wd]; omega) | exact rfl)) ?_
        exact S.rett rfl rfl rfl rfl rfl
  . have h0 : EV u = true := by rw [<- hs0]; exact decide_eq_true (Decidable.of_not_not c3)
    rw [h0] at hE hO
    rw [hE, hO, if_pos rfl]
    refine S.go false rfl (by repeat' (first | exact True.intro | refine And.intro ?_ ?_ | assumption | omega | (dsimp only; omega) | (simp only [Nat.add_eq, Nat.mul_eq, Nat.sub_eq, SV.wd]; omega) | exact rfl)) ?_
    refine S.drp false [(2, .a .u64 (Qf 4 (Ym u * Ym u % pV)) 4)] rfl rfl rfl ?_ (by repeat' (first | exact True.intro | refine And.intro ?_ ?_ | assumption | omega | (dsimp only; omega) | (simp only [Nat.add_eq, Nat.mul_eq, Nat.sub_eq, SV.wd]; omega) | exact rfl))
    refine S.g false rfl ?_
    refine S.cond rfl (fun c6 => absurd (Decidable.of_not_not c3) c6) (fun c6 => ?_)
    refine S.go false rfl (by repeat' (first | exact True.intro | refine And.intro ?_ ?_ | assumption | omega | (dsimp only; omega) | (simp only [Nat.add_eq, Nat.mul_eq, Nat.sub_eq, SV.wd]; omega) | exact rfl)) ?_
    refine S.cond rfl (fun c8 => ?_) (fun c8 => ?_)
    . replace c8 : Ym u % 2 = 1 := by rw [<- o0]; exact c8
      rw [E0, if_pos c8]
      refine S.go false rfl (by repeat' (first | exact True.intro | refine And.intro ?_ ?_ | assumption | omega | (dsimp only; omega) | (simp only [Nat.add_eq, Nat.mul_eq, Nat.sub_eq, SV.wd]; omega) | exact rfl)) ?_
      refine S.cv rfl rfl rfl rfl rfl rfl N0 ?_
      refine S.go false rfl (by repeat' (first | exact True.intro | refine And.intro ?_ ?_ | assumption | omega | (dsimp only; omega) | (simp only [Nat.add_eq, Nat.mul_eq, Nat.sub_eq, SV.wd]; omega) | exact rfl)) ?_
      exact S.rett rfl rfl rfl rfl rfl
    . replace c8 : ¬ Ym u % 2 = 1 := by rw [<- o0]; exact c8
      rw [E0, if_neg c8]
      refine S.go false rfl (by repeat' (first | exact True.intro | refine And.intro ?_ ?_ | assumption | omega | (dsimp only; omega) | (simp only [Nat.add_eq, Nat.mul_eq, Nat.sub_eq, SV.wd]; omega) | exact rfl)) ?_
      exact S.rett rfl rfl rfl rfl rfl
theorem QhG : GL Tryz.prog gT 49 6 (lm Qb5) := GL.of Qm (El rmL) gT0 rfl (VO rfl) rfl (Nat.lt_of_lt_of_le Nat.zero_lt_one (Nat.le_add_right 1 _)) rfl
def evL (z : List Int) (c : Int) : List Int := if c % 2 = 1 then Qs (ZM [] z) else z
def r0L (x : List Int) : List Int := Yf x (Y0 254 15) 256
def r1L (x : List Int) : List Int := Qs (Xn (r0L x) Qb5)
def rtL (x : List Int) (u : Int) : List Int := if EV u then evL (r0L x) (Ym u) else if Dq u then evL (r1L x) (VC u) else [0, 0, 0, 0, 0]
theorem QcC {z : List Int} {c : Int} (h : Q6 z c) : Q6 (evL z c) (Z6 c) := by
  unfold evL Z6
  split
  . have := Vk Y5 h
    exact this
  . exact h
theorem Qa9 {x : List Int} {u : Int} (hx : Q6 x u) : Q6 (r0L x) (Ym u) := Fa hx Fb
theorem QeN {x : List Int} {u : Int} (hx : Q6 x u) : Q6 (r1L x) (VC u) := Xt (Qa9 hx) HW
theorem QgW {x : List Int} {u : Int} (hx : Q6 x u) : Q6 (rtL x u) (rV u) := by
  unfold rtL rV
  split
  . exact QcC (Qa9 hx)
  . split
    . exact QcC (QeN hx)
    . exact Y5
theorem Qd9 (ρ : QL) (x : List Int) (b : Bool) {y : List Int} {b' : Bool} (hx : x = y) (hb : b = b') : val ρ [lm x, .l b] = (SV.t [lm y, .l b']).den QK := by
  subst hx; subst hb
  simp only [val, SV.den, QI]
  rfl
set_option maxHeartbeats 1000000 in
theorem Qi0 {x : List Int} {u : Int} (hx : Q6 x u) : PV Tryz.prog gT 132 [lm x] (.t [lm (rtL x u), .l (okV u)]) := by
  have h1 := Qiu 254 15
  have h2 := Qb9 hx Fb rfl
  have hr := Qa9 hx
  have ht := QeN hx
  have t0 := Zt _ _ hr.small hr.small
  have s0 := QaY (Xt hr hr) hx
  have t1 := Zt _ _ hr.small HW.small
  have t2 := Zt _ _ ht.small ht.small
  have s1 := QaY (Xt ht ht) hx
  have o0 := Qfg hr
  have o1 := Qfg ht
  have n0 := VK _ hr.small
  have n1 := VK _ ht.small
  have e0 : rtL x u = if EV u then evL (r0L x) (Ym u) else if Dq u then evL (r1L x) (VC u) else [0, 0, 0, 0, 0] := rfl
  have e1 : okV u = (EV u || Dq u) := rfl
  have q0 : EV u = decide (Ym u * Ym u % pV = u) := rfl
  have q1 : Dq u = decide (VC u * VC u % pV = u) := rfl
  change PV _ _ _ _ (lm (r0L x)) at h2
  change PV _ _ _ _ (lm (r1L x)) at t1
  generalize r0L x = z0 at *
  generalize r1L x = z1 at *
  generalize Qs (Xn z0 z0) = y0 at *
  generalize Qs (Xn z1 z1) = y1 at *
  refine PV.mk' Tryz.func132 rfl rfl rfl rfl fun w L hL hG => ?_
  refine S.enter Qm [lm x] gT Tryz.func132 rfl rfl rfl (fun _ => rfl) hL hG ?_
  refine S.g false rfl ?_
  refine S.drp false [(1, .a .u8 (Y0 254 15) 32), (2, lm z0)] rfl rfl rfl ?_ (by repeat' (first | exact True.intro | refine And.intro ?_ ?_ | assumption))
  refine S.g false rfl ?_
  refine S.drp false [(2, lm y0), (4, .c (Ym u * Ym u % pV = u) inferInstance)] rfl rfl rfl ?_ (by repeat' (first | exact True.intro | refine And.intro ?_ ?_ | assumption))
  refine S.g false rfl ?_
  refine S.cond rfl (fun b => ?_) (fun b => ?_)
  . have b0 : EV u = false := by rw [q0]; exact decide_eq_false b
    refine S.g false rfl ?_
    refine S.gl rfl rfl rfl rfl QhG ?_
    refine S.g false rfl ?_
    refine S.cv rfl rfl rfl rfl rfl rfl t1 ?_
    refine S.g false rfl ?_
    refine S.drp false [(2, lm y1), (4, .c (VC u * VC u % pV = u) inferInstance)] rfl rfl rfl ?_ (by repeat' (first | exact True.intro | refine And.intro ?_ ?_ | assumption))
    refine S.g false rfl ?_
    refine S.cond rfl (fun b2 => ?_) (fun b2 => ?_)
    . have b1 : Dq u = false := by rw [q1]; exact decide_eq_false b2
      refine S.g false rfl ?_
      exact S.ret rfl rfl fun ρ W h => ⟨(), Qd9 ρ [0, 0, 0, 0, 0] false (by rw [e0, b0, b1]; rfl) (by rw [e1, b0, b1]; rfl), trivial, trivial⟩
    . have b1 : Dq u = true := by rw [q1]; exact decide_eq_true (Decidable.not_not.1 b2)
      refine S.g false rfl ?_
      refine S.cv rfl rfl rfl rfl rfl rfl o1 ?_
      refine S.g false rfl ?_
      refine S.cond rfl (fun b3 => ?_) (fun b3 => ?_)
      . refine S.g false rfl ?_
        refine S.cv rfl rfl rfl rfl rfl rfl n1 ?_
        refine S.g false rfl ?_
        exact S.ret rfl rfl fun ρ W h => ⟨(), Qd9 ρ (Qs (ZM [] z1)) true (by rw [e0, b0, b1]; simp [evL, b3]) (by rw [e1, b0, b1]; rfl), trivial, trivial⟩
      . refine S.g false rfl ?_
        exact S.ret rfl rfl fun ρ W h => ⟨(), Qd9 ρ z1 true (by rw [e0, b0, b1]; simp [evL, b3]) (by rw [e1, b0, b1]; rfl), trivial, trivial⟩
  . have b0 : EV u = true := by rw [q0]; exact decide_eq_true (Decidable.not_not.1 b)
    have b4 : Ym u * Ym u % pV = u := Decidable.not_not.1 b
    refine S.g false rfl ?_
    refine S.drp false [(2, lm y0), (4, .c (Ym u * Ym u % pV = u) inferInstance)] rfl rfl rfl ?_ (by repeat' (first | exact True.intro | refine And.intro ?_ ?_ | assumption))
    refine S.g false rfl ?_
    refine S.condF rfl (fun h => h b4) ?_
    refine S.g false rfl ?_
    refine S.cv rfl rfl rfl rfl rfl rfl o0 ?_
    refine S.g false rfl ?_
    refine S.cond rfl (fun b3 => ?_) (fun b3 => ?_)
    . refine S.g false rfl ?_
      refine S.cv rfl rfl rfl rfl rfl rfl n0 ?_
      refine S.g false rfl ?_
      exact S.ret rfl rfl fun ρ W h => ⟨(), Qd9 ρ (Qs (ZM [] z0)) true (by rw [e0, b0]; simp [evL, b3]) (by rw [e1, b0]; rfl), trivial, trivial⟩
    . refine S.g false rfl ?_
      exact S.ret rfl rfl fun ρ W h => ⟨(), Qd9 ρ z0 true (by rw [e0, b0]; simp [evL, b3]) (by rw [e1, b0]; rfl), trivial, trivial⟩
theorem QeE {z : List Int} (hz : Qe z) (hl : z.length = 32) : PV Tryz.prog gT 136 [.a .u8 z 32] (.a .u8 (Q2 (Qp z 32 % pV)) 32) := by
  have h1 := Qfy hz hl
  have h2 := JI (Fk z hz)
  refine PV.mk' Tryz.func136 rfl rfl rfl rfl fun w L hL hG => ?_
  refine S.enter Qm [.a .u8 z 32] gT Tryz.func136 rfl rfl rfl (fun _ => rfl) hL hG ?_
  refine S.go false rfl (by repeat' (first | exact True.intro | refine And.intro ?_ ?_ | assumption | exact rfl)) ?_
  refine S.cv rfl rfl rfl rfl rfl rfl h1 ?_
  refine S.g false rfl ?_
  refine S.cv rfl rfl rfl rfl rfl rfl h2 ?_
  refine S.go false rfl (by repeat' (first | exact True.intro | refine And.intro ?_ ?_ | exact QM _ | exact rfl)) ?_
  exact S.retv rfl rfl rfl rfl rfl
theorem Qg3 {z : List Int} (hz : Qe z) (hl : z.length = 32) : PV Tryz.prog gT 130 [.a .u8 z 32] (.c (Qp z 32 < pV) inferInstance) := by
  have h1 := QeE hz hl
  refine PV.mk' Tryz.func130 rfl rfl rfl rfl fun w L hL hG => ?_
  refine S.enter Qm [.a .u8 z 32] gT Tryz.func130 rfl rfl rfl (fun _ => rfl) hL hG ?_
  refine S.go false rfl (by repeat' (first | exact True.intro | refine And.intro ?_ ?_ | assumption | exact rfl)) ?_
  refine S.drp false [(1, .a .u8 (Q2 (Qp z 32 % pV)) 32)] rfl rfl rfl ?_ (by repeat' (first | exact True.intro | refine And.intro ?_ ?_ | assumption | exact QM _))
  refine S.g false rfl ?_
  refine S.retv rfl rfl rfl rfl ?_
  simp only [SV.den]
  rw [FU hz hl]
/-- A point in the plane, one in space. -/
def pl (x y : List Int) : SV := .g [.i .u64 (Qb x 0), .i .u64 (Qb x 1), .i .u64 (Qb x 2), .i .u64 (Qb x 3), .i .u64 (Qb x 4), .i .u64 (Qb y 0), .i .u64 (Qb y 1), .i .u64 (Qb y 2), .i .u64 (Qb y 3), .i .u64 (Qb y 4)]
def sp (x y z t : List Int) : SV := .g [.i .u64 (Qb x 0), .i .u64 (Qb x 1), .i .u64 (Qb x 2), .i .u64 (Qb x 3), .i .u64 (Qb x 4), .i .u64 (Qb y 0), .i .u64 (Qb y 1), .i .u64 (Qb y 2), .i .u64 (Qb y 3), .i .u64 (Qb y 4), .i .u64 (Qb z 0), .i .u64 (Qb z 1), .i .u64 (Qb z 2), .i .u64 (Qb z 3), .i .u64 (Qb z 4), .i .u64 (Qb t 0), .i .u64 (Qb t 1), .i .u64 (Qb t 2), .i .u64 (Qb t 3), .i .u64 (Qb t 4)]
theorem Qbb {x y : List Int} {u v : Int} (hx : Q6 x u) (hy : Q6 y v) : ∃ z, Q6 z ((v + u) % pV) /\ PV Tryz.prog gT 115 [pl x y] (lm z) := by
  have h := Qe0 _ _ hy.small hx.small
  refine ⟨_, DH hy hx, PV.mk' Tryz.func115 rfl rfl rfl rfl fun w L hL hG => ?_⟩
  refine S.enter Qm [pl x y] gT Tryz.func115 rfl rfl rfl (fun _ => rfl) hL hG ?_
  refine S.g false rfl ?_
  refine S.cv rfl rfl rfl rfl rfl rfl h ?_
  refine S.g false rfl ?_
  exact S.retv rfl rfl rfl rfl rfl
theorem Qca {x y : List Int} {u v : Int} (hx : Q6 x u) (hy : Q6 y v) : ∃ z, Q6 z ((v - u) % pV) /\ PV Tryz.prog gT 118 [pl x y] (lm z) := by
  have h := Ea _ _ hy.small hx.small
  refine ⟨_, Vk hy hx, PV.mk' Tryz.func118 rfl rfl rfl rfl fun w L hL hG => ?_⟩
  refine S.enter Qm [pl x y] gT Tryz.func118 rfl rfl rfl (fun _ => rfl) hL hG ?_
  refine S.g false rfl ?_
  refine S.cv rfl rfl rfl rfl rfl rfl h ?_
  refine S.g false rfl ?_
  exact S.retv rfl rfl rfl rfl rfl
theorem QkJ : GL Tryz.prog gT 49 4 (lm dL) := GL.of Qm (El dL) gT1 rfl (VO rfl) rfl (Nat.lt_of_lt_of_le Nat.zero_lt_one (Nat.le_add_right 1 _)) rfl
def dV : Int := Z0 dL % pV
theorem Qf4 : Q6 dL dV := ⟨rfl, ZF (by omega) (by omega) (by omega) (by omega) (by omega), rfl⟩
theorem QeZ {x y : List Int} {u : Int} (hx : Q6 x u) : ∃ z, Q6 z ((0 - u) % pV) /\ PV Tryz.prog gT 71 [pl x y] (pl z y) := by
  have h := VK x hx.small
  have hf := Vk Y5 hx
  change Q6 (Qs (ZM [] x)) ((0 - u) % pV) at hf
  generalize Qs (ZM [] x) = z at *
  refine ⟨z, hf, PV.mk' Tryz.func71 rfl rfl rfl rfl fun w L hL hG => ?_⟩
  refine S.enter Qm [pl x y] gT Tryz.func71 rfl rfl rfl (fun _ => rfl) hL hG ?_
  refine S.g false rfl ?_
  refine S.drp false [(2, lm z)] rfl rfl rfl ?_ (by repeat' (first | exact True.intro | refine And.intro ?_ ?_ | assumption))
  refine S.g false rfl ?_
  exact S.retv rfl rfl rfl rfl rfl
theorem QeL {x y : List Int} {u v : Int} (hx : Q6 x u) (hy : Q6 y v) : ∃ t, Q6 t (u * v % pV) /\ PV Tryz.prog gT 34 [pl x y] (sp x y [1, 0, 0, 0, 0] t) := by
  have h := Zt x y hx.small hy.small
  have hf := Xt hx hy
  have h1 := KP 1 (by omega)
  generalize Qs (Xn x y) = t at *
  refine ⟨t, hf, PV.mk' Tryz.func34 rfl rfl rfl rfl fun w L hL hG => ?_⟩
  refine S.enter Qm [pl x y] gT Tryz.func34 rfl rfl rfl (fun _ => rfl) hL hG ?_
  refine S.g false rfl ?_
  refine S.drp false [(1, lm [1, 0, 0, 0, 0]), (6, lm t)] rfl rfl rfl ?_ (by repeat' (first | exact True.intro | refine And.intro ?_ ?_ | assumption))
  refine S.g false rfl ?_
  exact S.retv rfl rfl rfl rfl rfl
theorem Fw {e f g h : List Int} {a b c d : Int} (he : Q6 e a) (hf : Q6 f b) (hg : Q6 g c) (hh : Q6 h d) : ∃ x y z t, Q6 x (a * b % pV) /\ Q6 y (c * d % pV) /\ Q6 z (b * c % pV) /\ Q6 t (a * d % pV) /\ PV Tryz.prog gT 117 [lm e, lm f, lm g, lm h] (sp x y z t) := by
  have t1 := Zt e f he.small hf.small
  have t2 := Zt g h hg.small hh.small
  have t3 := Zt f g hf.small hg.small
  have t4 := Zt e h he.small hh.small
  have f1 := Xt he hf
  have f2 := Xt hg hh
  have f3 := Xt hf hg
  have f4 := Xt he hh
  generalize Qs (Xn e f) = x at *
  generalize Qs (Xn g h) = y at *
  generalize Qs (Xn f g) = z at *
  generalize Qs (Xn e h) = t at *
  refine ⟨x, y, z, t, f1, f2, f3, f4, PV.mk' Tryz.func117 rfl rfl rfl rfl fun w L hL hG => ?_⟩
  refine S.enter Qm [lm e, lm f, lm g, lm h] gT Tryz.func117 rfl rfl rfl (fun _ => rfl) hL hG ?_
  refine S.g false rfl ?_
  refine S.drp false [(2, lm x), (5, lm y), (9, lm z), (12, lm t)] rfl rfl rfl ?_ (by repeat' (first | exact True.intro | refine And.intro ?_ ?_ | assumption))
  refine S.g false rfl ?_
  exact S.retv rfl rfl rfl rfl rfl
theorem VE {x y : List Int} {u v : Int} (hx : Q6 x u) (hy : Q6 y v) : ∃ z, Q6 z ((u + v) % pV) /\ PV Tryz.prog gT 114 [lm x, lm y] (lm z) := ⟨_, DH hx hy, Qe0 _ _ hx.small hy.small⟩
theorem Yw {x y : List Int} {u v : Int} (hx : Q6 x u) (hy : Q6 y v) : ∃ z, Q6 z ((u - v) % pV) /\ PV Tryz.prog gT 116 [lm x, lm y] (lm z) := ⟨_, Vk hx hy, Ea _ _ hx.small hy.small⟩
theorem Xx {x y : List Int} {u v : Int} (hx : Q6 x u) (hy : Q6 y v) : ∃ z, Q6 z (u * v % pV) /\ PV Tryz.prog gT 84 [lm x, lm y] (lm z) := ⟨_, Xt hx hy, Zt _ _ hx.small hy.small⟩
theorem QiM {x1 y1 z1 t1 x2 y2 z2 t2 : List Int} {a1 b1 c1 d1 a2 b2 c2 d2 : Int} (hx1 : Q6 x1 a1) (hy1 : Q6 y1 b1) (hz1 : Q6 z1 c1) (ht1 : Q6 t1 d1) (hx2 : Q6 x2 a2) (hy2 : Q6 y2 b2) (hz2 : Q6 z2 c2) (ht2 : Q6 t2 d2) :
    ∃ A B C F : Int, A = (b1 - a1) % pV * ((b2 - a2) % pV) % pV /\ B = (b1 + a1) % pV * ((b2 + a2) % pV) % pV /\ C = (d1 * d2 % pV * dV % pV + d1 * d2 % pV * dV % pV) % pV /\ F = (c1 * c2 % pV + c1 * c2 % pV) % pV /\
    ∃ x y z t, Q6 x ((B - A) % pV * ((F - C) % pV) % pV) /\ Q6 y ((F + C) % pV * ((B + A) % pV) % pV) /\ Q6 z ((F - C) % pV * ((F + C) % pV) % pV) /\ Q6 t ((B - A) % pV * ((B + A) % pV) % pV) /\ PV Tryz.prog gT 82 [sp x1 y1 z1 t1, sp x2 y2 z2 t2] (sp x y z t) := by
  obtain ⟨p1, f1, q1⟩ := Qca hx1 hy1
  obtain ⟨p2, f2, q2⟩ := Qca hx2 hy2
  obtain ⟨a, fa, qa⟩ := Xx f1 f2
  obtain ⟨p3, f3, q3⟩ := Qbb hx1 hy1
  obtain ⟨p4, f4, q4⟩ := Qbb hx2 hy2
  obtain ⟨b, fb, qb⟩ := Xx f3 f4
  obtain ⟨p5, f5, q5⟩ := Xx ht1 ht2
  obtain ⟨p6, f6, q6⟩ := Xx f5 Qf4
  obtain ⟨c, fc, qc⟩ := VE f6 f6
  obtain ⟨p7, f7, q7⟩ := Xx hz1 hz2
  obtain ⟨f, ff, qf⟩ := VE f7 f7
  obtain ⟨e, fe, qe⟩ := Yw fb fa
  obtain ⟨g, fg, qg⟩ := Yw ff fc
  obtain ⟨h, fh, qh⟩ := VE ff fc
  obtain ⟨i, fi, qi⟩ := VE fb fa
  obtain ⟨x, y, z, t, k1, k2, k3, k4, k5⟩ := Fw fe fg fh fi
  refine ⟨_, _, _, _, rfl, rfl, rfl, rfl, x, y, z, t, k1, k2, k3, k4, PV.mk' Tryz.func82 rfl rfl rfl rfl fun w L hL hG => ?_⟩
  clear f1 f2 fa f3 f4 fb f5 f6 fc f7 ff fe fg fh fi k1 k2 k3 k4 hx1 hy1 hz1 ht1 hx2 hy2 hz2 ht2
  have gd := QkJ
  refine S.enter Qm [sp x1 y1 z1 t1, sp x2 y2 z2 t2] gT Tryz.func82 rfl rfl rfl (fun _ => rfl) hL hG ?_
  refine S.g false rfl ?_
  refine S.drp false [(2, lm p1), (5, lm p2), (6, lm a)] rfl rfl rfl ?_ (by repeat' (first | exact True.intro | refine And.intro ?_ ?_ | assumption))
  refine S.g false rfl ?_
  refine S.drp false [(2, lm p3), (5, lm p4), (6, lm b)] rfl rfl rfl ?_ (by repeat' (first | exact True.intro | refine And.intro ?_ ?_ | assumption))
  refine S.g false rfl ?_
  refine S.drp false [(4, lm p5), (5, lm dL), (6, lm p6)] rfl rfl rfl ?_ (by repeat' (first | exact True.intro | refine And.intro ?_ ?_ | assumption))
  refine S.g false rfl ?_
  refine S.cv rfl rfl rfl rfl rfl rfl qc ?_
  refine S.g false rfl ?_
  refine S.cv rfl rfl rfl rfl rfl rfl q7 ?_
  refine S.g false rfl ?_
  refine S.cv rfl rfl rfl rfl rfl rfl qf ?_
  refine S.g false rfl ?_
  refine S.drp false [(2, lm e), (5, lm g), (8, lm h), (11, lm i), (12, sp x y z t)] rfl rfl rfl ?_ (by repeat' (first | exact True.intro | refine And.intro ?_ ?_ | assumption))
  refine S.g false rfl ?_
  exact S.retv rfl rfl rfl rfl rfl
theorem Qi3 {x : List Int} {u : Int} (hx : Q6 x u) : ∃ z, Q6 z ((0 - u) % pV) /\ PV Tryz.prog gT 109 [lm x] (lm z) := by
  have hf := Vk Y5 hx
  change Q6 (Qs (ZM [] x)) ((0 - u) % pV) at hf
  exact ⟨_, hf, VK _ hx.small⟩
theorem QdL {x1 y1 z1 t1 : List Int} {a1 b1 c1 d1 : Int} (hx1 : Q6 x1 a1) (hy1 : Q6 y1 b1) (hz1 : Q6 z1 c1) (ht1 : Q6 t1 d1) :
    ∃ A B C E G H : Int, A = a1 * a1 % pV /\ B = b1 * b1 % pV /\ C = (c1 * c1 % pV + c1 * c1 % pV) % pV /\ E = (((b1 + a1) % pV * ((b1 + a1) % pV) % pV - A) % pV - B) % pV /\ G = (B - A) % pV /\ H = (0 - (A + B) % pV) % pV /\
    ∃ x y z t, Q6 x (E * ((G - C) % pV) % pV) /\ Q6 y (G * H % pV) /\ Q6 z ((G - C) % pV * G % pV) /\ Q6 t (E * H % pV) /\ PV Tryz.prog gT 81 [sp x1 y1 z1 t1] (sp x y z t) := by
  obtain ⟨a, fa, qa⟩ := Xx hx1 hx1
  obtain ⟨b, fb, qb⟩ := Xx hy1 hy1
  obtain ⟨c0, f0, q0⟩ := Xx hz1 hz1
  obtain ⟨c, fc, qc⟩ := VE f0 f0
  obtain ⟨s, fs, qs⟩ := Qbb hx1 hy1
  obtain ⟨s2, f2, q2⟩ := Xx fs fs
  obtain ⟨s3, f3, q3⟩ := Yw f2 fa
  obtain ⟨e, fe, qe⟩ := Yw f3 fb
  obtain ⟨g, fg, qg⟩ := Yw fb fa
  obtain ⟨k, fk, qk⟩ := Yw fg fc
  obtain ⟨h0, fh0, qh0⟩ := VE fa fb
  obtain ⟨h, fh, qh⟩ := Qi3 fh0
  obtain ⟨x, y, z, t, k1, k2, k3, k4, k5⟩ := Fw fe fk fg fh
  refine ⟨_, _, _, _, _, _, rfl, rfl, rfl, rfl, rfl, rfl, x, y, z, t, k1, k2, k3, k4, PV.mk' Tryz.func81 rfl rfl rfl rfl fun w L hL hG => ?_⟩
  clear fa fb f0 fc fs f2 f3 fe fg fk fh0 fh k1 k2 k3 k4 hx1 hy1 hz1 ht1
  refine S.enter Qm [sp x1 y1 z1 t1] gT Tryz.func81 rfl rfl rfl (fun _ => rfl) hL hG ?_
  refine S.g false rfl ?_
  refine S.drp false [(6, lm a), (13, lm b), (18, lm c0)] rfl rfl rfl ?_ (by repeat' (first | exact True.intro | refine And.intro ?_ ?_ | assumption))
  refine S.g false rfl ?_
  refine S.cv rfl rfl rfl rfl rfl rfl qc ?_
  refine S.g false rfl ?_
  refine S.cv rfl rfl rfl rfl rfl rfl qs ?_
  refine S.g false rfl ?_
  refine S.drp false [(2, lm s2), (4, lm s3), (6, lm e)] rfl rfl rfl ?_ (by repeat' (first | exact True.intro | refine And.intro ?_ ?_ | assumption))
  refine S.g false rfl ?_
  refine S.cv rfl rfl rfl rfl rfl rfl qg ?_
  refine S.g false rfl ?_
  refine S.drp false [(3, lm k), (7, lm h0), (8, lm h), (9, sp x y z t)] rfl rfl rfl ?_ (by repeat' (first | exact True.intro | refine And.intro ?_ ?_ | assumption))
  refine S.g false rfl ?_
  exact S.retv rfl rfl rfl rfl rfl
theorem Qjy {x1 y1 z1 t1 : List Int} {a1 b1 c1 : Int} (hx1 : Q6 x1 a1) (hy1 : Q6 y1 b1) (hz1 : Q6 z1 c1) : ∃ x y, Q6 x (a1 * D8 c1 % pV) /\ Q6 y (b1 * D8 c1 % pV) /\ PV Tryz.prog gT 35 [sp x1 y1 z1 t1] (pl x y) := by
  obtain ⟨i, fi, qi⟩ := Fp hz1
  obtain ⟨x, fx, qx⟩ := Xx hx1 fi
  obtain ⟨y, fy, qy⟩ := Xx hy1 fi
  refine ⟨x, y, fx, fy, PV.mk' Tryz.func35 rfl rfl rfl rfl fun w L hL hG => ?_⟩
  clear fi fx fy hx1 hy1 hz1
  refine S.enter Qm [sp x1 y1 z1 t1] gT Tryz.func35 rfl rfl rfl (fun _ => rfl) hL hG ?_
  refine S.g false rfl ?_
  refine S.cv rfl rfl rfl rfl rfl rfl qi ?_
  refine S.g false rfl ?_
  refine S.drp false [(4, lm x), (9, lm y)] rfl rfl rfl ?_ (by repeat' (first | exact True.intro | refine And.intro ?_ ?_ | assumption))
  refine S.g false rfl ?_
  exact S.retv rfl rfl rfl rfl rfl
/-- A point's bytes: y, and whether x is odd. -/
def Qag (u v : Int) : List Int := if u % 2 = 1 then (Q2 v).set 31 (bits .or .u8 ((Q2 v).getD 31 0) 128) else Q2 v
theorem QfM {u v : Int} (h : u % 2 = 1) : (Q2 v).set 31 (bits .or .u8 ((Q2 v).getD 31 0) 128) = Qag u v := by unfold Qag; rw [if_pos h]
theorem QdI {u v : Int} (h : ¬ u % 2 = 1) : Q2 v = Qag u v := by unfold Qag; rw [if_neg h]
theorem Qe3 {x y : List Int} {u v : Int} (hx : Q6 x u) (hy : Q6 y v) : PV Tryz.prog gT 36 [pl x y] (.a .u8 (Qag u v) 32) := by
  have h1 := JI hy
  have h2 := Qfg hx
  have e1 := @QfM u v
  have e2 := @QdI u v
  have hl : (Q2 v).length = 32 := QM v
  generalize Qag u v = E at *
  generalize Q2 v = Z at *
  clear hx hy
  refine PV.mk' Tryz.func36 rfl rfl rfl rfl fun w L hL hG => ?_
  refine S.enter Qm [pl x y] gT Tryz.func36 rfl rfl rfl (fun _ => rfl) hL hG ?_
  refine S.g false rfl ?_
  refine S.cv rfl rfl rfl rfl rfl rfl h1 ?_
  refine S.go false rfl (by repeat' (first | exact True.intro | refine And.intro ?_ ?_ | assumption | exact rfl)) ?_
  refine S.cv rfl rfl rfl rfl rfl rfl h2 ?_
  refine S.g false rfl ?_
  refine S.cond rfl (fun c => ?_) (fun c => ?_)
  . rw [<- e1 c]
    have hl' : (Z.set 31 (bits .or .u8 (Z.getD 31 0) 128)).length = 32 := by rw [List.length_set]; exact hl
    refine S.go false rfl (by repeat' (first | exact True.intro | refine And.intro ?_ ?_ | exact hl | exact hl' | exact rfl)) ?_
    exact S.retv rfl rfl rfl rfl rfl
  . rw [<- e2 c]
    refine S.go false rfl (by repeat' (first | exact True.intro | refine And.intro ?_ ?_ | exact hl | exact rfl)) ?_
    exact S.retv rfl rfl rfl rfl rfl
end Go.Proofs.YtbiboamaigedjaaGreatDoor
namespace Go.Proofs.YtbiboamaigedjaaGreatDoor
set_option linter.unusedVariables false
set_option maxRecDepth 100000

instance instPN : NeZero pN := ⟨by decide +kernel⟩
/-- Numbers modulo p. -/
abbrev FF := Fin pN
theorem FF.dvd {a : FF} (h : pN ∣ a.val) : a = 0 := by
  have hl := a.isLt
  have h0 : a.val = 0 := Nat.eq_zero_of_dvd_of_lt h hl
  exact Fin.ext h0
theorem Hz {a b : FF} (h : a*b = 0) : a = 0 \/ b = 0 := by
  have hv : (a*b).val = 0 := by rw [h]; rfl
  rw [Fin.val_mul] at hv
  rcases Uj.euclid (Nat.dvd_of_mod_eq_zero hv) with d | d
  . exact .inl (FF.dvd d)
  . exact .inr (FF.dvd d)
/-- An inverse, by Fermat. -/
def X9 (a : FF) : FF := ⟨a.val ^ (pN - 2) % pN, Nat.mod_lt _ (by decide +kernel)⟩
theorem YB {a : FF} (h : a ≠ 0) : a*X9 a = 1 := by
  have hn : ¬ pN ∣ a.val := fun d => h (FF.dvd d)
  have hf := Uj.fermat hn
  apply Fin.ext
  rw [Fin.val_mul]
  show a.val * (a.val ^ (pN - 2) % pN) % pN = 1
  rw [Nat.mul_mod, Nat.mod_mod, <- Nat.mul_mod, Nat.mul_comm, <- Nat.pow_succ, show (pN - 2).succ = pN - 1 by decide +kernel, hf]
  decide +kernel
def dF : FF := 37095705934669439343138083508754565189542113879843219016388785533085940283555
def eF : FF := 29203323570479832313932222820853031755424015489030106335172286495629888845891
def iF : FF := 19681161376707505956807079304988542015446066515923890162744021073123829784752
theorem V4 : dF*eF = 1 := by decide +kernel
theorem Qf5 : dF.val ^ ((pN - 1) / 2) % pN = pN - 1 := by
  have h := F0 pN dF.val 256 ((pN - 1) / 2) (by decide +kernel)
  rw [<- h]
  decide +kernel
theorem QiE (s : FF) : s*s ≠ dF := by
  intro h
  have hs : s ≠ 0 := by rintro rfl; exact absurd h (by decide +kernel)
  have hn : ¬ pN ∣ s.val := fun d => hs (FF.dvd d)
  have hf := Uj.fermat hn
  have he := Qf5
  rw [<- h, Fin.val_mul, <- Nat.pow_mod, Nat.mul_pow, <- Nat.pow_add, show (pN - 1) / 2 + (pN - 1) / 2 = pN - 1 by decide +kernel, hf] at he
  exact absurd he (by decide +kernel)
def On (d x y : FF) : Prop := y*y - x*x = 1 + d*(x*x)*(y*y)
theorem VF {d e x y : FF} (hde : d*e = 1) (h : On d x y) : x*x*(y*y) = e*(y*y - x*x - 1) := by unfold On at h; grobner
theorem Qfb {d e x1 y1 x2 y2 : FF} (hde : d*e = 1) (h1 : x1*x1*(y1*y1) = e*(y1*y1 - x1*x1 - 1)) (h2 : x2*x2*(y2*y2) = e*(y2*y2 - x2*x2 - 1)) (t m n : FF) (ht : t = d*x1*x2*y1*y2) (hm : m = x1*y2+x2*y1) (hn : n = y1*y2+x1*x2) :
   (n*(1+t))*(n*(1+t)) - (m*(1-t))*(m*(1-t)) = ((1+t)*(1-t))*((1+t)*(1-t)) + d*(m*n)*(m*n) := by
  subst ht hm hn; grobner
theorem Qjc {d m n t a b : FF} (hk : (n*(1+t))*(n*(1+t)) - (m*(1-t))*(m*(1-t)) = ((1+t)*(1-t))*((1+t)*(1-t)) + d*(m*n)*(m*n)) (ha : a*(1+t) = 1) (hb : b*(1-t) = 1) : On d (m*a) (n*b) := by
  unfold On
  have e1 : n*b*(n*b) = (n*(1+t))*(n*(1+t)) * (a*b*(a*b)) := by grobner
  have e2 : m*a*(m*a) = (m*(1-t))*(m*(1-t)) * (a*b*(a*b)) := by grobner
  have e3 : ((1+t)*(1-t))*((1+t)*(1-t)) * (a*b*(a*b)) = 1 := by grobner
  grobner
theorem QkE {d e x1 y1 x2 y2 i ε : FF} (hde : d*e=1) (h1 : x1*x1*(y1*y1) = e*(y1*y1 - x1*x1 - 1)) (h2 : x2*x2*(y2*y2) = e*(y2*y2 - x2*x2 - 1)) (hi : i*i = -1) (he : ε*ε = 1) (ht : d*x1*x2*y1*y2 = ε) :
  (i*x1 + ε*y1)*(i*x1 + ε*y1) = d*(x1*y1*(i*x2 + y2))*(x1*y1*(i*x2+y2)) := by
  grobner
theorem QfI : iF*iF = -1 := by decide +kernel
theorem QbI {a b c : FF} (ha : a ≠ 0) (h : a*b = a*c) : b = c := by
  rcases Hz (a := a) (b := b - c) (by grobner) with h | h
  . exact absurd h ha
  . grobner
theorem Qan {x1 y1 x2 y2 ε : FF} (h1 : On dF x1 y1) (h2 : On dF x2 y2) (he : ε*ε = 1) : dF*x1*x2*y1*y2 ≠ ε := by
  intro ht
  have k1 := VF V4 h1
  have k2 := VF V4 h2
  have hne : ε ≠ 0 := by rintro rfl; exact absurd he (by decide +kernel)
  have hx1 : x1 ≠ 0 := by rintro rfl; exact hne (by grobner)
  have hy1 : y1 ≠ 0 := by rintro rfl; exact hne (by grobner)
  have hx2 : x2 ≠ 0 := by rintro rfl; exact hne (by grobner)
  have hy2 : y2 ≠ 0 := by rintro rfl; exact hne (by grobner)
  have step : ∀ η : FF, η*η = 1 -> ∀ v, (iF*x1 + η*y1)*(iF*x1 + η*y1) = dF*(x1*y1*v)*(x1*y1*v) -> v = 0 := by
    intro η hη v hv
    refine Classical.byContradiction fun hv0 => ?_
    have hz : x1*y1*v ≠ 0 := fun e => by
      rcases Hz e with e | e
      . rcases Hz e with e | e
        . exact hx1 e
        . exact hy1 e
      . exact hv0 e
    have hi := YB hz
    refine QiE ((iF*x1 + η*y1)*X9 (x1*y1*v)) ?_
    generalize x1*y1*v = z at *
    generalize iF*x1 + η*y1 = u at *
    generalize X9 z = f at *
    have e1 : u*f*(u*f) = u*u*(f*f) := by grobner
    have e2 : dF*z*z*(f*f) = dF*(z*f)*(z*f) := by grobner
    rw [e1, hv, e2, hi]
    grobner
  have a1 := step ε he (iF*x2+y2) (QkE V4 k1 k2 QfI he ht)
  have a2 := step (-ε) (by grobner) (iF*x2-y2) (by have := QkE (ε := -ε) (y2 := -y2) (x2 := x2) (y1 := y1) (x1 := x1) V4 k1 (by grobner) QfI (by grobner) (by grobner); grobner)
  have h2 : (2 : FF)*y2 = 0 := by grobner
  rcases Hz h2 with h | h
  . exact absurd h (by decide +kernel)
  . exact hy2 h
theorem HF {x1 y1 x2 y2 : FF} (h1 : On dF x1 y1) (h2 : On dF x2 y2) : 1 + dF*x1*x2*y1*y2 ≠ 0 := fun h => Qan (ε := -1) h1 h2 (by decide +kernel) (by grobner)
theorem HE {x1 y1 x2 y2 : FF} (h1 : On dF x1 y1) (h2 : On dF x2 y2) : 1 - dF*x1*x2*y1*y2 ≠ 0 := fun h => Qan (ε := 1) h1 h2 (by decide +kernel) (by grobner)
structure Pt where
  x : FF
  y : FF
  on : On dF x y
theorem Pt.ext {P Q : Pt} (hx : P.x = Q.x) (hy : P.y = Q.y) : P = Q := by cases P; cases Q; simp_all
theorem QhC {a : FF} (h : a ≠ 0) : X9 a * a = 1 := by have := YB h; grobner
def Qq (P Q : Pt) : Pt where
  x := (P.x*Q.y + Q.x*P.y)*X9 (1 + dF*P.x*Q.x*P.y*Q.y)
  y := (P.y*Q.y + P.x*Q.x)*X9 (1 - dF*P.x*Q.x*P.y*Q.y)
  on := Qjc (Qfb V4 (VF V4 P.on) (VF V4 Q.on) _ _ _ rfl rfl rfl) (QhC (HF P.on Q.on)) (QhC (HE P.on Q.on))
def Xo : Pt := ⟨0, 1, by unfold On; decide +kernel⟩
def X8 (P : Pt) : Pt := ⟨-P.x, P.y, by have := P.on; unfold On at *; grobner⟩
theorem Vd (P Q : Pt) : Qq P Q = Qq Q P := by
  apply Pt.ext
  . show (P.x*Q.y + Q.x*P.y)*X9 (1 + dF*P.x*Q.x*P.y*Q.y) = (Q.x*P.y + P.x*Q.y)*X9 (1 + dF*Q.x*P.x*Q.y*P.y)
    have e : dF*P.x*Q.x*P.y*Q.y = dF*Q.x*P.x*Q.y*P.y := by grobner
    rw [e]; grobner
  . show (P.y*Q.y + P.x*Q.x)*X9 (1 - dF*P.x*Q.x*P.y*Q.y) = (Q.y*P.y + Q.x*P.x)*X9 (1 - dF*Q.x*P.x*Q.y*P.y)
    have e : dF*P.x*Q.x*P.y*Q.y = dF*Q.x*P.x*Q.y*P.y := by grobner
    rw [e]; grobner
/-- What a sum is, by products. -/
theorem Uh (P Q : Pt) : (Qq P Q).x * (1 + dF*P.x*Q.x*P.y*Q.y) = P.x*Q.y + Q.x*P.y := by
  have h := QhC (HF P.on Q.on)
  show (P.x*Q.y + Q.x*P.y)*X9 (1 + dF*P.x*Q.x*P.y*Q.y) * (1 + dF*P.x*Q.x*P.y*Q.y) = _
  generalize X9 (1 + dF*P.x*Q.x*P.y*Q.y) = v at *
  generalize (1 + dF*P.x*Q.x*P.y*Q.y) = u at *
  grobner
theorem Ug (P Q : Pt) : (Qq P Q).y * (1 - dF*P.x*Q.x*P.y*Q.y) = P.y*Q.y + P.x*Q.x := by
  have h := QhC (HE P.on Q.on)
  show (P.y*Q.y + P.x*Q.x)*X9 (1 - dF*P.x*Q.x*P.y*Q.y) * (1 - dF*P.x*Q.x*P.y*Q.y) = _
  generalize X9 (1 - dF*P.x*Q.x*P.y*Q.y) = v at *
  generalize (1 - dF*P.x*Q.x*P.y*Q.y) = u at *
  grobner
/-- A sum is told by what it makes with its divisors. -/
theorem Qcb {P Q R : Pt} (hx : R.x * (1 + dF*P.x*Q.x*P.y*Q.y) = P.x*Q.y + Q.x*P.y) (hy : R.y * (1 - dF*P.x*Q.x*P.y*Q.y) = P.y*Q.y + P.x*Q.x) : Qq P Q = R := by
  have h1 := Uh P Q
  have h2 := Ug P Q
  apply Pt.ext
  . exact QbI (HF P.on Q.on) (by rw [<- hx] at h1; generalize 1 + dF*P.x*Q.x*P.y*Q.y = u at *; grobner)
  . exact QbI (HE P.on Q.on) (by rw [<- hy] at h2; generalize 1 - dF*P.x*Q.x*P.y*Q.y = u at *; grobner)
theorem XZ (P : Pt) : Qq P Xo = P := Qcb (by simp only [Xo]; grobner) (by simp only [Xo]; grobner)
theorem DL (P : Pt) : Qq P (X8 P) = Xo := by
  have := P.on
  refine Qcb ?_ ?_ <;> simp only [Xo, X8] <;> unfold On at this <;> grobner
theorem Qic {d e x1 y1 x2 y2 x3 y3 : FF} (h0 : d * e = 1) (h1 : x1*x1*(y1*y1) = e*(y1*y1 - x1*x1 - 1)) (h2 : x2*x2*(y2*y2) = e*(y2*y2 - x2*x2 - 1)) (h3 : x3*x3*(y3*y3) = e*(y3*y3 - x3*x3 - 1))
  (m n m' n' t s : FF) (hm : m = x1*y2+x2*y1) (hn : n = y1*y2+x1*x2) (ht : t = d*x1*x2*y1*y2) (hm' : m' = x2*y3+x3*y2) (hn' : n' = y2*y3+x2*x3) (hs : s = d*x2*x3*y2*y3) :
  (m*(1-t)*y3 + n*(1+t)*x3) * ((1+s)*(1-s) + d*m'*n'*x1*y1) = (m'*(1-s)*y1 + n'*(1+s)*x1) * ((1+t)*(1-t) + d*m*n*x3*y3) := by
  subst hm hn ht hm' hn' hs
  grobner
theorem Qib {d e x1 y1 x2 y2 x3 y3 : FF} (h0 : d * e = 1) (h1 : x1*x1*(y1*y1) = e*(y1*y1 - x1*x1 - 1)) (h2 : x2*x2*(y2*y2) = e*(y2*y2 - x2*x2 - 1)) (h3 : x3*x3*(y3*y3) = e*(y3*y3 - x3*x3 - 1))
  (m n m' n' t s : FF) (hm : m = x1*y2+x2*y1) (hn : n = y1*y2+x1*x2) (ht : t = d*x1*x2*y1*y2) (hm' : m' = x2*y3+x3*y2) (hn' : n' = y2*y3+x2*x3) (hs : s = d*x2*x3*y2*y3) :
  (n*(1+t)*y3 + m*(1-t)*x3) * ((1+s)*(1-s) - d*m'*n'*x1*y1) = (n'*(1+s)*y1 + m'*(1-s)*x1) * ((1+t)*(1-t) - d*m*n*x3*y3) := by
  subst hm hn ht hm' hn' hs
  grobner
theorem Qk0 {s u A B x y r1 r2 : FF} (h : s*u = x*r2 + r1*y) : s*(A*B*u) = x*A*B*r2 + y*B*A*r1 := by
  have e : s*(A*B*u) = s*u*(A*B) := by grobner
  rw [e, h]; grobner
theorem QkZ {s u C D x y p1 p2 : FF} (h : s*u = p1*y + x*p2) : s*(C*D*u) = x*C*D*p2 + y*D*C*p1 := by
  have e : s*(C*D*u) = s*u*(C*D) := by grobner
  rw [e, h]; grobner
theorem QkY {s u A B x y r1 r2 : FF} (h : s*u = y*r2 + x*r1) : s*(A*B*u) = y*B*A*r2 + x*A*B*r1 := by
  have e : s*(A*B*u) = s*u*(A*B) := by grobner
  rw [e, h]; grobner
theorem Qk1 {s u C D x y p1 p2 : FF} (h : s*u = p2*y + p1*x) : s*(C*D*u) = y*D*C*p2 + x*C*D*p1 := by
  have e : s*(C*D*u) = s*u*(C*D) := by grobner
  rw [e, h]; grobner
theorem Xp (P Q R : Pt) : Qq (Qq P Q) R = Qq P (Qq Q R) := by
  have k1 := VF V4 P.on
  have k2 := VF V4 Q.on
  have k3 := VF V4 R.on
  have ax := Qic V4 k1 k2 k3 _ _ _ _ _ _ rfl rfl rfl rfl rfl rfl
  have ay := Qib V4 k1 k2 k3 _ _ _ _ _ _ rfl rfl rfl rfl rfl rfl
  have p1 := Uh P Q
  have p2 := Ug P Q
  have p3 := Uh Q R
  have p4 := Ug Q R
  have a1 := HF P.on Q.on
  have a2 := HE P.on Q.on
  have a3 := HF Q.on R.on
  have a4 := HE Q.on R.on
  have s1 := Uh (Qq P Q) R
  have s2 := Ug (Qq P Q) R
  have s3 := Uh P (Qq Q R)
  have s4 := Ug P (Qq Q R)
  have b1 := HF (Qq P Q).on R.on
  have b2 := HE (Qq P Q).on R.on
  have b3 := HF P.on (Qq Q R).on
  have b4 := HE P.on (Qq Q R).on
  have nz : ∀ {a b : FF}, a ≠ 0 -> b ≠ 0 -> a * b ≠ 0 := fun ha hb h => (Hz h).elim ha hb
  clear k1 k2 k3
  apply Pt.ext
  . generalize (Qq (Qq P Q) R).x = sx at *
    generalize (Qq P (Qq Q R)).x = tx at *
    generalize (Qq P Q).x = x12 at *
    generalize (Qq P Q).y = y12 at *
    generalize (Qq Q R).x = x23 at *
    generalize (Qq Q R).y = y23 at *
    clear s2 s4 ay b2 b4
    have h1 := nz (nz a1 a2) b1
    have h2 := nz (nz a3 a4) b3
    refine QbI (nz h1 h2) ?_
    generalize hA : 1 + dF*P.x*Q.x*P.y*Q.y = A at *
    generalize hB : 1 - dF*P.x*Q.x*P.y*Q.y = B at *
    generalize hC : 1 + dF*Q.x*R.x*Q.y*R.y = C at *
    generalize hD : 1 - dF*Q.x*R.x*Q.y*R.y = D at *
    have e1 : A*B*(1 + dF*x12*R.x*y12*R.y) = A*B + dF*(P.x*Q.y+Q.x*P.y)*(P.y*Q.y+P.x*Q.x)*R.x*R.y := by rw [<- p1, <- p2]; clear ax; grobner
    have e2 : C*D*(1 + dF*P.x*x23*P.y*y23) = C*D + dF*(Q.x*R.y+R.x*Q.y)*(Q.y*R.y+Q.x*R.x)*P.x*P.y := by rw [<- p3, <- p4]; clear ax; grobner
    have e3 : sx*(A*B*(1 + dF*x12*R.x*y12*R.y)) = (P.x*Q.y+Q.x*P.y)*B*R.y + (P.y*Q.y+P.x*Q.x)*A*R.x := by
      rw [<- p1, <- p2]
      exact Qk0 s1
    have e4 : tx*(C*D*(1 + dF*P.x*x23*P.y*y23)) = (Q.x*R.y+R.x*Q.y)*D*P.y + (Q.y*R.y+Q.x*R.x)*C*P.x := by
      rw [<- p3, <- p4]
      exact QkZ s3
    rw [<- e3, <- e4, <- e1, <- e2] at ax
    generalize A*B*(1 + dF*x12*R.x*y12*R.y) = U at *
    generalize C*D*(1 + dF*P.x*x23*P.y*y23) = V at *
    clear e1 e2 e3 e4 s1 s3 p1 p2 p3 p4 hA hB hC hD
    grobner
  . generalize (Qq (Qq P Q) R).y = sx at *
    generalize (Qq P (Qq Q R)).y = tx at *
    generalize (Qq P Q).x = x12 at *
    generalize (Qq P Q).y = y12 at *
    generalize (Qq Q R).x = x23 at *
    generalize (Qq Q R).y = y23 at *
    clear s1 s3 ax b1 b3
    have h1 := nz (nz a1 a2) b2
    have h2 := nz (nz a3 a4) b4
    refine QbI (nz h1 h2) ?_
    generalize hA : 1 + dF*P.x*Q.x*P.y*Q.y = A at *
    generalize hB : 1 - dF*P.x*Q.x*P.y*Q.y = B at *
    generalize hC : 1 + dF*Q.x*R.x*Q.y*R.y = C at *
    generalize hD : 1 - dF*Q.x*R.x*Q.y*R.y = D at *
    have e1 : A*B*(1 - dF*x12*R.x*y12*R.y) = A*B - dF*(P.x*Q.y+Q.x*P.y)*(P.y*Q.y+P.x*Q.x)*R.x*R.y := by rw [<- p1, <- p2]; clear ay; grobner
    have e2 : C*D*(1 - dF*P.x*x23*P.y*y23) = C*D - dF*(Q.x*R.y+R.x*Q.y)*(Q.y*R.y+Q.x*R.x)*P.x*P.y := by rw [<- p3, <- p4]; clear ay; grobner
    have e3 : sx*(A*B*(1 - dF*x12*R.x*y12*R.y)) = (P.y*Q.y+P.x*Q.x)*A*R.y + (P.x*Q.y+Q.x*P.y)*B*R.x := by
      rw [<- p1, <- p2]
      exact QkY s2
    have e4 : tx*(C*D*(1 - dF*P.x*x23*P.y*y23)) = (Q.y*R.y+Q.x*R.x)*C*P.y + (Q.x*R.y+R.x*Q.y)*D*P.x := by
      rw [<- p3, <- p4]
      exact Qk1 s4
    rw [<- e3, <- e4, <- e1, <- e2] at ay
    generalize A*B*(1 - dF*x12*R.x*y12*R.y) = U at *
    generalize C*D*(1 - dF*P.x*x23*P.y*y23) = V at *
    clear e1 e2 e3 e4 s2 s4 p1 p2 p3 p4 hA hB hC hD
    grobner
theorem Yk (P : Pt) : Qq Xo P = P := by rw [Vd, XZ]
theorem Js (P : Pt) : Qq (X8 P) P = Xo := by rw [Vd, DL]
theorem DM {P Q R : Pt} (h : Qq P R = Qq Q R) : P = Q := by
  have h2 : Qq (Qq P R) (X8 R) = Qq (Qq Q R) (X8 R) := by rw [h]
  rwa [Xp, Xp, DL, XZ, XZ] at h2
theorem Qdk (P Q : Pt) : X8 (Qq P Q) = Qq (X8 P) (X8 Q) := by
  refine DM (R := Qq P Q) ?_
  rw [Js, Vd P Q, Xp, <- Xp (X8 Q), Js, Yk, Js]
theorem Qdj : X8 Xo = Xo := Pt.ext (by show -(0 : FF) = 0; decide +kernel) rfl
/-- So many times a point. -/
def QG : Nat -> Pt -> Pt
  | 0, _ => Xo
  | k + 1, P => Qq (QG k P) P
theorem Qep (P : Pt) : QG 1 P = P := Yk P
theorem Zc (a : Nat) (P : Pt) : ∀ b, QG (a + b) P = Qq (QG a P) (QG b P)
  | 0 => (XZ _).symm
  | b + 1 => by
    show Qq (QG (a + b) P) P = Qq (QG a P) (Qq (QG b P) P)
    rw [Zc a P b, Xp]
theorem Je (a : Nat) (P : Pt) : ∀ b, QG (b * a) P = QG b (QG a P)
  | 0 => by rw [Nat.zero_mul]; rfl
  | b + 1 => by
    rw [Nat.succ_mul, Zc, Je a P b]; rfl
theorem Dr (P : Pt) : ∀ k, QG k (X8 P) = X8 (QG k P)
  | 0 => Qdj.symm
  | k + 1 => by
    show Qq (QG k (X8 P)) (X8 P) = X8 (Qq (QG k P) P)
    rw [Dr P k, Qdk]
theorem JX : ∀ k, QG k Xo = Xo
  | 0 => rfl
  | k + 1 => by
    show Qq (QG k Xo) Xo = Xo
    rw [JX k, XZ]
end Go.Proofs.YtbiboamaigedjaaGreatDoor
namespace Go.Proofs.YtbiboamaigedjaaGreatDoor
open Go.RowKit
set_option linter.unusedVariables false
set_option linter.unusedSimpArgs false
set_option maxRecDepth 8000
set_option maxHeartbeats 2000000

theorem val_mul (a b : FF) : ((a * b).val : Int) = (a.val : Int) * (b.val : Int) % pV := by
  rw [Fin.val_mul, Int.natCast_emod, Int.natCast_mul, Yz]
theorem val_add (a b : FF) : ((a + b).val : Int) = ((a.val : Int) + (b.val : Int)) % pV := by
  rw [Fin.val_add, Int.natCast_emod, Int.natCast_add, Yz]
theorem YR (a b : FF) : ((a - b).val : Int) = ((a.val : Int) - (b.val : Int)) % pV := by
  have hb := b.isLt
  rw [Fin.sub_def, Yz]
  show (((pN - b.val + a.val) % pN : Nat) : Int) = _
  rw [Int.natCast_emod, Int.natCast_add, Int.natCast_sub (by omega)]
  rw [show ((pN : Int) - (b.val : Int) + (a.val : Int)) = (a.val : Int) - (b.val : Int) + (pN : Int) by omega, Int.add_emod_right]
theorem KL (a : FF) : ((-a).val : Int) = (0 - (a.val : Int)) % pV := by
  have h : -a = 0 - a := by grobner
  rw [h, YR]; rfl
theorem Qed : (2 : FF) ≠ 0 := by decide +kernel
theorem nz2 {a b : FF} (ha : a ≠ 0) (hb : b ≠ 0) : a * b ≠ 0 := fun h => (Hz h).elim ha hb
theorem Qkc {x1 y1 x2 y2 d Z1 Z2 x3 : FF} (h : x3 * (1 + d*x1*x2*y1*y2) = x1*y2 + x2*y1) :
    ((y1*Z1 + x1*Z1) * (y2*Z2 + x2*Z2) - (y1*Z1 - x1*Z1) * (y2*Z2 - x2*Z2)) = x3 * ((Z1*Z2 + Z1*Z2) + (x1*y1*Z1 * (x2*y2*Z2) * d + x1*y1*Z1 * (x2*y2*Z2) * d)) := by
  have e : x3 * ((Z1*Z2 + Z1*Z2) + (x1*y1*Z1 * (x2*y2*Z2) * d + x1*y1*Z1 * (x2*y2*Z2) * d)) = (x3 * (1 + d*x1*x2*y1*y2)) * (2 * Z1 * Z2) := by grobner
  rw [e, h]; grobner
theorem Qkb {x1 y1 x2 y2 d Z1 Z2 y3 : FF} (h : y3 * (1 - d*x1*x2*y1*y2) = y1*y2 + x1*x2) :
    ((y1*Z1 + x1*Z1) * (y2*Z2 + x2*Z2) + (y1*Z1 - x1*Z1) * (y2*Z2 - x2*Z2)) = y3 * ((Z1*Z2 + Z1*Z2) - (x1*y1*Z1 * (x2*y2*Z2) * d + x1*y1*Z1 * (x2*y2*Z2) * d)) := by
  have e : y3 * ((Z1*Z2 + Z1*Z2) - (x1*y1*Z1 * (x2*y2*Z2) * d + x1*y1*Z1 * (x2*y2*Z2) * d)) = (y3 * (1 - d*x1*x2*y1*y2)) * (2 * Z1 * Z2) := by grobner
  rw [e, h]; grobner
theorem Qkd {x1 y1 x2 y2 Z1 Z2 : FF} (h1 : Z1 ≠ 0) (h2 : Z2 ≠ 0) (h : 1 + dF*x1*x2*y1*y2 ≠ 0) : (Z1*Z2 + Z1*Z2) + (x1*y1*Z1 * (x2*y2*Z2) * dF + x1*y1*Z1 * (x2*y2*Z2) * dF) ≠ 0 := by
  have e : (Z1*Z2 + Z1*Z2) + (x1*y1*Z1 * (x2*y2*Z2) * dF + x1*y1*Z1 * (x2*y2*Z2) * dF) = 2 * Z1 * Z2 * (1 + dF*x1*x2*y1*y2) := by grobner
  rw [e]; exact nz2 (nz2 (nz2 Qed h1) h2) h
theorem Qke {x1 y1 x2 y2 Z1 Z2 : FF} (h1 : Z1 ≠ 0) (h2 : Z2 ≠ 0) (h : 1 - dF*x1*x2*y1*y2 ≠ 0) : (Z1*Z2 + Z1*Z2) - (x1*y1*Z1 * (x2*y2*Z2) * dF + x1*y1*Z1 * (x2*y2*Z2) * dF) ≠ 0 := by
  have e : (Z1*Z2 + Z1*Z2) - (x1*y1*Z1 * (x2*y2*Z2) * dF + x1*y1*Z1 * (x2*y2*Z2) * dF) = 2 * Z1 * Z2 * (1 - dF*x1*x2*y1*y2) := by grobner
  rw [e]; exact nz2 (nz2 (nz2 Qed h1) h2) h
theorem QjT {P : Pt} : P.y*P.y - P.x*P.x = 1 + dF*P.x*P.x*P.y*P.y := by have h := P.on; unfold On at h; rw [h]; grobner
def c5 (x : List Int) : List Int := [Qb x 0, Qb x 1, Qb x 2, Qb x 3, Qb x 4]
/-- A point in space, its numbers as one. -/
def fp (l : List Int) : SV := .g [.a .u64 l 20]
def l20 (x y z t : List Int) : List Int := c5 x ++ (c5 y ++ (c5 z ++ c5 t))
theorem Qcr (x y z t : List Int) : (l20 x y z t).length = 20 := rfl
theorem HQ (ρ : QL) (x y z t : List Int) : (sp x y z t).den ρ = (fp (l20 x y z t)).den ρ := by
  simp only [sp, fp, l20, c5, SV.den, Qk, SV.cs, List.cons_append, List.nil_append, List.map_cons, List.map_nil]
/-- These are a point's numbers, times some divisor. -/
def ZA (l : List Int) (P : Pt) : Prop := ∃ x y z t : List Int, ∃ Z : FF, l = l20 x y z t /\ Z ≠ 0 /\ Q6 x ((P.x * Z : FF).val : Int) /\ Q6 y ((P.y * Z : FF).val : Int) /\ Q6 z (Z.val : Int) /\ Q6 t ((P.x * P.y * Z : FF).val : Int)
theorem ZA.len {l : List Int} {P : Pt} (h : ZA l P) : l.length = 20 := by obtain ⟨x, y, z, t, Z, rfl, _⟩ := h; exact Qcr x y z t
theorem Qf3 : dV = (dF.val : Int) := by decide +kernel
theorem Qd3 {l m : List Int} {P Q : Pt} (hp : ZA l P) (hq : ZA m Q) : ∃ r, ZA r (Qq P Q) /\ PV Tryz.prog gT 82 [fp l, fp m] (fp r) := by
  obtain ⟨x1, y1, z1, t1, Z1, rfl, hz1, p1, p2, p3, p4⟩ := hp
  obtain ⟨x2, y2, z2, t2, Z2, rfl, hz2, q1, q2, q3, q4⟩ := hq
  obtain ⟨A, B, C, F, hA, hB, hC, hF, x, y, z, t, k1, k2, k3, k4, k5⟩ := QiM p1 p2 p3 p4 q1 q2 q3 q4
  rw [Qf3] at hC
  simp only [<- val_mul, <- val_add, <- YR] at hA hB hC hF
  subst hA hB hC hF
  simp only [<- val_mul, <- val_add, <- YR] at k1 k2 k3 k4
  have hx := Qkc (Z1 := Z1) (Z2 := Z2) (Uh P Q)
  have hy := Qkb (Z1 := Z1) (Z2 := Z2) (Ug P Q)
  have hg := Qkd hz1 hz2 (HF P.on Q.on)
  have hf := Qke hz1 hz2 (HE P.on Q.on)
  rw [hx] at k1 k4
  rw [hy] at k2 k4
  generalize (Z1*Z2 + Z1*Z2) + (P.x*P.y*Z1 * (Q.x*Q.y*Z2) * dF + P.x*P.y*Z1 * (Q.x*Q.y*Z2) * dF) = g at *
  generalize (Z1*Z2 + Z1*Z2) - (P.x*P.y*Z1 * (Q.x*Q.y*Z2) * dF + P.x*P.y*Z1 * (Q.x*Q.y*Z2) * dF) = f at *
  refine ⟨l20 x y z t, ⟨x, y, z, t, f * g, rfl, nz2 hf hg, ?_, ?_, k3, ?_⟩, ?_⟩
  . have e : (Qq P Q).x * (f * g) = (Qq P Q).x * g * f := by grobner
    rw [e]; exact k1
  . have e : (Qq P Q).y * (f * g) = g * ((Qq P Q).y * f) := by grobner
    rw [e]; exact k2
  . have e : (Qq P Q).x * (Qq P Q).y * (f * g) = (Qq P Q).x * g * ((Qq P Q).y * f) := by grobner
    rw [e]; exact k4
  . exact (k5.arg (by simp only [QI, HQ]) rfl).res (HQ _ _ _ _ _) rfl
theorem UI {l : List Int} {P : Pt} (hp : ZA l P) : ∃ r, ZA r (Qq P P) /\ PV Tryz.prog gT 81 [fp l] (fp r) := by
  obtain ⟨x1, y1, z1, t1, Z, rfl, h1, p1, p2, p3, p4⟩ := hp
  obtain ⟨A, B, C, E, G, H, hA, hB, hC, hE, hG, hH, x, y, z, t, k1, k2, k3, k4, k5⟩ := QdL p1 p2 p3 p4
  simp only [<- val_mul, <- val_add, <- YR] at hA hB hC
  subst hA hB hC
  simp only [<- val_mul, <- val_add, <- YR, <- KL] at hE hG hH
  subst hE hG hH
  simp only [<- val_mul, <- val_add, <- YR] at k1 k2 k3 k4
  have hx := Uh P P
  have hy := Ug P P
  have hg := HF P.on P.on
  have hf := HE P.on P.on
  have ho := QjT (P := P)
  have eg : (P.y*Z)*(P.y*Z) - (P.x*Z)*(P.x*Z) = Z*Z*(1 + dF*P.x*P.x*P.y*P.y) := by rw [<- ho]; grobner
  have ef : Z*Z*(1 + dF*P.x*P.x*P.y*P.y) - (Z*Z + Z*Z) = -(Z*Z*(1 - dF*P.x*P.x*P.y*P.y)) := by grobner
  have es : (P.y*Z + P.x*Z)*(P.y*Z + P.x*Z) - (P.x*Z)*(P.x*Z) - (P.y*Z)*(P.y*Z) = Z*Z*(P.x*P.y + P.x*P.y) := by grobner
  have eh : -((P.x*Z)*(P.x*Z) + (P.y*Z)*(P.y*Z)) = -(Z*Z*(P.y*P.y + P.x*P.x)) := by grobner
  rw [eg, ef] at k3
  rw [es, eg, ef, <- hx] at k1
  rw [eg, eh, <- hy] at k2
  rw [es, eh, <- hx, <- hy] at k4
  generalize 1 + dF*P.x*P.x*P.y*P.y = g at *
  generalize 1 - dF*P.x*P.x*P.y*P.y = f at *
  have hz2 := nz2 h1 h1
  refine ⟨l20 x y z t, ⟨x, y, z, t, -(Z*Z*f) * (Z*Z*g), rfl, ?_, ?_, ?_, k3, ?_⟩, (k5.arg (by simp only [QI, HQ]) rfl).res (HQ _ _ _ _ _) rfl⟩
  . intro h0
    have h00 : (Z*Z*f)*(Z*Z*g) = 0 := by clear hx hy eg ef es eh ho; grobner
    exact nz2 (nz2 hz2 hf) (nz2 hz2 hg) h00
  . have e : (Qq P P).x * (-(Z*Z*f) * (Z*Z*g)) = Z*Z*((Qq P P).x*g) * -(Z*Z*f) := by clear hx hy eg ef es eh ho; grobner
    rw [e]; exact k1
  . have e : (Qq P P).y * (-(Z*Z*f) * (Z*Z*g)) = Z*Z*g * -(Z*Z*((Qq P P).y*f)) := by clear hx hy eg ef es eh ho; grobner
    rw [e]; exact k2
  . have e : (Qq P P).x * (Qq P P).y * (-(Z*Z*f) * (Z*Z*g)) = Z*Z*((Qq P P).x*g) * -(Z*Z*((Qq P P).y*f)) := by clear hx hy eg ef es eh ho; grobner
    rw [e]; exact k4
/-- A point in space as it is raised. -/
def Qgq (l : List Int) (P : Pt) : Prop := ZA l P /\ ∃ x y z t, l = l20 x y z t /\ Q6 x (P.x.val : Int) /\ Q6 y (P.y.val : Int)
theorem Ue {x y : List Int} {P : Pt} (hx : Q6 x (P.x.val : Int)) (hy : Q6 y (P.y.val : Int)) : ∃ r, Qgq r P /\ PV Tryz.prog gT 34 [pl x y] (fp r) := by
  obtain ⟨t, ht, h⟩ := QeL hx hy
  rw [<- val_mul] at ht
  refine ⟨l20 x y [1, 0, 0, 0, 0] t, ⟨⟨x, y, _, t, 1, rfl, by decide +kernel, ?_, ?_, Jp, ?_⟩, x, y, _, t, rfl, hx, hy⟩, h.res (HQ _ _ _ _ _) rfl⟩
  . have e : P.x * 1 = P.x := by grobner
    rw [e]; exact hx
  . have e : P.y * 1 = P.y := by grobner
    rw [e]; exact hy
  . have e : P.x * P.y * 1 = P.x * P.y := by grobner
    rw [e]; exact ht
theorem G2 (a : FF) : D8 (a.val : Int) = ((X9 a).val : Int) := by
  show (a.val : Int) ^ (Qp (Y0 235 127) 32).toNat % pV = ((a.val ^ (pN - 2) % pN : Nat) : Int)
  rw [Qcu, Int.natCast_emod, Int.natCast_pow, Yz]
theorem Qbt {l : List Int} {P : Pt} (hp : ZA l P) : ∃ x y, Q6 x (P.x.val : Int) /\ Q6 y (P.y.val : Int) /\ PV Tryz.prog gT 35 [fp l] (pl x y) := by
  obtain ⟨x1, y1, z1, t1, Z, rfl, h1, p1, p2, p3, p4⟩ := hp
  obtain ⟨x, y, k1, k2, k3⟩ := Qjy (t1 := t1) p1 p2 p3
  rw [G2, <- val_mul] at k1 k2
  have hi := YB h1
  have e1 : P.x * Z * X9 Z = P.x := by generalize X9 Z = f at *; grobner
  have e2 : P.y * Z * X9 Z = P.y := by generalize X9 Z = f at *; grobner
  rw [e1] at k1
  rw [e2] at k2
  exact ⟨x, y, k1, k2, k3.arg (by simp only [QI, HQ]) rfl⟩
theorem J6 : ∃ r, ZA r Xo /\ PV Tryz.prog gT 80 [] (fp r) := by
  obtain ⟨r, hr, h⟩ := Ue (P := Xo) (x := [0, 0, 0, 0, 0]) (y := [1, 0, 0, 0, 0]) Y5 Jp
  have hr := hr.1
  refine ⟨r, hr, PV.mk' Tryz.func80 rfl rfl rfl rfl fun w L hL hG => ?_⟩
  refine S.enter Qm [] gT Tryz.func80 rfl rfl rfl (fun _ => rfl) hL hG ?_
  refine S.g false rfl ?_
  refine S.cv rfl rfl rfl rfl rfl rfl (KP 1 (by omega)) ?_
  refine S.g false rfl ?_
  refine S.cv rfl rfl rfl rfl rfl rfl h ?_
  refine S.go false rfl (by repeat' (first | exact True.intro | refine And.intro ?_ ?_ | exact hr.len | exact rfl)) ?_
  exact S.retv rfl rfl rfl rfl rfl
theorem Qga {α : Type} {Q : Nat -> α -> Prop} {S : Nat -> α -> α -> Prop} (x0 : α) (h0 : Q 0 x0) (h : ∀ m x, Q m x -> ∃ y, Q (m + 1) y /\ S m x y) : ∃ f : Nat -> α, f 0 = x0 /\ ∀ m, Q m (f m) /\ S m (f m) (f (m + 1)) := by
  let g : (m : Nat) -> { x : α // Q m x } := fun m => Nat.rec ⟨x0, h0⟩ (fun k p => ⟨Classical.choose (h k p.1 p.2), (Classical.choose_spec (h k p.1 p.2)).1⟩) m
  refine ⟨fun m => (g m).1, rfl, fun m => ⟨(g m).2, ?_⟩⟩
  exact (Classical.choose_spec (h m (g m).1 (g m).2)).2
/-- Twenty numbers of a table. -/
def Jg (T : List Int) (k : Nat) : List Int := (T.drop (k * 20)).take 20
def Jj (T r : List Int) (k : Nat) : List Int := T.take (k * 20) ++ (r ++ T.drop (k * 20 + 20))
theorem Qdh {T r : List Int} {k : Nat} (hT : T.length = 320) (hr : r.length = 20) (hk : k < 16) : (Jj T r k).length = 320 := by
  unfold Jj; rw [List.length_append, List.length_append, List.length_take, List.length_drop]; omega
theorem Qa4 {T r : List Int} {k : Nat} (hT : T.length = 320) (hr : r.length = 20) (hk : k < 16) : Jg (Jj T r k) k = r := by
  unfold Jg Jj
  have hl : (T.take (k * 20)).length = k * 20 := by rw [List.length_take]; omega
  have e := List.drop_length_add_append (l₁ := T.take (k * 20)) (l₂ := r ++ T.drop (k * 20 + 20)) (i := 0)
  rw [hl, Nat.add_zero, List.drop_zero] at e
  rw [e, List.take_append_of_le_length (by omega), List.take_of_length_le (by omega)]
theorem Qdf {T r : List Int} {k j : Nat} (hT : T.length = 320) (hk : k < 16) (hj : j < k) : Jg (Jj T r k) j = Jg T j := by
  unfold Jg Jj
  have hl : (T.take (k * 20)).length = k * 20 := by rw [List.length_take]; omega
  rw [List.drop_append_of_le_length (by omega), List.take_append_of_le_length (by rw [List.length_drop]; omega), List.drop_take, List.take_take, Nat.min_eq_left (by omega)]
/-- A point 0 to k times. -/
def QdT (T : List Int) (k : Nat) (P : Pt) : Prop := T.length = 320 /\ ∀ j, j <= k -> ZA (Jg T j) (QG j P)
def Qk5 (l : List Int) (k : Nat) (x y : List Int) : Prop := k < 15 -> ∃ r, r.length = 20 /\ PV Tryz.prog gT 82 [fp (Jg x k), fp l] (fp r) /\ y = Jj x r (k + 1)
theorem Qbl {l : List Int} {P : Pt} (hp : ZA l P) (t0 : List Int) (h0 : QdT t0 0 P) : ∃ f : Nat -> List Int, f 0 = t0 /\ ∀ k, (k <= 15 -> QdT (f k) k P) /\ Qk5 l k (f k) (f (k + 1)) := by
  refine Qga (Q := fun k x => k <= 15 -> QdT x k P) t0 (fun _ => h0) (fun k x hx => ?_)
  by_cases hk : k < 15
  . have hq := hx (by omega)
    obtain ⟨r, hr, cr⟩ := Qd3 (hq.2 k (Nat.le_refl _)) hp
    refine ⟨Jj x r (k + 1), fun _ => ⟨Qdh hq.1 hr.len (by omega), fun j hj => ?_⟩, fun _ => ⟨r, hr.len, cr, rfl⟩⟩
    by_cases hjk : j = k + 1
    . subst hjk; rw [Qa4 hq.1 hr.len (by omega)]; exact hr
    . rw [Qdf hq.1 (by omega) (by omega)]; exact hq.2 j (by omega)
  . exact ⟨x, fun h => absurd h (by omega), fun h => absurd h hk⟩
theorem Qk3 {K : IntKind} {l l' : List Int} {n : Nat} (h : l = l') : (SV.a K l n).eqv (SV.a K l' n) := by subst h; exact rfl
set_option maxHeartbeats 1000000 in
theorem Uk {l : List Int} {P : Pt} (hp : ZA l P) : ∃ T, QdT T 15 P /\ PV Tryz.prog gT 79 [fp l] (.a .u64 T 320) := by
  obtain ⟨n0, hn, hn0⟩ := J6
  have ht0 : QdT (n0 ++ List.replicate 300 0) 0 P := ⟨by rw [List.length_append, hn.len]; rfl, fun j hj => by
    obtain rfl : j = 0 := by omega
    show ZA (((n0 ++ List.replicate 300 0).drop (0 * 20)).take 20) Xo
    rw [Nat.zero_mul, List.drop_zero, List.take_append_of_le_length (by rw [hn.len]; omega), List.take_of_length_le (by rw [hn.len]; omega)]
    exact hn⟩
  obtain ⟨F, hF0, hF⟩ := Qbl hp _ ht0
  refine ⟨F 15, (hF 15).1 (Nat.le_refl _), PV.mk' Tryz.func79 rfl rfl rfl rfl fun w L hL hG => ?_⟩
  have hlen : ∀ k, k <= 15 -> (F k).length = 320 := fun k hk => ((hF k).1 hk).1
  have hll := hp.len
  have hnl := hn.len
  refine S.enter Qm [fp l] gT Tryz.func79 rfl rfl rfl (fun _ => rfl) hL hG ?_
  refine S.go false rfl (by repeat' (first | exact True.intro | refine And.intro ?_ ?_ | exact hll | exact rfl)) ?_
  refine S.cv rfl rfl rfl rfl rfl rfl hn0 ?_
  refine S.go false rfl (by repeat' (first | exact True.intro | refine And.intro ?_ ?_ | exact hnl | exact rfl)) ?_
  refine S.recell 2 [.a .u64 (F 0) 320] rfl (fun ρ => ?_) ⟨hlen 0 (by omega), trivial⟩ rfl ?_
  . rw [hF0]; simp only [Qk, SV.cs, List.append_nil, List.map_append]; first | done | rfl
  refine S.loop [1, 2, 3] (fun k : Nat => [(7, .i .i64 (k : Int))]) (fun k => [(0, [.a .u64 l 20]), (1, [.a .u64 (List.replicate 320 0) 320]), (2, [.a .u64 (F k) 320])]) (fun _ => []) (fun k => k <= 15) (fun k => 15 - k) 0 rfl (fun _ => rfl) (fun _ => rfl) rfl ⟨⟨rfl, rfl⟩, trivial⟩ (by repeat' (first | exact True.intro | refine And.intro ?_ ?_ | exact hll | exact hlen 0 (by omega) | exact rfl)) (fun _ _ _ => trivial) (by omega) fun J k hk again => ?_
  have hk' : k <= 15 := hk
  have hFk := hlen k hk'
  refine S.g false rfl ?_
  refine S.cond rfl (fun c => ?_) (fun c => ?_)
  . have c' : k < 15 := by omega
    obtain ⟨r, hrl, hw, hy⟩ := (hF k).2 c'
    have hw' := hw.arg (args' := [.g [.a .u64 (((F k).drop (Nat.add 0 (Nat.mul (Int.toNat (k : Int)) 20))).take 20) 20], fp l]) (congrArg (fun z => QI QK [SV.g [.a .u64 z 20], fp l]) (by unfold Jg; congr 2; simp)) rfl
    refine S.g false rfl ?_
    refine S.drp false [(6, fp r)] rfl rfl rfl ?_ (by repeat' (first | exact True.intro | refine And.intro ?_ ?_ | omega | (dsimp only; omega) | exact hrl | exact hw' | exact rfl))
    refine S.g false rfl ?_
    refine S.again (again (k + 1) (show k + 1 <= 15 by omega) (show 15 - (k + 1) < 15 - k by omega)) ⟨⟨rfl, by omega⟩, rfl, rfl, rfl, trivial⟩ ?_ rfl rfl (fun x hx => hx) rfl (fun ρ W h => h.hs)
    repeat' (first | exact True.intro | refine And.intro ?_ ?_ | exact hll | exact hlen (k + 1) (by omega) | exact Qk3 (by rw [hy]; unfold Jj; simp only [show Int.toNat ((k : Int) + 1) = k + 1 by omega, Nat.add_eq, Nat.mul_eq, Nat.zero_add]) | exact rfl)
  . obtain rfl : k = 15 := by omega
    refine S.g false rfl ?_
    exact S.retv rfl rfl rfl rfl rfl
def kB (kb : List Int) : Nat := (Qp kb 32).toNat
theorem QfE {kb : List Int} (h : Qe kb) : kB kb < 2 ^ 256 := by
  have := Zj kb h
  unfold kB
  omega
theorem QcQ {kb : List Int} (h : Qe kb) (j : Nat) (hj : j < 256) : Kg kb j = ((kB kb / 2 ^ j % 2 : Nat) : Int) := by
  have h0 := (Zj kb h).1
  rw [Hi kb h 32 j (by omega)]
  unfold kB
  rw [Int.natCast_emod, Int.natCast_ediv, Int.natCast_pow, Int.toNat_of_nonneg h0]
  rfl
/-- A sum of so many points. -/
def Yt : Nat -> (Nat -> Pt) -> Pt
  | 0, _ => Xo
  | n + 1, F => Qq (Yt n F) (F n)
theorem Fd (a b c d : Pt) : Qq (Qq a b) (Qq c d) = Qq (Qq a c) (Qq b d) := by
  rw [Xp, <- Xp b, Vd b c, Xp c, <- Xp a]
theorem Dl (F G : Nat -> Pt) : ∀ n, Yt n (fun j => Qq (F j) (G j)) = Qq (Yt n F) (Yt n G)
  | 0 => (XZ Xo).symm
  | n + 1 => by
    show Qq (Yt n (fun j => Qq (F j) (G j))) (Qq (F n) (G n)) = Qq (Qq (Yt n F) (F n)) (Qq (Yt n G) (G n))
    rw [Dl F G n, Fd]
theorem UU {F G : Nat -> Pt} : ∀ n, (∀ j, j < n -> F j = G j) -> Yt n F = Yt n G
  | 0, _ => rfl
  | n + 1, h => by
    show Qq (Yt n F) (F n) = Qq (Yt n G) (G n)
    rw [UU n (fun j hj => h j (by omega)), h n (by omega)]
theorem QlC (A : Pt) : Qq (Qq (Qq (Qq A A) (Qq A A)) (Qq (Qq A A) (Qq A A))) (Qq (Qq (Qq A A) (Qq A A)) (Qq (Qq A A) (Qq A A))) = QG 16 A := by
  have h2 : Qq A A = QG 2 A := by rw [show (2 : Nat) = 1 + 1 from rfl, Zc, Qep]
  have h4 : Qq (QG 2 A) (QG 2 A) = QG 4 A := (Zc 2 A 2).symm
  have h8 : Qq (QG 4 A) (QG 4 A) = QG 8 A := (Zc 4 A 4).symm
  have h16 : Qq (QG 8 A) (QG 8 A) = QG 16 A := (Zc 8 A 8).symm
  rw [h2, h4, h8, h16]
theorem HU (A B : Pt) : ∀ k, QG k (Qq A B) = Qq (QG k A) (QG k B)
  | 0 => (XZ Xo).symm
  | k + 1 => by
    show Qq (QG k (Qq A B)) (Qq A B) = Qq (Qq (QG k A) A) (Qq (QG k B) B)
    rw [HU A B k, Fd]
theorem HR (k : Nat) (F : Nat -> Pt) : ∀ n, QG k (Yt n F) = Yt n (fun j => QG k (F j))
  | 0 => JX k
  | n + 1 => by
    show QG k (Qq (Yt n F) (F n)) = Qq (Yt n fun j => QG k (F j)) (QG k (F n))
    rw [HU, HR k F n]
/-- Four bits of a number, the at-th from below. -/
def nib (kb : List Int) (at_ : Nat) : Int := Qb kb (at_ / 2) / 2 ^ (4 * (at_ % 2)) % 16
theorem Qjf (kb : List Int) (at_ : Nat) : 0 <= nib kb at_ /\ nib kb at_ < 16 := by unfold nib; omega
theorem Qjg {kb : List Int} (h : Qe kb) (t : Nat) (ht : t < 64) : nib kb t = ((kB kb / 16 ^ t % 16 : Nat) : Int) := by
  have e16 : (16 : Nat) ^ t = 2 ^ (4 * t) := by rw [show (16 : Nat) = 2 ^ 4 from rfl, <- Nat.pow_mul]
  rw [e16]
  have hb := fun i (hi : i < 4) => QcQ h (4 * t + i) (by omega)
  have hd : ∀ i, i < 4 -> Kg kb (4 * t + i) = Qb kb (t / 2) / 2 ^ (4 * (t % 2)) / 2 ^ i % 2 := by
    intro i hi
    unfold Kg
    rw [show (4 * t + i) / 8 = t / 2 by omega, show (4 * t + i) % 8 = 4 * (t % 2) + i by omega, Int.pow_add, Int.ediv_ediv_of_nonneg (Int.le_of_lt (Q7 _))]
  have hk : ∀ i, kB kb / 2 ^ (4 * t + i) = kB kb / 2 ^ (4 * t) / 2 ^ i := fun i => by rw [Nat.pow_add, Nat.div_div_eq_div_mul]
  have h0 := hb 0 (by omega); have h1 := hb 1 (by omega); have h2 := hb 2 (by omega); have h3 := hb 3 (by omega)
  rw [hd 0 (by omega), hk] at h0
  rw [hd 1 (by omega), hk] at h1
  rw [hd 2 (by omega), hk] at h2
  rw [hd 3 (by omega), hk] at h3
  unfold nib
  have hx := h.at (t / 2)
  have hn : 0 <= Qb kb (t / 2) / 2 ^ (4 * (t % 2)) := Int.ediv_nonneg hx.1 (Int.le_of_lt (Q7 _))
  generalize Qb kb (t / 2) / 2 ^ (4 * (t % 2)) = y at *
  generalize kB kb / 2 ^ (4 * t) = X at *
  simp only [Int.reducePow, Nat.reducePow] at *
  omega
theorem Qeq {K t : Nat} (P : Pt) : Qq (QG 16 (QG (K / 16 ^ (t + 1)) P)) (QG (K / 16 ^ t % 16) P) = QG (K / 16 ^ t) P := by
  rw [<- Je, <- Zc]
  congr 1
  rw [Nat.pow_succ, <- Nat.div_div_eq_div_mul]
  omega
theorem Qc4 {x : Int} (h : 0 <= x /\ x <= 255) : bits BinOp.and IntKind.u8 x 15 = x % 16 := UL (p := fun y => bits BinOp.and IntKind.u8 y 15 = y % 16) (by decide +kernel) h
/-- Four bits, as the program takes them. -/
def VJ (kb : List Int) (k : Nat) : Int := bits .and .u8 (kb.getD (Int.toNat ((63 - (k : Int)) / 2)) 0 / 2 ^ Int.toNat (4 * ((63 - (k : Int)) % 2))) 15
theorem Qhp {kb : List Int} (h : Qe kb) {k : Nat} (hk : k < 64) : VJ kb k = nib kb (63 - k) := by
  unfold VJ nib
  have e1 : Int.toNat ((63 - (k : Int)) / 2) = (63 - k) / 2 := by omega
  have e2 : Int.toNat (4 * ((63 - (k : Int)) % 2)) = 4 * ((63 - k) % 2) := by omega
  rw [e1, e2]
  have e3 : kb.getD ((63 - k) / 2) 0 = Qb kb ((63 - k) / 2) := by simp [Qb]
  rw [e3, Qc4]
  exact VX (h.at _) _
/-- One turn: four times twice as much, then each point's table. -/
def Qk4 (n : Nat) (kb T : Nat -> List Int) (i : Nat) (x y : List Int) : Prop := i < 64 -> ∃ d a : Nat -> List Int, d 0 = x /\ a 0 = d 4 /\ y = a n /\ (∀ c, c <= 4 -> (d c).length = 20) /\ (∀ j, j <= n -> (a j).length = 20) /\
  (∀ c, c < 4 -> PV Tryz.prog gT 81 [fp (d c)] (fp (d (c + 1)))) /\
  (∀ j, j < n -> (0 <= VJ (kb j) i /\ VJ (kb j) i < 16) /\ PV Tryz.prog gT 82 [fp (a j), .g [.a .u64 (((T j).drop (Nat.add 0 (Nat.mul (Int.toNat (VJ (kb j) i)) 20))).take 20) 20]] (fp (a (j + 1))))
set_option maxHeartbeats 1000000 in
theorem GP {n : Nat} {kb T : Nat -> List Int} {P : Nat -> Pt} (ht : ∀ j, j < n -> QdT (T j) 15 (P j)) (hb : ∀ j, j < n -> Qe (kb j)) (x0 : List Int) (h0 : ZA x0 Xo) :
    ∃ f : Nat -> List Int, f 0 = x0 /\ ∀ i, (i <= 64 -> ZA (f i) (Yt n fun j => QG (kB (kb j) / 16 ^ (64 - i)) (P j))) /\ Qk4 n kb T i (f i) (f (i + 1)) := by
  refine Qga (Q := fun i x => i <= 64 -> ZA x (Yt n fun j => QG (kB (kb j) / 16 ^ (64 - i)) (P j))) x0 (fun _ => ?_) (fun i x hx => ?_)
  . have e : (Yt n fun j => QG (kB (kb j) / 16 ^ (64 - 0)) (P j)) = Xo := by
      rw [UU (G := fun _ => Xo) n (fun j hj => by
        rw [Nat.div_eq_of_lt (by have := QfE (hb j hj); rw [show (16 : Nat) ^ (64 - 0) = 2 ^ 256 by decide]; exact this)]; rfl)]
      clear h0 ht hb
      induction n with
      | zero => rfl
      | succ n ih => show Qq (Yt n fun _ => Xo) Xo = Xo; rw [ih, XZ]
    rw [e]; exact h0
  . by_cases hi : i < 64
    . have hq := hx (by omega)
      obtain ⟨d1, r1, c1⟩ := UI hq
      obtain ⟨d2, r2, c2⟩ := UI r1
      obtain ⟨d3, r3, c3⟩ := UI r2
      obtain ⟨d4, r4, c4⟩ := UI r3
      rw [QlC] at r4
      have hin := Qga (Q := fun j a => j <= n -> ZA a (Qq (QG 16 (Yt n fun j => QG (kB (kb j) / 16 ^ (64 - i)) (P j))) (Yt j fun j => QG (kB (kb j) / 16 ^ (63 - i) % 16) (P j))))
        (S := fun j a b => j < n -> (0 <= VJ (kb j) i /\ VJ (kb j) i < 16) /\ PV Tryz.prog gT 82 [fp a, .g [.a .u64 (((T j).drop (Nat.add 0 (Nat.mul (Int.toNat (VJ (kb j) i)) 20))).take 20) 20]] (fp b))
        d4 (fun _ => by show ZA d4 (Qq _ Xo); rw [XZ]; exact r4) (fun j a ha => by
          by_cases hj : j < n
          . have hv := Qjg (hb j hj) (63 - i) (by omega)
            have hlt := Qjf (kb j) (63 - i)
            rw [<- Qhp (hb j hj) hi] at hv hlt
            have hr := (ht j hj).2 (VJ (kb j) i).toNat (by omega)
            have ev : (VJ (kb j) i).toNat = kB (kb j) / 16 ^ (63 - i) % 16 := by rw [hv]; exact Int.toNat_natCast _
            obtain ⟨b, rb, cb⟩ := Qd3 (ha (by omega)) hr
            rw [ev, Xp] at rb
            exact ⟨b, fun _ => rb, fun _ => ⟨hlt, cb.arg (congrArg (fun z => QI QK [fp a, SV.g [.a .u64 z 20]]) (by unfold Jg; simp)) rfl⟩⟩
          . exact ⟨a, fun h => absurd h (by omega), fun h => absurd h hj⟩)
      obtain ⟨a, ha0, ha⟩ := hin
      have hfin := (ha n).1 (Nat.le_refl _)
      rw [HR, <- Dl] at hfin
      refine ⟨a n, fun _ => ?_, fun _ => ⟨fun c => match c with | 0 => x | 1 => d1 | 2 => d2 | 3 => d3 | _ => d4, a, rfl, ha0, rfl, ?_, fun j hj => ((ha j).1 hj).len, ?_, fun j hj => (ha j).2 hj⟩⟩
      . rw [UU (G := fun j => QG (kB (kb j) / 16 ^ (63 - i)) (P j)) n (fun j hj => by
          have h := Qeq (K := kB (kb j)) (t := 63 - i) (P j)
          rw [show 63 - i + 1 = 64 - i by omega] at h
          exact h)] at hfin
        rw [show 64 - (i + 1) = 63 - i by omega]
        exact hfin
      . intro c hc
        match c, hc with
        | 0, _ => exact hq.len
        | 1, _ => exact r1.len
        | 2, _ => exact r2.len
        | 3, _ => exact r3.len
        | 4, _ => exact r4.len
        | c + 5, h => omega
      . intro c hc
        match c, hc with
        | 0, _ => exact c1
        | 1, _ => exact c2
        | 2, _ => exact c3
        | 3, _ => exact c4
        | c + 4, h => omega
    . exact ⟨x, fun h => absurd h (by omega), fun h => absurd h hi⟩
abbrev gTn : Nat := gT.length
set_option maxHeartbeats 4000000 in
theorem Qhv {k0 l0 : List Int} {P0 : Pt} (hk0 : Qe k0) (hkl0 : k0.length = 32) (hp0 : ZA l0 P0) : ∃ r, ZA r (QG (kB k0) P0) /\ ∀ q1 q2, PR Tryz.prog gT 33 [.y q1 0 1 1, .y q2 0 1 1] [(q1, [.a .u8 k0 32]), (q2, [.a .u64 l0 20])] (fp r) := by
  obtain ⟨T0, ht0, hm0⟩ := Uk hp0
  obtain ⟨n0, hn, hn0⟩ := J6
  obtain ⟨F, hF0, hF⟩ := GP (n := 1) (kb := (fun _ : Nat => k0)) (T := (fun _ : Nat => T0)) (P := (fun _ : Nat => P0)) (fun j hj => by
    match j, hj with
    | 0, _ => exact ht0
    | j + 1, h => omega) (fun j hj => by
    match j, hj with
    | 0, _ => exact hk0
    | j + 1, h => omega) n0 hn
  have hlen : ∀ k, k <= 64 -> (F k).length = 20 := fun k hk => ((hF k).1 hk).len
  have hfin := (hF 64).1 (Nat.le_refl _)
  simp only [Yt, Nat.sub_self, Nat.pow_zero, Nat.div_one, Yk] at hfin
  refine ⟨F 64, hfin, fun q1 q2 => PR.mk' Tryz.func33 rfl rfl rfl fun ρ w hG hm => ?_⟩
  obtain ⟨b1, -⟩ := hm _ (.head _)
  obtain ⟨b2, -⟩ := hm _ (.tail _ (.head _))
  have r1 := Xl.rows (s := 32) (rows := [k0.map (Value.int .u8)]) (by simpa [Qk, SV.cs] using b1) (by omega) (by simp [hkl0]) (by simp [maxLen])
  have r2 := Xl.rows (s := 20) (rows := [l0.map (Value.int .u64)]) (by simpa [Qk, SV.cs] using b2) (by omega) (by simp [hp0.len]) (by simp [maxLen])
  have hll0 := hp0.len
  have htl0 := ht0.1
  have hnl := hn.len
  refine S.enter Qm [.o (some ⟨ρ.b q1, 0, none⟩) 1 1, .o (some ⟨ρ.b q2, 0, none⟩) 1 1] (gT ++ [fR 32 (.slice (some ⟨ρ.b q1, 0, none⟩) 1 1) [k0.map (Value.int .u8)], fR 20 (.slice (some ⟨ρ.b q2, 0, none⟩) 1 1) [l0.map (Value.int .u64)]]) Tryz.func33 rfl rfl rfl (fun _ => by simp only [QI, SV.den]) (LL.none w) (hG.app ⟨r1, r2, trivial⟩) ?_
  refine S.slc 0 [.a .u8 k0 32] rfl (fun ρ w h => h.f gTn rfl) (by simp [Qk, SV.cs]) (by simp [ZD, SV.wd]) ?_ ⟨hkl0, trivial⟩
  refine S.slc 1 [.a .u64 l0 20] rfl (fun ρ w h => h.f (gTn + 1) rfl) (by simp [Qk, SV.cs]) (by simp [ZD, SV.wd]) ?_ ⟨hll0, trivial⟩
  refine S.g false rfl ?_
  refine S.make 1 rfl rfl rfl rfl (s := 320) (bytes := 2560) (by kernel_rfl) rfl rfl rfl rfl rfl (by omega) (by omega) ?_
  refine S.g false rfl ?_
  refine S.rd 17 (.lit .i64 0) rfl (fun _ => rfl) ?_
  refine S.rounds 1 ?_
  refine S.g false rfl ?_
  refine S.condT rfl (by omega) ?_
  refine S.go false rfl (by repeat' (first | exact True.intro | refine And.intro ?_ ?_ | assumption | omega | (dsimp only; omega) | (simp only [Nat.add_eq, Nat.mul_eq, Nat.sub_eq, SV.wd]; omega) | exact rfl)) ?_
  refine S.cv rfl rfl rfl rfl rfl rfl hm0 ?_
  refine S.go false rfl (by repeat' (first | exact True.intro | refine And.intro ?_ ?_ | assumption | omega | (dsimp only; omega) | (simp only [Nat.add_eq, Nat.mul_eq, Nat.sub_eq, SV.wd]; omega) | exact rfl)) ?_
  refine S.rd 17 (.lit .i64 1) rfl (fun _ => rfl) ?_
  refine S.next ?_
  refine S.g false rfl ?_
  refine S.condF rfl (by omega) ?_
  refine S.g false rfl ?_
  refine S.cv rfl rfl rfl rfl rfl rfl hn0 ?_
  refine S.go false rfl (by repeat' (first | exact True.intro | refine And.intro ?_ ?_ | assumption | omega | (dsimp only; omega) | (simp only [Nat.add_eq, Nat.mul_eq, Nat.sub_eq, SV.wd]; omega) | exact rfl)) ?_
  refine S.loop [0, 4, 5, 8] (fun k : Nat => [(29, .i .i64 (k : Int))]) (fun k => [(2, [.i .u64 0, .i .u64 0, .i .u64 0, .i .u64 0, .i .u64 0, .i .u64 0, .i .u64 0, .i .u64 0, .i .u64 0, .i .u64 0, .i .u64 0, .i .u64 0, .i .u64 0, .i .u64 0, .i .u64 0, .i .u64 0, .i .u64 0, .i .u64 0, .i .u64 0, .i .u64 0]), (3, [.a .u64 T0 320]), (5, [.a .u64 (F k) 20])]) (fun _ => []) (fun k => k <= 64) (fun k => 64 - k) 0 rfl (fun _ => rfl) (fun _ => rfl) rfl ⟨⟨rfl, rfl⟩, trivial⟩ (by rw [hF0]; repeat' (first | exact True.intro | refine And.intro ?_ ?_ | assumption | exact rfl)) (fun _ _ _ => trivial) (by omega) fun J k hk again => ?_
  have hk' : k <= 64 := hk
  have hFk := hlen k hk'
  refine S.g false rfl ?_
  refine S.cond rfl (fun c => ?_) (fun c => ?_)
  . have c' : k < 64 := by omega
    obtain ⟨d, a, hd0, ha0, hy, hdl, hal, hdd, haa⟩ := (hF k).2 c'
    have d0 := hdd 0 (by omega)
    have dl1 := hdl 1 (by omega)
    have d1 := hdd 1 (by omega)
    have dl2 := hdl 2 (by omega)
    have d2 := hdd 2 (by omega)
    have dl3 := hdl 3 (by omega)
    have d3 := hdd 3 (by omega)
    have dl4 := hdl 4 (by omega)
    obtain ⟨ni0, aa0⟩ := haa 0 (by omega)
    have al1 := hal 1 (by omega)
    have nj0 : 0 <= VJ k0 k /\ VJ k0 k < 16 := ni0
    unfold VJ at nj0
    rw [hd0] at d0
    rw [ha0] at aa0
    refine S.g false rfl ?_
    refine S.rounds 4 ?_
    refine S.g false rfl ?_
    refine S.condT rfl (by omega) ?_
    refine S.g false rfl ?_
    refine S.cv rfl rfl rfl rfl rfl rfl d0 ?_
    refine S.go false rfl (by repeat' (first | exact True.intro | refine And.intro ?_ ?_ | assumption | omega | (dsimp only; omega) | (simp only [Nat.add_eq, Nat.mul_eq, Nat.sub_eq, SV.wd]; omega) | exact rfl)) ?_
    refine S.next ?_
    refine S.g false rfl ?_
    refine S.condT rfl (by omega) ?_
    refine S.g false rfl ?_
    refine S.cv rfl rfl rfl rfl rfl rfl d1 ?_
    refine S.go false rfl (by repeat' (first | exact True.intro | refine And.intro ?_ ?_ | assumption | omega | (dsimp only; omega) | (simp only [Nat.add_eq, Nat.mul_eq, Nat.sub_eq, SV.wd]; omega) | exact rfl)) ?_
    refine S.next ?_
    refine S.g false rfl ?_
    refine S.condT rfl (by omega) ?_
    refine S.g false rfl ?_
    refine S.cv rfl rfl rfl rfl rfl rfl d2 ?_
    refine S.go false rfl (by repeat' (first | exact True.intro | refine And.intro ?_ ?_ | assumption | omega | (dsimp only; omega) | (simp only [Nat.add_eq, Nat.mul_eq, Nat.sub_eq, SV.wd]; omega) | exact rfl)) ?_
    refine S.next ?_
    refine S.g false rfl ?_
    refine S.condT rfl (by omega) ?_
    refine S.g false rfl ?_
    refine S.cv rfl rfl rfl rfl rfl rfl d3 ?_
    refine S.go false rfl (by repeat' (first | exact True.intro | refine And.intro ?_ ?_ | assumption | omega | (dsimp only; omega) | (simp only [Nat.add_eq, Nat.mul_eq, Nat.sub_eq, SV.wd]; omega) | exact rfl)) ?_
    refine S.next ?_
    refine S.g false rfl ?_
    refine S.condF rfl (by omega) ?_
    refine S.g false rfl ?_
    refine S.rd 41 (.lit .i64 0) rfl (fun _ => rfl) ?_
    refine S.rounds 1 ?_
    refine S.g false rfl ?_
    refine S.condT rfl (by omega) ?_
    refine S.g false rfl ?_
    refine S.drp false [(18, fp (a 1))] rfl rfl rfl ?_ (by repeat' (first | exact True.intro | refine And.intro ?_ ?_ | assumption | omega | (dsimp only; omega) | (simp only [Nat.add_eq, Nat.mul_eq, Nat.sub_eq, SV.wd]; omega) | exact rfl))
    refine S.g false rfl ?_
    refine S.rd 41 (.lit .i64 1) rfl (fun _ => rfl) ?_
    refine S.next ?_
    refine S.g false rfl ?_
    refine S.condF rfl (by omega) ?_
    refine S.g false rfl ?_
    refine S.again (again (k + 1) (show k + 1 <= 64 by omega) (show 64 - (k + 1) < 64 - k by omega)) ⟨⟨rfl, by omega⟩, rfl, rfl, ⟨rfl, rfl, rfl, rfl⟩, rfl, trivial⟩ ?_ rfl rfl (fun x hx => hx) rfl (fun ρ W h => h.hs)
    rw [hy]
    repeat' (first | exact True.intro | refine And.intro ?_ ?_ | assumption | exact rfl)
  . obtain rfl : k = 64 := by omega
    refine S.go false rfl (by repeat' (first | exact True.intro | refine And.intro ?_ ?_ | assumption | omega | (dsimp only; omega) | (simp only [Nat.add_eq, Nat.mul_eq, Nat.sub_eq, SV.wd]; omega) | exact rfl)) ?_
    exact S.retv rfl rfl rfl rfl rfl
set_option maxHeartbeats 4000000 in
theorem Qhu {k0 k1 l0 l1 : List Int} {P0 P1 : Pt} (hk0 : Qe k0) (hkl0 : k0.length = 32) (hp0 : ZA l0 P0) (hk1 : Qe k1) (hkl1 : k1.length = 32) (hp1 : ZA l1 P1) : ∃ r, ZA r (Qq (QG (kB k0) P0) (QG (kB k1) P1)) /\ ∀ q1 q2, PR Tryz.prog gT 33 [.y q1 0 2 2, .y q2 0 2 2] [(q1, [.a .u8 k0 32, .a .u8 k1 32]), (q2, [.a .u64 l0 20, .a .u64 l1 20])] (fp r) := by
  obtain ⟨T0, ht0, hm0⟩ := Uk hp0
  obtain ⟨T1, ht1, hm1⟩ := Uk hp1
  obtain ⟨n0, hn, hn0⟩ := J6
  obtain ⟨F, hF0, hF⟩ := GP (n := 2) (kb := (fun j : Nat => match j with | 0 => k0 | _ => k1)) (T := (fun j : Nat => match j with | 0 => T0 | _ => T1)) (P := (fun j : Nat => match j with | 0 => P0 | _ => P1)) (fun j hj => by
    match j, hj with
    | 0, _ => exact ht0
    | 1, _ => exact ht1
    | j + 2, h => omega) (fun j hj => by
    match j, hj with
    | 0, _ => exact hk0
    | 1, _ => exact hk1
    | j + 2, h => omega) n0 hn
  have hlen : ∀ k, k <= 64 -> (F k).length = 20 := fun k hk => ((hF k).1 hk).len
  have hfin := (hF 64).1 (Nat.le_refl _)
  simp only [Yt, Nat.sub_self, Nat.pow_zero, Nat.div_one, Yk] at hfin
  refine ⟨F 64, hfin, fun q1 q2 => PR.mk' Tryz.func33 rfl rfl rfl fun ρ w hG hm => ?_⟩
  obtain ⟨b1, -⟩ := hm _ (.head _)
  obtain ⟨b2, -⟩ := hm _ (.tail _ (.head _))
  have r1 := Xl.rows (s := 32) (rows := [k0.map (Value.int .u8), k1.map (Value.int .u8)]) (by simpa [Qk, SV.cs] using b1) (by omega) (by simp [hkl0, hkl1]) (by simp [maxLen])
  have r2 := Xl.rows (s := 20) (rows := [l0.map (Value.int .u64), l1.map (Value.int .u64)]) (by simpa [Qk, SV.cs] using b2) (by omega) (by simp [hp0.len, hp1.len]) (by simp [maxLen])
  have hll0 := hp0.len
  have htl0 := ht0.1
  have hll1 := hp1.len
  have htl1 := ht1.1
  have hnl := hn.len
  refine S.enter Qm [.o (some ⟨ρ.b q1, 0, none⟩) 2 2, .o (some ⟨ρ.b q2, 0, none⟩) 2 2] (gT ++ [fR 32 (.slice (some ⟨ρ.b q1, 0, none⟩) 2 2) [k0.map (Value.int .u8), k1.map (Value.int .u8)], fR 20 (.slice (some ⟨ρ.b q2, 0, none⟩) 2 2) [l0.map (Value.int .u64), l1.map (Value.int .u64)]]) Tryz.func33 rfl rfl rfl (fun _ => by simp only [QI, SV.den]) (LL.none w) (hG.app ⟨r1, r2, trivial⟩) ?_
  refine S.slc 0 [.a .u8 k0 32, .a .u8 k1 32] rfl (fun ρ w h => h.f gTn rfl) (by simp [Qk, SV.cs]) (by simp [ZD, SV.wd]) ?_ ⟨hkl0, hkl1, trivial⟩
  refine S.slc 1 [.a .u64 l0 20, .a .u64 l1 20] rfl (fun ρ w h => h.f (gTn + 1) rfl) (by simp [Qk, SV.cs]) (by simp [ZD, SV.wd]) ?_ ⟨hll0, hll1, trivial⟩
  refine S.g false rfl ?_
  refine S.make 2 rfl rfl rfl rfl (s := 320) (bytes := 2560) (by kernel_rfl) rfl rfl rfl rfl rfl (by omega) (by omega) ?_
  refine S.g false rfl ?_
  refine S.rd 17 (.lit .i64 0) rfl (fun _ => rfl) ?_
  refine S.rounds 2 ?_
  refine S.g false rfl ?_
  refine S.condT rfl (by omega) ?_
  refine S.go false rfl (by repeat' (first | exact True.intro | refine And.intro ?_ ?_ | assumption | omega | (dsimp only; omega) | (simp only [Nat.add_eq, Nat.mul_eq, Nat.sub_eq, SV.wd]; omega) | exact rfl)) ?_
  refine S.cv rfl rfl rfl rfl rfl rfl hm0 ?_
  refine S.go false rfl (by repeat' (first | exact True.intro | refine And.intro ?_ ?_ | assumption | omega | (dsimp only; omega) | (simp only [Nat.add_eq, Nat.mul_eq, Nat.sub_eq, SV.wd]; omega) | exact rfl)) ?_
  refine S.rd 17 (.lit .i64 1) rfl (fun _ => rfl) ?_
  refine S.next ?_
  refine S.g false rfl ?_
  refine S.condT rfl (by omega) ?_
  refine S.go false rfl (by repeat' (first | exact True.intro | refine And.intro ?_ ?_ | assumption | omega | (dsimp only; omega) | (simp only [Nat.add_eq, Nat.mul_eq, Nat.sub_eq, SV.wd]; omega) | exact rfl)) ?_
  refine S.cv rfl rfl rfl rfl rfl rfl hm1 ?_
  refine S.go false rfl (by repeat' (first | exact True.intro | refine And.intro ?_ ?_ | assumption | omega | (dsimp only; omega) | (simp only [Nat.add_eq, Nat.mul_eq, Nat.sub_eq, SV.wd]; omega) | exact rfl)) ?_
  refine S.rd 17 (.lit .i64 2) rfl (fun _ => rfl) ?_
  refine S.next ?_
  refine S.g false rfl ?_
  refine S.condF rfl (by omega) ?_
  refine S.g false rfl ?_
  refine S.cv rfl rfl rfl rfl rfl rfl hn0 ?_
  refine S.go false rfl (by repeat' (first | exact True.intro | refine And.intro ?_ ?_ | assumption | omega | (dsimp only; omega) | (simp only [Nat.add_eq, Nat.mul_eq, Nat.sub_eq, SV.wd]; omega) | exact rfl)) ?_
  refine S.loop [0, 4, 5, 8] (fun k : Nat => [(29, .i .i64 (k : Int))]) (fun k => [(2, [.i .u64 0, .i .u64 0, .i .u64 0, .i .u64 0, .i .u64 0, .i .u64 0, .i .u64 0, .i .u64 0, .i .u64 0, .i .u64 0, .i .u64 0, .i .u64 0, .i .u64 0, .i .u64 0, .i .u64 0, .i .u64 0, .i .u64 0, .i .u64 0, .i .u64 0, .i .u64 0]), (3, [.a .u64 T0 320, .a .u64 T1 320]), (6, [.a .u64 (F k) 20])]) (fun _ => []) (fun k => k <= 64) (fun k => 64 - k) 0 rfl (fun _ => rfl) (fun _ => rfl) rfl ⟨⟨rfl, rfl⟩, trivial⟩ (by rw [hF0]; repeat' (first | exact True.intro | refine And.intro ?_ ?_ | assumption | exact rfl)) (fun _ _ _ => trivial) (by omega) fun J k hk again => ?_
  have hk' : k <= 64 := hk
  have hFk := hlen k hk'
  refine S.g false rfl ?_
  refine S.cond rfl (fun c => ?_) (fun c => ?_)
  . have c' : k < 64 := by omega
    obtain ⟨d, a, hd0, ha0, hy, hdl, hal, hdd, haa⟩ := (hF k).2 c'
    have d0 := hdd 0 (by omega)
    have dl1 := hdl 1 (by omega)
    have d1 := hdd 1 (by omega)
    have dl2 := hdl 2 (by omega)
    have d2 := hdd 2 (by omega)
    have dl3 := hdl 3 (by omega)
    have d3 := hdd 3 (by omega)
    have dl4 := hdl 4 (by omega)
    obtain ⟨ni0, aa0⟩ := haa 0 (by omega)
    have al1 := hal 1 (by omega)
    have nj0 : 0 <= VJ k0 k /\ VJ k0 k < 16 := ni0
    unfold VJ at nj0
    obtain ⟨ni1, aa1⟩ := haa 1 (by omega)
    have al2 := hal 2 (by omega)
    have nj1 : 0 <= VJ k1 k /\ VJ k1 k < 16 := ni1
    unfold VJ at nj1
    rw [hd0] at d0
    rw [ha0] at aa0
    refine S.g false rfl ?_
    refine S.rounds 4 ?_
    refine S.g false rfl ?_
    refine S.condT rfl (by omega) ?_
    refine S.g false rfl ?_
    refine S.cv rfl rfl rfl rfl rfl rfl d0 ?_
    refine S.go false rfl (by repeat' (first | exact True.intro | refine And.intro ?_ ?_ | assumption | omega | (dsimp only; omega) | (simp only [Nat.add_eq, Nat.mul_eq, Nat.sub_eq, SV.wd]; omega) | exact rfl)) ?_
    refine S.next ?_
    refine S.g false rfl ?_
    refine S.condT rfl (by omega) ?_
    refine S.g false rfl ?_
    refine S.cv rfl rfl rfl rfl rfl rfl d1 ?_
    refine S.go false rfl (by repeat' (first | exact True.intro | refine And.intro ?_ ?_ | assumption | omega | (dsimp only; omega) | (simp only [Nat.add_eq, Nat.mul_eq, Nat.sub_eq, SV.wd]; omega) | exact rfl)) ?_
    refine S.next ?_
    refine S.g false rfl ?_
    refine S.condT rfl (by omega) ?_
    refine S.g false rfl ?_
    refine S.cv rfl rfl rfl rfl rfl rfl d2 ?_
    refine S.go false rfl (by repeat' (first | exact True.intro | refine And.intro ?_ ?_ | assumption | omega | (dsimp only; omega) | (simp only [Nat.add_eq, Nat.mul_eq, Nat.sub_eq, SV.wd]; omega) | exact rfl)) ?_
    refine S.next ?_
    refine S.g false rfl ?_
    refine S.condT rfl (by omega) ?_
    refine S.g false rfl ?_
    refine S.cv rfl rfl rfl rfl rfl rfl d3 ?_
    refine S.go false rfl (by repeat' (first | exact True.intro | refine And.intro ?_ ?_ | assumption | omega | (dsimp only; omega) | (simp only [Nat.add_eq, Nat.mul_eq, Nat.sub_eq, SV.wd]; omega) | exact rfl)) ?_
    refine S.next ?_
    refine S.g false rfl ?_
    refine S.condF rfl (by omega) ?_
    refine S.g false rfl ?_
    refine S.rd 41 (.lit .i64 0) rfl (fun _ => rfl) ?_
    refine S.rounds 2 ?_
    refine S.g false rfl ?_
    refine S.condT rfl (by omega) ?_
    refine S.g false rfl ?_
    refine S.drp false [(18, fp (a 1))] rfl rfl rfl ?_ (by repeat' (first | exact True.intro | refine And.intro ?_ ?_ | assumption | omega | (dsimp only; omega) | (simp only [Nat.add_eq, Nat.mul_eq, Nat.sub_eq, SV.wd]; omega) | exact rfl))
    refine S.g false rfl ?_
    refine S.rd 41 (.lit .i64 1) rfl (fun _ => rfl) ?_
    refine S.next ?_
    refine S.g false rfl ?_
    refine S.condT rfl (by omega) ?_
    refine S.g false rfl ?_
    refine S.drp false [(18, fp (a 2))] rfl rfl rfl ?_ (by repeat' (first | exact True.intro | refine And.intro ?_ ?_ | assumption | omega | (dsimp only; omega) | (simp only [Nat.add_eq, Nat.mul_eq, Nat.sub_eq, SV.wd]; omega) | exact rfl))
    refine S.g false rfl ?_
    refine S.rd 41 (.lit .i64 2) rfl (fun _ => rfl) ?_
    refine S.next ?_
    refine S.g false rfl ?_
    refine S.condF rfl (by omega) ?_
    refine S.g false rfl ?_
    refine S.again (again (k + 1) (show k + 1 <= 64 by omega) (show 64 - (k + 1) < 64 - k by omega)) ⟨⟨rfl, by omega⟩, rfl, rfl, ⟨rfl, rfl, rfl, rfl⟩, rfl, trivial⟩ ?_ rfl rfl (fun x hx => hx) rfl (fun ρ W h => h.hs)
    rw [hy]
    repeat' (first | exact True.intro | refine And.intro ?_ ?_ | assumption | exact rfl)
  . obtain rfl : k = 64 := by omega
    refine S.go false rfl (by repeat' (first | exact True.intro | refine And.intro ?_ ?_ | assumption | omega | (dsimp only; omega) | (simp only [Nat.add_eq, Nat.mul_eq, Nat.sub_eq, SV.wd]; omega) | exact rfl)) ?_
    exact S.retv rfl rfl rfl rfl rfl
theorem QiQ (v : Int) : (v % pV).toNat < pN := by
  have h := ZH v
  have e := Yz
  omega
def ofI (v : Int) : FF := ⟨(v % pV).toNat, QiQ v⟩
theorem KV (v : Int) : ((ofI v).val : Int) = v % pV := by
  have h := ZH v
  show (((v % pV).toNat : Nat) : Int) = v % pV
  omega
theorem Qad {a b : FF} (h : (a.val : Int) = (b.val : Int)) : a = b := Fin.ext (by omega)
/-- The square of x, by y. -/
def uF (y : FF) : FF := (y*y - 1) * X9 (y*y*dF + 1)
def rF (u : FF) : FF := ofI (rV (u.val : Int))
def okF (u : FF) : Bool := okV (u.val : Int)
theorem FX (u : FF) : ((rF u).val : Int) = rV (u.val : Int) := by
  have h := Qko (u.val : Int)
  rw [rF, KV, Int.emod_eq_of_lt h.1 h.2]
theorem QeM {u : FF} (h : okF u = true) : rF u * rF u = u := by
  refine Qad ?_
  rw [val_mul, FX]
  exact Qkn h
theorem QiD (y : FF) : y*y*dF + 1 ≠ 0 := by
  intro h
  by_cases hy : y = 0
  . subst hy
    exact absurd h (by decide +kernel)
  . have hi := YB hy
    refine QiE (iF * X9 y) ?_
    generalize X9 y = f at *
    have hq := QfI
    grobner
theorem Qjb {x y : FF} (hx : x*x = uF y) : On dF x y := by
  have hi := YB (QiD y)
  unfold uF at hx
  unfold On
  generalize X9 (y*y*dF + 1) = f at *
  grobner
/-- What 32 bytes say: y, whether x is odd, and x's even value. -/
def VN (b : List Int) : List Int := b.set 31 (Qb b 31 % 128)
def yI (b : List Int) : Int := Qp (VN b) 32
def yF (b : List Int) : FF := ofI (yI b)
def odB (b : List Int) : Bool := decide (128 <= Qb b 31)
def Hv (b : List Int) : FF := rF (uF (yF b))
structure Yj (b : List Int) : Prop where
  low : yI b < pV
  ok : okF (uF (yF b)) = true
  one : ¬ (odB b = true /\ Hv b = 0)
def xF (b : List Int) : FF := if odB b then -Hv b else Hv b
theorem Qka {b : List Int} (h : Yj b) : On dF (xF b) (yF b) := by
  refine Qjb ?_
  have hs : Hv b * Hv b = uF (yF b) := QeM h.ok
  unfold xF
  cases odB b
  . exact hs
  . rw [<- hs]
    show -Hv b * -Hv b = _
    grobner
def Kr (b : List Int) (h : Yj b) : Pt := ⟨xF b, yF b, Qka h⟩
theorem D1 {b : List Int} (h : b.length = 32) : (VN b).length = 32 := by simp [VN, h]
theorem VL {b : List Int} (h : Qe b) : Qe (VN b) := by
  intro x hx
  rcases List.mem_or_eq_of_mem_set hx with h1 | h1
  . exact h x h1
  . have := h.at 31
    omega
theorem Qgm {x : Int} (hx : 0 <= x /\ x <= 255) (h : 128 <= x) : bits BinOp.and IntKind.u8 x 128 = 128 := by
  have := UL (p := fun x => 128 <= x -> bits BinOp.and IntKind.u8 x 128 = 128) (by decide +kernel) hx
  exact this h
theorem Qgn {x : Int} (hx : 0 <= x /\ x <= 255) (h : ¬ 128 <= x) : bits BinOp.and IntKind.u8 x 128 = 0 := by
  have := UL (p := fun x => ¬ 128 <= x -> bits BinOp.and IntKind.u8 x 128 = 0) (by decide +kernel) hx
  exact this h
theorem Qie {x : Int} (hx : 0 <= x /\ x <= 255) : bits BinOp.and IntKind.u8 x 127 = x % 128 := UL (p := fun x => bits BinOp.and IntKind.u8 x 127 = x % 128) (by decide +kernel) hx
theorem Qj9 {b : List Int} (hb : Qe b) : Q6 (Qs (Uo (VN b))) ((yF b).val : Int) := by rw [yF, KV]; exact Fk _ (VL hb)
def z20 : List Int := List.replicate 20 0
theorem QgP {b : List Int} (hb : Qe b) : b.set 31 (bits .and .u8 (b.getD 31 0) 127) = VN b := by
  have e : b.getD 31 0 = Qb b 31 := by simp [Qb]
  rw [e, Qie (hb.at 31)]
  rfl
theorem Qiv {b : List Int} (hb : Qe b) (h : 128 <= Qb b 31) : ¬ bits .and .u8 (b.getD 31 0) 128 = 0 := by
  have e : b.getD 31 0 = Qb b 31 := by simp [Qb]
  rw [e, Qgm (hb.at 31) h]
  omega
theorem Qix {b : List Int} (hb : Qe b) (h : ¬ 128 <= Qb b 31) : bits .and .u8 (b.getD 31 0) 128 = 0 := by
  have e : b.getD 31 0 = Qb b 31 := by simp [Qb]
  rw [e]
  exact Qgn (hb.at 31) h
set_option maxHeartbeats 2000000 in
theorem Qfx {b : List Int} (hb : Qe b) (hl : b.length = 32) : (∀ h : Yj b, ∃ r, Qgq r (Kr b h) /\ PV Tryz.prog gT 108 [.a .u8 b 32] (.t [fp r, .l true])) /\ (¬ Yj b -> PV Tryz.prog gT 108 [.a .u8 b 32] (.t [fp z20, .l false])) := by
  have hlb := D1 hl
  have k1 := Qj9 hb
  have H0 := Qg3 (VL hb) hlb
  have H1 := Qfy (VL hb) hlb
  generalize hk1 : Qs (Uo (VN b)) = y1 at *
  obtain ⟨s, k2, H2⟩ := Xx k1 k1
  rw [<- val_mul] at k2
  obtain ⟨x4, k4, H4⟩ := Yw k2 Jp
  obtain ⟨x5, k5, H5⟩ := Xx k2 Qf4
  rw [Qf3, <- val_mul] at k5
  obtain ⟨x6, k6, H6⟩ := VE k5 Jp
  have one_v : (1 : Int) = ((1 : FF).val : Int) := by decide +kernel
  rw [one_v, <- YR] at k4
  rw [one_v, <- val_add] at k6
  obtain ⟨x7, k7, H7⟩ := Fp k6
  rw [G2] at k7
  obtain ⟨x8, k8, H8⟩ := Xx k4 k7
  rw [<- val_mul] at k8
  change Q6 x8 ((uF (yF b)).val : Int) at k8
  have H9 := Qi0 k8
  have k9 := QgW k8
  rw [<- FX] at k9
  change Q6 _ ((Hv b).val : Int) at k9
  change PV _ _ _ _ (.t [_, .l (okF (uF (yF b)))]) at H9
  have H10 := QaY k9 Y5
  obtain ⟨nx, kn, H11⟩ := QeZ (y := y1) k9
  rw [<- KL] at kn
  have hz0 : (((Hv b).val : Int) = 0) ↔ Hv b = 0 := ⟨fun h => Qad (by rw [h]; decide +kernel), fun h => by rw [h]; decide +kernel⟩
  generalize rtL x8 ((uF (yF b)).val : Int) = rx at *
  have gd := QkJ
  have h1 := KP 1 (by omega)
  have hsl := QgP hb
  have hxt : 128 <= Qb b 31 -> xF b = -Hv b := fun ho => by unfold xF odB; rw [decide_eq_true ho]; rfl
  have hxf : ¬ 128 <= Qb b 31 -> xF b = Hv b := fun ho => by unfold xF odB; rw [decide_eq_false ho]; rfl
  have yes : Yj b -> ∀ h : Yj b, ∃ r, Qgq r (Kr b h) /\ PV Tryz.prog gT 108 [.a .u8 b 32] (.t [fp r, .l true]) := fun _ h => by
    have hok := h.ok
    have hlow : Qp (VN b) 32 < pV := h.low
    rw [hok] at H9
    by_cases ho : 128 <= Qb b 31
    . rw [<- hxt ho] at kn
      have hnz : ¬ (((Hv b).val : Int) = 0) := fun e => h.one ⟨decide_eq_true ho, hz0.1 e⟩
      obtain ⟨r, hr, H12⟩ := Ue (P := Kr b h) kn k1
      have hrl := hr.1.len
      refine ⟨r, hr, PV.mk' Tryz.func108 rfl rfl rfl rfl fun w L hL hG => ?_⟩
      clear k1 k2 k4 k5 k6 k7 k8 k9 kn hr
      refine S.enter Qm [.a .u8 b 32] gT Tryz.func108 rfl rfl rfl (fun _ => rfl) hL hG ?_
      refine S.go false rfl (by repeat' (first | exact True.intro | refine And.intro ?_ ?_ | assumption | omega | (dsimp only; omega) | exact rfl)) ?_
      refine S.rd 4 (.l true) rfl (fun _ => by simp only [SV.den]; rw [decide_eq_true (Qiv hb ho)]) ?_
      refine S.recell 0 [.a .u8 (VN b) 32] rfl (fun ρ => congrArg (fun z => Qk ρ [SV.a .u8 z 32]) hsl) ⟨hlb, trivial⟩ rfl ?_
      refine S.rd 19 (.a .u8 (VN b) 32) rfl (fun ρ => congrArg (fun z => (SV.a .u8 z 32).den ρ) hsl) ?_
      refine S.cv rfl rfl rfl rfl rfl rfl H0 ?_
      refine S.g false rfl ?_
      refine S.condF rfl (fun h => h hlow) ?_
      refine S.g false rfl ?_
      refine S.cv rfl rfl rfl rfl rfl rfl H1 ?_
      refine S.g false rfl ?_
      refine S.cv rfl rfl rfl rfl rfl rfl H2 ?_
      refine S.g false rfl ?_
      refine S.cv rfl rfl rfl rfl rfl rfl h1 ?_
      refine S.g false rfl ?_
      refine S.drp false [(2, lm x4), (4, lm dL), (5, lm x5), (7, lm x6), (8, lm x7), (9, lm x8), (10, .t [lm rx, .l true])] rfl rfl rfl ?_ (by repeat' (first | exact True.intro | refine And.intro ?_ ?_ | assumption | omega | (dsimp only; omega) | exact rfl))
      refine S.g false rfl ?_
      refine S.cv rfl rfl rfl rfl rfl rfl H10 ?_
      refine S.g false rfl ?_
      refine S.condF rfl hnz ?_
      refine S.g false rfl ?_
      refine S.cv rfl rfl rfl rfl rfl rfl H11 ?_
      refine S.g false rfl ?_
      refine S.cv rfl rfl rfl rfl rfl rfl H12 ?_
      refine S.go false rfl (by repeat' (first | exact True.intro | refine And.intro ?_ ?_ | assumption | omega | (dsimp only; omega) | exact rfl)) ?_
      exact S.rett rfl rfl rfl rfl rfl
    . rw [<- hxf ho] at k9
      obtain ⟨r, hr, H12⟩ := Ue (P := Kr b h) k9 k1
      have hrl := hr.1.len
      refine ⟨r, hr, PV.mk' Tryz.func108 rfl rfl rfl rfl fun w L hL hG => ?_⟩
      clear k1 k2 k4 k5 k6 k7 k8 k9 kn hr
      refine S.enter Qm [.a .u8 b 32] gT Tryz.func108 rfl rfl rfl (fun _ => rfl) hL hG ?_
      refine S.go false rfl (by repeat' (first | exact True.intro | refine And.intro ?_ ?_ | assumption | omega | (dsimp only; omega) | exact rfl)) ?_
      refine S.rd 4 (.l false) rfl (fun _ => by simp only [SV.den]; rw [decide_eq_false (fun e => e (Qix hb ho))]) ?_
      refine S.recell 0 [.a .u8 (VN b) 32] rfl (fun ρ => congrArg (fun z => Qk ρ [SV.a .u8 z 32]) hsl) ⟨hlb, trivial⟩ rfl ?_
      refine S.rd 19 (.a .u8 (VN b) 32) rfl (fun ρ => congrArg (fun z => (SV.a .u8 z 32).den ρ) hsl) ?_
      refine S.cv rfl rfl rfl rfl rfl rfl H0 ?_
      refine S.g false rfl ?_
      refine S.condF rfl (fun h => h hlow) ?_
      refine S.g false rfl ?_
      refine S.cv rfl rfl rfl rfl rfl rfl H1 ?_
      refine S.g false rfl ?_
      refine S.cv rfl rfl rfl rfl rfl rfl H2 ?_
      refine S.g false rfl ?_
      refine S.cv rfl rfl rfl rfl rfl rfl h1 ?_
      refine S.g false rfl ?_
      refine S.drp false [(2, lm x4), (4, lm dL), (5, lm x5), (7, lm x6), (8, lm x7), (9, lm x8), (10, .t [lm rx, .l true])] rfl rfl rfl ?_ (by repeat' (first | exact True.intro | refine And.intro ?_ ?_ | assumption | omega | (dsimp only; omega) | exact rfl))
      refine S.g false rfl ?_
      refine S.cv rfl rfl rfl rfl rfl rfl H12 ?_
      refine S.go false rfl (by repeat' (first | exact True.intro | refine And.intro ?_ ?_ | assumption | omega | (dsimp only; omega) | exact rfl)) ?_
      exact S.rett rfl rfl rfl rfl rfl
  refine ⟨fun h => yes h h, fun hno => PV.mk' Tryz.func108 rfl rfl rfl rfl fun w L hL hG => ?_⟩
  clear k1 k2 k4 k5 k6 k7 k8 k9 kn
  refine S.enter Qm [.a .u8 b 32] gT Tryz.func108 rfl rfl rfl (fun _ => rfl) hL hG ?_
  refine S.go false rfl (by repeat' (first | exact True.intro | refine And.intro ?_ ?_ | assumption | omega | (dsimp only; omega) | exact rfl)) ?_
  have hod : ∃ od : Bool, (od = true ↔ 128 <= Qb b 31) /\ decide (¬ bits .and .u8 (b.getD 31 0) 128 = 0) = od := by
    by_cases ho : 128 <= Qb b 31
    . exact ⟨true, by simp [ho], decide_eq_true (Qiv hb ho)⟩
    . exact ⟨false, by simp [ho], decide_eq_false (fun e => e (Qix hb ho))⟩
  obtain ⟨od, ho1, ho2⟩ := hod
  refine S.rd 4 (.l od) rfl (fun _ => by simp only [SV.den]; rw [<- ho2]) ?_
  refine S.recell 0 [.a .u8 (VN b) 32] rfl (fun ρ => congrArg (fun z => Qk ρ [SV.a .u8 z 32]) hsl) ⟨hlb, trivial⟩ rfl ?_
  refine S.rd 19 (.a .u8 (VN b) 32) rfl (fun ρ => congrArg (fun z => (SV.a .u8 z 32).den ρ) hsl) ?_
  refine S.cv rfl rfl rfl rfl rfl rfl H0 ?_
  refine S.g false rfl ?_
  refine S.cond rfl (fun hc => ?_) (fun hc => ?_)
  . refine S.g false rfl ?_
    exact S.rett rfl rfl rfl rfl rfl
  have hlow : Qp (VN b) 32 < pV := Decidable.not_not.1 hc
  refine S.g false rfl ?_
  refine S.cv rfl rfl rfl rfl rfl rfl H1 ?_
  refine S.g false rfl ?_
  refine S.cv rfl rfl rfl rfl rfl rfl H2 ?_
  refine S.g false rfl ?_
  refine S.cv rfl rfl rfl rfl rfl rfl h1 ?_
  refine S.g false rfl ?_
  refine S.drp false [(2, lm x4), (4, lm dL), (5, lm x5), (7, lm x6), (8, lm x7), (9, lm x8), (10, .t [lm rx, .l (okF (uF (yF b)))])] rfl rfl rfl ?_ (by repeat' (first | exact True.intro | refine And.intro ?_ ?_ | assumption | omega | (dsimp only; omega) | exact rfl))
  cases hok : okF (uF (yF b)) with
  | false =>
    refine S.rd 9 (.l false) rfl (fun _ => rfl) ?_
    refine S.g false rfl ?_
    exact S.rett rfl rfl rfl rfl rfl
  | true =>
    refine S.rd 9 (.l true) rfl (fun _ => rfl) ?_
    cases od with
    | false => exact absurd ⟨hlow, hok, fun h => by have := ho1.2 (of_decide_eq_true h.1); cases this⟩ hno
    | true =>
      refine S.g false rfl ?_
      refine S.cv rfl rfl rfl rfl rfl rfl H10 ?_
      refine S.g false rfl ?_
      by_cases hz : ((Hv b).val : Int) = 0
      . refine S.condT rfl hz ?_
        refine S.g false rfl ?_
        exact S.rett rfl rfl rfl rfl rfl
      . exact absurd ⟨hlow, hok, fun h => hz (hz0.2 h.2)⟩ hno
theorem Z9 (a : FF) : 0 <= (a.val : Int) /\ (a.val : Int) < pV := by
  have := a.isLt
  rw [Yz]; omega
theorem Vt (a : FF) : 0 <= (a.val : Int) /\ (a.val : Int) < 2 ^ 256 := by
  have h := Z9 a
  have := DN
  omega
/-- The base point's numbers. -/
def Hf : FF := 15112221349535400772501151409588531511454012693041857206046113283949847762202
def He : FF := 46316835694926478169428394003475163141307993866256225615783033603165251855960
def bP : Pt := ⟨Hf, He, by unfold On; decide +kernel⟩
def XE (P : Pt) : List Int := if (P.x.val : Int) % 2 = 1 then (Q2 (P.y.val : Int)).set 31 (Qb (Q2 (P.y.val : Int)) 31 + 128) else Q2 (P.y.val : Int)
theorem Q0 (P : Pt) : (XE P).length = 32 := by unfold XE; split <;> simp [QM]
theorem Gq (a : FF) : 0 <= Qb (Q2 (a.val : Int)) 31 /\ Qb (Q2 (a.val : Int)) 31 < 128 := by
  have h := JO (a.val : Int) 31 (by omega)
  have hv := Z9 a
  have hp : pV < 2 ^ 255 := by decide +kernel
  rw [h]
  omega
theorem Qkt {x : Int} (hx : 0 <= x /\ x < 128) : bits BinOp.or IntKind.u8 x 128 = x + 128 := by
  have := UL (p := fun x => x < 128 -> bits BinOp.or IntKind.u8 x 128 = x + 128) (by decide +kernel) (x := x) (by omega)
  exact this hx.2
theorem JB (P : Pt) : XE P = (Q2 (P.y.val : Int)).set 31 (Qb (Q2 (P.y.val : Int)) 31 + (P.x.val : Int) % 2 * 128) := by
  unfold XE
  split
  . next h => rw [h]; rfl
  . next h =>
    rw [show (P.x.val : Int) % 2 = 0 by omega, Int.zero_mul, Int.add_zero]
    have hl := QM (P.y.val : Int)
    generalize Q2 (P.y.val : Int) = b at *
    unfold Qb
    refine List.ext_getElem (by simp) fun i h1 h2 => ?_
    rw [List.getElem_set]
    split
    . next hi => subst hi; simp [h1]
    . rfl
theorem EO {l : List Int} {k : Nat} (h : k < l.length) (v : Int) : Qb (l.set k v) k = v := by simp [Qb, h]
theorem QgQ {l : List Int} {k : Nat} (h : k < l.length) : l.set k (Qb l k) = l := by
  refine List.ext_getElem (by simp) fun i h1 h2 => ?_
  rw [List.getElem_set]
  split
  . next hi => subst hi; simp [Qb, h]
  . rfl
theorem Qah (P : Pt) : Qb (XE P) 31 = Qb (Q2 (P.y.val : Int)) 31 + (P.x.val : Int) % 2 * 128 := by
  rw [JB, EO (by rw [QM]; decide)]
theorem QfN (P : Pt) : VN (XE P) = Q2 (P.y.val : Int) := by
  have ht := Gq P.y
  unfold VN
  rw [Qah, JB, List.set_set]
  rw [show (Qb (Q2 (P.y.val : Int)) 31 + (P.x.val : Int) % 2 * 128) % 128 = Qb (Q2 (P.y.val : Int)) 31 by omega]
  exact QgQ (by rw [QM]; decide)
theorem QcE (P : Pt) : yI (XE P) = (P.y.val : Int) := by
  unfold yI
  rw [QfN]
  exact UB _ (Vt P.y).1 (Vt P.y).2
theorem Qff (a : FF) : ofI (a.val : Int) = a := Qad (by rw [KV, Int.emod_eq_of_lt (Z9 a).1 (Z9 a).2])
theorem KX (P : Pt) : yF (XE P) = P.y := by unfold yF; rw [QcE, Qff]
theorem QcF (P : Pt) : odB (XE P) = decide ((P.x.val : Int) % 2 = 1) := by
  have ht := Gq P.y
  unfold odB
  rw [Qah]
  exact decide_eq_decide.2 (by omega)
theorem Qeb (P : Pt) : uF P.y = P.x * P.x := by
  have hi := YB (QiD P.y)
  have ho := P.on
  unfold On at ho
  unfold uF
  generalize X9 (P.y*P.y*dF + 1) = f at *
  grobner
theorem Qbh (a : FF) : okF (a * a) = true := by
  unfold okF
  rw [val_mul]
  exact Qdt _
theorem Qhb (u : FF) : ((rF u).val : Int) % 2 = 0 := by rw [FX]; exact Qha _
theorem Qis (a : FF) : rF (a * a) = a \/ rF (a * a) = -a := by
  have h := QeM (Qbh a)
  generalize rF (a * a) = r at *
  have h2 : (r - a) * (r + a) = 0 := by grobner
  rcases Hz h2 with h3 | h3
  . left; grobner
  . right; grobner
theorem Qhr {a : FF} (h : a ≠ 0) : ((-a).val : Int) = pV - (a.val : Int) := by
  have hv := Z9 a
  have h0 : (a.val : Int) ≠ 0 := fun e => h (Qad (by rw [e]; decide +kernel))
  rw [KL, show 0 - (a.val : Int) = (pV - (a.val : Int)) + pV * (-1) by omega, Int.add_mul_emod_self_left, Int.emod_eq_of_lt (by omega) (by omega)]
theorem Qi8 : pV % 2 = 1 := by decide +kernel
theorem Es (P : Pt) : Yj (XE P) := by
  refine ⟨by rw [QcE]; exact (Z9 _).2, by rw [KX, Qeb]; exact Qbh _, ?_⟩
  rintro ⟨h1, h2⟩
  rw [QcF] at h1
  unfold Hv at h2
  rw [KX, Qeb] at h2
  have h3 := QeM (Qbh P.x)
  rw [h2] at h3
  have h4 : P.x * P.x = 0 := by rw [<- h3]; grobner
  have h5 : P.x = 0 := (Hz h4).elim id id
  rw [h5] at h1
  exact absurd h1 (by decide +kernel)
theorem QhL (P : Pt) : xF (XE P) = P.x := by
  have he := Qhb (P.x * P.x)
  have ho := Qi8
  unfold xF Hv
  rw [QcF, KX, Qeb]
  by_cases h0 : P.x = 0
  . rw [h0] at he ⊢
    rw [decide_eq_false (show ¬ (((0 : FF).val : Nat) : Int) % 2 = 1 by decide +kernel)]
    rcases Qis 0 with h | h
    . exact h
    . refine Eq.trans h ?_
      decide +kernel
  . have hn := Qhr h0
    rcases Qis P.x with h | h
    . rw [h] at he ⊢
      rw [decide_eq_false (show ¬ (P.x.val : Int) % 2 = 1 by omega)]
      rfl
    . rw [h] at he ⊢
      rw [hn] at he
      rw [decide_eq_true (show (P.x.val : Int) % 2 = 1 by omega)]
      show - -P.x = P.x
      grobner
/-- A point's bytes are that point's. -/
theorem EB (P : Pt) (h : Yj (XE P)) : Kr (XE P) h = P := Pt.ext (QhL P) (KX P)
theorem ZP (P : Pt) : Qe (XE P) := by
  rw [JB]
  have ht := Gq P.y
  intro x hx
  rcases List.mem_or_eq_of_mem_set hx with h1 | h1
  . exact VI _ x h1
  . omega
theorem QdJ (P : Pt) : Qag (P.x.val : Int) (P.y.val : Int) = XE P := by
  unfold Qag XE
  split
  . have e : (Q2 (P.y.val : Int)).getD 31 0 = Qb (Q2 (P.y.val : Int)) 31 := by simp [Qb]
    rw [e, Qkt (Gq P.y)]
  . rfl
theorem GC {x y : List Int} {P : Pt} (hx : Q6 x (P.x.val : Int)) (hy : Q6 y (P.y.val : Int)) : PV Tryz.prog gT 36 [pl x y] (.a .u8 (XE P) 32) := by
  rw [<- QdJ]; exact Qe3 hx hy
def bxL : List Int := [1738742601995546, 1146398526822698, 2070867633025821, 562264141797630, 587772402128613]
def byL : List Int := [1801439850948184, 1351079888211148, 450359962737049, 900719925474099, 1801439850948198]
theorem Qcw : GL Tryz.prog gT 51 0 (pl bxL byL) := GL.of Qm (El JK) gT2 rfl (VO rfl) rfl (Nat.lt_of_lt_of_le Nat.zero_lt_one (Nat.le_add_right 1 _)) rfl
theorem Qh4 : Q6 bxL (bP.x.val : Int) := ⟨rfl, ZF (by omega) (by omega) (by omega) (by omega) (by omega), by decide +kernel⟩
theorem Qh3 : Q6 byL (bP.y.val : Int) := ⟨rfl, ZF (by omega) (by omega) (by omega) (by omega) (by omega), by decide +kernel⟩
theorem QcS : ∃ r, Qgq r bP /\ PV Tryz.prog gT 34 [pl bxL byL] (fp r) := Ue Qh4 Qh3
theorem QbM {k : List Int} (hk : Qe k) (hl : k.length = 32) : PV Tryz.prog gT 15 [.a .u8 k 32] (.a .u8 (XE (QG (kB k) bP)) 32) := by
  obtain ⟨rb, hb, hB⟩ := QcS
  obtain ⟨r, hr, hM⟩ := Qhv hk hl hb.1
  obtain ⟨x, y, hx, hy, hF⟩ := Qbt hr
  have hY := GC hx hy
  have hel := Q0 (QG (kB k) bP)
  have hbl := hb.1.len
  have gb := Qcw
  generalize XE (QG (kB k) bP) = E at *
  refine PV.mk' Tryz.func15 rfl rfl rfl rfl fun w L hL hG => ?_
  clear hx hy hr hb
  refine S.enter Qm [.a .u8 k 32] gT Tryz.func15 rfl rfl rfl (fun _ => rfl) hL hG ?_
  refine S.go false rfl (by repeat' (first | exact True.intro | refine And.intro ?_ ?_ | assumption | omega | (dsimp only; omega) | (simp only [Nat.add_eq, Nat.mul_eq, Nat.sub_eq, SV.wd]; omega) | exact rfl)) ?_
  have hM' := hM 3 6
  refine S.drq false [(2, pl bxL byL), (3, fp rb), (5, fp r), (6, pl x y), (7, .a .u8 E 32)] [(5, [3, 6])] rfl rfl rfl ?_ (by repeat' (first | exact True.intro | refine And.intro ?_ ?_ | assumption | omega | (dsimp only; omega) | (simp only [Nat.add_eq, Nat.mul_eq, Nat.sub_eq, SV.wd]; omega) | exact rfl))
  refine S.g false rfl ?_
  exact S.retv rfl rfl rfl rfl rfl
theorem Qji {l : List Int} {P : Pt} (hp : Qgq l P) : ∃ r, ZA r (X8 P) /\ ∀ q, PR Tryz.prog gT 70 [.y q 0 1 1] [(q, [.a .u64 l 20])] (fp r) := by
  obtain ⟨hP, x, y, z, t, rfl, hx, hy⟩ := hp
  obtain ⟨nx, kn, H1⟩ := QeZ (y := y) hx
  rw [<- KL] at kn
  obtain ⟨r, hr, H2⟩ := Ue (P := X8 P) kn hy
  have hrl := hr.1.len
  refine ⟨r, hr.1, fun q => PR.mk' Tryz.func70 rfl rfl rfl fun ρ w hG hm => ?_⟩
  obtain ⟨b1, -⟩ := hm _ (.head _)
  have r1 := Xl.rows (s := 20) (rows := [(l20 x y z t).map (Value.int .u64)]) (by simpa [Qk, SV.cs] using b1) (by omega) (by simp [Qcr]) (by simp [maxLen])
  clear kn hr hx hy hP
  refine S.enter Qm [.o (some ⟨ρ.b q, 0, none⟩) 1 1] (gT ++ [fR 20 (.slice (some ⟨ρ.b q, 0, none⟩) 1 1) [(l20 x y z t).map (Value.int .u64)]]) Tryz.func70 rfl rfl rfl (fun _ => by simp only [QI, SV.den]) (LL.none w) (hG.app ⟨r1, trivial⟩) ?_
  refine S.slc 0 [.a .u64 (l20 x y z t) 20] rfl (fun ρ w h => h.f gTn rfl) (by simp [Qk, SV.cs]) (by simp [ZD, SV.wd]) ?_ ⟨rfl, trivial⟩
  refine S.go false rfl (by repeat' (first | exact True.intro | refine And.intro ?_ ?_ | assumption | omega | (dsimp only; omega) | (simp only [Nat.add_eq, Nat.mul_eq, Nat.sub_eq, SV.wd]; omega) | exact rfl)) ?_
  refine S.rd 6 (pl x y) rfl (fun _ => rfl) ?_
  refine S.cv rfl rfl rfl rfl rfl rfl H1 ?_
  refine S.g false rfl ?_
  refine S.cv rfl rfl rfl rfl rfl rfl H2 ?_
  refine S.go false rfl (by repeat' (first | exact True.intro | refine And.intro ?_ ?_ | assumption | omega | (dsimp only; omega) | (simp only [Nat.add_eq, Nat.mul_eq, Nat.sub_eq, SV.wd]; omega) | exact rfl)) ?_
  exact S.retv rfl rfl rfl rfl rfl
theorem Qjm {l a b : List Int} {P : Pt} (ha : Qe a) (hal : a.length = 32) (hb : Qe b) (hbl : b.length = 32) (hp : ZA l P) : ∃ r, ZA r (Qq (QG (kB a) P) (QG (kB b) bP)) /\ ∀ B1 B2 q, PR Tryz.prog (gT ++ [fG B1 (a.map (Value.int .u8)), fG B2 (b.map (Value.int .u8))]) 72 [.y q 0 1 1, .v (.pointer (some ⟨B1, 0, none⟩)), .v (.pointer (some ⟨B2, 0, none⟩))] [(q, [.a .u64 l 20])] (fp r) := by
  obtain ⟨rb, hrb, hB⟩ := QcS
  obtain ⟨r, hr, hM⟩ := Qhu ha hal hp hb hbl hrb.1
  have hll := hp.len
  have hbbl := hrb.1.len
  have hrl := hr.len
  have gb := Qcw
  refine ⟨r, hr, fun B1 B2 q => PR.mk' Tryz.func72 rfl rfl rfl fun ρ w hG hm => ?_⟩
  obtain ⟨b1, -⟩ := hm _ (.head _)
  have r1 := Xl.rows (s := 20) (rows := [l.map (Value.int .u64)]) (by simpa [Qk, SV.cs] using b1) (by omega) (by simp [hll]) (by simp [maxLen])
  clear hr hrb hp
  refine S.enter Qm [.o (some ⟨ρ.b q, 0, none⟩) 1 1, .v (.pointer (some ⟨B1, 0, none⟩)), .v (.pointer (some ⟨B2, 0, none⟩))] ((gT ++ [fG B1 (a.map (Value.int .u8)), fG B2 (b.map (Value.int .u8))]) ++ [fR 20 (.slice (some ⟨ρ.b q, 0, none⟩) 1 1) [l.map (Value.int .u64)]]) Tryz.func72 rfl rfl rfl (fun _ => by simp only [QI, SV.den]) (LL.none w) (hG.app ⟨r1, trivial⟩) ?_
  refine S.slc 0 [.a .u64 l 20] rfl (fun ρ w h => h.f (gTn + 2) rfl) (by simp [Qk, SV.cs]) (by simp [ZD, SV.wd]) ?_ ⟨hll, trivial⟩
  refine S.data 1 [.a .u8 a 32] rfl (fun ρ w h => by have := h.g gTn rfl; simpa [Qk, SV.cs] using this) ?_ rfl ⟨hal, trivial⟩ (by simp [ZD, SV.wd])
  refine S.data 2 [.a .u8 b 32] rfl (fun ρ w h => by have := h.g (gTn + 1) rfl; simpa [Qk, SV.cs] using this) ?_ rfl ⟨hbl, trivial⟩ (by simp [ZD, SV.wd])
  refine S.go false rfl (by repeat' (first | exact True.intro | refine And.intro ?_ ?_ | assumption | omega | (dsimp only; omega) | (simp only [Nat.add_eq, Nat.mul_eq, Nat.sub_eq, SV.wd]; omega) | exact rfl)) ?_
  have hM' := hM 6 12
  refine S.drq (G := gT) false [(6, pl bxL byL), (7, fp rb), (9, fp r)] [(9, [6, 12])] rfl rfl rfl ?_ (by repeat' (first | exact True.intro | refine And.intro ?_ ?_ | assumption | omega | (dsimp only; omega) | (simp only [Nat.add_eq, Nat.mul_eq, Nat.sub_eq, SV.wd]; omega) | exact rfl)) (hG := fun _ _ h => h.pre.pre)
  refine S.g false rfl ?_
  exact S.retv rfl rfl rfl rfl rfl
/-- made, where the bytes are a point's. -/
theorem Qfr {G' : List QJ} (hGg : ∀ L W, Hs G' L W -> Hs gT L W)  {b : List Int} (hl : b.length = 32) {l : List Int} (hll : l.length = 20) (H0 : PV Tryz.prog gT 108 [.a .u8 b 32] (.t [fp l, .l true])) {r : List Int} {Q : Pt} (hr : ZA r Q) (hC : ∀ q, PR Tryz.prog G' 70 [.y q 0 1 1] [(q, [.a .u64 l 20])] (fp r)) (w : World) (B : Nat) (hG : Hs G' [] w) (r1 : Zi 32 [] w (.slice (some ⟨B, 0, none⟩) 1 1) [b.map (Value.int .u8)]) :
    CX Tryz.prog 69 (QI QK [.f 70 [], .o (some ⟨B, 0, none⟩) 1 1]) w [] (fun _ : Unit => .t [.a .u8 (XE Q) 32, .i .i64 0]) (fun _ => []) (fun _ => True) := by
  obtain ⟨x, y, hx, hy, hF⟩ := Qbt hr
  have hY := GC hx hy
  have hel := Q0 Q
  generalize XE Q = E at *
  clear hx hy hr
  refine S.enter Qm [.f 70 [], .o (some ⟨B, 0, none⟩) 1 1] (G' ++ [fR 32 (.slice (some ⟨B, 0, none⟩) 1 1) [b.map (Value.int .u8)]]) Tryz.func69 rfl rfl rfl (fun _ => rfl) (LL.none w) (hG.app ⟨r1, trivial⟩) ?_
  refine S.slc 1 (s := 32) (rs := [b.map (Value.int .u8)]) [.a .u8 b 32] rfl (fun ρ w h => h.f (φ := fR 32 (.slice (some ⟨B, 0, none⟩) 1 1) [b.map (Value.int .u8)]) G'.length (by simp)) (by simp [Qk, SV.cs]) (by simp [ZD, SV.wd]) ?_ ⟨hl, trivial⟩
  refine S.g false rfl ?_
  refine S.make 1 rfl rfl rfl rfl (s := 20) (bytes := 160) (by kernel_rfl) rfl rfl rfl rfl rfl (by omega) (by omega) ?_
  refine S.g false rfl ?_
  refine S.rd 16 (.lit .i64 0) rfl (fun _ => rfl) ?_
  refine S.rounds 1 ?_
  refine S.g false rfl ?_
  refine S.condT rfl (by omega) ?_
  refine S.go false rfl (by repeat' (first | exact True.intro | refine And.intro ?_ ?_ | assumption | omega | (dsimp only; omega) | (simp only [Nat.add_eq, Nat.mul_eq, Nat.sub_eq, SV.wd]; omega) | exact rfl)) ?_
  refine S.cv rfl rfl rfl rfl rfl rfl H0 ?_ (hG := fun _ _ h => hGg _ _ h.pre)
  refine S.go false rfl (by repeat' (first | exact True.intro | refine And.intro ?_ ?_ | assumption | omega | (dsimp only; omega) | (simp only [Nat.add_eq, Nat.mul_eq, Nat.sub_eq, SV.wd]; omega) | exact rfl)) ?_
  refine S.next ?_
  refine S.g false rfl ?_
  refine S.condF rfl (by omega) ?_
  refine S.g false rfl ?_
  refine S.cr [2] rfl rfl rfl rfl rfl rfl rfl (hC 2) ?_
  refine S.g false rfl ?_
  refine S.cv rfl rfl rfl rfl rfl rfl hF ?_ (hG := fun _ _ h => hGg _ _ h.pre)
  refine S.g false rfl ?_
  refine S.cv rfl rfl rfl rfl rfl rfl hY ?_ (hG := fun _ _ h => hGg _ _ h.pre)
  refine S.go false rfl (by repeat' (first | exact True.intro | refine And.intro ?_ ?_ | assumption | omega | (dsimp only; omega) | (simp only [Nat.add_eq, Nat.mul_eq, Nat.sub_eq, SV.wd]; omega) | exact rfl)) ?_
  exact S.rett rfl rfl rfl rfl rfl
theorem QdA {G' : List QJ} (hGg : ∀ L W, Hs G' L W -> Hs gT L W)  {b : List Int} (hl : b.length = 32) (H0 : PV Tryz.prog gT 108 [.a .u8 b 32] (.t [fp z20, .l false])) (w : World) (B : Nat) (hG : Hs G' [] w) (r1 : Zi 32 [] w (.slice (some ⟨B, 0, none⟩) 1 1) [b.map (Value.int .u8)]) :
    CX Tryz.prog 69 (QI QK [.f 70 [], .o (some ⟨B, 0, none⟩) 1 1]) w [] (fun _ : Unit => .t [.a .u8 (List.replicate 32 0) 32, .i .i64 1]) (fun _ => []) (fun _ => True) := by
  refine S.enter Qm [.f 70 [], .o (some ⟨B, 0, none⟩) 1 1] (G' ++ [fR 32 (.slice (some ⟨B, 0, none⟩) 1 1) [b.map (Value.int .u8)]]) Tryz.func69 rfl rfl rfl (fun _ => rfl) (LL.none w) (hG.app ⟨r1, trivial⟩) ?_
  refine S.slc 1 (s := 32) (rs := [b.map (Value.int .u8)]) [.a .u8 b 32] rfl (fun ρ w h => h.f (φ := fR 32 (.slice (some ⟨B, 0, none⟩) 1 1) [b.map (Value.int .u8)]) G'.length (by simp)) (by simp [Qk, SV.cs]) (by simp [ZD, SV.wd]) ?_ ⟨hl, trivial⟩
  refine S.g false rfl ?_
  refine S.make 1 rfl rfl rfl rfl (s := 20) (bytes := 160) (by kernel_rfl) rfl rfl rfl rfl rfl (by omega) (by omega) ?_
  refine S.g false rfl ?_
  refine S.rd 16 (.lit .i64 0) rfl (fun _ => rfl) ?_
  refine S.rounds 1 ?_
  refine S.g false rfl ?_
  refine S.condT rfl (by omega) ?_
  refine S.go false rfl (by repeat' (first | exact True.intro | refine And.intro ?_ ?_ | assumption | omega | (dsimp only; omega) | (simp only [Nat.add_eq, Nat.mul_eq, Nat.sub_eq, SV.wd]; omega) | exact rfl)) ?_
  refine S.cv rfl rfl rfl rfl rfl rfl H0 ?_ (hG := fun _ _ h => hGg _ _ h.pre)
  refine S.go false rfl (by repeat' (first | exact True.intro | refine And.intro ?_ ?_ | assumption | omega | (dsimp only; omega) | (simp only [Nat.add_eq, Nat.mul_eq, Nat.sub_eq, SV.wd]; omega) | exact rfl)) ?_
  exact S.rett rfl rfl rfl rfl rfl
/-- made, where the bytes are a point's. -/
theorem Qfs {G' : List QJ} (hGg : ∀ L W, Hs G' L W -> Hs gT L W) {B1 B2 : Nat} {b : List Int} (hl : b.length = 32) {l : List Int} (hll : l.length = 20) (H0 : PV Tryz.prog gT 108 [.a .u8 b 32] (.t [fp l, .l true])) {r : List Int} {Q : Pt} (hr : ZA r Q) (hC : ∀ q, PR Tryz.prog G' 72 [.y q 0 1 1, .v (.pointer (some ⟨B1, 0, none⟩)), .v (.pointer (some ⟨B2, 0, none⟩))] [(q, [.a .u64 l 20])] (fp r)) (w : World) (B : Nat) (hG : Hs G' [] w) (r1 : Zi 32 [] w (.slice (some ⟨B, 0, none⟩) 1 1) [b.map (Value.int .u8)]) :
    CX Tryz.prog 69 (QI QK [.f 72 [.v (.pointer (some ⟨B1, 0, none⟩)), .v (.pointer (some ⟨B2, 0, none⟩))], .o (some ⟨B, 0, none⟩) 1 1]) w [] (fun _ : Unit => .t [.a .u8 (XE Q) 32, .i .i64 0]) (fun _ => []) (fun _ => True) := by
  obtain ⟨x, y, hx, hy, hF⟩ := Qbt hr
  have hY := GC hx hy
  have hel := Q0 Q
  generalize XE Q = E at *
  clear hx hy hr
  refine S.enter Qm [.f 72 [.v (.pointer (some ⟨B1, 0, none⟩)), .v (.pointer (some ⟨B2, 0, none⟩))], .o (some ⟨B, 0, none⟩) 1 1] (G' ++ [fR 32 (.slice (some ⟨B, 0, none⟩) 1 1) [b.map (Value.int .u8)]]) Tryz.func69 rfl rfl rfl (fun _ => rfl) (LL.none w) (hG.app ⟨r1, trivial⟩) ?_
  refine S.slc 1 (s := 32) (rs := [b.map (Value.int .u8)]) [.a .u8 b 32] rfl (fun ρ w h => h.f (φ := fR 32 (.slice (some ⟨B, 0, none⟩) 1 1) [b.map (Value.int .u8)]) G'.length (by simp)) (by simp [Qk, SV.cs]) (by simp [ZD, SV.wd]) ?_ ⟨hl, trivial⟩
  refine S.g false rfl ?_
  refine S.make 1 rfl rfl rfl rfl (s := 20) (bytes := 160) (by kernel_rfl) rfl rfl rfl rfl rfl (by omega) (by omega) ?_
  refine S.g false rfl ?_
  refine S.rd 16 (.lit .i64 0) rfl (fun _ => rfl) ?_
  refine S.rounds 1 ?_
  refine S.g false rfl ?_
  refine S.condT rfl (by omega) ?_
  refine S.go false rfl (by repeat' (first | exact True.intro | refine And.intro ?_ ?_ | assumption | omega | (dsimp only; omega) | (simp only [Nat.add_eq, Nat.mul_eq, Nat.sub_eq, SV.wd]; omega) | exact rfl)) ?_
  refine S.cv rfl rfl rfl rfl rfl rfl H0 ?_ (hG := fun _ _ h => hGg _ _ h.pre)
  refine S.go false rfl (by repeat' (first | exact True.intro | refine And.intro ?_ ?_ | assumption | omega | (dsimp only; omega) | (simp only [Nat.add_eq, Nat.mul_eq, Nat.sub_eq, SV.wd]; omega) | exact rfl)) ?_
  refine S.next ?_
  refine S.g false rfl ?_
  refine S.condF rfl (by omega) ?_
  refine S.g false rfl ?_
  refine S.cr [2] rfl rfl rfl rfl rfl rfl rfl (hC 2) ?_
  refine S.g false rfl ?_
  refine S.cv rfl rfl rfl rfl rfl rfl hF ?_ (hG := fun _ _ h => hGg _ _ h.pre)
  refine S.g false rfl ?_
  refine S.cv rfl rfl rfl rfl rfl rfl hY ?_ (hG := fun _ _ h => hGg _ _ h.pre)
  refine S.go false rfl (by repeat' (first | exact True.intro | refine And.intro ?_ ?_ | assumption | omega | (dsimp only; omega) | (simp only [Nat.add_eq, Nat.mul_eq, Nat.sub_eq, SV.wd]; omega) | exact rfl)) ?_
  exact S.rett rfl rfl rfl rfl rfl
theorem QdB {G' : List QJ} (hGg : ∀ L W, Hs G' L W -> Hs gT L W) {B1 B2 : Nat} {b : List Int} (hl : b.length = 32) (H0 : PV Tryz.prog gT 108 [.a .u8 b 32] (.t [fp z20, .l false])) (w : World) (B : Nat) (hG : Hs G' [] w) (r1 : Zi 32 [] w (.slice (some ⟨B, 0, none⟩) 1 1) [b.map (Value.int .u8)]) :
    CX Tryz.prog 69 (QI QK [.f 72 [.v (.pointer (some ⟨B1, 0, none⟩)), .v (.pointer (some ⟨B2, 0, none⟩))], .o (some ⟨B, 0, none⟩) 1 1]) w [] (fun _ : Unit => .t [.a .u8 (List.replicate 32 0) 32, .i .i64 1]) (fun _ => []) (fun _ => True) := by
  refine S.enter Qm [.f 72 [.v (.pointer (some ⟨B1, 0, none⟩)), .v (.pointer (some ⟨B2, 0, none⟩))], .o (some ⟨B, 0, none⟩) 1 1] (G' ++ [fR 32 (.slice (some ⟨B, 0, none⟩) 1 1) [b.map (Value.int .u8)]]) Tryz.func69 rfl rfl rfl (fun _ => rfl) (LL.none w) (hG.app ⟨r1, trivial⟩) ?_
  refine S.slc 1 (s := 32) (rs := [b.map (Value.int .u8)]) [.a .u8 b 32] rfl (fun ρ w h => h.f (φ := fR 32 (.slice (some ⟨B, 0, none⟩) 1 1) [b.map (Value.int .u8)]) G'.length (by simp)) (by simp [Qk, SV.cs]) (by simp [ZD, SV.wd]) ?_ ⟨hl, trivial⟩
  refine S.g false rfl ?_
  refine S.make 1 rfl rfl rfl rfl (s := 20) (bytes := 160) (by kernel_rfl) rfl rfl rfl rfl rfl (by omega) (by omega) ?_
  refine S.g false rfl ?_
  refine S.rd 16 (.lit .i64 0) rfl (fun _ => rfl) ?_
  refine S.rounds 1 ?_
  refine S.g false rfl ?_
  refine S.condT rfl (by omega) ?_
  refine S.go false rfl (by repeat' (first | exact True.intro | refine And.intro ?_ ?_ | assumption | omega | (dsimp only; omega) | (simp only [Nat.add_eq, Nat.mul_eq, Nat.sub_eq, SV.wd]; omega) | exact rfl)) ?_
  refine S.cv rfl rfl rfl rfl rfl rfl H0 ?_ (hG := fun _ _ h => hGg _ _ h.pre)
  refine S.go false rfl (by repeat' (first | exact True.intro | refine And.intro ?_ ?_ | assumption | omega | (dsimp only; omega) | (simp only [Nat.add_eq, Nat.mul_eq, Nat.sub_eq, SV.wd]; omega) | exact rfl)) ?_
  exact S.rett rfl rfl rfl rfl rfl
/-- What Neg gives. -/
theorem Qkw {b : List Int} (hb : Qe b) (hl : b.length = 32) : (∀ h : Yj b, PV Tryz.prog gT 27 [.a .u8 b 32] (.t [.a .u8 (XE (X8 (Kr b h))) 32, .i .i64 0])) /\ (¬ Yj b -> PV Tryz.prog gT 27 [.a .u8 b 32] (.t [.a .u8 (List.replicate 32 0) 32, .i .i64 1])) := by
  have key : ∀ (o : List Int) (e : Int), o.length = 32 -> (∀ w B, Hs gT [] w -> Zi 32 [] w (.slice (some ⟨B, 0, none⟩) 1 1) [b.map (Value.int .u8)] -> CX Tryz.prog 69 (QI QK [.f 70 [], .o (some ⟨B, 0, none⟩) 1 1]) w [] (fun _ : Unit => .t [.a .u8 o 32, .i .i64 e]) (fun _ => []) (fun _ => True)) -> PV Tryz.prog gT 27 [.a .u8 b 32] (.t [.a .u8 o 32, .i .i64 e]) := fun o e hol H => by
    have HP : PR Tryz.prog gT 69 [.f 70 [], .y 2 0 1 1] [(2, [.a .u8 b 32])] (.t [.a .u8 o 32, .i .i64 e]) := PR.mk' Tryz.func69 rfl rfl rfl fun ρ w hG hm => by
      obtain ⟨b1, -⟩ := hm _ (.head _)
      have r1 := Xl.rows (s := 32) (rows := [b.map (Value.int .u8)]) (by simpa [Qk, SV.cs] using b1) (by omega) (by simp [hl]) (by simp [maxLen])
      have := H w (ρ.b 2) hG r1
      simpa only [QI, SV.den] using this
    refine PV.mk' Tryz.func27 rfl rfl rfl rfl fun w L hL hG => ?_
    refine S.enter Qm [.a .u8 b 32] gT Tryz.func27 rfl rfl rfl (fun _ => rfl) hL hG ?_
    refine S.go false rfl (by repeat' (first | exact True.intro | refine And.intro ?_ ?_ | assumption | omega | (dsimp only; omega) | (simp only [Nat.add_eq, Nat.mul_eq, Nat.sub_eq, SV.wd]; omega) | exact rfl)) ?_
    refine S.cr [2] rfl rfl rfl rfl rfl rfl rfl HP ?_
    refine S.go false rfl (by repeat' (first | exact True.intro | refine And.intro ?_ ?_ | assumption | omega | (dsimp only; omega) | (simp only [Nat.add_eq, Nat.mul_eq, Nat.sub_eq, SV.wd]; omega) | exact rfl)) ?_
    exact S.rett rfl rfl rfl rfl rfl
  obtain ⟨l1, l2⟩ := Qfx hb hl
  refine ⟨fun h => ?_, fun h => ?_⟩
  . obtain ⟨r, hr, H0⟩ := l1 h
    obtain ⟨s, hs, H1⟩ := Qji hr
    exact key _ _ (Q0 _) fun w B hG r1 => Qfr (fun _ _ h => h) hl hr.1.len H0 hs H1 w B hG r1
  . exact key _ _ rfl fun w B hG r1 => QdA (fun _ _ h => h) hl (l2 h) w B hG r1
/-- What Mix gives. -/
theorem Qkz {a b p : List Int} (ha : Qe a) (hal : a.length = 32) (hb : Qe b) (hbl : b.length = 32) (hp : Qe p) (hpl : p.length = 32) : (∀ h : Yj p, PV Tryz.prog gT 28 [.a .u8 a 32, .a .u8 p 32, .a .u8 b 32] (.t [.a .u8 (XE (Qq (QG (kB a) (Kr p h)) (QG (kB b) bP))) 32, .i .i64 0])) /\ (¬ Yj p -> PV Tryz.prog gT 28 [.a .u8 a 32, .a .u8 p 32, .a .u8 b 32] (.t [.a .u8 (List.replicate 32 0) 32, .i .i64 1])) := by
  have key : ∀ (o : List Int) (e : Int), o.length = 32 -> (∀ w B1 B2 B, Hs (gT ++ [fG B1 (a.map (Value.int .u8)), fG B2 (b.map (Value.int .u8))]) [] w -> Zi 32 [] w (.slice (some ⟨B, 0, none⟩) 1 1) [p.map (Value.int .u8)] -> CX Tryz.prog 69 (QI QK [.f 72 [.v (.pointer (some ⟨B1, 0, none⟩)), .v (.pointer (some ⟨B2, 0, none⟩))], .o (some ⟨B, 0, none⟩) 1 1]) w [] (fun _ : Unit => .t [.a .u8 o 32, .i .i64 e]) (fun _ => []) (fun _ => True)) -> PV Tryz.prog gT 28 [.a .u8 a 32, .a .u8 p 32, .a .u8 b 32] (.t [.a .u8 o 32, .i .i64 e]) := fun o e hol H => by
    have HP : PR Tryz.prog gT 69 [.f 72 [.p 0 0, .p 2 0], .y 4 0 1 1] [(0, [.a .u8 a 32]), (2, [.a .u8 b 32]), (4, [.a .u8 p 32])] (.t [.a .u8 o 32, .i .i64 e]) := PR.mk' Tryz.func69 rfl rfl rfl fun ρ w hG hm => by
      obtain ⟨b1, -⟩ := hm _ (.head _)
      obtain ⟨b2, -⟩ := hm _ (.tail _ (.head _))
      obtain ⟨b3, -⟩ := hm _ (.tail _ (.tail _ (.head _)))
      simp only [Qk, SV.cs, List.append_nil] at b1 b2 b3
      have r1 := Xl.rows (s := 32) (rows := [p.map (Value.int .u8)]) (by simpa using b3) (by omega) (by simp [hpl]) (by simp [maxLen])
      have := H w (ρ.b 0) (ρ.b 2) (ρ.b 4) (hG.app ⟨⟨by simp, b1.lt, b1.range⟩, ⟨by simp, b2.lt, b2.range⟩, trivial⟩) r1
      simpa only [QI, SV.den] using this
    refine PV.mk' Tryz.func28 rfl rfl rfl rfl fun w L hL hG => ?_
    refine S.enter Qm [.a .u8 a 32, .a .u8 p 32, .a .u8 b 32] gT Tryz.func28 rfl rfl rfl (fun _ => rfl) hL hG ?_
    refine S.go false rfl (by repeat' (first | exact True.intro | refine And.intro ?_ ?_ | assumption | omega | (dsimp only; omega) | (simp only [Nat.add_eq, Nat.mul_eq, Nat.sub_eq, SV.wd]; omega) | exact rfl)) ?_
    refine S.cr [0, 2, 4] rfl rfl rfl rfl rfl rfl rfl HP ?_
    refine S.go false rfl (by repeat' (first | exact True.intro | refine And.intro ?_ ?_ | assumption | omega | (dsimp only; omega) | (simp only [Nat.add_eq, Nat.mul_eq, Nat.sub_eq, SV.wd]; omega) | exact rfl)) ?_
    exact S.rett rfl rfl rfl rfl rfl
  obtain ⟨l1, l2⟩ := Qfx hp hpl
  refine ⟨fun h => ?_, fun h => ?_⟩
  . obtain ⟨r, hr, H0⟩ := l1 h
    obtain ⟨s, hs, H1⟩ := Qjm ha hal hb hbl hr.1
    exact key _ _ (Q0 _) fun w B1 B2 B hG r1 => Qfs (fun _ _ h => h.pre) hpl hr.1.len H0 hs (fun q => H1 B1 B2 q) w B hG r1
  . exact key _ _ rfl fun w B1 B2 B hG r1 => QdB (fun _ _ h => h.pre) hpl (l2 h) w B hG r1
end Go.Proofs.YtbiboamaigedjaaGreatDoor
namespace Go.Proofs.YtbiboamaigedjaaGreatDoor
set_option linter.unusedVariables false
set_option maxRecDepth 100000

/-- The order. -/
def lN : Nat := 7237005577332262213973186563042994240857116359379907606001950938285454250989
/-- A point as x and y over one divisor. -/
def Ht (c : FF × FF × FF) (P : Pt) : Prop := c.2.2 ≠ 0 /\ c.1 = P.x * c.2.2 /\ c.2.1 = P.y * c.2.2
def V6 (c e : FF × FF × FF) : FF × FF × FF :=
  let a := c.2.2 * e.2.2
  let b := a * a
  let u := c.1 * e.1
  let v := c.2.1 * e.2.1
  let t := dF * (u * v)
  let f := b - t
  let g := b + t
  (a * f * (c.1 * e.2.1 + c.2.1 * e.1), a * g * (v + u), f * g)
theorem GF {c e : FF × FF × FF} {P Q : Pt} (h : Ht c P) (k : Ht e Q) : Ht (V6 c e) (Qq P Q) := by
  obtain ⟨cx, cy, cz⟩ := c
  obtain ⟨ex, ey, ez⟩ := e
  obtain ⟨h0, h1, h2⟩ := h
  obtain ⟨k0, k1, k2⟩ := k
  have d1 := HF P.on Q.on
  have d2 := HE P.on Q.on
  have p1 := Uh P Q
  have p2 := Ug P Q
  have nz : ∀ {a b : FF}, a ≠ 0 -> b ≠ 0 -> a * b ≠ 0 := fun ha hb h => (Hz h).elim ha hb
  dsimp only at h0 h1 h2 k0 k1 k2
  subst h1 h2 k1 k2
  have ha := nz h0 k0
  have hb := nz ha ha
  have hf : cz * ez * (cz * ez) - dF * (P.x * cz * (Q.x * ez) * (P.y * cz * (Q.y * ez))) = cz * ez * (cz * ez) * (1 - dF*P.x*Q.x*P.y*Q.y) := by grobner
  have hg : cz * ez * (cz * ez) + dF * (P.x * cz * (Q.x * ez) * (P.y * cz * (Q.y * ez))) = cz * ez * (cz * ez) * (1 + dF*P.x*Q.x*P.y*Q.y) := by grobner
  refine ⟨?_, ?_, ?_⟩
  . show (cz * ez * (cz * ez) - dF * (P.x * cz * (Q.x * ez) * (P.y * cz * (Q.y * ez)))) * (cz * ez * (cz * ez) + dF * (P.x * cz * (Q.x * ez) * (P.y * cz * (Q.y * ez)))) ≠ 0
    rw [hf, hg]
    exact nz (nz hb d2) (nz hb d1)
  . show cz * ez * (cz * ez * (cz * ez) - dF * (P.x * cz * (Q.x * ez) * (P.y * cz * (Q.y * ez)))) * (P.x * cz * (Q.y * ez) + P.y * cz * (Q.x * ez)) = (Qq P Q).x * ((cz * ez * (cz * ez) - dF * (P.x * cz * (Q.x * ez) * (P.y * cz * (Q.y * ez)))) * (cz * ez * (cz * ez) + dF * (P.x * cz * (Q.x * ez) * (P.y * cz * (Q.y * ez)))))
    rw [hf, hg]
    have e1 : (Qq P Q).x * (cz * ez * (cz * ez) * (1 - dF*P.x*Q.x*P.y*Q.y) * (cz * ez * (cz * ez) * (1 + dF*P.x*Q.x*P.y*Q.y))) = (Qq P Q).x * (1 + dF*P.x*Q.x*P.y*Q.y) * (cz * ez * (cz * ez) * (1 - dF*P.x*Q.x*P.y*Q.y) * (cz * ez * (cz * ez))) := by
      generalize (Qq P Q).x = X
      generalize 1 - dF*P.x*Q.x*P.y*Q.y = U
      generalize 1 + dF*P.x*Q.x*P.y*Q.y = V
      grobner
    rw [e1, p1]
    generalize 1 - dF*P.x*Q.x*P.y*Q.y = U
    grobner
  . show cz * ez * (cz * ez * (cz * ez) + dF * (P.x * cz * (Q.x * ez) * (P.y * cz * (Q.y * ez)))) * (P.y * cz * (Q.y * ez) + P.x * cz * (Q.x * ez)) = (Qq P Q).y * ((cz * ez * (cz * ez) - dF * (P.x * cz * (Q.x * ez) * (P.y * cz * (Q.y * ez)))) * (cz * ez * (cz * ez) + dF * (P.x * cz * (Q.x * ez) * (P.y * cz * (Q.y * ez)))))
    rw [hf, hg]
    have e1 : (Qq P Q).y * (cz * ez * (cz * ez) * (1 - dF*P.x*Q.x*P.y*Q.y) * (cz * ez * (cz * ez) * (1 + dF*P.x*Q.x*P.y*Q.y))) = (Qq P Q).y * (1 - dF*P.x*Q.x*P.y*Q.y) * (cz * ez * (cz * ez) * (1 + dF*P.x*Q.x*P.y*Q.y) * (cz * ez * (cz * ez))) := by
      generalize (Qq P Q).y = X
      generalize 1 - dF*P.x*Q.x*P.y*Q.y = U
      generalize 1 + dF*P.x*Q.x*P.y*Q.y = V
      grobner
    rw [e1, p2]
    generalize 1 + dF*P.x*Q.x*P.y*Q.y = V
    grobner
/-- So many times, by doubling. -/
def XO (c : FF × FF × FF) : Nat -> Nat -> FF × FF × FF
  | 0, _ => (0, 1, 1)
  | f + 1, k => match k % 2 with
    | 0 => V6 (XO c f (k / 2)) (XO c f (k / 2))
    | _ => V6 (V6 (XO c f (k / 2)) (XO c f (k / 2))) c
theorem Vg {c : FF × FF × FF} {P : Pt} (h : Ht c P) : ∀ f k, k < 2 ^ f -> Ht (XO c f k) (QG k P)
  | 0, k, hk => by
    obtain rfl : k = 0 := by simpa using hk
    exact ⟨by show (1 : FF) ≠ 0; decide +kernel, by show (0 : FF) = 0 * 1; decide +kernel, by show (1 : FF) = 1 * 1; decide +kernel⟩
  | f + 1, k, hk => by
    have ih := Vg h f (k / 2) (by rw [Nat.pow_succ] at hk; omega)
    have hd := GF ih ih
    rw [<- Zc] at hd
    unfold XO
    split
    . next h0 => rw [show k / 2 + k / 2 = k by omega] at hd; exact hd
    . next h0 =>
      have h1 : k / 2 + k / 2 + 1 = k := by
        have : k % 2 ≠ 0 := fun e => h0 e
        omega
      have ho := GF hd h
      rw [show Qq (QG (k / 2 + k / 2) P) P = QG (k / 2 + k / 2 + 1) P from rfl, h1] at ho
      exact ho
theorem Qdp {c : FF × FF × FF} {P : Pt} (h : Ht c P) (hx : c.1 = 0) (hy : c.2.1 = c.2.2) : P = Xo := by
  obtain ⟨h0, h1, h2⟩ := h
  apply Pt.ext
  . rw [hx] at h1
    rcases Hz h1.symm with e | e
    . exact e
    . exact absurd e h0
  . refine QbI h0 ?_
    show c.2.2 * P.y = c.2.2 * 1
    rw [hy] at h2
    grobner
instance instOn (x y : FF) : Decidable (On dF x y) := inferInstanceAs (Decidable (_ = _))
end Go.Proofs.YtbiboamaigedjaaGreatDoor
namespace Go.Proofs.YtbiboamaigedjaaGreatDoor
open Go.RowKit
set_option linter.unusedVariables false
set_option linter.unusedSimpArgs false
set_option maxRecDepth 8000
set_option maxHeartbeats 2000000

theorem D_r : PV Tryz.prog gT 112 [] (.a .u64 (Qf 4 (dF.val : Int)) 4) := by
  have h : PV Tryz.prog gT 112 [] (.g [.i .u64 8496970652267935907, .i .u64 31536524315187371, .i .u64 10144147576115030168, .i .u64 5909686906226998899]) := by
    refine PV.mk' Tryz.func112 rfl rfl rfl rfl fun w L hL hG => ?_
    refine S.enter Qm [] gT Tryz.func112 rfl rfl rfl (fun _ => rfl) hL hG ?_
    refine S.go false rfl (by repeat' (first | exact True.intro | refine And.intro ?_ ?_ | assumption | omega | (dsimp only; omega) | (simp only [Nat.add_eq, Nat.mul_eq, Nat.sub_eq, SV.wd]; omega) | exact rfl)) ?_
    exact S.retv rfl rfl rfl rfl rfl
  have e : Qf 4 (dF.val : Int) = [8496970652267935907, 31536524315187371, 10144147576115030168, 5909686906226998899] := by decide +kernel
  rw [e]
  exact h.res rfl rfl
theorem XN (a b : FF) : PV Tryz.prog gT 89 [.a .u64 (Qf 4 (a.val : Int)) 4, .a .u64 (Qf 4 (b.val : Int)) 4] (.a .u64 (Qf 4 ((a * b : FF).val : Int)) 4) := by
  rw [val_mul]; exact J4 (Vt a) (Vt b)
theorem QbX (a b : FF) : PV Tryz.prog gT 111 [.a .u64 (Qf 4 (a.val : Int)) 4, .a .u64 (Qf 4 (b.val : Int)) 4] (.a .u64 (Qf 4 ((a + b : FF).val : Int)) 4) := by
  have ha := Z9 a; have hb := Z9 b; have hp : pV + pV < 2 ^ 256 := by decide +kernel
  rw [val_add]; exact Qkg ha.1 hb.1 (by omega)
theorem Ez (a b : FF) : PV Tryz.prog gT 74 [.a .u64 (Qf 4 (a.val : Int)) 4, .a .u64 (Qf 4 (b.val : Int)) 4] (.a .u64 (Qf 4 ((a - b : FF).val : Int)) 4) := by
  rw [YR]; exact QbC (Z9 a) (Z9 b)
theorem Qiz (a : FF) : PV Tryz.prog gT 88 [.a .u64 (Qf 4 (a.val : Int)) 4] (.a .u64 (Qf 4 ((X9 a).val : Int)) 4) := by
  rw [<- G2]; exact QfG (Vt a)
/-- A point of the reference. -/
def np (c : FF × FF × FF) : SV := .g [.a .u64 (Qf 4 (c.1.val : Int)) 4, .a .u64 (Qf 4 (c.2.1.val : Int)) 4, .a .u64 (Qf 4 (c.2.2.val : Int)) 4]
set_option maxHeartbeats 2000000 in
theorem QiZ {x1 y1 z1 x2 y2 z2 a b u v d uv t f g m1 m2 cr bo af X ag Y Z : List Int} (l_x1 : x1.length = 4) (l_y1 : y1.length = 4) (l_z1 : z1.length = 4) (l_x2 : x2.length = 4) (l_y2 : y2.length = 4) (l_z2 : z2.length = 4) (l_a : a.length = 4) (l_b : b.length = 4) (l_u : u.length = 4) (l_v : v.length = 4) (l_d : d.length = 4) (l_uv : uv.length = 4) (l_t : t.length = 4) (l_f : f.length = 4) (l_g : g.length = 4) (l_m1 : m1.length = 4) (l_m2 : m2.length = 4) (l_cr : cr.length = 4) (l_bo : bo.length = 4) (l_af : af.length = 4) (l_X : X.length = 4) (l_ag : ag.length = 4) (l_Y : Y.length = 4) (l_Z : Z.length = 4) (h1 : PV Tryz.prog gT 89 [.a .u64 z1 4, .a .u64 z2 4] (.a .u64 a 4)) (h2 : PV Tryz.prog gT 89 [.a .u64 a 4, .a .u64 a 4] (.a .u64 b 4)) (h3 : PV Tryz.prog gT 89 [.a .u64 x1 4, .a .u64 x2 4] (.a .u64 u 4)) (h4 : PV Tryz.prog gT 89 [.a .u64 y1 4, .a .u64 y2 4] (.a .u64 v 4)) (h5 : PV Tryz.prog gT 112 [] (.a .u64 d 4)) (h6 : PV Tryz.prog gT 89 [.a .u64 u 4, .a .u64 v 4] (.a .u64 uv 4)) (h7 : PV Tryz.prog gT 89 [.a .u64 d 4, .a .u64 uv 4] (.a .u64 t 4)) (h8 : PV Tryz.prog gT 74 [.a .u64 b 4, .a .u64 t 4] (.a .u64 f 4)) (h9 : PV Tryz.prog gT 111 [.a .u64 b 4, .a .u64 t 4] (.a .u64 g 4)) (h10 : PV Tryz.prog gT 89 [.a .u64 x1 4, .a .u64 y2 4] (.a .u64 m1 4)) (h11 : PV Tryz.prog gT 89 [.a .u64 y1 4, .a .u64 x2 4] (.a .u64 m2 4)) (h12 : PV Tryz.prog gT 111 [.a .u64 m1 4, .a .u64 m2 4] (.a .u64 cr 4)) (h13 : PV Tryz.prog gT 111 [.a .u64 v 4, .a .u64 u 4] (.a .u64 bo 4)) (h14 : PV Tryz.prog gT 89 [.a .u64 a 4, .a .u64 f 4] (.a .u64 af 4)) (h15 : PV Tryz.prog gT 89 [.a .u64 af 4, .a .u64 cr 4] (.a .u64 X 4)) (h16 : PV Tryz.prog gT 89 [.a .u64 a 4, .a .u64 g 4] (.a .u64 ag 4)) (h17 : PV Tryz.prog gT 89 [.a .u64 ag 4, .a .u64 bo 4] (.a .u64 Y 4)) (h18 : PV Tryz.prog gT 89 [.a .u64 f 4, .a .u64 g 4] (.a .u64 Z 4)) : PV Tryz.prog gT 78 [.g [.a .u64 x1 4, .a .u64 y1 4, .a .u64 z1 4], .g [.a .u64 x2 4, .a .u64 y2 4, .a .u64 z2 4]] (.g [.a .u64 X 4, .a .u64 Y 4, .a .u64 Z 4]) := by
  refine PV.mk' Tryz.func78 rfl rfl rfl rfl fun w L hL hG => ?_
  refine S.enter Qm [.g [.a .u64 x1 4, .a .u64 y1 4, .a .u64 z1 4], .g [.a .u64 x2 4, .a .u64 y2 4, .a .u64 z2 4]] gT Tryz.func78 rfl rfl rfl (fun _ => rfl) hL hG ?_
  refine S.go false rfl (by repeat' (first | exact True.intro | refine And.intro ?_ ?_ | assumption | omega | (dsimp only; omega) | (simp only [Nat.add_eq, Nat.mul_eq, Nat.sub_eq, SV.wd]; omega) | exact rfl)) ?_
  refine S.cv rfl rfl rfl rfl rfl rfl h1 ?_
  refine S.go false rfl (by repeat' (first | exact True.intro | refine And.intro ?_ ?_ | assumption | omega | (dsimp only; omega) | (simp only [Nat.add_eq, Nat.mul_eq, Nat.sub_eq, SV.wd]; omega) | exact rfl)) ?_
  refine S.cv rfl rfl rfl rfl rfl rfl h2 ?_
  refine S.go false rfl (by repeat' (first | exact True.intro | refine And.intro ?_ ?_ | assumption | omega | (dsimp only; omega) | (simp only [Nat.add_eq, Nat.mul_eq, Nat.sub_eq, SV.wd]; omega) | exact rfl)) ?_
  refine S.cv rfl rfl rfl rfl rfl rfl h3 ?_
  refine S.go false rfl (by repeat' (first | exact True.intro | refine And.intro ?_ ?_ | assumption | omega | (dsimp only; omega) | (simp only [Nat.add_eq, Nat.mul_eq, Nat.sub_eq, SV.wd]; omega) | exact rfl)) ?_
  refine S.cv rfl rfl rfl rfl rfl rfl h4 ?_
  refine S.go false rfl (by repeat' (first | exact True.intro | refine And.intro ?_ ?_ | assumption | omega | (dsimp only; omega) | (simp only [Nat.add_eq, Nat.mul_eq, Nat.sub_eq, SV.wd]; omega) | exact rfl)) ?_
  refine S.drp false [(0, .a .u64 d 4), (3, .a .u64 uv 4), (4, .a .u64 t 4)] rfl rfl rfl ?_ (by repeat' (first | exact True.intro | refine And.intro ?_ ?_ | assumption | omega | (dsimp only; omega) | (simp only [Nat.add_eq, Nat.mul_eq, Nat.sub_eq, SV.wd]; omega) | exact rfl))
  refine S.go false rfl (by repeat' (first | exact True.intro | refine And.intro ?_ ?_ | assumption | omega | (dsimp only; omega) | (simp only [Nat.add_eq, Nat.mul_eq, Nat.sub_eq, SV.wd]; omega) | exact rfl)) ?_
  refine S.cv rfl rfl rfl rfl rfl rfl h8 ?_
  refine S.go false rfl (by repeat' (first | exact True.intro | refine And.intro ?_ ?_ | assumption | omega | (dsimp only; omega) | (simp only [Nat.add_eq, Nat.mul_eq, Nat.sub_eq, SV.wd]; omega) | exact rfl)) ?_
  refine S.cv rfl rfl rfl rfl rfl rfl h9 ?_
  refine S.go false rfl (by repeat' (first | exact True.intro | refine And.intro ?_ ?_ | assumption | omega | (dsimp only; omega) | (simp only [Nat.add_eq, Nat.mul_eq, Nat.sub_eq, SV.wd]; omega) | exact rfl)) ?_
  refine S.drp false [(4, .a .u64 m1 4), (9, .a .u64 m2 4), (10, .a .u64 cr 4)] rfl rfl rfl ?_ (by repeat' (first | exact True.intro | refine And.intro ?_ ?_ | assumption | omega | (dsimp only; omega) | (simp only [Nat.add_eq, Nat.mul_eq, Nat.sub_eq, SV.wd]; omega) | exact rfl))
  refine S.go false rfl (by repeat' (first | exact True.intro | refine And.intro ?_ ?_ | assumption | omega | (dsimp only; omega) | (simp only [Nat.add_eq, Nat.mul_eq, Nat.sub_eq, SV.wd]; omega) | exact rfl)) ?_
  refine S.cv rfl rfl rfl rfl rfl rfl h13 ?_
  refine S.go false rfl (by repeat' (first | exact True.intro | refine And.intro ?_ ?_ | assumption | omega | (dsimp only; omega) | (simp only [Nat.add_eq, Nat.mul_eq, Nat.sub_eq, SV.wd]; omega) | exact rfl)) ?_
  refine S.drp false [(2, .a .u64 af 4), (4, .a .u64 X 4), (7, .a .u64 ag 4), (9, .a .u64 Y 4), (12, .a .u64 Z 4)] rfl rfl rfl ?_ (by repeat' (first | exact True.intro | refine And.intro ?_ ?_ | assumption | omega | (dsimp only; omega) | (simp only [Nat.add_eq, Nat.mul_eq, Nat.sub_eq, SV.wd]; omega) | exact rfl))
  refine S.go false rfl (by repeat' (first | exact True.intro | refine And.intro ?_ ?_ | assumption | omega | (dsimp only; omega) | (simp only [Nat.add_eq, Nat.mul_eq, Nat.sub_eq, SV.wd]; omega) | exact rfl)) ?_
  exact S.retv rfl rfl rfl rfl rfl
theorem Qa3 (c e : FF × FF × FF) : PV Tryz.prog gT 78 [np c, np e] (np (V6 c e)) :=
  QiZ (Qa 4 _) (Qa 4 _) (Qa 4 _) (Qa 4 _) (Qa 4 _) (Qa 4 _) (Qa 4 _) (Qa 4 _) (Qa 4 _) (Qa 4 _) (Qa 4 _) (Qa 4 _) (Qa 4 _) (Qa 4 _) (Qa 4 _) (Qa 4 _) (Qa 4 _) (Qa 4 _) (Qa 4 _) (Qa 4 _) (Qa 4 _) (Qa 4 _) (Qa 4 _) (Qa 4 _) (XN _ _) (XN _ _) (XN _ _) (XN _ _) D_r (XN _ _) (XN _ _) (Ez _ _) (QbX _ _) (XN _ _) (XN _ _) (QbX _ _) (QbX _ _) (XN _ _) (XN _ _) (XN _ _) (XN _ _) (XN _ _)
theorem QiL : PV Tryz.prog gT 90 [] (np (0, 1, 1)) := by
  have h : PV Tryz.prog gT 90 [] (.g [.i .u64 0, .i .u64 0, .i .u64 0, .i .u64 0, .i .u64 1, .i .u64 0, .i .u64 0, .i .u64 0, .i .u64 1, .i .u64 0, .i .u64 0, .i .u64 0]) := by
    refine PV.mk' Tryz.func90 rfl rfl rfl rfl fun w L hL hG => ?_
    refine S.enter Qm [] gT Tryz.func90 rfl rfl rfl (fun _ => rfl) hL hG ?_
    refine S.go false rfl (by repeat' (first | exact True.intro | refine And.intro ?_ ?_ | assumption | omega | (dsimp only; omega) | (simp only [Nat.add_eq, Nat.mul_eq, Nat.sub_eq, SV.wd]; omega) | exact rfl)) ?_
    exact S.retv rfl rfl rfl rfl rfl
  have e0 : Qf 4 ((0 : FF).val : Int) = [0, 0, 0, 0] := by decide +kernel
  have e1 : Qf 4 ((1 : FF).val : Int) = [1, 0, 0, 0] := by decide +kernel
  refine h.res ?_ rfl
  unfold np
  simp only [e0, e1]
  rfl
theorem Qds {c : FF × FF × FF} {f k : Nat} (h : k % 2 = 0) : XO c (f + 1) k = V6 (XO c f (k / 2)) (XO c f (k / 2)) := by
  conv => lhs; unfold XO
  rw [h]
  rfl
theorem Qfc {c : FF × FF × FF} {f k : Nat} (h : k % 2 = 1) : XO c (f + 1) k = V6 (V6 (XO c f (k / 2)) (XO c f (k / 2))) c := by
  conv => lhs; unfold XO
  rw [h]
  rfl
theorem QlF {kb : List Int} (hb : Qe kb) {k : Nat} (hk : k < 256) : bits .and .u8 (kb.getD (Int.toNat ((255 - (k : Int)) / 8)) 0 / 2 ^ Int.toNat ((255 - (k : Int)) % 8)) 1 = ((kB kb / 2 ^ (255 - k) % 2 : Nat) : Int) := by
  have e1 : Int.toNat ((255 - (k : Int)) / 8) = (255 - k) / 8 := by omega
  have e2 : Int.toNat ((255 - (k : Int)) % 8) = (255 - k) % 8 := by omega
  rw [e1, e2, QE, <- QcQ hb (255 - k) (by omega)]
  exact Vu (VX (hb.at ((255 - k) / 8)) _)
def UQ (c : FF × FF × FF) (K k : Nat) : FF × FF × FF := XO c k (K / 2 ^ (256 - k))
theorem Qku (c : FF × FF × FF) (K : Nat) : UQ c K 0 = (0, 1, 1) := rfl
theorem Qhl (c : FF × FF × FF) (K : Nat) : XO c 256 K = UQ c K 256 := by unfold UQ; simp
theorem Qfd {c : FF × FF × FF} {K k : Nat} (hk : k < 256) (h : K / 2 ^ (255 - k) % 2 = 0) : UQ c K (k + 1) = V6 (UQ c K k) (UQ c K k) := by
  unfold UQ
  rw [show 256 - (k + 1) = 255 - k by omega, Qds h, Nat.div_div_eq_div_mul, <- Nat.pow_succ, show (255 - k).succ = 256 - k by omega]
theorem Qhk {c : FF × FF × FF} {K k : Nat} (hk : k < 256) (h : K / 2 ^ (255 - k) % 2 = 1) : UQ c K (k + 1) = V6 (V6 (UQ c K k) (UQ c K k)) c := by
  unfold UQ
  rw [show 256 - (k + 1) = 255 - k by omega, Qfc h, Nat.div_div_eq_div_mul, <- Nat.pow_succ, show (255 - k).succ = 256 - k by omega]
/-- The cells of a point. -/
def ncl (c : FF × FF × FF) : Cl := [.a .u64 (Qf 4 (c.1.val : Int)) 4, .a .u64 (Qf 4 (c.2.1.val : Int)) 4, .a .u64 (Qf 4 (c.2.2.val : Int)) 4]
attribute [local irreducible] UQ V6 XO Qf kB
set_option maxHeartbeats 400000 in
theorem Qfq {kb : List Int} (hb : Qe kb) (hl : kb.length = 32) (c : FF × FF × FF) : PV Tryz.prog gT 40 [.a .u8 kb 32, np c] (np (XO c 256 (kB kb))) := by
  have e0 := Qhl c (kB kb)
  have ez := Qku c (kB kb)
  have hZ := QiL
  rw [<- ez] at hZ
  rw [e0]
  have q1 := Qa 4 (c.1.val : Int); have q2 := Qa 4 (c.2.1.val : Int); have q3 := Qa 4 (c.2.2.val : Int)
  have p1 := Qa 4 ((UQ c (kB kb) 0).1.val : Int); have p2 := Qa 4 ((UQ c (kB kb) 0).2.1.val : Int); have p3 := Qa 4 ((UQ c (kB kb) 0).2.2.val : Int)
  refine PV.mk' Tryz.func40 rfl rfl rfl rfl fun w L hL hG => ?_
  refine S.enter Qm [.a .u8 kb 32, np c] gT Tryz.func40 rfl rfl rfl (fun _ => rfl) hL hG ?_
  refine S.go false rfl (by repeat' (first | exact True.intro | refine And.intro ?_ ?_ | assumption | omega | (dsimp only; omega) | (simp only [Nat.add_eq, Nat.mul_eq, Nat.sub_eq, SV.wd]; omega) | exact rfl)) ?_
  refine S.cv rfl rfl rfl rfl rfl rfl hZ ?_
  refine S.go false rfl (by repeat' (first | exact True.intro | refine And.intro ?_ ?_ | assumption | omega | (dsimp only; omega) | (simp only [Nat.add_eq, Nat.mul_eq, Nat.sub_eq, SV.wd]; omega) | exact rfl)) ?_
  refine S.loop [2, 3, 4, 5] (fun k : Nat => [(6, .i .i64 (255 - (k : Int)))]) (fun k => [(0, [.a .u8 kb 32]), (1, ncl c), (2, [.i .u64 0, .i .u64 0, .i .u64 0, .i .u64 0, .i .u64 0, .i .u64 0, .i .u64 0, .i .u64 0, .i .u64 0, .i .u64 0, .i .u64 0, .i .u64 0]), (3, ncl (UQ c (kB kb) k))]) (fun _ => []) (fun k => k <= 256) (fun k => 256 - k) 0 rfl (fun _ => rfl) (fun _ => rfl) rfl ⟨⟨rfl, rfl⟩, trivial⟩ (by repeat' (first | exact True.intro | refine And.intro ?_ ?_ | assumption | exact rfl)) (fun _ _ _ => trivial) (by omega) fun J k hk again => ?_
  have hk' : k <= 256 := hk
  have r1 := Qa 4 ((UQ c (kB kb) k).1.val : Int); have r2 := Qa 4 ((UQ c (kB kb) k).2.1.val : Int); have r3 := Qa 4 ((UQ c (kB kb) k).2.2.val : Int)
  have s1 := Qa 4 ((UQ c (kB kb) (k + 1)).1.val : Int); have s2 := Qa 4 ((UQ c (kB kb) (k + 1)).2.1.val : Int); have s3 := Qa 4 ((UQ c (kB kb) (k + 1)).2.2.val : Int)
  refine S.g false rfl ?_
  refine S.cond rfl (fun c5 => ?_) (fun c5 => ?_)
  . have c' : k < 256 := by omega
    have hbe := QlF hb c'
    have hP := Qa3 (UQ c (kB kb) k) (UQ c (kB kb) k)
    have t1 := Qa 4 ((V6 (UQ c (kB kb) k) (UQ c (kB kb) k)).1.val : Int); have t2 := Qa 4 ((V6 (UQ c (kB kb) k) (UQ c (kB kb) k)).2.1.val : Int); have t3 := Qa 4 ((V6 (UQ c (kB kb) k) (UQ c (kB kb) k)).2.2.val : Int)
    refine S.go false rfl (by repeat' (first | exact True.intro | refine And.intro ?_ ?_ | assumption | omega | (dsimp only; omega) | (simp only [Nat.add_eq, Nat.mul_eq, Nat.sub_eq, SV.wd]; omega) | exact rfl)) ?_
    refine S.cv rfl rfl rfl rfl rfl rfl hP ?_
    refine S.go false rfl (by repeat' (first | exact True.intro | refine And.intro ?_ ?_ | assumption | omega | (dsimp only; omega) | (simp only [Nat.add_eq, Nat.mul_eq, Nat.sub_eq, SV.wd]; omega) | exact rfl)) ?_
    refine S.cond rfl (fun c2 => ?_) (fun c2 => ?_)
    . rw [hbe] at c2
      have et := Qhk (c := c) c' (by omega : kB kb / 2 ^ (255 - k) % 2 = 1)
      have hQ := Qa3 (V6 (UQ c (kB kb) k) (UQ c (kB kb) k)) c
      rw [<- et] at hQ
      refine S.go false rfl (by repeat' (first | exact True.intro | refine And.intro ?_ ?_ | assumption | omega | (dsimp only; omega) | (simp only [Nat.add_eq, Nat.mul_eq, Nat.sub_eq, SV.wd]; omega) | exact rfl)) ?_
      refine S.cv rfl rfl rfl rfl rfl rfl hQ ?_
      refine S.go false rfl (by repeat' (first | exact True.intro | refine And.intro ?_ ?_ | assumption | omega | (dsimp only; omega) | (simp only [Nat.add_eq, Nat.mul_eq, Nat.sub_eq, SV.wd]; omega) | exact rfl)) ?_
      refine S.again (again (k + 1) (show k + 1 <= 256 by omega) (show 256 - (k + 1) < 256 - k by omega)) ⟨⟨rfl, by omega⟩, rfl, rfl, rfl, rfl, trivial⟩ ?_ rfl rfl (fun x hx => hx) rfl (fun ρ W h => h.hs)
      repeat' (first | exact True.intro | refine And.intro ?_ ?_ | assumption | exact rfl)
    . rw [hbe] at c2
      have et := Qfd (c := c) c' (by omega : kB kb / 2 ^ (255 - k) % 2 = 0)
      refine S.go false rfl (by repeat' (first | exact True.intro | refine And.intro ?_ ?_ | assumption | omega | (dsimp only; omega) | (simp only [Nat.add_eq, Nat.mul_eq, Nat.sub_eq, SV.wd]; omega) | exact rfl)) ?_
      refine S.again (again (k + 1) (show k + 1 <= 256 by omega) (show 256 - (k + 1) < 256 - k by omega)) ⟨⟨rfl, by omega⟩, rfl, rfl, rfl, rfl, trivial⟩ ?_ rfl rfl (fun x hx => hx) rfl (fun ρ W h => h.hs)
      rw [et] at s1 s2 s3
      rw [et]
      repeat' (first | exact True.intro | refine And.intro ?_ ?_ | assumption | exact rfl)
  . obtain rfl : k = 256 := by omega
    refine S.go false rfl (by repeat' (first | exact True.intro | refine And.intro ?_ ?_ | assumption | omega | (dsimp only; omega) | (simp only [Nat.add_eq, Nat.mul_eq, Nat.sub_eq, SV.wd]; omega) | exact rfl)) ?_
    exact S.retv rfl rfl rfl rfl rfl
end Go.Proofs.YtbiboamaigedjaaGreatDoor
