/- Package scalar, walked by the machine of symbols: what is left, products, the package's functions. Package scalar, walked by the machine of symbols: R -/
import Derived.Test.YtbiboamaigedjaaGreatDoorESC
namespace Go.Proofs.YtbiboamaigedjaaGreatDoor
open Go.RowKit
set_option linter.unusedVariables false
set_option linter.unusedSimpArgs false
set_option maxRecDepth 8000
set_option maxHeartbeats 2000000

def rdW (xs : List Int) (k : Nat) : List Int := Qn 4 (Qo xs 8 / 2 ^ (512 - k) % QA)
theorem Hr (xs : List Int) (k : Nat) : (rdW xs k).length = 4 := Qc _ _
theorem JP (xs : List Int) (k : Nat) : QC (rdW xs k) := QH _ _
theorem Qi2 (xs : List Int) (k : Nat) : Qo (rdW xs k) 4 = Qo xs 8 / 2 ^ (512 - k) % QA := by
  have h : 0 <= Qo xs 8 / 2 ^ (512 - k) % QA /\ Qo xs 8 / 2 ^ (512 - k) % QA < 2 ^ 256 := by unfold QA; omega
  exact XB h.1 h.2
theorem QgB {xs : List Int} (hx : QC xs) : rdW xs 0 = [0, 0, 0, 0] := by
  have h8 := ZL xs hx 8
  unfold rdW
  rw [Nat.sub_zero, Int.ediv_eq_zero_of_lt h8.1 h8.2]
  decide +kernel
theorem QgC {xs : List Int} (hx : QC xs) {k : Nat} (hk : k < 512) : FV (Hj (rdW xs k) (F2 xs (511 - k))) = rdW xs (k + 1) := by
  have hb := F1 xs (511 - k)
  have hd := Ky (rdW xs k) (JP xs k) _ hb
  exact JR (Qdc hd) (QbO rfl) (QgA xs hx (rdW xs k) (JP xs k) 8 k (by omega) (Qi2 xs k))
theorem Qnt {xs : List Int} (hx : QC xs) {k : Nat} (hk : k < 512) : bits .and .u64 (xs.getD (Int.toNat ((511 - (k : Int)) / 64)) 0 / 2 ^ Int.toNat ((511 - (k : Int)) % 64)) 1 = F2 xs (511 - k) := by
  have e1 : Int.toNat ((511 - (k : Int)) / 64) = (511 - k) / 64 := by omega
  have e2 : Int.toNat ((511 - (k : Int)) % 64) = (511 - k) % 64 := by omega
  rw [e1, e2, QJ]
  have hx64 := hx.at ((511 - k) / 64)
  have h0 : 0 <= Qb xs ((511 - k) / 64) / 2 ^ ((511 - k) % 64) := Int.ediv_nonneg hx64.1 (Int.le_of_lt (Xq _))
  have h1 : Qb xs ((511 - k) / 64) / 2 ^ ((511 - k) % 64) <= Qb xs ((511 - k) / 64) := Int.ediv_le_self _ hx64.1
  exact Y8 _ 1 1 rfl (by omega) h0 (by omega)
set_option maxHeartbeats 1000000 in
theorem EB {xs : List Int} (hx : QC xs) (hl : xs.length = 8) : PV Tryz.prog gT 42 [.a .u64 xs 8] (.a .u64 (Qn 4 (Qo xs 8 % QA)) 4) := by
  have e : Qn 4 (Qo xs 8 % QA) = rdW xs 512 := by unfold rdW; simp
  rw [e]
  refine PV.mk' Tryz.func42 rfl rfl rfl rfl fun w L hL hG => ?_
  refine S.enter Qw [.a .u64 xs 8] gT Tryz.func42 rfl rfl rfl (fun _ => rfl) hL hG ?_
  refine S.go false rfl (by repeat' (first | exact True.intro | refine And.intro ?_ ?_ | assumption | omega | (dsimp only; omega) | (simp only [Nat.add_eq, Nat.mul_eq, Nat.sub_eq, SV.wd]; omega) | exact rfl)) ?_
  refine S.recell 2 [.a .u64 (rdW xs 0) 4] rfl (fun ρ => by rw [QgB hx]; rfl) ⟨Hr xs 0, trivial⟩ rfl ?_
  refine S.loop [1, 2, 3] (fun k : Nat => [(6, .i .i64 (k : Int))]) (fun k => [(0, [.a .u64 xs 8]), (1, [.i .u64 0, .i .u64 0, .i .u64 0, .i .u64 0]), (2, [.a .u64 (rdW xs k) 4])]) (fun _ => []) (fun k => k <= 512) (fun k => 512 - k) 0 rfl (fun _ => rfl) (fun _ => rfl) rfl ⟨⟨rfl, rfl⟩, trivial⟩ (by repeat' (first | exact True.intro | refine And.intro ?_ ?_ | exact Hr xs 0 | assumption | exact rfl)) (fun _ _ _ => trivial) (by omega) fun J k hk again => ?_
  have hk' : k <= 512 := hk
  have hlen := Hr xs k
  have hlen' := Hr xs (k + 1)
  refine S.g false rfl ?_
  refine S.cond rfl (fun c => ?_) (fun c => ?_)
  . have c' : k < 512 := by omega
    have hb := F1 xs (511 - k)
    have hbe := Qnt hx c'
    have h1 := (QfC (JP xs k) hlen hb)
    have h2 := QmJ (Ky (rdW xs k) (JP xs k) _ hb) rfl
    rw [QgC hx c'] at h2
    rw [<- hbe] at h1
    have hdl : (Hj (rdW xs k) (F2 xs (511 - k))).length = 4 := rfl
    rw [hbe] at h1
    generalize Hj (rdW xs k) (F2 xs (511 - k)) = ds at *
    rw [<- hbe] at h1
    refine S.g false rfl ?_
    refine S.drp false [(9, .a .u64 ds 4), (10, .a .u64 (rdW xs (k + 1)) 4)] rfl rfl rfl ?_ (by repeat' (first | exact True.intro | refine And.intro ?_ ?_ | assumption | omega | (dsimp only; omega) | (simp only [Nat.add_eq, Nat.mul_eq, Nat.sub_eq, SV.wd]; omega) | exact rfl))
    refine S.g false rfl ?_
    refine S.again (again (k + 1) (show k + 1 <= 512 by omega) (show 512 - (k + 1) < 512 - k by omega)) ⟨⟨rfl, by omega⟩, rfl, rfl, rfl, trivial⟩ ?_ rfl rfl (fun x hx => hx) rfl (fun ρ W h => h.hs)
    repeat' (first | exact True.intro | refine And.intro ?_ ?_ | assumption | exact rfl)
  . obtain rfl : k = 512 := by omega
    refine S.go false rfl (by repeat' (first | exact True.intro | refine And.intro ?_ ?_ | assumption | omega | (dsimp only; omega) | (simp only [Nat.add_eq, Nat.mul_eq, Nat.sub_eq, SV.wd]; omega) | exact rfl)) ?_
    exact S.retv rfl rfl rfl rfl rfl
structure TSt where
  k : Nat
  p : List Int
structure TIn where
  j : Nat
  p : List Int
  c : Int
/-- One product among words, and what is carried. -/
theorem Qms {x y p c : Int} (hx : 0 <= x /\ x < 18446744073709551616) (hy : 0 <= y /\ y < 18446744073709551616) (hp : 0 <= p /\ p < 18446744073709551616) (hc : 0 <= c /\ c < 18446744073709551616) :
    (0 <= x * y / 18446744073709551616 /\ x * y / 18446744073709551616 < 18446744073709551616) /\ (0 <= x * y % 18446744073709551616 /\ x * y % 18446744073709551616 < 18446744073709551616) /\ (0 <= x * y / 18446744073709551616 + (x * y % 18446744073709551616 + p + 0) / 18446744073709551616 /\ x * y / 18446744073709551616 + (x * y % 18446744073709551616 + p + 0) / 18446744073709551616 < 18446744073709551616) /\ (0 <= x * y / 18446744073709551616 + (x * y % 18446744073709551616 + p + 0) / 18446744073709551616 + ((x * y % 18446744073709551616 + p + 0) % 18446744073709551616 + c + 0) / 18446744073709551616 /\ x * y / 18446744073709551616 + (x * y % 18446744073709551616 + p + 0) / 18446744073709551616 + ((x * y % 18446744073709551616 + p + 0) % 18446744073709551616 + c + 0) / 18446744073709551616 < 18446744073709551616) /\ ((x * y % 18446744073709551616 + p + 0) % 18446744073709551616 + c + 0) % 18446744073709551616 + (x * y / 18446744073709551616 + (x * y % 18446744073709551616 + p + 0) / 18446744073709551616 + ((x * y % 18446744073709551616 + p + 0) % 18446744073709551616 + c + 0) / 18446744073709551616) * 18446744073709551616 = x * y + p + c := by
  have hm := EL (p := p) (c := c) hx hy
  generalize x * y = m at *
  omega
set_option maxHeartbeats 4000000 in
theorem QiE {xs ys cs : List Int} (hx : QC xs) (hy : QC ys) (hc : QC cs) (hxl : xs.length = 4) (hyl : ys.length = 4) (hcl : cs.length = 4) : PV Tryz.prog gT 53 [.a .u64 xs 4, .a .u64 ys 4, .a .u64 cs 4] (.a .u64 (Qn 8 (Qo cs 4 + Qo xs 4 * Qo ys 4)) 8) := by
  refine PV.mk' Tryz.func53 rfl rfl rfl rfl fun w L hL hG => ?_
  refine S.enter Qw [.a .u64 xs 4, .a .u64 ys 4, .a .u64 cs 4] gT Tryz.func53 rfl rfl rfl (fun _ => rfl) hL hG ?_
  refine S.go false rfl (by repeat' (first | exact True.intro | refine And.intro ?_ ?_ | assumption | omega | (dsimp only; omega) | (simp only [Nat.add_eq, Nat.mul_eq, Nat.sub_eq, SV.wd]; omega) | exact rfl)) ?_
  refine S.recell 4 [.a .u64 (List.replicate 8 0) 8] rfl (fun ρ => rfl) ⟨rfl, trivial⟩ rfl ?_
  refine S.dr0 false rfl rfl rfl ?_ (by repeat' (first | exact True.intro | refine And.intro ?_ ?_ | exact rfl | decide))
  have hpl : (cs ++ [0, 0, 0, 0]).length = 8 := by simp [hcl]
  refine S.recell 4 [.a .u64 (cs ++ [0, 0, 0, 0]) 8] rfl (fun ρ => congrArg (fun z => Qp ρ [SV.a .u64 z 8]) (by
    show (List.take 0 _ ++ (List.take (Nat.min 4 8) (List.drop 0 cs) ++ List.drop (Nat.add 0 (Nat.min 4 8)) (List.replicate 8 (0 : Int)))) = _
    rw [List.drop_zero, List.take_zero, show Nat.min 4 8 = 4 from rfl, List.take_of_length_le (by omega)]
    rfl)) ⟨hpl, trivial⟩ rfl ?_
  refine S.g false rfl ?_
  refine S.loop [3, 4, 5, 6, 7] (fun s : TSt => [(18, .i .i64 (s.k : Int))]) (fun s => [(0, [.a .u64 xs 4]), (1, [.a .u64 ys 4]), (2, [.a .u64 cs 4]), (3, [.i .u64 0, .i .u64 0, .i .u64 0, .i .u64 0, .i .u64 0, .i .u64 0, .i .u64 0, .i .u64 0]), (4, [.a .u64 s.p 8])]) (fun _ => []) (fun s => s.k <= 4 /\ QC s.p /\ s.p.length = 8 /\ Qo s.p 8 = Qo cs 4 + Qo xs s.k * Qo ys 4) (fun s => 4 - s.k) ⟨0, cs ++ [0, 0, 0, 0]⟩ rfl (fun _ => rfl) (fun _ => rfl) rfl ⟨⟨rfl, rfl⟩, trivial⟩ (by repeat' (first | exact True.intro | refine And.intro ?_ ?_ | assumption | exact rfl)) (fun _ _ _ => trivial) ⟨by show (0 : Nat) <= 4; omega, Qe9 hc, hpl, by rw [QfZ cs hcl]; simp [Qo]⟩ fun J s hs again => ?_
  obtain ⟨k, ps⟩ := s
  obtain ⟨hk, hpw, hpl2, hpv⟩ := hs
  simp only at hk hpw hpl2 hpv
  dsimp only
  refine S.g false rfl ?_
  refine S.cond rfl (fun c => ?_) (fun c => ?_)
  . have ck : k < 4 := by omega
    refine S.g false rfl ?_
    refine S.loop [3, 4, 5, 6, 7, 8, 18] (fun s : TIn => [(9, .i .u64 s.c), (21, .i .i64 (s.j : Int))]) (fun s => [(0, [.a .u64 xs 4]), (1, [.a .u64 ys 4]), (2, [.a .u64 cs 4]), (3, [.i .u64 0, .i .u64 0, .i .u64 0, .i .u64 0, .i .u64 0, .i .u64 0, .i .u64 0, .i .u64 0]), (4, [.a .u64 s.p 8])]) (fun _ => []) (fun s => s.j <= 4 /\ QC s.p /\ s.p.length = 8 /\ (0 <= s.c /\ s.c < 18446744073709551616) /\ Qo s.p 8 + s.c * 2 ^ (64 * (k + s.j)) = (Qo cs 4 + Qo xs k * Qo ys 4) + Qb xs k * Qo ys s.j * 2 ^ (64 * k)) (fun s => 4 - s.j) ⟨0, ps, 0⟩ rfl (fun _ => rfl) (fun _ => rfl) rfl ⟨⟨rfl, rfl⟩, ⟨rfl, rfl⟩, trivial⟩ (by repeat' (first | exact True.intro | refine And.intro ?_ ?_ | assumption | exact rfl)) (fun _ _ _ => trivial) ⟨by show (0 : Nat) <= 4; omega, hpw, hpl2, ⟨by show (0 : Int) <= 0; omega, by show (0 : Int) < 18446744073709551616; omega⟩, by rw [hpv]; simp [Qo]⟩ fun J2 s2 hs2 again2 => ?_
    obtain ⟨j, qs, e⟩ := s2
    obtain ⟨hj, hqw, hql, he, hqv⟩ := hs2
    simp only at hj hqw hql he hqv
    dsimp only
    refine S.g false rfl ?_
    refine S.cond rfl (fun c2 => ?_) (fun c2 => ?_)
    . have cj : j < 4 := by omega
      have e1 : xs.getD (Int.toNat (k : Int)) 0 = Qb xs k := by rw [Int.toNat_natCast, QJ]
      have e2 : ys.getD (Int.toNat (j : Int)) 0 = Qb ys j := by rw [Int.toNat_natCast, QJ]
      have e4 : Int.toNat ((k : Int) + (j : Int)) = k + j := by omega
      have e3 : qs.getD (Int.toNat ((k : Int) + (j : Int))) 0 = Qb qs (k + j) := by rw [e4, QJ]
      have hxk : 0 <= xs.getD (Int.toNat (k : Int)) 0 /\ xs.getD (Int.toNat (k : Int)) 0 < 18446744073709551616 := by rw [e1]; exact hx.at k
      have hyj : 0 <= ys.getD (Int.toNat (j : Int)) 0 /\ ys.getD (Int.toNat (j : Int)) 0 < 18446744073709551616 := by rw [e2]; exact hy.at j
      have hqj : 0 <= qs.getD (Int.toNat ((k : Int) + (j : Int))) 0 /\ qs.getD (Int.toNat ((k : Int) + (j : Int))) 0 < 18446744073709551616 := by rw [e3]; exact hqw.at (k + j)
      obtain ⟨m1, m2, m3, m4, m5⟩ := Qms hxk hyj hqj he
      have hM := Hx _ _ hxk hyj
      have hstep := QaT qs xs ys k j _ e _ _ hql ck cj hqv (by rw [<- e1, <- e2, <- e3]; exact m5)
      generalize xs.getD (Int.toNat (k : Int)) 0 * ys.getD (Int.toNat (j : Int)) 0 / 18446744073709551616 = mh at *
      generalize xs.getD (Int.toNat (k : Int)) 0 * ys.getD (Int.toNat (j : Int)) 0 % 18446744073709551616 = ml at *
      refine S.g false rfl ?_
      refine S.drp (G := gT) false [(6, .t [.i .u64 mh, .i .u64 ml])] rfl rfl rfl ?_ (by repeat' (first | exact True.intro | refine And.intro ?_ ?_ | assumption | omega | (dsimp only; omega) | (simp only [Nat.add_eq, Nat.mul_eq, Nat.sub_eq, SV.wd]; omega) | exact rfl))
      refine S.g false rfl ?_
      refine S.ext rfl rfl rfl rfl rfl rfl rfl (Vd _ _ _ (by omega) hqj.1 (by omega) (by omega)) rfl ?_
      generalize qs.getD (Int.toNat ((k : Int) + (j : Int))) 0 = q at *
      generalize hl1 : (ml + q + 0) % 18446744073709551616 = l1 at *
      generalize ho1 : (ml + q + 0) / 18446744073709551616 = o1 at *
      refine S.go false rfl (by repeat' (first | exact True.intro | refine And.intro ?_ ?_ | assumption | omega | (dsimp only; omega) | (simp only [Nat.add_eq, Nat.mul_eq, Nat.sub_eq, SV.wd]; omega) | exact rfl)) ?_
      refine S.ext rfl rfl rfl rfl rfl rfl rfl (Vd _ _ _ (by omega) he.1 (by omega) (by omega)) rfl ?_
      have hl2 : 0 <= (l1 + e + 0) % 18446744073709551616 /\ (l1 + e + 0) % 18446744073709551616 < 18446744073709551616 := by omega
      generalize hl2e : (l1 + e + 0) % 18446744073709551616 = l2 at *
      generalize ho2 : (l1 + e + 0) / 18446744073709551616 = o2 at *
      refine S.go false rfl (by repeat' (first | exact True.intro | refine And.intro ?_ ?_ | omega | (dsimp only; omega) | (simp only [Nat.add_eq, Nat.mul_eq, Nat.sub_eq, SV.wd]; omega) | exact rfl)) ?_
      have hsl : (qs.set (Int.toNat ((k : Int) + (j : Int))) l2).length = 8 := by rw [List.length_set]; exact hql
      refine S.again (again2 ⟨j + 1, qs.set (k + j) l2, mh + o1 + o2⟩ ⟨by show j + 1 <= 4; omega, hqw.set _ hl2, by simp [hql], m4, hstep⟩ (show 4 - (j + 1) < 4 - j by omega)) ⟨⟨rfl, rfl⟩, ⟨rfl, by simp only; omega⟩, rfl, rfl, rfl, rfl, rfl, ⟨rfl, rfl⟩, ⟨rfl, rfl⟩, trivial⟩ ?_ rfl rfl (fun x hx => hx) rfl (fun ρ W h => h.hs)
      repeat' (first | exact True.intro | refine And.intro ?_ ?_ | assumption | exact congrArg (fun z => SV.a .u64 (qs.set z l2) 8) e4 | (show (qs.set (k + j) l2).length = 8; simp only [List.length_set]; exact hql) | exact rfl)
    . obtain rfl : j = 4 := by omega
      refine S.g false rfl ?_
      refine S.loop [3, 4, 5, 6, 7, 18] (fun s : TIn => [(9, .i .u64 s.c), (14, .i .i64 (s.j : Int))]) (fun s => [(0, [.a .u64 xs 4]), (1, [.a .u64 ys 4]), (2, [.a .u64 cs 4]), (3, [.i .u64 0, .i .u64 0, .i .u64 0, .i .u64 0, .i .u64 0, .i .u64 0, .i .u64 0, .i .u64 0]), (4, [.a .u64 s.p 8])]) (fun _ => []) (fun s => s.j <= 8 /\ k + 4 <= s.j /\ QC s.p /\ s.p.length = 8 /\ (0 <= s.c /\ s.c < 18446744073709551616) /\ Qo s.p 8 + s.c * 2 ^ (64 * s.j) = (Qo cs 4 + Qo xs k * Qo ys 4) + Qb xs k * Qo ys 4 * 2 ^ (64 * k)) (fun s => 8 - s.j) ⟨k + 4, qs, e⟩ rfl (fun _ => rfl) (fun _ => rfl) rfl ⟨⟨rfl, rfl⟩, ⟨rfl, by simp only; omega⟩, trivial⟩ (by repeat' (first | exact True.intro | refine And.intro ?_ ?_ | assumption | exact rfl)) (fun _ _ _ => trivial) ⟨by show k + 4 <= 8; omega, by show k + 4 <= k + 4; omega, hqw, hql, he, hqv⟩ fun J3 s3 hs3 again3 => ?_
      obtain ⟨t, us, g⟩ := s3
      obtain ⟨ht, ht4, huw, hul, hg, huv⟩ := hs3
      simp only at ht ht4 huw hul hg huv
      dsimp only
      refine S.g false rfl ?_
      refine S.cond rfl (fun c3 => ?_) (fun c3 => ?_)
      . have c3' : t < 8 := by omega
        have e5 : us.getD (Int.toNat (t : Int)) 0 = Qb us t := by rw [Int.toNat_natCast, QJ]
        have hut : 0 <= us.getD (Int.toNat (t : Int)) 0 /\ us.getD (Int.toNat (t : Int)) 0 < 18446744073709551616 := by rw [e5]; exact huw.at t
        have hst := Eu us t _ g ((us.getD (Int.toNat (t : Int)) 0 + g + 0) % 18446744073709551616) ((us.getD (Int.toNat (t : Int)) 0 + g + 0) / 18446744073709551616) hul c3' huv (by rw [<- e5]; omega)
        refine S.go false rfl (by repeat' (first | exact True.intro | refine And.intro ?_ ?_ | assumption | omega | (dsimp only; omega) | (simp only [Nat.add_eq, Nat.mul_eq, Nat.sub_eq, SV.wd]; omega) | exact rfl)) ?_
        refine S.ext rfl rfl rfl rfl rfl rfl rfl (Vd _ _ _ hut.1 hg.1 (by omega) (by omega)) rfl ?_
        generalize us.getD (Int.toNat (t : Int)) 0 = u at *
        have hl2 : 0 <= (u + g + 0) % 18446744073709551616 /\ (u + g + 0) % 18446744073709551616 < 18446744073709551616 := by omega
        have hc2 : 0 <= (u + g + 0) / 18446744073709551616 /\ (u + g + 0) / 18446744073709551616 < 18446744073709551616 := by omega
        generalize (u + g + 0) % 18446744073709551616 = l2 at *
        generalize (u + g + 0) / 18446744073709551616 = o2 at *
        refine S.go false rfl (by repeat' (first | exact True.intro | refine And.intro ?_ ?_ | omega | (dsimp only; omega) | (simp only [Nat.add_eq, Nat.mul_eq, Nat.sub_eq, SV.wd]; omega) | exact rfl)) ?_
        refine S.again (again3 ⟨t + 1, us.set t l2, o2⟩ ⟨by show t + 1 <= 8; omega, by show k + 4 <= t + 1; omega, huw.set _ hl2, by simp [hul], hc2, hst⟩ (show 8 - (t + 1) < 8 - t by omega)) ⟨⟨rfl, rfl⟩, ⟨rfl, by simp only; omega⟩, rfl, rfl, rfl, rfl, rfl, ⟨rfl, rfl⟩, trivial⟩ ?_ rfl rfl (fun x hx => hx) rfl (fun ρ W h => h.hs)
        repeat' (first | exact True.intro | refine And.intro ?_ ?_ | assumption | exact congrArg (fun z => SV.a .u64 (us.set z l2) 8) (Int.toNat_natCast t) | (show (us.set t l2).length = 8; simp only [List.length_set]; exact hul) | exact rfl)
      . obtain rfl : t = 8 := by omega
        have hend := QiX us xs ys cs hx hy hc huw k ck g hg.1 huv
        refine S.g false rfl ?_
        refine S.again (again ⟨k + 1, us⟩ ⟨by show k + 1 <= 4; omega, huw, hul, hend⟩ (show 4 - (k + 1) < 4 - k by omega)) ⟨⟨rfl, by simp only; omega⟩, rfl, rfl, rfl, rfl, rfl, trivial⟩ ?_ rfl rfl (fun x hx => hx) rfl (fun ρ W h => h.hs)
        repeat' (first | exact True.intro | refine And.intro ?_ ?_ | assumption | exact rfl)
  . obtain rfl : k = 4 := by omega
    refine S.go false rfl (by repeat' (first | exact True.intro | refine And.intro ?_ ?_ | assumption | omega | (dsimp only; omega) | (simp only [Nat.add_eq, Nat.mul_eq, Nat.sub_eq, SV.wd]; omega) | exact rfl)) ?_
    have hp8 := Gc ps hpw 8 hpl2
    rw [hpv] at hp8
    rw [<- hp8]
    exact S.retv rfl rfl rfl rfl rfl
theorem QiZ {za : List Int} (hb : Qh za) (hl : za.length = 32) : PV Tryz.prog gT 26 [.a .u8 za 32] (.c (Qq za 32 < QA) inferInstance) := by
  have hv := YT za hb
  have h1 := DF hb hl
  have h2 := QdS
  have h3 := Qhr (QH 4 (Qq za 32)) YJ (Qc _ _) rfl
  have hb := HH (Qn 4 (Qq za 32)) Uv (QH _ _) YJ 4
  rw [XB hv.1 hv.2, Ep] at hb
  have hnl := Qc 4 (Qq za 32)
  have hsl : (Vs (Qn 4 (Qq za 32)) Uv 4).length = 4 := by simp [Vs]
  have key : ∀ b : Int, (b = if Qq za 32 < QA then 1 else 0) -> ((SV.c (b = 1) inferInstance).den QR = (SV.c (Qq za 32 < QA) inferInstance).den QR) := fun b hb => by
    simp only [SV.den]
    rw [hb]
    split <;> simp_all
  have hk := key _ hb
  clear hb key
  generalize KB (Qn 4 (Qq za 32)) Uv 4 = b at *
  generalize Vs (Qn 4 (Qq za 32)) Uv 4 = ds at *
  generalize Qn 4 (Qq za 32) = ns at *
  refine PV.res (v := .c (b = 1) inferInstance) (PV.mk' Tryz.func26 rfl rfl rfl rfl fun w L hL hG => ?_) hk rfl
  refine S.enter Qw [.a .u8 za 32] gT Tryz.func26 rfl rfl rfl (fun _ => rfl) hL hG ?_
  refine S.go false rfl (by repeat' (first | exact True.intro | refine And.intro ?_ ?_ | assumption | omega | (dsimp only; omega) | (simp only [Nat.add_eq, Nat.mul_eq, Nat.sub_eq, SV.wd]; omega) | exact rfl)) ?_
  refine S.cv rfl rfl rfl rfl rfl rfl h1 ?_
  refine S.g false rfl ?_
  refine S.cv rfl rfl rfl rfl rfl rfl h2 ?_
  refine S.g false rfl ?_
  refine S.cv rfl rfl rfl rfl rfl rfl h3 ?_
  refine S.go false rfl (by repeat' (first | exact True.intro | refine And.intro ?_ ?_ | assumption | omega | (dsimp only; omega) | (simp only [Nat.add_eq, Nat.mul_eq, Nat.sub_eq, SV.wd]; omega) | exact rfl)) ?_
  exact S.retv rfl rfl rfl rfl rfl
set_option maxHeartbeats 1000000 in
theorem QaV {za : List Int} (hb : Qh za) (hl : za.length = 64) : PV Tryz.prog gT 18 [.a .u8 za 64] (.a .u8 (Xf (Qq za 64 % QA)) 32) := by
  have h64 := QiB za hb
  have h1 := EB (QH 8 (Qq za 64)) (Qc _ _)
  have e64 : (2 : Int) ^ (64 * 8) = 2 ^ 256 * 2 ^ 256 := by rw [<- Int.pow_add]
  have h642 : Qq za 64 < 2 ^ (64 * 8) := by rw [e64]; exact h64.2
  rw [Gz 8 _ h64.1, Int.emod_eq_of_lt h64.1 h642] at h1
  rw [<- QdY za hb 8, <- Qd2 za 8] at h1
  have h2 := Qeu (Qq za 64 % QA)
  have hbl := QP (Qq za 64 % QA)
  have hnl := Qc 4 (Qq za 64 % QA)
  generalize Qn 4 (Qq za 64 % QA) = ns at *
  generalize Xf (Qq za 64 % QA) = bs at *
  refine PV.mk' Tryz.func18 rfl rfl rfl rfl fun w L hL hG => ?_
  refine S.enter Qw [.a .u8 za 64] gT Tryz.func18 rfl rfl rfl (fun _ => rfl) hL hG ?_
  refine S.go false rfl (by repeat' (first | exact True.intro | refine And.intro ?_ ?_ | assumption | omega | (dsimp only; omega) | (simp only [Nat.add_eq, Nat.mul_eq, Nat.sub_eq, SV.wd]; omega) | exact rfl)) ?_
  refine S.recell 2 [.a .u64 (ldW za 8 0) 8] rfl (fun ρ => by rw [Qbv]; rfl) ⟨V1 za 8 0, trivial⟩ rfl ?_
  refine S.loop [2, 3, 6] (fun k : Nat => [(7, .i .i64 (k : Int))]) (fun k => [(1, [.a .u8 (List.replicate 32 0) 32]), (2, [.a .u64 (ldW za 8 k) 8])]) (fun _ => []) (fun k => k <= 64) (fun k => 64 - k) 0 rfl (fun _ => rfl) (fun _ => rfl) rfl ⟨⟨rfl, rfl⟩, trivial⟩ (by repeat' (first | exact True.intro | refine And.intro ?_ ?_ | exact V1 za 8 0 | exact rfl)) (fun _ _ _ => trivial) (by omega) fun J k hk again => ?_
  have hk' : k <= 64 := hk
  have hlen := V1 za 8 k
  have hlen' := V1 za 8 (k + 1)
  refine S.g false rfl ?_
  refine S.cond rfl (fun c => ?_) (fun c => ?_)
  . have c' : k < 64 := by omega
    have hr := QaU hb (Int.toNat (k : Int))
    refine S.go false rfl (by repeat' (first | exact True.intro | refine And.intro ?_ ?_ | assumption | omega | (dsimp only; omega) | (simp only [Nat.add_eq, Nat.mul_eq, Nat.sub_eq, SV.wd]; omega) | exact rfl)) ?_
    refine S.dr0 false rfl rfl rfl ?_ (by repeat' (first | exact True.intro | refine And.intro ?_ ?_ | assumption | omega | (dsimp only; omega) | (simp only [Nat.add_eq, Nat.mul_eq, Nat.sub_eq, SV.wd]; omega) | exact rfl))
    refine S.g false rfl ?_
    refine S.again (again (k + 1) (show k + 1 <= 64 by omega) (show 64 - (k + 1) < 64 - k by omega)) ⟨⟨rfl, by omega⟩, rfl, rfl, rfl, trivial⟩ ?_ rfl rfl (fun x hx => hx) rfl (fun ρ W h => h.hs)
    repeat' (first | exact True.intro | refine And.intro ?_ ?_ | exact congrArg (fun z => SV.a .u64 z 8) (Qbw hb (n := 8) (by omega)) | assumption | exact rfl)
  . obtain rfl : k = 64 := by omega
    refine S.go false rfl (by repeat' (first | exact True.intro | refine And.intro ?_ ?_ | assumption | omega | (dsimp only; omega) | (simp only [Nat.add_eq, Nat.mul_eq, Nat.sub_eq, SV.wd]; omega) | exact rfl)) ?_
    refine S.cv rfl rfl rfl rfl rfl rfl h1 ?_
    refine S.g false rfl ?_
    refine S.cv rfl rfl rfl rfl rfl rfl h2 ?_
    refine S.go false rfl (by repeat' (first | exact True.intro | refine And.intro ?_ ?_ | assumption | omega | (dsimp only; omega) | (simp only [Nat.add_eq, Nat.mul_eq, Nat.sub_eq, SV.wd]; omega) | exact rfl)) ?_
    exact S.retv rfl rfl rfl rfl rfl
theorem Qhd {xb yb cb : List Int} (hx : Qh xb) (hy : Qh yb) (hc : Qh cb) (hxl : xb.length = 32) (hyl : yb.length = 32) (hcl : cb.length = 32) : PV Tryz.prog gT 20 [.a .u8 xb 32, .a .u8 yb 32, .a .u8 cb 32] (.a .u8 (Xf ((Qq cb 32 + Qq xb 32 * Qq yb 32) % QA)) 32) := by
  have vx := YT xb hx; have vy := YT yb hy; have vc := YT cb hc
  have h1 := DF hx hxl
  have h2 := DF hy hyl
  have h3 := DF hc hcl
  have h4 := QiE (QH 4 (Qq xb 32)) (QH 4 (Qq yb 32)) (QH 4 (Qq cb 32)) (Qc _ _) (Qc _ _) (Qc _ _)
  have h5 := EB (QH 8 (Qo (Qn 4 (Qq cb 32)) 4 + Qo (Qn 4 (Qq xb 32)) 4 * Qo (Qn 4 (Qq yb 32)) 4)) (Qc _ _)
  rw [XB vx.1 vx.2, XB vy.1 vy.2, XB vc.1 vc.2] at h4 h5
  have hb : Qq cb 32 + Qq xb 32 * Qq yb 32 < 2 ^ (64 * 8) := by
    have hm : Qq xb 32 * Qq yb 32 <= (2 ^ 256 - 1) * (2 ^ 256 - 1) := Int.mul_le_mul (by omega) (by omega) vy.1 (by decide +kernel)
    have e : (2 : Int) ^ (64 * 8) = 2 ^ 256 * 2 ^ 256 := by rw [<- Int.pow_add]
    rw [e]
    have := vc.2
    generalize Qq xb 32 * Qq yb 32 = m at *
    omega
  have h0 : 0 <= Qq cb 32 + Qq xb 32 * Qq yb 32 := by have := Int.mul_nonneg vx.1 vy.1; omega
  rw [Gz 8 _ h0, Int.emod_eq_of_lt h0 hb] at h5
  have h6 := Qeu ((Qq cb 32 + Qq xb 32 * Qq yb 32) % QA)
  have hbl := QP ((Qq cb 32 + Qq xb 32 * Qq yb 32) % QA)
  generalize Xf ((Qq cb 32 + Qq xb 32 * Qq yb 32) % QA) = o at *
  generalize Qn 4 ((Qq cb 32 + Qq xb 32 * Qq yb 32) % QA) = p4 at *
  generalize Qn 8 (Qq cb 32 + Qq xb 32 * Qq yb 32) = p8 at *
  generalize Qn 4 (Qq cb 32) = nc at *
  generalize Qn 4 (Qq xb 32) = nx at *
  generalize Qn 4 (Qq yb 32) = ny at *
  refine PV.mk' Tryz.func20 rfl rfl rfl rfl fun w L hL hG => ?_
  refine S.enter Qw [.a .u8 xb 32, .a .u8 yb 32, .a .u8 cb 32] gT Tryz.func20 rfl rfl rfl (fun _ => rfl) hL hG ?_
  refine S.go false rfl (by repeat' (first | exact True.intro | refine And.intro ?_ ?_ | assumption | omega | (dsimp only; omega) | (simp only [Nat.add_eq, Nat.mul_eq, Nat.sub_eq, SV.wd]; omega) | exact rfl)) ?_
  refine S.drp false [(1, .a .u64 nx 4), (3, .a .u64 ny 4), (5, .a .u64 nc 4), (6, .a .u64 p8 8), (7, .a .u64 p4 4), (8, .a .u8 o 32)] rfl rfl rfl ?_ (by repeat' (first | exact True.intro | refine And.intro ?_ ?_ | assumption | omega | (dsimp only; omega) | (simp only [Nat.add_eq, Nat.mul_eq, Nat.sub_eq, SV.wd]; omega) | exact rfl))
  refine S.g false rfl ?_
  exact S.retv rfl rfl rfl rfl rfl
/-- Clamped bytes. -/
def Ek (za : List Int) : List Int := (za.set 0 (bits .and .u8 (za.getD 0 0) 248)).set 31 (bits .or .u8 (bits .and .u8 ((za.set 0 (bits .and .u8 (za.getD 0 0) 248)).getD 31 0) 127) 64)
theorem FZ {za : List Int} (hl : za.length = 32) : (Ek za).length = 32 := by simp [Ek, hl]
theorem Qkh (op : BinOp) (a b : Int) : 0 <= bits op .u8 a b /\ bits op .u8 a b <= 255 := by
  have h := bits_within op .u8 a b
  have h1 : IntKind.min .u8 = 0 := by decide
  have h2 : IntKind.max .u8 = 255 := by decide
  rw [h1, h2] at h
  exact h
theorem Qde {za : List Int} (hb : Qh za) : Qh (Ek za) := by
  intro x hx
  unfold Ek at hx
  rcases List.mem_or_eq_of_mem_set hx with h | h
  . rcases List.mem_or_eq_of_mem_set h with h | h
    . exact hb x h
    . rw [h]; exact Qkh _ _ _
  . rw [h]; exact Qkh _ _ _
theorem QjQ {za : List Int} (hl : za.length = 32) : PV Tryz.prog gT 32 [.a .u8 za 32] (.a .u8 (Ek za) 32) := by
  have hcl := FZ hl
  refine PV.mk' Tryz.func32 rfl rfl rfl rfl fun w L hL hG => ?_
  refine S.enter Qw [.a .u8 za 32] gT Tryz.func32 rfl rfl rfl (fun _ => rfl) hL hG ?_
  refine S.go false rfl (by repeat' (first | exact True.intro | refine And.intro ?_ ?_ | exact hl | exact hcl | exact rfl)) ?_
  exact S.retv rfl rfl rfl rfl rfl
/-- What is carried behind m words of 38 times a number. -/
def UA (xs : List Int) : Nat -> Int
  | 0 => 0
  | m + 1 => (Qb xs m * 38 + UA xs m) / 18446744073709551616
def QcR (xs : List Int) (m : Nat) : Int := (Qb xs m * 38 + UA xs m) % 18446744073709551616
def Eh (xs : List Int) (n : Nat) : List Int := (List.range n).map (QcR xs)
theorem Qjr (xs : List Int) (hx : QC xs) (m : Nat) : 0 <= UA xs m /\ UA xs m < 38 := by
  induction m with
  | zero => simp [UA]
  | succ m ih => have := hx.at m; simp only [UA]; omega
theorem FC (xs : List Int) (n : Nat) : QC (Eh xs n) := by
  intro x hx
  simp only [Eh, List.mem_map] at hx
  obtain ⟨k, _, rfl⟩ := hx
  unfold QcR; omega
theorem Qjp (xs : List Int) (hx : QC xs) (n m : Nat) (hm : m <= n) : Qo (Eh xs n) m + UA xs m * 2 ^ (64 * m) = 38 * Qo xs m := by
  induction m with
  | zero => simp [Qo, UA]
  | succ m ih =>
    have h0 := ih (by omega)
    have e : Qb (Eh xs n) m = QcR xs m := by simp [Eh, Qb, show m < n by omega]
    simp only [Qo, UA, e]
    rw [Uq]
    unfold QcR
    generalize (2 : Int) ^ (64 * m) = q at *
    have h1 := Int.emod_add_mul_ediv (Qb xs m * 38 + UA xs m) 18446744073709551616
    generalize (Qb xs m * 38 + UA xs m) / 18446744073709551616 = d at *
    generalize (Qb xs m * 38 + UA xs m) % 18446744073709551616 = r at *
    have e1 : r * q + d * (q * 18446744073709551616) = (r + 18446744073709551616 * d) * q := by grind
    have e2 : (Qb xs m * 38 + UA xs m) * q = 38 * (Qb xs m * q) + UA xs m * q := by grind
    rw [Int.add_assoc, e1, h1, e2]
    have e3 : 38 * (Qo xs m + Qb xs m * q) = 38 * Qo xs m + 38 * (Qb xs m * q) := by grind
    omega
theorem Qjq (v : Int) (hv : 0 <= v /\ v < 2 ^ 256) : Eh (Qn 4 v) 4 = Qn 4 (38 * v % 2 ^ 256) /\ UA (Qn 4 v) 4 = 38 * v / 2 ^ 256 := by
  have e := Qjp (Qn 4 v) (QH _ _) 4 4 (Nat.le_refl _)
  rw [XB hv.1 hv.2] at e
  have hs := ZL (Eh (Qn 4 v) 4) (FC _ _) 4
  constructor
  . refine JR (FC _ _) (by simp [Eh]) ?_
    simp only [Nat.reduceMul, Int.reducePow] at *
    omega
  . simp only [Nat.reduceMul, Int.reducePow] at *
    omega
/-- What fold comes to. -/
theorem QhG (lo hi t c s k s2 k2 s3 : Int) (hlo : 0 <= lo /\ lo < 2 ^ 256) (hhi : 0 <= hi /\ hi < 2 ^ 256) (ht : t = 38 * hi % 2 ^ 256) (hc : c = 38 * hi / 2 ^ 256) (hs : s = (lo + t) % 2 ^ 256) (hk : k = (lo + t) / 2 ^ 256)
    (hs2 : s2 = (s + (c + k) * 38) % 2 ^ 256) (hk2 : k2 = (s + (c + k) * 38) / 2 ^ 256) (hs3 : s3 = s2 + k2 * 38) : s3 % pV = (lo + hi * 2 ^ 256) % pV /\ 0 <= s3 /\ s3 < 2 ^ 256 /\ 0 <= c /\ c < 38 /\ 0 <= k /\ k <= 1 /\ 0 <= k2 /\ k2 <= 1 := by
  have hp : (2 : Int) ^ 256 = 2 * pV + 38 := by decide +kernel
  have hpv : 1000000 < pV := by decide +kernel
  have e : lo + hi * 2 ^ 256 = s3 + (2 * hi + 2 * c + 2 * k + 2 * k2) * pV := by
    have a1 := Int.emod_add_mul_ediv (38 * hi) (2 ^ 256)
    have a2 := Int.emod_add_mul_ediv (lo + t) (2 ^ 256)
    have a3 := Int.emod_add_mul_ediv (s + (c + k) * 38) (2 ^ 256)
    rw [<- ht, <- hc] at a1
    rw [<- hs, <- hk] at a2
    rw [<- hs2, <- hk2] at a3
    rw [hp] at a1 a2 a3 ⊢
    subst hs3
    clear ht hc hs hk hs2 hk2 hp hlo hhi
    generalize pV = p at *
    grind
  refine ⟨by rw [e, Int.add_mul_emod_self_right], ?_⟩
  generalize (2 : Int) ^ 256 = M at *
  have c1 : 0 <= c /\ c < 38 := by
    subst hc
    refine ⟨Int.ediv_nonneg (by omega) (by omega), Int.ediv_lt_of_lt_mul (by omega) (by omega)⟩
  have t1 : 0 <= t /\ t < M := by
    subst ht
    exact ⟨Int.emod_nonneg _ (by omega), Int.emod_lt_of_pos _ (by omega)⟩
  have k1 : 0 <= k /\ k < 2 := by
    subst hk
    exact ⟨Int.ediv_nonneg (by omega) (by omega), Int.ediv_lt_of_lt_mul (by omega) (by omega)⟩
  have s1 : 0 <= s /\ s < M := by
    subst hs
    exact ⟨Int.emod_nonneg _ (by omega), Int.emod_lt_of_pos _ (by omega)⟩
  have k3 : 0 <= k2 /\ k2 < 2 := by
    subst hk2
    exact ⟨Int.ediv_nonneg (by omega) (by omega), Int.ediv_lt_of_lt_mul (by omega) (by omega)⟩
  have s4 : 0 <= s2 /\ s2 < M := by
    subst hs2
    exact ⟨Int.emod_nonneg _ (by omega), Int.emod_lt_of_pos _ (by omega)⟩
  have a3 := Int.emod_add_mul_ediv (s + (c + k) * 38) M
  rw [<- hs2, <- hk2] at a3
  refine ⟨by omega, ?_, c1.1, c1.2, k1.1, by omega, k3.1, by omega⟩
  have : k2 = 0 \/ k2 = 1 := by omega
  rcases this with rfl | rfl
  . omega
  . omega
theorem Qgx (xs ys : List Int) (k : Nat) (T : Int) (h : T = Qo xs k * Qo ys 4 + Qb xs k * Qo ys 4 * 2 ^ (64 * k)) : T = Qo xs (k + 1) * Qo ys 4 := by
  have e : Qo xs (k + 1) = Qo xs k + Qb xs k * 2 ^ (64 * k) := rfl
  rw [h, e]
  clear h e
  generalize (2 : Int) ^ (64 * k) = q
  generalize Qo ys 4 = y
  generalize Qo xs k = x
  grind
theorem QkE : Qo (List.replicate 8 0) 8 = 0 := by decide +kernel
theorem Qdn (j : Nat) : Qb (List.replicate 8 (0 : Int)) j = 0 := by
  simp only [Qb, List.getElem?_replicate]; split <;> rfl

theorem Fx : Qn 4 1 = [1, 0, 0, 0] := by decide +kernel
/-- A power, with so many of the exponent's bits still to come. -/
def Zd (u v : Int) (m : Nat) : Int := u ^ (v / 2 ^ m).toNat % pV
theorem Qf7 (u v : Int) (m : Nat) : 0 <= Zd u v m /\ Zd u v m < 2 ^ 256 := by
  have h := Vy (u ^ (v / 2 ^ m).toNat)
  have := QdP
  unfold Zd
  omega
theorem Qaz (u v : Int) (hv : 0 <= v /\ v < 2 ^ 256) : Zd u v 256 = 1 := by
  unfold Zd
  rw [Int.ediv_eq_zero_of_lt hv.1 hv.2, show Int.toNat 0 = 0 from rfl, Int.pow_zero]
  decide +kernel
theorem QeQ (u v : Int) (j : Nat) (hv : 0 <= v) (h : v / 2 ^ j % 2 = 0) : (Zd u v (j + 1) * Zd u v (j + 1)) % pV = Zd u v j := by
  have hh := Jv v j
  have hy : 0 <= v / 2 ^ (j + 1) := Int.ediv_nonneg hv (Int.le_of_lt (Xq _))
  have e : (v / 2 ^ j).toNat = 2 * (v / 2 ^ (j + 1)).toNat := by omega
  unfold Zd
  rw [e, Fj]
theorem Qf6 (u v : Int) (j : Nat) (hv : 0 <= v) (h : v / 2 ^ j % 2 = 1) : ((Zd u v (j + 1) * Zd u v (j + 1)) % pV * u) % pV = Zd u v j := by
  have hh := Jv v j
  have hy : 0 <= v / 2 ^ (j + 1) := Int.ediv_nonneg hv (Int.le_of_lt (Xq _))
  have e : (v / 2 ^ j).toNat = 2 * (v / 2 ^ (j + 1)).toNat + 1 := by omega
  unfold Zd
  rw [e, Fj, EE u u _ rfl]
theorem Qk4 : 0 <= pV - 2 /\ pV - 2 < 2 ^ 256 := by decide +kernel
theorem Qlc (a : Int) (h0 : 0 <= a) (h1 : a < 18446744073709551616) : Qn 4 a = [a, 0, 0, 0] := by
  symm
  refine JR (fun x hx => by simp at hx; omega) rfl ?_
  simp [Qo, Qb]
theorem P_r : PV Tryz.prog gT 110 [] (.a .u64 (Qn 4 pV) 4) := by
  have h : PV Tryz.prog gT 110 [] (.g [.i .u64 18446744073709551597, .i .u64 18446744073709551615, .i .u64 18446744073709551615, .i .u64 9223372036854775807]) := by
    refine PV.mk' Tryz.func110 rfl rfl rfl rfl fun w L hL hG => ?_
    refine S.enter Qw [] gT Tryz.func110 rfl rfl rfl (fun _ => rfl) hL hG ?_
    refine S.go false rfl (by repeat' (first | exact True.intro | refine And.intro ?_ ?_ | assumption | omega | (dsimp only; omega) | (simp only [Nat.add_eq, Nat.mul_eq, Nat.sub_eq, SV.wd]; omega) | exact rfl)) ?_
    exact S.retv rfl rfl rfl rfl rfl
  rw [Qk6]
  exact h.res rfl rfl
set_option maxHeartbeats 1000000 in
theorem D8 (v : Int) : PV Tryz.prog gT 57 [.a .u64 (Qn 4 v) 4] (.a .u8 (Xf v) 32) := by
  have hv : Xf v = btW (Qn 4 v) 32 := (Qev _).symm
  rw [hv]
  have hnl := Qc 4 v
  generalize Qn 4 v = zs at *
  refine PV.mk' Tryz.func57 rfl rfl rfl rfl fun w L hL hG => ?_
  refine S.enter Qw [.a .u64 zs 4] gT Tryz.func57 rfl rfl rfl (fun _ => rfl) hL hG ?_
  refine S.go false rfl (by repeat' (first | exact True.intro | refine And.intro ?_ ?_ | assumption | omega | (dsimp only; omega) | (simp only [Nat.add_eq, Nat.mul_eq, Nat.sub_eq, SV.wd]; omega) | exact rfl)) ?_
  refine S.recell 2 [.a .u8 (btW zs 0) 32] rfl (fun ρ => by rw [QbV]) ⟨V7 zs 0, trivial⟩ rfl ?_
  refine S.loop [1, 2, 3] (fun k : Nat => [(4, .i .i64 (k : Int))]) (fun k => [(0, [.a .u64 zs 4]), (1, [.a .u8 (List.replicate 32 0) 32]), (2, [.a .u8 (btW zs k) 32])]) (fun _ => []) (fun k => k <= 32) (fun k => 32 - k) 0 rfl (fun _ => rfl) (fun _ => rfl) rfl ⟨⟨rfl, rfl⟩, trivial⟩ (by repeat' (first | exact True.intro | refine And.intro ?_ ?_ | exact V7 zs 0 | assumption | exact rfl)) (fun _ _ _ => trivial) (by omega) fun J k hk again => ?_
  have hk' : k <= 32 := hk
  have hlen := V7 zs k
  have hlen' := V7 zs (k + 1)
  refine S.g false rfl ?_
  refine S.cond rfl (fun c => ?_) (fun c => ?_)
  . have c' : k < 32 := by omega
    refine S.gn 14 false rfl ?_ (by repeat' (first | exact True.intro | refine And.intro ?_ ?_ | omega | (dsimp only; omega) | (simp only [Nat.add_eq, Nat.mul_eq, Nat.sub_eq, SV.wd]; omega) | exact rfl))
    refine S.gn 1 true rfl ?_ (by repeat' (first | exact True.intro | refine And.intro ?_ ?_ | omega | (dsimp only; omega) | (simp only [Nat.add_eq, Nat.mul_eq, Nat.sub_eq, SV.wd]; omega) | exact rfl))
    refine S.g false rfl ?_
    refine S.again (again (k + 1) (show k + 1 <= 32 by omega) (show 32 - (k + 1) < 32 - k by omega)) ⟨⟨rfl, by omega⟩, rfl, rfl, rfl, trivial⟩ ?_ rfl rfl (fun x hx => hx) rfl (fun ρ W h => h.hs)
    repeat' (first | exact True.intro | refine And.intro ?_ ?_ | exact congrArg (fun z => SV.a .u8 z 32) (QbW c') | exact hlen' | exact hnl | exact rfl)
  . obtain rfl : k = 32 := by omega
    refine S.go false rfl (by repeat' (first | exact True.intro | refine And.intro ?_ ?_ | assumption | omega | (dsimp only; omega) | (simp only [Nat.add_eq, Nat.mul_eq, Nat.sub_eq, SV.wd]; omega) | exact rfl)) ?_
    exact S.retv rfl rfl rfl rfl rfl
theorem Qcc {xs ys : List Int} (h : ∀ j, j < 4 -> Qb xs j = Qb ys j) : Qo xs 4 = Qo ys 4 := by
  simp only [Qo]
  rw [h 0 (by omega), h 1 (by omega), h 2 (by omega), h 3 (by omega)]
theorem Qlr {xs ys : List Int} (hx : QC xs) (hy : QC ys) (hl : xs.length = 4) (hm : ys.length = 4) : PV Tryz.prog gT 75 [.a .u64 xs 4, .a .u64 ys 4] (.l (decide (Qo xs 4 < Qo ys 4))) := by
  refine PV.mk' Tryz.func75 rfl rfl rfl rfl fun w L hL hG => ?_
  refine S.enter Qw [.a .u64 xs 4, .a .u64 ys 4] gT Tryz.func75 rfl rfl rfl (fun _ => rfl) hL hG ?_
  refine S.go false rfl (by repeat' (first | exact True.intro | refine And.intro ?_ ?_ | assumption | omega | (dsimp only; omega) | (simp only [Nat.add_eq, Nat.mul_eq, Nat.sub_eq, SV.wd]; omega) | exact rfl)) ?_
  refine S.loop [2, 3, 4] (fun k : Nat => [(5, .i .i64 (3 - (k : Int)))]) (fun k => [(0, [.a .u64 xs 4]), (1, [.a .u64 ys 4])]) (fun _ => []) (fun k => k <= 4 /\ ∀ j, 4 - k <= j -> j < 4 -> Qb xs j = Qb ys j) (fun k => 4 - k) 0 rfl (fun _ => rfl) (fun _ => rfl) rfl ⟨⟨rfl, rfl⟩, trivial⟩ (by repeat' (first | exact True.intro | refine And.intro ?_ ?_ | assumption | exact rfl)) (fun _ _ _ => trivial) ⟨by omega, fun j h1 h2 => by omega⟩ fun J k hk again => ?_
  obtain ⟨hk', he⟩ := hk
  refine S.g false rfl ?_
  refine S.cond rfl (fun c => ?_) (fun c => ?_)
  . have c' : k < 4 := by omega
    have e0 : Int.toNat (3 - (k : Int)) = 3 - k := by omega
    have e1 : xs.getD (Int.toNat (3 - (k : Int))) 0 = Qb xs (3 - k) := by rw [e0, QJ]
    have e2 : ys.getD (Int.toNat (3 - (k : Int))) 0 = Qb ys (3 - k) := by rw [e0, QJ]
    refine S.g false rfl ?_
    refine S.dr0 false rfl rfl rfl ?_ (by repeat' (first | exact True.intro | refine And.intro ?_ ?_ | assumption | omega | (dsimp only; omega) | (simp only [Nat.add_eq, Nat.mul_eq, Nat.sub_eq, SV.wd]; omega) | exact rfl))
    refine S.g false rfl ?_
    refine S.cond rfl (fun c2 => ?_) (fun c2 => ?_)
    . refine S.g false rfl ?_
      refine S.dr0 false rfl rfl rfl ?_ (by repeat' (first | exact True.intro | refine And.intro ?_ ?_ | assumption | omega | (dsimp only; omega) | (simp only [Nat.add_eq, Nat.mul_eq, Nat.sub_eq, SV.wd]; omega) | exact rfl))
      refine S.g false rfl ?_
      refine S.rd 4 (.l (decide (Qo xs 4 < Qo ys 4))) rfl (fun ρ => by
        simp only [SV.den]
        rw [<- Qmu xs ys hx hy (3 - k) (by omega) (fun j h1 h2 => he j (by omega) h2) (by rw [<- e1, <- e2]; exact c2)]
        simp only [e1, e2]) ?_
      exact S.retv rfl rfl rfl rfl rfl
    . refine S.g false rfl ?_
      refine S.again (again (k + 1) ⟨by show k + 1 <= 4; omega, fun j h1 h2 => by
        by_cases hj : j = 3 - k
        . rw [hj, <- e1, <- e2]; exact Decidable.of_not_not c2
        . exact he j (by omega) h2⟩ (show 4 - (k + 1) < 4 - k by omega)) ⟨⟨rfl, by omega⟩, rfl, rfl, rfl, trivial⟩ ?_ rfl rfl (fun x hx => hx) rfl (fun ρ W h => h.hs)
      repeat' (first | exact True.intro | refine And.intro ?_ ?_ | assumption | exact rfl)
  . obtain rfl : k = 4 := by omega
    have hv := Qcc (fun j hj => he j (by omega) hj)
    refine S.g false rfl ?_
    refine S.rd 4 (.l (decide (Qo xs 4 < Qo ys 4))) rfl (fun ρ => by rw [hv, decide_eq_false (Int.lt_irrefl _)]; rfl) ?_
    exact S.retv rfl rfl rfl rfl rfl
theorem Qhs {u v : Int} (hu : 0 <= u /\ u < 2 ^ 256) (hv : 0 <= v /\ v < 2 ^ 256) : PV Tryz.prog gT 75 [.a .u64 (Qn 4 u) 4, .a .u64 (Qn 4 v) 4] (.l (decide (u < v))) := by
  have h := Qlr (QH 4 u) (QH 4 v) (Qc 4 u) (Qc 4 v)
  rwa [XB hu.1 hu.2, XB hv.1 hv.2] at h
theorem QcT {u v : Int} (hu : 0 <= u /\ u < 2 ^ 256) (hv : 0 <= v /\ v < 2 ^ 256) (h : u < v) : PV Tryz.prog gT 75 [.a .u64 (Qn 4 u) 4, .a .u64 (Qn 4 v) 4] (.l true) := by have := Qhs hu hv; rwa [decide_eq_true h] at this
theorem QcU {u v : Int} (hu : 0 <= u /\ u < 2 ^ 256) (hv : 0 <= v /\ v < 2 ^ 256) (h : ¬ u < v) : PV Tryz.prog gT 75 [.a .u64 (Qn 4 u) 4, .a .u64 (Qn 4 v) 4] (.l false) := by have := Qhs hu hv; rwa [decide_eq_false h] at this
set_option maxHeartbeats 1000000 in
theorem Qjl {xs ys : List Int} (hx : QC xs) (hy : QC ys) (hl : xs.length = 4) (hm : ys.length = 4) : PV Tryz.prog gT 100 [.a .u64 xs 4, .a .u64 ys 4] (.t [.a .u64 (Vs xs ys 4) 4, .i .u64 (KB xs ys 4)]) := by
  rw [<- QdE]
  refine PV.mk' Tryz.func100 rfl rfl rfl rfl fun w L hL hG => ?_
  refine S.enter Qw [.a .u64 xs 4, .a .u64 ys 4] gT Tryz.func100 rfl rfl rfl (fun _ => rfl) hL hG ?_
  refine S.go false rfl (by repeat' (first | exact True.intro | refine And.intro ?_ ?_ | assumption | omega | (dsimp only; omega) | (simp only [Nat.add_eq, Nat.mul_eq, Nat.sub_eq, SV.wd]; omega) | exact rfl)) ?_
  refine S.recell 3 [.a .u64 (sbW xs ys 0) 4] rfl (fun ρ => rfl) ⟨VW xs ys 0, trivial⟩ rfl ?_
  refine S.loop [2, 3, 4, 6] (fun k : Nat => [(7, .i .u64 (KB xs ys k)), (8, .i .i64 (k : Int))]) (fun k => [(0, [.a .u64 xs 4]), (1, [.a .u64 ys 4]), (2, [.i .u64 0, .i .u64 0, .i .u64 0, .i .u64 0]), (3, [.a .u64 (sbW xs ys k) 4])]) (fun _ => []) (fun k => k <= 4) (fun k => 4 - k) 0 rfl (fun _ => rfl) (fun _ => rfl) rfl ⟨⟨rfl, rfl⟩, ⟨rfl, rfl⟩, trivial⟩ (by repeat' (first | exact True.intro | refine And.intro ?_ ?_ | exact VW xs ys 0 | assumption | exact rfl)) (fun _ _ _ => trivial) (by omega) fun J k hk again => ?_
  have hk' : k <= 4 := hk
  have hlen := VW xs ys k
  have hlen' := VW xs ys (k + 1)
  refine S.g false rfl ?_
  refine S.cond rfl (fun c => ?_) (fun c => ?_)
  . have c' : k < 4 := by omega
    have hb := HI xs ys k
    have h1 := hx.at k
    have h2 := hy.at k
    have e1 : xs.getD (Int.toNat (k : Int)) 0 = Qb xs k := by rw [Int.toNat_natCast, QJ]
    have e2 : ys.getD (Int.toNat (k : Int)) 0 = Qb ys k := by rw [Int.toNat_natCast, QJ]
    have hE := QdA (xs.getD (Int.toNat (k : Int)) 0) (ys.getD (Int.toNat (k : Int)) 0) (KB xs ys k) (by omega) (by omega) (by omega) hb.1 hb.2
    refine S.g false rfl ?_
    refine S.dre (G := gT) false [(8, .t [.i .u64 ((xs.getD (Int.toNat (k : Int)) 0 - ys.getD (Int.toNat (k : Int)) 0 - KB xs ys k) % 18446744073709551616), .i .u64 (bor (xs.getD (Int.toNat (k : Int)) 0) (ys.getD (Int.toNat (k : Int)) 0) (KB xs ys k))])] [] [8] rfl rfl rfl ?_ (by repeat' (first | exact True.intro | refine And.intro ?_ ?_ | assumption | omega | (dsimp only; omega) | (simp only [Nat.add_eq, Nat.mul_eq, Nat.sub_eq, SV.wd]; omega) | exact rfl))
    refine S.g false rfl ?_
    refine S.again (again (k + 1) (show k + 1 <= 4 by omega) (show 4 - (k + 1) < 4 - k by omega)) ⟨⟨rfl, by rw [e1, e2]; rfl⟩, ⟨rfl, by omega⟩, rfl, rfl, rfl, rfl, trivial⟩ ?_ rfl rfl (fun x hx => hx) rfl (fun ρ W h => h.hs)
    repeat' (first | exact True.intro | refine And.intro ?_ ?_ | exact congrArg (fun z => SV.a .u64 z 4) (QaP c') | assumption | exact rfl)
  . obtain rfl : k = 4 := by omega
    refine S.go false rfl (by repeat' (first | exact True.intro | refine And.intro ?_ ?_ | assumption | omega | (dsimp only; omega) | (simp only [Nat.add_eq, Nat.mul_eq, Nat.sub_eq, SV.wd]; omega) | exact rfl)) ?_
    exact S.rett rfl rfl rfl rfl rfl
theorem Qj9 (x y b : Int) (hx : 0 <= x) (hy : 0 <= y) (hb0 : 0 <= b) (hb : b <= 1) : PE Tryz.prog 98 [.i .u64 x, .i .u64 y, .i .u64 b] (.t [.i .u64 ((x + y + b) % 18446744073709551616), .i .u64 ((x + y + b) / 18446744073709551616)]) := ⟨rfl, rfl, fun w => Vd x y b hx hy hb0 hb w⟩
/-- A sum, as far as it has been reckoned. -/
def adW (xs ys : List Int) (k : Nat) : List Int := (List.range 4).map fun j => if j < k then QfJ xs ys j else 0
theorem HK (xs ys : List Int) (k : Nat) : (adW xs ys k).length = 4 := by simp [adW]
theorem Qka (xs ys : List Int) : adW xs ys 4 = Ea xs ys 4 := by
  unfold adW Ea
  refine List.map_congr_left fun j hj => ?_
  rw [List.mem_range] at hj
  rw [if_pos hj]
theorem Qio {xs ys : List Int} {k : Nat} (hk : k < 4) : (adW xs ys k).set (Int.toNat (k : Int)) ((xs.getD (Int.toNat (k : Int)) 0 + ys.getD (Int.toNat (k : Int)) 0 + crw xs ys k) % 18446744073709551616) = adW xs ys (k + 1) := by
  rw [Int.toNat_natCast, QJ, QJ]
  refine Zo hk (fun j hj hne => ?_) ?_
  . by_cases h : j < k
    . rw [if_pos (by omega), if_pos h]
    . rw [if_neg (by omega), if_neg h]
  . rw [if_pos (by omega)]
    rfl
set_option maxHeartbeats 1000000 in
theorem Qk3 {xs ys : List Int} (hx : QC xs) (hy : QC ys) (hl : xs.length = 4) (hm : ys.length = 4) : PV Tryz.prog gT 99 [.a .u64 xs 4, .a .u64 ys 4] (.t [.a .u64 (Ea xs ys 4) 4, .i .u64 (crw xs ys 4)]) := by
  rw [<- Qka]
  refine PV.mk' Tryz.func99 rfl rfl rfl rfl fun w L hL hG => ?_
  refine S.enter Qw [.a .u64 xs 4, .a .u64 ys 4] gT Tryz.func99 rfl rfl rfl (fun _ => rfl) hL hG ?_
  refine S.go false rfl (by repeat' (first | exact True.intro | refine And.intro ?_ ?_ | assumption | omega | (dsimp only; omega) | (simp only [Nat.add_eq, Nat.mul_eq, Nat.sub_eq, SV.wd]; omega) | exact rfl)) ?_
  refine S.recell 3 [.a .u64 (adW xs ys 0) 4] rfl (fun ρ => rfl) ⟨HK xs ys 0, trivial⟩ rfl ?_
  refine S.loop [2, 3, 4, 6] (fun k : Nat => [(7, .i .u64 (crw xs ys k)), (8, .i .i64 (k : Int))]) (fun k => [(0, [.a .u64 xs 4]), (1, [.a .u64 ys 4]), (2, [.i .u64 0, .i .u64 0, .i .u64 0, .i .u64 0]), (3, [.a .u64 (adW xs ys k) 4])]) (fun _ => []) (fun k => k <= 4) (fun k => 4 - k) 0 rfl (fun _ => rfl) (fun _ => rfl) rfl ⟨⟨rfl, rfl⟩, ⟨rfl, rfl⟩, trivial⟩ (by repeat' (first | exact True.intro | refine And.intro ?_ ?_ | exact HK xs ys 0 | assumption | exact rfl)) (fun _ _ _ => trivial) (by omega) fun J k hk again => ?_
  have hk' : k <= 4 := hk
  have hlen := HK xs ys k
  have hlen' := HK xs ys (k + 1)
  refine S.g false rfl ?_
  refine S.cond rfl (fun c => ?_) (fun c => ?_)
  . have c' : k < 4 := by omega
    have hb := Qes xs ys hx hy k
    have h1 := hx.at k
    have h2 := hy.at k
    have e1 : xs.getD (Int.toNat (k : Int)) 0 = Qb xs k := by rw [Int.toNat_natCast, QJ]
    have e2 : ys.getD (Int.toNat (k : Int)) 0 = Qb ys k := by rw [Int.toNat_natCast, QJ]
    have hE := Qj9 (xs.getD (Int.toNat (k : Int)) 0) (ys.getD (Int.toNat (k : Int)) 0) (crw xs ys k) (by omega) (by omega) hb.1 hb.2
    refine S.g false rfl ?_
    refine S.dre (G := gT) false [(8, .t [.i .u64 ((xs.getD (Int.toNat (k : Int)) 0 + ys.getD (Int.toNat (k : Int)) 0 + crw xs ys k) % 18446744073709551616), .i .u64 ((xs.getD (Int.toNat (k : Int)) 0 + ys.getD (Int.toNat (k : Int)) 0 + crw xs ys k) / 18446744073709551616)])] [] [8] rfl rfl rfl ?_ (by repeat' (first | exact True.intro | refine And.intro ?_ ?_ | assumption | omega | (dsimp only; omega) | (simp only [Nat.add_eq, Nat.mul_eq, Nat.sub_eq, SV.wd]; omega) | exact rfl))
    refine S.g false rfl ?_
    refine S.again (again (k + 1) (show k + 1 <= 4 by omega) (show 4 - (k + 1) < 4 - k by omega)) ⟨⟨rfl, by rw [e1, e2]; rfl⟩, ⟨rfl, by omega⟩, rfl, rfl, rfl, rfl, trivial⟩ ?_ rfl rfl (fun x hx => hx) rfl (fun ρ W h => h.hs)
    repeat' (first | exact True.intro | refine And.intro ?_ ?_ | exact congrArg (fun z => SV.a .u64 z 4) (Qio c') | assumption | exact rfl)
  . obtain rfl : k = 4 := by omega
    refine S.go false rfl (by repeat' (first | exact True.intro | refine And.intro ?_ ?_ | assumption | omega | (dsimp only; omega) | (simp only [Nat.add_eq, Nat.mul_eq, Nat.sub_eq, SV.wd]; omega) | exact rfl)) ?_
    exact S.rett rfl rfl rfl rfl rfl
theorem Qjm {u v : Int} (hu : 0 <= u /\ u < 2 ^ 256) (hv : 0 <= v /\ v < 2 ^ 256) : PV Tryz.prog gT 100 [.a .u64 (Qn 4 u) 4, .a .u64 (Qn 4 v) 4] (.t [.a .u64 (Qn 4 ((u - v) % 2 ^ 256)) 4, .i .u64 (if u < v then 1 else 0)]) := by
  have h := Qjl (QH 4 u) (QH 4 v) (Qc 4 u) (Qc 4 v)
  rwa [(QaK hu hv).1, (QaK hu hv).2] at h
theorem Jr {u v : Int} (hv : 0 <= v) (h : v <= u) (hu : u < 2 ^ 256) : PV Tryz.prog gT 100 [.a .u64 (Qn 4 u) 4, .a .u64 (Qn 4 v) 4] (.t [.a .u64 (Qn 4 (u - v)) 4, .i .u64 0]) := by
  have := Qjm (u := u) (v := v) ⟨by omega, hu⟩ ⟨hv, by omega⟩
  rwa [Int.emod_eq_of_lt (by omega) (by omega), if_neg (by omega)] at this
theorem Dp {u v : Int} (hu : 0 <= u /\ u < 2 ^ 256) (hv : 0 <= v /\ v < 2 ^ 256) : PV Tryz.prog gT 99 [.a .u64 (Qn 4 u) 4, .a .u64 (Qn 4 v) 4] (.t [.a .u64 (Qn 4 ((u + v) % 2 ^ 256)) 4, .i .u64 ((u + v) / 2 ^ 256)]) := by
  have h := Qk3 (QH 4 u) (QH 4 v) (Qc 4 u) (Qc 4 v)
  have hq := QfY (Qn 4 u) (Qn 4 v) (QH 4 u) (QH 4 v) 4 4 (by omega)
  have hw := ZL (Ea (Qn 4 u) (Qn 4 v) 4) (F9 _ _ 4) 4
  have hc := Qes (Qn 4 u) (Qn 4 v) (QH 4 u) (QH 4 v) 4
  rw [XB hu.1 hu.2, XB hv.1 hv.2] at hq
  have e1 : crw (Qn 4 u) (Qn 4 v) 4 = (u + v) / 2 ^ 256 := by
    simp only [Nat.reduceMul, Int.reducePow] at hq hw ⊢
    omega
  have e2 : Ea (Qn 4 u) (Qn 4 v) 4 = Qn 4 ((u + v) % 2 ^ 256) := JR (F9 _ _ 4) (by simp [Ea]) (by
    simp only [Nat.reduceMul, Int.reducePow] at hq hw ⊢
    omega)
  rwa [e1, e2] at h
theorem Dq {u v : Int} (hu : 0 <= u) (hv : 0 <= v) (hs : u + v < 2 ^ 256) : PV Tryz.prog gT 99 [.a .u64 (Qn 4 u) 4, .a .u64 (Qn 4 v) 4] (.t [.a .u64 (Qn 4 (u + v)) 4, .i .u64 0]) := by
  have := Dp (u := u) (v := v) ⟨hu, by omega⟩ ⟨hv, by omega⟩
  rwa [Int.emod_eq_of_lt (by omega) hs, Int.ediv_eq_zero_of_lt (by omega) hs] at this
theorem Ft : 0 <= pV /\ pV < 2 ^ 256 := by decide +kernel
theorem Qky {v : Int} (hv : 0 <= v /\ v < 2 ^ 256) : PV Tryz.prog gT 134 [.a .u64 (Qn 4 v) 4] (.a .u64 (Qn 4 (v % pV)) 4) := by
  have hP := P_r
  refine PV.mk' Tryz.func134 rfl rfl rfl rfl fun w L hL hG => ?_
  refine S.enter Qw [.a .u64 (Qn 4 v) 4] gT Tryz.func134 rfl rfl rfl (fun _ => rfl) hL hG ?_
  refine S.go false rfl (by repeat' (first | exact True.intro | refine And.intro ?_ ?_ | assumption | omega | (dsimp only; omega) | (simp only [Nat.add_eq, Nat.mul_eq, Nat.sub_eq, SV.wd]; omega) | exact rfl)) ?_
  refine S.loop [1, 2] (fun s : Nat × Int => [(3, .i .i64 (s.1 : Int))]) (fun s => [(0, [.a .u64 (Qn 4 s.2) 4]), (1, [.i .u64 0, .i .u64 0, .i .u64 0, .i .u64 0])]) (fun _ => []) (fun s => s.1 <= 3 /\ (0 <= s.2 /\ s.2 < 2 ^ 256) /\ s.2 % pV = v % pV /\ (s.2 + s.1 * pV < 3 * pV \/ s.2 < pV)) (fun s => 3 - s.1) (0, v) rfl (fun _ => rfl) (fun _ => rfl) rfl ⟨⟨rfl, rfl⟩, trivial⟩ (by repeat' (first | exact True.intro | refine And.intro ?_ ?_ | assumption | exact rfl)) (fun _ _ _ => trivial) ⟨by show (0 : Nat) <= 3; omega, hv, rfl, Or.inl (by have := QgV; show v + ((0 : Nat) : Int) * pV < 3 * pV; simp; omega)⟩ fun J s hs again => ?_
  obtain ⟨k, z⟩ := s
  obtain ⟨hk, hz, hzv, hzb⟩ := hs
  simp only at hk hz hzv hzb
  dsimp only
  have hzl := Qc 4 z
  have hpl := Qc 4 pV
  refine S.g false rfl ?_
  refine S.cond rfl (fun c => ?_) (fun c => ?_)
  . have c' : k < 3 := by omega
    by_cases hlt : z < pV
    . have hL := QcT hz Ft hlt
      refine S.g false rfl ?_
      refine S.drp false [(1, .a .u64 (Qn 4 pV) 4), (2, .l true)] rfl rfl rfl ?_ (by repeat' (first | exact True.intro | refine And.intro ?_ ?_ | assumption | omega | (dsimp only; omega) | (simp only [Nat.add_eq, Nat.mul_eq, Nat.sub_eq, SV.wd]; omega) | exact rfl))
      refine S.g false rfl ?_
      refine S.again (again (k + 1, z) ⟨by show k + 1 <= 3; omega, hz, hzv, Or.inr hlt⟩ (show 3 - (k + 1) < 3 - k by omega)) ⟨⟨rfl, by simp only; omega⟩, rfl, rfl, trivial⟩ ?_ rfl rfl (fun x hx => hx) rfl (fun ρ W h => h.hs)
      repeat' (first | exact True.intro | refine And.intro ?_ ?_ | assumption | exact rfl)
    . have hL := QcU hz Ft hlt
      have hM := Jr Ft.1 (by omega : pV <= z) hz.2
      have hdl := Qc 4 (z - pV)
      refine S.g false rfl ?_
      refine S.drp false [(1, .a .u64 (Qn 4 pV) 4), (2, .l false)] rfl rfl rfl ?_ (by repeat' (first | exact True.intro | refine And.intro ?_ ?_ | assumption | omega | (dsimp only; omega) | (simp only [Nat.add_eq, Nat.mul_eq, Nat.sub_eq, SV.wd]; omega) | exact rfl))
      refine S.g false rfl ?_
      refine S.drp false [(1, .a .u64 (Qn 4 pV) 4), (2, .t [.a .u64 (Qn 4 (z - pV)) 4, .i .u64 0])] rfl rfl rfl ?_ (by repeat' (first | exact True.intro | refine And.intro ?_ ?_ | assumption | omega | (dsimp only; omega) | (simp only [Nat.add_eq, Nat.mul_eq, Nat.sub_eq, SV.wd]; omega) | exact rfl))
      refine S.g false rfl ?_
      have hpp := Ft
      refine S.again (again (k + 1, z - pV) ⟨by show k + 1 <= 3; omega, by simp only; omega, by simp only; rw [Int.sub_emod_right]; exact hzv, by simp only; unfold pV at *; omega⟩ (show 3 - (k + 1) < 3 - k by omega)) ⟨⟨rfl, by simp only; omega⟩, rfl, rfl, trivial⟩ ?_ rfl rfl (fun x hx => hx) rfl (fun ρ W h => h.hs)
      repeat' (first | exact True.intro | refine And.intro ?_ ?_ | assumption | exact rfl)
  . obtain rfl : k = 3 := by omega
    have hz3 : z = v % pV := by rw [<- hzv]; exact (Int.emod_eq_of_lt hz.1 (by unfold pV at *; omega)).symm
    refine S.go false rfl (by repeat' (first | exact True.intro | refine And.intro ?_ ?_ | assumption | omega | (dsimp only; omega) | (simp only [Nat.add_eq, Nat.mul_eq, Nat.sub_eq, SV.wd]; omega) | exact rfl)) ?_
    rw [<- hz3]
    exact S.retv rfl rfl rfl rfl rfl
theorem Qma {u v : Int} (hu : 0 <= u) (hv : 0 <= v) (hs : u + v < 2 ^ 256) : PV Tryz.prog gT 111 [.a .u64 (Qn 4 u) 4, .a .u64 (Qn 4 v) 4] (.a .u64 (Qn 4 ((u + v) % pV)) 4) := by
  have h1 := Dq hu hv hs
  have h2 := Qky (v := u + v) ⟨by omega, hs⟩
  have l1 := Qc 4 u; have l2 := Qc 4 v; have l3 := Qc 4 (u + v); have l4 := Qc 4 ((u + v) % pV)
  generalize Qn 4 ((u + v) % pV) = r at *
  generalize Qn 4 (u + v) = s at *
  generalize Qn 4 u = x at *
  generalize Qn 4 v = y at *
  refine PV.mk' Tryz.func111 rfl rfl rfl rfl fun w L hL hG => ?_
  refine S.enter Qw [.a .u64 x 4, .a .u64 y 4] gT Tryz.func111 rfl rfl rfl (fun _ => rfl) hL hG ?_
  refine S.go false rfl (by repeat' (first | exact True.intro | refine And.intro ?_ ?_ | assumption | omega | (dsimp only; omega) | (simp only [Nat.add_eq, Nat.mul_eq, Nat.sub_eq, SV.wd]; omega) | exact rfl)) ?_
  refine S.cv rfl rfl rfl rfl rfl rfl h1 ?_
  refine S.go false rfl (by repeat' (first | exact True.intro | refine And.intro ?_ ?_ | assumption | omega | (dsimp only; omega) | (simp only [Nat.add_eq, Nat.mul_eq, Nat.sub_eq, SV.wd]; omega) | exact rfl)) ?_
  refine S.cv rfl rfl rfl rfl rfl rfl h2 ?_
  refine S.go false rfl (by repeat' (first | exact True.intro | refine And.intro ?_ ?_ | assumption | omega | (dsimp only; omega) | (simp only [Nat.add_eq, Nat.mul_eq, Nat.sub_eq, SV.wd]; omega) | exact rfl)) ?_
  exact S.retv rfl rfl rfl rfl rfl
theorem QlN {u v : Int} (hu : 0 <= u /\ u < pV) (hv : 0 <= v /\ v < pV) : PV Tryz.prog gT 74 [.a .u64 (Qn 4 u) 4, .a .u64 (Qn 4 v) 4] (.a .u64 (Qn 4 ((u - v) % pV)) 4) := by
  have hP := P_r
  have hp := Ft
  have hp2 : pV + pV < 2 ^ 256 := by decide +kernel
  have l1 := Qc 4 u; have l2 := Qc 4 v; have l3 := Qc 4 pV
  by_cases h : u < v
  . have h1 := QcT ⟨hu.1, by omega⟩ ⟨hv.1, by omega⟩ h
    have h2 := Dq (u := u) (v := pV) hu.1 hp.1 (by omega)
    have h3 := Jr (u := u + pV) (v := v) hv.1 (by omega) (by omega)
    have e : (u - v) % pV = u + pV - v := by unfold pV at *; omega
    rw [e]
    have l4 := Qc 4 (u + pV); have l5 := Qc 4 (u + pV - v)
    generalize Qn 4 (u + pV - v) = r at *
    generalize Qn 4 (u + pV) = s at *
    generalize Qn 4 u = x at *
    generalize Qn 4 v = y at *
    generalize Qn 4 pV = p at *
    refine PV.mk' Tryz.func74 rfl rfl rfl rfl fun w L hL hG => ?_
    refine S.enter Qw [.a .u64 x 4, .a .u64 y 4] gT Tryz.func74 rfl rfl rfl (fun _ => rfl) hL hG ?_
    refine S.go false rfl (by repeat' (first | exact True.intro | refine And.intro ?_ ?_ | assumption | omega | (dsimp only; omega) | (simp only [Nat.add_eq, Nat.mul_eq, Nat.sub_eq, SV.wd]; omega) | exact rfl)) ?_
    refine S.cv rfl rfl rfl rfl rfl rfl h1 ?_
    refine S.g false rfl ?_
    refine S.drp false [(1, .a .u64 p 4), (2, .t [.a .u64 s 4, .i .u64 0])] rfl rfl rfl ?_ (by repeat' (first | exact True.intro | refine And.intro ?_ ?_ | assumption | omega | (dsimp only; omega) | (simp only [Nat.add_eq, Nat.mul_eq, Nat.sub_eq, SV.wd]; omega) | exact rfl))
    refine S.go false rfl (by repeat' (first | exact True.intro | refine And.intro ?_ ?_ | assumption | omega | (dsimp only; omega) | (simp only [Nat.add_eq, Nat.mul_eq, Nat.sub_eq, SV.wd]; omega) | exact rfl)) ?_
    refine S.cv rfl rfl rfl rfl rfl rfl h3 ?_
    refine S.go false rfl (by repeat' (first | exact True.intro | refine And.intro ?_ ?_ | assumption | omega | (dsimp only; omega) | (simp only [Nat.add_eq, Nat.mul_eq, Nat.sub_eq, SV.wd]; omega) | exact rfl)) ?_
    exact S.retv rfl rfl rfl rfl rfl
  . have h1 := QcU ⟨hu.1, by omega⟩ ⟨hv.1, by omega⟩ h
    have h3 := Jr (u := u) (v := v) hv.1 (by omega) (by omega)
    have e : (u - v) % pV = u - v := by unfold pV at *; omega
    rw [e]
    have l5 := Qc 4 (u - v)
    generalize Qn 4 (u - v) = r at *
    generalize Qn 4 u = x at *
    generalize Qn 4 v = y at *
    refine PV.mk' Tryz.func74 rfl rfl rfl rfl fun w L hL hG => ?_
    refine S.enter Qw [.a .u64 x 4, .a .u64 y 4] gT Tryz.func74 rfl rfl rfl (fun _ => rfl) hL hG ?_
    refine S.go false rfl (by repeat' (first | exact True.intro | refine And.intro ?_ ?_ | assumption | omega | (dsimp only; omega) | (simp only [Nat.add_eq, Nat.mul_eq, Nat.sub_eq, SV.wd]; omega) | exact rfl)) ?_
    refine S.cv rfl rfl rfl rfl rfl rfl h1 ?_
    refine S.go false rfl (by repeat' (first | exact True.intro | refine And.intro ?_ ?_ | assumption | omega | (dsimp only; omega) | (simp only [Nat.add_eq, Nat.mul_eq, Nat.sub_eq, SV.wd]; omega) | exact rfl)) ?_
    refine S.cv rfl rfl rfl rfl rfl rfl h3 ?_
    refine S.go false rfl (by repeat' (first | exact True.intro | refine And.intro ?_ ?_ | assumption | omega | (dsimp only; omega) | (simp only [Nat.add_eq, Nat.mul_eq, Nat.sub_eq, SV.wd]; omega) | exact rfl)) ?_
    exact S.retv rfl rfl rfl rfl rfl
def zzL : List Int := [0, 0, 0, 0]
theorem E3 : zzL = Qn 4 0 := by decide +kernel
/-- 38 times a number, as far as it has been reckoned. -/
def Qbo (ys : List Int) (k : Nat) : List Int := (List.range 4).map fun j => if j < k then QcR ys j else 0
theorem K5 (ys : List Int) (k : Nat) : (Qbo ys k).length = 4 := by simp [Qbo]
theorem Qhi (ys : List Int) : Qbo ys 4 = Eh ys 4 := by
  unfold Qbo Eh
  refine List.map_congr_left fun j hj => ?_
  rw [List.mem_range] at hj
  rw [if_pos hj]
theorem Qfu {ys : List Int} {k : Nat} (hk : k < 4) {l : Int} (hl : l = QcR ys k) : (Qbo ys k).set (Int.toNat (k : Int)) l = Qbo ys (k + 1) := by
  rw [Int.toNat_natCast]
  refine Zo hk (fun j hj hne => ?_) ?_
  . by_cases h : j < k
    . rw [if_pos (by omega), if_pos h]
    . rw [if_neg (by omega), if_neg h]
  . rw [if_pos (by omega)]
    exact hl.symm
theorem Qca (n : Nat) : QC (List.replicate n 0) := fun x hx => by rw [List.eq_of_mem_replicate hx]; decide
theorem QbB {x : SV} {a b c d : Int} {l : List Int} (h : l = [a, b, c, d]) : QO QR [x, SV.a .u64 l 4] = QO QR [x, SV.g [.i .u64 a, .i .u64 b, .i .u64 c, .i .u64 d]] := by subst h; rfl
set_option maxHeartbeats 2000000 in
theorem Qlv {lo hi : Int} (hlo : 0 <= lo /\ lo < 2 ^ 256) (hhi : 0 <= hi /\ hi < 2 ^ 256) : PV Tryz.prog gT 125 [.a .u64 (Qn 4 lo) 4, .a .u64 (Qn 4 hi) 4] (.a .u64 (Qn 4 ((lo + hi * 2 ^ 256) % pV)) 4) := by
  have hF := QhG lo hi _ _ _ _ _ _ _ hlo hhi rfl rfl rfl rfl rfl rfl rfl
  have hm := Qjq hi hhi
  have hp1 := Dp (u := lo) (v := 38 * hi % 2 ^ 256) hlo (by omega)
  have hyw := QH 4 hi
  have hyl := Qc 4 hi
  have hxl := Qc 4 lo
  generalize Qn 4 hi = ys at *
  generalize ht : 38 * hi % 2 ^ 256 = t at *
  generalize hc : 38 * hi / 2 ^ 256 = c at *
  generalize hs : (lo + t) % 2 ^ 256 = s at *
  generalize hk : (lo + t) / 2 ^ 256 = k1 at *
  have hs0 : 0 <= s /\ s < 2 ^ 256 := by omega
  have hck : 0 <= (c + k1) * 38 /\ (c + k1) * 38 < 18446744073709551616 := by omega
  have hp2 := (Dp (u := s) (v := (c + k1) * 38) hs0 (by omega)).arg (QbB (Qlc _ hck.1 hck.2))
  generalize hs2 : (s + (c + k1) * 38) % 2 ^ 256 = s2 at *
  generalize hk2 : (s + (c + k1) * 38) / 2 ^ 256 = k2 at *
  have hs20 : 0 <= s2 /\ s2 < 2 ^ 256 := by omega
  have hp3 := (Dp (u := s2) (v := 38) hs20 (by omega)).arg (QbB (Qlc 38 (by omega) (by omega)))
  have hcut := Qky (v := s2 + k2 * 38) ⟨hF.2.1, hF.2.2.1⟩
  rw [hF.1] at hcut
  have htl := Qc 4 t; have hsl := Qc 4 s; have hs2l := Qc 4 s2
  generalize hr : Qn 4 ((lo + hi * 2 ^ 256) % pV) = r at *
  have hrl : r.length = 4 := by rw [<- hr]; exact Qc _ _
  refine PV.mk' Tryz.func125 rfl rfl rfl rfl fun w L hL hG => ?_
  refine S.enter Qw [.a .u64 (Qn 4 lo) 4, .a .u64 ys 4] gT Tryz.func125 rfl rfl rfl (fun _ => rfl) hL hG ?_
  refine S.go false rfl (by repeat' (first | exact True.intro | refine And.intro ?_ ?_ | assumption | omega | (dsimp only; omega) | (simp only [Nat.add_eq, Nat.mul_eq, Nat.sub_eq, SV.wd]; omega) | exact rfl)) ?_
  refine S.recell 3 [.a .u64 (Qbo ys 0) 4] rfl (fun ρ => rfl) ⟨K5 ys 0, trivial⟩ rfl ?_
  refine S.loop [2, 3, 4, 5] (fun k : Nat => [(6, .i .u64 (UA ys k)), (7, .i .i64 (k : Int))]) (fun k => [(0, [.a .u64 (Qn 4 lo) 4]), (1, [.a .u64 ys 4]), (2, [.i .u64 0, .i .u64 0, .i .u64 0, .i .u64 0]), (3, [.a .u64 (Qbo ys k) 4])]) (fun _ => []) (fun k => k <= 4) (fun k => 4 - k) 0 rfl (fun _ => rfl) (fun _ => rfl) rfl ⟨⟨rfl, rfl⟩, ⟨rfl, rfl⟩, trivial⟩ (by repeat' (first | exact True.intro | refine And.intro ?_ ?_ | exact K5 ys 0 | assumption | exact rfl)) (fun _ _ _ => trivial) (by omega) fun J k hk again => ?_
  have hk' : k <= 4 := hk
  have hlen := K5 ys k
  have hlen' := K5 ys (k + 1)
  refine S.g false rfl ?_
  refine S.cond rfl (fun c5 => ?_) (fun c5 => ?_)
  . have c' : k < 4 := by omega
    have hb := Qjr ys hyw k
    have e1 : ys.getD (Int.toNat (k : Int)) 0 = Qb ys k := by rw [Int.toNat_natCast, QJ]
    have h1 := hyw.at k
    rw [<- e1] at h1
    have hM := Hx (ys.getD (Int.toNat (k : Int)) 0) 38 h1 (by omega)
    have hw : QcR ys k = (ys.getD (Int.toNat (k : Int)) 0 * 38 + UA ys k) % 18446744073709551616 := by rw [e1]; rfl
    have hcn : UA ys (k + 1) = (ys.getD (Int.toNat (k : Int)) 0 * 38 + UA ys k) / 18446744073709551616 := by rw [e1]; rfl
    refine S.go false rfl (by repeat' (first | exact True.intro | refine And.intro ?_ ?_ | assumption | omega | (dsimp only; omega) | (simp only [Nat.add_eq, Nat.mul_eq, Nat.sub_eq, SV.wd]; omega) | exact rfl)) ?_
    refine S.cv rfl rfl rfl rfl rfl rfl hM ?_
    refine S.go false rfl (by repeat' (first | exact True.intro | refine And.intro ?_ ?_ | assumption | omega | (dsimp only; omega) | (simp only [Nat.add_eq, Nat.mul_eq, Nat.sub_eq, SV.wd]; omega) | exact rfl)) ?_
    refine S.ext rfl rfl rfl rfl rfl rfl rfl (Vd _ _ _ (by omega) hb.1 (by omega) (by omega)) rfl ?_
    generalize ys.getD (Int.toNat (k : Int)) 0 = y at *
    generalize UA ys k = cc at *
    refine S.go false rfl (by repeat' (first | exact True.intro | refine And.intro ?_ ?_ | omega | (dsimp only; omega) | (simp only [Nat.add_eq, Nat.mul_eq, Nat.sub_eq, SV.wd]; omega) | exact rfl)) ?_
    refine S.again (again (k + 1) (show k + 1 <= 4 by omega) (show 4 - (k + 1) < 4 - k by omega)) ⟨⟨rfl, by rw [hcn]; omega⟩, ⟨rfl, by omega⟩, rfl, rfl, rfl, rfl, trivial⟩ ?_ rfl rfl (fun x hx => hx) rfl (fun ρ W h => h.hs)
    repeat' (first | exact True.intro | refine And.intro ?_ ?_ | exact congrArg (fun z => SV.a .u64 z 4) (Qfu c' (by rw [hw]; omega)) | assumption | exact rfl)
  . obtain rfl : k = 4 := by omega
    refine S.recell 3 [.a .u64 (Qn 4 t) 4] rfl (fun ρ => by rw [Qhi, hm.1]) ⟨htl, trivial⟩ rfl ?_
    refine S.rd 6 (.i .u64 c) rfl (fun ρ => by rw [hm.2]) ?_
    refine S.go false rfl (by repeat' (first | exact True.intro | refine And.intro ?_ ?_ | assumption | omega | (dsimp only; omega) | (simp only [Nat.add_eq, Nat.mul_eq, Nat.sub_eq, SV.wd]; omega) | exact rfl)) ?_
    refine S.cv rfl rfl rfl rfl rfl rfl hp1 ?_
    refine S.go false rfl (by repeat' (first | exact True.intro | refine And.intro ?_ ?_ | assumption | omega | (dsimp only; omega) | (simp only [Nat.add_eq, Nat.mul_eq, Nat.sub_eq, SV.wd]; omega) | exact rfl)) ?_
    refine S.cv rfl rfl rfl rfl rfl rfl hp2 ?_
    refine S.go false rfl (by repeat' (first | exact True.intro | refine And.intro ?_ ?_ | assumption | omega | (dsimp only; omega) | (simp only [Nat.add_eq, Nat.mul_eq, Nat.sub_eq, SV.wd]; omega) | exact rfl)) ?_
    refine S.cond rfl (fun c6 => ?_) (fun c6 => ?_)
    . obtain rfl : k2 = 1 := by omega
      have e3 : (s2 + 38) % 2 ^ 256 = s2 + 1 * 38 := by omega
      rw [e3] at hp3
      have hs3l := Qc 4 (s2 + 1 * 38)
      refine S.go false rfl (by repeat' (first | exact True.intro | refine And.intro ?_ ?_ | assumption | omega | (dsimp only; omega) | (simp only [Nat.add_eq, Nat.mul_eq, Nat.sub_eq, SV.wd]; omega) | exact rfl)) ?_
      refine S.cv rfl rfl rfl rfl rfl rfl hp3 ?_
      refine S.go false rfl (by repeat' (first | exact True.intro | refine And.intro ?_ ?_ | assumption | omega | (dsimp only; omega) | (simp only [Nat.add_eq, Nat.mul_eq, Nat.sub_eq, SV.wd]; omega) | exact rfl)) ?_
      refine S.cv rfl rfl rfl rfl rfl rfl hcut ?_
      refine S.go false rfl (by repeat' (first | exact True.intro | refine And.intro ?_ ?_ | assumption | omega | (dsimp only; omega) | (simp only [Nat.add_eq, Nat.mul_eq, Nat.sub_eq, SV.wd]; omega) | exact rfl)) ?_
      exact S.retv rfl rfl rfl rfl rfl
    . obtain rfl : k2 = 0 := by omega
      rw [show s2 + 0 * 38 = s2 by omega] at hcut
      refine S.go false rfl (by repeat' (first | exact True.intro | refine And.intro ?_ ?_ | assumption | omega | (dsimp only; omega) | (simp only [Nat.add_eq, Nat.mul_eq, Nat.sub_eq, SV.wd]; omega) | exact rfl)) ?_
      refine S.cv rfl rfl rfl rfl rfl rfl hcut ?_
      refine S.go false rfl (by repeat' (first | exact True.intro | refine And.intro ?_ ?_ | assumption | omega | (dsimp only; omega) | (simp only [Nat.add_eq, Nat.mul_eq, Nat.sub_eq, SV.wd]; omega) | exact rfl)) ?_
      exact S.retv rfl rfl rfl rfl rfl
theorem Qlu {xs ys : List Int} (hx : QC xs) (hy : QC ys) (hl : xs.length = 4) (hm : ys.length = 4) : PV Tryz.prog gT 125 [.a .u64 xs 4, .a .u64 ys 4] (.a .u64 (Qn 4 ((Qo xs 4 + Qo ys 4 * 2 ^ 256) % pV)) 4) := by
  have h := Qlv (lo := Qo xs 4) (hi := Qo ys 4) (ZL xs hx 4) (ZL ys hy 4)
  rwa [<- Gc xs hx 4 hl, <- Gc ys hy 4 hm] at h
theorem Qli {x y p c : Int} (hx : 0 <= x /\ x < 18446744073709551616) (hy : 0 <= y /\ y < 18446744073709551616) (hp : 0 <= p /\ p < 18446744073709551616) (hc : 0 <= c /\ c < 18446744073709551616) :
    (0 <= x * y / 18446744073709551616 /\ x * y / 18446744073709551616 < 18446744073709551616) /\ (0 <= x * y % 18446744073709551616 /\ x * y % 18446744073709551616 < 18446744073709551616) /\ (0 <= x * y / 18446744073709551616 + (p + x * y % 18446744073709551616 + 0) / 18446744073709551616 /\ x * y / 18446744073709551616 + (p + x * y % 18446744073709551616 + 0) / 18446744073709551616 < 18446744073709551616) /\ (0 <= x * y / 18446744073709551616 + (p + x * y % 18446744073709551616 + 0) / 18446744073709551616 + ((p + x * y % 18446744073709551616 + 0) % 18446744073709551616 + c + 0) / 18446744073709551616 /\ x * y / 18446744073709551616 + (p + x * y % 18446744073709551616 + 0) / 18446744073709551616 + ((p + x * y % 18446744073709551616 + 0) % 18446744073709551616 + c + 0) / 18446744073709551616 < 18446744073709551616) /\ ((p + x * y % 18446744073709551616 + 0) % 18446744073709551616 + c + 0) % 18446744073709551616 + (x * y / 18446744073709551616 + (p + x * y % 18446744073709551616 + 0) / 18446744073709551616 + ((p + x * y % 18446744073709551616 + 0) % 18446744073709551616 + c + 0) / 18446744073709551616) * 18446744073709551616 = x * y + p + c := by
  have hm := EL (p := p) (c := c) hx hy
  generalize x * y = m at *
  omega
theorem KA {l : List Int} {i j : Nat} (h : i ≠ j) (v : Int) : Qb (l.set i v) j = Qb l j := by simp [Qb, List.getElem?_set, h]
def lo4 (p : List Int) : List Int := [Qb p 0, Qb p 1, Qb p 2, Qb p 3]
def hi4 (p : List Int) : List Int := [Qb p 4, Qb p 5, Qb p 6, Qb p 7]
theorem QfS {a b c d : Int} (ha : 0 <= a /\ a < 18446744073709551616) (hb : 0 <= b /\ b < 18446744073709551616) (hc : 0 <= c /\ c < 18446744073709551616) (hd : 0 <= d /\ d < 18446744073709551616) : QC [a, b, c, d] := by
  intro x hx
  simp only [List.mem_cons, List.not_mem_nil, or_false] at hx
  rcases hx with rfl | rfl | rfl | rfl <;> assumption
set_option exponentiation.threshold 600 in
theorem Qmv (p : List Int) : Qo (lo4 p) 4 + Qo (hi4 p) 4 * 2 ^ 256 = Qo p 8 := by
  simp only [Qo, lo4, hi4, Qb, List.getElem?_cons_zero, List.getElem?_cons_succ, Option.getD_some, Nat.reduceMul, Nat.reduceAdd, Int.reducePow]
  omega
theorem Qnm {a b c d a' b' c' d' : Int} {l m : List Int} (h : l = [a, b, c, d]) (h' : m = [a', b', c', d']) : QO QR [SV.a .u64 l 4, SV.a .u64 m 4] = QO QR [SV.g [.i .u64 a, .i .u64 b, .i .u64 c, .i .u64 d], SV.g [.i .u64 a', .i .u64 b', .i .u64 c', .i .u64 d']] := by subst h; subst h'; rfl
set_option maxHeartbeats 4000000 in
theorem Qk0 {xs ys : List Int} (hx : QC xs) (hy : QC ys) (hxl : xs.length = 4) (hyl : ys.length = 4) : PV Tryz.prog gT 89 [.a .u64 xs 4, .a .u64 ys 4] (.a .u64 (Qn 4 (Qo xs 4 * Qo ys 4 % pV)) 4) := by
  refine PV.mk' Tryz.func89 rfl rfl rfl rfl fun w L hL hG => ?_
  refine S.enter Qw [.a .u64 xs 4, .a .u64 ys 4] gT Tryz.func89 rfl rfl rfl (fun _ => rfl) hL hG ?_
  refine S.go false rfl (by repeat' (first | exact True.intro | refine And.intro ?_ ?_ | assumption | omega | (dsimp only; omega) | (simp only [Nat.add_eq, Nat.mul_eq, Nat.sub_eq, SV.wd]; omega) | exact rfl)) ?_
  refine S.recell 3 [.a .u64 (List.replicate 8 0) 8] rfl (fun ρ => rfl) ⟨rfl, trivial⟩ rfl ?_
  refine S.loop [2, 3, 4, 5] (fun s : TSt => [(6, .i .i64 (s.k : Int))]) (fun s => [(0, [.a .u64 xs 4]), (1, [.a .u64 ys 4]), (2, [.i .u64 0, .i .u64 0, .i .u64 0, .i .u64 0]), (3, [.a .u64 s.p 8])]) (fun _ => []) (fun s => s.k <= 4 /\ QC s.p /\ s.p.length = 8 /\ Qo s.p 8 = Qo xs s.k * Qo ys 4 /\ ∀ j, s.k + 4 <= j -> Qb s.p j = 0) (fun s => 4 - s.k) ⟨0, List.replicate 8 0⟩ rfl (fun _ => rfl) (fun _ => rfl) rfl ⟨⟨rfl, rfl⟩, trivial⟩ (by repeat' (first | exact True.intro | refine And.intro ?_ ?_ | assumption | exact rfl)) (fun _ _ _ => trivial) ⟨by show (0 : Nat) <= 4; omega, Qca 8, rfl, by show Qo (List.replicate 8 0) 8 = _; rw [QkE]; simp [Qo], fun j _ => Qdn j⟩ fun J s hs again => ?_
  obtain ⟨k, ps⟩ := s
  obtain ⟨hk, hpw, hpl2, hpv, hpz⟩ := hs
  simp only at hk hpw hpl2 hpv hpz
  dsimp only
  refine S.g false rfl ?_
  refine S.cond rfl (fun c => ?_) (fun c => ?_)
  . have ck : k < 4 := by omega
    refine S.g false rfl ?_
    refine S.loop [2, 3, 4, 5, 6] (fun s : TIn => [(7, .i .u64 s.c), (8, .i .i64 (s.j : Int))]) (fun s => [(0, [.a .u64 xs 4]), (1, [.a .u64 ys 4]), (2, [.i .u64 0, .i .u64 0, .i .u64 0, .i .u64 0]), (3, [.a .u64 s.p 8])]) (fun _ => []) (fun s => s.j <= 4 /\ QC s.p /\ s.p.length = 8 /\ (0 <= s.c /\ s.c < 18446744073709551616) /\ Qo s.p 8 + s.c * 2 ^ (64 * (k + s.j)) = Qo xs k * Qo ys 4 + Qb xs k * Qo ys s.j * 2 ^ (64 * k) /\ ∀ j, k + 4 <= j -> Qb s.p j = 0) (fun s => 4 - s.j) ⟨0, ps, 0⟩ rfl (fun _ => rfl) (fun _ => rfl) rfl ⟨⟨rfl, rfl⟩, ⟨rfl, rfl⟩, trivial⟩ (by repeat' (first | exact True.intro | refine And.intro ?_ ?_ | assumption | exact rfl)) (fun _ _ _ => trivial) ⟨by show (0 : Nat) <= 4; omega, hpw, hpl2, ⟨by show (0 : Int) <= 0; omega, by show (0 : Int) < 18446744073709551616; omega⟩, by show Qo ps 8 + 0 * 2 ^ (64 * (k + 0)) = _; rw [hpv]; simp [Qo], hpz⟩ fun J2 s2 hs2 again2 => ?_
    obtain ⟨j, qs, e⟩ := s2
    obtain ⟨hj, hqw, hql, he, hqv, hqz⟩ := hs2
    simp only at hj hqw hql he hqv hqz
    dsimp only
    refine S.g false rfl ?_
    refine S.cond rfl (fun c2 => ?_) (fun c2 => ?_)
    . have cj : j < 4 := by omega
      have e1 : xs.getD (Int.toNat (k : Int)) 0 = Qb xs k := by rw [Int.toNat_natCast, QJ]
      have e2 : ys.getD (Int.toNat (j : Int)) 0 = Qb ys j := by rw [Int.toNat_natCast, QJ]
      have e4 : Int.toNat ((k : Int) + (j : Int)) = k + j := by omega
      have e3 : qs.getD (Int.toNat ((k : Int) + (j : Int))) 0 = Qb qs (k + j) := by rw [e4, QJ]
      have hxk : 0 <= xs.getD (Int.toNat (k : Int)) 0 /\ xs.getD (Int.toNat (k : Int)) 0 < 18446744073709551616 := by rw [e1]; exact hx.at k
      have hyj : 0 <= ys.getD (Int.toNat (j : Int)) 0 /\ ys.getD (Int.toNat (j : Int)) 0 < 18446744073709551616 := by rw [e2]; exact hy.at j
      have hqj : 0 <= qs.getD (Int.toNat ((k : Int) + (j : Int))) 0 /\ qs.getD (Int.toNat ((k : Int) + (j : Int))) 0 < 18446744073709551616 := by rw [e3]; exact hqw.at (k + j)
      obtain ⟨m1, m2, m3, m4, m5⟩ := Qli hxk hyj hqj he
      have hM := Hx _ _ hxk hyj
      have hstep := QaT qs xs ys k j _ e _ _ hql ck cj hqv (by rw [<- e1, <- e2, <- e3]; exact m5)
      generalize xs.getD (Int.toNat (k : Int)) 0 * ys.getD (Int.toNat (j : Int)) 0 / 18446744073709551616 = mh at *
      generalize xs.getD (Int.toNat (k : Int)) 0 * ys.getD (Int.toNat (j : Int)) 0 % 18446744073709551616 = ml at *
      refine S.g false rfl ?_
      refine S.drp (G := gT) false [(6, .t [.i .u64 mh, .i .u64 ml])] rfl rfl rfl ?_ (by repeat' (first | exact True.intro | refine And.intro ?_ ?_ | assumption | omega | (dsimp only; omega) | (simp only [Nat.add_eq, Nat.mul_eq, Nat.sub_eq, SV.wd]; omega) | exact rfl))
      refine S.go false rfl (by repeat' (first | exact True.intro | refine And.intro ?_ ?_ | assumption | omega | (dsimp only; omega) | (simp only [Nat.add_eq, Nat.mul_eq, Nat.sub_eq, SV.wd]; omega) | exact rfl)) ?_
      refine S.ext rfl rfl rfl rfl rfl rfl rfl (Vd _ _ _ hqj.1 (by omega) (by omega) (by omega)) rfl ?_
      generalize qs.getD (Int.toNat ((k : Int) + (j : Int))) 0 = q at *
      generalize hl1 : (q + ml + 0) % 18446744073709551616 = l1 at *
      generalize ho1 : (q + ml + 0) / 18446744073709551616 = o1 at *
      refine S.go false rfl (by repeat' (first | exact True.intro | refine And.intro ?_ ?_ | assumption | omega | (dsimp only; omega) | (simp only [Nat.add_eq, Nat.mul_eq, Nat.sub_eq, SV.wd]; omega) | exact rfl)) ?_
      refine S.ext rfl rfl rfl rfl rfl rfl rfl (Vd _ _ _ (by omega) he.1 (by omega) (by omega)) rfl ?_
      have hl2 : 0 <= (l1 + e + 0) % 18446744073709551616 /\ (l1 + e + 0) % 18446744073709551616 < 18446744073709551616 := by omega
      generalize hl2e : (l1 + e + 0) % 18446744073709551616 = l2 at *
      generalize ho2 : (l1 + e + 0) / 18446744073709551616 = o2 at *
      refine S.go false rfl (by repeat' (first | exact True.intro | refine And.intro ?_ ?_ | omega | (dsimp only; omega) | (simp only [Nat.add_eq, Nat.mul_eq, Nat.sub_eq, SV.wd]; omega) | exact rfl)) ?_
      have hsl : (qs.set (Int.toNat ((k : Int) + (j : Int))) l2).length = 8 := by rw [List.length_set]; exact hql
      refine S.again (again2 ⟨j + 1, qs.set (k + j) l2, mh + o1 + o2⟩ ⟨by show j + 1 <= 4; omega, hqw.set _ hl2, by simp [hql], m4, hstep, fun t ht => by rw [KA (by omega)]; exact hqz t ht⟩ (show 4 - (j + 1) < 4 - j by omega)) ⟨⟨rfl, rfl⟩, ⟨rfl, by simp only; omega⟩, rfl, rfl, rfl, rfl, ⟨rfl, rfl⟩, trivial⟩ ?_ rfl rfl (fun x hx => hx) rfl (fun ρ W h => h.hs)
      repeat' (first | exact True.intro | refine And.intro ?_ ?_ | assumption | exact congrArg (fun z => SV.a .u64 (qs.set z l2) 8) e4 | (show (qs.set (k + j) l2).length = 8; simp only [List.length_set]; exact hql) | exact rfl)
    . obtain rfl : j = 4 := by omega
      have ek : Int.toNat ((k : Int) + 4) = k + 4 := by omega
      have hst := Eu qs (k + 4) _ e e 0 hql (by omega) hqv (by rw [hqz (k + 4) (Nat.le_refl _)]; omega)
      have hus := hqw.set (k + 4) he
      have hul : (qs.set (k + 4) e).length = 8 := by rw [List.length_set]; exact hql
      have hend := Qgx xs ys k (Qo (qs.set (k + 4) e) 8) (by rw [<- hst]; simp)
      refine S.go false rfl (by repeat' (first | exact True.intro | refine And.intro ?_ ?_ | omega | (dsimp only; omega) | (simp only [Nat.add_eq, Nat.mul_eq, Nat.sub_eq, SV.wd]; omega) | exact rfl)) ?_
      refine S.again (again ⟨k + 1, qs.set (k + 4) e⟩ ⟨by show k + 1 <= 4; omega, hus, hul, hend, fun t ht => by rw [KA (by simp only at ht; omega)]; exact hqz t (by simp only at ht; omega)⟩ (show 4 - (k + 1) < 4 - k by omega)) ⟨⟨rfl, by simp only; omega⟩, rfl, rfl, rfl, rfl, trivial⟩ ?_ rfl rfl (fun x hx => hx) rfl (fun ρ W h => h.hs)
      repeat' (first | exact True.intro | refine And.intro ?_ ?_ | assumption | exact congrArg (fun z => SV.a .u64 (qs.set z e) 8) ek | exact rfl)
  . obtain rfl : k = 4 := by omega
    have hF := Qlu (QfS (hpw.at 0) (hpw.at 1) (hpw.at 2) (hpw.at 3)) (QfS (hpw.at 4) (hpw.at 5) (hpw.at 6) (hpw.at 7)) rfl rfl
    have hlh := Qmv ps
    rw [hpv] at hlh
    unfold lo4 hi4 at hlh
    rw [hlh] at hF
    have hF2 := hF.arg (Qnm rfl rfl)
    simp only [<- QJ] at hF2
    refine S.go false rfl (by repeat' (first | exact True.intro | refine And.intro ?_ ?_ | assumption | omega | (dsimp only; omega) | (simp only [Nat.add_eq, Nat.mul_eq, Nat.sub_eq, SV.wd]; omega) | exact rfl)) ?_
    refine S.cv rfl rfl rfl rfl rfl rfl hF2 ?_
    refine S.go false rfl (by repeat' (first | exact True.intro | refine And.intro ?_ ?_ | assumption | omega | (dsimp only; omega) | (simp only [Nat.add_eq, Nat.mul_eq, Nat.sub_eq, SV.wd]; omega) | exact rfl)) ?_
    exact S.retv rfl rfl rfl rfl rfl
theorem QcE {u v : Int} (hu : 0 <= u /\ u < 2 ^ 256) (hv : 0 <= v /\ v < 2 ^ 256) : PV Tryz.prog gT 89 [.a .u64 (Qn 4 u) 4, .a .u64 (Qn 4 v) 4] (.a .u64 (Qn 4 (u * v % pV)) 4) := by
  have h := Qk0 (QH 4 u) (QH 4 v) (Qc 4 u) (Qc 4 v)
  rwa [XB hu.1 hu.2, XB hv.1 hv.2] at h
theorem Qns {ys : List Int} (hy : QC ys) {k : Nat} (hk : k < 256) : bits .and .u64 (ys.getD (Int.toNat ((255 - (k : Int)) / 64)) 0 / 2 ^ Int.toNat ((255 - (k : Int)) % 64)) 1 = Qo ys 4 / 2 ^ (255 - k) % 2 := by
  have e1 : Int.toNat ((255 - (k : Int)) / 64) = (255 - k) / 64 := by omega
  have e2 : Int.toNat ((255 - (k : Int)) % 64) = (255 - k) % 64 := by omega
  rw [e1, e2, QJ, <- QbX ys hy 4 (255 - k) (by omega)]
  have hx64 := hy.at ((255 - k) / 64)
  have h0 : 0 <= Qb ys ((255 - k) / 64) / 2 ^ ((255 - k) % 64) := Int.ediv_nonneg hx64.1 (Int.le_of_lt (Xq _))
  have h1 : Qb ys ((255 - k) / 64) / 2 ^ ((255 - k) % 64) <= Qb ys ((255 - k) / 64) := Int.ediv_le_self _ hx64.1
  exact Y8 _ 1 1 rfl (by omega) h0 (by omega)
set_option maxHeartbeats 1000000 in
theorem QkM {u v : Int} (hu : 0 <= u /\ u < 2 ^ 256) (hv : 0 <= v /\ v < 2 ^ 256) : PV Tryz.prog gT 124 [.a .u64 (Qn 4 u) 4, .a .u64 (Qn 4 v) 4] (.a .u64 (Qn 4 (u ^ v.toNat % pV)) 4) := by
  have e0 : u ^ v.toNat % pV = Zd u v 0 := by unfold Zd; rw [Int.pow_zero, Int.ediv_one]
  rw [e0]
  have hvl := Qc 4 v; have hul := Qc 4 u
  have hvw := QH 4 v
  have hvv := XB hv.1 hv.2
  generalize Qn 4 v = ys at *
  refine PV.mk' Tryz.func124 rfl rfl rfl rfl fun w L hL hG => ?_
  refine S.enter Qw [.a .u64 (Qn 4 u) 4, .a .u64 ys 4] gT Tryz.func124 rfl rfl rfl (fun _ => rfl) hL hG ?_
  refine S.go false rfl (by repeat' (first | exact True.intro | refine And.intro ?_ ?_ | assumption | omega | (dsimp only; omega) | (simp only [Nat.add_eq, Nat.mul_eq, Nat.sub_eq, SV.wd]; omega) | exact rfl)) ?_
  have hol := Qc 4 (Zd u v (256 - 0))
  refine S.recell 3 [.a .u64 (Qn 4 (Zd u v (256 - 0))) 4] rfl (fun ρ => by rw [Nat.sub_zero, Qaz u v hv, Fx]; rfl) ⟨hol, trivial⟩ rfl ?_
  refine S.loop [2, 3, 4, 5] (fun k : Nat => [(6, .i .i64 (255 - (k : Int)))]) (fun k => [(0, [.a .u64 (Qn 4 u) 4]), (1, [.a .u64 ys 4]), (2, [.i .u64 0, .i .u64 0, .i .u64 0, .i .u64 0]), (3, [.a .u64 (Qn 4 (Zd u v (256 - k))) 4])]) (fun _ => []) (fun k => k <= 256) (fun k => 256 - k) 0 rfl (fun _ => rfl) (fun _ => rfl) rfl ⟨⟨rfl, rfl⟩, trivial⟩ (by repeat' (first | exact True.intro | refine And.intro ?_ ?_ | exact hol | assumption | exact rfl)) (fun _ _ _ => trivial) (by omega) fun J k hk again => ?_
  have hk' : k <= 256 := hk
  have hlen := Qc 4 (Zd u v (256 - k))
  refine S.g false rfl ?_
  refine S.cond rfl (fun c => ?_) (fun c => ?_)
  . have c' : k < 256 := by omega
    have hz := Qf7 u v (256 - k)
    have hP := QcE hz hz
    have hlen' := Qc 4 (Zd u v (256 - (k + 1)))
    have hbe := Qns hvw c'
    rw [hvv] at hbe
    have ek : 256 - k = (255 - k) + 1 := by omega
    have ek' : 256 - (k + 1) = 255 - k := by omega
    refine S.go false rfl (by repeat' (first | exact True.intro | refine And.intro ?_ ?_ | assumption | omega | (dsimp only; omega) | (simp only [Nat.add_eq, Nat.mul_eq, Nat.sub_eq, SV.wd]; omega) | exact rfl)) ?_
    refine S.cv rfl rfl rfl rfl rfl rfl hP ?_
    have hl2 := Qc 4 (Zd u v (256 - k) * Zd u v (256 - k) % pV)
    refine S.go false rfl (by repeat' (first | exact True.intro | refine And.intro ?_ ?_ | omega | (dsimp only; omega) | (simp only [Nat.add_eq, Nat.mul_eq, Nat.sub_eq, SV.wd]; omega) | exact rfl)) ?_
    refine S.cond rfl (fun c2 => ?_) (fun c2 => ?_)
    . rw [hbe] at c2
      have hm := Vy (Zd u v (256 - k) * Zd u v (256 - k))
      have hpp := Ft
      have hQ := QcE (u := Zd u v (256 - k) * Zd u v (256 - k) % pV) (v := u) ⟨hm.1, by omega⟩ hu
      have et := Qf6 u v (255 - k) hv.1 c2
      rw [<- ek, <- ek'] at et
      rw [et] at hQ
      refine S.go false rfl (by repeat' (first | exact True.intro | refine And.intro ?_ ?_ | assumption | omega | (dsimp only; omega) | (simp only [Nat.add_eq, Nat.mul_eq, Nat.sub_eq, SV.wd]; omega) | exact rfl)) ?_
      refine S.cv rfl rfl rfl rfl rfl rfl hQ ?_
      refine S.go false rfl (by repeat' (first | exact True.intro | refine And.intro ?_ ?_ | omega | (dsimp only; omega) | (simp only [Nat.add_eq, Nat.mul_eq, Nat.sub_eq, SV.wd]; omega) | exact rfl)) ?_
      refine S.again (again (k + 1) (show k + 1 <= 256 by omega) (show 256 - (k + 1) < 256 - k by omega)) ⟨⟨rfl, by omega⟩, rfl, rfl, rfl, rfl, trivial⟩ ?_ rfl rfl (fun x hx => hx) rfl (fun ρ W h => h.hs)
      repeat' (first | exact True.intro | refine And.intro ?_ ?_ | exact hlen' | assumption | exact rfl)
    . rw [hbe] at c2
      have et := QeQ u v (255 - k) hv.1 (by omega)
      rw [<- ek, <- ek'] at et
      refine S.go false rfl (by repeat' (first | exact True.intro | refine And.intro ?_ ?_ | assumption | omega | (dsimp only; omega) | (simp only [Nat.add_eq, Nat.mul_eq, Nat.sub_eq, SV.wd]; omega) | exact rfl)) ?_
      refine S.again (again (k + 1) (show k + 1 <= 256 by omega) (show 256 - (k + 1) < 256 - k by omega)) ⟨⟨rfl, by omega⟩, rfl, rfl, rfl, rfl, trivial⟩ ?_ rfl rfl (fun x hx => hx) rfl (fun ρ W h => h.hs)
      repeat' (first | exact True.intro | refine And.intro ?_ ?_ | exact hlen' | exact congrArg (fun z => SV.a .u64 (Qn 4 z) 4) et | assumption | exact rfl)
  . obtain rfl : k = 256 := by omega
    refine S.go false rfl (by repeat' (first | exact True.intro | refine And.intro ?_ ?_ | assumption | omega | (dsimp only; omega) | (simp only [Nat.add_eq, Nat.mul_eq, Nat.sub_eq, SV.wd]; omega) | exact rfl)) ?_
    exact S.retv rfl rfl rfl rfl rfl
theorem QcL : (pV - 2).toNat = (Qq (J0 235 127) 32).toNat := by rw [Qd6]; decide +kernel
theorem QhA {u : Int} (hu : 0 <= u /\ u < 2 ^ 256) : PV Tryz.prog gT 88 [.a .u64 (Qn 4 u) 4] (.a .u64 (Qn 4 (Qbx u)) 4) := by
  have hP := P_r
  have hp := Ft
  have h2 := (Jr (u := pV) (v := 2) (by omega) (by decide +kernel) hp.2).arg (QbB (Qlc 2 (by omega) (by omega)))
  have h3 := QkM (u := u) (v := pV - 2) hu Qk4
  have e : u ^ (pV - 2).toNat % pV = Qbx u := by rw [QcL]; rfl
  rw [e] at h3
  have l1 := Qc 4 u; have l2 := Qc 4 (pV - 2); have l3 := Qc 4 pV; have l4 := Qc 4 (Qbx u)
  generalize Qn 4 u = x at *
  generalize Qn 4 (pV - 2) = y at *
  generalize Qn 4 pV = p at *
  generalize Qn 4 (Qbx u) = z at *
  refine PV.mk' Tryz.func88 rfl rfl rfl rfl fun w L hL hG => ?_
  refine S.enter Qw [.a .u64 x 4] gT Tryz.func88 rfl rfl rfl (fun _ => rfl) hL hG ?_
  refine S.go false rfl (by repeat' (first | exact True.intro | refine And.intro ?_ ?_ | assumption | omega | (dsimp only; omega) | (simp only [Nat.add_eq, Nat.mul_eq, Nat.sub_eq, SV.wd]; omega) | exact rfl)) ?_
  refine S.cv rfl rfl rfl rfl rfl rfl hP ?_
  refine S.go false rfl (by repeat' (first | exact True.intro | refine And.intro ?_ ?_ | assumption | omega | (dsimp only; omega) | (simp only [Nat.add_eq, Nat.mul_eq, Nat.sub_eq, SV.wd]; omega) | exact rfl)) ?_
  refine S.cv rfl rfl rfl rfl rfl rfl h2 ?_
  refine S.go false rfl (by repeat' (first | exact True.intro | refine And.intro ?_ ?_ | assumption | omega | (dsimp only; omega) | (simp only [Nat.add_eq, Nat.mul_eq, Nat.sub_eq, SV.wd]; omega) | exact rfl)) ?_
  refine S.cv rfl rfl rfl rfl rfl rfl h3 ?_
  refine S.go false rfl (by repeat' (first | exact True.intro | refine And.intro ?_ ?_ | assumption | omega | (dsimp only; omega) | (simp only [Nat.add_eq, Nat.mul_eq, Nat.sub_eq, SV.wd]; omega) | exact rfl)) ?_
  exact S.retv rfl rfl rfl rfl rfl

theorem Qjz : GL Tryz.prog gT 49 6 (lm QdH) := GL.of Qw (DK rmL) gT0 rfl (UZ rfl) rfl (Nat.lt_of_lt_of_le Nat.zero_lt_one (Nat.le_add_right 1 _)) rfl
def evL (z : List Int) (c : Int) : List Int := if c % 2 = 1 then QB (YN [] z) else z
def r0L (x : List Int) : List Int := Vb x (J0 254 15) 256
def r1L (x : List Int) : List Int := QB (XT (r0L x) QdH)
def rtL (x : List Int) (u : Int) : List Int := if sq0 u then evL (r0L x) (Fe u) else if sq1 u then evL (r1L x) (rt1 u) else [0, 0, 0, 0, 0]
theorem Qeh {z : List Int} {c : Int} (h : Xo z c) : Xo (evL z c) (UB c) := by
  unfold evL UB
  split
  . have := Uz Uh h
    exact this
  . exact h
theorem QcA {x : List Int} {u : Int} (hx : Xo x u) : Xo (r0L x) (Fe u) := EF hx EG
theorem QgG {x : List Int} {u : Int} (hx : Xo x u) : Xo (r1L x) (rt1 u) := X3 (QcA hx) EA
theorem QiU {x : List Int} {u : Int} (hx : Xo x u) : Xo (rtL x u) (rV u) := by
  unfold rtL rV
  split
  . exact Qeh (QcA hx)
  . split
    . exact Qeh (QgG hx)
    . exact Uh
theorem Qf0 (ρ : QS) (x : List Int) (b : Bool) {y : List Int} {b' : Bool} (hx : x = y) (hb : b = b') : val ρ [lm x, .l b] = (SV.t [lm y, .l b']).den QR := by
  subst hx; subst hb
  simp only [val, SV.den, QO]
  rfl
set_option maxHeartbeats 1000000 in
theorem QkW {x : List Int} {u : Int} (hx : Xo x u) : PV Tryz.prog gT 132 [lm x] (.t [lm (rtL x u), .l (okV u)]) := by
  have h1 := Qkl 254 15
  have h2 := QdM hx EG rfl
  have hr := QcA hx
  have ht := QgG hx
  have t0 := Ys _ _ hr.small hr.small
  have s0 := Qcs (X3 hr hr) hx
  have t1 := Ys _ _ hr.small EA.small
  have t2 := Ys _ _ ht.small ht.small
  have s1 := Qcs (X3 ht ht) hx
  have o0 := Qg6 hr
  have o1 := Qg6 ht
  have n0 := UW _ hr.small
  have n1 := UW _ ht.small
  have e0 : rtL x u = if sq0 u then evL (r0L x) (Fe u) else if sq1 u then evL (r1L x) (rt1 u) else [0, 0, 0, 0, 0] := rfl
  have e1 : okV u = (sq0 u || sq1 u) := rfl
  have q0 : sq0 u = decide (Fe u * Fe u % pV = u) := rfl
  have q1 : sq1 u = decide (rt1 u * rt1 u % pV = u) := rfl
  change PV _ _ _ _ (lm (r0L x)) at h2
  change PV _ _ _ _ (lm (r1L x)) at t1
  generalize r0L x = z0 at *
  generalize r1L x = z1 at *
  generalize QB (XT z0 z0) = y0 at *
  generalize QB (XT z1 z1) = y1 at *
  refine PV.mk' Tryz.func132 rfl rfl rfl rfl fun w L hL hG => ?_
  refine S.enter Qw [lm x] gT Tryz.func132 rfl rfl rfl (fun _ => rfl) hL hG ?_
  refine S.g false rfl ?_
  refine S.drp false [(1, .a .u8 (J0 254 15) 32), (2, lm z0)] rfl rfl rfl ?_ (by repeat' (first | exact True.intro | refine And.intro ?_ ?_ | assumption))
  refine S.g false rfl ?_
  refine S.drp false [(2, lm y0), (4, .c (Fe u * Fe u % pV = u) inferInstance)] rfl rfl rfl ?_ (by repeat' (first | exact True.intro | refine And.intro ?_ ?_ | assumption))
  refine S.g false rfl ?_
  refine S.cond rfl (fun b => ?_) (fun b => ?_)
  . have b0 : sq0 u = false := by rw [q0]; exact decide_eq_false b
    refine S.g false rfl ?_
    refine S.gl rfl rfl rfl rfl Qjz ?_
    refine S.g false rfl ?_
    refine S.cv rfl rfl rfl rfl rfl rfl t1 ?_
    refine S.g false rfl ?_
    refine S.drp false [(2, lm y1), (4, .c (rt1 u * rt1 u % pV = u) inferInstance)] rfl rfl rfl ?_ (by repeat' (first | exact True.intro | refine And.intro ?_ ?_ | assumption))
    refine S.g false rfl ?_
    refine S.cond rfl (fun b2 => ?_) (fun b2 => ?_)
    . have b1 : sq1 u = false := by rw [q1]; exact decide_eq_false b2
      refine S.g false rfl ?_
      exact S.ret rfl rfl fun ρ W h => ⟨(), Qf0 ρ [0, 0, 0, 0, 0] false (by rw [e0, b0, b1]; rfl) (by rw [e1, b0, b1]; rfl), trivial, trivial⟩
    . have b1 : sq1 u = true := by rw [q1]; exact decide_eq_true (Decidable.not_not.1 b2)
      refine S.g false rfl ?_
      refine S.cv rfl rfl rfl rfl rfl rfl o1 ?_
      refine S.g false rfl ?_
      refine S.cond rfl (fun b3 => ?_) (fun b3 => ?_)
      . refine S.g false rfl ?_
        refine S.cv rfl rfl rfl rfl rfl rfl n1 ?_
        refine S.g false rfl ?_
        exact S.ret rfl rfl fun ρ W h => ⟨(), Qf0 ρ (QB (YN [] z1)) true (by rw [e0, b0, b1]; simp [evL, b3]) (by rw [e1, b0, b1]; rfl), trivial, trivial⟩
      . refine S.g false rfl ?_
        exact S.ret rfl rfl fun ρ W h => ⟨(), Qf0 ρ z1 true (by rw [e0, b0, b1]; simp [evL, b3]) (by rw [e1, b0, b1]; rfl), trivial, trivial⟩
  . have b0 : sq0 u = true := by rw [q0]; exact decide_eq_true (Decidable.not_not.1 b)
    have b4 : Fe u * Fe u % pV = u := Decidable.not_not.1 b
    refine S.g false rfl ?_
    refine S.drp false [(2, lm y0), (4, .c (Fe u * Fe u % pV = u) inferInstance)] rfl rfl rfl ?_ (by repeat' (first | exact True.intro | refine And.intro ?_ ?_ | assumption))
    refine S.g false rfl ?_
    refine S.condF rfl (fun h => h b4) ?_
    refine S.g false rfl ?_
    refine S.cv rfl rfl rfl rfl rfl rfl o0 ?_
    refine S.g false rfl ?_
    refine S.cond rfl (fun b3 => ?_) (fun b3 => ?_)
    . refine S.g false rfl ?_
      refine S.cv rfl rfl rfl rfl rfl rfl n0 ?_
      refine S.g false rfl ?_
      exact S.ret rfl rfl fun ρ W h => ⟨(), Qf0 ρ (QB (YN [] z0)) true (by rw [e0, b0]; simp [evL, b3]) (by rw [e1, b0]; rfl), trivial, trivial⟩
    . refine S.g false rfl ?_
      exact S.ret rfl rfl fun ρ W h => ⟨(), Qf0 ρ z0 true (by rw [e0, b0]; simp [evL, b3]) (by rw [e1, b0]; rfl), trivial, trivial⟩
theorem Qgy {z : List Int} (hz : Qh z) (hl : z.length = 32) : PV Tryz.prog gT 136 [.a .u8 z 32] (.a .u8 (Xf (Qq z 32 % pV)) 32) := by
  have h1 := Qhp hz hl
  have h2 := Gm (EO z hz)
  refine PV.mk' Tryz.func136 rfl rfl rfl rfl fun w L hL hG => ?_
  refine S.enter Qw [.a .u8 z 32] gT Tryz.func136 rfl rfl rfl (fun _ => rfl) hL hG ?_
  refine S.go false rfl (by repeat' (first | exact True.intro | refine And.intro ?_ ?_ | assumption | exact rfl)) ?_
  refine S.cv rfl rfl rfl rfl rfl rfl h1 ?_
  refine S.g false rfl ?_
  refine S.cv rfl rfl rfl rfl rfl rfl h2 ?_
  refine S.go false rfl (by repeat' (first | exact True.intro | refine And.intro ?_ ?_ | exact QP _ | exact rfl)) ?_
  exact S.retv rfl rfl rfl rfl rfl
theorem QiY {z : List Int} (hz : Qh z) (hl : z.length = 32) : PV Tryz.prog gT 130 [.a .u8 z 32] (.c (Qq z 32 < pV) inferInstance) := by
  have h1 := Qgy hz hl
  refine PV.mk' Tryz.func130 rfl rfl rfl rfl fun w L hL hG => ?_
  refine S.enter Qw [.a .u8 z 32] gT Tryz.func130 rfl rfl rfl (fun _ => rfl) hL hG ?_
  refine S.go false rfl (by repeat' (first | exact True.intro | refine And.intro ?_ ?_ | assumption | exact rfl)) ?_
  refine S.drp false [(1, .a .u8 (Xf (Qq z 32 % pV)) 32)] rfl rfl rfl ?_ (by repeat' (first | exact True.intro | refine And.intro ?_ ?_ | assumption | exact QP _))
  refine S.g false rfl ?_
  refine S.retv rfl rfl rfl rfl ?_
  simp only [SV.den]
  rw [Dk hz hl]
/-- A point in the plane, one in space. -/
def pl (x y : List Int) : SV := .g [.i .u64 (Qb x 0), .i .u64 (Qb x 1), .i .u64 (Qb x 2), .i .u64 (Qb x 3), .i .u64 (Qb x 4), .i .u64 (Qb y 0), .i .u64 (Qb y 1), .i .u64 (Qb y 2), .i .u64 (Qb y 3), .i .u64 (Qb y 4)]
def sp (x y z t : List Int) : SV := .g [.i .u64 (Qb x 0), .i .u64 (Qb x 1), .i .u64 (Qb x 2), .i .u64 (Qb x 3), .i .u64 (Qb x 4), .i .u64 (Qb y 0), .i .u64 (Qb y 1), .i .u64 (Qb y 2), .i .u64 (Qb y 3), .i .u64 (Qb y 4), .i .u64 (Qb z 0), .i .u64 (Qb z 1), .i .u64 (Qb z 2), .i .u64 (Qb z 3), .i .u64 (Qb z 4), .i .u64 (Qb t 0), .i .u64 (Qb t 1), .i .u64 (Qb t 2), .i .u64 (Qb t 3), .i .u64 (Qb t 4)]
theorem QcD {x y : List Int} {u v : Int} (hx : Xo x u) (hy : Xo y v) : ∃ z, Xo z ((v + u) % pV) /\ PV Tryz.prog gT 115 [pl x y] (lm z) := by
  have h := QgR _ _ hy.small hx.small
  refine ⟨_, Qa5 hy hx, PV.mk' Tryz.func115 rfl rfl rfl rfl fun w L hL hG => ?_⟩
  refine S.enter Qw [pl x y] gT Tryz.func115 rfl rfl rfl (fun _ => rfl) hL hG ?_
  refine S.g false rfl ?_
  refine S.cv rfl rfl rfl rfl rfl rfl h ?_
  refine S.g false rfl ?_
  exact S.retv rfl rfl rfl rfl rfl
theorem QdN {x y : List Int} {u v : Int} (hx : Xo x u) (hy : Xo y v) : ∃ z, Xo z ((v - u) % pV) /\ PV Tryz.prog gT 118 [pl x y] (lm z) := by
  have h := DD _ _ hy.small hx.small
  refine ⟨_, Uz hy hx, PV.mk' Tryz.func118 rfl rfl rfl rfl fun w L hL hG => ?_⟩
  refine S.enter Qw [pl x y] gT Tryz.func118 rfl rfl rfl (fun _ => rfl) hL hG ?_
  refine S.g false rfl ?_
  refine S.cv rfl rfl rfl rfl rfl rfl h ?_
  refine S.g false rfl ?_
  exact S.retv rfl rfl rfl rfl rfl
theorem QmE : GL Tryz.prog gT 49 4 (lm dL) := GL.of Qw (DK dL) gT1 rfl (UZ rfl) rfl (Nat.lt_of_lt_of_le Nat.zero_lt_one (Nat.le_add_right 1 _)) rfl
def dV : Int := YY dL % pV
theorem Qh0 : Xo dL dV := ⟨rfl, YH (by omega) (by omega) (by omega) (by omega) (by omega), rfl⟩
theorem QgQ {x y : List Int} {u : Int} (hx : Xo x u) : ∃ z, Xo z ((0 - u) % pV) /\ PV Tryz.prog gT 71 [pl x y] (pl z y) := by
  have h := UW x hx.small
  have hf := Uz Uh hx
  change Xo (QB (YN [] x)) ((0 - u) % pV) at hf
  generalize QB (YN [] x) = z at *
  refine ⟨z, hf, PV.mk' Tryz.func71 rfl rfl rfl rfl fun w L hL hG => ?_⟩
  refine S.enter Qw [pl x y] gT Tryz.func71 rfl rfl rfl (fun _ => rfl) hL hG ?_
  refine S.g false rfl ?_
  refine S.drp false [(2, lm z)] rfl rfl rfl ?_ (by repeat' (first | exact True.intro | refine And.intro ?_ ?_ | assumption))
  refine S.g false rfl ?_
  exact S.retv rfl rfl rfl rfl rfl
theorem QgE {x y : List Int} {u v : Int} (hx : Xo x u) (hy : Xo y v) : ∃ t, Xo t (u * v % pV) /\ PV Tryz.prog gT 34 [pl x y] (sp x y [1, 0, 0, 0, 0] t) := by
  have h := Ys x y hx.small hy.small
  have hf := X3 hx hy
  have h1 := Hq 1 (by omega)
  generalize QB (XT x y) = t at *
  refine ⟨t, hf, PV.mk' Tryz.func34 rfl rfl rfl rfl fun w L hL hG => ?_⟩
  refine S.enter Qw [pl x y] gT Tryz.func34 rfl rfl rfl (fun _ => rfl) hL hG ?_
  refine S.g false rfl ?_
  refine S.drp false [(1, lm [1, 0, 0, 0, 0]), (6, lm t)] rfl rfl rfl ?_ (by repeat' (first | exact True.intro | refine And.intro ?_ ?_ | assumption))
  refine S.g false rfl ?_
  exact S.retv rfl rfl rfl rfl rfl
theorem EY {e f g h : List Int} {a b c d : Int} (he : Xo e a) (hf : Xo f b) (hg : Xo g c) (hh : Xo h d) : ∃ x y z t, Xo x (a * b % pV) /\ Xo y (c * d % pV) /\ Xo z (b * c % pV) /\ Xo t (a * d % pV) /\ PV Tryz.prog gT 117 [lm e, lm f, lm g, lm h] (sp x y z t) := by
  have t1 := Ys e f he.small hf.small
  have t2 := Ys g h hg.small hh.small
  have t3 := Ys f g hf.small hg.small
  have t4 := Ys e h he.small hh.small
  have f1 := X3 he hf
  have f2 := X3 hg hh
  have f3 := X3 hf hg
  have f4 := X3 he hh
  generalize QB (XT e f) = x at *
  generalize QB (XT g h) = y at *
  generalize QB (XT f g) = z at *
  generalize QB (XT e h) = t at *
  refine ⟨x, y, z, t, f1, f2, f3, f4, PV.mk' Tryz.func117 rfl rfl rfl rfl fun w L hL hG => ?_⟩
  refine S.enter Qw [lm e, lm f, lm g, lm h] gT Tryz.func117 rfl rfl rfl (fun _ => rfl) hL hG ?_
  refine S.g false rfl ?_
  refine S.drp false [(2, lm x), (5, lm y), (9, lm z), (12, lm t)] rfl rfl rfl ?_ (by repeat' (first | exact True.intro | refine And.intro ?_ ?_ | assumption))
  refine S.g false rfl ?_
  exact S.retv rfl rfl rfl rfl rfl
theorem UQ {x y : List Int} {u v : Int} (hx : Xo x u) (hy : Xo y v) : ∃ z, Xo z ((u + v) % pV) /\ PV Tryz.prog gT 114 [lm x, lm y] (lm z) := ⟨_, Qa5 hx hy, QgR _ _ hx.small hy.small⟩
theorem Vu {x y : List Int} {u v : Int} (hx : Xo x u) (hy : Xo y v) : ∃ z, Xo z ((u - v) % pV) /\ PV Tryz.prog gT 116 [lm x, lm y] (lm z) := ⟨_, Uz hx hy, DD _ _ hx.small hy.small⟩
theorem X7 {x y : List Int} {u v : Int} (hx : Xo x u) (hy : Xo y v) : ∃ z, Xo z (u * v % pV) /\ PV Tryz.prog gT 84 [lm x, lm y] (lm z) := ⟨_, X3 hx hy, Ys _ _ hx.small hy.small⟩
theorem QkG {x1 y1 z1 t1 x2 y2 z2 t2 : List Int} {a1 b1 c1 d1 a2 b2 c2 d2 : Int} (hx1 : Xo x1 a1) (hy1 : Xo y1 b1) (hz1 : Xo z1 c1) (ht1 : Xo t1 d1) (hx2 : Xo x2 a2) (hy2 : Xo y2 b2) (hz2 : Xo z2 c2) (ht2 : Xo t2 d2) :
    ∃ A B C F : Int, A = (b1 - a1) % pV * ((b2 - a2) % pV) % pV /\ B = (b1 + a1) % pV * ((b2 + a2) % pV) % pV /\ C = (d1 * d2 % pV * dV % pV + d1 * d2 % pV * dV % pV) % pV /\ F = (c1 * c2 % pV + c1 * c2 % pV) % pV /\
    ∃ x y z t, Xo x ((B - A) % pV * ((F - C) % pV) % pV) /\ Xo y ((F + C) % pV * ((B + A) % pV) % pV) /\ Xo z ((F - C) % pV * ((F + C) % pV) % pV) /\ Xo t ((B - A) % pV * ((B + A) % pV) % pV) /\ PV Tryz.prog gT 82 [sp x1 y1 z1 t1, sp x2 y2 z2 t2] (sp x y z t) := by
  obtain ⟨p1, f1, q1⟩ := QdN hx1 hy1
  obtain ⟨p2, f2, q2⟩ := QdN hx2 hy2
  obtain ⟨a, fa, qa⟩ := X7 f1 f2
  obtain ⟨p3, f3, q3⟩ := QcD hx1 hy1
  obtain ⟨p4, f4, q4⟩ := QcD hx2 hy2
  obtain ⟨b, fb, qb⟩ := X7 f3 f4
  obtain ⟨p5, f5, q5⟩ := X7 ht1 ht2
  obtain ⟨p6, f6, q6⟩ := X7 f5 Qh0
  obtain ⟨c, fc, qc⟩ := UQ f6 f6
  obtain ⟨p7, f7, q7⟩ := X7 hz1 hz2
  obtain ⟨f, ff, qf⟩ := UQ f7 f7
  obtain ⟨e, fe, qe⟩ := Vu fb fa
  obtain ⟨g, fg, qg⟩ := Vu ff fc
  obtain ⟨h, fh, qh⟩ := UQ ff fc
  obtain ⟨i, fi, qi⟩ := UQ fb fa
  obtain ⟨x, y, z, t, k1, k2, k3, k4, k5⟩ := EY fe fg fh fi
  refine ⟨_, _, _, _, rfl, rfl, rfl, rfl, x, y, z, t, k1, k2, k3, k4, PV.mk' Tryz.func82 rfl rfl rfl rfl fun w L hL hG => ?_⟩
  clear f1 f2 fa f3 f4 fb f5 f6 fc f7 ff fe fg fh fi k1 k2 k3 k4 hx1 hy1 hz1 ht1 hx2 hy2 hz2 ht2
  have gd := QmE
  refine S.enter Qw [sp x1 y1 z1 t1, sp x2 y2 z2 t2] gT Tryz.func82 rfl rfl rfl (fun _ => rfl) hL hG ?_
  refine S.g false rfl ?_
  refine S.drp false [(2, lm p1), (5, lm p2), (6, lm a)] rfl rfl rfl ?_ (by repeat' (first | exact True.intro | refine And.intro ?_ ?_ | assumption))
  refine S.g false rfl ?_
  refine S.drp false [(2, lm p3), (5, lm p4), (6, lm b)] rfl rfl rfl ?_ (by repeat' (first | exact True.intro | refine And.intro ?_ ?_ | assumption))
  refine S.g false rfl ?_
  refine S.drp false [(4, lm p5), (5, lm dL), (6, lm p6)] rfl rfl rfl ?_ (by repeat' (first | exact True.intro | refine And.intro ?_ ?_ | assumption))
  refine S.g false rfl ?_
  refine S.cv rfl rfl rfl rfl rfl rfl qc ?_
  refine S.g false rfl ?_
  refine S.cv rfl rfl rfl rfl rfl rfl q7 ?_
  refine S.g false rfl ?_
  refine S.cv rfl rfl rfl rfl rfl rfl qf ?_
  refine S.g false rfl ?_
  refine S.drp false [(2, lm e), (5, lm g), (8, lm h), (11, lm i), (12, sp x y z t)] rfl rfl rfl ?_ (by repeat' (first | exact True.intro | refine And.intro ?_ ?_ | assumption))
  refine S.g false rfl ?_
  exact S.retv rfl rfl rfl rfl rfl
theorem QkZ {x : List Int} {u : Int} (hx : Xo x u) : ∃ z, Xo z ((0 - u) % pV) /\ PV Tryz.prog gT 109 [lm x] (lm z) := by
  have hf := Uz Uh hx
  change Xo (QB (YN [] x)) ((0 - u) % pV) at hf
  exact ⟨_, hf, UW _ hx.small⟩
theorem QfB {x1 y1 z1 t1 : List Int} {a1 b1 c1 d1 : Int} (hx1 : Xo x1 a1) (hy1 : Xo y1 b1) (hz1 : Xo z1 c1) (ht1 : Xo t1 d1) :
    ∃ A B C E G H : Int, A = a1 * a1 % pV /\ B = b1 * b1 % pV /\ C = (c1 * c1 % pV + c1 * c1 % pV) % pV /\ E = (((b1 + a1) % pV * ((b1 + a1) % pV) % pV - A) % pV - B) % pV /\ G = (B - A) % pV /\ H = (0 - (A + B) % pV) % pV /\
    ∃ x y z t, Xo x (E * ((G - C) % pV) % pV) /\ Xo y (G * H % pV) /\ Xo z ((G - C) % pV * G % pV) /\ Xo t (E * H % pV) /\ PV Tryz.prog gT 81 [sp x1 y1 z1 t1] (sp x y z t) := by
  obtain ⟨a, fa, qa⟩ := X7 hx1 hx1
  obtain ⟨b, fb, qb⟩ := X7 hy1 hy1
  obtain ⟨c0, f0, q0⟩ := X7 hz1 hz1
  obtain ⟨c, fc, qc⟩ := UQ f0 f0
  obtain ⟨s, fs, qs⟩ := QcD hx1 hy1
  obtain ⟨s2, f2, q2⟩ := X7 fs fs
  obtain ⟨s3, f3, q3⟩ := Vu f2 fa
  obtain ⟨e, fe, qe⟩ := Vu f3 fb
  obtain ⟨g, fg, qg⟩ := Vu fb fa
  obtain ⟨k, fk, qk⟩ := Vu fg fc
  obtain ⟨h0, fh0, qh0⟩ := UQ fa fb
  obtain ⟨h, fh, qh⟩ := QkZ fh0
  obtain ⟨x, y, z, t, k1, k2, k3, k4, k5⟩ := EY fe fk fg fh
  refine ⟨_, _, _, _, _, _, rfl, rfl, rfl, rfl, rfl, rfl, x, y, z, t, k1, k2, k3, k4, PV.mk' Tryz.func81 rfl rfl rfl rfl fun w L hL hG => ?_⟩
  clear fa fb f0 fc fs f2 f3 fe fg fk fh0 fh k1 k2 k3 k4 hx1 hy1 hz1 ht1
  refine S.enter Qw [sp x1 y1 z1 t1] gT Tryz.func81 rfl rfl rfl (fun _ => rfl) hL hG ?_
  refine S.g false rfl ?_
  refine S.drp false [(6, lm a), (13, lm b), (18, lm c0)] rfl rfl rfl ?_ (by repeat' (first | exact True.intro | refine And.intro ?_ ?_ | assumption))
  refine S.g false rfl ?_
  refine S.cv rfl rfl rfl rfl rfl rfl qc ?_
  refine S.g false rfl ?_
  refine S.cv rfl rfl rfl rfl rfl rfl qs ?_
  refine S.g false rfl ?_
  refine S.drp false [(2, lm s2), (4, lm s3), (6, lm e)] rfl rfl rfl ?_ (by repeat' (first | exact True.intro | refine And.intro ?_ ?_ | assumption))
  refine S.g false rfl ?_
  refine S.cv rfl rfl rfl rfl rfl rfl qg ?_
  refine S.g false rfl ?_
  refine S.drp false [(3, lm k), (7, lm h0), (8, lm h), (9, sp x y z t)] rfl rfl rfl ?_ (by repeat' (first | exact True.intro | refine And.intro ?_ ?_ | assumption))
  refine S.g false rfl ?_
  exact S.retv rfl rfl rfl rfl rfl
theorem Qlw {x1 y1 z1 t1 : List Int} {a1 b1 c1 : Int} (hx1 : Xo x1 a1) (hy1 : Xo y1 b1) (hz1 : Xo z1 c1) : ∃ x y, Xo x (a1 * Qbx c1 % pV) /\ Xo y (b1 * Qbx c1 % pV) /\ PV Tryz.prog gT 35 [sp x1 y1 z1 t1] (pl x y) := by
  obtain ⟨i, fi, qi⟩ := EQ hz1
  obtain ⟨x, fx, qx⟩ := X7 hx1 fi
  obtain ⟨y, fy, qy⟩ := X7 hy1 fi
  refine ⟨x, y, fx, fy, PV.mk' Tryz.func35 rfl rfl rfl rfl fun w L hL hG => ?_⟩
  clear fi fx fy hx1 hy1 hz1
  refine S.enter Qw [sp x1 y1 z1 t1] gT Tryz.func35 rfl rfl rfl (fun _ => rfl) hL hG ?_
  refine S.g false rfl ?_
  refine S.cv rfl rfl rfl rfl rfl rfl qi ?_
  refine S.g false rfl ?_
  refine S.drp false [(4, lm x), (9, lm y)] rfl rfl rfl ?_ (by repeat' (first | exact True.intro | refine And.intro ?_ ?_ | assumption))
  refine S.g false rfl ?_
  exact S.retv rfl rfl rfl rfl rfl
/-- A point's bytes: y, and whether x is odd. -/
def QbH (u v : Int) : List Int := if u % 2 = 1 then (Xf v).set 31 (bits .or .u8 ((Xf v).getD 31 0) 128) else Xf v
theorem QhJ {u v : Int} (h : u % 2 = 1) : (Xf v).set 31 (bits .or .u8 ((Xf v).getD 31 0) 128) = QbH u v := by unfold QbH; rw [if_pos h]
theorem Qfz {u v : Int} (h : ¬ u % 2 = 1) : Xf v = QbH u v := by unfold QbH; rw [if_neg h]
theorem QgU {x y : List Int} {u v : Int} (hx : Xo x u) (hy : Xo y v) : PV Tryz.prog gT 36 [pl x y] (.a .u8 (QbH u v) 32) := by
  have h1 := Gm hy
  have h2 := Qg6 hx
  have e1 := @QhJ u v
  have e2 := @Qfz u v
  have hl : (Xf v).length = 32 := QP v
  generalize QbH u v = E at *
  generalize Xf v = Z at *
  clear hx hy
  refine PV.mk' Tryz.func36 rfl rfl rfl rfl fun w L hL hG => ?_
  refine S.enter Qw [pl x y] gT Tryz.func36 rfl rfl rfl (fun _ => rfl) hL hG ?_
  refine S.g false rfl ?_
  refine S.cv rfl rfl rfl rfl rfl rfl h1 ?_
  refine S.go false rfl (by repeat' (first | exact True.intro | refine And.intro ?_ ?_ | assumption | exact rfl)) ?_
  refine S.cv rfl rfl rfl rfl rfl rfl h2 ?_
  refine S.g false rfl ?_
  refine S.cond rfl (fun c => ?_) (fun c => ?_)
  . rw [<- e1 c]
    have hl' : (Z.set 31 (bits .or .u8 (Z.getD 31 0) 128)).length = 32 := by rw [List.length_set]; exact hl
    refine S.go false rfl (by repeat' (first | exact True.intro | refine And.intro ?_ ?_ | exact hl | exact hl' | exact rfl)) ?_
    exact S.retv rfl rfl rfl rfl rfl
  . rw [<- e2 c]
    refine S.go false rfl (by repeat' (first | exact True.intro | refine And.intro ?_ ?_ | exact hl | exact rfl)) ?_
    exact S.retv rfl rfl rfl rfl rfl
end Go.Proofs.YtbiboamaigedjaaGreatDoor
namespace Go.Proofs.YtbiboamaigedjaaGreatDoor
set_option linter.unusedVariables false
set_option maxRecDepth 100000

instance instPN : NeZero pN := ⟨by decide +kernel⟩
/-- Numbers modulo p. -/
abbrev FF := Fin pN
theorem FF.dvd {a : FF} (h : pN ∣ a.val) : a = 0 := by
  have hl := a.isLt
  have h0 : a.val = 0 := Nat.eq_zero_of_dvd_of_lt h hl
  exact Fin.ext h0
theorem Eg {a b : FF} (h : a*b = 0) : a = 0 \/ b = 0 := by
  have hv : (a*b).val = 0 := by rw [h]; rfl
  rw [Fin.val_mul] at hv
  rcases Jn.euclid (Nat.dvd_of_mod_eq_zero hv) with d | d
  . exact .inl (FF.dvd d)
  . exact .inr (FF.dvd d)
/-- An inverse, by Fermat. -/
def Yd (a : FF) : FF := ⟨a.val ^ (pN - 2) % pN, Nat.mod_lt _ (by decide +kernel)⟩
theorem VB {a : FF} (h : a ≠ 0) : a*Yd a = 1 := by
  have hn : ¬ pN ∣ a.val := fun d => h (FF.dvd d)
  have hf := Jn.fermat hn
  apply Fin.ext
  rw [Fin.val_mul]
  show a.val * (a.val ^ (pN - 2) % pN) % pN = 1
  rw [Nat.mul_mod, Nat.mod_mod, <- Nat.mul_mod, Nat.mul_comm, <- Nat.pow_succ, show (pN - 2).succ = pN - 1 by decide +kernel, hf]
  decide +kernel
def dF : FF := 37095705934669439343138083508754565189542113879843219016388785533085940283555
def eF : FF := 29203323570479832313932222820853031755424015489030106335172286495629888845891
def iF : FF := 19681161376707505956807079304988542015446066515923890162744021073123829784752
theorem U9 : dF*eF = 1 := by decide +kernel
theorem Qh1 : dF.val ^ ((pN - 1) / 2) % pN = pN - 1 := by
  have h := QcF pN dF.val 256 ((pN - 1) / 2) (by decide +kernel)
  rw [<- h]
  decide +kernel
theorem Qkx (s : FF) : s*s ≠ dF := by
  intro h
  have hs : s ≠ 0 := by rintro rfl; exact absurd h (by decide +kernel)
  have hn : ¬ pN ∣ s.val := fun d => hs (FF.dvd d)
  have hf := Jn.fermat hn
  have he := Qh1
  rw [<- h, Fin.val_mul, <- Nat.pow_mod, Nat.mul_pow, <- Nat.pow_add, show (pN - 1) / 2 + (pN - 1) / 2 = pN - 1 by decide +kernel, hf] at he
  exact absurd he (by decide +kernel)
def On (d x y : FF) : Prop := y*y - x*x = 1 + d*(x*x)*(y*y)
theorem US {d e x y : FF} (hde : d*e = 1) (h : On d x y) : x*x*(y*y) = e*(y*y - x*x - 1) := by unfold On at h; grobner
theorem Qg1 {d e x1 y1 x2 y2 : FF} (hde : d*e = 1) (h1 : x1*x1*(y1*y1) = e*(y1*y1 - x1*x1 - 1)) (h2 : x2*x2*(y2*y2) = e*(y2*y2 - x2*x2 - 1)) (t m n : FF) (ht : t = d*x1*x2*y1*y2) (hm : m = x1*y2+x2*y1) (hn : n = y1*y2+x1*x2) :
   (n*(1+t))*(n*(1+t)) - (m*(1-t))*(m*(1-t)) = ((1+t)*(1-t))*((1+t)*(1-t)) + d*(m*n)*(m*n) := by
  subst ht hm hn; grobner
theorem Qk9 {d m n t a b : FF} (hk : (n*(1+t))*(n*(1+t)) - (m*(1-t))*(m*(1-t)) = ((1+t)*(1-t))*((1+t)*(1-t)) + d*(m*n)*(m*n)) (ha : a*(1+t) = 1) (hb : b*(1-t) = 1) : On d (m*a) (n*b) := by
  unfold On
  have e1 : n*b*(n*b) = (n*(1+t))*(n*(1+t)) * (a*b*(a*b)) := by grobner
  have e2 : m*a*(m*a) = (m*(1-t))*(m*(1-t)) * (a*b*(a*b)) := by grobner
  have e3 : ((1+t)*(1-t))*((1+t)*(1-t)) * (a*b*(a*b)) = 1 := by grobner
  grobner
theorem Qmy {d e x1 y1 x2 y2 i ε : FF} (hde : d*e=1) (h1 : x1*x1*(y1*y1) = e*(y1*y1 - x1*x1 - 1)) (h2 : x2*x2*(y2*y2) = e*(y2*y2 - x2*x2 - 1)) (hi : i*i = -1) (he : ε*ε = 1) (ht : d*x1*x2*y1*y2 = ε) :
  (i*x1 + ε*y1)*(i*x1 + ε*y1) = d*(x1*y1*(i*x2 + y2))*(x1*y1*(i*x2+y2)) := by
  grobner
theorem QhC : iF*iF = -1 := by decide +kernel
theorem Qdg {a b c : FF} (ha : a ≠ 0) (h : a*b = a*c) : b = c := by
  rcases Eg (a := a) (b := b - c) (by grobner) with h | h
  . exact absurd h ha
  . grobner
theorem QbR {x1 y1 x2 y2 ε : FF} (h1 : On dF x1 y1) (h2 : On dF x2 y2) (he : ε*ε = 1) : dF*x1*x2*y1*y2 ≠ ε := by
  intro ht
  have k1 := US U9 h1
  have k2 := US U9 h2
  have hne : ε ≠ 0 := by rintro rfl; exact absurd he (by decide +kernel)
  have hx1 : x1 ≠ 0 := by rintro rfl; exact hne (by grobner)
  have hy1 : y1 ≠ 0 := by rintro rfl; exact hne (by grobner)
  have hx2 : x2 ≠ 0 := by rintro rfl; exact hne (by grobner)
  have hy2 : y2 ≠ 0 := by rintro rfl; exact hne (by grobner)
  have step : ∀ η : FF, η*η = 1 -> ∀ v, (iF*x1 + η*y1)*(iF*x1 + η*y1) = dF*(x1*y1*v)*(x1*y1*v) -> v = 0 := by
    intro η hη v hv
    refine Classical.byContradiction fun hv0 => ?_
    have hz : x1*y1*v ≠ 0 := fun e => by
      rcases Eg e with e | e
      . rcases Eg e with e | e
        . exact hx1 e
        . exact hy1 e
      . exact hv0 e
    have hi := VB hz
    refine Qkx ((iF*x1 + η*y1)*Yd (x1*y1*v)) ?_
    generalize x1*y1*v = z at *
    generalize iF*x1 + η*y1 = u at *
    generalize Yd z = f at *
    have e1 : u*f*(u*f) = u*u*(f*f) := by grobner
    have e2 : dF*z*z*(f*f) = dF*(z*f)*(z*f) := by grobner
    rw [e1, hv, e2, hi]
    grobner
  have a1 := step ε he (iF*x2+y2) (Qmy U9 k1 k2 QhC he ht)
  have a2 := step (-ε) (by grobner) (iF*x2-y2) (by have := Qmy (ε := -ε) (y2 := -y2) (x2 := x2) (y1 := y1) (x1 := x1) U9 k1 (by grobner) QhC (by grobner) (by grobner); grobner)
  have h2 : (2 : FF)*y2 = 0 := by grobner
  rcases Eg h2 with h | h
  . exact absurd h (by decide +kernel)
  . exact hy2 h
theorem Ej {x1 y1 x2 y2 : FF} (h1 : On dF x1 y1) (h2 : On dF x2 y2) : 1 + dF*x1*x2*y1*y2 ≠ 0 := fun h => QbR (ε := -1) h1 h2 (by decide +kernel) (by grobner)
theorem Ei {x1 y1 x2 y2 : FF} (h1 : On dF x1 y1) (h2 : On dF x2 y2) : 1 - dF*x1*x2*y1*y2 ≠ 0 := fun h => QbR (ε := 1) h1 h2 (by decide +kernel) (by grobner)
structure Pt where
  x : FF
  y : FF
  on : On dF x y
theorem Pt.ext {P Q : Pt} (hx : P.x = Q.x) (hy : P.y = Q.y) : P = Q := by cases P; cases Q; simp_all
theorem Qju {a : FF} (h : a ≠ 0) : Yd a * a = 1 := by have := VB h; grobner
def Qy (P Q : Pt) : Pt where
  x := (P.x*Q.y + Q.x*P.y)*Yd (1 + dF*P.x*Q.x*P.y*Q.y)
  y := (P.y*Q.y + P.x*Q.x)*Yd (1 - dF*P.x*Q.x*P.y*Q.y)
  on := Qk9 (Qg1 U9 (US U9 P.on) (US U9 Q.on) _ _ _ rfl rfl rfl) (Qju (Ej P.on Q.on)) (Qju (Ei P.on Q.on))
def XU : Pt := ⟨0, 1, by unfold On; decide +kernel⟩
def YZ (P : Pt) : Pt := ⟨-P.x, P.y, by have := P.on; unfold On at *; grobner⟩
theorem Us (P Q : Pt) : Qy P Q = Qy Q P := by
  apply Pt.ext
  . show (P.x*Q.y + Q.x*P.y)*Yd (1 + dF*P.x*Q.x*P.y*Q.y) = (Q.x*P.y + P.x*Q.y)*Yd (1 + dF*Q.x*P.x*Q.y*P.y)
    have e : dF*P.x*Q.x*P.y*Q.y = dF*Q.x*P.x*Q.y*P.y := by grobner
    rw [e]; grobner
  . show (P.y*Q.y + P.x*Q.x)*Yd (1 - dF*P.x*Q.x*P.y*Q.y) = (Q.y*P.y + Q.x*P.x)*Yd (1 - dF*Q.x*P.x*Q.y*P.y)
    have e : dF*P.x*Q.x*P.y*Q.y = dF*Q.x*P.x*Q.y*P.y := by grobner
    rw [e]; grobner
/-- What a sum is, by products. -/
theorem Jm (P Q : Pt) : (Qy P Q).x * (1 + dF*P.x*Q.x*P.y*Q.y) = P.x*Q.y + Q.x*P.y := by
  have h := Qju (Ej P.on Q.on)
  show (P.x*Q.y + Q.x*P.y)*Yd (1 + dF*P.x*Q.x*P.y*Q.y) * (1 + dF*P.x*Q.x*P.y*Q.y) = _
  generalize Yd (1 + dF*P.x*Q.x*P.y*Q.y) = v at *
  generalize (1 + dF*P.x*Q.x*P.y*Q.y) = u at *
  grobner
theorem Jl (P Q : Pt) : (Qy P Q).y * (1 - dF*P.x*Q.x*P.y*Q.y) = P.y*Q.y + P.x*Q.x := by
  have h := Qju (Ei P.on Q.on)
  show (P.y*Q.y + P.x*Q.x)*Yd (1 - dF*P.x*Q.x*P.y*Q.y) * (1 - dF*P.x*Q.x*P.y*Q.y) = _
  generalize Yd (1 - dF*P.x*Q.x*P.y*Q.y) = v at *
  generalize (1 - dF*P.x*Q.x*P.y*Q.y) = u at *
  grobner
/-- A sum is told by what it makes with its divisors. -/
theorem QdO {P Q R : Pt} (hx : R.x * (1 + dF*P.x*Q.x*P.y*Q.y) = P.x*Q.y + Q.x*P.y) (hy : R.y * (1 - dF*P.x*Q.x*P.y*Q.y) = P.y*Q.y + P.x*Q.x) : Qy P Q = R := by
  have h1 := Jm P Q
  have h2 := Jl P Q
  apply Pt.ext
  . exact Qdg (Ej P.on Q.on) (by rw [<- hx] at h1; generalize 1 + dF*P.x*Q.x*P.y*Q.y = u at *; grobner)
  . exact Qdg (Ei P.on Q.on) (by rw [<- hy] at h2; generalize 1 - dF*P.x*Q.x*P.y*Q.y = u at *; grobner)
theorem ZP (P : Pt) : Qy P XU = P := QdO (by simp only [XU]; grobner) (by simp only [XU]; grobner)
theorem Qbd (P : Pt) : Qy P (YZ P) = XU := by
  have := P.on
  refine QdO ?_ ?_ <;> simp only [XU, YZ] <;> unfold On at this <;> grobner
theorem Qj2 {d e x1 y1 x2 y2 x3 y3 : FF} (h0 : d * e = 1) (h1 : x1*x1*(y1*y1) = e*(y1*y1 - x1*x1 - 1)) (h2 : x2*x2*(y2*y2) = e*(y2*y2 - x2*x2 - 1)) (h3 : x3*x3*(y3*y3) = e*(y3*y3 - x3*x3 - 1))
  (m n m' n' t s : FF) (hm : m = x1*y2+x2*y1) (hn : n = y1*y2+x1*x2) (ht : t = d*x1*x2*y1*y2) (hm' : m' = x2*y3+x3*y2) (hn' : n' = y2*y3+x2*x3) (hs : s = d*x2*x3*y2*y3) :
  (m*(1-t)*y3 + n*(1+t)*x3) * ((1+s)*(1-s) + d*m'*n'*x1*y1) = (m'*(1-s)*y1 + n'*(1+s)*x1) * ((1+t)*(1-t) + d*m*n*x3*y3) := by
  subst hm hn ht hm' hn' hs
  grobner
theorem Qj1 {d e x1 y1 x2 y2 x3 y3 : FF} (h0 : d * e = 1) (h1 : x1*x1*(y1*y1) = e*(y1*y1 - x1*x1 - 1)) (h2 : x2*x2*(y2*y2) = e*(y2*y2 - x2*x2 - 1)) (h3 : x3*x3*(y3*y3) = e*(y3*y3 - x3*x3 - 1))
  (m n m' n' t s : FF) (hm : m = x1*y2+x2*y1) (hn : n = y1*y2+x1*x2) (ht : t = d*x1*x2*y1*y2) (hm' : m' = x2*y3+x3*y2) (hn' : n' = y2*y3+x2*x3) (hs : s = d*x2*x3*y2*y3) :
  (n*(1+t)*y3 + m*(1-t)*x3) * ((1+s)*(1-s) - d*m'*n'*x1*y1) = (n'*(1+s)*y1 + m'*(1-s)*x1) * ((1+t)*(1-t) - d*m*n*x3*y3) := by
  subst hm hn ht hm' hn' hs
  grobner
theorem QmR {s u A B x y r1 r2 : FF} (h : s*u = x*r2 + r1*y) : s*(A*B*u) = x*A*B*r2 + y*B*A*r1 := by
  have e : s*(A*B*u) = s*u*(A*B) := by grobner
  rw [e, h]; grobner
theorem QmQ {s u C D x y p1 p2 : FF} (h : s*u = p1*y + x*p2) : s*(C*D*u) = x*C*D*p2 + y*D*C*p1 := by
  have e : s*(C*D*u) = s*u*(C*D) := by grobner
  rw [e, h]; grobner
theorem QmP {s u A B x y r1 r2 : FF} (h : s*u = y*r2 + x*r1) : s*(A*B*u) = y*B*A*r2 + x*A*B*r1 := by
  have e : s*(A*B*u) = s*u*(A*B) := by grobner
  rw [e, h]; grobner
theorem QmS {s u C D x y p1 p2 : FF} (h : s*u = p2*y + p1*x) : s*(C*D*u) = y*D*C*p2 + x*C*D*p1 := by
  have e : s*(C*D*u) = s*u*(C*D) := by grobner
  rw [e, h]; grobner
theorem XV (P Q R : Pt) : Qy (Qy P Q) R = Qy P (Qy Q R) := by
  have k1 := US U9 P.on
  have k2 := US U9 Q.on
  have k3 := US U9 R.on
  have ax := Qj2 U9 k1 k2 k3 _ _ _ _ _ _ rfl rfl rfl rfl rfl rfl
  have ay := Qj1 U9 k1 k2 k3 _ _ _ _ _ _ rfl rfl rfl rfl rfl rfl
  have p1 := Jm P Q
  have p2 := Jl P Q
  have p3 := Jm Q R
  have p4 := Jl Q R
  have a1 := Ej P.on Q.on
  have a2 := Ei P.on Q.on
  have a3 := Ej Q.on R.on
  have a4 := Ei Q.on R.on
  have s1 := Jm (Qy P Q) R
  have s2 := Jl (Qy P Q) R
  have s3 := Jm P (Qy Q R)
  have s4 := Jl P (Qy Q R)
  have b1 := Ej (Qy P Q).on R.on
  have b2 := Ei (Qy P Q).on R.on
  have b3 := Ej P.on (Qy Q R).on
  have b4 := Ei P.on (Qy Q R).on
  have nz : ∀ {a b : FF}, a ≠ 0 -> b ≠ 0 -> a * b ≠ 0 := fun ha hb h => (Eg h).elim ha hb
  clear k1 k2 k3
  apply Pt.ext
  . generalize (Qy (Qy P Q) R).x = sx at *
    generalize (Qy P (Qy Q R)).x = tx at *
    generalize (Qy P Q).x = x12 at *
    generalize (Qy P Q).y = y12 at *
    generalize (Qy Q R).x = x23 at *
    generalize (Qy Q R).y = y23 at *
    clear s2 s4 ay b2 b4
    have h1 := nz (nz a1 a2) b1
    have h2 := nz (nz a3 a4) b3
    refine Qdg (nz h1 h2) ?_
    generalize hA : 1 + dF*P.x*Q.x*P.y*Q.y = A at *
    generalize hB : 1 - dF*P.x*Q.x*P.y*Q.y = B at *
    generalize hC : 1 + dF*Q.x*R.x*Q.y*R.y = C at *
    generalize hD : 1 - dF*Q.x*R.x*Q.y*R.y = D at *
    have e1 : A*B*(1 + dF*x12*R.x*y12*R.y) = A*B + dF*(P.x*Q.y+Q.x*P.y)*(P.y*Q.y+P.x*Q.x)*R.x*R.y := by rw [<- p1, <- p2]; clear ax; grobner
    have e2 : C*D*(1 + dF*P.x*x23*P.y*y23) = C*D + dF*(Q.x*R.y+R.x*Q.y)*(Q.y*R.y+Q.x*R.x)*P.x*P.y := by rw [<- p3, <- p4]; clear ax; grobner
    have e3 : sx*(A*B*(1 + dF*x12*R.x*y12*R.y)) = (P.x*Q.y+Q.x*P.y)*B*R.y + (P.y*Q.y+P.x*Q.x)*A*R.x := by
      rw [<- p1, <- p2]
      exact QmR s1
    have e4 : tx*(C*D*(1 + dF*P.x*x23*P.y*y23)) = (Q.x*R.y+R.x*Q.y)*D*P.y + (Q.y*R.y+Q.x*R.x)*C*P.x := by
      rw [<- p3, <- p4]
      exact QmQ s3
    rw [<- e3, <- e4, <- e1, <- e2] at ax
    generalize A*B*(1 + dF*x12*R.x*y12*R.y) = U at *
    generalize C*D*(1 + dF*P.x*x23*P.y*y23) = V at *
    clear e1 e2 e3 e4 s1 s3 p1 p2 p3 p4 hA hB hC hD
    grobner
  . generalize (Qy (Qy P Q) R).y = sx at *
    generalize (Qy P (Qy Q R)).y = tx at *
    generalize (Qy P Q).x = x12 at *
    generalize (Qy P Q).y = y12 at *
    generalize (Qy Q R).x = x23 at *
    generalize (Qy Q R).y = y23 at *
    clear s1 s3 ax b1 b3
    have h1 := nz (nz a1 a2) b2
    have h2 := nz (nz a3 a4) b4
    refine Qdg (nz h1 h2) ?_
    generalize hA : 1 + dF*P.x*Q.x*P.y*Q.y = A at *
    generalize hB : 1 - dF*P.x*Q.x*P.y*Q.y = B at *
    generalize hC : 1 + dF*Q.x*R.x*Q.y*R.y = C at *
    generalize hD : 1 - dF*Q.x*R.x*Q.y*R.y = D at *
    have e1 : A*B*(1 - dF*x12*R.x*y12*R.y) = A*B - dF*(P.x*Q.y+Q.x*P.y)*(P.y*Q.y+P.x*Q.x)*R.x*R.y := by rw [<- p1, <- p2]; clear ay; grobner
    have e2 : C*D*(1 - dF*P.x*x23*P.y*y23) = C*D - dF*(Q.x*R.y+R.x*Q.y)*(Q.y*R.y+Q.x*R.x)*P.x*P.y := by rw [<- p3, <- p4]; clear ay; grobner
    have e3 : sx*(A*B*(1 - dF*x12*R.x*y12*R.y)) = (P.y*Q.y+P.x*Q.x)*A*R.y + (P.x*Q.y+Q.x*P.y)*B*R.x := by
      rw [<- p1, <- p2]
      exact QmP s2
    have e4 : tx*(C*D*(1 - dF*P.x*x23*P.y*y23)) = (Q.y*R.y+Q.x*R.x)*C*P.y + (Q.x*R.y+R.x*Q.y)*D*P.x := by
      rw [<- p3, <- p4]
      exact QmS s4
    rw [<- e3, <- e4, <- e1, <- e2] at ay
    generalize A*B*(1 - dF*x12*R.x*y12*R.y) = U at *
    generalize C*D*(1 - dF*P.x*x23*P.y*y23) = V at *
    clear e1 e2 e3 e4 s2 s4 p1 p2 p3 p4 hA hB hC hD
    grobner
theorem Vh (P : Pt) : Qy XU P = P := by rw [Us, ZP]
theorem KZ (P : Pt) : Qy (YZ P) P = XU := by rw [Us, Qbd]
theorem Qbe {P Q R : Pt} (h : Qy P R = Qy Q R) : P = Q := by
  have h2 : Qy (Qy P R) (YZ R) = Qy (Qy Q R) (YZ R) := by rw [h]
  rwa [XV, XV, Qbd, ZP, ZP] at h2
theorem Qe6 (P Q : Pt) : YZ (Qy P Q) = Qy (YZ P) (YZ Q) := by
  refine Qbe (R := Qy P Q) ?_
  rw [KZ, Us P Q, XV, <- XV (YZ Q), KZ, Vh, KZ]
theorem Qe5 : YZ XU = XU := Pt.ext (by show -(0 : FF) = 0; decide +kernel) rfl
/-- So many times a point. -/
def QQ : Nat -> Pt -> Pt
  | 0, _ => XU
  | k + 1, P => Qy (QQ k P) P
theorem Qgf (P : Pt) : QQ 1 P = P := Vh P
theorem ZU (a : Nat) (P : Pt) : ∀ b, QQ (a + b) P = Qy (QQ a P) (QQ b P)
  | 0 => (ZP _).symm
  | b + 1 => by
    show Qy (QQ (a + b) P) P = Qy (QQ a P) (Qy (QQ b P) P)
    rw [ZU a P b, XV]
theorem KI (a : Nat) (P : Pt) : ∀ b, QQ (b * a) P = QQ b (QQ a P)
  | 0 => by rw [Nat.zero_mul]; rfl
  | b + 1 => by
    rw [Nat.succ_mul, ZU, KI a P b]; rfl
theorem QaL (P : Pt) : ∀ k, QQ k (YZ P) = YZ (QQ k P)
  | 0 => Qe5.symm
  | k + 1 => by
    show Qy (QQ k (YZ P)) (YZ P) = YZ (Qy (QQ k P) P)
    rw [QaL P k, Qe6]
theorem GC : ∀ k, QQ k XU = XU
  | 0 => rfl
  | k + 1 => by
    show Qy (QQ k XU) XU = XU
    rw [GC k, ZP]
end Go.Proofs.YtbiboamaigedjaaGreatDoor
namespace Go.Proofs.YtbiboamaigedjaaGreatDoor
open Go.RowKit
set_option linter.unusedVariables false
set_option linter.unusedSimpArgs false
set_option maxRecDepth 8000
set_option maxHeartbeats 2000000

theorem val_mul (a b : FF) : ((a * b).val : Int) = (a.val : Int) * (b.val : Int) % pV := by
  rw [Fin.val_mul, Int.natCast_emod, Int.natCast_mul, Uc]
theorem val_add (a b : FF) : ((a + b).val : Int) = ((a.val : Int) + (b.val : Int)) % pV := by
  rw [Fin.val_add, Int.natCast_emod, Int.natCast_add, Uc]
theorem VV (a b : FF) : ((a - b).val : Int) = ((a.val : Int) - (b.val : Int)) % pV := by
  have hb := b.isLt
  rw [Fin.sub_def, Uc]
  show (((pN - b.val + a.val) % pN : Nat) : Int) = _
  rw [Int.natCast_emod, Int.natCast_add, Int.natCast_sub (by omega)]
  rw [show ((pN : Int) - (b.val : Int) + (a.val : Int)) = (a.val : Int) - (b.val : Int) + (pN : Int) by omega, Int.add_emod_right]
theorem Hm (a : FF) : ((-a).val : Int) = (0 - (a.val : Int)) % pV := by
  have h : -a = 0 - a := by grobner
  rw [h, VV]; rfl
theorem Qf3 : (2 : FF) ≠ 0 := by decide +kernel
theorem nz2 {a b : FF} (ha : a ≠ 0) (hb : b ≠ 0) : a * b ≠ 0 := fun h => (Eg h).elim ha hb
theorem Ql6 {x1 y1 x2 y2 d Z1 Z2 x3 : FF} (h : x3 * (1 + d*x1*x2*y1*y2) = x1*y2 + x2*y1) :
    ((y1*Z1 + x1*Z1) * (y2*Z2 + x2*Z2) - (y1*Z1 - x1*Z1) * (y2*Z2 - x2*Z2)) = x3 * ((Z1*Z2 + Z1*Z2) + (x1*y1*Z1 * (x2*y2*Z2) * d + x1*y1*Z1 * (x2*y2*Z2) * d)) := by
  have e : x3 * ((Z1*Z2 + Z1*Z2) + (x1*y1*Z1 * (x2*y2*Z2) * d + x1*y1*Z1 * (x2*y2*Z2) * d)) = (x3 * (1 + d*x1*x2*y1*y2)) * (2 * Z1 * Z2) := by grobner
  rw [e, h]; grobner
theorem Ql5 {x1 y1 x2 y2 d Z1 Z2 y3 : FF} (h : y3 * (1 - d*x1*x2*y1*y2) = y1*y2 + x1*x2) :
    ((y1*Z1 + x1*Z1) * (y2*Z2 + x2*Z2) + (y1*Z1 - x1*Z1) * (y2*Z2 - x2*Z2)) = y3 * ((Z1*Z2 + Z1*Z2) - (x1*y1*Z1 * (x2*y2*Z2) * d + x1*y1*Z1 * (x2*y2*Z2) * d)) := by
  have e : y3 * ((Z1*Z2 + Z1*Z2) - (x1*y1*Z1 * (x2*y2*Z2) * d + x1*y1*Z1 * (x2*y2*Z2) * d)) = (y3 * (1 - d*x1*x2*y1*y2)) * (2 * Z1 * Z2) := by grobner
  rw [e, h]; grobner
theorem Ql7 {x1 y1 x2 y2 Z1 Z2 : FF} (h1 : Z1 ≠ 0) (h2 : Z2 ≠ 0) (h : 1 + dF*x1*x2*y1*y2 ≠ 0) : (Z1*Z2 + Z1*Z2) + (x1*y1*Z1 * (x2*y2*Z2) * dF + x1*y1*Z1 * (x2*y2*Z2) * dF) ≠ 0 := by
  have e : (Z1*Z2 + Z1*Z2) + (x1*y1*Z1 * (x2*y2*Z2) * dF + x1*y1*Z1 * (x2*y2*Z2) * dF) = 2 * Z1 * Z2 * (1 + dF*x1*x2*y1*y2) := by grobner
  rw [e]; exact nz2 (nz2 (nz2 Qf3 h1) h2) h
theorem Ql8 {x1 y1 x2 y2 Z1 Z2 : FF} (h1 : Z1 ≠ 0) (h2 : Z2 ≠ 0) (h : 1 - dF*x1*x2*y1*y2 ≠ 0) : (Z1*Z2 + Z1*Z2) - (x1*y1*Z1 * (x2*y2*Z2) * dF + x1*y1*Z1 * (x2*y2*Z2) * dF) ≠ 0 := by
  have e : (Z1*Z2 + Z1*Z2) - (x1*y1*Z1 * (x2*y2*Z2) * dF + x1*y1*Z1 * (x2*y2*Z2) * dF) = 2 * Z1 * Z2 * (1 - dF*x1*x2*y1*y2) := by grobner
  rw [e]; exact nz2 (nz2 (nz2 Qf3 h1) h2) h
theorem QlP {P : Pt} : P.y*P.y - P.x*P.x = 1 + dF*P.x*P.x*P.y*P.y := by have h := P.on; unfold On at h; rw [h]; grobner
def c5 (x : List Int) : List Int := [Qb x 0, Qb x 1, Qb x 2, Qb x 3, Qb x 4]
/-- A point in space, its numbers as one. -/
def fp (l : List Int) : SV := .g [.a .u64 l 20]
def l20 (x y z t : List Int) : List Int := c5 x ++ (c5 y ++ (c5 z ++ c5 t))
theorem Qd3 (x y z t : List Int) : (l20 x y z t).length = 20 := rfl
theorem Ew (ρ : QS) (x y z t : List Int) : (sp x y z t).den ρ = (fp (l20 x y z t)).den ρ := by
  simp only [sp, fp, l20, c5, SV.den, Qp, SV.cs, List.cons_append, List.nil_append, List.map_cons, List.map_nil]
/-- These are a point's numbers, times some divisor. -/
def YA (l : List Int) (P : Pt) : Prop := ∃ x y z t : List Int, ∃ Z : FF, l = l20 x y z t /\ Z ≠ 0 /\ Xo x ((P.x * Z : FF).val : Int) /\ Xo y ((P.y * Z : FF).val : Int) /\ Xo z (Z.val : Int) /\ Xo t ((P.x * P.y * Z : FF).val : Int)
theorem YA.len {l : List Int} {P : Pt} (h : YA l P) : l.length = 20 := by obtain ⟨x, y, z, t, Z, rfl, _⟩ := h; exact Qd3 x y z t
theorem QhZ : dV = (dF.val : Int) := by decide +kernel
theorem QfT {l m : List Int} {P Q : Pt} (hp : YA l P) (hq : YA m Q) : ∃ r, YA r (Qy P Q) /\ PV Tryz.prog gT 82 [fp l, fp m] (fp r) := by
  obtain ⟨x1, y1, z1, t1, Z1, rfl, hz1, p1, p2, p3, p4⟩ := hp
  obtain ⟨x2, y2, z2, t2, Z2, rfl, hz2, q1, q2, q3, q4⟩ := hq
  obtain ⟨A, B, C, F, hA, hB, hC, hF, x, y, z, t, k1, k2, k3, k4, k5⟩ := QkG p1 p2 p3 p4 q1 q2 q3 q4
  rw [QhZ] at hC
  simp only [<- val_mul, <- val_add, <- VV] at hA hB hC hF
  subst hA hB hC hF
  simp only [<- val_mul, <- val_add, <- VV] at k1 k2 k3 k4
  have hx := Ql6 (Z1 := Z1) (Z2 := Z2) (Jm P Q)
  have hy := Ql5 (Z1 := Z1) (Z2 := Z2) (Jl P Q)
  have hg := Ql7 hz1 hz2 (Ej P.on Q.on)
  have hf := Ql8 hz1 hz2 (Ei P.on Q.on)
  rw [hx] at k1 k4
  rw [hy] at k2 k4
  generalize (Z1*Z2 + Z1*Z2) + (P.x*P.y*Z1 * (Q.x*Q.y*Z2) * dF + P.x*P.y*Z1 * (Q.x*Q.y*Z2) * dF) = g at *
  generalize (Z1*Z2 + Z1*Z2) - (P.x*P.y*Z1 * (Q.x*Q.y*Z2) * dF + P.x*P.y*Z1 * (Q.x*Q.y*Z2) * dF) = f at *
  refine ⟨l20 x y z t, ⟨x, y, z, t, f * g, rfl, nz2 hf hg, ?_, ?_, k3, ?_⟩, ?_⟩
  . have e : (Qy P Q).x * (f * g) = (Qy P Q).x * g * f := by grobner
    rw [e]; exact k1
  . have e : (Qy P Q).y * (f * g) = g * ((Qy P Q).y * f) := by grobner
    rw [e]; exact k2
  . have e : (Qy P Q).x * (Qy P Q).y * (f * g) = (Qy P Q).x * g * ((Qy P Q).y * f) := by grobner
    rw [e]; exact k4
  . exact (k5.arg (by simp only [QO, Ew]) rfl).res (Ew _ _ _ _ _) rfl
theorem JU {l : List Int} {P : Pt} (hp : YA l P) : ∃ r, YA r (Qy P P) /\ PV Tryz.prog gT 81 [fp l] (fp r) := by
  obtain ⟨x1, y1, z1, t1, Z, rfl, h1, p1, p2, p3, p4⟩ := hp
  obtain ⟨A, B, C, E, G, H, hA, hB, hC, hE, hG, hH, x, y, z, t, k1, k2, k3, k4, k5⟩ := QfB p1 p2 p3 p4
  simp only [<- val_mul, <- val_add, <- VV] at hA hB hC
  subst hA hB hC
  simp only [<- val_mul, <- val_add, <- VV, <- Hm] at hE hG hH
  subst hE hG hH
  simp only [<- val_mul, <- val_add, <- VV] at k1 k2 k3 k4
  have hx := Jm P P
  have hy := Jl P P
  have hg := Ej P.on P.on
  have hf := Ei P.on P.on
  have ho := QlP (P := P)
  have eg : (P.y*Z)*(P.y*Z) - (P.x*Z)*(P.x*Z) = Z*Z*(1 + dF*P.x*P.x*P.y*P.y) := by rw [<- ho]; grobner
  have ef : Z*Z*(1 + dF*P.x*P.x*P.y*P.y) - (Z*Z + Z*Z) = -(Z*Z*(1 - dF*P.x*P.x*P.y*P.y)) := by grobner
  have es : (P.y*Z + P.x*Z)*(P.y*Z + P.x*Z) - (P.x*Z)*(P.x*Z) - (P.y*Z)*(P.y*Z) = Z*Z*(P.x*P.y + P.x*P.y) := by grobner
  have eh : -((P.x*Z)*(P.x*Z) + (P.y*Z)*(P.y*Z)) = -(Z*Z*(P.y*P.y + P.x*P.x)) := by grobner
  rw [eg, ef] at k3
  rw [es, eg, ef, <- hx] at k1
  rw [eg, eh, <- hy] at k2
  rw [es, eh, <- hx, <- hy] at k4
  generalize 1 + dF*P.x*P.x*P.y*P.y = g at *
  generalize 1 - dF*P.x*P.x*P.y*P.y = f at *
  have hz2 := nz2 h1 h1
  refine ⟨l20 x y z t, ⟨x, y, z, t, -(Z*Z*f) * (Z*Z*g), rfl, ?_, ?_, ?_, k3, ?_⟩, (k5.arg (by simp only [QO, Ew]) rfl).res (Ew _ _ _ _ _) rfl⟩
  . intro h0
    have h00 : (Z*Z*f)*(Z*Z*g) = 0 := by clear hx hy eg ef es eh ho; grobner
    exact nz2 (nz2 hz2 hf) (nz2 hz2 hg) h00
  . have e : (Qy P P).x * (-(Z*Z*f) * (Z*Z*g)) = Z*Z*((Qy P P).x*g) * -(Z*Z*f) := by clear hx hy eg ef es eh ho; grobner
    rw [e]; exact k1
  . have e : (Qy P P).y * (-(Z*Z*f) * (Z*Z*g)) = Z*Z*g * -(Z*Z*((Qy P P).y*f)) := by clear hx hy eg ef es eh ho; grobner
    rw [e]; exact k2
  . have e : (Qy P P).x * (Qy P P).y * (-(Z*Z*f) * (Z*Z*g)) = Z*Z*((Qy P P).x*g) * -(Z*Z*((Qy P P).y*f)) := by clear hx hy eg ef es eh ho; grobner
    rw [e]; exact k4
/-- A point in space as it is raised. -/
def Qip (l : List Int) (P : Pt) : Prop := YA l P /\ ∃ x y z t, l = l20 x y z t /\ Xo x (P.x.val : Int) /\ Xo y (P.y.val : Int)
theorem Ji {x y : List Int} {P : Pt} (hx : Xo x (P.x.val : Int)) (hy : Xo y (P.y.val : Int)) : ∃ r, Qip r P /\ PV Tryz.prog gT 34 [pl x y] (fp r) := by
  obtain ⟨t, ht, h⟩ := QgE hx hy
  rw [<- val_mul] at ht
  refine ⟨l20 x y [1, 0, 0, 0, 0] t, ⟨⟨x, y, _, t, 1, rfl, by decide +kernel, ?_, ?_, KV, ?_⟩, x, y, _, t, rfl, hx, hy⟩, h.res (Ew _ _ _ _ _) rfl⟩
  . have e : P.x * 1 = P.x := by grobner
    rw [e]; exact hx
  . have e : P.y * 1 = P.y := by grobner
    rw [e]; exact hy
  . have e : P.x * P.y * 1 = P.x * P.y := by grobner
    rw [e]; exact ht
theorem FN (a : FF) : Qbx (a.val : Int) = ((Yd a).val : Int) := by
  show (a.val : Int) ^ (Qq (J0 235 127) 32).toNat % pV = ((a.val ^ (pN - 2) % pN : Nat) : Int)
  rw [Qd6, Int.natCast_emod, Int.natCast_pow, Uc]
theorem Qc0 {l : List Int} {P : Pt} (hp : YA l P) : ∃ x y, Xo x (P.x.val : Int) /\ Xo y (P.y.val : Int) /\ PV Tryz.prog gT 35 [fp l] (pl x y) := by
  obtain ⟨x1, y1, z1, t1, Z, rfl, h1, p1, p2, p3, p4⟩ := hp
  obtain ⟨x, y, k1, k2, k3⟩ := Qlw (t1 := t1) p1 p2 p3
  rw [FN, <- val_mul] at k1 k2
  have hi := VB h1
  have e1 : P.x * Z * Yd Z = P.x := by generalize Yd Z = f at *; grobner
  have e2 : P.y * Z * Yd Z = P.y := by generalize Yd Z = f at *; grobner
  rw [e1] at k1
  rw [e2] at k2
  exact ⟨x, y, k1, k2, k3.arg (by simp only [QO, Ew]) rfl⟩
theorem GJ : ∃ r, YA r XU /\ PV Tryz.prog gT 80 [] (fp r) := by
  obtain ⟨r, hr, h⟩ := Ji (P := XU) (x := [0, 0, 0, 0, 0]) (y := [1, 0, 0, 0, 0]) Uh KV
  have hr := hr.1
  refine ⟨r, hr, PV.mk' Tryz.func80 rfl rfl rfl rfl fun w L hL hG => ?_⟩
  refine S.enter Qw [] gT Tryz.func80 rfl rfl rfl (fun _ => rfl) hL hG ?_
  refine S.g false rfl ?_
  refine S.cv rfl rfl rfl rfl rfl rfl (Hq 1 (by omega)) ?_
  refine S.g false rfl ?_
  refine S.cv rfl rfl rfl rfl rfl rfl h ?_
  refine S.go false rfl (by repeat' (first | exact True.intro | refine And.intro ?_ ?_ | exact hr.len | exact rfl)) ?_
  exact S.retv rfl rfl rfl rfl rfl
theorem Qh8 {α : Type} {Q : Nat -> α -> Prop} {S : Nat -> α -> α -> Prop} (x0 : α) (h0 : Q 0 x0) (h : ∀ m x, Q m x -> ∃ y, Q (m + 1) y /\ S m x y) : ∃ f : Nat -> α, f 0 = x0 /\ ∀ m, Q m (f m) /\ S m (f m) (f (m + 1)) := by
  let g : (m : Nat) -> { x : α // Q m x } := fun m => Nat.rec ⟨x0, h0⟩ (fun k p => ⟨Classical.choose (h k p.1 p.2), (Classical.choose_spec (h k p.1 p.2)).1⟩) m
  refine ⟨fun m => (g m).1, rfl, fun m => ⟨(g m).2, ?_⟩⟩
  exact (Classical.choose_spec (h m (g m).1 (g m).2)).2
/-- Twenty numbers of a table. -/
def KL (T : List Int) (k : Nat) : List Int := (T.drop (k * 20)).take 20
def KP (T r : List Int) (k : Nat) : List Int := T.take (k * 20) ++ (r ++ T.drop (k * 20 + 20))
theorem Qe3 {T r : List Int} {k : Nat} (hT : T.length = 320) (hr : r.length = 20) (hk : k < 16) : (KP T r k).length = 320 := by
  unfold KP; rw [List.length_append, List.length_append, List.length_take, List.length_drop]; omega
theorem Qcu {T r : List Int} {k : Nat} (hT : T.length = 320) (hr : r.length = 20) (hk : k < 16) : KL (KP T r k) k = r := by
  unfold KL KP
  have hl : (T.take (k * 20)).length = k * 20 := by rw [List.length_take]; omega
  have e := List.drop_length_add_append (l₁ := T.take (k * 20)) (l₂ := r ++ T.drop (k * 20 + 20)) (i := 0)
  rw [hl, Nat.add_zero, List.drop_zero] at e
  rw [e, List.take_append_of_le_length (by omega), List.take_of_length_le (by omega)]
theorem Qe1 {T r : List Int} {k j : Nat} (hT : T.length = 320) (hk : k < 16) (hj : j < k) : KL (KP T r k) j = KL T j := by
  unfold KL KP
  have hl : (T.take (k * 20)).length = k * 20 := by rw [List.length_take]; omega
  rw [List.drop_append_of_le_length (by omega), List.take_append_of_le_length (by rw [List.length_drop]; omega), List.drop_take, List.take_take, Nat.min_eq_left (by omega)]
/-- A point 0 to k times. -/
def QfK (T : List Int) (k : Nat) (P : Pt) : Prop := T.length = 320 /\ ∀ j, j <= k -> YA (KL T j) (QQ j P)
def QmW (l : List Int) (k : Nat) (x y : List Int) : Prop := k < 15 -> ∃ r, r.length = 20 /\ PV Tryz.prog gT 82 [fp (KL x k), fp l] (fp r) /\ y = KP x r (k + 1)
theorem QcQ {l : List Int} {P : Pt} (hp : YA l P) (t0 : List Int) (h0 : QfK t0 0 P) : ∃ f : Nat -> List Int, f 0 = t0 /\ ∀ k, (k <= 15 -> QfK (f k) k P) /\ QmW l k (f k) (f (k + 1)) := by
  refine Qh8 (Q := fun k x => k <= 15 -> QfK x k P) t0 (fun _ => h0) (fun k x hx => ?_)
  by_cases hk : k < 15
  . have hq := hx (by omega)
    obtain ⟨r, hr, cr⟩ := QfT (hq.2 k (Nat.le_refl _)) hp
    refine ⟨KP x r (k + 1), fun _ => ⟨Qe3 hq.1 hr.len (by omega), fun j hj => ?_⟩, fun _ => ⟨r, hr.len, cr, rfl⟩⟩
    by_cases hjk : j = k + 1
    . subst hjk; rw [Qcu hq.1 hr.len (by omega)]; exact hr
    . rw [Qe1 hq.1 (by omega) (by omega)]; exact hq.2 j (by omega)
  . exact ⟨x, fun h => absurd h (by omega), fun h => absurd h hk⟩
theorem QmU {K : IntKind} {l l' : List Int} {n : Nat} (h : l = l') : (SV.a K l n).eqv (SV.a K l' n) := by subst h; exact rfl
set_option maxHeartbeats 1000000 in
theorem Jp {l : List Int} {P : Pt} (hp : YA l P) : ∃ T, QfK T 15 P /\ PV Tryz.prog gT 79 [fp l] (.a .u64 T 320) := by
  obtain ⟨n0, hn, hn0⟩ := GJ
  have ht0 : QfK (n0 ++ List.replicate 300 0) 0 P := ⟨by rw [List.length_append, hn.len]; rfl, fun j hj => by
    obtain rfl : j = 0 := by omega
    show YA (((n0 ++ List.replicate 300 0).drop (0 * 20)).take 20) XU
    rw [Nat.zero_mul, List.drop_zero, List.take_append_of_le_length (by rw [hn.len]; omega), List.take_of_length_le (by rw [hn.len]; omega)]
    exact hn⟩
  obtain ⟨F, hF0, hF⟩ := QcQ hp _ ht0
  refine ⟨F 15, (hF 15).1 (Nat.le_refl _), PV.mk' Tryz.func79 rfl rfl rfl rfl fun w L hL hG => ?_⟩
  have hlen : ∀ k, k <= 15 -> (F k).length = 320 := fun k hk => ((hF k).1 hk).1
  have hll := hp.len
  have hnl := hn.len
  refine S.enter Qw [fp l] gT Tryz.func79 rfl rfl rfl (fun _ => rfl) hL hG ?_
  refine S.go false rfl (by repeat' (first | exact True.intro | refine And.intro ?_ ?_ | exact hll | exact rfl)) ?_
  refine S.cv rfl rfl rfl rfl rfl rfl hn0 ?_
  refine S.go false rfl (by repeat' (first | exact True.intro | refine And.intro ?_ ?_ | exact hnl | exact rfl)) ?_
  refine S.recell 2 [.a .u64 (F 0) 320] rfl (fun ρ => ?_) ⟨hlen 0 (by omega), trivial⟩ rfl ?_
  . rw [hF0]; simp only [Qp, SV.cs, List.append_nil, List.map_append]; first | done | rfl
  refine S.loop [1, 2, 3] (fun k : Nat => [(7, .i .i64 (k : Int))]) (fun k => [(0, [.a .u64 l 20]), (1, [.a .u64 (List.replicate 320 0) 320]), (2, [.a .u64 (F k) 320])]) (fun _ => []) (fun k => k <= 15) (fun k => 15 - k) 0 rfl (fun _ => rfl) (fun _ => rfl) rfl ⟨⟨rfl, rfl⟩, trivial⟩ (by repeat' (first | exact True.intro | refine And.intro ?_ ?_ | exact hll | exact hlen 0 (by omega) | exact rfl)) (fun _ _ _ => trivial) (by omega) fun J k hk again => ?_
  have hk' : k <= 15 := hk
  have hFk := hlen k hk'
  refine S.g false rfl ?_
  refine S.cond rfl (fun c => ?_) (fun c => ?_)
  . have c' : k < 15 := by omega
    obtain ⟨r, hrl, hw, hy⟩ := (hF k).2 c'
    have hw' := hw.arg (args' := [.g [.a .u64 (((F k).drop (Nat.add 0 (Nat.mul (Int.toNat (k : Int)) 20))).take 20) 20], fp l]) (congrArg (fun z => QO QR [SV.g [.a .u64 z 20], fp l]) (by unfold KL; congr 2; simp)) rfl
    refine S.g false rfl ?_
    refine S.drp false [(6, fp r)] rfl rfl rfl ?_ (by repeat' (first | exact True.intro | refine And.intro ?_ ?_ | omega | (dsimp only; omega) | exact hrl | exact hw' | exact rfl))
    refine S.g false rfl ?_
    refine S.again (again (k + 1) (show k + 1 <= 15 by omega) (show 15 - (k + 1) < 15 - k by omega)) ⟨⟨rfl, by omega⟩, rfl, rfl, rfl, trivial⟩ ?_ rfl rfl (fun x hx => hx) rfl (fun ρ W h => h.hs)
    repeat' (first | exact True.intro | refine And.intro ?_ ?_ | exact hll | exact hlen (k + 1) (by omega) | exact QmU (by rw [hy]; unfold KP; simp only [show Int.toNat ((k : Int) + 1) = k + 1 by omega, Nat.add_eq, Nat.mul_eq, Nat.zero_add]) | exact rfl)
  . obtain rfl : k = 15 := by omega
    refine S.g false rfl ?_
    exact S.retv rfl rfl rfl rfl rfl
def kB (kb : List Int) : Nat := (Qq kb 32).toNat
theorem Qkr {kb : List Int} (h : Qh kb) : kB kb < 2 ^ 256 := by
  have := YT kb h
  unfold kB
  omega
theorem Qex {kb : List Int} (h : Qh kb) (j : Nat) (hj : j < 256) : GY kb j = ((kB kb / 2 ^ j % 2 : Nat) : Int) := by
  have h0 := (YT kb h).1
  rw [Gn kb h 32 j (by omega)]
  unfold kB
  rw [Int.natCast_emod, Int.natCast_ediv, Int.natCast_pow, Int.toNat_of_nonneg h0]
  rfl
/-- A sum of so many points. -/
def Vr : Nat -> (Nat -> Pt) -> Pt
  | 0, _ => XU
  | n + 1, F => Qy (Vr n F) (F n)
theorem EI (a b c d : Pt) : Qy (Qy a b) (Qy c d) = Qy (Qy a c) (Qy b d) := by
  rw [XV, <- XV b, Us b c, XV c, <- XV a]
theorem QaF (F G : Nat -> Pt) : ∀ n, Vr n (fun j => Qy (F j) (G j)) = Qy (Vr n F) (Vr n G)
  | 0 => (ZP XU).symm
  | n + 1 => by
    show Qy (Vr n (fun j => Qy (F j) (G j))) (Qy (F n) (G n)) = Qy (Qy (Vr n F) (F n)) (Qy (Vr n G) (G n))
    rw [QaF F G n, EI]
theorem Kf {F G : Nat -> Pt} : ∀ n, (∀ j, j < n -> F j = G j) -> Vr n F = Vr n G
  | 0, _ => rfl
  | n + 1, h => by
    show Qy (Vr n F) (F n) = Qy (Vr n G) (G n)
    rw [Kf n (fun j hj => h j (by omega)), h n (by omega)]
theorem Qno (A : Pt) : Qy (Qy (Qy (Qy A A) (Qy A A)) (Qy (Qy A A) (Qy A A))) (Qy (Qy (Qy A A) (Qy A A)) (Qy (Qy A A) (Qy A A))) = QQ 16 A := by
  have h2 : Qy A A = QQ 2 A := by rw [show (2 : Nat) = 1 + 1 from rfl, ZU, Qgf]
  have h4 : Qy (QQ 2 A) (QQ 2 A) = QQ 4 A := (ZU 2 A 2).symm
  have h8 : Qy (QQ 4 A) (QQ 4 A) = QQ 8 A := (ZU 4 A 4).symm
  have h16 : Qy (QQ 8 A) (QQ 8 A) = QQ 16 A := (ZU 8 A 8).symm
  rw [h2, h4, h8, h16]
theorem Ey (A B : Pt) : ∀ k, QQ k (Qy A B) = Qy (QQ k A) (QQ k B)
  | 0 => (ZP XU).symm
  | k + 1 => by
    show Qy (QQ k (Qy A B)) (Qy A B) = Qy (Qy (QQ k A) A) (Qy (QQ k B) B)
    rw [Ey A B k, EI]
theorem Ex (k : Nat) (F : Nat -> Pt) : ∀ n, QQ k (Vr n F) = Vr n (fun j => QQ k (F j))
  | 0 => GC k
  | n + 1 => by
    show QQ k (Qy (Vr n F) (F n)) = Qy (Vr n fun j => QQ k (F j)) (QQ k (F n))
    rw [Ey, Ex k F n]
/-- Four bits of a number, the at-th from below. -/
def nib (kb : List Int) (at_ : Nat) : Int := Qb kb (at_ / 2) / 2 ^ (4 * (at_ % 2)) % 16
theorem Qle (kb : List Int) (at_ : Nat) : 0 <= nib kb at_ /\ nib kb at_ < 16 := by unfold nib; omega
theorem Qlf {kb : List Int} (h : Qh kb) (t : Nat) (ht : t < 64) : nib kb t = ((kB kb / 16 ^ t % 16 : Nat) : Int) := by
  have e16 : (16 : Nat) ^ t = 2 ^ (4 * t) := by rw [show (16 : Nat) = 2 ^ 4 from rfl, <- Nat.pow_mul]
  rw [e16]
  have hb := fun i (hi : i < 4) => Qex h (4 * t + i) (by omega)
  have hd : ∀ i, i < 4 -> GY kb (4 * t + i) = Qb kb (t / 2) / 2 ^ (4 * (t % 2)) / 2 ^ i % 2 := by
    intro i hi
    unfold GY
    rw [show (4 * t + i) / 8 = t / 2 by omega, show (4 * t + i) % 8 = 4 * (t % 2) + i by omega, Int.pow_add, Int.ediv_ediv_of_nonneg (Int.le_of_lt (Xq _))]
  have hk : ∀ i, kB kb / 2 ^ (4 * t + i) = kB kb / 2 ^ (4 * t) / 2 ^ i := fun i => by rw [Nat.pow_add, Nat.div_div_eq_div_mul]
  have h0 := hb 0 (by omega); have h1 := hb 1 (by omega); have h2 := hb 2 (by omega); have h3 := hb 3 (by omega)
  rw [hd 0 (by omega), hk] at h0
  rw [hd 1 (by omega), hk] at h1
  rw [hd 2 (by omega), hk] at h2
  rw [hd 3 (by omega), hk] at h3
  unfold nib
  have hx := h.at (t / 2)
  have hn : 0 <= Qb kb (t / 2) / 2 ^ (4 * (t % 2)) := Int.ediv_nonneg hx.1 (Int.le_of_lt (Xq _))
  generalize Qb kb (t / 2) / 2 ^ (4 * (t % 2)) = y at *
  generalize kB kb / 2 ^ (4 * t) = X at *
  simp only [Int.reducePow, Nat.reducePow] at *
  omega
theorem Qgg {K t : Nat} (P : Pt) : Qy (QQ 16 (QQ (K / 16 ^ (t + 1)) P)) (QQ (K / 16 ^ t % 16) P) = QQ (K / 16 ^ t) P := by
  rw [<- KI, <- ZU]
  congr 1
  rw [Nat.pow_succ, <- Nat.div_div_eq_div_mul]
  omega
theorem QeN {x : Int} (h : 0 <= x /\ x <= 255) : bits BinOp.and IntKind.u8 x 15 = x % 16 := V6 (p := fun y => bits BinOp.and IntKind.u8 y 15 = y % 16) (by decide +kernel) h
/-- Four bits, as the program takes them. -/
def UV (kb : List Int) (k : Nat) : Int := bits .and .u8 (kb.getD (Int.toNat ((63 - (k : Int)) / 2)) 0 / 2 ^ Int.toNat (4 * ((63 - (k : Int)) % 2))) 15
theorem Qjh {kb : List Int} (h : Qh kb) {k : Nat} (hk : k < 64) : UV kb k = nib kb (63 - k) := by
  unfold UV nib
  have e1 : Int.toNat ((63 - (k : Int)) / 2) = (63 - k) / 2 := by omega
  have e2 : Int.toNat (4 * ((63 - (k : Int)) % 2)) = 4 * ((63 - k) % 2) := by omega
  rw [e1, e2]
  have e3 : kb.getD ((63 - k) / 2) 0 = Qb kb ((63 - k) / 2) := by simp [Qb]
  rw [e3, QeN]
  exact VL (h.at _) _
/-- One turn: four times twice as much, then each point's table. -/
def QmV (n : Nat) (kb T : Nat -> List Int) (i : Nat) (x y : List Int) : Prop := i < 64 -> ∃ d a : Nat -> List Int, d 0 = x /\ a 0 = d 4 /\ y = a n /\ (∀ c, c <= 4 -> (d c).length = 20) /\ (∀ j, j <= n -> (a j).length = 20) /\
  (∀ c, c < 4 -> PV Tryz.prog gT 81 [fp (d c)] (fp (d (c + 1)))) /\
  (∀ j, j < n -> (0 <= UV (kb j) i /\ UV (kb j) i < 16) /\ PV Tryz.prog gT 82 [fp (a j), .g [.a .u64 (((T j).drop (Nat.add 0 (Nat.mul (Int.toNat (UV (kb j) i)) 20))).take 20) 20]] (fp (a (j + 1))))
set_option maxHeartbeats 1000000 in
theorem FA {n : Nat} {kb T : Nat -> List Int} {P : Nat -> Pt} (ht : ∀ j, j < n -> QfK (T j) 15 (P j)) (hb : ∀ j, j < n -> Qh (kb j)) (x0 : List Int) (h0 : YA x0 XU) :
    ∃ f : Nat -> List Int, f 0 = x0 /\ ∀ i, (i <= 64 -> YA (f i) (Vr n fun j => QQ (kB (kb j) / 16 ^ (64 - i)) (P j))) /\ QmV n kb T i (f i) (f (i + 1)) := by
  refine Qh8 (Q := fun i x => i <= 64 -> YA x (Vr n fun j => QQ (kB (kb j) / 16 ^ (64 - i)) (P j))) x0 (fun _ => ?_) (fun i x hx => ?_)
  . have e : (Vr n fun j => QQ (kB (kb j) / 16 ^ (64 - 0)) (P j)) = XU := by
      rw [Kf (G := fun _ => XU) n (fun j hj => by
        rw [Nat.div_eq_of_lt (by have := Qkr (hb j hj); rw [show (16 : Nat) ^ (64 - 0) = 2 ^ 256 by decide]; exact this)]; rfl)]
      clear h0 ht hb
      induction n with
      | zero => rfl
      | succ n ih => show Qy (Vr n fun _ => XU) XU = XU; rw [ih, ZP]
    rw [e]; exact h0
  . by_cases hi : i < 64
    . have hq := hx (by omega)
      obtain ⟨d1, r1, c1⟩ := JU hq
      obtain ⟨d2, r2, c2⟩ := JU r1
      obtain ⟨d3, r3, c3⟩ := JU r2
      obtain ⟨d4, r4, c4⟩ := JU r3
      rw [Qno] at r4
      have hin := Qh8 (Q := fun j a => j <= n -> YA a (Qy (QQ 16 (Vr n fun j => QQ (kB (kb j) / 16 ^ (64 - i)) (P j))) (Vr j fun j => QQ (kB (kb j) / 16 ^ (63 - i) % 16) (P j))))
        (S := fun j a b => j < n -> (0 <= UV (kb j) i /\ UV (kb j) i < 16) /\ PV Tryz.prog gT 82 [fp a, .g [.a .u64 (((T j).drop (Nat.add 0 (Nat.mul (Int.toNat (UV (kb j) i)) 20))).take 20) 20]] (fp b))
        d4 (fun _ => by show YA d4 (Qy _ XU); rw [ZP]; exact r4) (fun j a ha => by
          by_cases hj : j < n
          . have hv := Qlf (hb j hj) (63 - i) (by omega)
            have hlt := Qle (kb j) (63 - i)
            rw [<- Qjh (hb j hj) hi] at hv hlt
            have hr := (ht j hj).2 (UV (kb j) i).toNat (by omega)
            have ev : (UV (kb j) i).toNat = kB (kb j) / 16 ^ (63 - i) % 16 := by rw [hv]; exact Int.toNat_natCast _
            obtain ⟨b, rb, cb⟩ := QfT (ha (by omega)) hr
            rw [ev, XV] at rb
            exact ⟨b, fun _ => rb, fun _ => ⟨hlt, cb.arg (congrArg (fun z => QO QR [fp a, SV.g [.a .u64 z 20]]) (by unfold KL; simp)) rfl⟩⟩
          . exact ⟨a, fun h => absurd h (by omega), fun h => absurd h hj⟩)
      obtain ⟨a, ha0, ha⟩ := hin
      have hfin := (ha n).1 (Nat.le_refl _)
      rw [Ex, <- QaF] at hfin
      refine ⟨a n, fun _ => ?_, fun _ => ⟨fun c => match c with | 0 => x | 1 => d1 | 2 => d2 | 3 => d3 | _ => d4, a, rfl, ha0, rfl, ?_, fun j hj => ((ha j).1 hj).len, ?_, fun j hj => (ha j).2 hj⟩⟩
      . rw [Kf (G := fun j => QQ (kB (kb j) / 16 ^ (63 - i)) (P j)) n (fun j hj => by
          have h := Qgg (K := kB (kb j)) (t := 63 - i) (P j)
          rw [show 63 - i + 1 = 64 - i by omega] at h
          exact h)] at hfin
        rw [show 64 - (i + 1) = 63 - i by omega]
        exact hfin
      . intro c hc
        match c, hc with
        | 0, _ => exact hq.len
        | 1, _ => exact r1.len
        | 2, _ => exact r2.len
        | 3, _ => exact r3.len
        | 4, _ => exact r4.len
        | c + 5, h => omega
      . intro c hc
        match c, hc with
        | 0, _ => exact c1
        | 1, _ => exact c2
        | 2, _ => exact c3
        | 3, _ => exact c4
        | c + 4, h => omega
    . exact ⟨x, fun h => absurd h (by omega), fun h => absurd h hi⟩
abbrev gTn : Nat := gT.length
set_option maxHeartbeats 4000000 in
theorem Qjo {k0 l0 : List Int} {P0 : Pt} (hk0 : Qh k0) (hkl0 : k0.length = 32) (hp0 : YA l0 P0) : ∃ r, YA r (QQ (kB k0) P0) /\ ∀ q1 q2, PR Tryz.prog gT 33 [.y q1 0 1 1, .y q2 0 1 1] [(q1, [.a .u8 k0 32]), (q2, [.a .u64 l0 20])] (fp r) := by
  obtain ⟨T0, ht0, hm0⟩ := Jp hp0
  obtain ⟨n0, hn, hn0⟩ := GJ
  obtain ⟨F, hF0, hF⟩ := FA (n := 1) (kb := (fun _ : Nat => k0)) (T := (fun _ : Nat => T0)) (P := (fun _ : Nat => P0)) (fun j hj => by
    match j, hj with
    | 0, _ => exact ht0
    | j + 1, h => omega) (fun j hj => by
    match j, hj with
    | 0, _ => exact hk0
    | j + 1, h => omega) n0 hn
  have hlen : ∀ k, k <= 64 -> (F k).length = 20 := fun k hk => ((hF k).1 hk).len
  have hfin := (hF 64).1 (Nat.le_refl _)
  simp only [Vr, Nat.sub_self, Nat.pow_zero, Nat.div_one, Vh] at hfin
  refine ⟨F 64, hfin, fun q1 q2 => PR.mk' Tryz.func33 rfl rfl rfl fun ρ w hG hm => ?_⟩
  obtain ⟨b1, -⟩ := hm _ (.head _)
  obtain ⟨b2, -⟩ := hm _ (.tail _ (.head _))
  have r1 := Q8.rows (s := 32) (rows := [k0.map (Value.int .u8)]) (by simpa [Qp, SV.cs] using b1) (by omega) (by simp [hkl0]) (by simp [maxLen])
  have r2 := Q8.rows (s := 20) (rows := [l0.map (Value.int .u64)]) (by simpa [Qp, SV.cs] using b2) (by omega) (by simp [hp0.len]) (by simp [maxLen])
  have hll0 := hp0.len
  have htl0 := ht0.1
  have hnl := hn.len
  refine S.enter Qw [.o (some ⟨ρ.b q1, 0, none⟩) 1 1, .o (some ⟨ρ.b q2, 0, none⟩) 1 1] (gT ++ [fR 32 (.slice (some ⟨ρ.b q1, 0, none⟩) 1 1) [k0.map (Value.int .u8)], fR 20 (.slice (some ⟨ρ.b q2, 0, none⟩) 1 1) [l0.map (Value.int .u64)]]) Tryz.func33 rfl rfl rfl (fun _ => by simp only [QO, SV.den]) (LL.none w) (hG.app ⟨r1, r2, trivial⟩) ?_
  refine S.slc 0 [.a .u8 k0 32] rfl (fun ρ w h => h.f gTn rfl) (by simp [Qp, SV.cs]) (by simp [YC, SV.wd]) ?_ ⟨hkl0, trivial⟩
  refine S.slc 1 [.a .u64 l0 20] rfl (fun ρ w h => h.f (gTn + 1) rfl) (by simp [Qp, SV.cs]) (by simp [YC, SV.wd]) ?_ ⟨hll0, trivial⟩
  refine S.g false rfl ?_
  refine S.make 1 rfl rfl rfl rfl (s := 320) (bytes := 2560) (by kernel_rfl) rfl rfl rfl rfl rfl (by omega) (by omega) ?_
  refine S.g false rfl ?_
  refine S.rd 17 (.lit .i64 0) rfl (fun _ => rfl) ?_
  refine S.rounds 1 ?_
  refine S.g false rfl ?_
  refine S.condT rfl (by omega) ?_
  refine S.go false rfl (by repeat' (first | exact True.intro | refine And.intro ?_ ?_ | assumption | omega | (dsimp only; omega) | (simp only [Nat.add_eq, Nat.mul_eq, Nat.sub_eq, SV.wd]; omega) | exact rfl)) ?_
  refine S.cv rfl rfl rfl rfl rfl rfl hm0 ?_
  refine S.go false rfl (by repeat' (first | exact True.intro | refine And.intro ?_ ?_ | assumption | omega | (dsimp only; omega) | (simp only [Nat.add_eq, Nat.mul_eq, Nat.sub_eq, SV.wd]; omega) | exact rfl)) ?_
  refine S.rd 17 (.lit .i64 1) rfl (fun _ => rfl) ?_
  refine S.next ?_
  refine S.g false rfl ?_
  refine S.condF rfl (by omega) ?_
  refine S.g false rfl ?_
  refine S.cv rfl rfl rfl rfl rfl rfl hn0 ?_
  refine S.go false rfl (by repeat' (first | exact True.intro | refine And.intro ?_ ?_ | assumption | omega | (dsimp only; omega) | (simp only [Nat.add_eq, Nat.mul_eq, Nat.sub_eq, SV.wd]; omega) | exact rfl)) ?_
  refine S.loop [0, 4, 5, 8] (fun k : Nat => [(29, .i .i64 (k : Int))]) (fun k => [(2, [.i .u64 0, .i .u64 0, .i .u64 0, .i .u64 0, .i .u64 0, .i .u64 0, .i .u64 0, .i .u64 0, .i .u64 0, .i .u64 0, .i .u64 0, .i .u64 0, .i .u64 0, .i .u64 0, .i .u64 0, .i .u64 0, .i .u64 0, .i .u64 0, .i .u64 0, .i .u64 0]), (3, [.a .u64 T0 320]), (5, [.a .u64 (F k) 20])]) (fun _ => []) (fun k => k <= 64) (fun k => 64 - k) 0 rfl (fun _ => rfl) (fun _ => rfl) rfl ⟨⟨rfl, rfl⟩, trivial⟩ (by rw [hF0]; repeat' (first | exact True.intro | refine And.intro ?_ ?_ | assumption | exact rfl)) (fun _ _ _ => trivial) (by omega) fun J k hk again => ?_
  have hk' : k <= 64 := hk
  have hFk := hlen k hk'
  refine S.g false rfl ?_
  refine S.cond rfl (fun c => ?_) (fun c => ?_)
  . have c' : k < 64 := by omega
    obtain ⟨d, a, hd0, ha0, hy, hdl, hal, hdd, haa⟩ := (hF k).2 c'
    have d0 := hdd 0 (by omega)
    have dl1 := hdl 1 (by omega)
    have d1 := hdd 1 (by omega)
    have dl2 := hdl 2 (by omega)
    have d2 := hdd 2 (by omega)
    have dl3 := hdl 3 (by omega)
    have d3 := hdd 3 (by omega)
    have dl4 := hdl 4 (by omega)
    obtain ⟨ni0, aa0⟩ := haa 0 (by omega)
    have al1 := hal 1 (by omega)
    have nj0 : 0 <= UV k0 k /\ UV k0 k < 16 := ni0
    unfold UV at nj0
    rw [hd0] at d0
    rw [ha0] at aa0
    refine S.g false rfl ?_
    refine S.rounds 4 ?_
    refine S.g false rfl ?_
    refine S.condT rfl (by omega) ?_
    refine S.g false rfl ?_
    refine S.cv rfl rfl rfl rfl rfl rfl d0 ?_
    refine S.go false rfl (by repeat' (first | exact True.intro | refine And.intro ?_ ?_ | assumption | omega | (dsimp only; omega) | (simp only [Nat.add_eq, Nat.mul_eq, Nat.sub_eq, SV.wd]; omega) | exact rfl)) ?_
    refine S.next ?_
    refine S.g false rfl ?_
    refine S.condT rfl (by omega) ?_
    refine S.g false rfl ?_
    refine S.cv rfl rfl rfl rfl rfl rfl d1 ?_
    refine S.go false rfl (by repeat' (first | exact True.intro | refine And.intro ?_ ?_ | assumption | omega | (dsimp only; omega) | (simp only [Nat.add_eq, Nat.mul_eq, Nat.sub_eq, SV.wd]; omega) | exact rfl)) ?_
    refine S.next ?_
    refine S.g false rfl ?_
    refine S.condT rfl (by omega) ?_
    refine S.g false rfl ?_
    refine S.cv rfl rfl rfl rfl rfl rfl d2 ?_
    refine S.go false rfl (by repeat' (first | exact True.intro | refine And.intro ?_ ?_ | assumption | omega | (dsimp only; omega) | (simp only [Nat.add_eq, Nat.mul_eq, Nat.sub_eq, SV.wd]; omega) | exact rfl)) ?_
    refine S.next ?_
    refine S.g false rfl ?_
    refine S.condT rfl (by omega) ?_
    refine S.g false rfl ?_
    refine S.cv rfl rfl rfl rfl rfl rfl d3 ?_
    refine S.go false rfl (by repeat' (first | exact True.intro | refine And.intro ?_ ?_ | assumption | omega | (dsimp only; omega) | (simp only [Nat.add_eq, Nat.mul_eq, Nat.sub_eq, SV.wd]; omega) | exact rfl)) ?_
    refine S.next ?_
    refine S.g false rfl ?_
    refine S.condF rfl (by omega) ?_
    refine S.g false rfl ?_
    refine S.rd 41 (.lit .i64 0) rfl (fun _ => rfl) ?_
    refine S.rounds 1 ?_
    refine S.g false rfl ?_
    refine S.condT rfl (by omega) ?_
    refine S.g false rfl ?_
    refine S.drp false [(18, fp (a 1))] rfl rfl rfl ?_ (by repeat' (first | exact True.intro | refine And.intro ?_ ?_ | assumption | omega | (dsimp only; omega) | (simp only [Nat.add_eq, Nat.mul_eq, Nat.sub_eq, SV.wd]; omega) | exact rfl))
    refine S.g false rfl ?_
    refine S.rd 41 (.lit .i64 1) rfl (fun _ => rfl) ?_
    refine S.next ?_
    refine S.g false rfl ?_
    refine S.condF rfl (by omega) ?_
    refine S.g false rfl ?_
    refine S.again (again (k + 1) (show k + 1 <= 64 by omega) (show 64 - (k + 1) < 64 - k by omega)) ⟨⟨rfl, by omega⟩, rfl, rfl, ⟨rfl, rfl, rfl, rfl⟩, rfl, trivial⟩ ?_ rfl rfl (fun x hx => hx) rfl (fun ρ W h => h.hs)
    rw [hy]
    repeat' (first | exact True.intro | refine And.intro ?_ ?_ | assumption | exact rfl)
  . obtain rfl : k = 64 := by omega
    refine S.go false rfl (by repeat' (first | exact True.intro | refine And.intro ?_ ?_ | assumption | omega | (dsimp only; omega) | (simp only [Nat.add_eq, Nat.mul_eq, Nat.sub_eq, SV.wd]; omega) | exact rfl)) ?_
    exact S.retv rfl rfl rfl rfl rfl
set_option maxHeartbeats 4000000 in
theorem Qjn {k0 k1 l0 l1 : List Int} {P0 P1 : Pt} (hk0 : Qh k0) (hkl0 : k0.length = 32) (hp0 : YA l0 P0) (hk1 : Qh k1) (hkl1 : k1.length = 32) (hp1 : YA l1 P1) : ∃ r, YA r (Qy (QQ (kB k0) P0) (QQ (kB k1) P1)) /\ ∀ q1 q2, PR Tryz.prog gT 33 [.y q1 0 2 2, .y q2 0 2 2] [(q1, [.a .u8 k0 32, .a .u8 k1 32]), (q2, [.a .u64 l0 20, .a .u64 l1 20])] (fp r) := by
  obtain ⟨T0, ht0, hm0⟩ := Jp hp0
  obtain ⟨T1, ht1, hm1⟩ := Jp hp1
  obtain ⟨n0, hn, hn0⟩ := GJ
  obtain ⟨F, hF0, hF⟩ := FA (n := 2) (kb := (fun j : Nat => match j with | 0 => k0 | _ => k1)) (T := (fun j : Nat => match j with | 0 => T0 | _ => T1)) (P := (fun j : Nat => match j with | 0 => P0 | _ => P1)) (fun j hj => by
    match j, hj with
    | 0, _ => exact ht0
    | 1, _ => exact ht1
    | j + 2, h => omega) (fun j hj => by
    match j, hj with
    | 0, _ => exact hk0
    | 1, _ => exact hk1
    | j + 2, h => omega) n0 hn
  have hlen : ∀ k, k <= 64 -> (F k).length = 20 := fun k hk => ((hF k).1 hk).len
  have hfin := (hF 64).1 (Nat.le_refl _)
  simp only [Vr, Nat.sub_self, Nat.pow_zero, Nat.div_one, Vh] at hfin
  refine ⟨F 64, hfin, fun q1 q2 => PR.mk' Tryz.func33 rfl rfl rfl fun ρ w hG hm => ?_⟩
  obtain ⟨b1, -⟩ := hm _ (.head _)
  obtain ⟨b2, -⟩ := hm _ (.tail _ (.head _))
  have r1 := Q8.rows (s := 32) (rows := [k0.map (Value.int .u8), k1.map (Value.int .u8)]) (by simpa [Qp, SV.cs] using b1) (by omega) (by simp [hkl0, hkl1]) (by simp [maxLen])
  have r2 := Q8.rows (s := 20) (rows := [l0.map (Value.int .u64), l1.map (Value.int .u64)]) (by simpa [Qp, SV.cs] using b2) (by omega) (by simp [hp0.len, hp1.len]) (by simp [maxLen])
  have hll0 := hp0.len
  have htl0 := ht0.1
  have hll1 := hp1.len
  have htl1 := ht1.1
  have hnl := hn.len
  refine S.enter Qw [.o (some ⟨ρ.b q1, 0, none⟩) 2 2, .o (some ⟨ρ.b q2, 0, none⟩) 2 2] (gT ++ [fR 32 (.slice (some ⟨ρ.b q1, 0, none⟩) 2 2) [k0.map (Value.int .u8), k1.map (Value.int .u8)], fR 20 (.slice (some ⟨ρ.b q2, 0, none⟩) 2 2) [l0.map (Value.int .u64), l1.map (Value.int .u64)]]) Tryz.func33 rfl rfl rfl (fun _ => by simp only [QO, SV.den]) (LL.none w) (hG.app ⟨r1, r2, trivial⟩) ?_
  refine S.slc 0 [.a .u8 k0 32, .a .u8 k1 32] rfl (fun ρ w h => h.f gTn rfl) (by simp [Qp, SV.cs]) (by simp [YC, SV.wd]) ?_ ⟨hkl0, hkl1, trivial⟩
  refine S.slc 1 [.a .u64 l0 20, .a .u64 l1 20] rfl (fun ρ w h => h.f (gTn + 1) rfl) (by simp [Qp, SV.cs]) (by simp [YC, SV.wd]) ?_ ⟨hll0, hll1, trivial⟩
  refine S.g false rfl ?_
  refine S.make 2 rfl rfl rfl rfl (s := 320) (bytes := 2560) (by kernel_rfl) rfl rfl rfl rfl rfl (by omega) (by omega) ?_
  refine S.g false rfl ?_
  refine S.rd 17 (.lit .i64 0) rfl (fun _ => rfl) ?_
  refine S.rounds 2 ?_
  refine S.g false rfl ?_
  refine S.condT rfl (by omega) ?_
  refine S.go false rfl (by repeat' (first | exact True.intro | refine And.intro ?_ ?_ | assumption | omega | (dsimp only; omega) | (simp only [Nat.add_eq, Nat.mul_eq, Nat.sub_eq, SV.wd]; omega) | exact rfl)) ?_
  refine S.cv rfl rfl rfl rfl rfl rfl hm0 ?_
  refine S.go false rfl (by repeat' (first | exact True.intro | refine And.intro ?_ ?_ | assumption | omega | (dsimp only; omega) | (simp only [Nat.add_eq, Nat.mul_eq, Nat.sub_eq, SV.wd]; omega) | exact rfl)) ?_
  refine S.rd 17 (.lit .i64 1) rfl (fun _ => rfl) ?_
  refine S.next ?_
  refine S.g false rfl ?_
  refine S.condT rfl (by omega) ?_
  refine S.go false rfl (by repeat' (first | exact True.intro | refine And.intro ?_ ?_ | assumption | omega | (dsimp only; omega) | (simp only [Nat.add_eq, Nat.mul_eq, Nat.sub_eq, SV.wd]; omega) | exact rfl)) ?_
  refine S.cv rfl rfl rfl rfl rfl rfl hm1 ?_
  refine S.go false rfl (by repeat' (first | exact True.intro | refine And.intro ?_ ?_ | assumption | omega | (dsimp only; omega) | (simp only [Nat.add_eq, Nat.mul_eq, Nat.sub_eq, SV.wd]; omega) | exact rfl)) ?_
  refine S.rd 17 (.lit .i64 2) rfl (fun _ => rfl) ?_
  refine S.next ?_
  refine S.g false rfl ?_
  refine S.condF rfl (by omega) ?_
  refine S.g false rfl ?_
  refine S.cv rfl rfl rfl rfl rfl rfl hn0 ?_
  refine S.go false rfl (by repeat' (first | exact True.intro | refine And.intro ?_ ?_ | assumption | omega | (dsimp only; omega) | (simp only [Nat.add_eq, Nat.mul_eq, Nat.sub_eq, SV.wd]; omega) | exact rfl)) ?_
  refine S.loop [0, 4, 5, 8] (fun k : Nat => [(29, .i .i64 (k : Int))]) (fun k => [(2, [.i .u64 0, .i .u64 0, .i .u64 0, .i .u64 0, .i .u64 0, .i .u64 0, .i .u64 0, .i .u64 0, .i .u64 0, .i .u64 0, .i .u64 0, .i .u64 0, .i .u64 0, .i .u64 0, .i .u64 0, .i .u64 0, .i .u64 0, .i .u64 0, .i .u64 0, .i .u64 0]), (3, [.a .u64 T0 320, .a .u64 T1 320]), (6, [.a .u64 (F k) 20])]) (fun _ => []) (fun k => k <= 64) (fun k => 64 - k) 0 rfl (fun _ => rfl) (fun _ => rfl) rfl ⟨⟨rfl, rfl⟩, trivial⟩ (by rw [hF0]; repeat' (first | exact True.intro | refine And.intro ?_ ?_ | assumption | exact rfl)) (fun _ _ _ => trivial) (by omega) fun J k hk again => ?_
  have hk' : k <= 64 := hk
  have hFk := hlen k hk'
  refine S.g false rfl ?_
  refine S.cond rfl (fun c => ?_) (fun c => ?_)
  . have c' : k < 64 := by omega
    obtain ⟨d, a, hd0, ha0, hy, hdl, hal, hdd, haa⟩ := (hF k).2 c'
    have d0 := hdd 0 (by omega)
    have dl1 := hdl 1 (by omega)
    have d1 := hdd 1 (by omega)
    have dl2 := hdl 2 (by omega)
    have d2 := hdd 2 (by omega)
    have dl3 := hdl 3 (by omega)
    have d3 := hdd 3 (by omega)
    have dl4 := hdl 4 (by omega)
    obtain ⟨ni0, aa0⟩ := haa 0 (by omega)
    have al1 := hal 1 (by omega)
    have nj0 : 0 <= UV k0 k /\ UV k0 k < 16 := ni0
    unfold UV at nj0
    obtain ⟨ni1, aa1⟩ := haa 1 (by omega)
    have al2 := hal 2 (by omega)
    have nj1 : 0 <= UV k1 k /\ UV k1 k < 16 := ni1
    unfold UV at nj1
    rw [hd0] at d0
    rw [ha0] at aa0
    refine S.g false rfl ?_
    refine S.rounds 4 ?_
    refine S.g false rfl ?_
    refine S.condT rfl (by omega) ?_
    refine S.g false rfl ?_
    refine S.cv rfl rfl rfl rfl rfl rfl d0 ?_
    refine S.go false rfl (by repeat' (first | exact True.intro | refine And.intro ?_ ?_ | assumption | omega | (dsimp only; omega) | (simp only [Nat.add_eq, Nat.mul_eq, Nat.sub_eq, SV.wd]; omega) | exact rfl)) ?_
    refine S.next ?_
    refine S.g false rfl ?_
    refine S.condT rfl (by omega) ?_
    refine S.g false rfl ?_
    refine S.cv rfl rfl rfl rfl rfl rfl d1 ?_
    refine S.go false rfl (by repeat' (first | exact True.intro | refine And.intro ?_ ?_ | assumption | omega | (dsimp only; omega) | (simp only [Nat.add_eq, Nat.mul_eq, Nat.sub_eq, SV.wd]; omega) | exact rfl)) ?_
    refine S.next ?_
    refine S.g false rfl ?_
    refine S.condT rfl (by omega) ?_
    refine S.g false rfl ?_
    refine S.cv rfl rfl rfl rfl rfl rfl d2 ?_
    refine S.go false rfl (by repeat' (first | exact True.intro | refine And.intro ?_ ?_ | assumption | omega | (dsimp only; omega) | (simp only [Nat.add_eq, Nat.mul_eq, Nat.sub_eq, SV.wd]; omega) | exact rfl)) ?_
    refine S.next ?_
    refine S.g false rfl ?_
    refine S.condT rfl (by omega) ?_
    refine S.g false rfl ?_
    refine S.cv rfl rfl rfl rfl rfl rfl d3 ?_
    refine S.go false rfl (by repeat' (first | exact True.intro | refine And.intro ?_ ?_ | assumption | omega | (dsimp only; omega) | (simp only [Nat.add_eq, Nat.mul_eq, Nat.sub_eq, SV.wd]; omega) | exact rfl)) ?_
    refine S.next ?_
    refine S.g false rfl ?_
    refine S.condF rfl (by omega) ?_
    refine S.g false rfl ?_
    refine S.rd 41 (.lit .i64 0) rfl (fun _ => rfl) ?_
    refine S.rounds 2 ?_
    refine S.g false rfl ?_
    refine S.condT rfl (by omega) ?_
    refine S.g false rfl ?_
    refine S.drp false [(18, fp (a 1))] rfl rfl rfl ?_ (by repeat' (first | exact True.intro | refine And.intro ?_ ?_ | assumption | omega | (dsimp only; omega) | (simp only [Nat.add_eq, Nat.mul_eq, Nat.sub_eq, SV.wd]; omega) | exact rfl))
    refine S.g false rfl ?_
    refine S.rd 41 (.lit .i64 1) rfl (fun _ => rfl) ?_
    refine S.next ?_
    refine S.g false rfl ?_
    refine S.condT rfl (by omega) ?_
    refine S.g false rfl ?_
    refine S.drp false [(18, fp (a 2))] rfl rfl rfl ?_ (by repeat' (first | exact True.intro | refine And.intro ?_ ?_ | assumption | omega | (dsimp only; omega) | (simp only [Nat.add_eq, Nat.mul_eq, Nat.sub_eq, SV.wd]; omega) | exact rfl))
    refine S.g false rfl ?_
    refine S.rd 41 (.lit .i64 2) rfl (fun _ => rfl) ?_
    refine S.next ?_
    refine S.g false rfl ?_
    refine S.condF rfl (by omega) ?_
    refine S.g false rfl ?_
    refine S.again (again (k + 1) (show k + 1 <= 64 by omega) (show 64 - (k + 1) < 64 - k by omega)) ⟨⟨rfl, by omega⟩, rfl, rfl, ⟨rfl, rfl, rfl, rfl⟩, rfl, trivial⟩ ?_ rfl rfl (fun x hx => hx) rfl (fun ρ W h => h.hs)
    rw [hy]
    repeat' (first | exact True.intro | refine And.intro ?_ ?_ | assumption | exact rfl)
  . obtain rfl : k = 64 := by omega
    refine S.go false rfl (by repeat' (first | exact True.intro | refine And.intro ?_ ?_ | assumption | omega | (dsimp only; omega) | (simp only [Nat.add_eq, Nat.mul_eq, Nat.sub_eq, SV.wd]; omega) | exact rfl)) ?_
    exact S.retv rfl rfl rfl rfl rfl
theorem QkK (v : Int) : (v % pV).toNat < pN := by
  have h := Vy v
  have e := Uc
  omega
def ofI (v : Int) : FF := ⟨(v % pV).toNat, QkK v⟩
theorem Dv (v : Int) : ((ofI v).val : Int) = v % pV := by
  have h := Vy v
  show (((v % pV).toNat : Nat) : Int) = v % pV
  omega
theorem Qec {a b : FF} (h : (a.val : Int) = (b.val : Int)) : a = b := Fin.ext (by omega)
/-- The square of x, by y. -/
def uF (y : FF) : FF := (y*y - 1) * Yd (y*y*dF + 1)
def rF (u : FF) : FF := ofI (rV (u.val : Int))
def okF (u : FF) : Bool := okV (u.val : Int)
theorem Qcz (u : FF) : ((rF u).val : Int) = rV (u.val : Int) := by
  have h := Qmi (u.val : Int)
  rw [rF, Dv, Int.emod_eq_of_lt h.1 h.2]
theorem QgF {u : FF} (h : okF u = true) : rF u * rF u = u := by
  refine Qec ?_
  rw [val_mul, Qcz]
  exact Qmh h
theorem Qkv (y : FF) : y*y*dF + 1 ≠ 0 := by
  intro h
  by_cases hy : y = 0
  . subst hy
    exact absurd h (by decide +kernel)
  . have hi := VB hy
    refine Qkx (iF * Yd y) ?_
    generalize Yd y = f at *
    have hq := QhC
    grobner
theorem Qk8 {x y : FF} (hx : x*x = uF y) : On dF x y := by
  have hi := VB (Qkv y)
  unfold uF at hx
  unfold On
  generalize Yd (y*y*dF + 1) = f at *
  grobner
/-- What 32 bytes say: y, whether x is odd, and x's even value. -/
def Js (b : List Int) : List Int := b.set 31 (Qb b 31 % 128)
def yI (b : List Int) : Int := Qq (Js b) 32
def yF (b : List Int) : FF := ofI (yI b)
def odB (b : List Int) : Bool := decide (128 <= Qb b 31)
def rtB (b : List Int) : FF := rF (uF (yF b))
structure JJ (b : List Int) : Prop where
  low : yI b < pV
  ok : okF (uF (yF b)) = true
  one : ¬ (odB b = true /\ rtB b = 0)
def xF (b : List Int) : FF := if odB b then -rtB b else rtB b
theorem Ql4 {b : List Int} (h : JJ b) : On dF (xF b) (yF b) := by
  refine Qk8 ?_
  have hs : rtB b * rtB b = uF (yF b) := QgF h.ok
  unfold xF
  cases odB b
  . exact hs
  . rw [<- hs]
    show -rtB b * -rtB b = _
    grobner
def ptB (b : List Int) (h : JJ b) : Pt := ⟨xF b, yF b, Ql4 h⟩
theorem Qhj {b : List Int} (h : b.length = 32) : (Js b).length = 32 := by simp [Js, h]
theorem Kt {b : List Int} (h : Qh b) : Qh (Js b) := by
  intro x hx
  rcases List.mem_or_eq_of_mem_set hx with h1 | h1
  . exact h x h1
  . have := h.at 31
    omega
theorem Qil {x : Int} (hx : 0 <= x /\ x <= 255) (h : 128 <= x) : bits BinOp.and IntKind.u8 x 128 = 128 := by
  have := V6 (p := fun x => 128 <= x -> bits BinOp.and IntKind.u8 x 128 = 128) (by decide +kernel) hx
  exact this h
theorem Qim {x : Int} (hx : 0 <= x /\ x <= 255) (h : ¬ 128 <= x) : bits BinOp.and IntKind.u8 x 128 = 0 := by
  have := V6 (p := fun x => ¬ 128 <= x -> bits BinOp.and IntKind.u8 x 128 = 0) (by decide +kernel) hx
  exact this h
theorem Qj4 {x : Int} (hx : 0 <= x /\ x <= 255) : bits BinOp.and IntKind.u8 x 127 = x % 128 := V6 (p := fun x => bits BinOp.and IntKind.u8 x 127 = x % 128) (by decide +kernel) hx
theorem Ql3 {b : List Int} (hb : Qh b) : Xo (QB (Jt (Js b))) ((yF b).val : Int) := by rw [yF, Dv]; exact EO _ (Kt hb)
def z20 : List Int := List.replicate 20 0
theorem QiO {b : List Int} (hb : Qh b) : b.set 31 (bits .and .u8 (b.getD 31 0) 127) = Js b := by
  have e : b.getD 31 0 = Qb b 31 := by simp [Qb]
  rw [e, Qj4 (hb.at 31)]
  rfl
theorem Qkm {b : List Int} (hb : Qh b) (h : 128 <= Qb b 31) : ¬ bits .and .u8 (b.getD 31 0) 128 = 0 := by
  have e : b.getD 31 0 = Qb b 31 := by simp [Qb]
  rw [e, Qil (hb.at 31) h]
  omega
theorem Qkn {b : List Int} (hb : Qh b) (h : ¬ 128 <= Qb b 31) : bits .and .u8 (b.getD 31 0) 128 = 0 := by
  have e : b.getD 31 0 = Qb b 31 := by simp [Qb]
  rw [e]
  exact Qim (hb.at 31) h
set_option maxHeartbeats 2000000 in
theorem Qho {b : List Int} (hb : Qh b) (hl : b.length = 32) : (∀ h : JJ b, ∃ r, Qip r (ptB b h) /\ PV Tryz.prog gT 108 [.a .u8 b 32] (.t [fp r, .l true])) /\ (¬ JJ b -> PV Tryz.prog gT 108 [.a .u8 b 32] (.t [fp z20, .l false])) := by
  have hlb := Qhj hl
  have k1 := Ql3 hb
  have H0 := QiY (Kt hb) hlb
  have H1 := Qhp (Kt hb) hlb
  generalize hk1 : QB (Jt (Js b)) = y1 at *
  obtain ⟨s, k2, H2⟩ := X7 k1 k1
  rw [<- val_mul] at k2
  obtain ⟨x4, k4, H4⟩ := Vu k2 KV
  obtain ⟨x5, k5, H5⟩ := X7 k2 Qh0
  rw [QhZ, <- val_mul] at k5
  obtain ⟨x6, k6, H6⟩ := UQ k5 KV
  have one_v : (1 : Int) = ((1 : FF).val : Int) := by decide +kernel
  rw [one_v, <- VV] at k4
  rw [one_v, <- val_add] at k6
  obtain ⟨x7, k7, H7⟩ := EQ k6
  rw [FN] at k7
  obtain ⟨x8, k8, H8⟩ := X7 k4 k7
  rw [<- val_mul] at k8
  change Xo x8 ((uF (yF b)).val : Int) at k8
  have H9 := QkW k8
  have k9 := QiU k8
  rw [<- Qcz] at k9
  change Xo _ ((rtB b).val : Int) at k9
  change PV _ _ _ _ (.t [_, .l (okF (uF (yF b)))]) at H9
  have H10 := Qcs k9 Uh
  obtain ⟨nx, kn, H11⟩ := QgQ (y := y1) k9
  rw [<- Hm] at kn
  have hz0 : (((rtB b).val : Int) = 0) ↔ rtB b = 0 := ⟨fun h => Qec (by rw [h]; decide +kernel), fun h => by rw [h]; decide +kernel⟩
  generalize rtL x8 ((uF (yF b)).val : Int) = rx at *
  have gd := QmE
  have h1 := Hq 1 (by omega)
  have hsl := QiO hb
  have hxt : 128 <= Qb b 31 -> xF b = -rtB b := fun ho => by unfold xF odB; rw [decide_eq_true ho]; rfl
  have hxf : ¬ 128 <= Qb b 31 -> xF b = rtB b := fun ho => by unfold xF odB; rw [decide_eq_false ho]; rfl
  have yes : JJ b -> ∀ h : JJ b, ∃ r, Qip r (ptB b h) /\ PV Tryz.prog gT 108 [.a .u8 b 32] (.t [fp r, .l true]) := fun _ h => by
    have hok := h.ok
    have hlow : Qq (Js b) 32 < pV := h.low
    rw [hok] at H9
    by_cases ho : 128 <= Qb b 31
    . rw [<- hxt ho] at kn
      have hnz : ¬ (((rtB b).val : Int) = 0) := fun e => h.one ⟨decide_eq_true ho, hz0.1 e⟩
      obtain ⟨r, hr, H12⟩ := Ji (P := ptB b h) kn k1
      have hrl := hr.1.len
      refine ⟨r, hr, PV.mk' Tryz.func108 rfl rfl rfl rfl fun w L hL hG => ?_⟩
      clear k1 k2 k4 k5 k6 k7 k8 k9 kn hr
      refine S.enter Qw [.a .u8 b 32] gT Tryz.func108 rfl rfl rfl (fun _ => rfl) hL hG ?_
      refine S.go false rfl (by repeat' (first | exact True.intro | refine And.intro ?_ ?_ | assumption | omega | (dsimp only; omega) | exact rfl)) ?_
      refine S.rd 4 (.l true) rfl (fun _ => by simp only [SV.den]; rw [decide_eq_true (Qkm hb ho)]) ?_
      refine S.recell 0 [.a .u8 (Js b) 32] rfl (fun ρ => congrArg (fun z => Qp ρ [SV.a .u8 z 32]) hsl) ⟨hlb, trivial⟩ rfl ?_
      refine S.rd 19 (.a .u8 (Js b) 32) rfl (fun ρ => congrArg (fun z => (SV.a .u8 z 32).den ρ) hsl) ?_
      refine S.cv rfl rfl rfl rfl rfl rfl H0 ?_
      refine S.g false rfl ?_
      refine S.condF rfl (fun h => h hlow) ?_
      refine S.g false rfl ?_
      refine S.cv rfl rfl rfl rfl rfl rfl H1 ?_
      refine S.g false rfl ?_
      refine S.cv rfl rfl rfl rfl rfl rfl H2 ?_
      refine S.g false rfl ?_
      refine S.cv rfl rfl rfl rfl rfl rfl h1 ?_
      refine S.g false rfl ?_
      refine S.drp false [(2, lm x4), (4, lm dL), (5, lm x5), (7, lm x6), (8, lm x7), (9, lm x8), (10, .t [lm rx, .l true])] rfl rfl rfl ?_ (by repeat' (first | exact True.intro | refine And.intro ?_ ?_ | assumption | omega | (dsimp only; omega) | exact rfl))
      refine S.g false rfl ?_
      refine S.cv rfl rfl rfl rfl rfl rfl H10 ?_
      refine S.g false rfl ?_
      refine S.condF rfl hnz ?_
      refine S.g false rfl ?_
      refine S.cv rfl rfl rfl rfl rfl rfl H11 ?_
      refine S.g false rfl ?_
      refine S.cv rfl rfl rfl rfl rfl rfl H12 ?_
      refine S.go false rfl (by repeat' (first | exact True.intro | refine And.intro ?_ ?_ | assumption | omega | (dsimp only; omega) | exact rfl)) ?_
      exact S.rett rfl rfl rfl rfl rfl
    . rw [<- hxf ho] at k9
      obtain ⟨r, hr, H12⟩ := Ji (P := ptB b h) k9 k1
      have hrl := hr.1.len
      refine ⟨r, hr, PV.mk' Tryz.func108 rfl rfl rfl rfl fun w L hL hG => ?_⟩
      clear k1 k2 k4 k5 k6 k7 k8 k9 kn hr
      refine S.enter Qw [.a .u8 b 32] gT Tryz.func108 rfl rfl rfl (fun _ => rfl) hL hG ?_
      refine S.go false rfl (by repeat' (first | exact True.intro | refine And.intro ?_ ?_ | assumption | omega | (dsimp only; omega) | exact rfl)) ?_
      refine S.rd 4 (.l false) rfl (fun _ => by simp only [SV.den]; rw [decide_eq_false (fun e => e (Qkn hb ho))]) ?_
      refine S.recell 0 [.a .u8 (Js b) 32] rfl (fun ρ => congrArg (fun z => Qp ρ [SV.a .u8 z 32]) hsl) ⟨hlb, trivial⟩ rfl ?_
      refine S.rd 19 (.a .u8 (Js b) 32) rfl (fun ρ => congrArg (fun z => (SV.a .u8 z 32).den ρ) hsl) ?_
      refine S.cv rfl rfl rfl rfl rfl rfl H0 ?_
      refine S.g false rfl ?_
      refine S.condF rfl (fun h => h hlow) ?_
      refine S.g false rfl ?_
      refine S.cv rfl rfl rfl rfl rfl rfl H1 ?_
      refine S.g false rfl ?_
      refine S.cv rfl rfl rfl rfl rfl rfl H2 ?_
      refine S.g false rfl ?_
      refine S.cv rfl rfl rfl rfl rfl rfl h1 ?_
      refine S.g false rfl ?_
      refine S.drp false [(2, lm x4), (4, lm dL), (5, lm x5), (7, lm x6), (8, lm x7), (9, lm x8), (10, .t [lm rx, .l true])] rfl rfl rfl ?_ (by repeat' (first | exact True.intro | refine And.intro ?_ ?_ | assumption | omega | (dsimp only; omega) | exact rfl))
      refine S.g false rfl ?_
      refine S.cv rfl rfl rfl rfl rfl rfl H12 ?_
      refine S.go false rfl (by repeat' (first | exact True.intro | refine And.intro ?_ ?_ | assumption | omega | (dsimp only; omega) | exact rfl)) ?_
      exact S.rett rfl rfl rfl rfl rfl
  refine ⟨fun h => yes h h, fun hno => PV.mk' Tryz.func108 rfl rfl rfl rfl fun w L hL hG => ?_⟩
  clear k1 k2 k4 k5 k6 k7 k8 k9 kn
  refine S.enter Qw [.a .u8 b 32] gT Tryz.func108 rfl rfl rfl (fun _ => rfl) hL hG ?_
  refine S.go false rfl (by repeat' (first | exact True.intro | refine And.intro ?_ ?_ | assumption | omega | (dsimp only; omega) | exact rfl)) ?_
  have hod : ∃ od : Bool, (od = true ↔ 128 <= Qb b 31) /\ decide (¬ bits .and .u8 (b.getD 31 0) 128 = 0) = od := by
    by_cases ho : 128 <= Qb b 31
    . exact ⟨true, by simp [ho], decide_eq_true (Qkm hb ho)⟩
    . exact ⟨false, by simp [ho], decide_eq_false (fun e => e (Qkn hb ho))⟩
  obtain ⟨od, ho1, ho2⟩ := hod
  refine S.rd 4 (.l od) rfl (fun _ => by simp only [SV.den]; rw [<- ho2]) ?_
  refine S.recell 0 [.a .u8 (Js b) 32] rfl (fun ρ => congrArg (fun z => Qp ρ [SV.a .u8 z 32]) hsl) ⟨hlb, trivial⟩ rfl ?_
  refine S.rd 19 (.a .u8 (Js b) 32) rfl (fun ρ => congrArg (fun z => (SV.a .u8 z 32).den ρ) hsl) ?_
  refine S.cv rfl rfl rfl rfl rfl rfl H0 ?_
  refine S.g false rfl ?_
  refine S.cond rfl (fun hc => ?_) (fun hc => ?_)
  . refine S.g false rfl ?_
    exact S.rett rfl rfl rfl rfl rfl
  have hlow : Qq (Js b) 32 < pV := Decidable.not_not.1 hc
  refine S.g false rfl ?_
  refine S.cv rfl rfl rfl rfl rfl rfl H1 ?_
  refine S.g false rfl ?_
  refine S.cv rfl rfl rfl rfl rfl rfl H2 ?_
  refine S.g false rfl ?_
  refine S.cv rfl rfl rfl rfl rfl rfl h1 ?_
  refine S.g false rfl ?_
  refine S.drp false [(2, lm x4), (4, lm dL), (5, lm x5), (7, lm x6), (8, lm x7), (9, lm x8), (10, .t [lm rx, .l (okF (uF (yF b)))])] rfl rfl rfl ?_ (by repeat' (first | exact True.intro | refine And.intro ?_ ?_ | assumption | omega | (dsimp only; omega) | exact rfl))
  cases hok : okF (uF (yF b)) with
  | false =>
    refine S.rd 9 (.l false) rfl (fun _ => rfl) ?_
    refine S.g false rfl ?_
    exact S.rett rfl rfl rfl rfl rfl
  | true =>
    refine S.rd 9 (.l true) rfl (fun _ => rfl) ?_
    cases od with
    | false => exact absurd ⟨hlow, hok, fun h => by have := ho1.2 (of_decide_eq_true h.1); cases this⟩ hno
    | true =>
      refine S.g false rfl ?_
      refine S.cv rfl rfl rfl rfl rfl rfl H10 ?_
      refine S.g false rfl ?_
      by_cases hz : ((rtB b).val : Int) = 0
      . refine S.condT rfl hz ?_
        refine S.g false rfl ?_
        exact S.rett rfl rfl rfl rfl rfl
      . exact absurd ⟨hlow, hok, fun h => hz (hz0.2 h.2)⟩ hno
theorem Vo (a : FF) : 0 <= (a.val : Int) /\ (a.val : Int) < pV := by
  have := a.isLt
  rw [Uc]; omega
theorem KF (a : FF) : 0 <= (a.val : Int) /\ (a.val : Int) < 2 ^ 256 := by
  have h := Vo a
  have := QdP
  omega
/-- The base point's numbers. -/
def Em : FF := 15112221349535400772501151409588531511454012693041857206046113283949847762202
def El : FF := 46316835694926478169428394003475163141307993866256225615783033603165251855960
def bP : Pt := ⟨Em, El, by unfold On; decide +kernel⟩
def Zs (P : Pt) : List Int := if (P.x.val : Int) % 2 = 1 then (Xf (P.y.val : Int)).set 31 (Qb (Xf (P.y.val : Int)) 31 + 128) else Xf (P.y.val : Int)
theorem Q1 (P : Pt) : (Zs P).length = 32 := by unfold Zs; split <;> simp [QP]
theorem H3 (a : FF) : 0 <= Qb (Xf (a.val : Int)) 31 /\ Qb (Xf (a.val : Int)) 31 < 128 := by
  have h := Gt (a.val : Int) 31 (by omega)
  have hv := Vo a
  have hp : pV < 2 ^ 255 := by decide +kernel
  rw [h]
  omega
theorem Qmm {x : Int} (hx : 0 <= x /\ x < 128) : bits BinOp.or IntKind.u8 x 128 = x + 128 := by
  have := V6 (p := fun x => x < 128 -> bits BinOp.or IntKind.u8 x 128 = x + 128) (by decide +kernel) (x := x) (by omega)
  exact this hx.2
theorem Ge (P : Pt) : Zs P = (Xf (P.y.val : Int)).set 31 (Qb (Xf (P.y.val : Int)) 31 + (P.x.val : Int) % 2 * 128) := by
  unfold Zs
  split
  . next h => rw [h]; rfl
  . next h =>
    rw [show (P.x.val : Int) % 2 = 0 by omega, Int.zero_mul, Int.add_zero]
    have hl := QP (P.y.val : Int)
    generalize Xf (P.y.val : Int) = b at *
    unfold Qb
    refine List.ext_getElem (by simp) fun i h1 h2 => ?_
    rw [List.getElem_set]
    split
    . next hi => subst hi; simp [h1]
    . rfl
theorem Qad {l : List Int} {k : Nat} (h : k < l.length) (v : Int) : Qb (l.set k v) k = v := by simp [Qb, h]
theorem QiP {l : List Int} {k : Nat} (h : k < l.length) : l.set k (Qb l k) = l := by
  refine List.ext_getElem (by simp) fun i h1 h2 => ?_
  rw [List.getElem_set]
  split
  . next hi => subst hi; simp [Qb, h]
  . rfl
theorem QbI (P : Pt) : Qb (Zs P) 31 = Qb (Xf (P.y.val : Int)) 31 + (P.x.val : Int) % 2 * 128 := by
  rw [Ge, Qad (by rw [QP]; decide)]
theorem QhK (P : Pt) : Js (Zs P) = Xf (P.y.val : Int) := by
  have ht := H3 P.y
  unfold Js
  rw [QbI, Ge, List.set_set]
  rw [show (Qb (Xf (P.y.val : Int)) 31 + (P.x.val : Int) % 2 * 128) % 128 = Qb (Xf (P.y.val : Int)) 31 by omega]
  exact QiP (by rw [QP]; decide)
theorem Qej (P : Pt) : yI (Zs P) = (P.y.val : Int) := by
  unfold yI
  rw [QhK]
  exact JM _ (KF P.y).1 (KF P.y).2
theorem Qg5 (a : FF) : ofI (a.val : Int) = a := Qec (by rw [Dv, Int.emod_eq_of_lt (Vo a).1 (Vo a).2])
theorem HE (P : Pt) : yF (Zs P) = P.y := by unfold yF; rw [Qej, Qg5]
theorem Qek (P : Pt) : odB (Zs P) = decide ((P.x.val : Int) % 2 = 1) := by
  have ht := H3 P.y
  unfold odB
  rw [QbI]
  exact decide_eq_decide.2 (by omega)
theorem Qf2 (P : Pt) : uF P.y = P.x * P.x := by
  have hi := VB (Qkv P.y)
  have ho := P.on
  unfold On at ho
  unfold uF
  generalize Yd (P.y*P.y*dF + 1) = f at *
  grobner
theorem QcM (a : FF) : okF (a * a) = true := by
  unfold okF
  rw [val_mul]
  exact Qfj _
theorem Qi5 (u : FF) : ((rF u).val : Int) % 2 = 0 := by rw [Qcz]; exact Qi4 _
theorem Qkj (a : FF) : rF (a * a) = a \/ rF (a * a) = -a := by
  have h := QgF (QcM a)
  generalize rF (a * a) = r at *
  have h2 : (r - a) * (r + a) = 0 := by grobner
  rcases Eg h2 with h3 | h3
  . left; grobner
  . right; grobner
theorem Qjj {a : FF} (h : a ≠ 0) : ((-a).val : Int) = pV - (a.val : Int) := by
  have hv := Vo a
  have h0 : (a.val : Int) ≠ 0 := fun e => h (Qec (by rw [e]; decide +kernel))
  rw [Hm, show 0 - (a.val : Int) = (pV - (a.val : Int)) + pV * (-1) by omega, Int.add_mul_emod_self_left, Int.emod_eq_of_lt (by omega) (by omega)]
theorem Qk5 : pV % 2 = 1 := by decide +kernel
theorem Qel (P : Pt) : JJ (Zs P) := by
  refine ⟨by rw [Qej]; exact (Vo _).2, by rw [HE, Qf2]; exact QcM _, ?_⟩
  rintro ⟨h1, h2⟩
  rw [Qek] at h1
  unfold rtB at h2
  rw [HE, Qf2] at h2
  have h3 := QgF (QcM P.x)
  rw [h2] at h3
  have h4 : P.x * P.x = 0 := by rw [<- h3]; grobner
  have h5 : P.x = 0 := (Eg h4).elim id id
  rw [h5] at h1
  exact absurd h1 (by decide +kernel)
theorem QjC (P : Pt) : xF (Zs P) = P.x := by
  have he := Qi5 (P.x * P.x)
  have ho := Qk5
  unfold xF rtB
  rw [Qek, HE, Qf2]
  by_cases h0 : P.x = 0
  . rw [h0] at he ⊢
    rw [decide_eq_false (show ¬ (((0 : FF).val : Nat) : Int) % 2 = 1 by decide +kernel)]
    rcases Qkj 0 with h | h
    . exact h
    . refine Eq.trans h ?_
      decide +kernel
  . have hn := Qjj h0
    rcases Qkj P.x with h | h
    . rw [h] at he ⊢
      rw [decide_eq_false (show ¬ (P.x.val : Int) % 2 = 1 by omega)]
      rfl
    . rw [h] at he ⊢
      rw [hn] at he
      rw [decide_eq_true (show (P.x.val : Int) % 2 = 1 by omega)]
      show - -P.x = P.x
      grobner
/-- A point's bytes are that point's. -/
theorem Qeo (P : Pt) (h : JJ (Zs P)) : ptB (Zs P) h = P := Pt.ext (QjC P) (HE P)
theorem Ye (P : Pt) : Qh (Zs P) := by
  rw [Ge]
  have ht := H3 P.y
  intro x hx
  rcases List.mem_or_eq_of_mem_set hx with h1 | h1
  . exact UU _ x h1
  . omega
theorem QfA (P : Pt) : QbH (P.x.val : Int) (P.y.val : Int) = Zs P := by
  unfold QbH Zs
  split
  . have e : (Xf (P.y.val : Int)).getD 31 0 = Qb (Xf (P.y.val : Int)) 31 := by simp [Qb]
    rw [e, Qmm (H3 P.y)]
  . rfl
theorem Fp {x y : List Int} {P : Pt} (hx : Xo x (P.x.val : Int)) (hy : Xo y (P.y.val : Int)) : PV Tryz.prog gT 36 [pl x y] (.a .u8 (Zs P) 32) := by
  rw [<- QfA]; exact QgU hx hy
def bxL : List Int := [1738742601995546, 1146398526822698, 2070867633025821, 562264141797630, 587772402128613]
def byL : List Int := [1801439850948184, 1351079888211148, 450359962737049, 900719925474099, 1801439850948198]
theorem Qd9 : GL Tryz.prog gT 51 0 (pl bxL byL) := GL.of Qw (DK Gq) gT2 rfl (UZ rfl) rfl (Nat.lt_of_lt_of_le Nat.zero_lt_one (Nat.le_add_right 1 _)) rfl
theorem QjV : Xo bxL (bP.x.val : Int) := ⟨rfl, YH (by omega) (by omega) (by omega) (by omega) (by omega), by decide +kernel⟩
theorem QjU : Xo byL (bP.y.val : Int) := ⟨rfl, YH (by omega) (by omega) (by omega) (by omega) (by omega), by decide +kernel⟩
theorem Qez : ∃ r, Qip r bP /\ PV Tryz.prog gT 34 [pl bxL byL] (fp r) := Ji QjV QjU
theorem Qdl {k : List Int} (hk : Qh k) (hl : k.length = 32) : PV Tryz.prog gT 15 [.a .u8 k 32] (.a .u8 (Zs (QQ (kB k) bP)) 32) := by
  obtain ⟨rb, hb, hB⟩ := Qez
  obtain ⟨r, hr, hM⟩ := Qjo hk hl hb.1
  obtain ⟨x, y, hx, hy, hF⟩ := Qc0 hr
  have hY := Fp hx hy
  have hel := Q1 (QQ (kB k) bP)
  have hbl := hb.1.len
  have gb := Qd9
  generalize Zs (QQ (kB k) bP) = E at *
  refine PV.mk' Tryz.func15 rfl rfl rfl rfl fun w L hL hG => ?_
  clear hx hy hr hb
  refine S.enter Qw [.a .u8 k 32] gT Tryz.func15 rfl rfl rfl (fun _ => rfl) hL hG ?_
  refine S.go false rfl (by repeat' (first | exact True.intro | refine And.intro ?_ ?_ | assumption | omega | (dsimp only; omega) | (simp only [Nat.add_eq, Nat.mul_eq, Nat.sub_eq, SV.wd]; omega) | exact rfl)) ?_
  have hM' := hM 3 6
  refine S.drq false [(2, pl bxL byL), (3, fp rb), (5, fp r), (6, pl x y), (7, .a .u8 E 32)] [(5, [3, 6])] rfl rfl rfl ?_ (by repeat' (first | exact True.intro | refine And.intro ?_ ?_ | assumption | omega | (dsimp only; omega) | (simp only [Nat.add_eq, Nat.mul_eq, Nat.sub_eq, SV.wd]; omega) | exact rfl))
  refine S.g false rfl ?_
  exact S.retv rfl rfl rfl rfl rfl
theorem Qlh {l : List Int} {P : Pt} (hp : Qip l P) : ∃ r, YA r (YZ P) /\ ∀ q, PR Tryz.prog gT 70 [.y q 0 1 1] [(q, [.a .u64 l 20])] (fp r) := by
  obtain ⟨hP, x, y, z, t, rfl, hx, hy⟩ := hp
  obtain ⟨nx, kn, H1⟩ := QgQ (y := y) hx
  rw [<- Hm] at kn
  obtain ⟨r, hr, H2⟩ := Ji (P := YZ P) kn hy
  have hrl := hr.1.len
  refine ⟨r, hr.1, fun q => PR.mk' Tryz.func70 rfl rfl rfl fun ρ w hG hm => ?_⟩
  obtain ⟨b1, -⟩ := hm _ (.head _)
  have r1 := Q8.rows (s := 20) (rows := [(l20 x y z t).map (Value.int .u64)]) (by simpa [Qp, SV.cs] using b1) (by omega) (by simp [Qd3]) (by simp [maxLen])
  clear kn hr hx hy hP
  refine S.enter Qw [.o (some ⟨ρ.b q, 0, none⟩) 1 1] (gT ++ [fR 20 (.slice (some ⟨ρ.b q, 0, none⟩) 1 1) [(l20 x y z t).map (Value.int .u64)]]) Tryz.func70 rfl rfl rfl (fun _ => by simp only [QO, SV.den]) (LL.none w) (hG.app ⟨r1, trivial⟩) ?_
  refine S.slc 0 [.a .u64 (l20 x y z t) 20] rfl (fun ρ w h => h.f gTn rfl) (by simp [Qp, SV.cs]) (by simp [YC, SV.wd]) ?_ ⟨rfl, trivial⟩
  refine S.go false rfl (by repeat' (first | exact True.intro | refine And.intro ?_ ?_ | assumption | omega | (dsimp only; omega) | (simp only [Nat.add_eq, Nat.mul_eq, Nat.sub_eq, SV.wd]; omega) | exact rfl)) ?_
  refine S.rd 6 (pl x y) rfl (fun _ => rfl) ?_
  refine S.cv rfl rfl rfl rfl rfl rfl H1 ?_
  refine S.g false rfl ?_
  refine S.cv rfl rfl rfl rfl rfl rfl H2 ?_
  refine S.go false rfl (by repeat' (first | exact True.intro | refine And.intro ?_ ?_ | assumption | omega | (dsimp only; omega) | (simp only [Nat.add_eq, Nat.mul_eq, Nat.sub_eq, SV.wd]; omega) | exact rfl)) ?_
  exact S.retv rfl rfl rfl rfl rfl
theorem Qlm {l a b : List Int} {P : Pt} (ha : Qh a) (hal : a.length = 32) (hb : Qh b) (hbl : b.length = 32) (hp : YA l P) : ∃ r, YA r (Qy (QQ (kB a) P) (QQ (kB b) bP)) /\ ∀ B1 B2 q, PR Tryz.prog (gT ++ [fG B1 (a.map (Value.int .u8)), fG B2 (b.map (Value.int .u8))]) 72 [.y q 0 1 1, .v (.pointer (some ⟨B1, 0, none⟩)), .v (.pointer (some ⟨B2, 0, none⟩))] [(q, [.a .u64 l 20])] (fp r) := by
  obtain ⟨rb, hrb, hB⟩ := Qez
  obtain ⟨r, hr, hM⟩ := Qjn ha hal hp hb hbl hrb.1
  have hll := hp.len
  have hbbl := hrb.1.len
  have hrl := hr.len
  have gb := Qd9
  refine ⟨r, hr, fun B1 B2 q => PR.mk' Tryz.func72 rfl rfl rfl fun ρ w hG hm => ?_⟩
  obtain ⟨b1, -⟩ := hm _ (.head _)
  have r1 := Q8.rows (s := 20) (rows := [l.map (Value.int .u64)]) (by simpa [Qp, SV.cs] using b1) (by omega) (by simp [hll]) (by simp [maxLen])
  clear hr hrb hp
  refine S.enter Qw [.o (some ⟨ρ.b q, 0, none⟩) 1 1, .v (.pointer (some ⟨B1, 0, none⟩)), .v (.pointer (some ⟨B2, 0, none⟩))] ((gT ++ [fG B1 (a.map (Value.int .u8)), fG B2 (b.map (Value.int .u8))]) ++ [fR 20 (.slice (some ⟨ρ.b q, 0, none⟩) 1 1) [l.map (Value.int .u64)]]) Tryz.func72 rfl rfl rfl (fun _ => by simp only [QO, SV.den]) (LL.none w) (hG.app ⟨r1, trivial⟩) ?_
  refine S.slc 0 [.a .u64 l 20] rfl (fun ρ w h => h.f (gTn + 2) rfl) (by simp [Qp, SV.cs]) (by simp [YC, SV.wd]) ?_ ⟨hll, trivial⟩
  refine S.data 1 [.a .u8 a 32] rfl (fun ρ w h => by have := h.g gTn rfl; simpa [Qp, SV.cs] using this) ?_ rfl ⟨hal, trivial⟩ (by simp [YC, SV.wd])
  refine S.data 2 [.a .u8 b 32] rfl (fun ρ w h => by have := h.g (gTn + 1) rfl; simpa [Qp, SV.cs] using this) ?_ rfl ⟨hbl, trivial⟩ (by simp [YC, SV.wd])
  refine S.go false rfl (by repeat' (first | exact True.intro | refine And.intro ?_ ?_ | assumption | omega | (dsimp only; omega) | (simp only [Nat.add_eq, Nat.mul_eq, Nat.sub_eq, SV.wd]; omega) | exact rfl)) ?_
  have hM' := hM 6 12
  refine S.drq (G := gT) false [(6, pl bxL byL), (7, fp rb), (9, fp r)] [(9, [6, 12])] rfl rfl rfl ?_ (by repeat' (first | exact True.intro | refine And.intro ?_ ?_ | assumption | omega | (dsimp only; omega) | (simp only [Nat.add_eq, Nat.mul_eq, Nat.sub_eq, SV.wd]; omega) | exact rfl)) (hG := fun _ _ h => h.pre.pre)
  refine S.g false rfl ?_
  exact S.retv rfl rfl rfl rfl rfl
/-- made, where the bytes are a point's. -/
theorem Qhg {G' : List QN} (hGg : ∀ L W, Hs G' L W -> Hs gT L W)  {b : List Int} (hl : b.length = 32) {l : List Int} (hll : l.length = 20) (H0 : PV Tryz.prog gT 108 [.a .u8 b 32] (.t [fp l, .l true])) {r : List Int} {Q : Pt} (hr : YA r Q) (hC : ∀ q, PR Tryz.prog G' 70 [.y q 0 1 1] [(q, [.a .u64 l 20])] (fp r)) (w : World) (B : Nat) (hG : Hs G' [] w) (r1 : Zh 32 [] w (.slice (some ⟨B, 0, none⟩) 1 1) [b.map (Value.int .u8)]) :
    CX Tryz.prog 69 (QO QR [.f 70 [], .o (some ⟨B, 0, none⟩) 1 1]) w [] (fun _ : Unit => .t [.a .u8 (Zs Q) 32, .i .i64 0]) (fun _ => []) (fun _ => True) := by
  obtain ⟨x, y, hx, hy, hF⟩ := Qc0 hr
  have hY := Fp hx hy
  have hel := Q1 Q
  generalize Zs Q = E at *
  clear hx hy hr
  refine S.enter Qw [.f 70 [], .o (some ⟨B, 0, none⟩) 1 1] (G' ++ [fR 32 (.slice (some ⟨B, 0, none⟩) 1 1) [b.map (Value.int .u8)]]) Tryz.func69 rfl rfl rfl (fun _ => rfl) (LL.none w) (hG.app ⟨r1, trivial⟩) ?_
  refine S.slc 1 (s := 32) (rs := [b.map (Value.int .u8)]) [.a .u8 b 32] rfl (fun ρ w h => h.f (φ := fR 32 (.slice (some ⟨B, 0, none⟩) 1 1) [b.map (Value.int .u8)]) G'.length (by simp)) (by simp [Qp, SV.cs]) (by simp [YC, SV.wd]) ?_ ⟨hl, trivial⟩
  refine S.g false rfl ?_
  refine S.make 1 rfl rfl rfl rfl (s := 20) (bytes := 160) (by kernel_rfl) rfl rfl rfl rfl rfl (by omega) (by omega) ?_
  refine S.g false rfl ?_
  refine S.rd 16 (.lit .i64 0) rfl (fun _ => rfl) ?_
  refine S.rounds 1 ?_
  refine S.g false rfl ?_
  refine S.condT rfl (by omega) ?_
  refine S.go false rfl (by repeat' (first | exact True.intro | refine And.intro ?_ ?_ | assumption | omega | (dsimp only; omega) | (simp only [Nat.add_eq, Nat.mul_eq, Nat.sub_eq, SV.wd]; omega) | exact rfl)) ?_
  refine S.cv rfl rfl rfl rfl rfl rfl H0 ?_ (hG := fun _ _ h => hGg _ _ h.pre)
  refine S.go false rfl (by repeat' (first | exact True.intro | refine And.intro ?_ ?_ | assumption | omega | (dsimp only; omega) | (simp only [Nat.add_eq, Nat.mul_eq, Nat.sub_eq, SV.wd]; omega) | exact rfl)) ?_
  refine S.next ?_
  refine S.g false rfl ?_
  refine S.condF rfl (by omega) ?_
  refine S.g false rfl ?_
  refine S.cr [2] rfl rfl rfl rfl rfl rfl rfl (hC 2) ?_
  refine S.g false rfl ?_
  refine S.cv rfl rfl rfl rfl rfl rfl hF ?_ (hG := fun _ _ h => hGg _ _ h.pre)
  refine S.g false rfl ?_
  refine S.cv rfl rfl rfl rfl rfl rfl hY ?_ (hG := fun _ _ h => hGg _ _ h.pre)
  refine S.go false rfl (by repeat' (first | exact True.intro | refine And.intro ?_ ?_ | assumption | omega | (dsimp only; omega) | (simp only [Nat.add_eq, Nat.mul_eq, Nat.sub_eq, SV.wd]; omega) | exact rfl)) ?_
  exact S.rett rfl rfl rfl rfl rfl
theorem Qfs {G' : List QN} (hGg : ∀ L W, Hs G' L W -> Hs gT L W)  {b : List Int} (hl : b.length = 32) (H0 : PV Tryz.prog gT 108 [.a .u8 b 32] (.t [fp z20, .l false])) (w : World) (B : Nat) (hG : Hs G' [] w) (r1 : Zh 32 [] w (.slice (some ⟨B, 0, none⟩) 1 1) [b.map (Value.int .u8)]) :
    CX Tryz.prog 69 (QO QR [.f 70 [], .o (some ⟨B, 0, none⟩) 1 1]) w [] (fun _ : Unit => .t [.a .u8 (List.replicate 32 0) 32, .i .i64 1]) (fun _ => []) (fun _ => True) := by
  refine S.enter Qw [.f 70 [], .o (some ⟨B, 0, none⟩) 1 1] (G' ++ [fR 32 (.slice (some ⟨B, 0, none⟩) 1 1) [b.map (Value.int .u8)]]) Tryz.func69 rfl rfl rfl (fun _ => rfl) (LL.none w) (hG.app ⟨r1, trivial⟩) ?_
  refine S.slc 1 (s := 32) (rs := [b.map (Value.int .u8)]) [.a .u8 b 32] rfl (fun ρ w h => h.f (φ := fR 32 (.slice (some ⟨B, 0, none⟩) 1 1) [b.map (Value.int .u8)]) G'.length (by simp)) (by simp [Qp, SV.cs]) (by simp [YC, SV.wd]) ?_ ⟨hl, trivial⟩
  refine S.g false rfl ?_
  refine S.make 1 rfl rfl rfl rfl (s := 20) (bytes := 160) (by kernel_rfl) rfl rfl rfl rfl rfl (by omega) (by omega) ?_
  refine S.g false rfl ?_
  refine S.rd 16 (.lit .i64 0) rfl (fun _ => rfl) ?_
  refine S.rounds 1 ?_
  refine S.g false rfl ?_
  refine S.condT rfl (by omega) ?_
  refine S.go false rfl (by repeat' (first | exact True.intro | refine And.intro ?_ ?_ | assumption | omega | (dsimp only; omega) | (simp only [Nat.add_eq, Nat.mul_eq, Nat.sub_eq, SV.wd]; omega) | exact rfl)) ?_
  refine S.cv rfl rfl rfl rfl rfl rfl H0 ?_ (hG := fun _ _ h => hGg _ _ h.pre)
  refine S.go false rfl (by repeat' (first | exact True.intro | refine And.intro ?_ ?_ | assumption | omega | (dsimp only; omega) | (simp only [Nat.add_eq, Nat.mul_eq, Nat.sub_eq, SV.wd]; omega) | exact rfl)) ?_
  exact S.rett rfl rfl rfl rfl rfl
/-- made, where the bytes are a point's. -/
theorem Qhh {G' : List QN} (hGg : ∀ L W, Hs G' L W -> Hs gT L W) {B1 B2 : Nat} {b : List Int} (hl : b.length = 32) {l : List Int} (hll : l.length = 20) (H0 : PV Tryz.prog gT 108 [.a .u8 b 32] (.t [fp l, .l true])) {r : List Int} {Q : Pt} (hr : YA r Q) (hC : ∀ q, PR Tryz.prog G' 72 [.y q 0 1 1, .v (.pointer (some ⟨B1, 0, none⟩)), .v (.pointer (some ⟨B2, 0, none⟩))] [(q, [.a .u64 l 20])] (fp r)) (w : World) (B : Nat) (hG : Hs G' [] w) (r1 : Zh 32 [] w (.slice (some ⟨B, 0, none⟩) 1 1) [b.map (Value.int .u8)]) :
    CX Tryz.prog 69 (QO QR [.f 72 [.v (.pointer (some ⟨B1, 0, none⟩)), .v (.pointer (some ⟨B2, 0, none⟩))], .o (some ⟨B, 0, none⟩) 1 1]) w [] (fun _ : Unit => .t [.a .u8 (Zs Q) 32, .i .i64 0]) (fun _ => []) (fun _ => True) := by
  obtain ⟨x, y, hx, hy, hF⟩ := Qc0 hr
  have hY := Fp hx hy
  have hel := Q1 Q
  generalize Zs Q = E at *
  clear hx hy hr
  refine S.enter Qw [.f 72 [.v (.pointer (some ⟨B1, 0, none⟩)), .v (.pointer (some ⟨B2, 0, none⟩))], .o (some ⟨B, 0, none⟩) 1 1] (G' ++ [fR 32 (.slice (some ⟨B, 0, none⟩) 1 1) [b.map (Value.int .u8)]]) Tryz.func69 rfl rfl rfl (fun _ => rfl) (LL.none w) (hG.app ⟨r1, trivial⟩) ?_
  refine S.slc 1 (s := 32) (rs := [b.map (Value.int .u8)]) [.a .u8 b 32] rfl (fun ρ w h => h.f (φ := fR 32 (.slice (some ⟨B, 0, none⟩) 1 1) [b.map (Value.int .u8)]) G'.length (by simp)) (by simp [Qp, SV.cs]) (by simp [YC, SV.wd]) ?_ ⟨hl, trivial⟩
  refine S.g false rfl ?_
  refine S.make 1 rfl rfl rfl rfl (s := 20) (bytes := 160) (by kernel_rfl) rfl rfl rfl rfl rfl (by omega) (by omega) ?_
  refine S.g false rfl ?_
  refine S.rd 16 (.lit .i64 0) rfl (fun _ => rfl) ?_
  refine S.rounds 1 ?_
  refine S.g false rfl ?_
  refine S.condT rfl (by omega) ?_
  refine S.go false rfl (by repeat' (first | exact True.intro | refine And.intro ?_ ?_ | assumption | omega | (dsimp only; omega) | (simp only [Nat.add_eq, Nat.mul_eq, Nat.sub_eq, SV.wd]; omega) | exact rfl)) ?_
  refine S.cv rfl rfl rfl rfl rfl rfl H0 ?_ (hG := fun _ _ h => hGg _ _ h.pre)
  refine S.go false rfl (by repeat' (first | exact True.intro | refine And.intro ?_ ?_ | assumption | omega | (dsimp only; omega) | (simp only [Nat.add_eq, Nat.mul_eq, Nat.sub_eq, SV.wd]; omega) | exact rfl)) ?_
  refine S.next ?_
  refine S.g false rfl ?_
  refine S.condF rfl (by omega) ?_
  refine S.g false rfl ?_
  refine S.cr [2] rfl rfl rfl rfl rfl rfl rfl (hC 2) ?_
  refine S.g false rfl ?_
  refine S.cv rfl rfl rfl rfl rfl rfl hF ?_ (hG := fun _ _ h => hGg _ _ h.pre)
  refine S.g false rfl ?_
  refine S.cv rfl rfl rfl rfl rfl rfl hY ?_ (hG := fun _ _ h => hGg _ _ h.pre)
  refine S.go false rfl (by repeat' (first | exact True.intro | refine And.intro ?_ ?_ | assumption | omega | (dsimp only; omega) | (simp only [Nat.add_eq, Nat.mul_eq, Nat.sub_eq, SV.wd]; omega) | exact rfl)) ?_
  exact S.rett rfl rfl rfl rfl rfl
theorem Qft {G' : List QN} (hGg : ∀ L W, Hs G' L W -> Hs gT L W) {B1 B2 : Nat} {b : List Int} (hl : b.length = 32) (H0 : PV Tryz.prog gT 108 [.a .u8 b 32] (.t [fp z20, .l false])) (w : World) (B : Nat) (hG : Hs G' [] w) (r1 : Zh 32 [] w (.slice (some ⟨B, 0, none⟩) 1 1) [b.map (Value.int .u8)]) :
    CX Tryz.prog 69 (QO QR [.f 72 [.v (.pointer (some ⟨B1, 0, none⟩)), .v (.pointer (some ⟨B2, 0, none⟩))], .o (some ⟨B, 0, none⟩) 1 1]) w [] (fun _ : Unit => .t [.a .u8 (List.replicate 32 0) 32, .i .i64 1]) (fun _ => []) (fun _ => True) := by
  refine S.enter Qw [.f 72 [.v (.pointer (some ⟨B1, 0, none⟩)), .v (.pointer (some ⟨B2, 0, none⟩))], .o (some ⟨B, 0, none⟩) 1 1] (G' ++ [fR 32 (.slice (some ⟨B, 0, none⟩) 1 1) [b.map (Value.int .u8)]]) Tryz.func69 rfl rfl rfl (fun _ => rfl) (LL.none w) (hG.app ⟨r1, trivial⟩) ?_
  refine S.slc 1 (s := 32) (rs := [b.map (Value.int .u8)]) [.a .u8 b 32] rfl (fun ρ w h => h.f (φ := fR 32 (.slice (some ⟨B, 0, none⟩) 1 1) [b.map (Value.int .u8)]) G'.length (by simp)) (by simp [Qp, SV.cs]) (by simp [YC, SV.wd]) ?_ ⟨hl, trivial⟩
  refine S.g false rfl ?_
  refine S.make 1 rfl rfl rfl rfl (s := 20) (bytes := 160) (by kernel_rfl) rfl rfl rfl rfl rfl (by omega) (by omega) ?_
  refine S.g false rfl ?_
  refine S.rd 16 (.lit .i64 0) rfl (fun _ => rfl) ?_
  refine S.rounds 1 ?_
  refine S.g false rfl ?_
  refine S.condT rfl (by omega) ?_
  refine S.go false rfl (by repeat' (first | exact True.intro | refine And.intro ?_ ?_ | assumption | omega | (dsimp only; omega) | (simp only [Nat.add_eq, Nat.mul_eq, Nat.sub_eq, SV.wd]; omega) | exact rfl)) ?_
  refine S.cv rfl rfl rfl rfl rfl rfl H0 ?_ (hG := fun _ _ h => hGg _ _ h.pre)
  refine S.go false rfl (by repeat' (first | exact True.intro | refine And.intro ?_ ?_ | assumption | omega | (dsimp only; omega) | (simp only [Nat.add_eq, Nat.mul_eq, Nat.sub_eq, SV.wd]; omega) | exact rfl)) ?_
  exact S.rett rfl rfl rfl rfl rfl
/-- What Neg gives. -/
theorem Qmr {b : List Int} (hb : Qh b) (hl : b.length = 32) : (∀ h : JJ b, PV Tryz.prog gT 27 [.a .u8 b 32] (.t [.a .u8 (Zs (YZ (ptB b h))) 32, .i .i64 0])) /\ (¬ JJ b -> PV Tryz.prog gT 27 [.a .u8 b 32] (.t [.a .u8 (List.replicate 32 0) 32, .i .i64 1])) := by
  have key : ∀ (o : List Int) (e : Int), o.length = 32 -> (∀ w B, Hs gT [] w -> Zh 32 [] w (.slice (some ⟨B, 0, none⟩) 1 1) [b.map (Value.int .u8)] -> CX Tryz.prog 69 (QO QR [.f 70 [], .o (some ⟨B, 0, none⟩) 1 1]) w [] (fun _ : Unit => .t [.a .u8 o 32, .i .i64 e]) (fun _ => []) (fun _ => True)) -> PV Tryz.prog gT 27 [.a .u8 b 32] (.t [.a .u8 o 32, .i .i64 e]) := fun o e hol H => by
    have HP : PR Tryz.prog gT 69 [.f 70 [], .y 2 0 1 1] [(2, [.a .u8 b 32])] (.t [.a .u8 o 32, .i .i64 e]) := PR.mk' Tryz.func69 rfl rfl rfl fun ρ w hG hm => by
      obtain ⟨b1, -⟩ := hm _ (.head _)
      have r1 := Q8.rows (s := 32) (rows := [b.map (Value.int .u8)]) (by simpa [Qp, SV.cs] using b1) (by omega) (by simp [hl]) (by simp [maxLen])
      have := H w (ρ.b 2) hG r1
      simpa only [QO, SV.den] using this
    refine PV.mk' Tryz.func27 rfl rfl rfl rfl fun w L hL hG => ?_
    refine S.enter Qw [.a .u8 b 32] gT Tryz.func27 rfl rfl rfl (fun _ => rfl) hL hG ?_
    refine S.go false rfl (by repeat' (first | exact True.intro | refine And.intro ?_ ?_ | assumption | omega | (dsimp only; omega) | (simp only [Nat.add_eq, Nat.mul_eq, Nat.sub_eq, SV.wd]; omega) | exact rfl)) ?_
    refine S.cr [2] rfl rfl rfl rfl rfl rfl rfl HP ?_
    refine S.go false rfl (by repeat' (first | exact True.intro | refine And.intro ?_ ?_ | assumption | omega | (dsimp only; omega) | (simp only [Nat.add_eq, Nat.mul_eq, Nat.sub_eq, SV.wd]; omega) | exact rfl)) ?_
    exact S.rett rfl rfl rfl rfl rfl
  obtain ⟨l1, l2⟩ := Qho hb hl
  refine ⟨fun h => ?_, fun h => ?_⟩
  . obtain ⟨r, hr, H0⟩ := l1 h
    obtain ⟨s, hs, H1⟩ := Qlh hr
    exact key _ _ (Q1 _) fun w B hG r1 => Qhg (fun _ _ h => h) hl hr.1.len H0 hs H1 w B hG r1
  . exact key _ _ rfl fun w B hG r1 => Qfs (fun _ _ h => h) hl (l2 h) w B hG r1
/-- What Mix gives. -/
theorem Qmt {a b p : List Int} (ha : Qh a) (hal : a.length = 32) (hb : Qh b) (hbl : b.length = 32) (hp : Qh p) (hpl : p.length = 32) : (∀ h : JJ p, PV Tryz.prog gT 28 [.a .u8 a 32, .a .u8 p 32, .a .u8 b 32] (.t [.a .u8 (Zs (Qy (QQ (kB a) (ptB p h)) (QQ (kB b) bP))) 32, .i .i64 0])) /\ (¬ JJ p -> PV Tryz.prog gT 28 [.a .u8 a 32, .a .u8 p 32, .a .u8 b 32] (.t [.a .u8 (List.replicate 32 0) 32, .i .i64 1])) := by
  have key : ∀ (o : List Int) (e : Int), o.length = 32 -> (∀ w B1 B2 B, Hs (gT ++ [fG B1 (a.map (Value.int .u8)), fG B2 (b.map (Value.int .u8))]) [] w -> Zh 32 [] w (.slice (some ⟨B, 0, none⟩) 1 1) [p.map (Value.int .u8)] -> CX Tryz.prog 69 (QO QR [.f 72 [.v (.pointer (some ⟨B1, 0, none⟩)), .v (.pointer (some ⟨B2, 0, none⟩))], .o (some ⟨B, 0, none⟩) 1 1]) w [] (fun _ : Unit => .t [.a .u8 o 32, .i .i64 e]) (fun _ => []) (fun _ => True)) -> PV Tryz.prog gT 28 [.a .u8 a 32, .a .u8 p 32, .a .u8 b 32] (.t [.a .u8 o 32, .i .i64 e]) := fun o e hol H => by
    have HP : PR Tryz.prog gT 69 [.f 72 [.p 0 0, .p 2 0], .y 4 0 1 1] [(0, [.a .u8 a 32]), (2, [.a .u8 b 32]), (4, [.a .u8 p 32])] (.t [.a .u8 o 32, .i .i64 e]) := PR.mk' Tryz.func69 rfl rfl rfl fun ρ w hG hm => by
      obtain ⟨b1, -⟩ := hm _ (.head _)
      obtain ⟨b2, -⟩ := hm _ (.tail _ (.head _))
      obtain ⟨b3, -⟩ := hm _ (.tail _ (.tail _ (.head _)))
      simp only [Qp, SV.cs, List.append_nil] at b1 b2 b3
      have r1 := Q8.rows (s := 32) (rows := [p.map (Value.int .u8)]) (by simpa using b3) (by omega) (by simp [hpl]) (by simp [maxLen])
      have := H w (ρ.b 0) (ρ.b 2) (ρ.b 4) (hG.app ⟨⟨by simp, b1.lt, b1.range⟩, ⟨by simp, b2.lt, b2.range⟩, trivial⟩) r1
      simpa only [QO, SV.den] using this
    refine PV.mk' Tryz.func28 rfl rfl rfl rfl fun w L hL hG => ?_
    refine S.enter Qw [.a .u8 a 32, .a .u8 p 32, .a .u8 b 32] gT Tryz.func28 rfl rfl rfl (fun _ => rfl) hL hG ?_
    refine S.go false rfl (by repeat' (first | exact True.intro | refine And.intro ?_ ?_ | assumption | omega | (dsimp only; omega) | (simp only [Nat.add_eq, Nat.mul_eq, Nat.sub_eq, SV.wd]; omega) | exact rfl)) ?_
    refine S.cr [0, 2, 4] rfl rfl rfl rfl rfl rfl rfl HP ?_
    refine S.go false rfl (by repeat' (first | exact True.intro | refine And.intro ?_ ?_ | assumption | omega | (dsimp only; omega) | (simp only [Nat.add_eq, Nat.mul_eq, Nat.sub_eq, SV.wd]; omega) | exact rfl)) ?_
    exact S.rett rfl rfl rfl rfl rfl
  obtain ⟨l1, l2⟩ := Qho hp hpl
  refine ⟨fun h => ?_, fun h => ?_⟩
  . obtain ⟨r, hr, H0⟩ := l1 h
    obtain ⟨s, hs, H1⟩ := Qlm ha hal hb hbl hr.1
    exact key _ _ (Q1 _) fun w B1 B2 B hG r1 => Qhh (fun _ _ h => h.pre) hpl hr.1.len H0 hs (fun q => H1 B1 B2 q) w B hG r1
  . exact key _ _ rfl fun w B1 B2 B hG r1 => Qft (fun _ _ h => h.pre) hpl (l2 h) w B hG r1
end Go.Proofs.YtbiboamaigedjaaGreatDoor
namespace Go.Proofs.YtbiboamaigedjaaGreatDoor
set_option linter.unusedVariables false
set_option maxRecDepth 100000

/-- The order. -/
def lN : Nat := 7237005577332262213973186563042994240857116359379907606001950938285454250989
/-- A point as x and y over one divisor. -/
def En (c : FF × FF × FF) (P : Pt) : Prop := c.2.2 ≠ 0 /\ c.1 = P.x * c.2.2 /\ c.2.1 = P.y * c.2.2
def J1 (c e : FF × FF × FF) : FF × FF × FF :=
  let a := c.2.2 * e.2.2
  let b := a * a
  let u := c.1 * e.1
  let v := c.2.1 * e.2.1
  let t := dF * (u * v)
  let f := b - t
  let g := b + t
  (a * f * (c.1 * e.2.1 + c.2.1 * e.1), a * g * (v + u), f * g)
theorem Qbg {c e : FF × FF × FF} {P Q : Pt} (h : En c P) (k : En e Q) : En (J1 c e) (Qy P Q) := by
  obtain ⟨cx, cy, cz⟩ := c
  obtain ⟨ex, ey, ez⟩ := e
  obtain ⟨h0, h1, h2⟩ := h
  obtain ⟨k0, k1, k2⟩ := k
  have d1 := Ej P.on Q.on
  have d2 := Ei P.on Q.on
  have p1 := Jm P Q
  have p2 := Jl P Q
  have nz : ∀ {a b : FF}, a ≠ 0 -> b ≠ 0 -> a * b ≠ 0 := fun ha hb h => (Eg h).elim ha hb
  dsimp only at h0 h1 h2 k0 k1 k2
  subst h1 h2 k1 k2
  have ha := nz h0 k0
  have hb := nz ha ha
  have hf : cz * ez * (cz * ez) - dF * (P.x * cz * (Q.x * ez) * (P.y * cz * (Q.y * ez))) = cz * ez * (cz * ez) * (1 - dF*P.x*Q.x*P.y*Q.y) := by grobner
  have hg : cz * ez * (cz * ez) + dF * (P.x * cz * (Q.x * ez) * (P.y * cz * (Q.y * ez))) = cz * ez * (cz * ez) * (1 + dF*P.x*Q.x*P.y*Q.y) := by grobner
  refine ⟨?_, ?_, ?_⟩
  . show (cz * ez * (cz * ez) - dF * (P.x * cz * (Q.x * ez) * (P.y * cz * (Q.y * ez)))) * (cz * ez * (cz * ez) + dF * (P.x * cz * (Q.x * ez) * (P.y * cz * (Q.y * ez)))) ≠ 0
    rw [hf, hg]
    exact nz (nz hb d2) (nz hb d1)
  . show cz * ez * (cz * ez * (cz * ez) - dF * (P.x * cz * (Q.x * ez) * (P.y * cz * (Q.y * ez)))) * (P.x * cz * (Q.y * ez) + P.y * cz * (Q.x * ez)) = (Qy P Q).x * ((cz * ez * (cz * ez) - dF * (P.x * cz * (Q.x * ez) * (P.y * cz * (Q.y * ez)))) * (cz * ez * (cz * ez) + dF * (P.x * cz * (Q.x * ez) * (P.y * cz * (Q.y * ez)))))
    rw [hf, hg]
    have e1 : (Qy P Q).x * (cz * ez * (cz * ez) * (1 - dF*P.x*Q.x*P.y*Q.y) * (cz * ez * (cz * ez) * (1 + dF*P.x*Q.x*P.y*Q.y))) = (Qy P Q).x * (1 + dF*P.x*Q.x*P.y*Q.y) * (cz * ez * (cz * ez) * (1 - dF*P.x*Q.x*P.y*Q.y) * (cz * ez * (cz * ez))) := by
      generalize (Qy P Q).x = X
      generalize 1 - dF*P.x*Q.x*P.y*Q.y = U
      generalize 1 + dF*P.x*Q.x*P.y*Q.y = V
      grobner
    rw [e1, p1]
    generalize 1 - dF*P.x*Q.x*P.y*Q.y = U
    grobner
  . show cz * ez * (cz * ez * (cz * ez) + dF * (P.x * cz * (Q.x * ez) * (P.y * cz * (Q.y * ez)))) * (P.y * cz * (Q.y * ez) + P.x * cz * (Q.x * ez)) = (Qy P Q).y * ((cz * ez * (cz * ez) - dF * (P.x * cz * (Q.x * ez) * (P.y * cz * (Q.y * ez)))) * (cz * ez * (cz * ez) + dF * (P.x * cz * (Q.x * ez) * (P.y * cz * (Q.y * ez)))))
    rw [hf, hg]
    have e1 : (Qy P Q).y * (cz * ez * (cz * ez) * (1 - dF*P.x*Q.x*P.y*Q.y) * (cz * ez * (cz * ez) * (1 + dF*P.x*Q.x*P.y*Q.y))) = (Qy P Q).y * (1 - dF*P.x*Q.x*P.y*Q.y) * (cz * ez * (cz * ez) * (1 + dF*P.x*Q.x*P.y*Q.y) * (cz * ez * (cz * ez))) := by
      generalize (Qy P Q).y = X
      generalize 1 - dF*P.x*Q.x*P.y*Q.y = U
      generalize 1 + dF*P.x*Q.x*P.y*Q.y = V
      grobner
    rw [e1, p2]
    generalize 1 + dF*P.x*Q.x*P.y*Q.y = V
    grobner
/-- So many times, by doubling. -/
def Yb (c : FF × FF × FF) : Nat -> Nat -> FF × FF × FF
  | 0, _ => (0, 1, 1)
  | f + 1, k => match k % 2 with
    | 0 => J1 (Yb c f (k / 2)) (Yb c f (k / 2))
    | _ => J1 (J1 (Yb c f (k / 2)) (Yb c f (k / 2))) c
theorem Jo {c : FF × FF × FF} {P : Pt} (h : En c P) : ∀ f k, k < 2 ^ f -> En (Yb c f k) (QQ k P)
  | 0, k, hk => by
    obtain rfl : k = 0 := by simpa using hk
    exact ⟨by show (1 : FF) ≠ 0; decide +kernel, by show (0 : FF) = 0 * 1; decide +kernel, by show (1 : FF) = 1 * 1; decide +kernel⟩
  | f + 1, k, hk => by
    have ih := Jo h f (k / 2) (by rw [Nat.pow_succ] at hk; omega)
    have hd := Qbg ih ih
    rw [<- ZU] at hd
    unfold Yb
    split
    . next h0 => rw [show k / 2 + k / 2 = k by omega] at hd; exact hd
    . next h0 =>
      have h1 : k / 2 + k / 2 + 1 = k := by
        have : k % 2 ≠ 0 := fun e => h0 e
        omega
      have ho := Qbg hd h
      rw [show Qy (QQ (k / 2 + k / 2) P) P = QQ (k / 2 + k / 2 + 1) P from rfl, h1] at ho
      exact ho
theorem Qfe {c : FF × FF × FF} {P : Pt} (h : En c P) (hx : c.1 = 0) (hy : c.2.1 = c.2.2) : P = XU := by
  obtain ⟨h0, h1, h2⟩ := h
  apply Pt.ext
  . rw [hx] at h1
    rcases Eg h1.symm with e | e
    . exact e
    . exact absurd e h0
  . refine Qdg h0 ?_
    show c.2.2 * P.y = c.2.2 * 1
    rw [hy] at h2
    grobner
instance instOn (x y : FF) : Decidable (On dF x y) := inferInstanceAs (Decidable (_ = _))
end Go.Proofs.YtbiboamaigedjaaGreatDoor
namespace Go.Proofs.YtbiboamaigedjaaGreatDoor
open Go.RowKit
set_option linter.unusedVariables false
set_option linter.unusedSimpArgs false
set_option maxRecDepth 8000
set_option maxHeartbeats 2000000

theorem D_r : PV Tryz.prog gT 112 [] (.a .u64 (Qn 4 (dF.val : Int)) 4) := by
  have h : PV Tryz.prog gT 112 [] (.g [.i .u64 8496970652267935907, .i .u64 31536524315187371, .i .u64 10144147576115030168, .i .u64 5909686906226998899]) := by
    refine PV.mk' Tryz.func112 rfl rfl rfl rfl fun w L hL hG => ?_
    refine S.enter Qw [] gT Tryz.func112 rfl rfl rfl (fun _ => rfl) hL hG ?_
    refine S.go false rfl (by repeat' (first | exact True.intro | refine And.intro ?_ ?_ | assumption | omega | (dsimp only; omega) | (simp only [Nat.add_eq, Nat.mul_eq, Nat.sub_eq, SV.wd]; omega) | exact rfl)) ?_
    exact S.retv rfl rfl rfl rfl rfl
  have e : Qn 4 (dF.val : Int) = [8496970652267935907, 31536524315187371, 10144147576115030168, 5909686906226998899] := by decide +kernel
  rw [e]
  exact h.res rfl rfl
theorem Ya (a b : FF) : PV Tryz.prog gT 89 [.a .u64 (Qn 4 (a.val : Int)) 4, .a .u64 (Qn 4 (b.val : Int)) 4] (.a .u64 (Qn 4 ((a * b : FF).val : Int)) 4) := by
  rw [val_mul]; exact QcE (KF a) (KF b)
theorem Qf8 (a b : FF) : PV Tryz.prog gT 111 [.a .u64 (Qn 4 (a.val : Int)) 4, .a .u64 (Qn 4 (b.val : Int)) 4] (.a .u64 (Qn 4 ((a + b : FF).val : Int)) 4) := by
  have ha := Vo a; have hb := Vo b; have hp : pV + pV < 2 ^ 256 := by decide +kernel
  rw [val_add]; exact Qma ha.1 hb.1 (by omega)
theorem QlO (a b : FF) : PV Tryz.prog gT 74 [.a .u64 (Qn 4 (a.val : Int)) 4, .a .u64 (Qn 4 (b.val : Int)) 4] (.a .u64 (Qn 4 ((a - b : FF).val : Int)) 4) := by
  rw [VV]; exact QlN (Vo a) (Vo b)
theorem QmB (a : FF) : PV Tryz.prog gT 88 [.a .u64 (Qn 4 (a.val : Int)) 4] (.a .u64 (Qn 4 ((Yd a).val : Int)) 4) := by
  rw [<- FN]; exact QhA (KF a)
/-- A point of the reference. -/
def np (c : FF × FF × FF) : SV := .g [.a .u64 (Qn 4 (c.1.val : Int)) 4, .a .u64 (Qn 4 (c.2.1.val : Int)) 4, .a .u64 (Qn 4 (c.2.2.val : Int)) 4]
set_option maxHeartbeats 2000000 in
theorem QkV {x1 y1 z1 x2 y2 z2 a b u v d uv t f g m1 m2 cr bo af X ag Y Z : List Int} (l_x1 : x1.length = 4) (l_y1 : y1.length = 4) (l_z1 : z1.length = 4) (l_x2 : x2.length = 4) (l_y2 : y2.length = 4) (l_z2 : z2.length = 4) (l_a : a.length = 4) (l_b : b.length = 4) (l_u : u.length = 4) (l_v : v.length = 4) (l_d : d.length = 4) (l_uv : uv.length = 4) (l_t : t.length = 4) (l_f : f.length = 4) (l_g : g.length = 4) (l_m1 : m1.length = 4) (l_m2 : m2.length = 4) (l_cr : cr.length = 4) (l_bo : bo.length = 4) (l_af : af.length = 4) (l_X : X.length = 4) (l_ag : ag.length = 4) (l_Y : Y.length = 4) (l_Z : Z.length = 4) (h1 : PV Tryz.prog gT 89 [.a .u64 z1 4, .a .u64 z2 4] (.a .u64 a 4)) (h2 : PV Tryz.prog gT 89 [.a .u64 a 4, .a .u64 a 4] (.a .u64 b 4)) (h3 : PV Tryz.prog gT 89 [.a .u64 x1 4, .a .u64 x2 4] (.a .u64 u 4)) (h4 : PV Tryz.prog gT 89 [.a .u64 y1 4, .a .u64 y2 4] (.a .u64 v 4)) (h5 : PV Tryz.prog gT 112 [] (.a .u64 d 4)) (h6 : PV Tryz.prog gT 89 [.a .u64 u 4, .a .u64 v 4] (.a .u64 uv 4)) (h7 : PV Tryz.prog gT 89 [.a .u64 d 4, .a .u64 uv 4] (.a .u64 t 4)) (h8 : PV Tryz.prog gT 74 [.a .u64 b 4, .a .u64 t 4] (.a .u64 f 4)) (h9 : PV Tryz.prog gT 111 [.a .u64 b 4, .a .u64 t 4] (.a .u64 g 4)) (h10 : PV Tryz.prog gT 89 [.a .u64 x1 4, .a .u64 y2 4] (.a .u64 m1 4)) (h11 : PV Tryz.prog gT 89 [.a .u64 y1 4, .a .u64 x2 4] (.a .u64 m2 4)) (h12 : PV Tryz.prog gT 111 [.a .u64 m1 4, .a .u64 m2 4] (.a .u64 cr 4)) (h13 : PV Tryz.prog gT 111 [.a .u64 v 4, .a .u64 u 4] (.a .u64 bo 4)) (h14 : PV Tryz.prog gT 89 [.a .u64 a 4, .a .u64 f 4] (.a .u64 af 4)) (h15 : PV Tryz.prog gT 89 [.a .u64 af 4, .a .u64 cr 4] (.a .u64 X 4)) (h16 : PV Tryz.prog gT 89 [.a .u64 a 4, .a .u64 g 4] (.a .u64 ag 4)) (h17 : PV Tryz.prog gT 89 [.a .u64 ag 4, .a .u64 bo 4] (.a .u64 Y 4)) (h18 : PV Tryz.prog gT 89 [.a .u64 f 4, .a .u64 g 4] (.a .u64 Z 4)) : PV Tryz.prog gT 78 [.g [.a .u64 x1 4, .a .u64 y1 4, .a .u64 z1 4], .g [.a .u64 x2 4, .a .u64 y2 4, .a .u64 z2 4]] (.g [.a .u64 X 4, .a .u64 Y 4, .a .u64 Z 4]) := by
  refine PV.mk' Tryz.func78 rfl rfl rfl rfl fun w L hL hG => ?_
  refine S.enter Qw [.g [.a .u64 x1 4, .a .u64 y1 4, .a .u64 z1 4], .g [.a .u64 x2 4, .a .u64 y2 4, .a .u64 z2 4]] gT Tryz.func78 rfl rfl rfl (fun _ => rfl) hL hG ?_
  refine S.go false rfl (by repeat' (first | exact True.intro | refine And.intro ?_ ?_ | assumption | omega | (dsimp only; omega) | (simp only [Nat.add_eq, Nat.mul_eq, Nat.sub_eq, SV.wd]; omega) | exact rfl)) ?_
  refine S.cv rfl rfl rfl rfl rfl rfl h1 ?_
  refine S.go false rfl (by repeat' (first | exact True.intro | refine And.intro ?_ ?_ | assumption | omega | (dsimp only; omega) | (simp only [Nat.add_eq, Nat.mul_eq, Nat.sub_eq, SV.wd]; omega) | exact rfl)) ?_
  refine S.cv rfl rfl rfl rfl rfl rfl h2 ?_
  refine S.go false rfl (by repeat' (first | exact True.intro | refine And.intro ?_ ?_ | assumption | omega | (dsimp only; omega) | (simp only [Nat.add_eq, Nat.mul_eq, Nat.sub_eq, SV.wd]; omega) | exact rfl)) ?_
  refine S.cv rfl rfl rfl rfl rfl rfl h3 ?_
  refine S.go false rfl (by repeat' (first | exact True.intro | refine And.intro ?_ ?_ | assumption | omega | (dsimp only; omega) | (simp only [Nat.add_eq, Nat.mul_eq, Nat.sub_eq, SV.wd]; omega) | exact rfl)) ?_
  refine S.cv rfl rfl rfl rfl rfl rfl h4 ?_
  refine S.go false rfl (by repeat' (first | exact True.intro | refine And.intro ?_ ?_ | assumption | omega | (dsimp only; omega) | (simp only [Nat.add_eq, Nat.mul_eq, Nat.sub_eq, SV.wd]; omega) | exact rfl)) ?_
  refine S.drp false [(0, .a .u64 d 4), (3, .a .u64 uv 4), (4, .a .u64 t 4)] rfl rfl rfl ?_ (by repeat' (first | exact True.intro | refine And.intro ?_ ?_ | assumption | omega | (dsimp only; omega) | (simp only [Nat.add_eq, Nat.mul_eq, Nat.sub_eq, SV.wd]; omega) | exact rfl))
  refine S.go false rfl (by repeat' (first | exact True.intro | refine And.intro ?_ ?_ | assumption | omega | (dsimp only; omega) | (simp only [Nat.add_eq, Nat.mul_eq, Nat.sub_eq, SV.wd]; omega) | exact rfl)) ?_
  refine S.cv rfl rfl rfl rfl rfl rfl h8 ?_
  refine S.go false rfl (by repeat' (first | exact True.intro | refine And.intro ?_ ?_ | assumption | omega | (dsimp only; omega) | (simp only [Nat.add_eq, Nat.mul_eq, Nat.sub_eq, SV.wd]; omega) | exact rfl)) ?_
  refine S.cv rfl rfl rfl rfl rfl rfl h9 ?_
  refine S.go false rfl (by repeat' (first | exact True.intro | refine And.intro ?_ ?_ | assumption | omega | (dsimp only; omega) | (simp only [Nat.add_eq, Nat.mul_eq, Nat.sub_eq, SV.wd]; omega) | exact rfl)) ?_
  refine S.drp false [(4, .a .u64 m1 4), (9, .a .u64 m2 4), (10, .a .u64 cr 4)] rfl rfl rfl ?_ (by repeat' (first | exact True.intro | refine And.intro ?_ ?_ | assumption | omega | (dsimp only; omega) | (simp only [Nat.add_eq, Nat.mul_eq, Nat.sub_eq, SV.wd]; omega) | exact rfl))
  refine S.go false rfl (by repeat' (first | exact True.intro | refine And.intro ?_ ?_ | assumption | omega | (dsimp only; omega) | (simp only [Nat.add_eq, Nat.mul_eq, Nat.sub_eq, SV.wd]; omega) | exact rfl)) ?_
  refine S.cv rfl rfl rfl rfl rfl rfl h13 ?_
  refine S.go false rfl (by repeat' (first | exact True.intro | refine And.intro ?_ ?_ | assumption | omega | (dsimp only; omega) | (simp only [Nat.add_eq, Nat.mul_eq, Nat.sub_eq, SV.wd]; omega) | exact rfl)) ?_
  refine S.drp false [(2, .a .u64 af 4), (4, .a .u64 X 4), (7, .a .u64 ag 4), (9, .a .u64 Y 4), (12, .a .u64 Z 4)] rfl rfl rfl ?_ (by repeat' (first | exact True.intro | refine And.intro ?_ ?_ | assumption | omega | (dsimp only; omega) | (simp only [Nat.add_eq, Nat.mul_eq, Nat.sub_eq, SV.wd]; omega) | exact rfl))
  refine S.go false rfl (by repeat' (first | exact True.intro | refine And.intro ?_ ?_ | assumption | omega | (dsimp only; omega) | (simp only [Nat.add_eq, Nat.mul_eq, Nat.sub_eq, SV.wd]; omega) | exact rfl)) ?_
  exact S.retv rfl rfl rfl rfl rfl
theorem Qgu (c e : FF × FF × FF) : PV Tryz.prog gT 78 [np c, np e] (np (J1 c e)) :=
  QkV (Qc 4 _) (Qc 4 _) (Qc 4 _) (Qc 4 _) (Qc 4 _) (Qc 4 _) (Qc 4 _) (Qc 4 _) (Qc 4 _) (Qc 4 _) (Qc 4 _) (Qc 4 _) (Qc 4 _) (Qc 4 _) (Qc 4 _) (Qc 4 _) (Qc 4 _) (Qc 4 _) (Qc 4 _) (Qc 4 _) (Qc 4 _) (Qc 4 _) (Qc 4 _) (Qc 4 _) (Ya _ _) (Ya _ _) (Ya _ _) (Ya _ _) D_r (Ya _ _) (Ya _ _) (QlO _ _) (Qf8 _ _) (Ya _ _) (Ya _ _) (Qf8 _ _) (Qf8 _ _) (Ya _ _) (Ya _ _) (Ya _ _) (Ya _ _) (Ya _ _)
theorem QkF : PV Tryz.prog gT 90 [] (np (0, 1, 1)) := by
  have h : PV Tryz.prog gT 90 [] (.g [.i .u64 0, .i .u64 0, .i .u64 0, .i .u64 0, .i .u64 1, .i .u64 0, .i .u64 0, .i .u64 0, .i .u64 1, .i .u64 0, .i .u64 0, .i .u64 0]) := by
    refine PV.mk' Tryz.func90 rfl rfl rfl rfl fun w L hL hG => ?_
    refine S.enter Qw [] gT Tryz.func90 rfl rfl rfl (fun _ => rfl) hL hG ?_
    refine S.go false rfl (by repeat' (first | exact True.intro | refine And.intro ?_ ?_ | assumption | omega | (dsimp only; omega) | (simp only [Nat.add_eq, Nat.mul_eq, Nat.sub_eq, SV.wd]; omega) | exact rfl)) ?_
    exact S.retv rfl rfl rfl rfl rfl
  have e0 : Qn 4 ((0 : FF).val : Int) = [0, 0, 0, 0] := by decide +kernel
  have e1 : Qn 4 ((1 : FF).val : Int) = [1, 0, 0, 0] := by decide +kernel
  refine h.res ?_ rfl
  unfold np
  simp only [e0, e1]
  rfl
theorem Qfi {c : FF × FF × FF} {f k : Nat} (h : k % 2 = 0) : Yb c (f + 1) k = J1 (Yb c f (k / 2)) (Yb c f (k / 2)) := by
  conv => lhs; unfold Yb
  rw [h]
  rfl
theorem Qg2 {c : FF × FF × FF} {f k : Nat} (h : k % 2 = 1) : Yb c (f + 1) k = J1 (J1 (Yb c f (k / 2)) (Yb c f (k / 2))) c := by
  conv => lhs; unfold Yb
  rw [h]
  rfl
theorem Qnr {kb : List Int} (hb : Qh kb) {k : Nat} (hk : k < 256) : bits .and .u8 (kb.getD (Int.toNat ((255 - (k : Int)) / 8)) 0 / 2 ^ Int.toNat ((255 - (k : Int)) % 8)) 1 = ((kB kb / 2 ^ (255 - k) % 2 : Nat) : Int) := by
  have e1 : Int.toNat ((255 - (k : Int)) / 8) = (255 - k) / 8 := by omega
  have e2 : Int.toNat ((255 - (k : Int)) % 8) = (255 - k) % 8 := by omega
  rw [e1, e2, QJ, <- Qex hb (255 - k) (by omega)]
  exact Vp (VL (hb.at ((255 - k) / 8)) _)
def J5 (c : FF × FF × FF) (K k : Nat) : FF × FF × FF := Yb c k (K / 2 ^ (256 - k))
theorem Qmo (c : FF × FF × FF) (K : Nat) : J5 c K 0 = (0, 1, 1) := rfl
theorem Qje (c : FF × FF × FF) (K : Nat) : Yb c 256 K = J5 c K 256 := by unfold J5; simp
theorem Qg3 {c : FF × FF × FF} {K k : Nat} (hk : k < 256) (h : K / 2 ^ (255 - k) % 2 = 0) : J5 c K (k + 1) = J1 (J5 c K k) (J5 c K k) := by
  unfold J5
  rw [show 256 - (k + 1) = 255 - k by omega, Qfi h, Nat.div_div_eq_div_mul, <- Nat.pow_succ, show (255 - k).succ = 256 - k by omega]
theorem Qjd {c : FF × FF × FF} {K k : Nat} (hk : k < 256) (h : K / 2 ^ (255 - k) % 2 = 1) : J5 c K (k + 1) = J1 (J1 (J5 c K k) (J5 c K k)) c := by
  unfold J5
  rw [show 256 - (k + 1) = 255 - k by omega, Qg2 h, Nat.div_div_eq_div_mul, <- Nat.pow_succ, show (255 - k).succ = 256 - k by omega]
/-- The cells of a point. -/
def ncl (c : FF × FF × FF) : Cl := [.a .u64 (Qn 4 (c.1.val : Int)) 4, .a .u64 (Qn 4 (c.2.1.val : Int)) 4, .a .u64 (Qn 4 (c.2.2.val : Int)) 4]
attribute [local irreducible] J5 J1 Yb Qn kB
set_option maxHeartbeats 400000 in
theorem Qlo {kb : List Int} (hb : Qh kb) (hl : kb.length = 32) (c : FF × FF × FF) : PV Tryz.prog gT 40 [.a .u8 kb 32, np c] (np (Yb c 256 (kB kb))) := by
  have e0 := Qje c (kB kb)
  have ez := Qmo c (kB kb)
  have hZ := QkF
  rw [<- ez] at hZ
  rw [e0]
  have q1 := Qc 4 (c.1.val : Int); have q2 := Qc 4 (c.2.1.val : Int); have q3 := Qc 4 (c.2.2.val : Int)
  have p1 := Qc 4 ((J5 c (kB kb) 0).1.val : Int); have p2 := Qc 4 ((J5 c (kB kb) 0).2.1.val : Int); have p3 := Qc 4 ((J5 c (kB kb) 0).2.2.val : Int)
  refine PV.mk' Tryz.func40 rfl rfl rfl rfl fun w L hL hG => ?_
  refine S.enter Qw [.a .u8 kb 32, np c] gT Tryz.func40 rfl rfl rfl (fun _ => rfl) hL hG ?_
  refine S.go false rfl (by repeat' (first | exact True.intro | refine And.intro ?_ ?_ | assumption | omega | (dsimp only; omega) | (simp only [Nat.add_eq, Nat.mul_eq, Nat.sub_eq, SV.wd]; omega) | exact rfl)) ?_
  refine S.cv rfl rfl rfl rfl rfl rfl hZ ?_
  refine S.go false rfl (by repeat' (first | exact True.intro | refine And.intro ?_ ?_ | assumption | omega | (dsimp only; omega) | (simp only [Nat.add_eq, Nat.mul_eq, Nat.sub_eq, SV.wd]; omega) | exact rfl)) ?_
  refine S.loop [2, 3, 4, 5] (fun k : Nat => [(6, .i .i64 (255 - (k : Int)))]) (fun k => [(0, [.a .u8 kb 32]), (1, ncl c), (2, [.i .u64 0, .i .u64 0, .i .u64 0, .i .u64 0, .i .u64 0, .i .u64 0, .i .u64 0, .i .u64 0, .i .u64 0, .i .u64 0, .i .u64 0, .i .u64 0]), (3, ncl (J5 c (kB kb) k))]) (fun _ => []) (fun k => k <= 256) (fun k => 256 - k) 0 rfl (fun _ => rfl) (fun _ => rfl) rfl ⟨⟨rfl, rfl⟩, trivial⟩ (by repeat' (first | exact True.intro | refine And.intro ?_ ?_ | assumption | exact rfl)) (fun _ _ _ => trivial) (by omega) fun J k hk again => ?_
  have hk' : k <= 256 := hk
  have r1 := Qc 4 ((J5 c (kB kb) k).1.val : Int); have r2 := Qc 4 ((J5 c (kB kb) k).2.1.val : Int); have r3 := Qc 4 ((J5 c (kB kb) k).2.2.val : Int)
  have s1 := Qc 4 ((J5 c (kB kb) (k + 1)).1.val : Int); have s2 := Qc 4 ((J5 c (kB kb) (k + 1)).2.1.val : Int); have s3 := Qc 4 ((J5 c (kB kb) (k + 1)).2.2.val : Int)
  refine S.g false rfl ?_
  refine S.cond rfl (fun c5 => ?_) (fun c5 => ?_)
  . have c' : k < 256 := by omega
    have hbe := Qnr hb c'
    have hP := Qgu (J5 c (kB kb) k) (J5 c (kB kb) k)
    have t1 := Qc 4 ((J1 (J5 c (kB kb) k) (J5 c (kB kb) k)).1.val : Int); have t2 := Qc 4 ((J1 (J5 c (kB kb) k) (J5 c (kB kb) k)).2.1.val : Int); have t3 := Qc 4 ((J1 (J5 c (kB kb) k) (J5 c (kB kb) k)).2.2.val : Int)
    refine S.go false rfl (by repeat' (first | exact True.intro | refine And.intro ?_ ?_ | assumption | omega | (dsimp only; omega) | (simp only [Nat.add_eq, Nat.mul_eq, Nat.sub_eq, SV.wd]; omega) | exact rfl)) ?_
    refine S.cv rfl rfl rfl rfl rfl rfl hP ?_
    refine S.go false rfl (by repeat' (first | exact True.intro | refine And.intro ?_ ?_ | assumption | omega | (dsimp only; omega) | (simp only [Nat.add_eq, Nat.mul_eq, Nat.sub_eq, SV.wd]; omega) | exact rfl)) ?_
    refine S.cond rfl (fun c2 => ?_) (fun c2 => ?_)
    . rw [hbe] at c2
      have et := Qjd (c := c) c' (by omega : kB kb / 2 ^ (255 - k) % 2 = 1)
      have hQ := Qgu (J1 (J5 c (kB kb) k) (J5 c (kB kb) k)) c
      rw [<- et] at hQ
      refine S.go false rfl (by repeat' (first | exact True.intro | refine And.intro ?_ ?_ | assumption | omega | (dsimp only; omega) | (simp only [Nat.add_eq, Nat.mul_eq, Nat.sub_eq, SV.wd]; omega) | exact rfl)) ?_
      refine S.cv rfl rfl rfl rfl rfl rfl hQ ?_
      refine S.go false rfl (by repeat' (first | exact True.intro | refine And.intro ?_ ?_ | assumption | omega | (dsimp only; omega) | (simp only [Nat.add_eq, Nat.mul_eq, Nat.sub_eq, SV.wd]; omega) | exact rfl)) ?_
      refine S.again (again (k + 1) (show k + 1 <= 256 by omega) (show 256 - (k + 1) < 256 - k by omega)) ⟨⟨rfl, by omega⟩, rfl, rfl, rfl, rfl, trivial⟩ ?_ rfl rfl (fun x hx => hx) rfl (fun ρ W h => h.hs)
      repeat' (first | exact True.intro | refine And.intro ?_ ?_ | assumption | exact rfl)
    . rw [hbe] at c2
      have et := Qg3 (c := c) c' (by omega : kB kb / 2 ^ (255 - k) % 2 = 0)
      refine S.go false rfl (by repeat' (first | exact True.intro | refine And.intro ?_ ?_ | assumption | omega | (dsimp only; omega) | (simp only [Nat.add_eq, Nat.mul_eq, Nat.sub_eq, SV.wd]; omega) | exact rfl)) ?_
      refine S.again (again (k + 1) (show k + 1 <= 256 by omega) (show 256 - (k + 1) < 256 - k by omega)) ⟨⟨rfl, by omega⟩, rfl, rfl, rfl, rfl, trivial⟩ ?_ rfl rfl (fun x hx => hx) rfl (fun ρ W h => h.hs)
      rw [et] at s1 s2 s3
      rw [et]
      repeat' (first | exact True.intro | refine And.intro ?_ ?_ | assumption | exact rfl)
  . obtain rfl : k = 256 := by omega
    refine S.go false rfl (by repeat' (first | exact True.intro | refine And.intro ?_ ?_ | assumption | omega | (dsimp only; omega) | (simp only [Nat.add_eq, Nat.mul_eq, Nat.sub_eq, SV.wd]; omega) | exact rfl)) ?_
    exact S.retv rfl rfl rfl rfl rfl
end Go.Proofs.YtbiboamaigedjaaGreatDoor
namespace Go.Proofs.YtbiboamaigedjaaGreatDoor
open Go.RowKit
set_option maxRecDepth 8000
set_option linter.unusedSimpArgs false
set_option linter.unusedVariables false
set_option maxHeartbeats 1000000 in
theorem QgD {x y z iz xx yy bb : List Int} (l1 : x.length = 4) (l2 : y.length = 4) (l3 : z.length = 4) (l4 : iz.length = 4) (l5 : xx.length = 4) (l6 : yy.length = 4) (l7 : bb.length = 32) (h1 : PV Tryz.prog gT 88 [.a .u64 z 4] (.a .u64 iz 4)) (h2 : PV Tryz.prog gT 89 [.a .u64 x 4, .a .u64 iz 4] (.a .u64 xx 4)) (h3 : PV Tryz.prog gT 89 [.a .u64 y 4, .a .u64 iz 4] (.a .u64 yy 4)) (h4 : PV Tryz.prog gT 57 [.a .u64 yy 4] (.a .u8 bb 32)) (hx : 0 <= xx.getD 0 0) (hb : 0 <= bb.getD 31 0 /\ bb.getD 31 0 < 128) : PV Tryz.prog gT 39 [.g [.a .u64 x 4, .a .u64 y 4, .a .u64 z 4]] (.a .u8 (bb.set 31 (bb.getD 31 0 + xx.getD 0 0 % 2 * 128)) 32) := by
  refine PV.mk' Tryz.func39 rfl rfl rfl rfl fun w L hL hG => ?_
  refine S.enter Qw [.g [.a .u64 x 4, .a .u64 y 4, .a .u64 z 4]] gT Tryz.func39 rfl rfl rfl (fun _ => rfl) hL hG ?_
  refine S.go false rfl (by repeat' (first | exact True.intro | refine And.intro ?_ ?_ | assumption | omega | (dsimp only; omega) | (simp only [Nat.add_eq, Nat.mul_eq, Nat.sub_eq, SV.wd]; omega) | exact rfl)) ?_
  refine S.cv rfl rfl rfl rfl rfl rfl h1 ?_
  refine S.go false rfl (by repeat' (first | exact True.intro | refine And.intro ?_ ?_ | assumption | omega | (dsimp only; omega) | (simp only [Nat.add_eq, Nat.mul_eq, Nat.sub_eq, SV.wd]; omega) | exact rfl)) ?_
  refine S.drp false [(3, .a .u64 xx 4), (7, .a .u64 yy 4)] rfl rfl rfl ?_ (by repeat' (first | exact True.intro | refine And.intro ?_ ?_ | assumption | omega | (dsimp only; omega) | (simp only [Nat.add_eq, Nat.mul_eq, Nat.sub_eq, SV.wd]; omega) | exact rfl))
  refine S.go false rfl (by repeat' (first | exact True.intro | refine And.intro ?_ ?_ | assumption | omega | (dsimp only; omega) | (simp only [Nat.add_eq, Nat.mul_eq, Nat.sub_eq, SV.wd]; omega) | exact rfl)) ?_
  refine S.cv rfl rfl rfl rfl rfl rfl h4 ?_
  have q1 : (bb.set 31 (bb.getD 31 0 + xx.getD 0 0 % 2 * 128)).length = 32 := by rw [List.length_set]; exact l7
  have q2 : 0 <= bb.getD 31 0 + xx.getD 0 0 % 2 * 128 := by omega
  have q3 : bb.getD 31 0 + xx.getD 0 0 % 2 * 128 < 256 := by omega
  have q4 : 0 <= xx.getD 0 0 % 2 * 128 := by omega
  have q5 : xx.getD 0 0 % 2 * 128 < 256 := by omega
  have q6 : 0 <= xx.getD 0 0 % 2 := by omega
  have q7 : xx.getD 0 0 % 2 < 256 := by omega
  refine S.go false rfl (by repeat' (first | exact True.intro | refine And.intro ?_ ?_ | exact l7 | exact l5 | exact l6 | exact q1 | exact q2 | exact q3 | exact q4 | exact q5 | exact q6 | exact q7 | exact hx | omega | exact rfl)) ?_
  exact S.retv rfl rfl rfl rfl rfl
theorem QjT {c : FF × FF × FF} {P : Pt} (h : En c P) : PV Tryz.prog gT 39 [np c] (.a .u8 (Zs P) 32) := by
  obtain ⟨cx, cy, cz⟩ := c
  obtain ⟨h0, h1, h2⟩ := h
  simp only at h0 h1 h2
  subst h1; subst h2
  have hi := VB h0
  have e1 : P.x * cz * Yd cz = P.x := by generalize Yd cz = f at *; grobner
  have e2 : P.y * cz * Yd cz = P.y := by generalize Yd cz = f at *; grobner
  have k1 := Ya (P.x * cz) (Yd cz)
  have k2 := Ya (P.y * cz) (Yd cz)
  rw [e1] at k1
  rw [e2] at k2
  have ht := H3 P.y
  have hx := Vo P.x
  have g0 : (Qn 4 (P.x.val : Int)).getD 0 0 = (P.x.val : Int) % 18446744073709551616 := by
    rw [QJ, Gs 4 _ 0 (by omega), Nat.mul_zero, Int.pow_zero, Int.ediv_one]
  have h := QgD (Qc 4 _) (Qc 4 _) (Qc 4 _) (Qc 4 _) (Qc 4 _) (Qc 4 _) (QP _) (QmB cz) k1 k2 (D8 (P.y.val : Int)) (by rw [g0]; omega) (by rw [QJ]; exact ht)
  have e3 : (Qn 4 (P.x.val : Int)).getD 0 0 % 2 = (P.x.val : Int) % 2 := by rw [g0]; omega
  rw [e3, QJ, <- Ge] at h
  exact h
end Go.Proofs.YtbiboamaigedjaaGreatDoor
namespace Go.Proofs.YtbiboamaigedjaaGreatDoor
open Go.RowKit
set_option linter.unusedVariables false
set_option linter.unusedSimpArgs false
set_option maxRecDepth 8000
set_option maxHeartbeats 2000000

theorem Qmn : Qn 4 ((1 : FF).val : Int) = [1, 0, 0, 0] := by decide +kernel
theorem QgX (P : Pt) : En (P.x, P.y, 1) P := ⟨by show (1 : FF) ≠ 0; decide +kernel, by show P.x = P.x * 1; grobner, by show P.y = P.y * 1; grobner⟩
theorem QjB : PV Tryz.prog gT 41 [] (np (Em, El, 1)) := by
  have h : PV Tryz.prog gT 41 [] (.g [.i .u64 14507833142362363162, .i .u64 7578651490590762930, .i .u64 13881468655802702940, .i .u64 2407515759118799870, .i .u64 7378697629483820632, .i .u64 7378697629483820646, .i .u64 7378697629483820646, .i .u64 7378697629483820646, .i .u64 1, .i .u64 0, .i .u64 0, .i .u64 0]) := by
    refine PV.mk' Tryz.func41 rfl rfl rfl rfl fun w L hL hG => ?_
    refine S.enter Qw [] gT Tryz.func41 rfl rfl rfl (fun _ => rfl) hL hG ?_
    refine S.go false rfl (by repeat' (first | exact True.intro | refine And.intro ?_ ?_ | assumption | omega | (dsimp only; omega) | (simp only [Nat.add_eq, Nat.mul_eq, Nat.sub_eq, SV.wd]; omega) | exact rfl)) ?_
    exact S.retv rfl rfl rfl rfl rfl
  have e1 : Qn 4 (Em.val : Int) = [14507833142362363162, 7578651490590762930, 13881468655802702940, 2407515759118799870] := by decide +kernel
  have e2 : Qn 4 (El.val : Int) = [7378697629483820632, 7378697629483820646, 7378697629483820646, 7378697629483820646] := by decide +kernel
  refine h.res ?_ rfl
  unfold np
  simp only [e1, e2, Qmn]
  rfl
/-- What a point's cells are, without saying of what. -/
theorem Qdm {k : List Int} (hk : Qh k) (hkl : k.length = 32) : PV Tryz.prog gT 17 [.a .u8 k 32] (.a .u8 (Zs (QQ (kB k) bP)) 32) := by
  have h1 := QjB
  have h2 := Qlo hk hkl (Em, El, 1)
  have h3 := QjT (Jo (QgX bP) 256 (kB k) (Qkr hk))
  change PV _ _ _ [np (Yb (Em, El, 1) 256 (kB k))] _ at h3
  have hel := Q1 (QQ (kB k) bP)
  generalize Zs (QQ (kB k) bP) = r at *
  generalize Yb (Em, El, 1) 256 (kB k) = c at *
  generalize ((Em, El, 1) : FF × FF × FF) = e at *
  have n := fun v => Qc 4 v
  unfold np at h1 h2 h3
  have lX := n ((c).1.val : Int); have lY := n ((c).2.1.val : Int); have lZ := n ((c).2.2.val : Int)
  have lx := n ((e).1.val : Int); have ly := n ((e).2.1.val : Int); have lz := n ((e).2.2.val : Int)
  generalize Qn 4 ((c).1.val : Int) = X at *
  generalize Qn 4 ((c).2.1.val : Int) = Y at *
  generalize Qn 4 ((c).2.2.val : Int) = Z at *
  generalize Qn 4 ((e).1.val : Int) = x at *
  generalize Qn 4 ((e).2.1.val : Int) = y at *
  generalize Qn 4 ((e).2.2.val : Int) = z at *
  refine PV.mk' Tryz.func17 rfl rfl rfl rfl fun w L hL hG => ?_
  refine S.enter Qw [.a .u8 k 32] gT Tryz.func17 rfl rfl rfl (fun _ => rfl) hL hG ?_
  refine S.go false rfl (by repeat' (first | exact True.intro | refine And.intro ?_ ?_ | assumption | omega | (dsimp only; omega) | (simp only [Nat.add_eq, Nat.mul_eq, Nat.sub_eq, SV.wd]; omega) | exact rfl)) ?_
  refine S.drp false [(1, .g [.a .u64 x 4, .a .u64 y 4, .a .u64 z 4]), (2, .g [.a .u64 X 4, .a .u64 Y 4, .a .u64 Z 4]), (3, .a .u8 r 32)] rfl rfl rfl ?_ (by repeat' (first | exact True.intro | refine And.intro ?_ ?_ | assumption | omega | (dsimp only; omega) | (simp only [Nat.add_eq, Nat.mul_eq, Nat.sub_eq, SV.wd]; omega) | exact rfl))
  refine S.go false rfl (by repeat' (first | exact True.intro | refine And.intro ?_ ?_ | assumption | omega | (dsimp only; omega) | (simp only [Nat.add_eq, Nat.mul_eq, Nat.sub_eq, SV.wd]; omega) | exact rfl)) ?_
  exact S.retv rfl rfl rfl rfl rfl
end Go.Proofs.YtbiboamaigedjaaGreatDoor
