/- The reference's curve, walked by the machine of symbols: sums, many times, bytes. The reference's curve, walked by the machine of symbols: bytes, read -/
import Derived.Test.YtbiboamaigedjaaDoorEKD
namespace Go.Proofs.YtbiboamaigedjaaDoor
open Go.RowKit
set_option linter.unusedVariables false
set_option linter.unusedSimpArgs false
set_option maxRecDepth 8000
set_option maxHeartbeats 2000000

theorem D_r : PV Tryd.prog gT 54 [] (.a .u64 (Qc 4 (dF.val : Int)) 4) := by
  have h : PV Tryd.prog gT 54 [] (.g [.i .u64 8496970652267935907, .i .u64 31536524315187371, .i .u64 10144147576115030168, .i .u64 5909686906226998899]) := by
    refine PV.mk' Tryd.func54 rfl rfl rfl rfl fun w L hL hG => ?_
    refine S.enter Qh [] gT Tryd.func54 rfl rfl rfl (fun _ => rfl) hL hG ?_
    refine S.go false rfl (by repeat' (first | exact True.intro | refine And.intro ?_ ?_ | assumption | omega | (dsimp only; omega) | (simp only [Nat.add_eq, Nat.mul_eq, Nat.sub_eq, SV.wd]; omega) | exact rfl)) ?_
    exact S.retv rfl rfl rfl rfl rfl
  have e : Qc 4 (dF.val : Int) = [8496970652267935907, 31536524315187371, 10144147576115030168, 5909686906226998899] := by decide +kernel
  rw [e]
  exact h.res rfl rfl
theorem Xe (a b : FF) : PV Tryd.prog gT 52 [.a .u64 (Qc 4 (a.val : Int)) 4, .a .u64 (Qc 4 (b.val : Int)) 4] (.a .u64 (Qc 4 ((a * b : FF).val : Int)) 4) := by
  rw [val_mul]; exact Um (Ya a) (Ya b)
theorem Dn (a b : FF) : PV Tryd.prog gT 53 [.a .u64 (Qc 4 (a.val : Int)) 4, .a .u64 (Qc 4 (b.val : Int)) 4] (.a .u64 (Qc 4 ((a + b : FF).val : Int)) 4) := by
  have ha := X9 a; have hb := X9 b; have hp : pV + pV < 2 ^ 256 := by decide +kernel
  rw [val_add]; exact Qhu ha.1 hb.1 (by omega)
theorem EY (a b : FF) : PV Tryd.prog gT 56 [.a .u64 (Qc 4 (a.val : Int)) 4, .a .u64 (Qc 4 (b.val : Int)) 4] (.a .u64 (Qc 4 ((a - b : FF).val : Int)) 4) := by
  rw [ZC]; exact EX (X9 a) (X9 b)
theorem QfQ (a : FF) : PV Tryd.prog gT 57 [.a .u64 (Qc 4 (a.val : Int)) 4] (.a .u64 (Qc 4 ((Xq a).val : Int)) 4) := by
  rw [<- JS]; exact Qc1 (Ya a)
/-- A point of the reference. -/
def np (c : FF × FF × FF) : SV := .g [.a .u64 (Qc 4 (c.1.val : Int)) 4, .a .u64 (Qc 4 (c.2.1.val : Int)) 4, .a .u64 (Qc 4 (c.2.2.val : Int)) 4]
set_option maxHeartbeats 2000000 in
theorem Qge {x1 y1 z1 x2 y2 z2 a b u v d uv t f g m1 m2 cr bo af X ag Y Z : List Int} (l_x1 : x1.length = 4) (l_y1 : y1.length = 4) (l_z1 : z1.length = 4) (l_x2 : x2.length = 4) (l_y2 : y2.length = 4) (l_z2 : z2.length = 4) (l_a : a.length = 4) (l_b : b.length = 4) (l_u : u.length = 4) (l_v : v.length = 4) (l_d : d.length = 4) (l_uv : uv.length = 4) (l_t : t.length = 4) (l_f : f.length = 4) (l_g : g.length = 4) (l_m1 : m1.length = 4) (l_m2 : m2.length = 4) (l_cr : cr.length = 4) (l_bo : bo.length = 4) (l_af : af.length = 4) (l_X : X.length = 4) (l_ag : ag.length = 4) (l_Y : Y.length = 4) (l_Z : Z.length = 4) (h1 : PV Tryd.prog gT 52 [.a .u64 z1 4, .a .u64 z2 4] (.a .u64 a 4)) (h2 : PV Tryd.prog gT 52 [.a .u64 a 4, .a .u64 a 4] (.a .u64 b 4)) (h3 : PV Tryd.prog gT 52 [.a .u64 x1 4, .a .u64 x2 4] (.a .u64 u 4)) (h4 : PV Tryd.prog gT 52 [.a .u64 y1 4, .a .u64 y2 4] (.a .u64 v 4)) (h5 : PV Tryd.prog gT 54 [] (.a .u64 d 4)) (h6 : PV Tryd.prog gT 52 [.a .u64 u 4, .a .u64 v 4] (.a .u64 uv 4)) (h7 : PV Tryd.prog gT 52 [.a .u64 d 4, .a .u64 uv 4] (.a .u64 t 4)) (h8 : PV Tryd.prog gT 56 [.a .u64 b 4, .a .u64 t 4] (.a .u64 f 4)) (h9 : PV Tryd.prog gT 53 [.a .u64 b 4, .a .u64 t 4] (.a .u64 g 4)) (h10 : PV Tryd.prog gT 52 [.a .u64 x1 4, .a .u64 y2 4] (.a .u64 m1 4)) (h11 : PV Tryd.prog gT 52 [.a .u64 y1 4, .a .u64 x2 4] (.a .u64 m2 4)) (h12 : PV Tryd.prog gT 53 [.a .u64 m1 4, .a .u64 m2 4] (.a .u64 cr 4)) (h13 : PV Tryd.prog gT 53 [.a .u64 v 4, .a .u64 u 4] (.a .u64 bo 4)) (h14 : PV Tryd.prog gT 52 [.a .u64 a 4, .a .u64 f 4] (.a .u64 af 4)) (h15 : PV Tryd.prog gT 52 [.a .u64 af 4, .a .u64 cr 4] (.a .u64 X 4)) (h16 : PV Tryd.prog gT 52 [.a .u64 a 4, .a .u64 g 4] (.a .u64 ag 4)) (h17 : PV Tryd.prog gT 52 [.a .u64 ag 4, .a .u64 bo 4] (.a .u64 Y 4)) (h18 : PV Tryd.prog gT 52 [.a .u64 f 4, .a .u64 g 4] (.a .u64 Z 4)) : PV Tryd.prog gT 59 [.g [.a .u64 x1 4, .a .u64 y1 4, .a .u64 z1 4], .g [.a .u64 x2 4, .a .u64 y2 4, .a .u64 z2 4]] (.g [.a .u64 X 4, .a .u64 Y 4, .a .u64 Z 4]) := by
  refine PV.mk' Tryd.func59 rfl rfl rfl rfl fun w L hL hG => ?_
  refine S.enter Qh [.g [.a .u64 x1 4, .a .u64 y1 4, .a .u64 z1 4], .g [.a .u64 x2 4, .a .u64 y2 4, .a .u64 z2 4]] gT Tryd.func59 rfl rfl rfl (fun _ => rfl) hL hG ?_
  refine S.go false rfl (by repeat' (first | exact True.intro | refine And.intro ?_ ?_ | assumption | omega | (dsimp only; omega) | (simp only [Nat.add_eq, Nat.mul_eq, Nat.sub_eq, SV.wd]; omega) | exact rfl)) ?_
  refine S.cv rfl rfl rfl rfl rfl rfl h1 ?_
  refine S.go false rfl (by repeat' (first | exact True.intro | refine And.intro ?_ ?_ | assumption | omega | (dsimp only; omega) | (simp only [Nat.add_eq, Nat.mul_eq, Nat.sub_eq, SV.wd]; omega) | exact rfl)) ?_
  refine S.cv rfl rfl rfl rfl rfl rfl h2 ?_
  refine S.go false rfl (by repeat' (first | exact True.intro | refine And.intro ?_ ?_ | assumption | omega | (dsimp only; omega) | (simp only [Nat.add_eq, Nat.mul_eq, Nat.sub_eq, SV.wd]; omega) | exact rfl)) ?_
  refine S.cv rfl rfl rfl rfl rfl rfl h3 ?_
  refine S.go false rfl (by repeat' (first | exact True.intro | refine And.intro ?_ ?_ | assumption | omega | (dsimp only; omega) | (simp only [Nat.add_eq, Nat.mul_eq, Nat.sub_eq, SV.wd]; omega) | exact rfl)) ?_
  refine S.cv rfl rfl rfl rfl rfl rfl h4 ?_
  refine S.go false rfl (by repeat' (first | exact True.intro | refine And.intro ?_ ?_ | assumption | omega | (dsimp only; omega) | (simp only [Nat.add_eq, Nat.mul_eq, Nat.sub_eq, SV.wd]; omega) | exact rfl)) ?_
  refine S.drp false [(0, .a .u64 d 4), (3, .a .u64 uv 4), (4, .a .u64 t 4)] rfl rfl rfl ?_ (by repeat' (first | exact True.intro | refine And.intro ?_ ?_ | assumption | omega | (dsimp only; omega) | (simp only [Nat.add_eq, Nat.mul_eq, Nat.sub_eq, SV.wd]; omega) | exact rfl))
  refine S.go false rfl (by repeat' (first | exact True.intro | refine And.intro ?_ ?_ | assumption | omega | (dsimp only; omega) | (simp only [Nat.add_eq, Nat.mul_eq, Nat.sub_eq, SV.wd]; omega) | exact rfl)) ?_
  refine S.cv rfl rfl rfl rfl rfl rfl h8 ?_
  refine S.go false rfl (by repeat' (first | exact True.intro | refine And.intro ?_ ?_ | assumption | omega | (dsimp only; omega) | (simp only [Nat.add_eq, Nat.mul_eq, Nat.sub_eq, SV.wd]; omega) | exact rfl)) ?_
  refine S.cv rfl rfl rfl rfl rfl rfl h9 ?_
  refine S.go false rfl (by repeat' (first | exact True.intro | refine And.intro ?_ ?_ | assumption | omega | (dsimp only; omega) | (simp only [Nat.add_eq, Nat.mul_eq, Nat.sub_eq, SV.wd]; omega) | exact rfl)) ?_
  refine S.drp false [(4, .a .u64 m1 4), (9, .a .u64 m2 4), (10, .a .u64 cr 4)] rfl rfl rfl ?_ (by repeat' (first | exact True.intro | refine And.intro ?_ ?_ | assumption | omega | (dsimp only; omega) | (simp only [Nat.add_eq, Nat.mul_eq, Nat.sub_eq, SV.wd]; omega) | exact rfl))
  refine S.go false rfl (by repeat' (first | exact True.intro | refine And.intro ?_ ?_ | assumption | omega | (dsimp only; omega) | (simp only [Nat.add_eq, Nat.mul_eq, Nat.sub_eq, SV.wd]; omega) | exact rfl)) ?_
  refine S.cv rfl rfl rfl rfl rfl rfl h13 ?_
  refine S.go false rfl (by repeat' (first | exact True.intro | refine And.intro ?_ ?_ | assumption | omega | (dsimp only; omega) | (simp only [Nat.add_eq, Nat.mul_eq, Nat.sub_eq, SV.wd]; omega) | exact rfl)) ?_
  refine S.drp false [(2, .a .u64 af 4), (4, .a .u64 X 4), (7, .a .u64 ag 4), (9, .a .u64 Y 4), (12, .a .u64 Z 4)] rfl rfl rfl ?_ (by repeat' (first | exact True.intro | refine And.intro ?_ ?_ | assumption | omega | (dsimp only; omega) | (simp only [Nat.add_eq, Nat.mul_eq, Nat.sub_eq, SV.wd]; omega) | exact rfl))
  refine S.go false rfl (by repeat' (first | exact True.intro | refine And.intro ?_ ?_ | assumption | omega | (dsimp only; omega) | (simp only [Nat.add_eq, Nat.mul_eq, Nat.sub_eq, SV.wd]; omega) | exact rfl)) ?_
  exact S.retv rfl rfl rfl rfl rfl
theorem QbY (c e : FF × FF × FF) : PV Tryd.prog gT 59 [np c, np e] (np (Vc c e)) :=
  Qge (Qa 4 _) (Qa 4 _) (Qa 4 _) (Qa 4 _) (Qa 4 _) (Qa 4 _) (Qa 4 _) (Qa 4 _) (Qa 4 _) (Qa 4 _) (Qa 4 _) (Qa 4 _) (Qa 4 _) (Qa 4 _) (Qa 4 _) (Qa 4 _) (Qa 4 _) (Qa 4 _) (Qa 4 _) (Qa 4 _) (Qa 4 _) (Qa 4 _) (Qa 4 _) (Qa 4 _) (Xe _ _) (Xe _ _) (Xe _ _) (Xe _ _) D_r (Xe _ _) (Xe _ _) (EY _ _) (Dn _ _) (Xe _ _) (Xe _ _) (Dn _ _) (Dn _ _) (Xe _ _) (Xe _ _) (Xe _ _) (Xe _ _) (Xe _ _)
theorem Qf2 : PV Tryd.prog gT 58 [] (np (0, 1, 1)) := by
  have h : PV Tryd.prog gT 58 [] (.g [.i .u64 0, .i .u64 0, .i .u64 0, .i .u64 0, .i .u64 1, .i .u64 0, .i .u64 0, .i .u64 0, .i .u64 1, .i .u64 0, .i .u64 0, .i .u64 0]) := by
    refine PV.mk' Tryd.func58 rfl rfl rfl rfl fun w L hL hG => ?_
    refine S.enter Qh [] gT Tryd.func58 rfl rfl rfl (fun _ => rfl) hL hG ?_
    refine S.go false rfl (by repeat' (first | exact True.intro | refine And.intro ?_ ?_ | assumption | omega | (dsimp only; omega) | (simp only [Nat.add_eq, Nat.mul_eq, Nat.sub_eq, SV.wd]; omega) | exact rfl)) ?_
    exact S.retv rfl rfl rfl rfl rfl
  have e0 : Qc 4 ((0 : FF).val : Int) = [0, 0, 0, 0] := by decide +kernel
  have e1 : Qc 4 ((1 : FF).val : Int) = [1, 0, 0, 0] := by decide +kernel
  refine h.res ?_ rfl
  unfold np
  simp only [e0, e1]
  rfl
theorem QaX {c : FF × FF × FF} {f k : Nat} (h : k % 2 = 0) : Xg c (f + 1) k = Vc (Xg c f (k / 2)) (Xg c f (k / 2)) := by
  conv => lhs; unfold Xg
  rw [h]
  rfl
theorem Qcx {c : FF × FF × FF} {f k : Nat} (h : k % 2 = 1) : Xg c (f + 1) k = Vc (Vc (Xg c f (k / 2)) (Xg c f (k / 2))) c := by
  conv => lhs; unfold Xg
  rw [h]
  rfl
theorem QiK {kb : List Int} (hb : Qd kb) {k : Nat} (hk : k < 256) : bits .and .u8 (kb.getD (Int.toNat ((255 - (k : Int)) / 8)) 0 / 2 ^ Int.toNat ((255 - (k : Int)) % 8)) 1 = ((kB kb / 2 ^ (255 - k) % 2 : Nat) : Int) := by
  have e1 : Int.toNat ((255 - (k : Int)) / 8) = (255 - k) / 8 := by omega
  have e2 : Int.toNat ((255 - (k : Int)) % 8) = (255 - k) % 8 := by omega
  rw [e1, e2, Qx, <- Qai hb (255 - k) (by omega)]
  exact Vh (Vv (hb.at ((255 - k) / 8)) _)
def Ve (c : FF × FF × FF) (K k : Nat) : FF × FF × FF := Xg c k (K / 2 ^ (256 - k))
theorem QhG (c : FF × FF × FF) (K : Nat) : Ve c K 0 = (0, 1, 1) := rfl
theorem QeF (c : FF × FF × FF) (K : Nat) : Xg c 256 K = Ve c K 256 := by unfold Ve; simp
theorem Qcy {c : FF × FF × FF} {K k : Nat} (hk : k < 256) (h : K / 2 ^ (255 - k) % 2 = 0) : Ve c K (k + 1) = Vc (Ve c K k) (Ve c K k) := by
  unfold Ve
  rw [show 256 - (k + 1) = 255 - k by omega, QaX h, Nat.div_div_eq_div_mul, <- Nat.pow_succ, show (255 - k).succ = 256 - k by omega]
theorem QeE {c : FF × FF × FF} {K k : Nat} (hk : k < 256) (h : K / 2 ^ (255 - k) % 2 = 1) : Ve c K (k + 1) = Vc (Vc (Ve c K k) (Ve c K k)) c := by
  unfold Ve
  rw [show 256 - (k + 1) = 255 - k by omega, Qcx h, Nat.div_div_eq_div_mul, <- Nat.pow_succ, show (255 - k).succ = 256 - k by omega]
/-- The cells of a point. -/
def ncl (c : FF × FF × FF) : Cl := [.a .u64 (Qc 4 (c.1.val : Int)) 4, .a .u64 (Qc 4 (c.2.1.val : Int)) 4, .a .u64 (Qc 4 (c.2.2.val : Int)) 4]
attribute [local irreducible] Ve Vc Xg Qc kB
set_option maxHeartbeats 400000 in
theorem QgE {kb : List Int} (hb : Qd kb) (hl : kb.length = 32) (c : FF × FF × FF) : PV Tryd.prog gT 25 [.a .u8 kb 32, np c] (np (Xg c 256 (kB kb))) := by
  have e0 := QeF c (kB kb)
  have ez := QhG c (kB kb)
  have hZ := Qf2
  rw [<- ez] at hZ
  rw [e0]
  have q1 := Qa 4 (c.1.val : Int); have q2 := Qa 4 (c.2.1.val : Int); have q3 := Qa 4 (c.2.2.val : Int)
  have p1 := Qa 4 ((Ve c (kB kb) 0).1.val : Int); have p2 := Qa 4 ((Ve c (kB kb) 0).2.1.val : Int); have p3 := Qa 4 ((Ve c (kB kb) 0).2.2.val : Int)
  refine PV.mk' Tryd.func25 rfl rfl rfl rfl fun w L hL hG => ?_
  refine S.enter Qh [.a .u8 kb 32, np c] gT Tryd.func25 rfl rfl rfl (fun _ => rfl) hL hG ?_
  refine S.go false rfl (by repeat' (first | exact True.intro | refine And.intro ?_ ?_ | assumption | omega | (dsimp only; omega) | (simp only [Nat.add_eq, Nat.mul_eq, Nat.sub_eq, SV.wd]; omega) | exact rfl)) ?_
  refine S.cv rfl rfl rfl rfl rfl rfl hZ ?_
  refine S.go false rfl (by repeat' (first | exact True.intro | refine And.intro ?_ ?_ | assumption | omega | (dsimp only; omega) | (simp only [Nat.add_eq, Nat.mul_eq, Nat.sub_eq, SV.wd]; omega) | exact rfl)) ?_
  refine S.loop [2, 3, 4, 5] (fun k : Nat => [(6, .i .i64 (255 - (k : Int)))]) (fun k => [(0, [.a .u8 kb 32]), (1, ncl c), (2, [.i .u64 0, .i .u64 0, .i .u64 0, .i .u64 0, .i .u64 0, .i .u64 0, .i .u64 0, .i .u64 0, .i .u64 0, .i .u64 0, .i .u64 0, .i .u64 0]), (3, ncl (Ve c (kB kb) k))]) (fun _ => []) (fun k => k <= 256) (fun k => 256 - k) 0 rfl (fun _ => rfl) (fun _ => rfl) rfl ⟨⟨rfl, rfl⟩, trivial⟩ (by repeat' (first | exact True.intro | refine And.intro ?_ ?_ | assumption | exact rfl)) (fun _ _ _ => trivial) (by omega) fun J k hk again => ?_
  have hk' : k <= 256 := hk
  have r1 := Qa 4 ((Ve c (kB kb) k).1.val : Int); have r2 := Qa 4 ((Ve c (kB kb) k).2.1.val : Int); have r3 := Qa 4 ((Ve c (kB kb) k).2.2.val : Int)
  have s1 := Qa 4 ((Ve c (kB kb) (k + 1)).1.val : Int); have s2 := Qa 4 ((Ve c (kB kb) (k + 1)).2.1.val : Int); have s3 := Qa 4 ((Ve c (kB kb) (k + 1)).2.2.val : Int)
  refine S.g false rfl ?_
  refine S.cond rfl (fun c5 => ?_) (fun c5 => ?_)
  . have c' : k < 256 := by omega
    have hbe := QiK hb c'
    have hP := QbY (Ve c (kB kb) k) (Ve c (kB kb) k)
    have t1 := Qa 4 ((Vc (Ve c (kB kb) k) (Ve c (kB kb) k)).1.val : Int); have t2 := Qa 4 ((Vc (Ve c (kB kb) k) (Ve c (kB kb) k)).2.1.val : Int); have t3 := Qa 4 ((Vc (Ve c (kB kb) k) (Ve c (kB kb) k)).2.2.val : Int)
    refine S.go false rfl (by repeat' (first | exact True.intro | refine And.intro ?_ ?_ | assumption | omega | (dsimp only; omega) | (simp only [Nat.add_eq, Nat.mul_eq, Nat.sub_eq, SV.wd]; omega) | exact rfl)) ?_
    refine S.cv rfl rfl rfl rfl rfl rfl hP ?_
    refine S.go false rfl (by repeat' (first | exact True.intro | refine And.intro ?_ ?_ | assumption | omega | (dsimp only; omega) | (simp only [Nat.add_eq, Nat.mul_eq, Nat.sub_eq, SV.wd]; omega) | exact rfl)) ?_
    refine S.cond rfl (fun c2 => ?_) (fun c2 => ?_)
    . rw [hbe] at c2
      have et := QeE (c := c) c' (by omega : kB kb / 2 ^ (255 - k) % 2 = 1)
      have hQ := QbY (Vc (Ve c (kB kb) k) (Ve c (kB kb) k)) c
      rw [<- et] at hQ
      refine S.go false rfl (by repeat' (first | exact True.intro | refine And.intro ?_ ?_ | assumption | omega | (dsimp only; omega) | (simp only [Nat.add_eq, Nat.mul_eq, Nat.sub_eq, SV.wd]; omega) | exact rfl)) ?_
      refine S.cv rfl rfl rfl rfl rfl rfl hQ ?_
      refine S.go false rfl (by repeat' (first | exact True.intro | refine And.intro ?_ ?_ | assumption | omega | (dsimp only; omega) | (simp only [Nat.add_eq, Nat.mul_eq, Nat.sub_eq, SV.wd]; omega) | exact rfl)) ?_
      refine S.again (again (k + 1) (show k + 1 <= 256 by omega) (show 256 - (k + 1) < 256 - k by omega)) ⟨⟨rfl, by omega⟩, rfl, rfl, rfl, rfl, trivial⟩ ?_ rfl rfl (fun x hx => hx) rfl (fun ρ W h => h.hs)
      repeat' (first | exact True.intro | refine And.intro ?_ ?_ | assumption | exact rfl)
    . rw [hbe] at c2
      have et := Qcy (c := c) c' (by omega : kB kb / 2 ^ (255 - k) % 2 = 0)
      refine S.go false rfl (by repeat' (first | exact True.intro | refine And.intro ?_ ?_ | assumption | omega | (dsimp only; omega) | (simp only [Nat.add_eq, Nat.mul_eq, Nat.sub_eq, SV.wd]; omega) | exact rfl)) ?_
      refine S.again (again (k + 1) (show k + 1 <= 256 by omega) (show 256 - (k + 1) < 256 - k by omega)) ⟨⟨rfl, by omega⟩, rfl, rfl, rfl, rfl, trivial⟩ ?_ rfl rfl (fun x hx => hx) rfl (fun ρ W h => h.hs)
      rw [et] at s1 s2 s3
      rw [et]
      repeat' (first | exact True.intro | refine And.intro ?_ ?_ | assumption | exact rfl)
  . obtain rfl : k = 256 := by omega
    refine S.go false rfl (by repeat' (first | exact True.intro | refine And.intro ?_ ?_ | assumption | omega | (dsimp only; omega) | (simp only [Nat.add_eq, Nat.mul_eq, Nat.sub_eq, SV.wd]; omega) | exact rfl)) ?_
    exact S.retv rfl rfl rfl rfl rfl
end Go.Proofs.YtbiboamaigedjaaDoor
namespace Go.Proofs.YtbiboamaigedjaaDoor
open Go.RowKit
set_option maxRecDepth 8000
set_option linter.unusedSimpArgs false
set_option linter.unusedVariables false
set_option maxHeartbeats 1000000 in
theorem Qb6 {x y z iz xx yy bb : List Int} (l1 : x.length = 4) (l2 : y.length = 4) (l3 : z.length = 4) (l4 : iz.length = 4) (l5 : xx.length = 4) (l6 : yy.length = 4) (l7 : bb.length = 32) (h1 : PV Tryd.prog gT 57 [.a .u64 z 4] (.a .u64 iz 4)) (h2 : PV Tryd.prog gT 52 [.a .u64 x 4, .a .u64 iz 4] (.a .u64 xx 4)) (h3 : PV Tryd.prog gT 52 [.a .u64 y 4, .a .u64 iz 4] (.a .u64 yy 4)) (h4 : PV Tryd.prog gT 10 [.a .u64 yy 4] (.a .u8 bb 32)) (hx : 0 <= xx.getD 0 0) (hb : 0 <= bb.getD 31 0 /\ bb.getD 31 0 < 128) : PV Tryd.prog gT 24 [.g [.a .u64 x 4, .a .u64 y 4, .a .u64 z 4]] (.a .u8 (bb.set 31 (bb.getD 31 0 + xx.getD 0 0 % 2 * 128)) 32) := by
  refine PV.mk' Tryd.func24 rfl rfl rfl rfl fun w L hL hG => ?_
  refine S.enter Qh [.g [.a .u64 x 4, .a .u64 y 4, .a .u64 z 4]] gT Tryd.func24 rfl rfl rfl (fun _ => rfl) hL hG ?_
  refine S.go false rfl (by repeat' (first | exact True.intro | refine And.intro ?_ ?_ | assumption | omega | (dsimp only; omega) | (simp only [Nat.add_eq, Nat.mul_eq, Nat.sub_eq, SV.wd]; omega) | exact rfl)) ?_
  refine S.cv rfl rfl rfl rfl rfl rfl h1 ?_
  refine S.go false rfl (by repeat' (first | exact True.intro | refine And.intro ?_ ?_ | assumption | omega | (dsimp only; omega) | (simp only [Nat.add_eq, Nat.mul_eq, Nat.sub_eq, SV.wd]; omega) | exact rfl)) ?_
  refine S.drp false [(3, .a .u64 xx 4), (7, .a .u64 yy 4)] rfl rfl rfl ?_ (by repeat' (first | exact True.intro | refine And.intro ?_ ?_ | assumption | omega | (dsimp only; omega) | (simp only [Nat.add_eq, Nat.mul_eq, Nat.sub_eq, SV.wd]; omega) | exact rfl))
  refine S.go false rfl (by repeat' (first | exact True.intro | refine And.intro ?_ ?_ | assumption | omega | (dsimp only; omega) | (simp only [Nat.add_eq, Nat.mul_eq, Nat.sub_eq, SV.wd]; omega) | exact rfl)) ?_
  refine S.cv rfl rfl rfl rfl rfl rfl h4 ?_
  have q1 : (bb.set 31 (bb.getD 31 0 + xx.getD 0 0 % 2 * 128)).length = 32 := by rw [List.length_set]; exact l7
  have q2 : 0 <= bb.getD 31 0 + xx.getD 0 0 % 2 * 128 := by omega
  have q3 : bb.getD 31 0 + xx.getD 0 0 % 2 * 128 < 256 := by omega
  have q4 : 0 <= xx.getD 0 0 % 2 * 128 := by omega
  have q5 : xx.getD 0 0 % 2 * 128 < 256 := by omega
  have q6 : 0 <= xx.getD 0 0 % 2 := by omega
  have q7 : xx.getD 0 0 % 2 < 256 := by omega
  refine S.go false rfl (by repeat' (first | exact True.intro | refine And.intro ?_ ?_ | exact l7 | exact l5 | exact l6 | exact q1 | exact q2 | exact q3 | exact q4 | exact q5 | exact q6 | exact q7 | exact hx | omega | exact rfl)) ?_
  exact S.retv rfl rfl rfl rfl rfl
theorem Qfk {c : FF × FF × FF} {P : Pt} (h : Kt c P) : PV Tryd.prog gT 24 [np c] (.a .u8 (Q9 P) 32) := by
  obtain ⟨cx, cy, cz⟩ := c
  obtain ⟨h0, h1, h2⟩ := h
  simp only at h0 h1 h2
  subst h1; subst h2
  have hi := Zt h0
  have e1 : P.x * cz * Xq cz = P.x := by generalize Xq cz = f at *; grobner
  have e2 : P.y * cz * Xq cz = P.y := by generalize Xq cz = f at *; grobner
  have k1 := Xe (P.x * cz) (Xq cz)
  have k2 := Xe (P.y * cz) (Xq cz)
  rw [e1] at k1
  rw [e2] at k2
  have ht := Jn P.y
  have hx := X9 P.x
  have g0 : (Qc 4 (P.x.val : Int)).getD 0 0 = (P.x.val : Int) % 18446744073709551616 := by
    rw [Qx, V9 4 _ 0 (by omega), Nat.mul_zero, Int.pow_zero, Int.ediv_one]
  have h := Qb6 (Qa 4 _) (Qa 4 _) (Qa 4 _) (Qa 4 _) (Qa 4 _) (Qa 4 _) (Qw _) (QfQ cz) k1 k2 (Qaf (P.y.val : Int)) (by rw [g0]; omega) (by rw [Qx]; exact ht)
  have e3 : (Qc 4 (P.x.val : Int)).getD 0 0 % 2 = (P.x.val : Int) % 2 := by rw [g0]; omega
  rw [e3, Qx, <- VX] at h
  exact h
theorem Qel {b lb y p : List Int} (l_b : b.length = 32) (l_lb : lb.length = 32) (hb0 : (b.set 31 (b.getD 31 0 % 128)).length = 32) (hb1 : 0 <= b.getD 31 0 % 128) (hb2 : b.getD 31 0 % 128 < 256) (hb3 : 0 <= b.getD 31 0) (hb4 : b.getD 31 0 < 256) (hsl : b.set 31 (b.getD 31 0 % 128) = lb) (l_y : y.length = 4) (l_p : p.length = 4) (hy : PV Tryd.prog gT 27 [.a .u8 lb 32] (.a .u64 y 4)) (hP : PV Tryd.prog gT 51 [] (.a .u64 p 4)) (hl : PV Tryd.prog gT 26 [.a .u64 y 4, .a .u64 p 4] (.l false)) : PV Tryd.prog gT 23 [.a .u8 b 32] (.t [.g [.i .u64 0, .i .u64 0, .i .u64 0, .i .u64 0, .i .u64 0, .i .u64 0, .i .u64 0, .i .u64 0, .i .u64 0, .i .u64 0, .i .u64 0, .i .u64 0], .l false]) := by
  refine PV.mk' Tryd.func23 rfl rfl rfl rfl fun w L hL hG => ?_
  refine S.enter Qh [.a .u8 b 32] gT Tryd.func23 rfl rfl rfl (fun _ => rfl) hL hG ?_
  refine S.go false rfl (by repeat' (first | exact True.intro | refine And.intro ?_ ?_ | exact l_lb | exact l_b | exact hb0 | exact hb1 | exact hb2 | exact hb3 | exact hb4 | assumption | omega | exact rfl)) ?_
  refine S.recell 0 [.a .u8 lb 32] rfl (fun ρ => congrArg (fun z => Qg ρ [SV.a .u8 z 32]) hsl) ⟨l_lb, trivial⟩ rfl ?_
  refine S.rd 17 (.a .u8 lb 32) rfl (fun ρ => congrArg (fun z => (SV.a .u8 z 32).den ρ) hsl) ?_
  refine S.cv rfl rfl rfl rfl rfl rfl hy ?_
  refine S.go false rfl (by repeat' (first | exact True.intro | refine And.intro ?_ ?_ | assumption | omega | (dsimp only; omega) | (simp only [Nat.add_eq, Nat.mul_eq, Nat.sub_eq, SV.wd]; omega) | exact rfl)) ?_
  refine S.drp false [(1, .a .u64 p 4), (2, .l false)] rfl rfl rfl ?_ (by repeat' (first | exact True.intro | refine And.intro ?_ ?_ | assumption | omega | (dsimp only; omega) | (simp only [Nat.add_eq, Nat.mul_eq, Nat.sub_eq, SV.wd]; omega) | exact rfl))
  refine S.go false rfl (by repeat' (first | exact True.intro | refine And.intro ?_ ?_ | assumption | omega | (dsimp only; omega) | (simp only [Nat.add_eq, Nat.mul_eq, Nat.sub_eq, SV.wd]; omega) | exact rfl)) ?_
  exact S.rett rfl rfl rfl rfl rfl
theorem Qek {b lb y p yy d dy ov y1 iv u x : List Int} (l_b : b.length = 32) (l_lb : lb.length = 32) (hb0 : (b.set 31 (b.getD 31 0 % 128)).length = 32) (hb1 : 0 <= b.getD 31 0 % 128) (hb2 : b.getD 31 0 % 128 < 256) (hb3 : 0 <= b.getD 31 0) (hb4 : b.getD 31 0 < 256) (hsl : b.set 31 (b.getD 31 0 % 128) = lb) (l_y : y.length = 4) (l_p : p.length = 4) (l_yy : yy.length = 4) (l_d : d.length = 4) (l_dy : dy.length = 4) (l_ov : ov.length = 4) (l_y1 : y1.length = 4) (l_iv : iv.length = 4) (l_u : u.length = 4) (l_x : x.length = 4) (hy : PV Tryd.prog gT 27 [.a .u8 lb 32] (.a .u64 y 4)) (hP : PV Tryd.prog gT 51 [] (.a .u64 p 4)) (hl : PV Tryd.prog gT 26 [.a .u64 y 4, .a .u64 p 4] (.l true)) (h1 : PV Tryd.prog gT 52 [.a .u64 y 4, .a .u64 y 4] (.a .u64 yy 4)) (h2 : PV Tryd.prog gT 54 [] (.a .u64 d 4)) (h3 : PV Tryd.prog gT 52 [.a .u64 d 4, .a .u64 yy 4] (.a .u64 dy 4)) (h4 : PV Tryd.prog gT 53 [.a .u64 dy 4, .g [.i .u64 1, .i .u64 0, .i .u64 0, .i .u64 0]] (.a .u64 ov 4)) (h5 : PV Tryd.prog gT 56 [.a .u64 yy 4, .g [.i .u64 1, .i .u64 0, .i .u64 0, .i .u64 0]] (.a .u64 y1 4)) (h6 : PV Tryd.prog gT 57 [.a .u64 ov 4] (.a .u64 iv 4)) (h7 : PV Tryd.prog gT 52 [.a .u64 y1 4, .a .u64 iv 4] (.a .u64 u 4)) (h8 : PV Tryd.prog gT 55 [.a .u64 u 4] (.t [.a .u64 x 4, .l false])) : PV Tryd.prog gT 23 [.a .u8 b 32] (.t [.g [.i .u64 0, .i .u64 0, .i .u64 0, .i .u64 0, .i .u64 0, .i .u64 0, .i .u64 0, .i .u64 0, .i .u64 0, .i .u64 0, .i .u64 0, .i .u64 0], .l false]) := by
  refine PV.mk' Tryd.func23 rfl rfl rfl rfl fun w L hL hG => ?_
  refine S.enter Qh [.a .u8 b 32] gT Tryd.func23 rfl rfl rfl (fun _ => rfl) hL hG ?_
  refine S.go false rfl (by repeat' (first | exact True.intro | refine And.intro ?_ ?_ | exact l_lb | exact l_b | exact hb0 | exact hb1 | exact hb2 | exact hb3 | exact hb4 | assumption | omega | exact rfl)) ?_
  refine S.recell 0 [.a .u8 lb 32] rfl (fun ρ => congrArg (fun z => Qg ρ [SV.a .u8 z 32]) hsl) ⟨l_lb, trivial⟩ rfl ?_
  refine S.rd 17 (.a .u8 lb 32) rfl (fun ρ => congrArg (fun z => (SV.a .u8 z 32).den ρ) hsl) ?_
  refine S.cv rfl rfl rfl rfl rfl rfl hy ?_
  refine S.go false rfl (by repeat' (first | exact True.intro | refine And.intro ?_ ?_ | assumption | omega | (dsimp only; omega) | (simp only [Nat.add_eq, Nat.mul_eq, Nat.sub_eq, SV.wd]; omega) | exact rfl)) ?_
  refine S.drp false [(1, .a .u64 p 4), (2, .l true)] rfl rfl rfl ?_ (by repeat' (first | exact True.intro | refine And.intro ?_ ?_ | assumption | omega | (dsimp only; omega) | (simp only [Nat.add_eq, Nat.mul_eq, Nat.sub_eq, SV.wd]; omega) | exact rfl))
  refine S.go false rfl (by repeat' (first | exact True.intro | refine And.intro ?_ ?_ | assumption | omega | (dsimp only; omega) | (simp only [Nat.add_eq, Nat.mul_eq, Nat.sub_eq, SV.wd]; omega) | exact rfl)) ?_
  refine S.go false rfl (by repeat' (first | exact True.intro | refine And.intro ?_ ?_ | assumption | omega | (dsimp only; omega) | (simp only [Nat.add_eq, Nat.mul_eq, Nat.sub_eq, SV.wd]; omega) | exact rfl)) ?_
  refine S.cv rfl rfl rfl rfl rfl rfl h1 ?_
  refine S.go false rfl (by repeat' (first | exact True.intro | refine And.intro ?_ ?_ | assumption | omega | (dsimp only; omega) | (simp only [Nat.add_eq, Nat.mul_eq, Nat.sub_eq, SV.wd]; omega) | exact rfl)) ?_
  refine S.drp false [(0, .a .u64 d 4), (2, .a .u64 dy 4), (4, .a .u64 ov 4)] rfl rfl rfl ?_ (by repeat' (first | exact True.intro | refine And.intro ?_ ?_ | assumption | omega | (dsimp only; omega) | (simp only [Nat.add_eq, Nat.mul_eq, Nat.sub_eq, SV.wd]; omega) | exact rfl))
  refine S.go false rfl (by repeat' (first | exact True.intro | refine And.intro ?_ ?_ | assumption | omega | (dsimp only; omega) | (simp only [Nat.add_eq, Nat.mul_eq, Nat.sub_eq, SV.wd]; omega) | exact rfl)) ?_
  refine S.drp false [(2, .a .u64 y1 4), (4, .a .u64 iv 4), (5, .a .u64 u 4), (6, .t [.a .u64 x 4, .l false])] rfl rfl rfl ?_ (by repeat' (first | exact True.intro | refine And.intro ?_ ?_ | assumption | omega | (dsimp only; omega) | (simp only [Nat.add_eq, Nat.mul_eq, Nat.sub_eq, SV.wd]; omega) | exact rfl))
  refine S.go false rfl (by repeat' (first | exact True.intro | refine And.intro ?_ ?_ | assumption | omega | (dsimp only; omega) | (simp only [Nat.add_eq, Nat.mul_eq, Nat.sub_eq, SV.wd]; omega) | exact rfl)) ?_
  exact S.rett rfl rfl rfl rfl rfl
theorem Qeh {b lb y p yy d dy ov y1 iv u x : List Int} (l_b : b.length = 32) (l_lb : lb.length = 32) (hb0 : (b.set 31 (b.getD 31 0 % 128)).length = 32) (hb1 : 0 <= b.getD 31 0 % 128) (hb2 : b.getD 31 0 % 128 < 256) (hb3 : 0 <= b.getD 31 0) (hb4 : b.getD 31 0 < 256) (hsl : b.set 31 (b.getD 31 0 % 128) = lb) (ho : decide (128 <= b.getD 31 0) = false) (l_y : y.length = 4) (l_p : p.length = 4) (l_yy : yy.length = 4) (l_d : d.length = 4) (l_dy : dy.length = 4) (l_ov : ov.length = 4) (l_y1 : y1.length = 4) (l_iv : iv.length = 4) (l_u : u.length = 4) (l_x : x.length = 4) (hy : PV Tryd.prog gT 27 [.a .u8 lb 32] (.a .u64 y 4)) (hP : PV Tryd.prog gT 51 [] (.a .u64 p 4)) (hl : PV Tryd.prog gT 26 [.a .u64 y 4, .a .u64 p 4] (.l true)) (h1 : PV Tryd.prog gT 52 [.a .u64 y 4, .a .u64 y 4] (.a .u64 yy 4)) (h2 : PV Tryd.prog gT 54 [] (.a .u64 d 4)) (h3 : PV Tryd.prog gT 52 [.a .u64 d 4, .a .u64 yy 4] (.a .u64 dy 4)) (h4 : PV Tryd.prog gT 53 [.a .u64 dy 4, .g [.i .u64 1, .i .u64 0, .i .u64 0, .i .u64 0]] (.a .u64 ov 4)) (h5 : PV Tryd.prog gT 56 [.a .u64 yy 4, .g [.i .u64 1, .i .u64 0, .i .u64 0, .i .u64 0]] (.a .u64 y1 4)) (h6 : PV Tryd.prog gT 57 [.a .u64 ov 4] (.a .u64 iv 4)) (h7 : PV Tryd.prog gT 52 [.a .u64 y1 4, .a .u64 iv 4] (.a .u64 u 4)) (h8 : PV Tryd.prog gT 55 [.a .u64 u 4] (.t [.a .u64 x 4, .l true])) : PV Tryd.prog gT 23 [.a .u8 b 32] (.t [.g [.a .u64 x 4, .a .u64 y 4, .i .u64 1, .i .u64 0, .i .u64 0, .i .u64 0], .l true]) := by
  refine PV.mk' Tryd.func23 rfl rfl rfl rfl fun w L hL hG => ?_
  refine S.enter Qh [.a .u8 b 32] gT Tryd.func23 rfl rfl rfl (fun _ => rfl) hL hG ?_
  refine S.go false rfl (by repeat' (first | exact True.intro | refine And.intro ?_ ?_ | exact l_lb | exact l_b | exact hb0 | exact hb1 | exact hb2 | exact hb3 | exact hb4 | assumption | omega | exact rfl)) ?_
  refine S.recell 0 [.a .u8 lb 32] rfl (fun ρ => congrArg (fun z => Qg ρ [SV.a .u8 z 32]) hsl) ⟨l_lb, trivial⟩ rfl ?_
  refine S.rd 17 (.a .u8 lb 32) rfl (fun ρ => congrArg (fun z => (SV.a .u8 z 32).den ρ) hsl) ?_
  refine S.rd 4 (.l false) rfl (fun _ => by simp only [SV.den]; rw [ho]) ?_
  refine S.cv rfl rfl rfl rfl rfl rfl hy ?_
  refine S.go false rfl (by repeat' (first | exact True.intro | refine And.intro ?_ ?_ | assumption | omega | (dsimp only; omega) | (simp only [Nat.add_eq, Nat.mul_eq, Nat.sub_eq, SV.wd]; omega) | exact rfl)) ?_
  refine S.drp false [(1, .a .u64 p 4), (2, .l true)] rfl rfl rfl ?_ (by repeat' (first | exact True.intro | refine And.intro ?_ ?_ | assumption | omega | (dsimp only; omega) | (simp only [Nat.add_eq, Nat.mul_eq, Nat.sub_eq, SV.wd]; omega) | exact rfl))
  refine S.go false rfl (by repeat' (first | exact True.intro | refine And.intro ?_ ?_ | assumption | omega | (dsimp only; omega) | (simp only [Nat.add_eq, Nat.mul_eq, Nat.sub_eq, SV.wd]; omega) | exact rfl)) ?_
  refine S.go false rfl (by repeat' (first | exact True.intro | refine And.intro ?_ ?_ | assumption | omega | (dsimp only; omega) | (simp only [Nat.add_eq, Nat.mul_eq, Nat.sub_eq, SV.wd]; omega) | exact rfl)) ?_
  refine S.cv rfl rfl rfl rfl rfl rfl h1 ?_
  refine S.go false rfl (by repeat' (first | exact True.intro | refine And.intro ?_ ?_ | assumption | omega | (dsimp only; omega) | (simp only [Nat.add_eq, Nat.mul_eq, Nat.sub_eq, SV.wd]; omega) | exact rfl)) ?_
  refine S.drp false [(0, .a .u64 d 4), (2, .a .u64 dy 4), (4, .a .u64 ov 4)] rfl rfl rfl ?_ (by repeat' (first | exact True.intro | refine And.intro ?_ ?_ | assumption | omega | (dsimp only; omega) | (simp only [Nat.add_eq, Nat.mul_eq, Nat.sub_eq, SV.wd]; omega) | exact rfl))
  refine S.go false rfl (by repeat' (first | exact True.intro | refine And.intro ?_ ?_ | assumption | omega | (dsimp only; omega) | (simp only [Nat.add_eq, Nat.mul_eq, Nat.sub_eq, SV.wd]; omega) | exact rfl)) ?_
  refine S.drp false [(2, .a .u64 y1 4), (4, .a .u64 iv 4), (5, .a .u64 u 4), (6, .t [.a .u64 x 4, .l true])] rfl rfl rfl ?_ (by repeat' (first | exact True.intro | refine And.intro ?_ ?_ | assumption | omega | (dsimp only; omega) | (simp only [Nat.add_eq, Nat.mul_eq, Nat.sub_eq, SV.wd]; omega) | exact rfl))
  refine S.go false rfl (by repeat' (first | exact True.intro | refine And.intro ?_ ?_ | assumption | omega | (dsimp only; omega) | (simp only [Nat.add_eq, Nat.mul_eq, Nat.sub_eq, SV.wd]; omega) | exact rfl)) ?_
  exact S.rett rfl rfl rfl rfl rfl
theorem Qei {b lb nx y p yy d dy ov y1 iv u x : List Int} (l_b : b.length = 32) (l_lb : lb.length = 32) (hb0 : (b.set 31 (b.getD 31 0 % 128)).length = 32) (hb1 : 0 <= b.getD 31 0 % 128) (hb2 : b.getD 31 0 % 128 < 256) (hb3 : 0 <= b.getD 31 0) (hb4 : b.getD 31 0 < 256) (hsl : b.set 31 (b.getD 31 0 % 128) = lb) (ho : decide (128 <= b.getD 31 0) = true) (l_y : y.length = 4) (l_p : p.length = 4) (l_yy : yy.length = 4) (l_d : d.length = 4) (l_dy : dy.length = 4) (l_ov : ov.length = 4) (l_y1 : y1.length = 4) (l_iv : iv.length = 4) (l_u : u.length = 4) (l_x : x.length = 4) (l_nx : nx.length = 4) (hy : PV Tryd.prog gT 27 [.a .u8 lb 32] (.a .u64 y 4)) (hP : PV Tryd.prog gT 51 [] (.a .u64 p 4)) (hl : PV Tryd.prog gT 26 [.a .u64 y 4, .a .u64 p 4] (.l true)) (h1 : PV Tryd.prog gT 52 [.a .u64 y 4, .a .u64 y 4] (.a .u64 yy 4)) (h2 : PV Tryd.prog gT 54 [] (.a .u64 d 4)) (h3 : PV Tryd.prog gT 52 [.a .u64 d 4, .a .u64 yy 4] (.a .u64 dy 4)) (h4 : PV Tryd.prog gT 53 [.a .u64 dy 4, .g [.i .u64 1, .i .u64 0, .i .u64 0, .i .u64 0]] (.a .u64 ov 4)) (h5 : PV Tryd.prog gT 56 [.a .u64 yy 4, .g [.i .u64 1, .i .u64 0, .i .u64 0, .i .u64 0]] (.a .u64 y1 4)) (h6 : PV Tryd.prog gT 57 [.a .u64 ov 4] (.a .u64 iv 4)) (h7 : PV Tryd.prog gT 52 [.a .u64 y1 4, .a .u64 iv 4] (.a .u64 u 4)) (h8 : PV Tryd.prog gT 55 [.a .u64 u 4] (.t [.a .u64 x 4, .l true])) (h9 : PV Tryd.prog gT 56 [.g [.i .u64 0, .i .u64 0, .i .u64 0, .i .u64 0], .a .u64 x 4] (.a .u64 nx 4)) (hx : ¬ x = [0, 0, 0, 0]) : PV Tryd.prog gT 23 [.a .u8 b 32] (.t [.g [.a .u64 nx 4, .a .u64 y 4, .i .u64 1, .i .u64 0, .i .u64 0, .i .u64 0], .l true]) := by
  refine PV.mk' Tryd.func23 rfl rfl rfl rfl fun w L hL hG => ?_
  refine S.enter Qh [.a .u8 b 32] gT Tryd.func23 rfl rfl rfl (fun _ => rfl) hL hG ?_
  refine S.go false rfl (by repeat' (first | exact True.intro | refine And.intro ?_ ?_ | exact l_lb | exact l_b | exact hb0 | exact hb1 | exact hb2 | exact hb3 | exact hb4 | assumption | omega | exact rfl)) ?_
  refine S.recell 0 [.a .u8 lb 32] rfl (fun ρ => congrArg (fun z => Qg ρ [SV.a .u8 z 32]) hsl) ⟨l_lb, trivial⟩ rfl ?_
  refine S.rd 17 (.a .u8 lb 32) rfl (fun ρ => congrArg (fun z => (SV.a .u8 z 32).den ρ) hsl) ?_
  refine S.rd 4 (.l true) rfl (fun _ => by simp only [SV.den]; rw [ho]) ?_
  refine S.cv rfl rfl rfl rfl rfl rfl hy ?_
  refine S.go false rfl (by repeat' (first | exact True.intro | refine And.intro ?_ ?_ | assumption | omega | (dsimp only; omega) | (simp only [Nat.add_eq, Nat.mul_eq, Nat.sub_eq, SV.wd]; omega) | exact rfl)) ?_
  refine S.drp false [(1, .a .u64 p 4), (2, .l true)] rfl rfl rfl ?_ (by repeat' (first | exact True.intro | refine And.intro ?_ ?_ | assumption | omega | (dsimp only; omega) | (simp only [Nat.add_eq, Nat.mul_eq, Nat.sub_eq, SV.wd]; omega) | exact rfl))
  refine S.go false rfl (by repeat' (first | exact True.intro | refine And.intro ?_ ?_ | assumption | omega | (dsimp only; omega) | (simp only [Nat.add_eq, Nat.mul_eq, Nat.sub_eq, SV.wd]; omega) | exact rfl)) ?_
  refine S.go false rfl (by repeat' (first | exact True.intro | refine And.intro ?_ ?_ | assumption | omega | (dsimp only; omega) | (simp only [Nat.add_eq, Nat.mul_eq, Nat.sub_eq, SV.wd]; omega) | exact rfl)) ?_
  refine S.cv rfl rfl rfl rfl rfl rfl h1 ?_
  refine S.go false rfl (by repeat' (first | exact True.intro | refine And.intro ?_ ?_ | assumption | omega | (dsimp only; omega) | (simp only [Nat.add_eq, Nat.mul_eq, Nat.sub_eq, SV.wd]; omega) | exact rfl)) ?_
  refine S.drp false [(0, .a .u64 d 4), (2, .a .u64 dy 4), (4, .a .u64 ov 4)] rfl rfl rfl ?_ (by repeat' (first | exact True.intro | refine And.intro ?_ ?_ | assumption | omega | (dsimp only; omega) | (simp only [Nat.add_eq, Nat.mul_eq, Nat.sub_eq, SV.wd]; omega) | exact rfl))
  refine S.go false rfl (by repeat' (first | exact True.intro | refine And.intro ?_ ?_ | assumption | omega | (dsimp only; omega) | (simp only [Nat.add_eq, Nat.mul_eq, Nat.sub_eq, SV.wd]; omega) | exact rfl)) ?_
  refine S.drp false [(2, .a .u64 y1 4), (4, .a .u64 iv 4), (5, .a .u64 u 4), (6, .t [.a .u64 x 4, .l true])] rfl rfl rfl ?_ (by repeat' (first | exact True.intro | refine And.intro ?_ ?_ | assumption | omega | (dsimp only; omega) | (simp only [Nat.add_eq, Nat.mul_eq, Nat.sub_eq, SV.wd]; omega) | exact rfl))
  refine S.go false rfl (by repeat' (first | exact True.intro | refine And.intro ?_ ?_ | assumption | omega | (dsimp only; omega) | (simp only [Nat.add_eq, Nat.mul_eq, Nat.sub_eq, SV.wd]; omega) | exact rfl)) ?_
  refine S.rd 48 (.a .u64 [0, 0, 0, 0] 4) rfl (fun _ => rfl) ?_
  refine S.go false rfl (by repeat' (first | exact True.intro | refine And.intro ?_ ?_ | assumption | omega | (dsimp only; omega) | (simp only [Nat.add_eq, Nat.mul_eq, Nat.sub_eq, SV.wd]; omega) | exact rfl)) ?_
  refine S.condF rfl hx ?_
  refine S.go false rfl (by repeat' (first | exact True.intro | refine And.intro ?_ ?_ | assumption | omega | (dsimp only; omega) | (simp only [Nat.add_eq, Nat.mul_eq, Nat.sub_eq, SV.wd]; omega) | exact rfl)) ?_
  refine S.cv rfl rfl rfl rfl rfl rfl h9 ?_
  refine S.go false rfl (by repeat' (first | exact True.intro | refine And.intro ?_ ?_ | assumption | omega | (dsimp only; omega) | (simp only [Nat.add_eq, Nat.mul_eq, Nat.sub_eq, SV.wd]; omega) | exact rfl)) ?_
  exact S.rett rfl rfl rfl rfl rfl
theorem Qej {b lb y p yy d dy ov y1 iv u x : List Int} (l_b : b.length = 32) (l_lb : lb.length = 32) (hb0 : (b.set 31 (b.getD 31 0 % 128)).length = 32) (hb1 : 0 <= b.getD 31 0 % 128) (hb2 : b.getD 31 0 % 128 < 256) (hb3 : 0 <= b.getD 31 0) (hb4 : b.getD 31 0 < 256) (hsl : b.set 31 (b.getD 31 0 % 128) = lb) (ho : decide (128 <= b.getD 31 0) = true) (l_y : y.length = 4) (l_p : p.length = 4) (l_yy : yy.length = 4) (l_d : d.length = 4) (l_dy : dy.length = 4) (l_ov : ov.length = 4) (l_y1 : y1.length = 4) (l_iv : iv.length = 4) (l_u : u.length = 4) (l_x : x.length = 4) (hy : PV Tryd.prog gT 27 [.a .u8 lb 32] (.a .u64 y 4)) (hP : PV Tryd.prog gT 51 [] (.a .u64 p 4)) (hl : PV Tryd.prog gT 26 [.a .u64 y 4, .a .u64 p 4] (.l true)) (h1 : PV Tryd.prog gT 52 [.a .u64 y 4, .a .u64 y 4] (.a .u64 yy 4)) (h2 : PV Tryd.prog gT 54 [] (.a .u64 d 4)) (h3 : PV Tryd.prog gT 52 [.a .u64 d 4, .a .u64 yy 4] (.a .u64 dy 4)) (h4 : PV Tryd.prog gT 53 [.a .u64 dy 4, .g [.i .u64 1, .i .u64 0, .i .u64 0, .i .u64 0]] (.a .u64 ov 4)) (h5 : PV Tryd.prog gT 56 [.a .u64 yy 4, .g [.i .u64 1, .i .u64 0, .i .u64 0, .i .u64 0]] (.a .u64 y1 4)) (h6 : PV Tryd.prog gT 57 [.a .u64 ov 4] (.a .u64 iv 4)) (h7 : PV Tryd.prog gT 52 [.a .u64 y1 4, .a .u64 iv 4] (.a .u64 u 4)) (h8 : PV Tryd.prog gT 55 [.a .u64 u 4] (.t [.a .u64 x 4, .l true])) (hx : x = [0, 0, 0, 0]) : PV Tryd.prog gT 23 [.a .u8 b 32] (.t [.g [.i .u64 0, .i .u64 0, .i .u64 0, .i .u64 0, .i .u64 0, .i .u64 0, .i .u64 0, .i .u64 0, .i .u64 0, .i .u64 0, .i .u64 0, .i .u64 0], .l false]) := by
  refine PV.mk' Tryd.func23 rfl rfl rfl rfl fun w L hL hG => ?_
  refine S.enter Qh [.a .u8 b 32] gT Tryd.func23 rfl rfl rfl (fun _ => rfl) hL hG ?_
  refine S.go false rfl (by repeat' (first | exact True.intro | refine And.intro ?_ ?_ | exact l_lb | exact l_b | exact hb0 | exact hb1 | exact hb2 | exact hb3 | exact hb4 | assumption | omega | exact rfl)) ?_
  refine S.recell 0 [.a .u8 lb 32] rfl (fun ρ => congrArg (fun z => Qg ρ [SV.a .u8 z 32]) hsl) ⟨l_lb, trivial⟩ rfl ?_
  refine S.rd 17 (.a .u8 lb 32) rfl (fun ρ => congrArg (fun z => (SV.a .u8 z 32).den ρ) hsl) ?_
  refine S.rd 4 (.l true) rfl (fun _ => by simp only [SV.den]; rw [ho]) ?_
  refine S.cv rfl rfl rfl rfl rfl rfl hy ?_
  refine S.go false rfl (by repeat' (first | exact True.intro | refine And.intro ?_ ?_ | assumption | omega | (dsimp only; omega) | (simp only [Nat.add_eq, Nat.mul_eq, Nat.sub_eq, SV.wd]; omega) | exact rfl)) ?_
  refine S.drp false [(1, .a .u64 p 4), (2, .l true)] rfl rfl rfl ?_ (by repeat' (first | exact True.intro | refine And.intro ?_ ?_ | assumption | omega | (dsimp only; omega) | (simp only [Nat.add_eq, Nat.mul_eq, Nat.sub_eq, SV.wd]; omega) | exact rfl))
  refine S.go false rfl (by repeat' (first | exact True.intro | refine And.intro ?_ ?_ | assumption | omega | (dsimp only; omega) | (simp only [Nat.add_eq, Nat.mul_eq, Nat.sub_eq, SV.wd]; omega) | exact rfl)) ?_
  refine S.go false rfl (by repeat' (first | exact True.intro | refine And.intro ?_ ?_ | assumption | omega | (dsimp only; omega) | (simp only [Nat.add_eq, Nat.mul_eq, Nat.sub_eq, SV.wd]; omega) | exact rfl)) ?_
  refine S.cv rfl rfl rfl rfl rfl rfl h1 ?_
  refine S.go false rfl (by repeat' (first | exact True.intro | refine And.intro ?_ ?_ | assumption | omega | (dsimp only; omega) | (simp only [Nat.add_eq, Nat.mul_eq, Nat.sub_eq, SV.wd]; omega) | exact rfl)) ?_
  refine S.drp false [(0, .a .u64 d 4), (2, .a .u64 dy 4), (4, .a .u64 ov 4)] rfl rfl rfl ?_ (by repeat' (first | exact True.intro | refine And.intro ?_ ?_ | assumption | omega | (dsimp only; omega) | (simp only [Nat.add_eq, Nat.mul_eq, Nat.sub_eq, SV.wd]; omega) | exact rfl))
  refine S.go false rfl (by repeat' (first | exact True.intro | refine And.intro ?_ ?_ | assumption | omega | (dsimp only; omega) | (simp only [Nat.add_eq, Nat.mul_eq, Nat.sub_eq, SV.wd]; omega) | exact rfl)) ?_
  refine S.drp false [(2, .a .u64 y1 4), (4, .a .u64 iv 4), (5, .a .u64 u 4), (6, .t [.a .u64 x 4, .l true])] rfl rfl rfl ?_ (by repeat' (first | exact True.intro | refine And.intro ?_ ?_ | assumption | omega | (dsimp only; omega) | (simp only [Nat.add_eq, Nat.mul_eq, Nat.sub_eq, SV.wd]; omega) | exact rfl))
  refine S.go false rfl (by repeat' (first | exact True.intro | refine And.intro ?_ ?_ | assumption | omega | (dsimp only; omega) | (simp only [Nat.add_eq, Nat.mul_eq, Nat.sub_eq, SV.wd]; omega) | exact rfl)) ?_
  refine S.rd 48 (.a .u64 [0, 0, 0, 0] 4) rfl (fun _ => rfl) ?_
  refine S.go false rfl (by repeat' (first | exact True.intro | refine And.intro ?_ ?_ | assumption | omega | (dsimp only; omega) | (simp only [Nat.add_eq, Nat.mul_eq, Nat.sub_eq, SV.wd]; omega) | exact rfl)) ?_
  refine S.condT rfl hx ?_
  refine S.go false rfl (by repeat' (first | exact True.intro | refine And.intro ?_ ?_ | assumption | omega | (dsimp only; omega) | (simp only [Nat.add_eq, Nat.mul_eq, Nat.sub_eq, SV.wd]; omega) | exact rfl)) ?_
  exact S.rett rfl rfl rfl rfl rfl
end Go.Proofs.YtbiboamaigedjaaDoor
namespace Go.Proofs.YtbiboamaigedjaaDoor
open Go.RowKit
set_option linter.unusedVariables false
set_option linter.unusedSimpArgs false
set_option maxRecDepth 8000
set_option maxHeartbeats 2000000

theorem Qcv : Qc 4 ((1 : FF).val : Int) = [1, 0, 0, 0] := by decide +kernel
theorem Qbr : Qc 4 ((0 : FF).val : Int) = [0, 0, 0, 0] := by decide +kernel
theorem Qip (a : FF) : 0 - a = -a := by grobner
theorem Hk (a : FF) : Qc 4 (a.val : Int) = [0, 0, 0, 0] ↔ a = 0 := by
  rw [<- Qbr]
  refine ⟨fun h => FD ?_, fun h => by rw [h]⟩
  have h1 := Ya a; have h2 := Ya 0
  rw [<- QC h1.1 h1.2, h, QC h2.1 h2.2]
theorem QcI (a b : FF) : (SV.t [.g [.a .u64 (Qc 4 (a.val : Int)) 4, .a .u64 (Qc 4 (b.val : Int)) 4, .i .u64 1, .i .u64 0, .i .u64 0, .i .u64 0], .l true]).den Qu = (SV.t [np (a, b, 1), .l true]).den Qu := by
  unfold np
  simp only [Qcv]
  rfl
theorem Qgi {b : List Int} (hb : Qd b) (hl : b.length = 32) : (ZB b -> PV Tryd.prog gT 23 [.a .u8 b 32] (.t [np (xF b, yF b, 1), .l true])) /\ (¬ ZB b -> PV Tryd.prog gT 23 [.a .u8 b 32] (.t [.g [.i .u64 0, .i .u64 0, .i .u64 0, .i .u64 0, .i .u64 0, .i .u64 0, .i .u64 0, .i .u64 0, .i .u64 0, .i .u64 0, .i .u64 0, .i .u64 0], .l false])) := by
  have hb31 := hb.at 31
  have g : b.getD 31 0 = Qb b 31 := Qx b 31
  have hlb := Fs hl
  have hbb := Yn hb
  have q0 : (b.set 31 (b.getD 31 0 % 128)).length = 32 := by rw [List.length_set]; exact hl
  have q1 : 0 <= b.getD 31 0 % 128 := by omega
  have q2 : b.getD 31 0 % 128 < 256 := by omega
  have q3 : 0 <= b.getD 31 0 := by omega
  have q4 : b.getD 31 0 < 256 := by omega
  have hsl : b.set 31 (b.getD 31 0 % 128) = Yo b := by rw [g]; rfl
  have hy := QcT hbb hlb
  have hyr : 0 <= yI b /\ yI b < 2 ^ 256 := Xw (Yo b) hbb
  change PV _ _ _ _ (.a .u64 (Qc 4 (yI b)) 4) at hy
  by_cases hlow : yI b < pV
  . have hyv : yI b = ((yF b).val : Int) := by unfold yF; rw [U3, Int.emod_eq_of_lt hyr.1 hlow]
    have hL := EM hyr VH hlow
    rw [hyv] at hy hL
    have k1 := Xe (yF b) (yF b)
    have k3 := Xe dF (yF b * yF b)
    have k4 := (Dn (dF * (yF b * yF b)) 1).arg (KZ Qcv)
    have k5 := (EY (yF b * yF b) 1).arg (KZ Qcv)
    have k6 := QfQ (dF * (yF b * yF b) + 1)
    have k7 := Xe (yF b * yF b - 1) (Xq (dF * (yF b * yF b) + 1))
    have hu : (yF b * yF b - 1) * Xq (dF * (yF b * yF b) + 1) = uF (yF b) := by
      unfold uF
      rw [show dF * (yF b * yF b) = yF b * yF b * dF by grobner]
    rw [hu] at k7
    have k8 := QbL (X9 (uF (yF b)))
    rw [<- Gw] at k8
    change PV _ _ _ _ (.t [.a .u64 (Qc 4 ((Kh b).val : Int)) 4, .l (okF (uF (yF b)))]) at k8
    have n := fun v => Qa 4 v
    cases hok : okF (uF (yF b)) with
    | false =>
      rw [hok] at k8
      exact ⟨fun h => absurd h.ok (by rw [hok]; decide), fun _ => Qek hl hlb q0 q1 q2 q3 q4 hsl (n _) (n _) (n _) (n _) (n _) (n _) (n _) (n _) (n _) (n _) hy P_r hL k1 D_r k3 k4 k5 k6 k7 k8⟩
    | true =>
      rw [hok] at k8
      cases ho : odB b with
      | false =>
        have hxf : xF b = Kh b := by unfold xF; rw [ho]; rfl
        have ho2 : decide (128 <= b.getD 31 0) = false := by rw [g]; exact ho
        refine ⟨fun _ => ?_, fun h => absurd ⟨hlow, hok, fun e => by rw [ho] at e; exact absurd e.1 (by decide)⟩ h⟩
        rw [hxf]
        exact (Qeh hl hlb q0 q1 q2 q3 q4 hsl ho2 (n _) (n _) (n _) (n _) (n _) (n _) (n _) (n _) (n _) (n _) hy P_r hL k1 D_r k3 k4 k5 k6 k7 k8).res (QcI _ _) rfl
      | true =>
        have ho2 : decide (128 <= b.getD 31 0) = true := by rw [g]; exact ho
        by_cases hx : Kh b = 0
        . exact ⟨fun h => absurd ⟨ho, hx⟩ h.one, fun _ => Qej hl hlb q0 q1 q2 q3 q4 hsl ho2 (n _) (n _) (n _) (n _) (n _) (n _) (n _) (n _) (n _) (n _) hy P_r hL k1 D_r k3 k4 k5 k6 k7 k8 ((Hk _).2 hx)⟩
        . have hxf : xF b = -Kh b := by unfold xF; rw [ho]; rfl
          have k9 := (EY 0 (Kh b)).arg (QgM Qbr)
          rw [Qip] at k9
          refine ⟨fun _ => ?_, fun h => absurd ⟨hlow, hok, fun e => hx e.2⟩ h⟩
          rw [hxf]
          exact (Qei hl hlb q0 q1 q2 q3 q4 hsl ho2 (n _) (n _) (n _) (n _) (n _) (n _) (n _) (n _) (n _) (n _) (n _) hy P_r hL k1 D_r k3 k4 k5 k6 k7 k8 k9 (fun e => hx ((Hk _).1 e))).res (QcI _ _) rfl
  . exact ⟨fun h => absurd h.low hlow, fun _ => Qel hl hlb q0 q1 q2 q3 q4 hsl (Qa 4 _) (Qa 4 _) hy P_r (EO hyr VH hlow)⟩
theorem Qcs (P : Pt) : Kt (P.x, P.y, 1) P := ⟨by show (1 : FF) ≠ 0; decide +kernel, by show P.x = P.x * 1; grobner, by show P.y = P.y * 1; grobner⟩
theorem Qd.take {l : List Int} (h : Qd l) (n : Nat) : Qd (l.take n) := fun x hx => h x (List.mem_of_mem_take hx)
/-- A seed's secret, and its prefix. -/
def Vb (z : List Int) : List Int := E4 ((XM z).take 32)
def UM (z : List Int) : List Int := (XM z).drop 32
theorem ZX (z : List Int) : (Vb z).length = 32 := FR (by rw [List.length_take, XA]; rfl)
theorem Yf (z : List Int) : Qd (Vb z) := E3 ((ZD z).take 32)
theorem VF (z : List Int) : (UM z).length = 32 := by unfold UM; rw [List.length_drop, XA]
theorem Ex (z : List Int) : Qd (UM z) := (ZD z).drop 32
theorem FA {z : List Int} (hz : Qd z) (hl : z.length = 32) : PV Tryd.prog gS 18 [.a .u8 z 32] (.t [.a .u8 (Vb z) 32, .a .u8 (UM z) 32]) := by
  have h1 := Qgb hz hl 3 0
  have hsl := XA z
  have htl : ((XM z).take 32).length = 32 := by rw [List.length_take, hsl]; rfl
  have h2 := (Qfi htl).up Qba
  have hcl := ZX z
  have hpl := VF z
  unfold Vb UM at *
  generalize XM z = h at *
  generalize E4 (h.take 32) = s at *
  refine PV.mk' Tryd.func18 rfl rfl rfl rfl fun w L hL hG => ?_
  refine S.enter Qh [.a .u8 z 32] gS Tryd.func18 rfl rfl rfl (fun _ => rfl) hL hG ?_
  refine S.go false rfl (by repeat' (first | exact True.intro | refine And.intro ?_ ?_ | assumption | exact rfl | decide)) ?_
  refine S.cr [3, 0] rfl rfl rfl rfl rfl rfl rfl h1 ?_
  refine S.go false rfl (by repeat' (first | exact True.intro | refine And.intro ?_ ?_ | assumption | omega | (dsimp only; omega) | (simp only [Nat.add_eq, Nat.mul_eq, Nat.sub_eq, SV.wd]; omega) | exact rfl)) ?_
  refine S.drp false [(3, .a .u8 s 32)] rfl rfl rfl ?_ (by repeat' (first | exact True.intro | refine And.intro ?_ ?_ | assumption | exact rfl | decide))
  refine S.g false rfl ?_
  exact S.rett rfl rfl rfl rfl rfl
theorem HV {z : List Int} (hz : Qd z) (hl : z.length = 32) : PV Tryd.prog gS 8 [.a .u8 z 32] (.a .u8 (Q9 (Qs (kB (Vb z)) bP)) 32) := by
  have h1 := FA hz hl
  have h2 := (De (Yf z) (ZX z)).up Qba
  have hel := QF (Qs (kB (Vb z)) bP)
  have hcl := ZX z
  have hpl := VF z
  generalize Q9 (Qs (kB (Vb z)) bP) = E at *
  generalize Vb z = s at *
  generalize UM z = p at *
  refine PV.mk' Tryd.func8 rfl rfl rfl rfl fun w L hL hG => ?_
  refine S.enter Qh [.a .u8 z 32] gS Tryd.func8 rfl rfl rfl (fun _ => rfl) hL hG ?_
  refine S.go false rfl (by repeat' (first | exact True.intro | refine And.intro ?_ ?_ | assumption | omega | (dsimp only; omega) | (simp only [Nat.add_eq, Nat.mul_eq, Nat.sub_eq, SV.wd]; omega) | exact rfl)) ?_
  refine S.cv rfl rfl rfl rfl rfl rfl h1 ?_
  refine S.go false rfl (by repeat' (first | exact True.intro | refine And.intro ?_ ?_ | assumption | omega | (dsimp only; omega) | (simp only [Nat.add_eq, Nat.mul_eq, Nat.sub_eq, SV.wd]; omega) | exact rfl)) ?_
  refine S.cv rfl rfl rfl rfl rfl rfl h2 ?_
  refine S.go false rfl (by repeat' (first | exact True.intro | refine And.intro ?_ ?_ | assumption | omega | (dsimp only; omega) | (simp only [Nat.add_eq, Nat.mul_eq, Nat.sub_eq, SV.wd]; omega) | exact rfl)) ?_
  exact S.retv rfl rfl rfl rfl rfl
/-- What binds a signature to R, the key and the message. -/
def E6 (r key m : List Int) : List Int := QE (Qk (XM (r ++ (key ++ m))) 64 % QD)
theorem V2 (r key m : List Int) : (E6 r key m).length = 32 := Qw _
theorem Uv (r key m : List Int) : Qd (E6 r key m) := XS _
section
variable {a0 : Option Addr} {n0 c0 : Nat} {m : List Int} (hm : Qd m) (hml : m.length < 1000000)
include hm hml
theorem UJ {r key : List Int} (hr : Qd r) (hrl : r.length = 32) (hk : Qd key) (hkl : key.length = 32) : PV Tryd.prog (gS ++ [fB (.slice a0 n0 c0) m]) 17 [.a .u8 r 32, .a .u8 key 32, .o a0 n0 c0] (.a .u8 (E6 r key m) 32) := by
  have h1 := Qf9 (a := a0) (n := n0) (c := c0) hr hrl hk hkl hm hml 6 0 1
  have hsl := XA (r ++ (key ++ m))
  have h2 := (HM (ZD (r ++ (key ++ m))) hsl).up (G' := gS ++ [fB (.slice a0 n0 c0) m]) (fun L w h => Qba L w h.pre)
  have hcl := V2 r key m
  unfold E6 at *
  generalize XM (r ++ (key ++ m)) = D at *
  generalize QE (Qk D 64 % QD) = o at *
  refine PV.mk' Tryd.func17 rfl rfl rfl rfl fun w L hL hG => ?_
  refine S.enter Qh [.a .u8 r 32, .a .u8 key 32, .o a0 n0 c0] (gS ++ [fB (.slice a0 n0 c0) m]) Tryd.func17 rfl rfl rfl (fun _ => rfl) hL hG ?_
  refine S.go false rfl (by repeat' (first | exact True.intro | refine And.intro ?_ ?_ | assumption | omega | (dsimp only; omega) | (simp only [Nat.add_eq, Nat.mul_eq, Nat.sub_eq, SV.wd]; omega) | exact rfl)) ?_
  refine S.drq false [(4, .a .u8 D 64), (5, .a .u8 o 32)] [(4, [6, 0, 1])] rfl rfl rfl ?_ (by repeat' (first | exact True.intro | refine And.intro ?_ ?_ | assumption | exact rfl | decide))
  refine S.g false rfl ?_
  exact S.retv rfl rfl rfl rfl rfl
/-- What is drawn of the prefix and the message, and the signature's second half. -/
def JA (z m : List Int) : List Int := QE (Qk (XM (UM z ++ m)) 64 % QD)
omit hm hml in
theorem Jz (z m : List Int) : (JA z m).length = 32 := Qw _
omit hm hml in
theorem Vq (z m : List Int) : Qd (JA z m) := XS _
def XJ (z : List Int) : List Int := Q9 (Qs (kB (Vb z)) bP)
def UL (z m : List Int) : List Int := Q9 (Qs (kB (JA z m)) bP)
def sB (z m : List Int) : List Int := QE ((Qk (JA z m) 32 + Qk (E6 (UL z m) (XJ z) m) 32 * Qk (Vb z) 32) % QD)
omit hm hml in
theorem Gs (z m : List Int) : (sB z m).length = 32 := Qw _
omit hm hml in
theorem HJ (z m : List Int) : Qd (sB z m) := XS _
theorem QbO {z : List Int} (hz : Qd z) (hl : z.length = 32) : PV Tryd.prog (gS ++ [fB (.slice a0 n0 c0) m]) 9 [.a .u8 z 32, .o a0 n0 c0] (.a .u8 (UL z m ++ sB z m) 64) := by
  have gT' : ∀ L w, Hs (gS ++ [fB (.slice a0 n0 c0) m]) L w -> Hs gT L w := fun L w h => Qba L w h.pre
  have h1 := (FA hz hl).up (G' := gS ++ [fB (.slice a0 n0 c0) m]) (fun L w h => h.pre)
  have h2 := (De (Yf z) (ZX z)).up gT'
  have h3 := Qga (a := a0) (n := n0) (c := c0) (Ex z) (VF z) hm hml 5 3
  have hsl := XA (UM z ++ m)
  have h4 := (HM (ZD (UM z ++ m)) hsl).up gT'
  have h5 := (De (Vq z m) (Jz z m)).up gT'
  have h6 := UJ (a0 := a0) (n0 := n0) (c0 := c0) hm hml (XX (Qs (kB (JA z m)) bP)) (QF _) (XX (Qs (kB (Vb z)) bP)) (QF _)
  have h7 := (QcN (Uv (UL z m) (XJ z) m) (Yf z) (Vq z m) (V2 _ _ _) (ZX z) (Jz z m)).up gT'
  have q1 := ZX z; have q2 := VF z; have q3 := Jz z m; have q4 := Gs z m; have q5 : (XJ z).length = 32 := QF _; have q6 : (UL z m).length = 32 := QF _; have q7 := V2 (UL z m) (XJ z) m
  change PV _ _ _ _ (.a .u8 (sB z m) 32) at h7
  change PV _ _ _ _ (.a .u8 (XJ z) 32) at h2
  change PV _ _ _ _ (.a .u8 (UL z m) 32) at h5
  change PV _ _ _ _ (.a .u8 (JA z m) 32) at h4
  change PV _ _ _ [.a .u8 (UL z m) 32, .a .u8 (XJ z) 32, .o a0 n0 c0] _ at h6
  change PV _ _ _ _ (.a .u8 (E6 (UL z m) (XJ z) m) 32) at h6
  generalize sB z m = S2 at *
  generalize E6 (UL z m) (XJ z) m = C at *
  generalize UL z m = R at *
  generalize XJ z = E at *
  generalize JA z m = O at *
  generalize XM (UM z ++ m) = D at *
  generalize Vb z = s at *
  generalize UM z = p at *
  refine PV.mk' Tryd.func9 rfl rfl rfl rfl fun w L hL hG => ?_
  refine S.enter Qh [.a .u8 z 32, .o a0 n0 c0] (gS ++ [fB (.slice a0 n0 c0) m]) Tryd.func9 rfl rfl rfl (fun _ => rfl) hL hG ?_
  refine S.go false rfl (by repeat' (first | exact True.intro | refine And.intro ?_ ?_ | assumption | omega | (dsimp only; omega) | (simp only [Nat.add_eq, Nat.mul_eq, Nat.sub_eq, SV.wd]; omega) | exact rfl)) ?_
  refine S.cv rfl rfl rfl rfl rfl rfl h1 ?_
  refine S.go false rfl (by repeat' (first | exact True.intro | refine And.intro ?_ ?_ | assumption | omega | (dsimp only; omega) | (simp only [Nat.add_eq, Nat.mul_eq, Nat.sub_eq, SV.wd]; omega) | exact rfl)) ?_
  refine S.cv rfl rfl rfl rfl rfl rfl h2 ?_
  refine S.go false rfl (by repeat' (first | exact True.intro | refine And.intro ?_ ?_ | assumption | exact rfl | decide)) ?_
  refine S.cr [5, 3] rfl rfl rfl rfl rfl rfl rfl h3 ?_
  refine S.g false rfl ?_
  refine S.cv rfl rfl rfl rfl rfl rfl h4 ?_
  refine S.go false rfl (by repeat' (first | exact True.intro | refine And.intro ?_ ?_ | assumption | omega | (dsimp only; omega) | (simp only [Nat.add_eq, Nat.mul_eq, Nat.sub_eq, SV.wd]; omega) | exact rfl)) ?_
  refine S.cv rfl rfl rfl rfl rfl rfl h5 ?_
  refine S.go false rfl (by repeat' (first | exact True.intro | refine And.intro ?_ ?_ | assumption | omega | (dsimp only; omega) | (simp only [Nat.add_eq, Nat.mul_eq, Nat.sub_eq, SV.wd]; omega) | exact rfl)) ?_
  refine S.drp false [(3, .a .u8 C 32), (6, .a .u8 S2 32)] rfl rfl rfl ?_ (by repeat' (first | exact True.intro | refine And.intro ?_ ?_ | assumption | omega | (dsimp only; omega) | (simp only [Nat.add_eq, Nat.mul_eq, Nat.sub_eq, SV.wd]; omega) | exact rfl))
  refine S.g false rfl ?_
  refine S.dr0 false rfl rfl rfl ?_ (by repeat' (first | exact True.intro | refine And.intro ?_ ?_ | exact rfl | decide))
  refine S.g false rfl ?_
  refine S.dr0 false rfl rfl rfl ?_ (by repeat' (first | exact True.intro | refine And.intro ?_ ?_ | exact rfl | decide))
  have q8 : (R ++ S2).length = 64 := by rw [List.length_append, q6, q4]
  refine S.recell 17 [.a .u8 (R ++ S2) 64] rfl (fun ρ => congrArg (fun z => Qg ρ [SV.a .u8 z 64]) (by
    show List.take 32 (List.take 0 (List.replicate 64 (0 : Int)) ++ (List.take 32 (List.drop 0 R) ++ List.drop 32 (List.replicate 64 (0 : Int)))) ++ (List.take 32 (List.drop 0 S2) ++ List.drop 64 (List.take 0 (List.replicate 64 (0 : Int)) ++ (List.take 32 (List.drop 0 R) ++ List.drop 32 (List.replicate 64 (0 : Int))))) = R ++ S2
    have r1 : List.take 32 R = R := List.take_of_length_le (by omega)
    have r2 : List.take 32 S2 = S2 := List.take_of_length_le (by omega)
    rw [List.drop_zero, List.drop_zero, r1, r2, List.take_zero, List.nil_append, List.take_append_of_le_length (by omega), r1, List.drop_eq_nil_of_le (by simp [q6]), List.append_nil])) ⟨q8, trivial⟩ rfl ?_
  refine S.go false rfl (by repeat' (first | exact True.intro | refine And.intro ?_ ?_ | assumption | omega | (dsimp only; omega) | (simp only [Nat.add_eq, Nat.mul_eq, Nat.sub_eq, SV.wd]; omega) | exact rfl)) ?_
  exact S.retv rfl rfl rfl rfl rfl
/-- What Verify says: s isn't reduced; the key is no point; or else. -/
theorem Qbw {key sig : List Int} (hk : Qd key) (hkl : key.length = 32) (hg : Qd sig) (hgl : sig.length = 64) :
    (¬ Qk (sig.drop 32) 32 < QD -> PV Tryd.prog (gS ++ [fB (.slice a0 n0 c0) m]) 7 [.a .u8 key 32, .o a0 n0 c0, .a .u8 sig 64] (.l false)) /\
    (Qk (sig.drop 32) 32 < QD -> ¬ ZB key -> PV Tryd.prog (gS ++ [fB (.slice a0 n0 c0) m]) 7 [.a .u8 key 32, .o a0 n0 c0, .a .u8 sig 64] (.l false)) /\
    (Qk (sig.drop 32) 32 < QD -> ∀ h : ZB key, PV Tryd.prog (gS ++ [fB (.slice a0 n0 c0) m]) 7 [.a .u8 key 32, .o a0 n0 c0, .a .u8 sig 64] (.c (Q9 (Ql (Qs (kB (E6 (sig.take 32) key m)) (X6 (KI key h))) (Qs (kB (sig.drop 32)) bP)) = sig.take 32) inferInstance)) := by
  have gT' : ∀ L w, Hs (gS ++ [fB (.slice a0 n0 c0) m]) L w -> Hs gT L w := fun L w h => Qba L w h.pre
  have q1 : (sig.take 32).length = 32 := by rw [List.length_take, hgl]; rfl
  have q2 : (sig.drop 32).length = 32 := by rw [List.length_drop, hgl]
  have b1 := hg.take 32
  have b2 := hg.drop 32
  have h1 := (Qeo b2 q2).up gT'
  obtain ⟨n1, n2⟩ := QhI hk hkl
  have q3 := V2 (sig.take 32) key m
  have h3 := UJ (a0 := a0) (n0 := n0) (c0 := c0) hm hml b1 q1 hk hkl
  have start : ∀ v : SV, (∀ w L, LL L w -> Hs (gS ++ [fB (.slice a0 n0 c0) m]) L w -> CX Tryd.prog 7 (Qt Qu [.a .u8 key 32, .o a0 n0 c0, .a .u8 sig 64]) w L (fun _ : Unit => v) (fun _ => []) (fun _ => True)) -> v.wf 0 = true -> PV Tryd.prog (gS ++ [fB (.slice a0 n0 c0) m]) 7 [.a .u8 key 32, .o a0 n0 c0, .a .u8 sig 64] v := fun v H hw => PV.mk' Tryd.func7 rfl rfl rfl hw H
  refine ⟨fun hs => ?_, fun hs hp => ?_, fun hs hp => ?_⟩
  . refine start _ (fun w L hL hG => ?_) rfl
    refine S.enter Qh [.a .u8 key 32, .o a0 n0 c0, .a .u8 sig 64] (gS ++ [fB (.slice a0 n0 c0) m]) Tryd.func7 rfl rfl rfl (fun _ => rfl) hL hG ?_
    refine S.go false rfl (by repeat' (first | exact True.intro | refine And.intro ?_ ?_ | assumption | omega | (dsimp only; omega) | (simp only [Nat.add_eq, Nat.mul_eq, Nat.sub_eq, SV.wd]; omega) | exact rfl)) ?_
    refine S.dr0 false rfl rfl rfl ?_ (by repeat' (first | exact True.intro | refine And.intro ?_ ?_ | assumption | exact rfl | decide))
    refine S.g false rfl ?_
    refine S.cv rfl rfl rfl rfl rfl rfl h1 ?_
    refine S.g false rfl ?_
    refine S.condT rfl hs ?_
    refine S.g false rfl ?_
    exact S.retv rfl rfl rfl rfl rfl
  . refine start _ (fun w L hL hG => ?_) rfl
    refine S.enter Qh [.a .u8 key 32, .o a0 n0 c0, .a .u8 sig 64] (gS ++ [fB (.slice a0 n0 c0) m]) Tryd.func7 rfl rfl rfl (fun _ => rfl) hL hG ?_
    refine S.go false rfl (by repeat' (first | exact True.intro | refine And.intro ?_ ?_ | assumption | omega | (dsimp only; omega) | (simp only [Nat.add_eq, Nat.mul_eq, Nat.sub_eq, SV.wd]; omega) | exact rfl)) ?_
    refine S.dr0 false rfl rfl rfl ?_ (by repeat' (first | exact True.intro | refine And.intro ?_ ?_ | assumption | exact rfl | decide))
    refine S.g false rfl ?_
    refine S.cv rfl rfl rfl rfl rfl rfl h1 ?_
    refine S.g false rfl ?_
    refine S.condF rfl (fun h => h hs) ?_
    refine S.g false rfl ?_
    refine S.cv rfl rfl rfl rfl rfl rfl ((n2 hp).up gT') ?_
    refine S.go false rfl (by repeat' (first | exact True.intro | refine And.intro ?_ ?_ | assumption | omega | (dsimp only; omega) | (simp only [Nat.add_eq, Nat.mul_eq, Nat.sub_eq, SV.wd]; omega) | exact rfl)) ?_
    refine S.condT rfl (by decide) ?_
    refine S.g false rfl ?_
    exact S.retv rfl rfl rfl rfl rfl
  . have hN := (n1 hp).up gT'
    obtain ⟨m1, -⟩ := QhK (a := E6 (sig.take 32) key m) (b := sig.drop 32) (p := Q9 (X6 (KI key hp))) (Uv _ _ _) (V2 _ _ _) b2 q2 (XX _) (QF _)
    have hM := (m1 (GS _)).up gT'
    rw [Qaa] at hM
    have q4 := QF (X6 (KI key hp))
    have q5 := QF (Ql (Qs (kB (E6 (sig.take 32) key m)) (X6 (KI key hp))) (Qs (kB (sig.drop 32)) bP))
    generalize Q9 (Ql (Qs (kB (E6 (sig.take 32) key m)) (X6 (KI key hp))) (Qs (kB (sig.drop 32)) bP)) = E at *
    generalize Q9 (X6 (KI key hp)) = K2 at *
    generalize E6 (sig.take 32) key m = C at *
    refine start _ (fun w L hL hG => ?_) rfl
    refine S.enter Qh [.a .u8 key 32, .o a0 n0 c0, .a .u8 sig 64] (gS ++ [fB (.slice a0 n0 c0) m]) Tryd.func7 rfl rfl rfl (fun _ => rfl) hL hG ?_
    refine S.go false rfl (by repeat' (first | exact True.intro | refine And.intro ?_ ?_ | assumption | omega | (dsimp only; omega) | (simp only [Nat.add_eq, Nat.mul_eq, Nat.sub_eq, SV.wd]; omega) | exact rfl)) ?_
    refine S.dr0 false rfl rfl rfl ?_ (by repeat' (first | exact True.intro | refine And.intro ?_ ?_ | assumption | exact rfl | decide))
    refine S.g false rfl ?_
    refine S.cv rfl rfl rfl rfl rfl rfl h1 ?_
    refine S.g false rfl ?_
    refine S.condF rfl (fun h => h hs) ?_
    refine S.g false rfl ?_
    refine S.cv rfl rfl rfl rfl rfl rfl hN ?_
    refine S.go false rfl (by repeat' (first | exact True.intro | refine And.intro ?_ ?_ | assumption | omega | (dsimp only; omega) | (simp only [Nat.add_eq, Nat.mul_eq, Nat.sub_eq, SV.wd]; omega) | exact rfl)) ?_
    refine S.condF rfl (by decide) ?_
    refine S.g false rfl ?_
    refine S.drp false [(3, .a .u8 C 32), (6, .t [.a .u8 E 32, .i .i64 0])] rfl rfl rfl ?_ (by repeat' (first | exact True.intro | refine And.intro ?_ ?_ | assumption | omega | (dsimp only; omega) | (simp only [Nat.add_eq, Nat.mul_eq, Nat.sub_eq, SV.wd]; omega) | exact rfl))
    refine S.gn 5 false rfl ?_
    refine S.rd 40 (.l true) rfl (fun _ => rfl) ?_
    refine S.go false rfl (by repeat' (first | exact True.intro | refine And.intro ?_ ?_ | assumption | omega | (dsimp only; omega) | (simp only [Nat.add_eq, Nat.mul_eq, Nat.sub_eq, SV.wd]; omega) | exact rfl)) ?_
    exact S.retv rfl rfl rfl rfl rfl
end
end Go.Proofs.YtbiboamaigedjaaDoor
namespace Go.Proofs.YtbiboamaigedjaaDoor
open Go.RowKit
set_option maxRecDepth 100000
set_option linter.unusedSimpArgs false
set_option linter.unusedVariables false
theorem G6 : Kt (Da, E9, 1) bP := ⟨by show (1 : FF) ≠ 0; decide +kernel, by show Da = Da * 1; decide +kernel, by show E9 = E9 * 1; decide +kernel⟩
theorem Qam : (Xg (Da, E9, 1) 253 lN).1 = 0 /\ (Xg (Da, E9, 1) 253 lN).2.1 = (Xg (Da, E9, 1) 253 lN).2.2 := by decide +kernel
theorem F1 : Qs lN bP = QS := QaU (YQ G6 253 lN (by decide +kernel)) Qam.1 Qam.2
theorem DI : QD = (lN : Int) := by decide +kernel
theorem Qea (n : Nat) : Qs (n % lN) bP = Qs n bP := by
  have h := Xt (lN * (n / lN)) bP (n % lN)
  rw [Nat.div_add_mod] at h
  rw [h, Nat.mul_comm, ZV, F1, YZ, Zf]
theorem GN {l : List Int} (h : Qd l) : ((kB l : Nat) : Int) = Qk l 32 := by
  have := Xw l h
  unfold kB; omega
theorem QbS (z m : List Int) : Qk (sB z m) 32 = (Qk (JA z m) 32 + Qk (E6 (UL z m) (XJ z) m) 32 * Qk (Vb z) 32) % QD := by
  unfold sB
  exact ZU _ (by unfold QD; omega) (by unfold QD; omega)
theorem QfH (z m : List Int) : Qk (sB z m) 32 < QD := by rw [QbS]; unfold QD; omega
theorem Qhx (z m : List Int) : kB (sB z m) = (kB (JA z m) + kB (E6 (UL z m) (XJ z) m) * kB (Vb z)) % lN := by
  have h := QbS z m
  rw [<- GN (HJ z m), <- GN (Vq z m), <- GN (Uv _ _ _), <- GN (Yf z), DI, <- Int.natCast_mul, <- Int.natCast_add, <- Int.natCast_emod] at h
  exact Int.ofNat.inj h
theorem vrf (c a n : Nat) (o : Pt) : Ql (Qs c (X6 (Qs a bP))) (Qs ((n + c * a) % lN) bP) = Qs n bP := by
  rw [Qea, Xt, HH, <- ZV, ZZ (Qs n bP), <- QV, VL, Zf]
theorem QcZ (z : List Int) (h : ZB (XJ z)) : KI (XJ z) h = Qs (kB (Vb z)) bP := Qaa _ h
theorem QeZ (z m : List Int) (h : ZB (XJ z)) : Q9 (Ql (Qs (kB (E6 (UL z m) (XJ z) m)) (X6 (KI (XJ z) h))) (Qs (kB (sB z m)) bP)) = UL z m := by
  rw [QcZ, Qhx, vrf _ _ _ QS]
  rfl
theorem DF {c : FF × FF × FF} {P Q : Pt} (h : Kt c P) (hx : c.1 = Q.x * c.2.2) (hy : c.2.1 = Q.y * c.2.2) : P = Q := by
  obtain ⟨h0, h1, h2⟩ := h
  refine Pt.ext (E7 h0 ?_) (E7 h0 ?_)
  . rw [h1] at hx; grobner
  . rw [h2] at hy; grobner
def z0 : List Int := [157, 97, 177, 157, 239, 253, 90, 96, 186, 132, 74, 244, 146, 236, 44, 196, 68, 73, 197, 105, 123, 50, 105, 25, 112, 59, 172, 3, 28, 174, 127, 96]
theorem Jh : Qd z0 := by intro x hx; revert x; decide
def QaL : List Int := [48, 124, 131, 134, 79, 40, 51, 203, 66, 122, 46, 241, 192, 10, 1, 60, 253, 255, 39, 104, 217, 128, 192, 163, 165, 32, 240, 6, 144, 77, 233, 79]
def Qiy : List Int := [155, 79, 10, 254, 40, 11, 116, 106, 119, 134, 132, 231, 84, 66, 80, 32, 87, 183, 71, 58, 3, 240, 143, 150, 245, 163, 142, 146, 135, 224, 31, 143]
theorem Dr : Vb z0 = QaL := by decide +kernel
theorem Qey : UM z0 = Qiy := by decide +kernel
def A0 : Pt := ⟨38815646466658113194383306759739515082307681141926459231621296960732224964046, 11903303657706407974989296177215005343713679411332034699907763981919547054807, by unfold On; decide +kernel⟩
theorem Hf : kB QaL < 2 ^ 256 /\ (Xg (Da, E9, 1) 256 (kB QaL)).1 = A0.x * (Xg (Da, E9, 1) 256 (kB QaL)).2.2 /\ (Xg (Da, E9, 1) 256 (kB QaL)).2.1 = A0.y * (Xg (Da, E9, 1) 256 (kB QaL)).2.2 := by decide +kernel
def QhO : List Int := [215, 90, 152, 1, 130, 177, 10, 183, 213, 75, 254, 211, 201, 100, 7, 58, 14, 225, 114, 243, 218, 166, 35, 37, 175, 2, 26, 104, 247, 7, 81, 26]
theorem DU : XJ z0 = QhO := by
  unfold XJ
  rw [Dr, DF (YQ G6 256 _ Hf.1) Hf.2.1 Hf.2.2]
  decide +kernel
def Qa1 : List Int := [243, 137, 7, 48, 140, 137, 61, 234, 242, 68, 120, 125, 180, 175, 83, 104, 34, 73, 16, 116, 24, 175, 194, 237, 197, 143, 117, 172, 88, 160, 116, 4]
theorem DM : JA z0 [] = Qa1 := by
  unfold JA
  rw [Qey]
  decide +kernel
def R0 : Pt := ⟨44370630452101398467924320556439323233869374150616132215183787387252341590058, 38448863731492799660668882834560725606410712239157980760146247592118262650597, by unfold On; decide +kernel⟩
theorem Hc : kB Qa1 < 2 ^ 256 /\ (Xg (Da, E9, 1) 256 (kB Qa1)).1 = R0.x * (Xg (Da, E9, 1) 256 (kB Qa1)).2.2 /\ (Xg (Da, E9, 1) 256 (kB Qa1)).2.1 = R0.y * (Xg (Da, E9, 1) 256 (kB Qa1)).2.2 := by decide +kernel
def r0 : List Int := [229, 86, 67, 0, 195, 96, 172, 114, 144, 134, 226, 204, 128, 110, 130, 138, 132, 135, 127, 30, 184, 229, 217, 116, 216, 115, 224, 101, 34, 73, 1, 85]
theorem QfJ : UL z0 [] = r0 := by
  unfold UL
  rw [DM, DF (YQ G6 256 _ Hc.1) Hc.2.1 Hc.2.2]
  decide +kernel
def s0 : List Int := [95, 184, 130, 21, 144, 163, 59, 172, 198, 30, 57, 112, 28, 249, 180, 107, 210, 91, 245, 240, 89, 91, 190, 36, 101, 81, 65, 67, 142, 122, 16, 11]
theorem Qhy : sB z0 [] = s0 := by
  unfold sB
  rw [DM, QfJ, DU, Dr]
  decide +kernel
end Go.Proofs.YtbiboamaigedjaaDoor
namespace Go.Proofs.YtbiboamaigedjaaDoor
open Go.RowKit
set_option linter.unusedVariables false
set_option linter.unusedSimpArgs false
set_option maxRecDepth 8000
set_option maxHeartbeats 2000000

theorem QgT (L : List Nat) (w : World) : (fB (.slice none 0 0) []).h L w := ⟨⟨by omega, by simp, none, 0, rfl, by simp, by simp [maxLen], by simp, fun h => absurd rfl h⟩, fun a n c e _ => by simp only [Value.slice.injEq] at e; exact e.2.2.symm⟩
section
variable {a0 : Option Addr} {n0 c0 : Nat} {m : List Int} (hm : Qd m) (hml : m.length < 1000000)
include hm hml
theorem Qbx (z : List Int) (hz : Qd z) (hl : z.length = 32) : PV Tryd.prog (gS ++ [fB (.slice a0 n0 c0) m]) 7 [.a .u8 (XJ z) 32, .o a0 n0 c0, .a .u8 (UL z m ++ sB z m) 64] (.l true) := by
  have q6 : (UL z m).length = 32 := QF _
  have q7 := Gs z m
  have e1 : (UL z m ++ sB z m).take 32 = UL z m := by rw [List.take_append_of_le_length (by omega), List.take_of_length_le (by omega)]
  have e2 : (UL z m ++ sB z m).drop 32 = sB z m := by rw [List.drop_append_of_le_length (by omega), List.drop_eq_nil_of_le (by omega), List.nil_append]
  have hb : Qd (UL z m ++ sB z m) := fun x hx => (List.mem_append.1 hx).elim (XX _ x) (HJ z m x)
  obtain ⟨-, -, h3⟩ := Qbw (a0 := a0) (n0 := n0) (c0 := c0) hm hml (key := XJ z) (sig := UL z m ++ sB z m) (XX _) (QF _) hb (by rw [List.length_append]; omega)
  rw [e1, e2] at h3
  have hk : ZB (XJ z) := GS _
  have h := h3 (QfH z m) hk
  exact h.res (by simp only [SV.den]; rw [decide_eq_true (QeZ z m hk)]) rfl
end
set_option maxHeartbeats 2000000 in
theorem Qfx : PV Tryd.prog gS 6 [] (.l true) := by
  have hP := (HV Jh rfl).up (G' := gS ++ [fB (.slice none 0 0) []]) (fun L w h => h.pre)
  have hS := QbO (a0 := none) (n0 := 0) (c0 := 0) (m := []) (by intro x hx; cases hx) (by simp) Jh rfl
  have hV := Qbx (a0 := none) (n0 := 0) (c0 := 0) (m := []) (by intro x hx; cases hx) (by simp) z0 Jh rfl
  change PV _ _ _ _ (.a .u8 (XJ z0) 32) at hP
  rw [DU] at hP hV
  rw [QfJ, Qhy] at hS hV
  refine PV.mk' Tryd.func6 rfl rfl rfl rfl fun w L hL hG => ?_
  refine S.enter Qh [] (gS ++ [fB (.slice none 0 0) []]) Tryd.func6 rfl rfl rfl (fun _ => rfl) hL (hG.app ⟨QgT _ _, trivial⟩) ?_
  refine S.g false rfl ?_
  refine S.recell 0 [.a .u8 z0 32] rfl (fun ρ => rfl) ⟨rfl, trivial⟩ rfl ?_
  refine S.drp false [(1, .a .u8 QhO 32), (3, .a .u8 (r0 ++ s0) 64)] rfl rfl rfl ?_ (by repeat' (first | exact True.intro | refine And.intro ?_ ?_ | assumption | exact rfl | decide))
  refine S.gn 6 false rfl ?_ (by repeat' (first | exact True.intro | refine And.intro ?_ ?_ | assumption | exact rfl | decide))
  refine S.rd 12 (.l true) rfl (fun _ => rfl) ?_
  refine S.gn 5 false rfl ?_ (by repeat' (first | exact True.intro | refine And.intro ?_ ?_ | assumption | exact rfl | decide))
  refine S.rd 17 (.l true) rfl (fun _ => rfl) ?_
  refine S.gn 5 false rfl ?_ (by repeat' (first | exact True.intro | refine And.intro ?_ ?_ | assumption | exact rfl | decide))
  refine S.rd 22 (.l true) rfl (fun _ => rfl) ?_
  refine S.gn 5 false rfl ?_ (by repeat' (first | exact True.intro | refine And.intro ?_ ?_ | assumption | exact rfl | decide))
  refine S.rd 27 (.l true) rfl (fun _ => rfl) ?_
  refine S.gn 5 false rfl ?_ (by repeat' (first | exact True.intro | refine And.intro ?_ ?_ | assumption | exact rfl | decide))
  refine S.rd 32 (.l true) rfl (fun _ => rfl) ?_
  refine S.gn 5 false rfl ?_ (by repeat' (first | exact True.intro | refine And.intro ?_ ?_ | assumption | exact rfl | decide))
  refine S.rd 37 (.l true) rfl (fun _ => rfl) ?_
  refine S.gn 5 false rfl ?_ (by repeat' (first | exact True.intro | refine And.intro ?_ ?_ | assumption | exact rfl | decide))
  refine S.rd 42 (.l true) rfl (fun _ => rfl) ?_
  refine S.go false rfl (by repeat' (first | exact True.intro | refine And.intro ?_ ?_ | assumption | exact rfl | decide)) ?_
  refine S.cv rfl rfl rfl rfl rfl rfl hV ?_
  refine S.g false rfl ?_
  exact S.retv rfl rfl rfl rfl rfl
theorem Qic : Qc 4 QD = [6346243789798364141, 1503914060200516822, 0, 1152921504606846976] := by decide +kernel
theorem L_f : PV Tryd.prog gT 11 [] (.a .u64 (Qc 4 QD) 4) := by
  have h : PV Tryd.prog gT 11 [] (.g [.i .u64 6346243789798364141, .i .u64 1503914060200516822, .i .u64 0, .i .u64 1152921504606846976]) := by
    refine PV.mk' Tryd.func11 rfl rfl rfl rfl fun w L hL hG => ?_
    refine S.enter Qh [] gT Tryd.func11 rfl rfl rfl (fun _ => rfl) hL hG ?_
    refine S.go false rfl (by repeat' (first | exact True.intro | refine And.intro ?_ ?_ | assumption | omega | (dsimp only; omega) | (simp only [Nat.add_eq, Nat.mul_eq, Nat.sub_eq, SV.wd]; omega) | exact rfl)) ?_
    exact S.retv rfl rfl rfl rfl rfl
  rw [Qic]
  exact h.res rfl rfl
theorem EB : 0 <= QD /\ QD < 2 ^ 256 := by unfold QD; omega
theorem Qep {b : List Int} (hb : Qd b) (hl : b.length = 32) : PV Tryd.prog gT 13 [.a .u8 b 32] (.l (decide (Qk b 32 < QD))) := by
  have h1 := QcT hb hl
  have h2 := L_f
  have h3 := EN (Xw b hb) EB
  have l1 := Qa 4 (Qk b 32); have l2 := Qa 4 QD
  generalize Qc 4 (Qk b 32) = x at *
  generalize Qc 4 QD = o at *
  generalize decide (Qk b 32 < QD) = r at *
  refine PV.mk' Tryd.func13 rfl rfl rfl rfl fun w L hL hG => ?_
  refine S.enter Qh [.a .u8 b 32] gT Tryd.func13 rfl rfl rfl (fun _ => rfl) hL hG ?_
  refine S.go false rfl (by repeat' (first | exact True.intro | refine And.intro ?_ ?_ | assumption | omega | (dsimp only; omega) | (simp only [Nat.add_eq, Nat.mul_eq, Nat.sub_eq, SV.wd]; omega) | exact rfl)) ?_
  refine S.cv rfl rfl rfl rfl rfl rfl h1 ?_
  refine S.go false rfl (by repeat' (first | exact True.intro | refine And.intro ?_ ?_ | assumption | omega | (dsimp only; omega) | (simp only [Nat.add_eq, Nat.mul_eq, Nat.sub_eq, SV.wd]; omega) | exact rfl)) ?_
  refine S.cv rfl rfl rfl rfl rfl rfl h2 ?_
  refine S.go false rfl (by repeat' (first | exact True.intro | refine And.intro ?_ ?_ | assumption | omega | (dsimp only; omega) | (simp only [Nat.add_eq, Nat.mul_eq, Nat.sub_eq, SV.wd]; omega) | exact rfl)) ?_
  refine S.cv rfl rfl rfl rfl rfl rfl h3 ?_
  refine S.go false rfl (by repeat' (first | exact True.intro | refine And.intro ?_ ?_ | assumption | omega | (dsimp only; omega) | (simp only [Nat.add_eq, Nat.mul_eq, Nat.sub_eq, SV.wd]; omega) | exact rfl)) ?_
  exact S.retv rfl rfl rfl rfl rfl
theorem Qd6 {k b : List Int} (hk : Qd k) (hkl : k.length = 32) (hb : Qd b) (hl : b.length = 32) (h : ZB b) : PV Tryd.prog gT 12 [.a .u8 k 32, .a .u8 b 32] (.t [.a .u8 (Q9 (Qs (kB k) (KI b h))) 32, .i .i64 0]) := by
  have h1 := (Qgi hb hl).1 h
  have h2 := QgE hk hkl (xF b, yF b, 1)
  have h3 := Qfk (YQ (Qcs (KI b h)) 256 (kB k) (QfP hk))
  change PV _ _ _ [np (Xg (xF b, yF b, 1) 256 (kB k))] _ at h3
  have hel := QF (Qs (kB k) (KI b h))
  unfold np at h1 h2 h3
  have n := fun v => Qa 4 v
  have l1 := n ((Xg (xF b, yF b, 1) 256 (kB k)).1.val : Int); have l2 := n ((Xg (xF b, yF b, 1) 256 (kB k)).2.1.val : Int); have l3 := n ((Xg (xF b, yF b, 1) 256 (kB k)).2.2.val : Int)
  generalize Qc 4 ((Xg (xF b, yF b, 1) 256 (kB k)).1.val : Int) = X at *
  generalize Qc 4 ((Xg (xF b, yF b, 1) 256 (kB k)).2.1.val : Int) = Y at *
  generalize Qc 4 ((Xg (xF b, yF b, 1) 256 (kB k)).2.2.val : Int) = Z at *
  generalize Q9 (Qs (kB k) (KI b h)) = r at *
  dsimp only at h1 h2
  have l4 := n ((xF b).val : Int); have l5 := n ((yF b).val : Int); have l6 := n ((1 : FF).val : Int)
  generalize Qc 4 ((xF b).val : Int) = x at *
  generalize Qc 4 ((yF b).val : Int) = y at *
  generalize Qc 4 ((1 : FF).val : Int) = o at *
  refine PV.mk' Tryd.func12 rfl rfl rfl rfl fun w L hL hG => ?_
  refine S.enter Qh [.a .u8 k 32, .a .u8 b 32] gT Tryd.func12 rfl rfl rfl (fun _ => rfl) hL hG ?_
  refine S.go false rfl (by repeat' (first | exact True.intro | refine And.intro ?_ ?_ | assumption | omega | (dsimp only; omega) | (simp only [Nat.add_eq, Nat.mul_eq, Nat.sub_eq, SV.wd]; omega) | exact rfl)) ?_
  refine S.cv rfl rfl rfl rfl rfl rfl h1 ?_
  refine S.go false rfl (by repeat' (first | exact True.intro | refine And.intro ?_ ?_ | assumption | omega | (dsimp only; omega) | (simp only [Nat.add_eq, Nat.mul_eq, Nat.sub_eq, SV.wd]; omega) | exact rfl)) ?_
  refine S.cv rfl rfl rfl rfl rfl rfl h2 ?_
  refine S.go false rfl (by repeat' (first | exact True.intro | refine And.intro ?_ ?_ | assumption | omega | (dsimp only; omega) | (simp only [Nat.add_eq, Nat.mul_eq, Nat.sub_eq, SV.wd]; omega) | exact rfl)) ?_
  refine S.cv rfl rfl rfl rfl rfl rfl h3 ?_
  refine S.go false rfl (by repeat' (first | exact True.intro | refine And.intro ?_ ?_ | assumption | omega | (dsimp only; omega) | (simp only [Nat.add_eq, Nat.mul_eq, Nat.sub_eq, SV.wd]; omega) | exact rfl)) ?_
  exact S.rett rfl rfl rfl rfl rfl
/-- The latter half, as far as it has been taken. -/
def hfB (s : List Int) (k : Nat) : List Int := (List.range 32).map fun j => if j < k then Qb s j else 0
theorem U5 (s : List Int) (k : Nat) : (hfB s k).length = 32 := by simp [hfB]
theorem Qc3 (s : List Int) : hfB s 0 = List.replicate 32 0 := by
  unfold hfB
  refine List.ext_getElem (by simp) fun j q1 q2 => ?_
  simp only [List.getElem_map, List.getElem_range, Nat.not_lt_zero, if_false, List.getElem_replicate]
theorem Qe0 {s : List Int} (h : s.length = 32) : hfB s 32 = s := by
  unfold hfB
  refine List.ext_getElem (by simp [h]) fun j q1 q2 => ?_
  simp only [List.getElem_map, List.getElem_range]
  rw [if_pos (by omega)]
  simp [Qb, List.getElem?_eq_getElem q2]
theorem Qc4 {R s : List Int} (hR : R.length = 32) {k : Nat} (hk : k < 32) : (hfB s k).set (Int.toNat (k : Int)) ((R ++ s).getD (Int.toNat (32 + (k : Int))) 0) = hfB s (k + 1) := by
  have e : Int.toNat (32 + (k : Int)) = 32 + k := by omega
  have hat : (R ++ s).getD (32 + k) 0 = Qb s k := by
    rw [Qx]
    unfold Qb
    rw [List.getElem?_append_right (by omega), hR, show 32 + k - 32 = k by omega]
  rw [e, hat, Int.toNat_natCast]
  refine Xb hk (fun j hj hne => ?_) ?_
  . by_cases h : j < k
    . rw [if_pos (by omega), if_pos h]
    . rw [if_neg (by omega), if_neg h]
  . rw [if_pos (by omega)]
theorem QgJ : kB (QE QD) = lN := by
  have h := ZU QD EB.1 EB.2
  unfold kB
  rw [h, DI]
  rfl
theorem Qc9 : Q9 QS = 1 :: List.replicate 31 0 := by decide +kernel
theorem QeU (z : List Int) (h : ZB (XJ z)) : Q9 (Qs (kB (QE QD)) (KI (XJ z) h)) = 1 :: List.replicate 31 0 := by
  rw [QgJ, QcZ, <- ZV, Nat.mul_comm, ZV, F1, YZ, Qc9]
set_option maxHeartbeats 1000000 in
theorem QgI {z m : List Int} (hz : Qd z) (hl : z.length = 32) (hm : Qd m) {a0 : Option Addr} {n0 c0 : Nat} (hn : n0 = m.length) : PV Tryd.prog (gS ++ [fB (.slice a0 n0 c0) m]) 5 [.a .u8 z 32, .o a0 n0 c0] (.l true) := by
  have hA := Qfx.up (G' := (gS ++ [fB (.slice a0 n0 c0) m])) (fun L w h => h.pre)
  refine PV.mk' Tryd.func5 rfl rfl rfl rfl fun w L hL hG => ?_
  refine S.enter Qh [.a .u8 z 32, .o a0 n0 c0] (gS ++ [fB (.slice a0 n0 c0) m]) Tryd.func5 rfl rfl rfl (fun _ => rfl) hL hG ?_
  refine S.go false rfl (by repeat' (first | exact True.intro | refine And.intro ?_ ?_ | assumption | omega | (dsimp only; omega) | (simp only [Nat.add_eq, Nat.mul_eq, Nat.sub_eq, SV.wd]; omega) | exact rfl)) ?_
  refine S.cv rfl rfl rfl rfl rfl rfl hA ?_
  refine S.g false rfl ?_
  refine S.cond rfl (fun c => ?_) (fun c => ?_)
  . refine S.g false rfl ?_
    exact S.retv rfl rfl rfl rfl rfl
  . have hml : m.length < 1000000 := by omega
    have up : ∀ L w, Hs (gS ++ [fB (.slice a0 n0 c0) m]) L w -> Hs gT L w := fun L w h => Qba L w h.pre
    have hP := (HV hz hl).up (G' := (gS ++ [fB (.slice a0 n0 c0) m])) (fun L w h => h.pre)
    have hS := QbO (a0 := a0) (n0 := n0) (c0 := c0) hm hml hz hl
    change PV _ _ _ _ (.a .u8 (XJ z) 32) at hP
    have hL1 := L_f.up up
    have hB1 := (Qaf QD).up up
    have hpt : ZB (XJ z) := GS _
    have hkb : Qd (XJ z) := XX _
    have hT := (Qd6 (XS QD) (Qw QD) hkb (QF _) hpt).up up
    rw [QeU] at hT
    have hR := (Qep (b := sB z m) (XS _) (Gs z m)).up up
    rw [decide_eq_true (QfH z m)] at hR
    have hrl : (UL z m).length = 32 := QF _
    have hkl : (XJ z).length = 32 := QF _
    have hsl := Gs z m
    have hol := Qa 4 QD
    have hnl := Qw QD
    generalize XJ z = K at *
    generalize UL z m = R at *
    generalize sB z m = s at *
    generalize Qc 4 QD = o4 at *
    generalize QE QD = ob at *
    have hgl : (R ++ s).length = 64 := by rw [List.length_append]; omega
    refine S.go false rfl (by repeat' (first | exact True.intro | refine And.intro ?_ ?_ | assumption | omega | (dsimp only; omega) | (simp only [Nat.add_eq, Nat.mul_eq, Nat.sub_eq, SV.wd]; omega) | exact rfl)) ?_
    refine S.drp false [(1, .a .u8 K 32), (4, .a .u8 (R ++ s) 64)] rfl rfl rfl ?_ (by repeat' (first | exact True.intro | refine And.intro ?_ ?_ | assumption | omega | (dsimp only; omega) | (simp only [Nat.add_eq, Nat.mul_eq, Nat.sub_eq, SV.wd]; omega) | exact rfl))
    refine S.go false rfl (by repeat' (first | exact True.intro | refine And.intro ?_ ?_ | assumption | omega | (dsimp only; omega) | (simp only [Nat.add_eq, Nat.mul_eq, Nat.sub_eq, SV.wd]; omega) | exact rfl)) ?_
    refine S.recell 10 [.a .u8 (hfB s 0) 32] rfl (fun ρ => by rw [Qc3]) ⟨U5 s 0, trivial⟩ rfl ?_
    refine S.loop [4, 5, 6, 7] (fun k : Nat => [(8, .i .i64 (k : Int))]) (fun k => [(0, [.a .u8 z 32]), (6, [.a .u8 K 32]), (7, [.a .u8 (R ++ s) 64]), (10, [.a .u8 (hfB s k) 32])]) (fun _ => []) (fun k => k <= 32) (fun k => 32 - k) 0 rfl (fun _ => rfl) (fun _ => rfl) rfl ⟨⟨rfl, rfl⟩, trivial⟩ (by repeat' (first | exact True.intro | refine And.intro ?_ ?_ | exact U5 s 0 | assumption | exact rfl)) (fun _ _ _ => trivial) (by omega) fun J k hk again => ?_
    have hk' : k <= 32 := hk
    have hlen := U5 s k
    have hlen' := U5 s (k + 1)
    refine S.g false rfl ?_
    refine S.cond rfl (fun c5 => ?_) (fun c5 => ?_)
    . have c' : k < 32 := by omega
      refine S.go false rfl (by repeat' (first | exact True.intro | refine And.intro ?_ ?_ | omega | (dsimp only; omega) | (simp only [Nat.add_eq, Nat.mul_eq, Nat.sub_eq, SV.wd]; omega) | exact rfl)) ?_
      refine S.again (again (k + 1) (show k + 1 <= 32 by omega) (show 32 - (k + 1) < 32 - k by omega)) ⟨⟨rfl, by omega⟩, rfl, rfl, rfl, rfl, trivial⟩ ?_ rfl rfl (fun x hx => hx) rfl (fun ρ W h => h.hs)
      repeat' (first | exact True.intro | refine And.intro ?_ ?_ | exact congrArg (fun z => SV.a .u8 z 32) (Qc4 hrl c') | exact hlen' | exact hgl | exact hkl | exact hl | exact rfl)
    . obtain rfl : k = 32 := by omega
      rw [Qe0 hsl] at hlen ⊢
      refine S.go false rfl (by repeat' (first | exact True.intro | refine And.intro ?_ ?_ | assumption | omega | (dsimp only; omega) | (simp only [Nat.add_eq, Nat.mul_eq, Nat.sub_eq, SV.wd]; omega) | exact rfl)) ?_
      refine S.cv rfl rfl rfl rfl rfl rfl hL1 ?_
      refine S.go false rfl (by repeat' (first | exact True.intro | refine And.intro ?_ ?_ | assumption | omega | (dsimp only; omega) | (simp only [Nat.add_eq, Nat.mul_eq, Nat.sub_eq, SV.wd]; omega) | exact rfl)) ?_
      refine S.cv rfl rfl rfl rfl rfl rfl hB1 ?_
      refine S.go false rfl (by repeat' (first | exact True.intro | refine And.intro ?_ ?_ | assumption | omega | (dsimp only; omega) | (simp only [Nat.add_eq, Nat.mul_eq, Nat.sub_eq, SV.wd]; omega) | exact rfl)) ?_
      refine S.cv rfl rfl rfl rfl rfl rfl hT ?_
      refine S.go false rfl (by repeat' (first | exact True.intro | refine And.intro ?_ ?_ | assumption | omega | (dsimp only; omega) | (simp only [Nat.add_eq, Nat.mul_eq, Nat.sub_eq, SV.wd]; omega) | exact rfl)) ?_
      refine S.rd 42 (.l true) rfl (fun _ => rfl) ?_
      refine S.go false rfl (by repeat' (first | exact True.intro | refine And.intro ?_ ?_ | assumption | omega | (dsimp only; omega) | (simp only [Nat.add_eq, Nat.mul_eq, Nat.sub_eq, SV.wd]; omega) | exact rfl)) ?_
      refine S.rd 44 (.a .u8 (1 :: List.replicate 31 0) 32) rfl (fun _ => rfl) ?_
      refine S.go false rfl (by repeat' (first | exact True.intro | refine And.intro ?_ ?_ | assumption | omega | (dsimp only; omega) | (simp only [Nat.add_eq, Nat.mul_eq, Nat.sub_eq, SV.wd]; omega) | exact rfl)) ?_
      refine S.rd 47 (.l true) rfl (fun _ => by simp only [SV.den, decide_true]) ?_
      refine S.go false rfl (by repeat' (first | exact True.intro | refine And.intro ?_ ?_ | assumption | omega | (dsimp only; omega) | (simp only [Nat.add_eq, Nat.mul_eq, Nat.sub_eq, SV.wd]; omega) | exact rfl)) ?_
      refine S.cv rfl rfl rfl rfl rfl rfl hR ?_
      refine S.go false rfl (by repeat' (first | exact True.intro | refine And.intro ?_ ?_ | assumption | omega | (dsimp only; omega) | (simp only [Nat.add_eq, Nat.mul_eq, Nat.sub_eq, SV.wd]; omega) | exact rfl)) ?_
      exact S.retv rfl rfl rfl rfl rfl
theorem FJ (z : List Int) (v : Value) (m : List Int) (W : World) (hT : Hs gS [] W) (hz : Qd z) (hl : z.length = 32) (hr : Ue .u8 W v m) (hm : Qd m) : Calls Tryd.prog 5 #[Xa .u8 z, v] W fun e W' => e = .returned (.bool true) /\ Below W.heap.size W W' := by
  obtain ⟨a, c, rfl, hf⟩ := QhU hr
  refine Calls.mono ((QgI hz hl hm (a0 := a) (c0 := c) rfl).h W [] (fun x h => by cases h) (hT.app ⟨hf, trivial⟩)) fun e W' ⟨u, he, ⟨x, hx, _⟩, hb⟩ => ⟨by rw [he, hx]; rfl, hb⟩
end Go.Proofs.YtbiboamaigedjaaDoor
