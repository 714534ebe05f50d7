/- The reference's curve, walked by the machine of symbols: bytes, reading. The reference's curve, walked by the machine of symbols: reading, negatives,  -/
import Derived.Laws.Closers25b
import Derived.Deep.QuietTactic
import Derived.BigQuiet
import Derived.RegionTactic
import Derived.Deep.RegionWith
import Derived.Deep.RegionHeld3
import Derived.StillTailTactics
import Derived.Laws.Bits64
import Derived.ChangeKeysEq
import Derived.Laws.StructEq
import Derived.Deep.MidRow
import Derived.Lib.SlBuf
import Derived.Laws.CopyRow
import Derived.Laws.MakeOwn
import Derived.Deep.AppendLies
import Derived.Deep.RegionLaw
import Derived.Test.YtbiboamaigedjaaGreatDoorEVD
namespace Go.Proofs.YtbiboamaigedjaaGreatDoor
open Go.RowKit
set_option maxRecDepth 8000
set_option linter.unusedSimpArgs false
set_option linter.unusedVariables false
set_option maxHeartbeats 1000000 in
theorem QeK {x y z iz xx yy bb : List Int} (l1 : x.length = 4) (l2 : y.length = 4) (l3 : z.length = 4) (l4 : iz.length = 4) (l5 : xx.length = 4) (l6 : yy.length = 4) (l7 : bb.length = 32) (h1 : PV Tryz.prog gT 88 [.a .u64 z 4] (.a .u64 iz 4)) (h2 : PV Tryz.prog gT 89 [.a .u64 x 4, .a .u64 iz 4] (.a .u64 xx 4)) (h3 : PV Tryz.prog gT 89 [.a .u64 y 4, .a .u64 iz 4] (.a .u64 yy 4)) (h4 : PV Tryz.prog gT 57 [.a .u64 yy 4] (.a .u8 bb 32)) (hx : 0 <= xx.getD 0 0) (hb : 0 <= bb.getD 31 0 /\ bb.getD 31 0 < 128) : PV Tryz.prog gT 39 [.g [.a .u64 x 4, .a .u64 y 4, .a .u64 z 4]] (.a .u8 (bb.set 31 (bb.getD 31 0 + xx.getD 0 0 % 2 * 128)) 32) := by
  refine PV.mk' Tryz.func39 rfl rfl rfl rfl fun w L hL hG => ?_
  refine S.enter Qm [.g [.a .u64 x 4, .a .u64 y 4, .a .u64 z 4]] gT Tryz.func39 rfl rfl rfl (fun _ => rfl) hL hG ?_
  refine S.go false rfl (by repeat' (first | exact True.intro | refine And.intro ?_ ?_ | assumption | omega | (dsimp only; omega) | (simp only [Nat.add_eq, Nat.mul_eq, Nat.sub_eq, SV.wd]; omega) | exact rfl)) ?_
  refine S.cv rfl rfl rfl rfl rfl rfl h1 ?_
  refine S.go false rfl (by repeat' (first | exact True.intro | refine And.intro ?_ ?_ | assumption | omega | (dsimp only; omega) | (simp only [Nat.add_eq, Nat.mul_eq, Nat.sub_eq, SV.wd]; omega) | exact rfl)) ?_
  refine S.drp false [(3, .a .u64 xx 4), (7, .a .u64 yy 4)] rfl rfl rfl ?_ (by repeat' (first | exact True.intro | refine And.intro ?_ ?_ | assumption | omega | (dsimp only; omega) | (simp only [Nat.add_eq, Nat.mul_eq, Nat.sub_eq, SV.wd]; omega) | exact rfl))
  refine S.go false rfl (by repeat' (first | exact True.intro | refine And.intro ?_ ?_ | assumption | omega | (dsimp only; omega) | (simp only [Nat.add_eq, Nat.mul_eq, Nat.sub_eq, SV.wd]; omega) | exact rfl)) ?_
  refine S.cv rfl rfl rfl rfl rfl rfl h4 ?_
  have q1 : (bb.set 31 (bb.getD 31 0 + xx.getD 0 0 % 2 * 128)).length = 32 := by rw [List.length_set]; exact l7
  have q2 : 0 <= bb.getD 31 0 + xx.getD 0 0 % 2 * 128 := by omega
  have q3 : bb.getD 31 0 + xx.getD 0 0 % 2 * 128 < 256 := by omega
  have q4 : 0 <= xx.getD 0 0 % 2 * 128 := by omega
  have q5 : xx.getD 0 0 % 2 * 128 < 256 := by omega
  have q6 : 0 <= xx.getD 0 0 % 2 := by omega
  have q7 : xx.getD 0 0 % 2 < 256 := by omega
  refine S.go false rfl (by repeat' (first | exact True.intro | refine And.intro ?_ ?_ | exact l7 | exact l5 | exact l6 | exact q1 | exact q2 | exact q3 | exact q4 | exact q5 | exact q6 | exact q7 | exact hx | omega | exact rfl)) ?_
  exact S.retv rfl rfl rfl rfl rfl
theorem QcN {c : FF × FF × FF} {P : Pt} (h : Ht c P) : PV Tryz.prog gT 39 [np c] (.a .u8 (XE P) 32) := by
  obtain ⟨cx, cy, cz⟩ := c
  obtain ⟨h0, h1, h2⟩ := h
  simp only at h0 h1 h2
  subst h1; subst h2
  have hi := YB h0
  have e1 : P.x * cz * X9 cz = P.x := by generalize X9 cz = f at *; grobner
  have e2 : P.y * cz * X9 cz = P.y := by generalize X9 cz = f at *; grobner
  have k1 := XN (P.x * cz) (X9 cz)
  have k2 := XN (P.y * cz) (X9 cz)
  rw [e1] at k1
  rw [e2] at k2
  have ht := Gq P.y
  have hx := Z9 P.x
  have g0 : (Qf 4 (P.x.val : Int)).getD 0 0 = (P.x.val : Int) % 18446744073709551616 := by
    rw [QE, JN 4 _ 0 (by omega), Nat.mul_zero, Int.pow_zero, Int.ediv_one]
  have h := QeK (Qa 4 _) (Qa 4 _) (Qa 4 _) (Qa 4 _) (Qa 4 _) (Qa 4 _) (QM _) (Qiz cz) k1 k2 (QcM (P.y.val : Int)) (by rw [g0]; omega) (by rw [QE]; exact ht)
  have e3 : (Qf 4 (P.x.val : Int)).getD 0 0 % 2 = (P.x.val : Int) % 2 := by rw [g0]; omega
  rw [e3, QE, <- JB] at h
  exact h
theorem Qg1 {b lb y p : List Int} (l_b : b.length = 32) (l_lb : lb.length = 32) (hb0 : (b.set 31 (b.getD 31 0 % 128)).length = 32) (hb1 : 0 <= b.getD 31 0 % 128) (hb2 : b.getD 31 0 % 128 < 256) (hb3 : 0 <= b.getD 31 0) (hb4 : b.getD 31 0 < 256) (hsl : b.set 31 (b.getD 31 0 % 128) = lb) (l_y : y.length = 4) (l_p : p.length = 4) (hy : PV Tryz.prog gT 76 [.a .u8 lb 32] (.a .u64 y 4)) (hP : PV Tryz.prog gT 110 [] (.a .u64 p 4)) (hl : PV Tryz.prog gT 75 [.a .u64 y 4, .a .u64 p 4] (.l false)) : PV Tryz.prog gT 73 [.a .u8 b 32] (.t [.g [.i .u64 0, .i .u64 0, .i .u64 0, .i .u64 0, .i .u64 0, .i .u64 0, .i .u64 0, .i .u64 0, .i .u64 0, .i .u64 0, .i .u64 0, .i .u64 0], .l false]) := by
  refine PV.mk' Tryz.func73 rfl rfl rfl rfl fun w L hL hG => ?_
  refine S.enter Qm [.a .u8 b 32] gT Tryz.func73 rfl rfl rfl (fun _ => rfl) hL hG ?_
  refine S.go false rfl (by repeat' (first | exact True.intro | refine And.intro ?_ ?_ | exact l_lb | exact l_b | exact hb0 | exact hb1 | exact hb2 | exact hb3 | exact hb4 | assumption | omega | exact rfl)) ?_
  refine S.recell 0 [.a .u8 lb 32] rfl (fun ρ => congrArg (fun z => Qk ρ [SV.a .u8 z 32]) hsl) ⟨l_lb, trivial⟩ rfl ?_
  refine S.rd 17 (.a .u8 lb 32) rfl (fun ρ => congrArg (fun z => (SV.a .u8 z 32).den ρ) hsl) ?_
  refine S.cv rfl rfl rfl rfl rfl rfl hy ?_
  refine S.go false rfl (by repeat' (first | exact True.intro | refine And.intro ?_ ?_ | assumption | omega | (dsimp only; omega) | (simp only [Nat.add_eq, Nat.mul_eq, Nat.sub_eq, SV.wd]; omega) | exact rfl)) ?_
  refine S.drp false [(1, .a .u64 p 4), (2, .l false)] rfl rfl rfl ?_ (by repeat' (first | exact True.intro | refine And.intro ?_ ?_ | assumption | omega | (dsimp only; omega) | (simp only [Nat.add_eq, Nat.mul_eq, Nat.sub_eq, SV.wd]; omega) | exact rfl))
  refine S.go false rfl (by repeat' (first | exact True.intro | refine And.intro ?_ ?_ | assumption | omega | (dsimp only; omega) | (simp only [Nat.add_eq, Nat.mul_eq, Nat.sub_eq, SV.wd]; omega) | exact rfl)) ?_
  exact S.rett rfl rfl rfl rfl rfl
theorem Qg0 {b lb y p yy d dy ov y1 iv u x : List Int} (l_b : b.length = 32) (l_lb : lb.length = 32) (hb0 : (b.set 31 (b.getD 31 0 % 128)).length = 32) (hb1 : 0 <= b.getD 31 0 % 128) (hb2 : b.getD 31 0 % 128 < 256) (hb3 : 0 <= b.getD 31 0) (hb4 : b.getD 31 0 < 256) (hsl : b.set 31 (b.getD 31 0 % 128) = lb) (l_y : y.length = 4) (l_p : p.length = 4) (l_yy : yy.length = 4) (l_d : d.length = 4) (l_dy : dy.length = 4) (l_ov : ov.length = 4) (l_y1 : y1.length = 4) (l_iv : iv.length = 4) (l_u : u.length = 4) (l_x : x.length = 4) (hy : PV Tryz.prog gT 76 [.a .u8 lb 32] (.a .u64 y 4)) (hP : PV Tryz.prog gT 110 [] (.a .u64 p 4)) (hl : PV Tryz.prog gT 75 [.a .u64 y 4, .a .u64 p 4] (.l true)) (h1 : PV Tryz.prog gT 89 [.a .u64 y 4, .a .u64 y 4] (.a .u64 yy 4)) (h2 : PV Tryz.prog gT 112 [] (.a .u64 d 4)) (h3 : PV Tryz.prog gT 89 [.a .u64 d 4, .a .u64 yy 4] (.a .u64 dy 4)) (h4 : PV Tryz.prog gT 111 [.a .u64 dy 4, .g [.i .u64 1, .i .u64 0, .i .u64 0, .i .u64 0]] (.a .u64 ov 4)) (h5 : PV Tryz.prog gT 74 [.a .u64 yy 4, .g [.i .u64 1, .i .u64 0, .i .u64 0, .i .u64 0]] (.a .u64 y1 4)) (h6 : PV Tryz.prog gT 88 [.a .u64 ov 4] (.a .u64 iv 4)) (h7 : PV Tryz.prog gT 89 [.a .u64 y1 4, .a .u64 iv 4] (.a .u64 u 4)) (h8 : PV Tryz.prog gT 113 [.a .u64 u 4] (.t [.a .u64 x 4, .l false])) : PV Tryz.prog gT 73 [.a .u8 b 32] (.t [.g [.i .u64 0, .i .u64 0, .i .u64 0, .i .u64 0, .i .u64 0, .i .u64 0, .i .u64 0, .i .u64 0, .i .u64 0, .i .u64 0, .i .u64 0, .i .u64 0], .l false]) := by
  refine PV.mk' Tryz.func73 rfl rfl rfl rfl fun w L hL hG => ?_
  refine S.enter Qm [.a .u8 b 32] gT Tryz.func73 rfl rfl rfl (fun _ => rfl) hL hG ?_
  refine S.go false rfl (by repeat' (first | exact True.intro | refine And.intro ?_ ?_ | exact l_lb | exact l_b | exact hb0 | exact hb1 | exact hb2 | exact hb3 | exact hb4 | assumption | omega | exact rfl)) ?_
  refine S.recell 0 [.a .u8 lb 32] rfl (fun ρ => congrArg (fun z => Qk ρ [SV.a .u8 z 32]) hsl) ⟨l_lb, trivial⟩ rfl ?_
  refine S.rd 17 (.a .u8 lb 32) rfl (fun ρ => congrArg (fun z => (SV.a .u8 z 32).den ρ) hsl) ?_
  refine S.cv rfl rfl rfl rfl rfl rfl hy ?_
  refine S.go false rfl (by repeat' (first | exact True.intro | refine And.intro ?_ ?_ | assumption | omega | (dsimp only; omega) | (simp only [Nat.add_eq, Nat.mul_eq, Nat.sub_eq, SV.wd]; omega) | exact rfl)) ?_
  refine S.drp false [(1, .a .u64 p 4), (2, .l true)] rfl rfl rfl ?_ (by repeat' (first | exact True.intro | refine And.intro ?_ ?_ | assumption | omega | (dsimp only; omega) | (simp only [Nat.add_eq, Nat.mul_eq, Nat.sub_eq, SV.wd]; omega) | exact rfl))
  refine S.go false rfl (by repeat' (first | exact True.intro | refine And.intro ?_ ?_ | assumption | omega | (dsimp only; omega) | (simp only [Nat.add_eq, Nat.mul_eq, Nat.sub_eq, SV.wd]; omega) | exact rfl)) ?_
  refine S.go false rfl (by repeat' (first | exact True.intro | refine And.intro ?_ ?_ | assumption | omega | (dsimp only; omega) | (simp only [Nat.add_eq, Nat.mul_eq, Nat.sub_eq, SV.wd]; omega) | exact rfl)) ?_
  refine S.cv rfl rfl rfl rfl rfl rfl h1 ?_
  refine S.go false rfl (by repeat' (first | exact True.intro | refine And.intro ?_ ?_ | assumption | omega | (dsimp only; omega) | (simp only [Nat.add_eq, Nat.mul_eq, Nat.sub_eq, SV.wd]; omega) | exact rfl)) ?_
  refine S.drp false [(0, .a .u64 d 4), (2, .a .u64 dy 4), (4, .a .u64 ov 4)] rfl rfl rfl ?_ (by repeat' (first | exact True.intro | refine And.intro ?_ ?_ | assumption | omega | (dsimp only; omega) | (simp only [Nat.add_eq, Nat.mul_eq, Nat.sub_eq, SV.wd]; omega) | exact rfl))
  refine S.go false rfl (by repeat' (first | exact True.intro | refine And.intro ?_ ?_ | assumption | omega | (dsimp only; omega) | (simp only [Nat.add_eq, Nat.mul_eq, Nat.sub_eq, SV.wd]; omega) | exact rfl)) ?_
  refine S.drp false [(2, .a .u64 y1 4), (4, .a .u64 iv 4), (5, .a .u64 u 4), (6, .t [.a .u64 x 4, .l false])] rfl rfl rfl ?_ (by repeat' (first | exact True.intro | refine And.intro ?_ ?_ | assumption | omega | (dsimp only; omega) | (simp only [Nat.add_eq, Nat.mul_eq, Nat.sub_eq, SV.wd]; omega) | exact rfl))
  refine S.go false rfl (by repeat' (first | exact True.intro | refine And.intro ?_ ?_ | assumption | omega | (dsimp only; omega) | (simp only [Nat.add_eq, Nat.mul_eq, Nat.sub_eq, SV.wd]; omega) | exact rfl)) ?_
  exact S.rett rfl rfl rfl rfl rfl
theorem QgX {b lb y p yy d dy ov y1 iv u x : List Int} (l_b : b.length = 32) (l_lb : lb.length = 32) (hb0 : (b.set 31 (b.getD 31 0 % 128)).length = 32) (hb1 : 0 <= b.getD 31 0 % 128) (hb2 : b.getD 31 0 % 128 < 256) (hb3 : 0 <= b.getD 31 0) (hb4 : b.getD 31 0 < 256) (hsl : b.set 31 (b.getD 31 0 % 128) = lb) (ho : decide (128 <= b.getD 31 0) = false) (l_y : y.length = 4) (l_p : p.length = 4) (l_yy : yy.length = 4) (l_d : d.length = 4) (l_dy : dy.length = 4) (l_ov : ov.length = 4) (l_y1 : y1.length = 4) (l_iv : iv.length = 4) (l_u : u.length = 4) (l_x : x.length = 4) (hy : PV Tryz.prog gT 76 [.a .u8 lb 32] (.a .u64 y 4)) (hP : PV Tryz.prog gT 110 [] (.a .u64 p 4)) (hl : PV Tryz.prog gT 75 [.a .u64 y 4, .a .u64 p 4] (.l true)) (h1 : PV Tryz.prog gT 89 [.a .u64 y 4, .a .u64 y 4] (.a .u64 yy 4)) (h2 : PV Tryz.prog gT 112 [] (.a .u64 d 4)) (h3 : PV Tryz.prog gT 89 [.a .u64 d 4, .a .u64 yy 4] (.a .u64 dy 4)) (h4 : PV Tryz.prog gT 111 [.a .u64 dy 4, .g [.i .u64 1, .i .u64 0, .i .u64 0, .i .u64 0]] (.a .u64 ov 4)) (h5 : PV Tryz.prog gT 74 [.a .u64 yy 4, .g [.i .u64 1, .i .u64 0, .i .u64 0, .i .u64 0]] (.a .u64 y1 4)) (h6 : PV Tryz.prog gT 88 [.a .u64 ov 4] (.a .u64 iv 4)) (h7 : PV Tryz.prog gT 89 [.a .u64 y1 4, .a .u64 iv 4] (.a .u64 u 4)) (h8 : PV Tryz.prog gT 113 [.a .u64 u 4] (.t [.a .u64 x 4, .l true])) : PV Tryz.prog gT 73 [.a .u8 b 32] (.t [.g [.a .u64 x 4, .a .u64 y 4, .i .u64 1, .i .u64 0, .i .u64 0, .i .u64 0], .l true]) := by
  refine PV.mk' Tryz.func73 rfl rfl rfl rfl fun w L hL hG => ?_
  refine S.enter Qm [.a .u8 b 32] gT Tryz.func73 rfl rfl rfl (fun _ => rfl) hL hG ?_
  refine S.go false rfl (by repeat' (first | exact True.intro | refine And.intro ?_ ?_ | exact l_lb | exact l_b | exact hb0 | exact hb1 | exact hb2 | exact hb3 | exact hb4 | assumption | omega | exact rfl)) ?_
  refine S.recell 0 [.a .u8 lb 32] rfl (fun ρ => congrArg (fun z => Qk ρ [SV.a .u8 z 32]) hsl) ⟨l_lb, trivial⟩ rfl ?_
  refine S.rd 17 (.a .u8 lb 32) rfl (fun ρ => congrArg (fun z => (SV.a .u8 z 32).den ρ) hsl) ?_
  refine S.rd 4 (.l false) rfl (fun _ => by simp only [SV.den]; rw [ho]) ?_
  refine S.cv rfl rfl rfl rfl rfl rfl hy ?_
  refine S.go false rfl (by repeat' (first | exact True.intro | refine And.intro ?_ ?_ | assumption | omega | (dsimp only; omega) | (simp only [Nat.add_eq, Nat.mul_eq, Nat.sub_eq, SV.wd]; omega) | exact rfl)) ?_
  refine S.drp false [(1, .a .u64 p 4), (2, .l true)] rfl rfl rfl ?_ (by repeat' (first | exact True.intro | refine And.intro ?_ ?_ | assumption | omega | (dsimp only; omega) | (simp only [Nat.add_eq, Nat.mul_eq, Nat.sub_eq, SV.wd]; omega) | exact rfl))
  refine S.go false rfl (by repeat' (first | exact True.intro | refine And.intro ?_ ?_ | assumption | omega | (dsimp only; omega) | (simp only [Nat.add_eq, Nat.mul_eq, Nat.sub_eq, SV.wd]; omega) | exact rfl)) ?_
  refine S.go false rfl (by repeat' (first | exact True.intro | refine And.intro ?_ ?_ | assumption | omega | (dsimp only; omega) | (simp only [Nat.add_eq, Nat.mul_eq, Nat.sub_eq, SV.wd]; omega) | exact rfl)) ?_
  refine S.cv rfl rfl rfl rfl rfl rfl h1 ?_
  refine S.go false rfl (by repeat' (first | exact True.intro | refine And.intro ?_ ?_ | assumption | omega | (dsimp only; omega) | (simp only [Nat.add_eq, Nat.mul_eq, Nat.sub_eq, SV.wd]; omega) | exact rfl)) ?_
  refine S.drp false [(0, .a .u64 d 4), (2, .a .u64 dy 4), (4, .a .u64 ov 4)] rfl rfl rfl ?_ (by repeat' (first | exact True.intro | refine And.intro ?_ ?_ | assumption | omega | (dsimp only; omega) | (simp only [Nat.add_eq, Nat.mul_eq, Nat.sub_eq, SV.wd]; omega) | exact rfl))
  refine S.go false rfl (by repeat' (first | exact True.intro | refine And.intro ?_ ?_ | assumption | omega | (dsimp only; omega) | (simp only [Nat.add_eq, Nat.mul_eq, Nat.sub_eq, SV.wd]; omega) | exact rfl)) ?_
  refine S.drp false [(2, .a .u64 y1 4), (4, .a .u64 iv 4), (5, .a .u64 u 4), (6, .t [.a .u64 x 4, .l true])] rfl rfl rfl ?_ (by repeat' (first | exact True.intro | refine And.intro ?_ ?_ | assumption | omega | (dsimp only; omega) | (simp only [Nat.add_eq, Nat.mul_eq, Nat.sub_eq, SV.wd]; omega) | exact rfl))
  refine S.go false rfl (by repeat' (first | exact True.intro | refine And.intro ?_ ?_ | assumption | omega | (dsimp only; omega) | (simp only [Nat.add_eq, Nat.mul_eq, Nat.sub_eq, SV.wd]; omega) | exact rfl)) ?_
  exact S.rett rfl rfl rfl rfl rfl
theorem QgY {b lb nx y p yy d dy ov y1 iv u x : List Int} (l_b : b.length = 32) (l_lb : lb.length = 32) (hb0 : (b.set 31 (b.getD 31 0 % 128)).length = 32) (hb1 : 0 <= b.getD 31 0 % 128) (hb2 : b.getD 31 0 % 128 < 256) (hb3 : 0 <= b.getD 31 0) (hb4 : b.getD 31 0 < 256) (hsl : b.set 31 (b.getD 31 0 % 128) = lb) (ho : decide (128 <= b.getD 31 0) = true) (l_y : y.length = 4) (l_p : p.length = 4) (l_yy : yy.length = 4) (l_d : d.length = 4) (l_dy : dy.length = 4) (l_ov : ov.length = 4) (l_y1 : y1.length = 4) (l_iv : iv.length = 4) (l_u : u.length = 4) (l_x : x.length = 4) (l_nx : nx.length = 4) (hy : PV Tryz.prog gT 76 [.a .u8 lb 32] (.a .u64 y 4)) (hP : PV Tryz.prog gT 110 [] (.a .u64 p 4)) (hl : PV Tryz.prog gT 75 [.a .u64 y 4, .a .u64 p 4] (.l true)) (h1 : PV Tryz.prog gT 89 [.a .u64 y 4, .a .u64 y 4] (.a .u64 yy 4)) (h2 : PV Tryz.prog gT 112 [] (.a .u64 d 4)) (h3 : PV Tryz.prog gT 89 [.a .u64 d 4, .a .u64 yy 4] (.a .u64 dy 4)) (h4 : PV Tryz.prog gT 111 [.a .u64 dy 4, .g [.i .u64 1, .i .u64 0, .i .u64 0, .i .u64 0]] (.a .u64 ov 4)) (h5 : PV Tryz.prog gT 74 [.a .u64 yy 4, .g [.i .u64 1, .i .u64 0, .i .u64 0, .i .u64 0]] (.a .u64 y1 4)) (h6 : PV Tryz.prog gT 88 [.a .u64 ov 4] (.a .u64 iv 4)) (h7 : PV Tryz.prog gT 89 [.a .u64 y1 4, .a .u64 iv 4] (.a .u64 u 4)) (h8 : PV Tryz.prog gT 113 [.a .u64 u 4] (.t [.a .u64 x 4, .l true])) (h9 : PV Tryz.prog gT 74 [.g [.i .u64 0, .i .u64 0, .i .u64 0, .i .u64 0], .a .u64 x 4] (.a .u64 nx 4)) (hx : ¬ x = [0, 0, 0, 0]) : PV Tryz.prog gT 73 [.a .u8 b 32] (.t [.g [.a .u64 nx 4, .a .u64 y 4, .i .u64 1, .i .u64 0, .i .u64 0, .i .u64 0], .l true]) := by
  refine PV.mk' Tryz.func73 rfl rfl rfl rfl fun w L hL hG => ?_
  refine S.enter Qm [.a .u8 b 32] gT Tryz.func73 rfl rfl rfl (fun _ => rfl) hL hG ?_
  refine S.go false rfl (by repeat' (first | exact True.intro | refine And.intro ?_ ?_ | exact l_lb | exact l_b | exact hb0 | exact hb1 | exact hb2 | exact hb3 | exact hb4 | assumption | omega | exact rfl)) ?_
  refine S.recell 0 [.a .u8 lb 32] rfl (fun ρ => congrArg (fun z => Qk ρ [SV.a .u8 z 32]) hsl) ⟨l_lb, trivial⟩ rfl ?_
  refine S.rd 17 (.a .u8 lb 32) rfl (fun ρ => congrArg (fun z => (SV.a .u8 z 32).den ρ) hsl) ?_
  refine S.rd 4 (.l true) rfl (fun _ => by simp only [SV.den]; rw [ho]) ?_
  refine S.cv rfl rfl rfl rfl rfl rfl hy ?_
  refine S.go false rfl (by repeat' (first | exact True.intro | refine And.intro ?_ ?_ | assumption | omega | (dsimp only; omega) | (simp only [Nat.add_eq, Nat.mul_eq, Nat.sub_eq, SV.wd]; omega) | exact rfl)) ?_
  refine S.drp false [(1, .a .u64 p 4), (2, .l true)] rfl rfl rfl ?_ (by repeat' (first | exact True.intro | refine And.intro ?_ ?_ | assumption | omega | (dsimp only; omega) | (simp only [Nat.add_eq, Nat.mul_eq, Nat.sub_eq, SV.wd]; omega) | exact rfl))
  refine S.go false rfl (by repeat' (first | exact True.intro | refine And.intro ?_ ?_ | assumption | omega | (dsimp only; omega) | (simp only [Nat.add_eq, Nat.mul_eq, Nat.sub_eq, SV.wd]; omega) | exact rfl)) ?_
  refine S.go false rfl (by repeat' (first | exact True.intro | refine And.intro ?_ ?_ | assumption | omega | (dsimp only; omega) | (simp only [Nat.add_eq, Nat.mul_eq, Nat.sub_eq, SV.wd]; omega) | exact rfl)) ?_
  refine S.cv rfl rfl rfl rfl rfl rfl h1 ?_
  refine S.go false rfl (by repeat' (first | exact True.intro | refine And.intro ?_ ?_ | assumption | omega | (dsimp only; omega) | (simp only [Nat.add_eq, Nat.mul_eq, Nat.sub_eq, SV.wd]; omega) | exact rfl)) ?_
  refine S.drp false [(0, .a .u64 d 4), (2, .a .u64 dy 4), (4, .a .u64 ov 4)] rfl rfl rfl ?_ (by repeat' (first | exact True.intro | refine And.intro ?_ ?_ | assumption | omega | (dsimp only; omega) | (simp only [Nat.add_eq, Nat.mul_eq, Nat.sub_eq, SV.wd]; omega) | exact rfl))
  refine S.go false rfl (by repeat' (first | exact True.intro | refine And.intro ?_ ?_ | assumption | omega | (dsimp only; omega) | (simp only [Nat.add_eq, Nat.mul_eq, Nat.sub_eq, SV.wd]; omega) | exact rfl)) ?_
  refine S.drp false [(2, .a .u64 y1 4), (4, .a .u64 iv 4), (5, .a .u64 u 4), (6, .t [.a .u64 x 4, .l true])] rfl rfl rfl ?_ (by repeat' (first | exact True.intro | refine And.intro ?_ ?_ | assumption | omega | (dsimp only; omega) | (simp only [Nat.add_eq, Nat.mul_eq, Nat.sub_eq, SV.wd]; omega) | exact rfl))
  refine S.go false rfl (by repeat' (first | exact True.intro | refine And.intro ?_ ?_ | assumption | omega | (dsimp only; omega) | (simp only [Nat.add_eq, Nat.mul_eq, Nat.sub_eq, SV.wd]; omega) | exact rfl)) ?_
  refine S.rd 48 (.a .u64 [0, 0, 0, 0] 4) rfl (fun _ => rfl) ?_
  refine S.go false rfl (by repeat' (first | exact True.intro | refine And.intro ?_ ?_ | assumption | omega | (dsimp only; omega) | (simp only [Nat.add_eq, Nat.mul_eq, Nat.sub_eq, SV.wd]; omega) | exact rfl)) ?_
  refine S.condF rfl hx ?_
  refine S.go false rfl (by repeat' (first | exact True.intro | refine And.intro ?_ ?_ | assumption | omega | (dsimp only; omega) | (simp only [Nat.add_eq, Nat.mul_eq, Nat.sub_eq, SV.wd]; omega) | exact rfl)) ?_
  refine S.cv rfl rfl rfl rfl rfl rfl h9 ?_
  refine S.go false rfl (by repeat' (first | exact True.intro | refine And.intro ?_ ?_ | assumption | omega | (dsimp only; omega) | (simp only [Nat.add_eq, Nat.mul_eq, Nat.sub_eq, SV.wd]; omega) | exact rfl)) ?_
  exact S.rett rfl rfl rfl rfl rfl
theorem QgZ {b lb y p yy d dy ov y1 iv u x : List Int} (l_b : b.length = 32) (l_lb : lb.length = 32) (hb0 : (b.set 31 (b.getD 31 0 % 128)).length = 32) (hb1 : 0 <= b.getD 31 0 % 128) (hb2 : b.getD 31 0 % 128 < 256) (hb3 : 0 <= b.getD 31 0) (hb4 : b.getD 31 0 < 256) (hsl : b.set 31 (b.getD 31 0 % 128) = lb) (ho : decide (128 <= b.getD 31 0) = true) (l_y : y.length = 4) (l_p : p.length = 4) (l_yy : yy.length = 4) (l_d : d.length = 4) (l_dy : dy.length = 4) (l_ov : ov.length = 4) (l_y1 : y1.length = 4) (l_iv : iv.length = 4) (l_u : u.length = 4) (l_x : x.length = 4) (hy : PV Tryz.prog gT 76 [.a .u8 lb 32] (.a .u64 y 4)) (hP : PV Tryz.prog gT 110 [] (.a .u64 p 4)) (hl : PV Tryz.prog gT 75 [.a .u64 y 4, .a .u64 p 4] (.l true)) (h1 : PV Tryz.prog gT 89 [.a .u64 y 4, .a .u64 y 4] (.a .u64 yy 4)) (h2 : PV Tryz.prog gT 112 [] (.a .u64 d 4)) (h3 : PV Tryz.prog gT 89 [.a .u64 d 4, .a .u64 yy 4] (.a .u64 dy 4)) (h4 : PV Tryz.prog gT 111 [.a .u64 dy 4, .g [.i .u64 1, .i .u64 0, .i .u64 0, .i .u64 0]] (.a .u64 ov 4)) (h5 : PV Tryz.prog gT 74 [.a .u64 yy 4, .g [.i .u64 1, .i .u64 0, .i .u64 0, .i .u64 0]] (.a .u64 y1 4)) (h6 : PV Tryz.prog gT 88 [.a .u64 ov 4] (.a .u64 iv 4)) (h7 : PV Tryz.prog gT 89 [.a .u64 y1 4, .a .u64 iv 4] (.a .u64 u 4)) (h8 : PV Tryz.prog gT 113 [.a .u64 u 4] (.t [.a .u64 x 4, .l true])) (hx : x = [0, 0, 0, 0]) : PV Tryz.prog gT 73 [.a .u8 b 32] (.t [.g [.i .u64 0, .i .u64 0, .i .u64 0, .i .u64 0, .i .u64 0, .i .u64 0, .i .u64 0, .i .u64 0, .i .u64 0, .i .u64 0, .i .u64 0, .i .u64 0], .l false]) := by
  refine PV.mk' Tryz.func73 rfl rfl rfl rfl fun w L hL hG => ?_
  refine S.enter Qm [.a .u8 b 32] gT Tryz.func73 rfl rfl rfl (fun _ => rfl) hL hG ?_
  refine S.go false rfl (by repeat' (first | exact True.intro | refine And.intro ?_ ?_ | exact l_lb | exact l_b | exact hb0 | exact hb1 | exact hb2 | exact hb3 | exact hb4 | assumption | omega | exact rfl)) ?_
  refine S.recell 0 [.a .u8 lb 32] rfl (fun ρ => congrArg (fun z => Qk ρ [SV.a .u8 z 32]) hsl) ⟨l_lb, trivial⟩ rfl ?_
  refine S.rd 17 (.a .u8 lb 32) rfl (fun ρ => congrArg (fun z => (SV.a .u8 z 32).den ρ) hsl) ?_
  refine S.rd 4 (.l true) rfl (fun _ => by simp only [SV.den]; rw [ho]) ?_
  refine S.cv rfl rfl rfl rfl rfl rfl hy ?_
  refine S.go false rfl (by repeat' (first | exact True.intro | refine And.intro ?_ ?_ | assumption | omega | (dsimp only; omega) | (simp only [Nat.add_eq, Nat.mul_eq, Nat.sub_eq, SV.wd]; omega) | exact rfl)) ?_
  refine S.drp false [(1, .a .u64 p 4), (2, .l true)] rfl rfl rfl ?_ (by repeat' (first | exact True.intro | refine And.intro ?_ ?_ | assumption | omega | (dsimp only; omega) | (simp only [Nat.add_eq, Nat.mul_eq, Nat.sub_eq, SV.wd]; omega) | exact rfl))
  refine S.go false rfl (by repeat' (first | exact True.intro | refine And.intro ?_ ?_ | assumption | omega | (dsimp only; omega) | (simp only [Nat.add_eq, Nat.mul_eq, Nat.sub_eq, SV.wd]; omega) | exact rfl)) ?_
  refine S.go false rfl (by repeat' (first | exact True.intro | refine And.intro ?_ ?_ | assumption | omega | (dsimp only; omega) | (simp only [Nat.add_eq, Nat.mul_eq, Nat.sub_eq, SV.wd]; omega) | exact rfl)) ?_
  refine S.cv rfl rfl rfl rfl rfl rfl h1 ?_
  refine S.go false rfl (by repeat' (first | exact True.intro | refine And.intro ?_ ?_ | assumption | omega | (dsimp only; omega) | (simp only [Nat.add_eq, Nat.mul_eq, Nat.sub_eq, SV.wd]; omega) | exact rfl)) ?_
  refine S.drp false [(0, .a .u64 d 4), (2, .a .u64 dy 4), (4, .a .u64 ov 4)] rfl rfl rfl ?_ (by repeat' (first | exact True.intro | refine And.intro ?_ ?_ | assumption | omega | (dsimp only; omega) | (simp only [Nat.add_eq, Nat.mul_eq, Nat.sub_eq, SV.wd]; omega) | exact rfl))
  refine S.go false rfl (by repeat' (first | exact True.intro | refine And.intro ?_ ?_ | assumption | omega | (dsimp only; omega) | (simp only [Nat.add_eq, Nat.mul_eq, Nat.sub_eq, SV.wd]; omega) | exact rfl)) ?_
  refine S.drp false [(2, .a .u64 y1 4), (4, .a .u64 iv 4), (5, .a .u64 u 4), (6, .t [.a .u64 x 4, .l true])] rfl rfl rfl ?_ (by repeat' (first | exact True.intro | refine And.intro ?_ ?_ | assumption | omega | (dsimp only; omega) | (simp only [Nat.add_eq, Nat.mul_eq, Nat.sub_eq, SV.wd]; omega) | exact rfl))
  refine S.go false rfl (by repeat' (first | exact True.intro | refine And.intro ?_ ?_ | assumption | omega | (dsimp only; omega) | (simp only [Nat.add_eq, Nat.mul_eq, Nat.sub_eq, SV.wd]; omega) | exact rfl)) ?_
  refine S.rd 48 (.a .u64 [0, 0, 0, 0] 4) rfl (fun _ => rfl) ?_
  refine S.go false rfl (by repeat' (first | exact True.intro | refine And.intro ?_ ?_ | assumption | omega | (dsimp only; omega) | (simp only [Nat.add_eq, Nat.mul_eq, Nat.sub_eq, SV.wd]; omega) | exact rfl)) ?_
  refine S.condT rfl hx ?_
  refine S.go false rfl (by repeat' (first | exact True.intro | refine And.intro ?_ ?_ | assumption | omega | (dsimp only; omega) | (simp only [Nat.add_eq, Nat.mul_eq, Nat.sub_eq, SV.wd]; omega) | exact rfl)) ?_
  exact S.rett rfl rfl rfl rfl rfl
end Go.Proofs.YtbiboamaigedjaaGreatDoor
namespace Go.Proofs.YtbiboamaigedjaaGreatDoor
open Go.RowKit
set_option linter.unusedVariables false
set_option linter.unusedSimpArgs false
set_option maxRecDepth 8000
set_option maxHeartbeats 2000000

theorem Qci : Qf 4 ((1 : FF).val : Int) = [1, 0, 0, 0] := by decide +kernel
theorem QaD : Qf 4 ((0 : FF).val : Int) = [0, 0, 0, 0] := by decide +kernel
theorem Qli (a : FF) : 0 - a = -a := by grobner
theorem E2 (a : FF) : Qf 4 (a.val : Int) = [0, 0, 0, 0] ↔ a = 0 := by
  rw [<- QaD]
  refine ⟨fun h => Qad ?_, fun h => by rw [h]⟩
  have h1 := Vt a; have h2 := Vt 0
  rw [<- QZ h1.1 h1.2, h, QZ h2.1 h2.2]
theorem Qfl (a b : FF) : (SV.t [.g [.a .u64 (Qf 4 (a.val : Int)) 4, .a .u64 (Qf 4 (b.val : Int)) 4, .i .u64 1, .i .u64 0, .i .u64 0, .i .u64 0], .l true]).den QK = (SV.t [np (a, b, 1), .l true]).den QK := by
  unfold np
  simp only [Qci]
  rfl
theorem FV {b : List Int} (hb : Qe b) (hl : b.length = 32) : (Yj b -> PV Tryz.prog gT 73 [.a .u8 b 32] (.t [np (xF b, yF b, 1), .l true])) /\ (¬ Yj b -> PV Tryz.prog gT 73 [.a .u8 b 32] (.t [.g [.i .u64 0, .i .u64 0, .i .u64 0, .i .u64 0, .i .u64 0, .i .u64 0, .i .u64 0, .i .u64 0, .i .u64 0, .i .u64 0, .i .u64 0, .i .u64 0], .l false])) := by
  have hb31 := hb.at 31
  have g : b.getD 31 0 = Qb b 31 := QE b 31
  have hlb := D1 hl
  have hbb := VL hb
  have q0 : (b.set 31 (b.getD 31 0 % 128)).length = 32 := by rw [List.length_set]; exact hl
  have q1 : 0 <= b.getD 31 0 % 128 := by omega
  have q2 : b.getD 31 0 % 128 < 256 := by omega
  have q3 : 0 <= b.getD 31 0 := by omega
  have q4 : b.getD 31 0 < 256 := by omega
  have hsl : b.set 31 (b.getD 31 0 % 128) = VN b := by rw [g]; rfl
  have hy := Qfw hbb hlb
  have hyr : 0 <= yI b /\ yI b < 2 ^ 256 := Zj (VN b) hbb
  change PV _ _ _ _ (.a .u64 (Qf 4 (yI b)) 4) at hy
  by_cases hlow : yI b < pV
  . have hyv : yI b = ((yF b).val : Int) := by unfold yF; rw [KV, Int.emod_eq_of_lt hyr.1 hlow]
    have hL := Ee hyr Jo hlow
    rw [hyv] at hy hL
    have k1 := XN (yF b) (yF b)
    have k3 := XN dF (yF b * yF b)
    have k4 := (QbX (dF * (yF b * yF b)) 1).arg (G0 Qci)
    have k5 := (Ez (yF b * yF b) 1).arg (G0 Qci)
    have k6 := Qiz (dF * (yF b * yF b) + 1)
    have k7 := XN (yF b * yF b - 1) (X9 (dF * (yF b * yF b) + 1))
    have hu : (yF b * yF b - 1) * X9 (dF * (yF b * yF b) + 1) = uF (yF b) := by
      unfold uF
      rw [show dF * (yF b * yF b) = yF b * yF b * dF by grobner]
    rw [hu] at k7
    have k8 := Qeo (Z9 (uF (yF b)))
    rw [<- FX] at k8
    change PV _ _ _ _ (.t [.a .u64 (Qf 4 ((Hv b).val : Int)) 4, .l (okF (uF (yF b)))]) at k8
    have n := fun v => Qa 4 v
    cases hok : okF (uF (yF b)) with
    | false =>
      rw [hok] at k8
      exact ⟨fun h => absurd h.ok (by rw [hok]; decide), fun _ => Qg0 hl hlb q0 q1 q2 q3 q4 hsl (n _) (n _) (n _) (n _) (n _) (n _) (n _) (n _) (n _) (n _) hy P_r hL k1 D_r k3 k4 k5 k6 k7 k8⟩
    | true =>
      rw [hok] at k8
      cases ho : odB b with
      | false =>
        have hxf : xF b = Hv b := by unfold xF; rw [ho]; rfl
        have ho2 : decide (128 <= b.getD 31 0) = false := by rw [g]; exact ho
        refine ⟨fun _ => ?_, fun h => absurd ⟨hlow, hok, fun e => by rw [ho] at e; exact absurd e.1 (by decide)⟩ h⟩
        rw [hxf]
        exact (QgX hl hlb q0 q1 q2 q3 q4 hsl ho2 (n _) (n _) (n _) (n _) (n _) (n _) (n _) (n _) (n _) (n _) hy P_r hL k1 D_r k3 k4 k5 k6 k7 k8).res (Qfl _ _) rfl
      | true =>
        have ho2 : decide (128 <= b.getD 31 0) = true := by rw [g]; exact ho
        by_cases hx : Hv b = 0
        . exact ⟨fun h => absurd ⟨ho, hx⟩ h.one, fun _ => QgZ hl hlb q0 q1 q2 q3 q4 hsl ho2 (n _) (n _) (n _) (n _) (n _) (n _) (n _) (n _) (n _) (n _) hy P_r hL k1 D_r k3 k4 k5 k6 k7 k8 ((E2 _).2 hx)⟩
        . have hxf : xF b = -Hv b := by unfold xF; rw [ho]; rfl
          have k9 := (Ez 0 (Hv b)).arg (QhH QaD)
          rw [Qli] at k9
          refine ⟨fun _ => ?_, fun h => absurd ⟨hlow, hok, fun e => hx e.2⟩ h⟩
          rw [hxf]
          exact (QgY hl hlb q0 q1 q2 q3 q4 hsl ho2 (n _) (n _) (n _) (n _) (n _) (n _) (n _) (n _) (n _) (n _) (n _) hy P_r hL k1 D_r k3 k4 k5 k6 k7 k8 k9 (fun e => hx ((E2 _).1 e))).res (Qfl _ _) rfl
  . exact ⟨fun h => absurd h.low hlow, fun _ => Qg1 hl hlb q0 q1 q2 q3 q4 hsl (Qa 4 _) (Qa 4 _) hy P_r (Eg hyr Jo hlow)⟩
theorem DO (P : Pt) : Ht (P.x, P.y, 1) P := ⟨by show (1 : FF) ≠ 0; decide +kernel, by show P.x = P.x * 1; grobner, by show P.y = P.y * 1; grobner⟩
theorem QhJ : PV Tryz.prog gT 41 [] (np (Hf, He, 1)) := by
  have h : PV Tryz.prog gT 41 [] (.g [.i .u64 14507833142362363162, .i .u64 7578651490590762930, .i .u64 13881468655802702940, .i .u64 2407515759118799870, .i .u64 7378697629483820632, .i .u64 7378697629483820646, .i .u64 7378697629483820646, .i .u64 7378697629483820646, .i .u64 1, .i .u64 0, .i .u64 0, .i .u64 0]) := by
    refine PV.mk' Tryz.func41 rfl rfl rfl rfl fun w L hL hG => ?_
    refine S.enter Qm [] gT Tryz.func41 rfl rfl rfl (fun _ => rfl) hL hG ?_
    refine S.go false rfl (by repeat' (first | exact True.intro | refine And.intro ?_ ?_ | assumption | omega | (dsimp only; omega) | (simp only [Nat.add_eq, Nat.mul_eq, Nat.sub_eq, SV.wd]; omega) | exact rfl)) ?_
    exact S.retv rfl rfl rfl rfl rfl
  have e1 : Qf 4 (Hf.val : Int) = [14507833142362363162, 7578651490590762930, 13881468655802702940, 2407515759118799870] := by decide +kernel
  have e2 : Qf 4 (He.val : Int) = [7378697629483820632, 7378697629483820646, 7378697629483820646, 7378697629483820646] := by decide +kernel
  refine h.res ?_ rfl
  unfold np
  simp only [e1, e2, Qci]
  rfl
theorem Qe8 {P : Pt} : Ht (0 - P.x, P.y, 1) (X8 P) := ⟨by show (1 : FF) ≠ 0; decide +kernel, by show 0 - P.x = -P.x * 1; grobner, by show P.y = P.y * 1; grobner⟩
theorem Qkx {b : List Int} (hb : Qe b) (hl : b.length = 32) : (∀ h : Yj b, PV Tryz.prog gT 29 [.a .u8 b 32] (.t [.a .u8 (XE (X8 (Kr b h))) 32, .i .i64 0])) /\ (¬ Yj b -> PV Tryz.prog gT 29 [.a .u8 b 32] (.t [.a .u8 (List.replicate 32 0) 32, .i .i64 1])) := by
  refine ⟨fun h => ?_, fun h => ?_⟩
  . have h1 := (FV hb hl).1 h
    have h2 := (Ez 0 (xF b)).arg (QhH QaD)
    have h3 := QcN (Qe8 (P := Kr b h))
    change PV _ _ _ [np (0 - xF b, yF b, 1)] _ at h3
    have hel := Q0 (X8 (Kr b h))
    generalize XE (X8 (Kr b h)) = r at *
    have n := fun v => Qa 4 v
    unfold np at h1 h3
    dsimp only at h1 h3
    have l1 := n ((xF b).val : Int); have l2 := n ((yF b).val : Int); have l3 := n ((1 : FF).val : Int); have l4 := n ((0 - xF b : FF).val : Int)
    generalize Qf 4 ((0 - xF b : FF).val : Int) = X at *
    generalize Qf 4 ((xF b).val : Int) = x at *
    generalize Qf 4 ((yF b).val : Int) = y at *
    generalize Qf 4 ((1 : FF).val : Int) = o at *
    refine PV.mk' Tryz.func29 rfl rfl rfl rfl fun w L hL hG => ?_
    refine S.enter Qm [.a .u8 b 32] gT Tryz.func29 rfl rfl rfl (fun _ => rfl) hL hG ?_
    refine S.go false rfl (by repeat' (first | exact True.intro | refine And.intro ?_ ?_ | assumption | omega | (dsimp only; omega) | (simp only [Nat.add_eq, Nat.mul_eq, Nat.sub_eq, SV.wd]; omega) | exact rfl)) ?_
    refine S.cv rfl rfl rfl rfl rfl rfl h1 ?_
    refine S.go false rfl (by repeat' (first | exact True.intro | refine And.intro ?_ ?_ | assumption | omega | (dsimp only; omega) | (simp only [Nat.add_eq, Nat.mul_eq, Nat.sub_eq, SV.wd]; omega) | exact rfl)) ?_
    refine S.cv rfl rfl rfl rfl rfl rfl h2 ?_
    refine S.go false rfl (by repeat' (first | exact True.intro | refine And.intro ?_ ?_ | assumption | omega | (dsimp only; omega) | (simp only [Nat.add_eq, Nat.mul_eq, Nat.sub_eq, SV.wd]; omega) | exact rfl)) ?_
    refine S.cv rfl rfl rfl rfl rfl rfl h3 ?_
    refine S.go false rfl (by repeat' (first | exact True.intro | refine And.intro ?_ ?_ | assumption | omega | (dsimp only; omega) | (simp only [Nat.add_eq, Nat.mul_eq, Nat.sub_eq, SV.wd]; omega) | exact rfl)) ?_
    exact S.rett rfl rfl rfl rfl rfl
  . have h1 := (FV hb hl).2 h
    refine PV.mk' Tryz.func29 rfl rfl rfl rfl fun w L hL hG => ?_
    refine S.enter Qm [.a .u8 b 32] gT Tryz.func29 rfl rfl rfl (fun _ => rfl) hL hG ?_
    refine S.go false rfl (by repeat' (first | exact True.intro | refine And.intro ?_ ?_ | assumption | omega | (dsimp only; omega) | (simp only [Nat.add_eq, Nat.mul_eq, Nat.sub_eq, SV.wd]; omega) | exact rfl)) ?_
    refine S.cv rfl rfl rfl rfl rfl rfl h1 ?_
    refine S.go false rfl (by repeat' (first | exact True.intro | refine And.intro ?_ ?_ | assumption | omega | (dsimp only; omega) | (simp only [Nat.add_eq, Nat.mul_eq, Nat.sub_eq, SV.wd]; omega) | exact rfl)) ?_
    exact S.rett rfl rfl rfl rfl rfl
theorem QkA {a p b : List Int} (ha : Qe a) (hal : a.length = 32) (hb : Qe b) (hbl : b.length = 32) (hp : Qe p) (hpl : p.length = 32) : (∀ h : Yj p, PV Tryz.prog gT 31 [.a .u8 a 32, .a .u8 p 32, .a .u8 b 32] (.t [.a .u8 (XE (Qq (QG (kB a) (Kr p h)) (QG (kB b) bP))) 32, .i .i64 0])) /\ (¬ Yj p -> PV Tryz.prog gT 31 [.a .u8 a 32, .a .u8 p 32, .a .u8 b 32] (.t [.a .u8 (List.replicate 32 0) 32, .i .i64 1])) := by
  refine ⟨fun h => ?_, fun h => ?_⟩
  . have h1 := (FV hp hpl).1 h
    have h2 := Qfq ha hal (xF p, yF p, 1)
    have h3 := QhJ
    have h4 := Qfq hb hbl (Hf, He, 1)
    have h5 := Qa3 (XO (xF p, yF p, 1) 256 (kB a)) (XO (Hf, He, 1) 256 (kB b))
    have h6 := QcN (GF (Vg (DO (Kr p h)) 256 (kB a) (QfE ha)) (Vg (DO bP) 256 (kB b) (QfE hb)))
    change PV _ _ _ [np (V6 (XO (xF p, yF p, 1) 256 (kB a)) (XO (Hf, He, 1) 256 (kB b)))] _ at h6
    have hel := Q0 (Qq (QG (kB a) (Kr p h)) (QG (kB b) bP))
    generalize XE (Qq (QG (kB a) (Kr p h)) (QG (kB b) bP)) = r at *
    generalize V6 (XO (xF p, yF p, 1) 256 (kB a)) (XO (Hf, He, 1) 256 (kB b)) = s at *
    generalize XO (xF p, yF p, 1) 256 (kB a) = c at *
    generalize XO (Hf, He, 1) 256 (kB b) = d at *
    generalize ((Hf, He, 1) : FF × FF × FF) = e at *
    generalize ((xF p, yF p, 1) : FF × FF × FF) = f at *
    have n := fun v => Qa 4 v
    unfold np at h1 h2 h3 h4 h5 h6
    have lsX := n ((s).1.val : Int); have lsY := n ((s).2.1.val : Int); have lsZ := n ((s).2.2.val : Int)
    have lcX := n ((c).1.val : Int); have lcY := n ((c).2.1.val : Int); have lcZ := n ((c).2.2.val : Int)
    have ldX := n ((d).1.val : Int); have ldY := n ((d).2.1.val : Int); have ldZ := n ((d).2.2.val : Int)
    have leX := n ((e).1.val : Int); have leY := n ((e).2.1.val : Int); have leZ := n ((e).2.2.val : Int)
    have lfX := n ((f).1.val : Int); have lfY := n ((f).2.1.val : Int); have lfZ := n ((f).2.2.val : Int)
    generalize Qf 4 ((s).1.val : Int) = sX at *
    generalize Qf 4 ((s).2.1.val : Int) = sY at *
    generalize Qf 4 ((s).2.2.val : Int) = sZ at *
    generalize Qf 4 ((c).1.val : Int) = cX at *
    generalize Qf 4 ((c).2.1.val : Int) = cY at *
    generalize Qf 4 ((c).2.2.val : Int) = cZ at *
    generalize Qf 4 ((d).1.val : Int) = dX at *
    generalize Qf 4 ((d).2.1.val : Int) = dY at *
    generalize Qf 4 ((d).2.2.val : Int) = dZ at *
    generalize Qf 4 ((e).1.val : Int) = eX at *
    generalize Qf 4 ((e).2.1.val : Int) = eY at *
    generalize Qf 4 ((e).2.2.val : Int) = eZ at *
    generalize Qf 4 ((f).1.val : Int) = fX at *
    generalize Qf 4 ((f).2.1.val : Int) = fY at *
    generalize Qf 4 ((f).2.2.val : Int) = fZ at *
    refine PV.mk' Tryz.func31 rfl rfl rfl rfl fun w L hL hG => ?_
    refine S.enter Qm [.a .u8 a 32, .a .u8 p 32, .a .u8 b 32] gT Tryz.func31 rfl rfl rfl (fun _ => rfl) hL hG ?_
    refine S.go false rfl (by repeat' (first | exact True.intro | refine And.intro ?_ ?_ | assumption | omega | (dsimp only; omega) | (simp only [Nat.add_eq, Nat.mul_eq, Nat.sub_eq, SV.wd]; omega) | exact rfl)) ?_
    refine S.cv rfl rfl rfl rfl rfl rfl h1 ?_
    refine S.go false rfl (by repeat' (first | exact True.intro | refine And.intro ?_ ?_ | assumption | omega | (dsimp only; omega) | (simp only [Nat.add_eq, Nat.mul_eq, Nat.sub_eq, SV.wd]; omega) | exact rfl)) ?_
    refine S.drp false [(2, .g [.a .u64 cX 4, .a .u64 cY 4, .a .u64 cZ 4]), (4, .g [.a .u64 eX 4, .a .u64 eY 4, .a .u64 eZ 4]), (5, .g [.a .u64 dX 4, .a .u64 dY 4, .a .u64 dZ 4]), (6, .g [.a .u64 sX 4, .a .u64 sY 4, .a .u64 sZ 4]), (7, .a .u8 r 32)] rfl rfl rfl ?_ (by repeat' (first | exact True.intro | refine And.intro ?_ ?_ | assumption | omega | (dsimp only; omega) | (simp only [Nat.add_eq, Nat.mul_eq, Nat.sub_eq, SV.wd]; omega) | exact rfl))
    refine S.go false rfl (by repeat' (first | exact True.intro | refine And.intro ?_ ?_ | assumption | omega | (dsimp only; omega) | (simp only [Nat.add_eq, Nat.mul_eq, Nat.sub_eq, SV.wd]; omega) | exact rfl)) ?_
    exact S.rett rfl rfl rfl rfl rfl
  . have h1 := (FV hp hpl).2 h
    refine PV.mk' Tryz.func31 rfl rfl rfl rfl fun w L hL hG => ?_
    refine S.enter Qm [.a .u8 a 32, .a .u8 p 32, .a .u8 b 32] gT Tryz.func31 rfl rfl rfl (fun _ => rfl) hL hG ?_
    refine S.go false rfl (by repeat' (first | exact True.intro | refine And.intro ?_ ?_ | assumption | omega | (dsimp only; omega) | (simp only [Nat.add_eq, Nat.mul_eq, Nat.sub_eq, SV.wd]; omega) | exact rfl)) ?_
    refine S.cv rfl rfl rfl rfl rfl rfl h1 ?_
    refine S.go false rfl (by repeat' (first | exact True.intro | refine And.intro ?_ ?_ | assumption | omega | (dsimp only; omega) | (simp only [Nat.add_eq, Nat.mul_eq, Nat.sub_eq, SV.wd]; omega) | exact rfl)) ?_
    exact S.rett rfl rfl rfl rfl rfl
def Xw (x s : Int) : Int := bits BinOp.or .u64 (x * 2 ^ s.toNat % 18446744073709551616) (x / 2 ^ (64 - s).toNat)
def Xa (x : Int) : Prop := 0 <= x /\ x < 18446744073709551616
theorem Fz (op : BinOp) (a b : Int) : Xa (bits op .u64 a b) := by
  have h := bits_within op .u64 a b
  have h1 : IntKind.min .u64 = 0 := by decide
  have h2 : IntKind.max .u64 = 18446744073709551616 - 1 := by decide
  rw [h1, h2] at h
  unfold Xa
  omega
theorem Ze (x k : Int) (w : World) (hx : Xa x) (s : Int) (hs : bits BinOp.and .u64 (IntKind.u64.wrap k) 63 = s) (h0 : 0 <= s) (h1 : s < 64) :
    Calls Tryz.prog 45 #[.int .u64 x, .int .i64 k] w fun e w' => e = .returned (.int .u64 (Xw x s)) /\ w' = w := by
  obtain ⟨hx0, hx1⟩ := hx
  go_enter Tryz.func45, Tryz.ntmps45
  go_wp2
  go_ret
  exact ⟨rfl, rfl⟩
def Uw (x : Int) : Int := bits BinOp.xor .u64 (bits BinOp.xor .u64 (Xw x 36) (Xw x 30)) (Xw x 25)
theorem Qgh (x : Int) (w : World) (hx : Xa x) : Calls Tryz.prog 44 #[.int .u64 x] w fun e w' => e = .returned (.int .u64 (Uw x)) /\ w' = w := by
  have hx' := hx
  obtain ⟨hx0, hx1⟩ := hx'
  go_enter Tryz.func44, Tryz.ntmps44
  go_wp2_with (first
    | (go_at_call 45; first | (with_reducible refine (Ze x (-28) _ hx 36 (by decide) (by decide) (by decide)).mono ?_; rintro e w1 ⟨rfl, rfl⟩) | (with_reducible refine (Ze x (-34) _ hx 30 (by decide) (by decide) (by decide)).mono ?_; rintro e w2 ⟨rfl, rfl⟩) | (with_reducible refine (Ze x (-39) _ hx 25 (by decide) (by decide) (by decide)).mono ?_; rintro e w3 ⟨rfl, rfl⟩)))
  go_ret
  exact ⟨rfl, rfl⟩
def YL (x : Int) : Int := bits BinOp.xor .u64 (bits BinOp.xor .u64 (Xw x 50) (Xw x 46)) (Xw x 23)
theorem Qgg (x : Int) (w : World) (hx : Xa x) : Calls Tryz.prog 46 #[.int .u64 x] w fun e w' => e = .returned (.int .u64 (YL x)) /\ w' = w := by
  have hx' := hx
  obtain ⟨hx0, hx1⟩ := hx'
  go_enter Tryz.func46, Tryz.ntmps46
  go_wp2_with (first
    | (go_at_call 45; first | (with_reducible refine (Ze x (-14) _ hx 50 (by decide) (by decide) (by decide)).mono ?_; rintro e w1 ⟨rfl, rfl⟩) | (with_reducible refine (Ze x (-18) _ hx 46 (by decide) (by decide) (by decide)).mono ?_; rintro e w2 ⟨rfl, rfl⟩) | (with_reducible refine (Ze x (-41) _ hx 23 (by decide) (by decide) (by decide)).mono ?_; rintro e w3 ⟨rfl, rfl⟩)))
  go_ret
  exact ⟨rfl, rfl⟩
def YC (x : Int) : Int := bits BinOp.xor .u64 (bits BinOp.xor .u64 (Xw x 63) (Xw x 56)) (x / 128)
theorem Qfv (x : Int) (w : World) (hx : Xa x) : Calls Tryz.prog 47 #[.int .u64 x] w fun e w' => e = .returned (.int .u64 (YC x)) /\ w' = w := by
  have hx' := hx
  obtain ⟨hx0, hx1⟩ := hx'
  go_enter Tryz.func47, Tryz.ntmps47
  go_wp2_with (first
    | (go_at_call 45; first | (with_reducible refine (Ze x (-1) _ hx 63 (by decide) (by decide) (by decide)).mono ?_; rintro e w1 ⟨rfl, rfl⟩) | (with_reducible refine (Ze x (-8) _ hx 56 (by decide) (by decide) (by decide)).mono ?_; rintro e w2 ⟨rfl, rfl⟩)))
  go_ret
  exact ⟨rfl, rfl⟩
def VM (x : Int) : Int := bits BinOp.xor .u64 (bits BinOp.xor .u64 (Xw x 45) (Xw x 3)) (x / 64)
theorem Qfu (x : Int) (w : World) (hx : Xa x) : Calls Tryz.prog 48 #[.int .u64 x] w fun e w' => e = .returned (.int .u64 (VM x)) /\ w' = w := by
  have hx' := hx
  obtain ⟨hx0, hx1⟩ := hx'
  go_enter Tryz.func48, Tryz.ntmps48
  go_wp2_with (first
    | (go_at_call 45; first | (with_reducible refine (Ze x (-19) _ hx 45 (by decide) (by decide) (by decide)).mono ?_; rintro e w1 ⟨rfl, rfl⟩) | (with_reducible refine (Ze x (-61) _ hx 3 (by decide) (by decide) (by decide)).mono ?_; rintro e w2 ⟨rfl, rfl⟩)))
  go_ret
  exact ⟨rfl, rfl⟩
/-- The block of the rounds' variable: width, count, state, four functions. -/
def Xk (w : World) (B : Nat) (st : List Int) : Prop := st.length = 8 /\ (∀ x ∈ st, Xa x) /\ ∃ t, w.heap[B]? = some (.cells ([Value.int .i64 64, Value.int .i64 80] ++ st.map (Value.int .u64) ++ [Value.func (.func 44) #[] #[], Value.func (.func 46) #[] #[], Value.func (.func 47) #[] #[], Value.func (.func 48) #[] #[]]).toArray t (0, 0))
theorem Xk.lt {w : World} {B : Nat} {st : List Int} (h : Xk w B st) : B < w.heap.size := by
  obtain ⟨_, _, t, h⟩ := h
  exact (Array.getElem?_eq_some_iff.1 h).1
theorem Xk.but {w w' : World} {B : Nat} {st : List Int} (h : Xk w B st) {row : Option Nat} (hb : w.grownBy w' row) (hr : some B ≠ row) : Xk w' B st := by
  have hl := h.lt
  obtain ⟨h1, h2, t, h⟩ := h
  exact ⟨h1, h2, t, by obtain ⟨_, _, _, _, hb5⟩ := hb; rw [hb5 B hl hr]; exact h⟩
theorem Xk.below {w w' : World} {B : Nat} {st : List Int} (h : Xk w B st) (hb : Below w.heap.size w w') : Xk w' B st := by
  have hl := h.lt
  obtain ⟨h1, h2, t, h⟩ := h
  exact ⟨h1, h2, t, by rw [hb.block B hl]; exact h⟩
theorem Xk.cell {w : World} {B : Nat} {st : List Int} (h : Xk w B st) (k : Nat) (v : Value) (hv : ([Value.int .i64 64, Value.int .i64 80] ++ st.map (Value.int .u64) ++ [Value.func (.func 44) #[] #[], Value.func (.func 46) #[] #[], Value.func (.func 47) #[] #[], Value.func (.func 48) #[] #[]])[k]? = some v) : w.cell? ⟨B, k, none⟩ = some v /\ w.frozen? ⟨B, k, none⟩ = false := by
  obtain ⟨h1, h2, t, h⟩ := h
  have hk := (List.getElem?_eq_some_iff.1 hv).1
  constructor
  . simp [World.cell?, h] at hv ⊢
    exact hv
  . simp [World.frozen?, h]
theorem Xk.width {w : World} {B : Nat} {st : List Int} (h : Xk w B st) : w.cell? ⟨B, 0, none⟩ = some (.int .i64 64) := (h.cell 0 _ rfl).1
theorem Xk.count {w : World} {B : Nat} {st : List Int} (h : Xk w B st) : w.cell? ⟨B, 1, none⟩ = some (.int .i64 80) := (h.cell 1 _ rfl).1
theorem Xk.stAt {w : World} {B : Nat} {st : List Int} (h : Xk w B st) {j : Nat} (hj : j < 8) : w.cell? ⟨B, 2 + j, none⟩ = some (.int .u64 (Qb st j)) /\ w.frozen? ⟨B, 2 + j, none⟩ = false := by
  refine h.cell (2 + j) _ ?_
  have hl := h.1
  rw [List.getElem?_append_left (by simp; omega), List.getElem?_append_right (by simp)]
  simp [Qb, show j < st.length by omega]
theorem Xk.fn {w : World} {B : Nat} {st : List Int} (h : Xk w B st) : w.cell? ⟨B, 10, none⟩ = some (.func (.func 44) #[] #[]) /\ w.cell? ⟨B, 11, none⟩ = some (.func (.func 46) #[] #[]) /\ w.cell? ⟨B, 12, none⟩ = some (.func (.func 47) #[] #[]) /\ w.cell? ⟨B, 13, none⟩ = some (.func (.func 48) #[] #[]) := by
  have hl := h.1
  refine ⟨(h.cell 10 _ ?_).1, (h.cell 11 _ ?_).1, (h.cell 12 _ ?_).1, (h.cell 13 _ ?_).1⟩ <;> simp [hl]
theorem Xk.set {w : World} {B : Nat} {st : List Int} (h : Xk w B st) {j : Nat} (hj : j < 8) {x : Int} (hx : Xa x) : Xk (w.setCell ⟨B, 2 + j, none⟩ (.int .u64 x)) B (st.set j x) := by
  obtain ⟨h1, h2, t, h⟩ := h
  refine ⟨by simp [h1], fun y hy => ?_, t, ?_⟩
  . rcases List.mem_or_eq_of_mem_set hy with k | rfl
    . exact h2 y k
    . exact hx
  . simp only [World.setCell, Array.getElem?_modify, h]
    have e : ∀ (a b v : Value) (l r : List Value), j < l.length -> ([a, b] ++ l ++ r).set (2 + j) v = [a, b] ++ l.set j v ++ r := by
      intro a b v l r hl
      rw [Nat.add_comm, List.append_assoc, List.append_assoc]
      show a :: b :: (l ++ r).set j v = a :: b :: (l.set j v ++ r)
      rw [List.set_append_left _ _ hl]
    have e2 := e (Value.int .i64 64) (Value.int .i64 80) (Value.int .u64 x) (st.map (Value.int .u64)) [Value.func (.func 44) #[] #[], Value.func (.func 46) #[] #[], Value.func (.func 47) #[] #[], Value.func (.func 48) #[] #[]] (by simp [h1, hj])
    rw [List.map_set, <- e2]
    simp
theorem Xk.stIn {w : World} {B : Nat} {st : List Int} (h : Xk w B st) (j : Nat) : Xa (Qb st j) := by
  by_cases hj : j < st.length
  . exact h.2.1 _ (Ga hj)
  . unfold Xa; simp [Qb, hj]
theorem QcI (x : Int) (w : World) (B : Nat) (st : List Int) (hr : Xk w B st) (hx : Xa x) : Calls Tryz.prog 93 #[.pointer (some ⟨B, 0, none⟩), .int .u64 x] w fun e w' => e = .returned (.int .u64 x) /\ w' = w := by
  have h0 := hr.width
  have hl := hr.lt
  obtain ⟨hx0, hx1⟩ := hx
  go_enter Tryz.func93, Tryz.ntmps93
  go_wp2
  go_ret
  exact ⟨rfl, rfl⟩
def Xd : List Int := [7640891576956012808, 13503953896175478587, 4354685564936845355, 11912009170470909681, 5840696475078001361, 11170449401992604703, 2270897969802886507, 6620516959819538809]
def Xr : List Int := [4794697086780616226, 8158064640168781261, 13096744586834688815, 16840607885511220156, 4131703408338449720, 6480981068601479193, 10538285296894168987, 12329834152419229976, 15566598209576043074, 1334009975649890238, 2608012711638119052, 6128411473006802146, 8268148722764581231, 9286055187155687089, 11230858885718282805, 13951009754708518548, 16472876342353939154, 17275323862435702243, 1135362057144423861, 2597628984639134821, 3308224258029322869, 5365058923640841347, 6679025012923562964, 8573033837759648693, 10970295158949994411, 12119686244451234320, 12683024718118986047, 13788192230050041572, 14330467153632333762, 15395433587784984357, 489312712824947311, 1452737877330783856, 2861767655752347644, 3322285676063803686, 5560940570517711597, 5996557281743188959, 7280758554555802590, 8532644243296465576, 9350256976987008742, 10552545826968843579, 11727347734174303076, 12113106623233404929, 14000437183269869457, 14369950271660146224, 15101387698204529176, 15463397548674623760, 17586052441742319658, 1182934255886127544, 1847814050463011016, 2177327727835720531, 2830643537854262169, 3796741975233480872, 4115178125766777443, 5681478168544905931, 6601373596472566643, 7507060721942968483, 8399075790359081724, 8693463985226723168, 9568029438360202098, 10144078919501101548, 10430055236837252648, 11840083180663258601, 13761210420658862357, 14299343276471374635, 14566680578165727644, 15097957966210449927, 16922976911328602910, 17689382322260857208, 500013540394364858, 748580250866718886, 1242879168328830382, 1977374033974150939, 2944078676154940804, 3659926193048069267, 4368137639120453308, 4836135668995329356, 5532061633213252278, 6448918945643986474, 6902733635092675308, 7801388544844847127]
/-- What the tables of sha hold. -/
structure Yc (w : World) : Prop where
  sq : ∀ k, k < 8 -> w.cell? ⟨1, k, none⟩ = some (.int .u64 (Qb Xd k))
  cu : ∀ k, k < 80 -> w.cell? ⟨5, k, none⟩ = some (.int .u64 (Qb Xr k))
theorem Yc.lt {w : World} (h : Yc w) : 1 < w.heap.size /\ 5 < w.heap.size := ⟨World.block_lt_of_cell? w _ (h.sq 0 (by decide)), World.block_lt_of_cell? w _ (h.cu 0 (by decide))⟩
theorem Yc.but {w w' : World} (h : Yc w) {B : Nat} (hb : w.grownBy w' (some B)) (hs : 1 ≠ B) (hc : 5 ≠ B) : Yc w' :=
  ⟨fun k hk => hb.cell (h.sq k hk) (by simpa using hs), fun k hk => hb.cell (h.cu k hk) (by simpa using hc)⟩
theorem Yc.below {w w' : World} (h : Yc w) (hb : Below w.heap.size w w') : Yc w' :=
  ⟨fun k hk => by rw [hb.cell h.lt.1]; exact h.sq k hk, fun k hk => by rw [hb.cell h.lt.2]; exact h.cu k hk⟩
theorem QaW : ∀ k, k < 8 -> Xa (Qb Xd k) := by unfold Xa; decide
theorem Qf8 : ∀ k, k < 80 -> Xa (Qb Xr k) := by unfold Xa; decide
theorem Zn {w w' : World} {B : Nat} (h : w.grownBy w' (some B)) (o : Nat) (v : Value) : w.grownBy (w'.setCell ⟨B, o, none⟩ v) (some B) := by
  refine ⟨h.os, h.tape, h.output, ?_, fun k hk hne => ?_⟩
  . have := h.size
    simpa [World.setCell] using this
  . rw [heap_setCell_other w' ⟨B, o, none⟩ k v (by simpa using hne)]
    exact h.block k hk hne
theorem VP {w w' : World} {row : Option Nat} (h : w.grownBy w' row) : w.grownBy w'.drew row := ⟨h.os, h.tape, h.output, h.size, h.block⟩
def QU : List Int := (List.range 8).map fun k => Qb Xd k
theorem Hj (k : Nat) (hk : k < 8) : Qb QU k = Qb Xd k := by simp [QU, Qb, hk]
theorem QdO (w : World) (B : Nat) (st : List Int) (hr : Xk w B st) (hT : Yc w) (hs : 1 ≠ B) (hc : 5 ≠ B) :
    Calls Tryz.prog 49 #[.pointer (some ⟨B, 0, none⟩)] w fun e w' => (∃ v, e = .returned v) /\ Xk w' B QU /\ w.grownBy w' (some B) := by
  go_enter Tryz.func49, Tryz.ntmps49
  go_wp2
  go_loopw [3] (fun i wr => ∃ (k : Nat) (st : List Int), k <= 8 /\ i = .int .i64 k /\ Xk wr B st /\ w.grownBy wr (some B) /\ ∀ k', k' < k -> Qb st k' = Qb QU k') (fun i _ => 8 - (intOf i).toNat)
  case atStart => exact ⟨0, st, by omega, rfl, hr, World.grownBy.refl _ _, fun k' h => by omega⟩
  case round =>
    obtain ⟨k, st, hk, rfl, hr, hg, hst⟩ := hrel
    have hT' : Yc wr := hT.but hg hs hc
    have hl := hr.lt
    by_cases hlt : k < 8
    . have c0 := hT'.sq k hlt
      obtain ⟨c1, f1⟩ := hr.stAt hlt
      have hin := QaW k hlt
      have hcut := fun W (h : Xk W B st) => QcI (Qb Xd k) W B st h hin
      go_wp2
      go_region_with (go_at_call 93; refine (hcut _ (by first | exact hr | exact hr.drew)).mono ?_; rintro e w9 ⟨rfl, rfl⟩)
      go_wp2
      refine ⟨⟨k + 1, st.set k (Qb QU k), by omega, by go_num, ?_, ?_, fun k' hk' => ?_⟩, by simp only [intOf]; omega⟩
      . have h := hr.set (j := k) hlt (x := Qb Xd k) (by unfold Xa at hin; unfold Xa; omega)
        rw [Hj k hlt]
        exact h
      . exact VP (Zn hg _ _)
      . rw [YX st k k' _ (by rw [hr.1]; exact hlt)]
        by_cases e : k' = k
        . rw [if_pos e, e]
        . rw [if_neg e]; exact hst k' (by omega)
    . obtain rfl : k = 8 := by omega
      have e : st = QU := Xv (by rw [hr.1]; rfl) fun j h => hst j (by rw [hr.1] at h; exact h)
      subst e
      go_wp2
      refine bodyPost_end (v := .tuple #[]) (by simp [results, Tryz.results49]) rfl ?_
      exact ⟨⟨_, rfl⟩, hr, hg⟩
theorem Ho {K : IntKind} {w : World} {B : Nat} {zs : List Int} (h : Y4 K w B zs) : Y4 K w.drew B zs := h
theorem Vs {B : Nat} {a w : World} (h : Below B a w) {g : Nat} (hg : B <= g) (cs : Array Value) : Below B a (w.setRow g cs) := by
  refine ⟨h.os, h.tape, h.output, ?_, fun k hk => ?_⟩
  . have := h.size
    simpa [World.setRow] using this
  . rw [setRow_other w g k cs (by omega)]
    exact h.block k hk
/-- Qe as one number, the highest first. -/
def beF : List Int -> Int := fun l => l.foldl (fun x c => x * 256 + c) 0
theorem Hk (l : List Int) (c : Int) : beF (l ++ [c]) = beF l * 256 + c := by simp [beF]
theorem EK : ∀ (n : Nat) (l : List Int), l.length = n -> Qe l -> 0 <= beF l /\ beF l < 256 ^ n
  | 0, l, h, _ => by
    obtain rfl : l = [] := List.length_eq_zero_iff.1 h
    simp [beF]
  | n + 1, l, h, hb => by
    have hne : l ≠ [] := by rintro rfl; simp at h
    rw [<- List.dropLast_concat_getLast hne] at hb ⊢
    have ih := EK n l.dropLast (by simp [h]) (fun x hx => hb x (by simp [hx]))
    have hc := hb (l.getLast hne) (by simp)
    rw [Hk, Int.pow_succ]
    omega
theorem ZE {x : Int} (h0 : 0 <= x) (h1 : x < 4611686018427387904) : IntKind.i64.wrap x = x := by
  simp [IntKind.wrap, IntKind.bits, IntKind.signed]
  omega
theorem K9 (n j : Nat) : Qb (List.replicate n 0) j = 0 := by
  unfold Qb
  rw [List.getElem?_replicate]
  split <;> rfl
theorem Y7 (l : List Int) (t : Nat) (h : t < l.length) : l.take (t + 1) = l.take t ++ [Qb l t] := by
  rw [List.take_add_one, Hn h]; simp [h]
theorem Ge : (Tryz.prog.info? 125).bind (·.zero) = some (.agg (Array.replicate 80 (Value.int .u64 0))) := by kernel_rfl
theorem Jz : (Tryz.prog.info? 125).map (·.size) = some 80 := by kernel_rfl
theorem QbU : Tryz.prog.underlying 125 = some (.array 80 47) := by kernel_rfl
theorem Qch (x c : Int) (hx : 0 <= x /\ x < 72057594037927936) (hc : 0 <= c /\ c <= 255) : bits BinOp.or .u64 (x * 256) c = x * 256 + c := by
  obtain ⟨a, rfl⟩ := Int.eq_ofNat_of_zero_le hx.1
  obtain ⟨b, rfl⟩ := Int.eq_ofNat_of_zero_le hc.1
  have h := u64_or_nat (a * 256) b (by omega) (by omega)
  rw [show (((a * 256 : Nat) : Int)) = (a : Int) * 256 by simp] at h
  rw [h, GO (a * 256) b 8 (by omega) (by omega)]
  simp
/-- The words of a block. -/
def UR (zs : List Int) (i : Nat) : Int := beF ((zs.drop (i * 8)).take 8)
theorem Qc0 {zs : List Int} (hb : Qe zs) {i : Nat} (h : (i + 1) * 8 <= zs.length) : Xa (UR zs i) := by
  have := EK 8 ((zs.drop (i * 8)).take 8) (by simp; omega) (fun x hx => hb x (List.mem_of_mem_drop (List.mem_of_mem_take hx)))
  unfold Xa UR
  omega
def ZK (m : List Int) (i : Nat) : Int := (Qb m (i - 16) + YC (Qb m (i - 15)) + Qb m (i - 7) + VM (Qb m (i - 2))) % 18446744073709551616
def Qc (zs : List Int) : Nat -> List Int
  | 0 => (List.range 16).map (UR zs) ++ List.replicate 64 0
  | k + 1 => (Qc zs k).set (16 + k) (ZK (Qc zs k) (16 + k))
theorem Xe (zs : List Int) : ∀ k, (Qc zs k).length = 80
  | 0 => by simp [Qc]
  | k + 1 => by simp [Qc, Xe zs k]
theorem VA {zs : List Int} (hb : Qe zs) (hl : zs.length = 128) : ∀ k x, x ∈ Qc zs k -> Xa x
  | 0, x, hx => by
    rcases List.mem_append.1 hx with h | h
    . obtain ⟨i, hi, rfl⟩ := List.mem_map.1 h
      exact Qc0 hb (by have := List.mem_range.1 hi; omega)
    . obtain ⟨-, rfl⟩ := List.mem_replicate.1 h
      unfold Xa; omega
  | k + 1, x, hx => by
    rcases List.mem_or_eq_of_mem_set hx with h | rfl
    . exact VA hb hl k x h
    . unfold Xa ZK; omega
set_option maxHeartbeats 1000000 in
theorem FQ (w : World) (B : Nat) (st : List Int) (hr : Xk w B st) (v : Value) (zs : List Int) (hv : JS .u8 w v zs) (hb : Qe zs) (hl : zs.length = 128) :
    Calls Tryz.prog 126 #[.pointer (some ⟨B, 0, none⟩), v] w fun e w' => e = .returned (Xz .u64 (Qc zs 64)) /\ Below w.heap.size w w' := by
  obtain ⟨a, cap, rfl, hcap, hmax, hcell, -⟩ := hv
  obtain ⟨x, o, rfl, -⟩ := hcell 0 (by omega)
  replace hcell : ∀ k, k < 128 -> w.cell? ⟨x, o + k, none⟩ = some (.int .u8 (Qb zs k)) := fun k hk => by
    obtain ⟨x', o', e, h⟩ := hcell k (by omega)
    cases e
    exact h
  have hx : x < w.heap.size := World.block_lt_of_cell? w _ (hcell 0 (by omega))
  have hB := hr.lt
  have hwd := hr.width
  rw [hl] at hcap ⊢
  go_enter Tryz.func126, Tryz.ntmps126
  go_wp2_with (first
    | (with_reducible refine JM 4 ?_; refine Za rfl 125 rfl .u64 80 Ge ?_; intro w1 A1 s1 b1)
    | (with_reducible refine JM 5 ?_; refine Za rfl 125 rfl .u64 80 Ge ?_; intro w2 A2 s2 b2; replace A1 := A1.below b2; have BB := Qy b1 b2; replace hwd := (hr.below BB).width))
  go_loopw [17] (fun i wr => ∃ (k : Nat) (ms : List Int), k <= 16 /\ i = .int .i64 k /\ Y4 .u64 wr w.heap.size (List.replicate 80 0) /\ Y4 .u64 wr w1.heap.size ms /\ ms.length = 80 /\ (∀ j, j < 80 -> Qb ms j = if j < k then UR zs j else 0) /\ Below w.heap.size w wr) (fun i _ => 16 - (intOf i).toNat)
  case atStart => exact ⟨0, List.replicate 80 0, by omega, rfl, A1, A2, by simp, fun j h => by rw [K9, if_neg (by omega)], BB⟩
  case round =>
    clear A1 A2 BB hwd
    obtain ⟨k, ms, hk, rfl, A1, A2, hml, hms, BB⟩ := hrel
    by_cases hlt : k < 16
    . have hc : ∀ j, j < 8 -> wr.cell? ⟨x, o + k * 8 + j, none⟩ = some (.int .u8 (Qb ((zs.drop (k * 8)).take 8) j)) := fun j hj => by
        have h1 := hcell (k * 8 + j) (by omega)
        rw [<- Nat.add_assoc] at h1
        rw [BB.cell hx, h1]
        simp [Qb, hj]
      have hbp : Qe ((zs.drop (k * 8)).take 8) := fun y hy => hb y (List.mem_of_mem_drop (List.mem_of_mem_take hy))
      have hlp : ((zs.drop (k * 8)).take 8).length = 8 := by simp; omega
      generalize hps : (zs.drop (k * 8)).take 8 = ps at *
      clear hcell
      go_wp2
      have hlen : (k + 1) * 8 - k * 8 = 8 := by omega
      simp only [hlen]
      go_loopw [8, 30] (fun y j wq => ∃ (t : Nat), t <= 8 /\ j = .int .i64 t /\ y = .int .u64 (beF (ps.take t)) /\ wq = wr) (fun _ j _ => 8 - (intOf j).toNat)
      case atStart => exact ⟨0, by omega, rfl, rfl, rfl⟩
      case round =>
        obtain ⟨t, ht, rfl, rfl, rfl⟩ := hrel
        by_cases hlt2 : t < 8
        . have hc0 := hc t hlt2
          have hbt := EK t (ps.take t) (by simp [hlp]; omega) (fun y hy => hbp y (List.mem_of_mem_take hy))
          have hcb := hbp.at t
          have hsn : beF (ps.take (t + 1)) = beF (ps.take t) * 256 + Qb ps t := by rw [Y7 ps t (by omega), Hk]
          generalize Qb ps t = c at *
          have hyb : 0 <= beF (ps.take t) /\ beF (ps.take t) < 72057594037927936 := by
            have hp : (256 : Int) ^ t <= 256 ^ 7 := by
              rcases (by omega : t = 0 \/ t = 1 \/ t = 2 \/ t = 3 \/ t = 4 \/ t = 5 \/ t = 6 \/ t = 7) with rfl | rfl | rfl | rfl | rfl | rfl | rfl | rfl <;> decide
            omega
          generalize beF (ps.take t) = y at *
          have ho := Qch y c hyb hcb
          have hy0 := hyb.1
          have hy1 := hyb.2
          replace hsn := Lib.hid hsn
          clear hbt hyb hc
          go_wp2
          refine ⟨⟨t + 1, by omega, by go_num, ?_, by trivial⟩, by simp only [intOf]; omega⟩
          rw [hsn.out]
        . obtain rfl : t = 8 := by omega
          have hw : beF (ps.take 8) = UR zs k := by rw [<- hlp, List.take_length, <- hps]; rfl
          rw [hw]
          have f0 := A2.free (k := k) (by omega)
          have c0 := A2.cell (k := k) (by omega)
          clear hc
          go_wp2
          refine ⟨⟨k + 1, ms.set k (UR zs k), by omega, by go_num, A1.setOther (by omega) _ _, A2.set _ _, by simp [hml], fun j hj => ?_, BB.setCell (by show w.heap.size <= w1.heap.size; omega) _⟩, by simp only [intOf]; omega⟩
          rw [YX ms k j _ (by omega)]
          by_cases e : j = k
          . rw [if_pos e, if_pos (by omega), e]
          . rw [if_neg e, hms j hj]
            by_cases e2 : j < k
            . rw [if_pos e2, if_pos (by omega)]
            . rw [if_neg e2, if_neg (by omega)]
    . obtain rfl : k = 16 := by omega
      have e : ms = Qc zs 0 := Xv (by rw [hml]; rfl) fun j h => by
        rw [hml] at h
        rw [hms j h]
        by_cases e : j < 16
        . rw [if_pos e]
          unfold Qc Qb
          rw [List.getElem?_append_left (by simpa using e)]; simp [e]
        . rw [if_neg e]
          have e2 := K9 64 (j - 16)
          unfold Qc
          unfold Qb at e2 ⊢
          rw [List.getElem?_append_right (by simpa using e), List.length_map, List.length_range, e2]
      subst e
      clear hms hml hcell
      have hsl := Xe zs
      have hsi := VA hb hl
      go_wp2
      go_loopw [11] (fun i wr => ∃ (i' : Nat), 16 <= i' /\ i' <= 80 /\ i = .int .i64 i' /\ Y4 .u64 wr w.heap.size (List.replicate 80 0) /\ Y4 .u64 wr w1.heap.size (Qc zs (i' - 16)) /\ Below w.heap.size w wr) (fun i _ => 80 - (intOf i).toNat)
      case atStart => exact ⟨16, by omega, by omega, rfl, A1, A2, BB⟩
      case round =>
        clear A1 A2 BB
        obtain ⟨i, hi0, hi1, rfl, A1, A2, BB⟩ := hrel
        have hr' := hr.below BB
        have hct := hr'.count
        by_cases hlt : i < 80
        . have hln := hsl (i - 16)
          have hin := hsi (i - 16)
          have hst : Qc zs (i + 1 - 16) = (Qc zs (i - 16)).set i (ZK (Qc zs (i - 16)) i) := by
            rw [show i + 1 - 16 = (i - 16) + 1 by omega]
            show (Qc zs (i - 16)).set (16 + (i - 16)) (ZK (Qc zs (i - 16)) (16 + (i - 16))) = _
            rw [show 16 + (i - 16) = i by omega]
          generalize Qc zs (i - 16) = ms at *
          have hat : ∀ j, j < 80 -> Xa (Qb ms j) := fun j hj => hin _ (Ga (by omega))
          obtain ⟨j1, e1, n1⟩ : ∃ j : Nat, IntKind.i64.wrap ((i : Int) - 16) = (j : Int) /\ i - 16 = j := ⟨i - 16, by rw [ZE (by omega) (by omega)]; omega, rfl⟩
          obtain ⟨j2, e2, n2⟩ : ∃ j : Nat, IntKind.i64.wrap ((i : Int) - 15) = (j : Int) /\ i - 15 = j := ⟨i - 15, by rw [ZE (by omega) (by omega)]; omega, rfl⟩
          obtain ⟨j3, e3, n3⟩ : ∃ j : Nat, IntKind.i64.wrap ((i : Int) - 7) = (j : Int) /\ i - 7 = j := ⟨i - 7, by rw [ZE (by omega) (by omega)]; omega, rfl⟩
          obtain ⟨j4, e4, n4⟩ : ∃ j : Nat, IntKind.i64.wrap ((i : Int) - 2) = (j : Int) /\ i - 2 = j := ⟨i - 2, by rw [ZE (by omega) (by omega)]; omega, rfl⟩
          have b1 : (j1 : Int) < 80 := by omega
          have b2' : (j2 : Int) < 80 := by omega
          have b3 : (j3 : Int) < 80 := by omega
          have b4 : (j4 : Int) < 80 := by omega
          have b5 : (i : Int) < 80 := by omega
          have c1 := A2.cell (k := j1) (by omega)
          have c2 := A2.cell (k := j2) (by omega)
          have c3 := A2.cell (k := j3) (by omega)
          have c4 := A2.cell (k := j4) (by omega)
          have nx : ZK ms i = (Qb ms j1 + YC (Qb ms j2) + Qb ms j3 + VM (Qb ms j4)) % 18446744073709551616 := by unfold ZK; rw [n1, n2, n3, n4]
          replace nx := Lib.hid nx
          clear n1 n2 n3 n4
          have c5 := A2.cell (k := i) (by omega)
          have f5 := A2.free (k := i) (by omega)
          have HA := fun W => Qfv (Qb ms j2) W (hat _ (by omega))
          have HB := fun W => Qfu (Qb ms j4) W (hat _ (by omega))
          obtain ⟨f10, f11, f12, f13⟩ := hr'.fn
          replace hst := Lib.hid hst
          clear hin hsi hsl
          go_wp2
          go_still_tail 31, (by kernel_rfl)
          still_call (HA _)
          repeat still_step
          still_call (HB _)
          repeat still_step
          refine wpStill_nil ?_
          change wpList _ _ _ _ _ wr.drew
          go_wp2
          refine ⟨?_, ?_⟩
          . refine Exists.intro (Value.int .i64 ((i : Int) + 1)) ?_
            repeat apply Exists.intro (α := Value)
            refine ⟨⟨i + 1, by omega, by omega, by go_num, ?_, ?_, ?_⟩, rfl⟩
            . exact (Ho A1).setOther (by omega) _ _
            . rw [hst.out, nx.out]
              try simp only [IntKind.wrap_u64, Int.emod_add_emod]
              exact Ho (A2.set i _)
            . exact BB.drew.setCell (by show w.heap.size <= w1.heap.size; omega) _
          . show 80 - (intOf (Value.int .i64 ((i : Int) + 1))).toNat < 80 - (intOf (Value.int .i64 (i : Int))).toNat
            simp only [intOf]; omega
        . obtain rfl : i = 80 := by omega
          have hln := hsl (80 - 16)
          go_wp2_with (first
            | (with_reducible refine JM 83 ?_; refine Ja rfl 125 _ rfl 80 47 QbU Jz w1.heap.size rfl .u64 _ A2 hln ?_)
            | (with_reducible refine QcU (o := ⟨_, .store 125 _ _, _, _, _, _⟩) ?_; refine YZ rfl 125 _ _ rfl 80 Jz w.heap.size rfl .u64 _ _ rfl A1 (by simp) hln ?_; intro A3))
          refine bodyPost_ret (UO rfl _ 80 47 QbU Jz w.heap.size rfl .u64 _ A3 hln) rfl ?_
          exact ⟨rfl, Vs BB (Nat.le_refl _) _⟩
theorem Yc.drewN {w : World} (h : Yc w) (n : Nat) : Yc (w.drewN n) := h.below (Zq (Below.refl _ _) n)
theorem Kw {w w' : World} (h : Below w.heap.size w w') (B : Nat) : w.grownBy w' (some B) := ⟨h.os, h.tape, h.output, h.size, fun k hk _ => h.block k hk⟩
theorem UG (w : World) (g : Nat) (cs : Array Value) : w.grownBy (w.setRow g cs) (some g) := by
  refine ⟨rfl, rfl, rfl, by simp [World.setRow], fun k hk hne => ?_⟩
  rw [setRow_other w g k cs (by simpa using hne)]
theorem Ul (x : Int) : Xa (x % 18446744073709551616) := by unfold Xa; omega
structure Xc where
  (a b c d e f g h : Int)
def Xc.ok (v : Xc) : Prop := Xa v.a /\ Xa v.b /\ Xa v.c /\ Xa v.d /\ Xa v.e /\ Xa v.f /\ Xa v.g /\ Xa v.h
def Z5 (e : Int) : Int := bits BinOp.xor .u64 (if IntKind.u64.signed = true then -1 else IntKind.u64.max) e
def ZC (m : List Int) (i : Nat) (v : Xc) : Int := (v.h + YL v.e + bits BinOp.xor .u64 (bits BinOp.and .u64 v.e v.f) (bits BinOp.and .u64 (Z5 v.e) v.g) + Qb Xr i + Qb m i) % 18446744073709551616
def UT (v : Xc) : Int := (Uw v.a + bits BinOp.xor .u64 (bits BinOp.xor .u64 (bits BinOp.and .u64 v.a v.b) (bits BinOp.and .u64 v.a v.c)) (bits BinOp.and .u64 v.b v.c)) % 18446744073709551616
def ZV (m : List Int) (i : Nat) (v : Xc) : Xc := ⟨(ZC m i v + UT v) % 18446744073709551616, v.a, v.b, v.c, (v.d + ZC m i v) % 18446744073709551616, v.e, v.f, v.g⟩
def Ql (m : List Int) (v : Xc) : Nat -> Xc
  | 0 => v
  | i + 1 => ZV m i (Ql m v i)
theorem YT {m : List Int} {v : Xc} (h : v.ok) : ∀ i, (Ql m v i).ok
  | 0 => h
  | i + 1 => by
    obtain ⟨h0, h1, h2, h3, h4, h5, h6, h7⟩ := YT (m := m) h i
    exact ⟨Ul _, h0, h1, h2, Ul _, h4, h5, h6⟩
def Qu (st : List Int) : Xc := ⟨Qb st 0, Qb st 1, Qb st 2, Qb st 3, Qb st 4, Qb st 5, Qb st 6, Qb st 7⟩
def Xc.list (v : Xc) : List Int := [v.a, v.b, v.c, v.d, v.e, v.f, v.g, v.h]
/-- The state behind a block. -/
def QY (st zs : List Int) : List Int := (List.range 8).map fun j => (Qb st j + Qb (Ql (Qc zs 64) (Qu st) 80).list j) % 18446744073709551616
set_option maxHeartbeats 4000000 in
theorem Dh (w : World) (B : Nat) (st : List Int) (hr : Xk w B st) (hT : Yc w) (hs : 1 ≠ B) (hc : 5 ≠ B) (v : Value) (zs : List Int) (hv : JS .u8 w v zs) (hb : Qe zs) (hl : zs.length = 128) :
    Calls Tryz.prog 95 #[.pointer (some ⟨B, 0, none⟩), v] w fun e w' => (∃ v, e = .returned v) /\ Xk w' B (QY st zs) /\ w.grownBy w' (some B) := by
  have hB := hr.lt
  have hml := Xe zs 64
  have hmi := VA hb hl 64
  have HS := fun W (h : Xk W B st) (hv : JS .u8 W v zs) => FQ W B st h v zs hv hb hl
  have htk : QY st zs = (List.range 8).map fun j => (Qb st j + Qb (Ql (Qc zs 64) (Qu st) 80).list j) % 18446744073709551616 := rfl
  generalize Qc zs 64 = ms at *
  have h8 : (Qu st).ok := ⟨hr.stIn 0, hr.stIn 1, hr.stIn 2, hr.stIn 3, hr.stIn 4, hr.stIn 5, hr.stIn 6, hr.stIn 7⟩
  have he8 : Qu st = ⟨Qb st 0, Qb st 1, Qb st 2, Qb st 3, Qb st 4, Qb st 5, Qb st 6, Qb st 7⟩ := rfl
  go_enter Tryz.func95, Tryz.ntmps95
  go_wp2_with (first
    | (go_at_call 126; (with_reducible refine (HS _ hr hv).mono ?_); rintro e w1 ⟨rfl, b1⟩)
    | (with_reducible refine JM 4 ?_; refine Za rfl 125 rfl .u64 80 Ge ?_; intro w2 A2 s2 b2; have BB := Qy b1 b2; have hr2 := hr.below BB; have hT2 := hT.below BB)
    | (with_reducible refine QcU (o := ⟨_, .store 125 _ _, _, _, _, _⟩) ?_; refine YZ rfl 125 _ _ rfl 80 Jz w1.heap.size rfl .u64 _ _ rfl A2 (by simp) hml ?_; intro A3))
  have hs1 := b1.size
  have hr3 : Xk (w2.setRow w1.heap.size (ms.map (Value.int .u64)).toArray) B st := hr2.but (UG _ _ _) (by simp; omega)
  have hT3 : Yc (w2.setRow w1.heap.size (ms.map (Value.int .u64)).toArray) := hT2.but (UG _ _ _) (by have := hT.lt.1; have := b1.size; omega) (by have := hT.lt.2; have := b1.size; omega)
  have BB3 := Vs BB (g := w1.heap.size) b1.size (ms.map (Value.int .u64)).toArray
  generalize w2.setRow w1.heap.size (ms.map (Value.int .u64)).toArray = w3 at *
  clear hr2 hT2 A2 BB HS
  have s0 : w3.cell? ⟨B, 2, none⟩ = some (.int .u64 (Qb st 0)) := (hr3.stAt (j := 0) (by decide)).1
  have s1 : w3.cell? ⟨B, 3, none⟩ = some (.int .u64 (Qb st 1)) := (hr3.stAt (j := 1) (by decide)).1
  have s2 : w3.cell? ⟨B, 4, none⟩ = some (.int .u64 (Qb st 2)) := (hr3.stAt (j := 2) (by decide)).1
  have s3 : w3.cell? ⟨B, 5, none⟩ = some (.int .u64 (Qb st 3)) := (hr3.stAt (j := 3) (by decide)).1
  have s4 : w3.cell? ⟨B, 6, none⟩ = some (.int .u64 (Qb st 4)) := (hr3.stAt (j := 4) (by decide)).1
  have s5 : w3.cell? ⟨B, 7, none⟩ = some (.int .u64 (Qb st 5)) := (hr3.stAt (j := 5) (by decide)).1
  have s6 : w3.cell? ⟨B, 8, none⟩ = some (.int .u64 (Qb st 6)) := (hr3.stAt (j := 6) (by decide)).1
  have s7 : w3.cell? ⟨B, 9, none⟩ = some (.int .u64 (Qb st 7)) := (hr3.stAt (j := 7) (by decide)).1
  have hct := hr3.count
  have hml' := hml
  go_quiet (fail)
  go_wp2
  go_quiet (fail)
  go_wp2
  have he : Ql ms (Qu st) 0 = Qu st := rfl
  generalize hv0 : Qu st = v0 at *
  go_loopw [5, 6, 7, 8, 9, 10, 11, 12, 65] (fun a b c d e f g h i wr => ∃ (k : Nat), k <= 80 /\ i = .int .i64 k /\ a = .int .u64 (Ql ms v0 k).a /\ b = .int .u64 (Ql ms v0 k).b /\ c = .int .u64 (Ql ms v0 k).c /\ d = .int .u64 (Ql ms v0 k).d /\ e = .int .u64 (Ql ms v0 k).e /\ f = .int .u64 (Ql ms v0 k).f /\ g = .int .u64 (Ql ms v0 k).g /\ h = .int .u64 (Ql ms v0 k).h /\ Xk wr B st /\ Yc wr /\ Y4 .u64 wr w1.heap.size ms /\ Below w.heap.size w wr) (fun _ _ _ _ _ _ _ _ i _ => 80 - (intOf i).toNat)
  case atStart =>
    refine ⟨0, by omega, rfl, ?_, ?_, ?_, ?_, ?_, ?_, ?_, ?_, hr3, hT3.drewN _, A3, Zq BB3 _⟩ <;> (rw [he, he8])
  case round =>
    clear hr3 hT3 A3 BB3 s0 s1 s2 s3 s4 s5 s6 s7 hct
    obtain ⟨k, hk, rfl, rfl, rfl, rfl, rfl, rfl, rfl, rfl, rfl, hr3, hT3, A3, BB3⟩ := hrel
    by_cases hlt : k < 80
    . have hok := YT (m := ms) h8 k
      have hnx : Ql ms v0 (k + 1) = ZV ms k (Ql ms v0 k) := rfl
      rcases hv : Ql ms v0 k with ⟨a, b, c, d, e, f, g, h⟩
      rw [hv] at hok hnx
      obtain ⟨⟨a0, a1⟩, ⟨b0, b1'⟩, ⟨c0, c1⟩, ⟨d0, d1⟩, ⟨e0, e1⟩, ⟨f0, f1⟩, ⟨g0, g1⟩, ⟨h0, h1⟩⟩ := hok
      dsimp only at a0 a1 b0 b1' c0 c1 d0 d1 e0 e1 f0 f1 g0 g1 h0 h1
      have hcu := hT3.cu k (by omega)
      have hci := Qf8 k (by omega)
      have HC := fun W (h : Xk W B st) => QcI (Qb Xr k) W B st h hci
      have HB := fun W => Qgg e W ⟨e0, e1⟩
      have HA := fun W => Qgh a W ⟨a0, a1⟩
      have hms := A3.cell (k := k) (by omega)
      obtain ⟨f10, f11, f12, f13⟩ := hr3.fn
      have hk80 : (k : Int) < 80 := by omega
      replace hnx := Lib.hid hnx
      clear hv hmi htk he
      go_wp2
      go_quiet (first | (go_at_call 46; exact Calls.quiet_of_same (HB _)) | (go_at_call 93; exact Calls.quiet_of_same (HC _ hr3)))
      go_wp2_with (first
        | (go_at_call 44; (with_reducible refine (HA _).mono ?_); rintro e w9 ⟨rfl, rfl⟩))
      refine ⟨⟨k + 1, by omega, by go_num, ?_, congrArg (Value.int .u64) (congrArg Xc.b hnx.out).symm, congrArg (Value.int .u64) (congrArg Xc.c hnx.out).symm, congrArg (Value.int .u64) (congrArg Xc.d hnx.out).symm, ?_, congrArg (Value.int .u64) (congrArg Xc.f hnx.out).symm, congrArg (Value.int .u64) (congrArg Xc.g hnx.out).symm, congrArg (Value.int .u64) (congrArg Xc.h hnx.out).symm, hr3, hT3.drewN _, A3, Zq BB3 _⟩, by simp only [intOf]; omega⟩ <;> rw [hnx.out]
      . show _ = Value.int .u64 ((ZC ms k ⟨a, b, c, d, e, f, g, h⟩ + UT ⟨a, b, c, d, e, f, g, h⟩) % 18446744073709551616)
        unfold ZC UT Z5
        first | rfl | (simp only [IntKind.wrap_u64, Int.emod_add_emod, Int.add_emod_emod])
      . show _ = Value.int .u64 ((d + ZC ms k ⟨a, b, c, d, e, f, g, h⟩) % 18446744073709551616)
        unfold ZC Z5
        first | rfl | (simp only [IntKind.wrap_u64, Int.emod_add_emod, Int.add_emod_emod])
    . obtain rfl : k = 80 := by omega
      have hok := YT (m := ms) h8 80
      rcases hv : Ql ms v0 80 with ⟨a, b, c, d, e, f, g, h⟩
      rw [hv] at hok htk
      obtain ⟨⟨a0, a1⟩, ⟨b0, b1'⟩, ⟨c0, c1⟩, ⟨d0, d1⟩, ⟨e0, e1⟩, ⟨f0, f1⟩, ⟨g0, g1⟩, ⟨h0, h1⟩⟩ := hok
      dsimp only at a0 a1 b0 b1' c0 c1 d0 d1 e0 e1 f0 f1 g0 g1 h0 h1
      have hg := Kw BB3 B
      replace htk := Lib.hid htk
      clear hv hmi he
      go_wp2
      rw [show Value.agg #[.int .u64 a, .int .u64 b, .int .u64 c, .int .u64 d, .int .u64 e, .int .u64 f, .int .u64 g, .int .u64 h] = Xz .u64 [a, b, c, d, e, f, g, h] from rfl]
      have hls : ([a, b, c, d, e, f, g, h] : List Int).length = 8 := rfl
      have hlv : (Xc.list ⟨a, b, c, d, e, f, g, h⟩) = [a, b, c, d, e, f, g, h] := rfl
      replace hlv := Lib.hid hlv
      generalize ([a, b, c, d, e, f, g, h] : List Int) = ls at *
      clear a0 a1 b0 b1' c0 c1 d0 d1 e0 e1 f0 f1 g0 g1 h0 h1 BB3 A3 hT3
      go_loopw [135] (fun i wr => ∃ (j : Nat) (su : List Int), j <= 8 /\ i = .int .i64 j /\ Xk wr B su /\ w.grownBy wr (some B) /\ (∀ q, q < 8 -> Qb su q = if q < j then (Qb st q + Qb ls q) % 18446744073709551616 else Qb st q)) (fun i _ => 8 - (intOf i).toNat)
      case atStart => exact ⟨0, st, by omega, rfl, hr3, hg, fun q hq => by rw [if_neg (by omega)]⟩
      case round =>
        clear hr3 hg
        obtain ⟨j, su, hj, rfl, hr3, hg, hsu⟩ := hrel
        by_cases hjl : j < 8
        . have hix : ∀ w, (Instr.index 68 (Xz .u64 ls) (.int .i64 (j : Int))).run Tryz.prog w = .ok (.int .u64 (Qb ls j)) w := fun w => by
            have h := QaZ (w := w) (P := Tryz.prog) 68 8 47 Tryz.underlying68 _ Tryz.underlying47 rfl (by kernel_rfl) .u64 ls hls (j : Int) (by omega) (by omega)
            rwa [Int.toNat_natCast] at h
          obtain ⟨cj, fj⟩ := hr3.stAt hjl
          have hsj := hsu j hjl
          rw [if_neg (by omega)] at hsj
          rw [hsj] at cj
          have hjI : (j : Int) < 8 := by omega
          replace hsj := Lib.hid hsj
          replace hsu := Lib.hid hsu
          go_wp2
          go_still_tail 11, (by kernel_rfl)
          change wpList _ _ _ _ _ wr.drew
          go_wp2
          refine ⟨?_, ?_⟩
          . apply Exists.intro (α := Value)
            apply Exists.intro (α := Value)
            refine Exists.intro (Value.int .i64 ((j : Int) + 1)) ?_
            repeat apply Exists.intro (α := Value)
            refine ⟨⟨j + 1, su.set j ((Qb st j + Qb ls j) % 18446744073709551616), by omega, by go_num, ?_, ?_, fun q hq => ?_⟩, rfl⟩
            . try simp only [IntKind.wrap_u64]
              have h := hr3.set hjl (Ul (Qb st j + Qb ls j))
              exact h
            . exact VP (Zn hg _ _)
            . rw [YX su j q _ (by rw [hr3.1]; exact hjl)]
              by_cases e : q = j
              . rw [if_pos e, if_pos (by omega), e]
              . rw [if_neg e, hsu.out q hq]
                by_cases e2 : q < j
                . rw [if_pos e2, if_pos (by omega)]
                . rw [if_neg e2, if_neg (by omega)]
          . show 8 - (intOf (Value.int .i64 ((j : Int) + 1))).toNat < 8 - (intOf (Value.int .i64 (j : Int))).toNat
            simp only [intOf]; omega
        . obtain rfl : j = 8 := by omega
          have e : su = QY st zs := Xv (by rw [hr3.1, htk.out]; simp) fun q hq => by
            rw [hr3.1] at hq
            rw [hsu q hq, if_pos hq, htk.out, hlv.out]
            simp [Qb, hq]
          subst e
          go_wp2
          refine bodyPost_end (results_none rfl _ _ _) rfl ?_
          exact ⟨⟨_, rfl⟩, hr3, hg⟩
structure Qlh where
  (a b c d e f g h : Int)
theorem Uu (n : Int) (w : World) (h : n = 32 \/ n = 64) : Calls Tryz.prog 94 #[.int .i64 n] w fun e w' => e = .returned (.int .i64 (2 * n)) /\ w' = w := by
  rcases h with rfl | rfl
  all_goals
    go_enter Tryz.func94, Tryz.ntmps94
    go_wp2
    go_ret
    exact ⟨rfl, rfl⟩
theorem Eh (n : Int) (w : World) (h : n = 32 \/ n = 64) : Calls Tryz.prog 135 #[.int .i64 n] w fun e w' => e = .returned (.int .i64 (n / 4)) /\ w' = w := by
  rcases h with rfl | rfl
  all_goals
    go_enter Tryz.func135, Tryz.ntmps135
    go_wp2
    go_ret
    exact ⟨rfl, rfl⟩
/-- How many bytes there are with what is Zw. -/
def Zw (n wd : Int) : Int := if n < 0 \/ 1099511627776 < n \/ (wd ≠ 32 /\ wd ≠ 64) then 0 else (n + 1 + wd / 4 + 2 * wd - 1) / (2 * wd) * (2 * wd)
theorem Qe4 (n wd : Int) (w : World) (hn : -9223372036854775808 <= n /\ n <= 9223372036854775807) (hw : -9223372036854775808 <= wd /\ wd <= 9223372036854775807) :
    Calls Tryz.prog 127 #[.int .i64 n, .int .i64 wd] w fun e w' => e = .returned (.int .i64 (Zw n wd)) /\ w' = w := by
  by_cases h : n < 0 \/ 1099511627776 < n \/ (wd ≠ 32 /\ wd ≠ 64)
  . rw [show Zw n wd = 0 from if_pos h]
    have hb : (decide (n < 0) || (decide (1099511627776 < n) || (decide (wd ≠ 32) && decide (wd ≠ 64)))) = true := by simpa using h
    by_cases h1 : n < 0
    . have d1 : decide (n < 0) = true := decide_eq_true h1
      go_enter Tryz.func127, Tryz.ntmps127
      go_wp2
      go_ret
      exact ⟨rfl, rfl⟩
    . by_cases h2 : 1099511627776 < n
      . go_enter Tryz.func127, Tryz.ntmps127
        go_wp2
        go_ret
        exact ⟨rfl, rfl⟩
      . have h3 : wd ≠ 32 /\ wd ≠ 64 := by omega
        obtain ⟨h4, h5⟩ := h3
        have b4 : (wd != 32) = true := by simpa using h4
        have b5 : (wd != 64) = true := by simpa using h5
        clear hb h h4 h5
        go_enter Tryz.func127, Tryz.ntmps127
        go_wp2
        go_ret
        exact ⟨rfl, rfl⟩
  . have h6 : wd = 32 \/ wd = 64 := by omega
    have h7 : ¬ n < 0 := by omega
    have h8 : ¬ 1099511627776 < n := by omega
    rw [show Zw n wd = (n + 1 + wd / 4 + 2 * wd - 1) / (2 * wd) * (2 * wd) from if_neg h]
    clear h
    have HB := fun W => Uu wd W h6
    have HL := fun W => Eh wd W h6
    rcases h6 with rfl | rfl
    all_goals
      go_enter Tryz.func127, Tryz.ntmps127
      go_wp2_with (first
        | (go_at_call 94; (with_reducible refine (HB _).mono ?_); rintro e w1 ⟨rfl, rfl⟩)
        | (go_at_call 135; (with_reducible refine (HL _).mono ?_); rintro e w1 ⟨rfl, rfl⟩))
      go_ret
      exact ⟨rfl, rfl⟩
/-- The bytes of a state. -/
def Q3 (st : List Int) : List Int := (List.range 64).map fun i => Qb st (i / 8) / 2 ^ (8 * (8 - 1 - i % 8)) % 256
theorem HK (st : List Int) (i : Nat) (h : i < 64) : Qb (Q3 st) i = Qb st (i / 8) / 2 ^ (8 * (8 - 1 - i % 8)) % 256 := by simp [Q3, Qb, h]
set_option maxHeartbeats 1000000 in
theorem Qee (w : World) (B Bs : Nat) (st zs : List Int) (hr : Xk w B st) (hz : Y4 .u8 w Bs zs) (hl : zs.length = 64) (hne : B ≠ Bs) :
    Calls Tryz.prog 51 #[.pointer (some ⟨B, 0, none⟩), .slice (some ⟨Bs, 0, none⟩) 64 64] w fun e w' => (∃ v, e = .returned v) /\ Y4 .u8 w' Bs (Q3 st) /\ w.grownBy w' (some Bs) := by
  have hwd := hr.width
  go_enter Tryz.func51, Tryz.ntmps51
  go_wp2
  go_loopw [13] (fun i wr => ∃ (k : Nat) (ys : List Int), k <= 64 /\ i = .int .i64 k /\ Xk wr B st /\ Y4 .u8 wr Bs ys /\ ys.length = 64 /\ w.grownBy wr (some Bs) /\ ∀ q, q < k -> Qb ys q = Qb (Q3 st) q) (fun i _ => 64 - (intOf i).toNat)
  case atStart => exact ⟨0, zs, by omega, rfl, hr, hz, hl, World.grownBy.refl _ _, fun q h => by omega⟩
  case round =>
    clear hr hz hwd
    obtain ⟨k, ys, hk, rfl, hr, hz, hyl, hg, hys⟩ := hrel
    by_cases hlt : k < 64
    . have hk8 : k / 8 < 8 := by omega
      obtain ⟨cj, -⟩ := hr.stAt hk8
      have hsi := hr.stIn (k / 8)
      have cs := hz.cell (k := k) (by omega)
      have fs := hz.free (k := k) (by omega)
      have hat := HK st k hlt
      generalize Qb st (k / 8) = s at *
      obtain ⟨s0, s1⟩ := hsi
      obtain ⟨q, e1, hq⟩ : ∃ q : Nat, IntKind.i64.wrap ((k : Int) / 8) = (q : Int) /\ q = k / 8 := ⟨k / 8, by rw [ZE (by omega) (by omega)]; omega, rfl⟩
      obtain ⟨r, e2, hr2⟩ : ∃ r : Nat, (k : Int).tmod 8 = (r : Int) /\ r = k % 8 := ⟨k % 8, by rw [Int.tmod_eq_emod_of_nonneg (by omega)]; omega, rfl⟩
      have e5 : IntKind.i64.wrap 7 = 7 := by decide
      obtain ⟨t, e3, ht⟩ : ∃ t : Nat, IntKind.i64.wrap ((7 : Int) - (r : Int)) = (t : Int) /\ t = 7 - r := ⟨7 - r, by rw [ZE (by omega) (by omega)]; omega, rfl⟩
      obtain ⟨u, e4, hu⟩ : ∃ u : Nat, IntKind.i64.wrap ((8 : Int) * (t : Int)) = (u : Int) /\ u = 8 * t := ⟨8 * t, by rw [ZE (by omega) (by omega)]; omega, rfl⟩
      have hu2 : 8 * (8 - 1 - k % 8) = u := by omega
      rw [hu2] at hat
      have hu3 : (u : Int) < 64 := by omega
      have hq8 : (q : Int) < 8 := by omega
      rw [<- hq] at cj
      clear hu2 hq hr2 ht hu hk8
      replace hat := Lib.hid hat
      replace hys := Lib.hid hys
      go_wp2
      go_still_tail 20, (by kernel_rfl)
      change wpList _ _ _ _ _ wr.drew
      go_wp2
      refine ⟨⟨k + 1, ys.set k (s / 2 ^ u % 256), by omega, by go_num, hr.but (VP (Zn (World.grownBy.refl wr (some Bs)) k _)) (by simpa using hne), Ho (hz.set k _), by simp [hyl], VP (Zn hg _ _), fun q hq => ?_⟩, by simp only [intOf]; omega⟩
      rw [YX ys k q _ (by omega)]
      by_cases e : q = k
      . rw [if_pos e, e, hat.out]
      . rw [if_neg e]; exact hys.out q (by omega)
    . obtain rfl : k = 64 := by omega
      have e : ys = Q3 st := Xv (by rw [hyl]; simp [Q3]) fun q h => hys q (by rw [hyl] at h; exact h)
      subst e
      go_wp2
      refine bodyPost_end (results_none rfl _ _ _) rfl ?_
      exact ⟨⟨_, rfl⟩, hz, hg⟩
section
variable {P : Program} {ops : Array Oper} {md : Region.Mode}

/-- A variable that the region makes (operation ka) and stores v into (operation ks). -/
structure Qgr where
  ka : Nat
  ks : Nat
  K : IntKind
  n : Nat
  v : List Int
inductive QlT where
  | plain
  | alloc (it : Qgr)
  | store (it : Qgr)
variable {ds : List (Option Tmp)} {dl : List (List Nat)} {G : World -> Prop} {F : Hu} {base : Nat} {items : List Qgr} {a : Act}
end
end Go.Proofs.YtbiboamaigedjaaGreatDoor
--@optional
namespace Go.Proofs.YtbiboamaigedjaaGreatDoor
open Go.RowKit
set_option linter.unusedVariables false
set_option maxRecDepth 8000

end Go.Proofs.YtbiboamaigedjaaGreatDoor
namespace Go.Proofs.YtbiboamaigedjaaGreatDoor
open Go.RowKit
set_option linter.unusedVariables false
set_option linter.unusedSimpArgs false
set_option maxRecDepth 8000
set_option maxHeartbeats 2000000

section
variable {P : Program} {ops : Array Oper} {o : Oper} {a : Act} {w : World} {R : Value -> World -> Prop}

end
section
variable {P : Program} {ops : Array Oper} {o : Oper} {a : Act} {w : World} {R : Value -> World -> Prop}
end
section
variable {P : Program} {ops : Array Oper} {o : Oper} {a : Act} {w : World} {R : Value -> World -> Prop}
theorem GQ (K : IntKind) (n m : Nat) : madeCells (Array.replicate n (Value.int K 0)) m = if n = 0 then madeCells #[] m else Array.replicate m (Value.int K 0) := by
  by_cases hn : n = 0
  . subst hn; simp
  . rw [if_neg hn]
    apply Array.ext
    . simp [madeCells]
    . intro i h1 h2
      simp [madeCells]
      have : i % n < n := Nat.mod_lt _ (by omega)
      simp [this]
end
section
variable {P : Program} {ops : Array Oper} {o : Oper} {rest : List Oper} {a : Act} {w : World} {Q : Exit -> Act -> World -> Prop}
theorem FD (hgd : o.guard = none) (d s : Operand) (t t' : TypeId) (ho : o.op = .call { callee := .builtin .copy, args := #[d, s], argTypes := #[t, t'] })
    (elem : TypeId) (hu : P.underlying t = some (.slice elem)) (hsz : (P.info? elem).map (·.size) = some 1) (B B' c c' n m : Nat) (hd : a.eval d = .slice (some ⟨B, 0, none⟩) n c) (hs : a.eval s = .slice (some ⟨B', 0, none⟩) m c') (K : IntKind) (zs ys : List Int)
    (hz : Y4 K w B zs) (hy : ∀ q, q < m -> w.cell? ⟨B', q, none⟩ = some (.int K (Qb ys q))) (hn : zs.length = n) (hm : ys.length = m) (hle : m <= n)
    (h : Y4 K (w.setRow B ((ys.take m ++ zs.drop m).map (Value.int K)).toArray) B (ys.take m ++ zs.drop m) -> wpList P ops Q rest (a.put o.dst (goInt m)) (w.setRow B ((ys.take m ++ zs.drop m).map (Value.int K)).toArray)) : wpList P ops Q (o :: rest) a w := by
  subst hn
  have h' := h (hz.setRow _)
  refine wpList_plain hgd fun KK hK => ?_
  have hlt : (ys.take m).length = m := by simp [hm]
  obtain ⟨tz, hz⟩ := hz
  have hcell : ∀ j v, ((ys.take m).map (Value.int K))[j]? = some v -> w.cell? ((⟨B', 0, none⟩ : Addr).add j) = some v := by
    intro j v hj
    have hjm : j < m := by
      have := (List.getElem?_eq_some_iff.1 hj).1
      simpa [hm] using this
    have hc := hy j hjm
    rw [Addr.add_lit, Nat.zero_add, hc, <- hj]
    simp [hjm, Qb, show j < ys.length by omega]
  have hr := run_copy_row (P := P) w t t' o.type elem B 0 zs.length c ⟨B', 0, none⟩ m c' _ tz ((ys.take m).map (Value.int K)) hu hsz hz (by rw [List.length_map, hlt]; exact (Nat.min_eq_left hle).symm) hcell (by simp only [List.size_toArray, List.length_map, hlt]; omega) (by intro v hv; obtain ⟨z, -, rfl⟩ := List.mem_map.1 hv; rfl)
  unfold Oper.wp execOp
  simp only [ho, resolve, invoke, builtin, Sem.run_bind, Sem.run_pure, Result.andThen_ok, List.map_toArray, List.map_cons, List.map_nil, hd, hs, hr]
  have e : (List.take 0 (zs.map (Value.int K)) ++ (ys.take m).map (Value.int K) ++ List.drop (0 + ((ys.take m).map (Value.int K)).length) (zs.map (Value.int K))) = (ys.take m ++ zs.drop m).map (Value.int K) := by
    rw [List.take_zero, List.nil_append, Nat.zero_add, List.length_map, hlt, List.map_append, List.map_drop]
  rw [e, List.length_map, hlt]
  exact hK _ _ h'
theorem FC (hgd : o.guard = none) (t e : TypeId) (x y : Operand) (ho : o.op = .makeSlice t x y) (hu : P.underlying t = some (.slice e)) (K : IntKind) (hz : (P.info? e).bind (·.zero) = some (Value.int K 0)) (hs : (P.info? e).map (·.size) = some 1) (hb : (P.info? e).map (·.bytes) = some 1)
    (l n : Nat) (hx : a.eval x = .int .i64 l) (hy : a.eval y = .int .i64 n) (hle : l <= n) (hn : (n : Int) <= 281474976710656)
    (h : ∀ w1, Y4 K w1 w.heap.size (List.replicate n 0) -> w.heap.size < w1.heap.size -> Below w.heap.size w w1 -> wpList P ops Q rest (a.put o.dst (.slice (some ⟨w.heap.size, 0, none⟩) l n)) w1) : wpList P ops Q (o :: rest) a w := by
  cases hi : P.info? e with
  | none => rw [hi] at hz; cases hz
  | some i =>
    rw [hi] at hz hs hb
    have hz' : i.zero = some (Value.int K 0) := hz
    have hs' : i.size = 1 := by simpa using hs
    have hb' : i.bytes = 1 := by simpa using hb
    refine wpList_plain hgd fun KK hK => ?_
    have hr := run_make w t e i _ hu hi hz' .i64 .i64 (l : Int) (n : Int) (by omega) (by omega) (by rw [hb']; omega) (by omega)
    have hm : madeCells (Value.int K 0).cells (n * 1) = ((List.replicate n (0 : Int)).map (Value.int K)).toArray := by
      have h1 := GQ K 1 (n * 1)
      rw [if_neg (by decide)] at h1
      rw [show (Value.int K 0).cells = Array.replicate 1 (Value.int K 0) from rfl, h1]
      simp
    unfold Oper.wp execOp
    simp only [ho, hx, hy, Sem.run_bind, hr, Int.toNat_natCast, hs', hm]
    refine hK _ _ (h _ ⟨e, ?_⟩ (Array.getElem?_eq_some_iff.1 (heap_alloc_new w _)).1 ((Below.refl _ _).alloc (Nat.le_refl _) _))
    rw [heap_alloc_new]
end
theorem U5 {a b c : World} {row : Option Nat} (h : a.grownBy b row) (k : b.grownBy c row) : a.grownBy c row :=
  ⟨k.os.trans h.os, k.tape.trans h.tape, k.output.trans h.output, Nat.le_trans h.size k.size, fun i hi hne => (k.block i (Nat.lt_of_lt_of_le hi h.size) hne).trans (h.block i hi hne)⟩
theorem Gb {K : IntKind} {w w' : World} {B : Nat} {zs : List Int} (h : Y4 K w B zs) {row : Option Nat} (hb : w.grownBy w' row) (hr : some B ≠ row) : Y4 K w' B zs := by
  have hl := h.lt
  obtain ⟨t, h⟩ := h
  exact ⟨t, by rw [hb.block B hl hr]; exact h⟩
theorem QdE {w w' : World} {B : Nat} (h : w.grownBy w' (some B)) (p : Addr) (v : Value) (hp : w.heap.size <= p.block) : w.grownBy (w'.setCell p v) (some B) := by
  refine ⟨h.os, h.tape, h.output, ?_, fun k hk hne => ?_⟩
  . have := h.size
    simpa [World.setCell] using this
  . rw [heap_setCell_other w' p k v (by omega)]
    exact h.block k hk hne
/-- The number of bits, laid behind all, the highest byte first. -/
def U0 (p : List Int) (tot : Int) : Nat -> List Int
  | 0 => p
  | k + 1 => (U0 p tot k).set (p.length - 1 - k) (tot * 8 / 2 ^ (8 * k) % 256)
theorem Ui (p : List Int) (tot : Int) : ∀ k, (U0 p tot k).length = p.length
  | 0 => rfl
  | k + 1 => by simp [U0, Ui p tot k]
theorem GD {p : List Int} (h : Qe p) (tot : Int) : ∀ k, Qe (U0 p tot k)
  | 0 => h
  | k + 1 => fun x hx => by
    rcases List.mem_or_eq_of_mem_set hx with h' | rfl
    . exact GD h tot k x h'
    . omega
/-- How many bytes so many have when they are Zw. -/
def QD (n : Nat) : Nat := (n + 1 + 16 + 128 - 1) / 128 * 128
theorem Qdn (n : Nat) (h : n < 128) : Zw (n : Int) 64 = (QD n : Nat) := by
  unfold Zw QD
  rw [if_neg (by omega)]
  omega
theorem Ve (n : Nat) (h : n < 128) : n + 16 < QD n /\ QD n <= 256 /\ QD n % 128 = 0 := by unfold QD; omega
def Yy (hl : List Int) (n : Nat) : List Int := (hl.take n ++ List.replicate (QD n - n) 0).set n 128
theorem GE (hl : List Int) (n : Nat) (h : n < 128) (hh : hl.length = n) : (Yy hl n).length = QD n := by
  have := Ve n h
  simp [Yy, hh]
  omega
/-- A state behind so many blocks. -/
def QO (st zs : List Int) : Nat -> List Int
  | 0 => st
  | k + 1 => QY (QO st zs k) ((zs.drop (k * 128)).take 128)
set_option maxHeartbeats 4000000 in
theorem QfC (w : World) (B : Nat) (st : List Int) (hr : Xk w B st) (hT : Yc w) (hs : 1 ≠ B) (hc : 5 ≠ B) (Bh : Nat) (hl : List Int) (n : Nat) (hA : ∀ q, q < n -> w.cell? ⟨Bh, q, none⟩ = some (.int .u8 (Qb hl q))) (hll : hl.length = n) (hn : n < 128) (hby : Qe hl) (tot : Int) (ht0 : 0 <= tot) (ht1 : tot < 72057594037927936) :
    Calls Tryz.prog 96 #[.pointer (some ⟨B, 0, none⟩), .slice (some ⟨Bh, 0, none⟩) n 128, .int .i64 tot] w fun e w' => (∃ v, e = .returned v) /\ Xk w' B (QO st (U0 (Yy hl n) tot 8) (QD n / 128)) /\ w.grownBy w' (some B) := by
  have hB := hr.lt
  have hwd := hr.width
  have hpn := Ve n hn
  have hpl := GE hl n hn hll
  have hpb : Qe (Yy hl n) := fun x hx => by
    rcases List.mem_or_eq_of_mem_set hx with h | rfl
    . rcases List.mem_append.1 h with h | h
      . exact hby x (List.mem_of_mem_take h)
      . obtain ⟨-, rfl⟩ := List.mem_replicate.1 h; decide
    . decide
  have HP : ∀ W, Calls Tryz.prog 127 #[.int .i64 (n : Int), .int .i64 64] W fun e w' => e = .returned (.int .i64 ((QD n : Nat) : Int)) /\ w' = W := fun W => by
    have h := Qe4 (n : Int) 64 W (by omega) (by omega)
    rw [Qdn n hn] at h
    exact h
  have hp0 : (hl.take n ++ List.replicate (QD n - n) 0).set n 128 = Yy hl n := rfl
  have hrd : (List.replicate (QD n) (0 : Int)).drop n = List.replicate (QD n - n) 0 := by simp
  have hla : (hl.take n ++ List.replicate (QD n - n) (0 : Int)).length = QD n := by simp [hll]; omega
  obtain ⟨q0, hq0⟩ : ∃ q, hl.take n ++ List.replicate (QD n - n) (0 : Int) = q := ⟨_, rfl⟩
  rw [hq0] at hp0 hla
  generalize Yy hl n = pb at *
  generalize QD n = pn at *
  go_enter Tryz.func96, Tryz.ntmps96
  go_wp2_with (first
    | (go_at_call 127; (with_reducible refine (HP _).mono ?_); rintro e w1 ⟨rfl, rfl⟩)
    | (with_reducible refine JM 17 ?_; refine FC rfl 23 5 _ _ rfl Tryz.underlying23 .u8 (by kernel_rfl) (by kernel_rfl) (by kernel_rfl) pn pn rfl rfl (Nat.le_refl _) (by omega) ?_; intro w2 A2 s2 b2; have hr2 := hr.below b2; have hT2 := hT.below b2; have hA2 : ∀ q, q < n -> w2.cell? ⟨Bh, q, none⟩ = some (.int .u8 (Qb hl q)) := fun q hq => by rw [b2.cell (World.block_lt_of_cell? _ _ (hA q hq))]; exact hA q hq)
    | (with_reducible refine JM 20 ?_; refine FD rfl _ _ _ _ rfl 5 Tryz.underlying23 (by kernel_rfl) w1.heap.size Bh _ _ pn n rfl rfl .u8 _ hl A2 hA2 (by simp) hll (by omega) ?_; rw [hrd, hq0]; intro A3; have c3 := A3.cell (k := n) (by omega); have f3 := A3.free (k := n) (by omega)))
  have hs2 := b2.size
  have hrA : Xk ((w2.setRow w1.heap.size (q0.map (Value.int .u8)).toArray).setCell ⟨w1.heap.size, n, none⟩ (.int .u8 128)) B st := hr2.but (Zn (UG _ _ _) _ _) (by simp; omega)
  have hTA : Yc ((w2.setRow w1.heap.size (q0.map (Value.int .u8)).toArray).setCell ⟨w1.heap.size, n, none⟩ (.int .u8 128)) := hT2.but (Zn (UG _ _ _) _ _) (by have := hT.lt.1; omega) (by have := hT.lt.2; omega)
  have hgA : w1.grownBy ((w2.setRow w1.heap.size (q0.map (Value.int .u8)).toArray).setCell ⟨w1.heap.size, n, none⟩ (.int .u8 128)) (some B) := Kw ((Vs b2 (Nat.le_refl _) _).setCell (Nat.le_refl _) _) B
  have A4 := A3.set n 128
  rw [hp0] at A4
  generalize (w2.setRow w1.heap.size (q0.map (Value.int .u8)).toArray).setCell ⟨w1.heap.size, n, none⟩ (.int .u8 128) = w4 at *
  clear hr2 hT2 hA2 A2 A3 c3 f3 hp0 hla hrd hq0 hwd HP
  go_loopw [28] (fun i wr => ∃ (k : Nat), k <= 8 /\ i = .int .i64 k /\ Xk wr B st /\ Yc wr /\ Y4 .u8 wr w1.heap.size (U0 pb tot k) /\ w1.grownBy wr (some B)) (fun i _ => 8 - (intOf i).toNat)
  case atStart => exact ⟨0, by omega, rfl, hrA, hTA, A4, hgA⟩
  case round =>
    clear hrA hTA A4 hgA
    obtain ⟨k, hk, rfl, hr4, hT4, A4, hg4⟩ := hrel
    have hl4 := Ui pb tot k
    by_cases hlt : k < 8
    . have hnx : U0 pb tot (k + 1) = (U0 pb tot k).set (pn - 1 - k) (tot * 8 / 2 ^ (8 * k) % 256) := by rw [<- hpl]; rfl
      generalize U0 pb tot k = ps at *
      obtain ⟨j, e1, ej⟩ : ∃ j : Nat, (pn : Int) - 1 - (k : Int) = (j : Int) /\ pn - 1 - k = j := ⟨pn - 1 - k, by omega, rfl⟩
      rw [ej] at hnx
      have hj : j < pn := by omega
      have hjI : (j : Int) < pn := by omega
      have cj := A4.cell (k := j) (by omega)
      have fj := A4.free (k := j) (by omega)
      replace hnx := Lib.hid hnx
      clear ej
      go_wp2
      refine ⟨⟨k + 1, by omega, by go_num, hr4.but (Zn (World.grownBy.refl wr (some w1.heap.size)) j _) (by simp; omega), hT4.but (Zn (World.grownBy.refl wr (some w1.heap.size)) j _) (by have := hT.lt.1; omega) (by have := hT.lt.2; omega), ?_, ?_⟩, by simp only [intOf]; omega⟩
      . rw [hnx.out]
        exact A4.set j _
      . exact QdE hg4 _ _ (Nat.le_refl _)
    . obtain rfl : k = 8 := by omega
      have hwd := hr4.width
      have hpsb := GD hpb tot 8
      generalize hps : U0 pb tot 8 = ps at *
      replace hps := Lib.hid hps
      have HBS := fun W => Uu 64 W (by omega)
      obtain ⟨nb, hnb⟩ : ∃ nb, pn / 128 = nb := ⟨_, rfl⟩
      have hpnb : pn = nb * 128 := by omega
      have hps0 : ps.length = pn := by rw [hl4, hpl]
      clear hl4
      replace hnb := Lib.hid hnb
      replace hpnb := Lib.hid hpnb
      go_wp2_with (first
        | (go_at_call 94; (with_reducible refine (HBS _).mono ?_); rintro e w9 ⟨rfl, rfl⟩))
      go_loopw [6] (fun v wr => ∃ (k m o' : Nat), k <= nb /\ m = pn - k * 128 /\ (0 < m -> o' = k * 128) /\ v = .slice (some ⟨w1.heap.size, o', none⟩) m m /\ Xk wr B (QO st ps k) /\ Yc wr /\ Y4 .u8 wr w1.heap.size ps /\ w1.grownBy wr (some B)) (fun v _ => match v with | .slice _ n _ => n | _ => 0)
      case atStart => exact ⟨0, pn, 0, by omega, by omega, fun _ => by omega, rfl, hr4, hT4, A4, hg4⟩
      case round =>
        clear hr4 hT4 A4 hg4 hwd
        obtain ⟨k, m, o', hk, hm, ho', rfl, hr4, hT4, A4, hg4⟩ := hrel
        have hpn2 := hpnb.out
        by_cases hlt : k < nb
        . obtain rfl : o' = k * 128 := ho' (by omega)
          clear ho'
          have hmI : (0 : Int) < (m : Int) := by omega
          have hmB : (128 : Int) <= (m : Int) := by omega
          have hlen : ((ps.drop (k * 128)).take 128).length = 128 := by simp; omega
          have hv : JS .u8 wr (.slice (some ⟨w1.heap.size, k * 128, none⟩) 128 m) ((ps.drop (k * 128)).take 128) := by
            refine ⟨some ⟨w1.heap.size, k * 128, none⟩, m, by rw [hlen], by omega, by unfold maxLen; omega, fun q hq => ⟨_, _, rfl, ?_⟩, by simp⟩
            rw [hlen] at hq
            have hcq := A4.cell (k := k * 128 + q) (by omega)
            rw [hcq]
            simp [Qb, hq]
          have hvb : Qe ((ps.drop (k * 128)).take 128) := fun x hx => hpsb x (List.mem_of_mem_drop (List.mem_of_mem_take hx))
          have hnx : QO st ps (k + 1) = QY (QO st ps k) ((ps.drop (k * 128)).take 128) := rfl
          generalize (ps.drop (k * 128)).take 128 = zs at *
          generalize QO st ps k = s1 at *
          have HT := Dh wr B s1 hr4 hT4 hs hc _ zs hv hvb hlen
          replace hnx := Lib.hid hnx
          replace hm := Lib.hid hm
          clear hpn2
          go_wp2_with (first
            | (go_at_call 95; (with_reducible refine HT.mono ?_); rintro e w9 ⟨⟨v9, rfl⟩, hr9, hg9⟩))
          have hm2 := hm.out
          have hpn3 := hpnb.out
          have hne : B ≠ w1.heap.size := by omega
          have hT9 := hT4.but hg9 hs hc
          have A9 := Gb A4 hg9 (by simpa using fun e => hne e.symm)
          have hg10 := U5 hg4 hg9
          by_cases e : m = 128
          . rw [if_pos e]
            refine ⟨⟨k + 1, m - 128, k * 128, by omega, by omega, fun h => by omega, rfl, ?_, hT9, A9, hg10⟩, by show m - 128 < m; omega⟩
            rw [hnx.out]; exact hr9
          . rw [if_neg e]
            refine ⟨⟨k + 1, m - 128, k * 128 + 128, by omega, by omega, fun h => by omega, rfl, ?_, hT9, A9, hg10⟩, by show m - 128 < m; omega⟩
            rw [hnx.out]; exact hr9
        . obtain rfl : k = nb := by omega
          have hm0 : m = 0 := by omega
          subst hm0
          clear hm hpn2
          go_wp2
          refine bodyPost_end (results_none rfl _ _ _) rfl ?_
          rw [hnb.out, hps.out]
          exact ⟨⟨_, rfl⟩, hr4, hg4⟩
theorem QbJ {a b : List Int} (ha : ∀ x ∈ a, 0 <= x /\ x <= 255) (hb : ∀ x ∈ b, 0 <= x /\ x <= 255) : Qe (a ++ b) := fun x hx => (List.mem_append.1 hx).elim (ha x) (hb x)
/-- A slice of slices of bytes. -/
def RdP (w : World) (v : Value) (ps : List (Value × List Int)) : Prop :=
  ∃ a cap, v = .slice a ps.length cap /\ (ps.length <= cap /\ cap <= maxLen) /\ (∀ k (hk : k < ps.length), ∃ x o, a = some ⟨x, o, none⟩ /\ w.cell? ⟨x, o + k, none⟩ = some (ps[k]'hk).1) /\ ∀ p ∈ ps, JS .u8 w p.1 p.2 /\ Qe p.2
/-- Xj bytes of so many parts. -/
def VW (ps : List (Value × List Int)) : List Int := (ps.map (·.2)).flatten
theorem HG {ps : List (Value × List Int)} {i : Nat} (h : i < ps.length) : VW (ps.take (i + 1)) = VW (ps.take i) ++ (ps[i]'h).2 := by
  have e : ps.take (i + 1) = ps.take i ++ [ps[i]'h] := by rw [List.take_add_one, List.getElem?_eq_getElem h]; rfl
  rw [e]
  unfold VW
  rw [List.map_append, List.flatten_append]
  simp only [List.map_cons, List.map_nil, List.flatten_cons, List.flatten_nil, List.append_nil]
theorem EI (ps : List (Value × List Int)) (i : Nat) : (VW (ps.take i)).length <= (VW ps).length := by
  have h : VW ps = VW (ps.take i) ++ VW (ps.drop i) := by
    rw [VW, VW, VW, <- List.flatten_append, <- List.map_append, List.take_append_drop]
  rw [h, List.length_append]
  omega
theorem Fx {ps : List (Value × List Int)} (h : ∀ p ∈ ps, Qe p.2) : Qe (VW ps) := fun x hx => by
  obtain ⟨l, hl, hxl⟩ := List.mem_flatten.1 hx
  obtain ⟨p, hp, rfl⟩ := List.mem_map.1 hl
  exact h p hp x hxl
theorem Qe6 {w : World} {base e n g cap : Nat} {xs : List Value} (h : w.ownsRow base e 1 (.slice (some ⟨g, 0, none⟩) n cap) n xs) : w.ownsRow base e 1 (.slice (some ⟨g, 0, none⟩) 0 cap) 0 [] := by
  obtain ⟨-, h2⟩ := h
  rcases h2 with ⟨h3, -⟩ | ⟨g', cap', cur, e', hb, hh, hn, hm, hs, ht⟩
  . cases h3
  . cases e'
    exact ⟨rfl, .inr ⟨g, cap, cur, rfl, hb, hh, Nat.zero_le _, hm, hs, by simp⟩⟩
theorem QfJ {a b c : World} {B g : Nat} (h : a.grownBy b (some B)) (k : b.grownBy c (some g)) (hg : a.heap.size <= g) : a.grownBy c (some B) :=
  ⟨k.os.trans h.os, k.tape.trans h.tape, k.output.trans h.output, Nat.le_trans h.size k.size, fun i hi hne => (k.block i (Nat.lt_of_lt_of_le hi h.size) (by simp; omega)).trans (h.block i hi hne)⟩
theorem JS.cut {w : World} {x o n c cap : Nat} {zs : List Int} (h : JS .u8 w (.slice (some ⟨x, o, none⟩) n cap) zs) (hc : c <= zs.length) (q : Option Addr) (hq : c = cap \/ q = some ⟨x, o + c, none⟩) (hq2 : c = cap -> ∃ y, q = some y) : JS .u8 w (.slice q (n - c) (cap - c)) (zs.drop c) := by
  obtain ⟨a, cap', e, h1, h2, h3, h4⟩ := h
  cases e
  refine ⟨q, cap - c, by simp, by simp; omega, by omega, fun k hk => ?_, fun e => ?_⟩
  . have hk' : c + k < zs.length := by simp at hk; omega
    obtain ⟨x', o', e', hc'⟩ := h3 (c + k) hk'
    cases e'
    rcases hq with rfl | rfl
    . omega
    . exact ⟨x, o + c, rfl, by rw [Nat.add_assoc, hc', Qgl]⟩
  . subst e
    rcases hq with hq | hq
    . omega
    . cases hq
theorem Yh (st D E : List Int) : ∀ k, k * 128 <= D.length -> QO st (D ++ E) k = QO st D k
  | 0, _ => rfl
  | k + 1, h => by
    show QY (QO st (D ++ E) k) (((D ++ E).drop (k * 128)).take 128) = QY (QO st D k) ((D.drop (k * 128)).take 128)
    rw [Yh st D E k (by omega), List.drop_append_of_le_length (by omega), List.take_append_of_le_length (by simp; omega)]
/-- The state and what is held behind so many bytes. -/
def V3 (st D : List Int) : List Int := QO st D (D.length / 128)
def Xq (D : List Int) : List Int := D.drop (D.length / 128 * 128)
theorem U4 (D : List Int) : (Xq D).length = D.length % 128 := by simp [Xq]; omega
theorem Qbu (st D E : List Int) (h : D.length % 128 + E.length < 128) : V3 st (D ++ E) = V3 st D /\ Xq (D ++ E) = Xq D ++ E := by
  have e : (D ++ E).length / 128 = D.length / 128 := by rw [List.length_append]; omega
  unfold V3 Xq
  rw [e]
  exact ⟨Yh st D E _ (by omega), List.drop_append_of_le_length (by omega)⟩
theorem Qae (st D E : List Int) (h : D.length % 128 + E.length = 128) : V3 st (D ++ E) = QY (V3 st D) (Xq D ++ E) /\ Xq (D ++ E) = [] := by
  have e : (D ++ E).length / 128 = D.length / 128 + 1 := by rw [List.length_append]; omega
  unfold V3 Xq
  rw [e]
  constructor
  . show QY (QO st (D ++ E) (D.length / 128)) (((D ++ E).drop (D.length / 128 * 128)).take 128) = _
    rw [Yh st D E _ (by omega), List.drop_append_of_le_length (by omega), List.take_of_length_le (by simp; omega)]
  . rw [List.drop_eq_nil_iff, List.length_append]; omega
theorem QhD : ∃ i, Tryz.prog.info? 5 = some i /\ i.zero = some (.int .u8 0) /\ i.size = 1 /\ i.bytes = 1 := by
  have h : (Tryz.prog.info? 5).map (fun i => (i.zero, i.size, i.bytes)) = some (some (.int .u8 0), 1, 1) := by kernel_rfl
  obtain ⟨i, hi, hz⟩ := Option.map_eq_some_iff.1 h
  simp only [Prod.mk.injEq] at hz
  exact ⟨i, hi, hz.1, hz.2.1, hz.2.2⟩
set_option maxHeartbeats 4000000 in
theorem Qif (w0 w : World) (hb0 : Below w0.heap.size w0 w) (B : Nat) (st : List Int) (hr : Xk w B st) (hBn : w0.heap.size <= B) (hT : Yc w0) (v : Value) (ps : List (Value × List Int)) (hp : RdP w0 v ps) (hlen : (VW ps).length < 1099511627776) :
    Calls Tryz.prog 50 #[.pointer (some ⟨B, 0, none⟩), v] w fun e w' => (∃ v, e = .returned v) /\ Xk w' B (QO (V3 st (VW ps)) (U0 (Yy (Xq (VW ps)) ((VW ps).length % 128)) ((VW ps).length : Int) 8) (QD ((VW ps).length % 128) / 128)) /\ w.grownBy w' (some B) := by
  obtain ⟨j0, hj, hy0, hy1, hy2⟩ := QhD
  obtain ⟨a, cap, rfl, ⟨hpc, hcm⟩, hcell, hrd⟩ := hp
  have hpl : (ps.length : Int) <= 9223372036854775807 := by unfold maxLen at hcm; omega
  clear hpc hcm
  have hB := hr.lt
  have hwd := hr.width
  have hs0 := hb0.size
  replace hcell := Lib.hid hcell
  replace hrd := Lib.hid hrd
  have HBS := fun W => Uu 64 W (by omega)
  go_enter Tryz.func50, Tryz.ntmps50
  go_wp2_with (first
    | (go_at_call 94; (with_reducible refine (HBS _).mono ?_); rintro e w9 ⟨rfl, rfl⟩)
    | (with_reducible refine JM 16 ?_; refine wpList_make_own _ rfl _ _ 23 rfl w9.heap.size 5 j0 (.int .u8 0) 1 Tryz.underlying23 hj hy0 hy1 .i64 .i64 128 128 rfl rfl (by omega) (by rw [hy2]; omega) (by unfold maxLen; omega) (Nat.le_refl _) ?_; intro w1 hown1 hgr1))
  have hg1 : w9.grownBy w1 (some B) := ⟨hgr1.os, hgr1.tape, hgr1.output, hgr1.size, fun k hk _ => hgr1.block k hk (by simp)⟩
  have hr1 : Xk w1 B st := hr.but hgr1 (by simp)
  clear hgr1 hwd
  go_loopw [5, 6, 19] (fun v5 v6 v19 wr => ∃ (i : Nat), i <= ps.length /\ v19 = .int .i64 i /\ v6 = .int .i64 ((VW (ps.take i)).length : Nat) /\ v5 = .slice (some ⟨w9.heap.size, 0, none⟩) ((VW (ps.take i)).length % 128) 128 /\ Xk wr B (V3 st (VW (ps.take i))) /\ wr.ownsRow w9.heap.size 5 1 (.slice (some ⟨w9.heap.size, 0, none⟩) ((VW (ps.take i)).length % 128) 128) ((VW (ps.take i)).length % 128) ((Xq (VW (ps.take i))).map (Value.int .u8)) /\ w9.grownBy wr (some B)) (fun _ _ i _ => ps.length - (intOf i).toNat)
  case atStart =>
    have z0 : VW (ps.take 0) = [] := by rw [List.take_zero]; rfl
    have z1 : V3 st [] = st := by simp [V3, QO]
    have z2 : Xq [] = [] := by simp [Xq]
    refine ⟨0, by omega, rfl, by rw [z0]; rfl, by rw [z0]; rfl, by rw [z0, z1]; exact hr1, by rw [z0, z2]; exact hown1, hg1⟩
  case round =>
    clear hr1 hown1 hg1
    obtain ⟨i, hi, rfl, rfl, rfl, hr1, hown1, hg1⟩ := hrel
    have hB1 : Below w0.heap.size w0 wr := hb0.grown hg1 hs0 (fun k hk => by cases hk; exact hBn)
    by_cases hlt : i < ps.length
    . obtain ⟨x, o, rfl, hc⟩ := hcell.out i hlt
      obtain ⟨hrp, hbz⟩ := hrd.out _ (List.getElem_mem hlt)
      have hct := HG hlt
      have hle := EI ps (i + 1)
      rw [hct, List.length_append] at hle
      have hltI : (i : Int) < (ps.length : Int) := by omega
      have hltH := Lib.hid hlt
      have hbD : RowKit.Hid (Qe (VW (ps.take i))) := Lib.hid (Fx fun p hp => (hrd.out p (List.mem_of_mem_take hp)).2)
      generalize (ps[i]'hlt).2 = zs at *
      generalize (ps[i]'hlt).1 = pv at *
      generalize hD : VW (ps.take i) = D at *
      replace hct := Lib.hid hct
      replace hD := Lib.hid hD
      replace hc : wr.cell? ⟨x, o + i, none⟩ = some pv := by rw [hB1.cell (World.block_lt_of_cell? w0 _ hc)]; exact hc
      obtain ⟨ap, capp, rfl, hp1, hp2, hp3, hp4⟩ := hrp
      have hrp : JS .u8 w0 (.slice ap zs.length capp) zs := ⟨ap, capp, rfl, hp1, hp2, hp3, hp4⟩
      replace hp3 := Lib.hid hp3
      replace hrp := Lib.hid hrp
      have hDn : ((D.length : Nat) : Int) < 1099511627776 := by omega
      have hzn : ((zs.length : Nat) : Int) < 1099511627776 := by omega
      have hDl : (D.length : Int) + (zs.length : Int) < 1099511627776 := by omega
      clear hp4 hle
      go_wp2
      go_loopw [5, 8] (fun v5 v8 wq => ∃ (E rest : List Int), zs = E ++ rest /\ JS .u8 w0 v8 rest /\ v5 = .slice (some ⟨w9.heap.size, 0, none⟩) ((D ++ E).length % 128) 128 /\ Xk wq B (V3 st (D ++ E)) /\ wq.ownsRow w9.heap.size 5 1 (.slice (some ⟨w9.heap.size, 0, none⟩) ((D ++ E).length % 128) 128) ((D ++ E).length % 128) ((Xq (D ++ E)).map (Value.int .u8)) /\ w9.grownBy wq (some B)) (fun _ v8 _ => match v8 with | .slice _ n _ => n | _ => 0)
      case atStart => exact ⟨[], zs, rfl, hrp.out, by rw [List.append_nil], by rw [List.append_nil]; exact hr1, by rw [List.append_nil]; exact hown1, hg1⟩
      case round =>
        clear hr1 hown1 hg1 hB1 hc
        obtain ⟨E, rest, hz, hrq, rfl, hr1, hown1, hg1⟩ := hrel
        have hB1 := hb0.grown hg1 hs0 (fun k hk => by cases hk; exact hBn)
        have hzl : zs.length = E.length + rest.length := by rw [hz, List.length_append]
        have hFl : (D ++ E).length = D.length + E.length := List.length_append
        have hbF' : Qe (D ++ E) := fun x hx => by
          rcases List.mem_append.1 hx with h | h
          . exact hbD.out x h
          . exact hbz x (by rw [hz]; simp [h])
        have hbr : Qe rest := fun x hx => hbz x (by rw [hz]; simp [hx])
        obtain ⟨aq, capq, rfl, q1, q2, q3, q4⟩ := hrq
        have hrq : JS .u8 w0 (.slice aq rest.length capq) rest := ⟨aq, capq, rfl, q1, q2, q3, q4⟩
        replace hrq := Lib.hid hrq
        replace q3 := Lib.hid q3
        by_cases hr0 : 0 < rest.length
        . obtain ⟨y, oy, rfl, -⟩ := q3.out 0 hr0
          have hn := Nat.mod_lt (D ++ E).length (show 0 < 128 by decide)
          have hhl := U4 (D ++ E)
          have hrI : (0 : Int) < (rest.length : Int) := by omega
          replace hz := Lib.hid hz
          replace hzl := Lib.hid hzl
          replace hFl := Lib.hid hFl
          generalize hF : D ++ E = F at *
          have hbF := Lib.hid hbF'
          clear hbF'
          replace hF := Lib.hid hF
          generalize hnn : F.length % 128 = n at *
          replace hnn := Lib.hid hnn
          obtain ⟨c, hcd⟩ : ∃ c, c = if n + rest.length < 128 then rest.length else 128 - n := ⟨_, rfl⟩
          have hc0 : 0 < c /\ c <= rest.length /\ n + c <= 128 /\ (n + c < 128 -> c = rest.length) := by split at hcd <;> omega
          have hmin : min ((128 : Int) - (n : Int)) (rest.length : Int) = (c : Int) := by split at hcd <;> omega
          obtain ⟨hc1, hc2, hc3, hc4⟩ := hc0
          have hcI : (c : Int) <= (rest.length : Int) := by omega
          have hcI0 : (0 : Int) <= (c : Int) := by omega
          have hnw : ((rest.take c).map (Value.int .u8)).length = c * 1 := by simp [hc2]
          have hcw : ∀ j u, ((rest.take c).map (Value.int .u8))[j]? = some u -> wr.cell? ((⟨y, oy, none⟩ : Addr).add j) = some u := fun j u hj => by
            have hjc : j < c := by
              have := (List.getElem?_eq_some_iff.1 hj).1
              rw [hnw] at this
              omega
            obtain ⟨y', oy', e, hcy⟩ := q3.out j (by omega)
            cases e
            rw [Addr.add_lit, hB1.cell (World.block_lt_of_cell? w0 _ hcy), hcy, <- hj]
            simp [hjc, Qb, show j < rest.length by omega]
          have hone : ∀ u ∈ (rest.take c).map (Value.int .u8), u.oneCell' = true := by
            intro u hu
            obtain ⟨z, -, rfl⟩ := List.mem_map.1 hu
            rfl
          replace hnw := Lib.hid hnw
          replace hcw := Lib.hid hcw
          replace hone := Lib.hid hone
          replace hcd := Lib.hid hcd
          replace hc4 := Lib.hid hc4
          clear q4 hzn hDn hDl
          have hG : D ++ (E ++ rest.take c) = F ++ rest.take c := by rw [<- List.append_assoc, hF.out]
          have hzc : zs = (E ++ rest.take c) ++ rest.drop c := by rw [List.append_assoc, List.take_append_drop]; exact hz.out
          have hXl : (rest.take c).length = c := by simp [hc2]
          have hBB : B ≠ w9.heap.size := by omega
          have hgB2 : ∀ w2, wr.grownBy w2 (some w9.heap.size) -> w9.grownBy w2 (some B) := fun w2 hg2 => QfJ hg1 hg2 (Nat.le_refl _)
          have hTt := hT.lt
          have hTsq : 1 ≠ B := by omega
          have hTcu : 5 ≠ B := by omega
          have hcut : JS .u8 w0 (.slice (if capq = c then some ⟨y, oy, none⟩ else some ⟨y, oy + c, none⟩) (rest.length - c) (capq - c)) (rest.drop c) := by
            by_cases e : capq = c
            . rw [if_pos e]; exact JS.cut hrq.out hc2 (some ⟨y, oy, none⟩) (.inl e.symm) (fun _ => ⟨_, rfl⟩)
            . rw [if_neg e]; exact JS.cut hrq.out hc2 (some ⟨y, oy + c, none⟩) (.inr rfl) (fun _ => ⟨_, rfl⟩)
          replace hG := Lib.hid hG
          replace hzc := Lib.hid hzc
          replace hXl := Lib.hid hXl
          replace hgB2 := Lib.hid hgB2
          replace hcut := Lib.hid hcut
          clear hz
          by_cases hful : n + c = 128
          . have hfI : ((n : Nat) : Int) + ((c : Nat) : Int) = 128 := by omega
            have hff := Qae st F (rest.take c) (by rw [hnn.out, hXl.out, hful])
            have hvl : (Xq F ++ rest.take c).length = 128 := by rw [List.length_append, hhl, hXl.out, hful]
            have hGl : (F ++ rest.take c).length % 128 = 0 := by rw [List.length_append, hXl.out]; have := hnn.out; omega
            have hvb : Qe (Xq F ++ rest.take c) := QbJ (fun x hx => ?hb1) (fun x hx => hbr x (List.mem_of_mem_take hx))
            case hb1 => exact hbF.out x (List.mem_of_mem_drop hx)
            obtain ⟨hff1, hff2⟩ := hff
            replace hff1 := Lib.hid hff1
            replace hff2 := Lib.hid hff2
            replace hvb := Lib.hid hvb
            replace hGl := Lib.hid hGl
            replace hvl := Lib.hid hvl
            go_wp2_with (first
              | (with_reducible refine JM 41 ?_; refine wpList_append_fits _ rfl _ _ 23 rfl w9.heap.size 5 j0 1 Tryz.underlying23 hj hy1 w9.heap.size n 128 _ rfl hown1 ⟨y, oy, none⟩ c capq _ rfl hnw.out hcw.out hone.out hc3 ?_; intro w2 hown2 hg2; rw [hful, <- List.map_append] at hown2; have hr2 := hr1.but hg2 (by simpa using hBB); have hgg2 := hgB2.out _ hg2; have hT2 : Yc w2 := hT.below (hb0.grown hgg2 hs0 (fun k hk => by cases hk; exact hBn)); have hv2 := JS.of_own hown2; have HT := Dh w2 B _ hr2 hT2 hTsq hTcu _ _ hv2 hvb.out hvl.out)
              | (go_at_call 95; (with_reducible refine HT.mono ?_); rintro e w3 ⟨⟨v9, rfl⟩, hr3, hg3⟩; have hown3 := Qe6 (hown2.kept hg3 (.inr (by simpa [Value.ownBlock] using fun e => hBB e.symm))); have hgg3 := U5 hgg2 hg3))
            refine ⟨⟨E ++ rest.take c, rest.drop c, hzc.out, hcut.out, by rw [hG.out, hGl.out], ?_, ?_, hgg3⟩, by show rest.length - c < rest.length; omega⟩
            . rw [hG.out, hff1.out]; exact hr3
            . rw [hG.out, hff2.out, hGl.out]; exact hown3
          . have hneI : ¬ (((n : Nat) : Int) + ((c : Nat) : Int) = 128) := by omega
            have hff := Qbu st F (rest.take c) (by rw [hnn.out, hXl.out]; omega)
            have hGl : (F ++ rest.take c).length % 128 = n + c := by rw [List.length_append, hXl.out]; have := hnn.out; omega
            obtain ⟨hff1, hff2⟩ := hff
            replace hff1 := Lib.hid hff1
            replace hff2 := Lib.hid hff2
            replace hGl := Lib.hid hGl
            go_wp2_with (first
              | (with_reducible refine JM 41 ?_; refine wpList_append_fits _ rfl _ _ 23 rfl w9.heap.size 5 j0 1 Tryz.underlying23 hj hy1 w9.heap.size n 128 _ rfl hown1 ⟨y, oy, none⟩ c capq _ rfl hnw.out hcw.out hone.out hc3 ?_; intro w2 hown2 hg2; rw [<- List.map_append] at hown2; have hr2 := hr1.but hg2 (by simpa using hBB); have hgg2 := hgB2.out _ hg2))
            refine ⟨⟨E ++ rest.take c, rest.drop c, hzc.out, hcut.out, by rw [hG.out, hGl.out], ?_, ?_, hgg2⟩, by show rest.length - c < rest.length; omega⟩
            . rw [hG.out, hff1.out]; exact hr2
            . rw [hG.out, hff2.out, hGl.out]; exact hown2
        . have hre : rest = [] := List.length_eq_zero_iff.1 (by omega)
          subst hre
          rw [List.append_nil] at hz
          subst hz
          clear hrq q3
          go_wp2
          have hlt2 := hltH.out
          refine ⟨⟨i + 1, by omega, by go_num, ?_, by rw [hct.out], by rw [hct.out]; exact hr1, by rw [hct.out]; exact hown1, hg1⟩, by simp only [intOf]; omega⟩
          rw [hct.out, List.length_append, Int.natCast_add]
    . obtain rfl : i = ps.length := by omega
      rw [List.take_length] at hr1 hown1
      rw [List.take_length]
      generalize hD : VW ps = D at *
      have hhl := U4 D
      have hbD : Qe (Xq D) := fun x hx => by
        have := Fx fun p hp => (hrd.out p hp).2
        rw [hD] at this
        exact this x (List.mem_of_mem_drop hx)
      have hT1 : Yc wr := hT.below hB1
      have hTt := hT.lt
      have hmod : D.length % 128 < 128 := Nat.mod_lt _ (by decide)
      have hcl : ∀ q, q < D.length % 128 -> wr.cell? ⟨w9.heap.size, q, none⟩ = some (.int .u8 (Qb (Xq D) q)) := fun q hq => by
        have h := JS.of_own hown1
        obtain ⟨a', cap', e', h1, h2, h3, -⟩ := h
        obtain ⟨x', o', e2, hc2⟩ := h3 q (by rw [hhl]; exact hq)
        simp only [Value.slice.injEq] at e'
        obtain ⟨ea, -, -⟩ := e'
        rw [<- ea] at e2
        cases e2
        rwa [Nat.zero_add] at hc2
      have HL := QfC wr B _ hr1 hT1 (by omega) (by omega) w9.heap.size (Xq D) (D.length % 128) hcl hhl hmod hbD (D.length : Int) (by omega) (by omega)
      clear hcl hown1
      go_wp2_with (first
        | (go_at_call 96; (with_reducible refine HL.mono ?_); rintro e w3 ⟨⟨v9, rfl⟩, hr3, hg3⟩))
      refine bodyPost_end (results_none rfl _ _ _) rfl ?_
      rw [hD]
      exact ⟨⟨_, rfl⟩, hr3, U5 hg1 hg3⟩
theorem Qd1 {P : Program} {ops : Array Oper} {Q : Exit -> Act -> World -> Prop} {l : List Oper} {a : Act} {w : World} (h : ∀ W, W = w -> wpList P ops Q l a W) : wpList P ops Q l a w := h w rfl
/-- The sum of bytes. -/
def Xf (D : List Int) : List Int := Q3 (QO (V3 QU D) (U0 (Yy (Xq D) (D.length % 128)) (D.length : Int) 8) (QD (D.length % 128) / 128))
theorem E3 : (Tryz.prog.info? 26).bind (·.zero) = some (.agg (Array.replicate 64 (Value.int .u8 0))) := by kernel_rfl
theorem GY : (Tryz.prog.info? 26).map (·.size) = some 64 := by kernel_rfl
theorem QbV : Tryz.prog.underlying 26 = some (.array 64 5) := by kernel_rfl
theorem QcY : ∀ x ∈ List.replicate 8 (0 : Int), Xa x := fun x hx => by
  obtain ⟨-, rfl⟩ := List.mem_replicate.1 hx
  unfold Xa; omega
theorem QeC {w : World} {B : Nat} {cur : Array Value} {t : TypeId} (h : w.heap[B]? = some (.cells cur t (0, 0))) : Xk (w.setRow B #[.int .i64 64, .int .i64 80, .int .u64 0, .int .u64 0, .int .u64 0, .int .u64 0, .int .u64 0, .int .u64 0, .int .u64 0, .int .u64 0, .func (.func 44) #[] #[], .func (.func 46) #[] #[], .func (.func 47) #[] #[], .func (.func 48) #[] #[]]) B (List.replicate 8 0) :=
  ⟨rfl, QcY, t, setRow_heap _ _ _ _ _ _ h⟩
set_option maxHeartbeats 4000000 in
theorem QgI (w : World) (hT : Yc w) (v : Value) (ps : List (Value × List Int)) (hp : RdP w v ps) (hlen : (VW ps).length < 1099511627776) :
    Calls Tryz.prog 19 #[v] w fun e w' => e = .returned (Xz .u8 (Xf (VW ps))) /\ Below w.heap.size w w' := by
  go_enter Tryz.func19, Tryz.ntmps19
  have hTt := hT.lt
  go_wp2_with (first
    | (with_reducible refine JM 2 ?_; refine Za rfl 26 rfl .u8 64 E3 ?_; intro w1 A1 s1 b1)
    | (with_reducible refine QcU (o := ⟨_, .store 77 _ _, _, _, _, _⟩) ?_; refine wpList_store_row rfl 77 _ _ rfl w1.heap.size _ rfl rfl 77 _ (heap_alloc_new _ _) (by kernel_rfl) (by simp) (by simp [Value.oneCell']) ?_; refine Qd1 fun w3 hw3 => ?_; have hr3 : Xk w3 w1.heap.size (List.replicate 8 0) := (by rw [hw3]; exact QeC (heap_alloc_new _ _)); have b3 : Below w1.heap.size w1 w3 := (by rw [hw3]; exact Vs ((Below.refl _ _).alloc (Nat.le_refl _) _) (Nat.le_refl _) _); clear hw3; have bb3 := Qy b1 b3; have hT3 := hT.below bb3; replace A1 := A1.below b3; have s3 := hr3.lt)
    | (go_at_call 49; (with_reducible refine (QdO w3 w1.heap.size _ hr3 hT3 (by omega) (by omega)).mono ?_); rintro e w4 ⟨⟨v4, rfl⟩, hr4, hg4⟩; have bb4 : Below w.heap.size w w4 := bb3.grown hg4 bb3.size (fun k hk => by cases hk; exact b1.size); replace A1 := Gb A1 hg4 (by simp; omega))
    | (go_at_call 50; (with_reducible refine (Qif w w4 bb4 w1.heap.size _ hr4 b1.size hT v ps hp hlen).mono ?_); rintro e w5 ⟨⟨v5, rfl⟩, hr5, hg5⟩; have bb5 : Below w.heap.size w w5 := bb4.grown hg5 bb4.size (fun k hk => by cases hk; exact b1.size); replace A1 := Gb A1 hg5 (by simp; omega))
    | (with_reducible refine JM 4 ?_; refine Za rfl 26 rfl .u8 64 E3 ?_; intro w6 A6 s6 b6; have bb6 := Qy bb5 b6; replace A1 := A1.below b6; have hr6 := hr5.below b6; have hz6 := A1.lt; have hz7 := hr5.lt; have hz8 := b1.size; have hz9 := bb5.size)
    | (go_at_call 51; (with_reducible refine (Qee w6 w1.heap.size w5.heap.size _ _ hr6 A6 (by simp) (by omega)).mono ?_); rintro e w7 ⟨⟨v7, rfl⟩, A7, hg7⟩; have bb7 : Below w.heap.size w w7 := bb6.grown hg7 bb6.size (fun k hk => by cases hk; exact bb5.size); replace A1 := Gb A1 hg7 (by simp; omega))
    | (with_reducible refine JM 11 ?_; refine Ja rfl 26 _ rfl 64 5 QbV GY w5.heap.size rfl .u8 _ A7 (by simp [Q3]) ?_)
    | (with_reducible refine QcU (o := ⟨_, .store 26 _ _, _, _, _, _⟩) ?_; refine YZ rfl 26 _ _ rfl 64 GY w.heap.size rfl .u8 _ _ rfl A1 (by simp) (by simp [Q3]) ?_; intro A9))
  refine bodyPost_ret (UO rfl _ 64 5 QbV GY w.heap.size rfl .u8 _ A9 (by simp [Q3])) rfl ?_
  exact ⟨rfl, Vs bb7 (Nat.le_refl _) _⟩
/-- The program's tables, sha's too. -/
def gS : List QJ := gT ++ [fG 1 (Xd.map (Value.int .u64)), fG 5 (Xr.map (Value.int .u64))]
theorem Qbr (L : List Nat) (w : World) (h : Hs gS L w) : Hs gT L w := h.pre
theorem Qju {L : List Nat} {w : World} (h : Hs gS L w) : Yc w := by
  have h1 := (h.get (i := 3) rfl : (fG 1 (Xd.map (Value.int .u64))).h L w)
  have h2 := (h.get (i := 4) rfl : (fG 5 (Xr.map (Value.int .u64))).h L w)
  have hl1 : Xd.length = 8 := by decide
  have hl2 : Xr.length = 80 := by decide
  refine ⟨fun k hk => ?_, fun k hk => ?_⟩
  . have := h1.2.2 k (.int .u64 (Qb Xd k)) (by rw [List.getElem?_map]; unfold Qb; rw [List.getElem?_eq_getElem (by omega)]; rfl)
    rwa [Nat.zero_add] at this
  . have := h2.2.2 k (.int .u64 (Qb Xr k)) (by rw [List.getElem?_map]; unfold Qb; rw [List.getElem?_eq_getElem (by omega)]; rfl)
    rwa [Nat.zero_add] at this
theorem PV.up {P : Program} {G G' : List QJ} {F : FuncId} {args : List SV} {v : SV} (h : PV P G F args v) (hg : ∀ L w, Hs G' L w -> Hs G L w) : PV P G' F args v := ⟨h.fn, h.wa, h.wv, fun w L hL hG => h.h w L hL (hg L w hG)⟩
/-- A slice of numbers, read. -/
theorem FW {w : World} {B o n c : Nat} {zs : List Int} {K : IntKind} (hr : w.rangeAt B o (zs.map (Value.int K))) (hl : zs.length = n) (hn : n <= c) (hc : c <= maxLen) : JS K w (.slice (some ⟨B, o, none⟩) n c) zs := by
  refine ⟨_, c, by rw [hl], by omega, hc, fun k hk => ⟨B, o, rfl, ?_⟩, fun h => by cases h⟩
  exact hr k _ (by rw [List.getElem?_map]; unfold Qb; rw [List.getElem?_eq_getElem hk]; rfl)
theorem QiC (K : IntKind) : ∀ zs : List Int, (zs.map fun z => [Value.int K z]).flatten = zs.map (Value.int K)
  | [] => rfl
  | z :: l => by simp only [List.map_cons, List.flatten_cons, List.singleton_append, QiC K l]
theorem Qg9 {L : List Nat} {w : World} {v : Value} {zs : List Int} {K : IntKind} (h : Zi 1 L w v (zs.map fun z => [Value.int K z])) (hn : ∀ a n c, v = .slice a n c -> a = none -> c = 0) : JS K w v zs := by
  obtain ⟨_, _, a, cap, rfl, h2, h3, h4, h5⟩ := h
  rw [List.length_map] at h2 ⊢
  refine ⟨a, cap, rfl, h2, h3, fun k hk => ?_, fun e => hn _ _ _ rfl e⟩
  obtain ⟨X, o, rfl, _, hc⟩ := h5 (fun e => by rw [List.map_eq_nil_iff] at e; subst e; simp at hk)
  refine ⟨X, o, rfl, hc k _ ?_⟩
  rw [QiC, List.getElem?_map]; unfold Qb; rw [List.getElem?_eq_getElem hk]; rfl
/-- A slice of slices. -/
theorem Qa8 {w : World} {B : Nat} {ps : List (Value × List Int)} (hb : Xl w B (ps.map (·.1))) (hm : ps.length <= maxLen) (hp : ∀ p ∈ ps, JS .u8 w p.1 p.2 /\ Qe p.2) : RdP w (.slice (some ⟨B, 0, none⟩) ps.length ps.length) ps := by
  refine ⟨_, _, rfl, ⟨Nat.le_refl _, hm⟩, fun k hk => ⟨B, 0, rfl, ?_⟩, hp⟩
  have := hb.range k (ps[k]'hk).1 (by rw [List.getElem?_map, List.getElem?_eq_getElem hk]; rfl)
  rwa [Nat.zero_add] at this ⊢
theorem QaO {w : World} {L : List Nat} (hG : Hs gS L w) {v : Value} {ps : List (Value × List Int)} (hp : RdP w v ps) (hlen : (VW ps).length < 1099511627776) (hs : (Xf (VW ps)).length = 64) : CX Tryz.prog 19 [v] w [] (fun _ : Unit => .a .u8 (Xf (VW ps)) 64) (fun _ => []) (fun _ => True) := by
  refine Calls.mono (QgI w (Qju hG) v ps hp hlen) fun e w' h => ?_
  exact ⟨_, h.1, ⟨(), by simp only [SV.den]; rfl, trivial, trivial⟩, h.2⟩
theorem XC (D : List Int) : (Xf D).length = 64 := by unfold Xf Q3; simp
theorem Z4 (D : List Int) : Qe (Xf D) := by
  intro x hx
  unfold Xf Q3 at hx
  simp only [List.mem_map] at hx
  obtain ⟨i, _, rfl⟩ := hx
  first | omega | (split <;> omega) | (constructor <;> omega)
/-- A slice of bytes that is read; nil has no room. -/
def fB (v : Value) (zs : List Int) : QJ := ⟨fun L w => Zi 1 L w v (zs.map fun z => [Value.int .u8 z]) /\ ∀ a n c, v = .slice a n c -> a = none -> c = 0, fun h hs hl => ⟨h.1.stp hs hl, h.2⟩⟩
theorem fB.rd {L : List Nat} {w : World} {v : Value} {zs : List Int} (h : (fB v zs).h L w) : JS .u8 w v zs := Qg9 h.1 h.2
theorem QiV {z : List Int} (hz : Qe z) (hl : z.length = 32) (k j : Nat) : PR Tryz.prog gS 19 [.y k 0 1 1] [(k, [.y j 0 32 32]), (j, [.a .u8 z 32])] (.a .u8 (Xf z) 64) := PR.mk' Tryz.func19 rfl rfl rfl fun ρ w hG hm => by
  obtain ⟨b1, -⟩ := hm _ (.head _)
  obtain ⟨b2, -⟩ := hm _ (.tail _ (.head _))
  simp only [Qk, SV.cs, SV.den, List.append_nil] at b1 b2
  have hp := Qa8 (w := w) (B := ρ.b k) (ps := [(.slice (some ⟨ρ.b j, 0, none⟩) 32 32, z)]) b1 (by simp [maxLen]) (fun p hp => by
    simp only [List.mem_singleton] at hp
    subst hp
    exact ⟨FW b2.range hl (by omega) (by simp [maxLen]), hz⟩)
  have e : VW [(Value.slice (some ⟨ρ.b j, 0, none⟩) 32 32, z)] = z := by simp [VW]
  have := QaO hG hp (by rw [e, hl]; omega) (XC _)
  rw [e] at this
  simp only [QI, SV.den]
  exact this
theorem QiU {z m : List Int} {a : Option Addr} {n c : Nat} (hz : Qe z) (hl : z.length = 32) (hm : Qe m) (hml : m.length < 1000000) (k j : Nat) : PR Tryz.prog (gS ++ [fB (.slice a n c) m]) 19 [.y k 0 2 2] [(k, [.y j 0 32 32, .o a n c]), (j, [.a .u8 z 32])] (.a .u8 (Xf (z ++ m)) 64) := PR.mk' Tryz.func19 rfl rfl rfl fun ρ w hG hmm => by
  obtain ⟨b1, -⟩ := hmm _ (.head _)
  obtain ⟨b2, -⟩ := hmm _ (.tail _ (.head _))
  simp only [Qk, SV.cs, SV.den, List.append_nil, List.cons_append, List.nil_append] at b1 b2
  have hr := fB.rd (hG.get (i := 5) rfl)
  have hp := Qa8 (w := w) (B := ρ.b k) (ps := [(.slice (some ⟨ρ.b j, 0, none⟩) 32 32, z), (.slice a n c, m)]) b1 (by simp [maxLen]) (fun p hp => by
    simp only [List.mem_cons, List.not_mem_nil, or_false] at hp
    rcases hp with rfl | rfl
    . exact ⟨FW b2.range hl (by omega) (by simp [maxLen]), hz⟩
    . exact ⟨hr, hm⟩)
  have e : VW [(Value.slice (some ⟨ρ.b j, 0, none⟩) 32 32, z), (.slice a n c, m)] = z ++ m := by simp [VW]
  have := QaO hG.pre hp (by rw [e, List.length_append, hl]; omega) (XC _)
  rw [e] at this
  simp only [QI, SV.den]
  exact this
theorem QiT {z y m : List Int} {a : Option Addr} {n c : Nat} (hz : Qe z) (hl : z.length = 32) (hy : Qe y) (hyl : y.length = 32) (hm : Qe m) (hml : m.length < 1000000) (k j i : Nat) : PR Tryz.prog (gS ++ [fB (.slice a n c) m]) 19 [.y k 0 3 3] [(k, [.y j 0 32 32, .y i 0 32 32, .o a n c]), (j, [.a .u8 z 32]), (i, [.a .u8 y 32])] (.a .u8 (Xf (z ++ (y ++ m))) 64) := PR.mk' Tryz.func19 rfl rfl rfl fun ρ w hG hmm => by
  obtain ⟨b1, -⟩ := hmm _ (.head _)
  obtain ⟨b2, -⟩ := hmm _ (.tail _ (.head _))
  obtain ⟨b3, -⟩ := hmm _ (.tail _ (.tail _ (.head _)))
  simp only [Qk, SV.cs, SV.den, List.append_nil, List.cons_append, List.nil_append] at b1 b2 b3
  have hr := fB.rd (hG.get (i := 5) rfl)
  have hp := Qa8 (w := w) (B := ρ.b k) (ps := [(.slice (some ⟨ρ.b j, 0, none⟩) 32 32, z), (.slice (some ⟨ρ.b i, 0, none⟩) 32 32, y), (.slice a n c, m)]) b1 (by simp [maxLen]) (fun p hp => by
    simp only [List.mem_cons, List.not_mem_nil, or_false] at hp
    rcases hp with rfl | rfl | rfl
    . exact ⟨FW b2.range hl (by omega) (by simp [maxLen]), hz⟩
    . exact ⟨FW b3.range hyl (by omega) (by simp [maxLen]), hy⟩
    . exact ⟨hr, hm⟩)
  have e : VW [(Value.slice (some ⟨ρ.b j, 0, none⟩) 32 32, z), (.slice (some ⟨ρ.b i, 0, none⟩) 32 32, y), (.slice a n c, m)] = z ++ (y ++ m) := by simp [VW]
  have := QaO hG.pre hp (by rw [e, List.length_append, List.length_append, hl, hyl]; omega) (XC _)
  rw [e] at this
  simp only [QI, SV.den]
  exact this
theorem Qe.take {l : List Int} (h : Qe l) (n : Nat) : Qe (l.take n) := fun x hx => h x (List.mem_of_mem_take hx)
/-- A seed's secret, and its prefix. -/
def UM (z : List Int) : List Int := QbG ((Xf z).take 32)
def KC (z : List Int) : List Int := (Xf z).drop 32
theorem Y9 (z : List Int) : (UM z).length = 32 := Qao (by rw [List.length_take, XC]; rfl)
theorem Vz (z : List Int) : Qe (UM z) := QbF ((Z4 z).take 32)
theorem Jl (z : List Int) : (KC z).length = 32 := by unfold KC; rw [List.length_drop, XC]
theorem Qbc (z : List Int) : Qe (KC z) := (Z4 z).drop 32
theorem Qaa {z : List Int} (hz : Qe z) (hl : z.length = 32) : PV Tryz.prog gS 14 [.a .u8 z 32] (.t [.a .u8 (UM z) 32, .a .u8 (KC z) 32]) := by
  have h1 := QiV hz hl 3 0
  have hsl := XC z
  have htl : ((Xf z).take 32).length = 32 := by rw [List.length_take, hsl]; rfl
  have h2 := (Qh1 htl).up Qbr
  have hcl := Y9 z
  have hpl := Jl z
  unfold UM KC at *
  generalize Xf z = h at *
  generalize QbG (h.take 32) = s at *
  refine PV.mk' Tryz.func14 rfl rfl rfl rfl fun w L hL hG => ?_
  refine S.enter Qm [.a .u8 z 32] gS Tryz.func14 rfl rfl rfl (fun _ => rfl) hL hG ?_
  refine S.go false rfl (by repeat' (first | exact True.intro | refine And.intro ?_ ?_ | assumption | exact rfl | decide)) ?_
  refine S.cr [3, 0] rfl rfl rfl rfl rfl rfl rfl h1 ?_
  refine S.go false rfl (by repeat' (first | exact True.intro | refine And.intro ?_ ?_ | assumption | omega | (dsimp only; omega) | (simp only [Nat.add_eq, Nat.mul_eq, Nat.sub_eq, SV.wd]; omega) | exact rfl)) ?_
  refine S.drp false [(3, .a .u8 s 32)] rfl rfl rfl ?_ (by repeat' (first | exact True.intro | refine And.intro ?_ ?_ | assumption | exact rfl | decide))
  refine S.g false rfl ?_
  exact S.rett rfl rfl rfl rfl rfl
theorem QeQ {z : List Int} (hz : Qe z) (hl : z.length = 32) : PV Tryz.prog gS 6 [.a .u8 z 32] (.a .u8 (XE (QG (kB (UM z)) bP)) 32) := by
  have h1 := Qaa hz hl
  have h2 := (QbM (Vz z) (Y9 z)).up Qbr
  have hel := Q0 (QG (kB (UM z)) bP)
  have hcl := Y9 z
  have hpl := Jl z
  generalize XE (QG (kB (UM z)) bP) = E at *
  generalize UM z = s at *
  generalize KC z = p at *
  refine PV.mk' Tryz.func6 rfl rfl rfl rfl fun w L hL hG => ?_
  refine S.enter Qm [.a .u8 z 32] gS Tryz.func6 rfl rfl rfl (fun _ => rfl) hL hG ?_
  refine S.go false rfl (by repeat' (first | exact True.intro | refine And.intro ?_ ?_ | assumption | omega | (dsimp only; omega) | (simp only [Nat.add_eq, Nat.mul_eq, Nat.sub_eq, SV.wd]; omega) | exact rfl)) ?_
  refine S.cv rfl rfl rfl rfl rfl rfl h1 ?_
  refine S.go false rfl (by repeat' (first | exact True.intro | refine And.intro ?_ ?_ | assumption | omega | (dsimp only; omega) | (simp only [Nat.add_eq, Nat.mul_eq, Nat.sub_eq, SV.wd]; omega) | exact rfl)) ?_
  refine S.cv rfl rfl rfl rfl rfl rfl h2 ?_
  refine S.go false rfl (by repeat' (first | exact True.intro | refine And.intro ?_ ?_ | assumption | omega | (dsimp only; omega) | (simp only [Nat.add_eq, Nat.mul_eq, Nat.sub_eq, SV.wd]; omega) | exact rfl)) ?_
  exact S.retv rfl rfl rfl rfl rfl
/-- What binds a signature to R, the key and the message. -/
def EY (r key m : List Int) : List Int := Q2 (Qp (Xf (r ++ (key ++ m))) 64 % QH)
theorem VU (r key m : List Int) : (EY r key m).length = 32 := QM _
theorem UK (r key m : List Int) : Qe (EY r key m) := VI _
section
variable {a0 : Option Addr} {n0 c0 : Nat} {m : List Int} (hm : Qe m) (hml : m.length < 1000000)
include hm hml
theorem Kz {r key : List Int} (hr : Qe r) (hrl : r.length = 32) (hk : Qe key) (hkl : key.length = 32) : PV Tryz.prog (gS ++ [fB (.slice a0 n0 c0) m]) 21 [.a .u8 r 32, .a .u8 key 32, .o a0 n0 c0] (.a .u8 (EY r key m) 32) := by
  have h1 := QiT (a := a0) (n := n0) (c := c0) hr hrl hk hkl hm hml 6 0 1
  have hsl := XC (r ++ (key ++ m))
  have h2 := (Dx (Z4 (r ++ (key ++ m))) hsl).up (G' := gS ++ [fB (.slice a0 n0 c0) m]) (fun L w h => Qbr L w h.pre)
  have hcl := VU r key m
  unfold EY at *
  generalize Xf (r ++ (key ++ m)) = D at *
  generalize Q2 (Qp D 64 % QH) = o at *
  refine PV.mk' Tryz.func21 rfl rfl rfl rfl fun w L hL hG => ?_
  refine S.enter Qm [.a .u8 r 32, .a .u8 key 32, .o a0 n0 c0] (gS ++ [fB (.slice a0 n0 c0) m]) Tryz.func21 rfl rfl rfl (fun _ => rfl) hL hG ?_
  refine S.go false rfl (by repeat' (first | exact True.intro | refine And.intro ?_ ?_ | assumption | omega | (dsimp only; omega) | (simp only [Nat.add_eq, Nat.mul_eq, Nat.sub_eq, SV.wd]; omega) | exact rfl)) ?_
  refine S.drq false [(4, .a .u8 D 64), (5, .a .u8 o 32)] [(4, [6, 0, 1])] rfl rfl rfl ?_ (by repeat' (first | exact True.intro | refine And.intro ?_ ?_ | assumption | exact rfl | decide))
  refine S.g false rfl ?_
  exact S.retv rfl rfl rfl rfl rfl
/-- What is drawn of the prefix and the message, and the signature's second half. -/
def GM (z m : List Int) : List Int := Q2 (Qp (Xf (KC z ++ m)) 64 % QH)
omit hm hml in
theorem GK (z m : List Int) : (GM z m).length = 32 := QM _
omit hm hml in
theorem U2 (z m : List Int) : Qe (GM z m) := VI _
def YP (z : List Int) : List Int := XE (QG (kB (UM z)) bP)
def Gy (z m : List Int) : List Int := XE (QG (kB (GM z m)) bP)
def sB (z m : List Int) : List Int := Q2 ((Qp (GM z m) 32 + Qp (EY (Gy z m) (YP z) m) 32 * Qp (UM z) 32) % QH)
omit hm hml in
theorem Qex (z m : List Int) : (sB z m).length = 32 := QM _
omit hm hml in
theorem Dt (z m : List Int) : Qe (sB z m) := VI _
theorem QiW {z : List Int} (hz : Qe z) (hl : z.length = 32) : PV Tryz.prog (gS ++ [fB (.slice a0 n0 c0) m]) 8 [.a .u8 z 32, .o a0 n0 c0] (.a .u8 (Gy z m ++ sB z m) 64) := by
  have gT' : ∀ L w, Hs (gS ++ [fB (.slice a0 n0 c0) m]) L w -> Hs gT L w := fun L w h => Qbr L w h.pre
  have h1 := (Qaa hz hl).up (G' := gS ++ [fB (.slice a0 n0 c0) m]) (fun L w h => h.pre)
  have h2 := (QbM (Vz z) (Y9 z)).up gT'
  have h3 := QiU (a := a0) (n := n0) (c := c0) (Qbc z) (Jl z) hm hml 5 3
  have hsl := XC (KC z ++ m)
  have h4 := (Dx (Z4 (KC z ++ m)) hsl).up gT'
  have h5 := (QbM (U2 z m) (GK z m)).up gT'
  have h6 := Kz (a0 := a0) (n0 := n0) (c0 := c0) hm hml (ZP (QG (kB (GM z m)) bP)) (Q0 _) (ZP (QG (kB (UM z)) bP)) (Q0 _)
  have h7 := (Qfp (UK (Gy z m) (YP z) m) (Vz z) (U2 z m) (VU _ _ _) (Y9 z) (GK z m)).up gT'
  have q1 := Y9 z; have q2 := Jl z; have q3 := GK z m; have q4 := Qex z m; have q5 : (YP z).length = 32 := Q0 _; have q6 : (Gy z m).length = 32 := Q0 _; have q7 := VU (Gy z m) (YP z) m
  change PV _ _ _ _ (.a .u8 (sB z m) 32) at h7
  change PV _ _ _ _ (.a .u8 (YP z) 32) at h2
  change PV _ _ _ _ (.a .u8 (Gy z m) 32) at h5
  change PV _ _ _ _ (.a .u8 (GM z m) 32) at h4
  change PV _ _ _ [.a .u8 (Gy z m) 32, .a .u8 (YP z) 32, .o a0 n0 c0] _ at h6
  change PV _ _ _ _ (.a .u8 (EY (Gy z m) (YP z) m) 32) at h6
  generalize sB z m = S2 at *
  generalize EY (Gy z m) (YP z) m = C at *
  generalize Gy z m = R at *
  generalize YP z = E at *
  generalize GM z m = O at *
  generalize Xf (KC z ++ m) = D at *
  generalize UM z = s at *
  generalize KC z = p at *
  refine PV.mk' Tryz.func8 rfl rfl rfl rfl fun w L hL hG => ?_
  refine S.enter Qm [.a .u8 z 32, .o a0 n0 c0] (gS ++ [fB (.slice a0 n0 c0) m]) Tryz.func8 rfl rfl rfl (fun _ => rfl) hL hG ?_
  refine S.go false rfl (by repeat' (first | exact True.intro | refine And.intro ?_ ?_ | assumption | omega | (dsimp only; omega) | (simp only [Nat.add_eq, Nat.mul_eq, Nat.sub_eq, SV.wd]; omega) | exact rfl)) ?_
  refine S.cv rfl rfl rfl rfl rfl rfl h1 ?_
  refine S.go false rfl (by repeat' (first | exact True.intro | refine And.intro ?_ ?_ | assumption | omega | (dsimp only; omega) | (simp only [Nat.add_eq, Nat.mul_eq, Nat.sub_eq, SV.wd]; omega) | exact rfl)) ?_
  refine S.cv rfl rfl rfl rfl rfl rfl h2 ?_
  refine S.go false rfl (by repeat' (first | exact True.intro | refine And.intro ?_ ?_ | assumption | exact rfl | decide)) ?_
  refine S.cr [5, 3] rfl rfl rfl rfl rfl rfl rfl h3 ?_
  refine S.g false rfl ?_
  refine S.cv rfl rfl rfl rfl rfl rfl h4 ?_
  refine S.go false rfl (by repeat' (first | exact True.intro | refine And.intro ?_ ?_ | assumption | omega | (dsimp only; omega) | (simp only [Nat.add_eq, Nat.mul_eq, Nat.sub_eq, SV.wd]; omega) | exact rfl)) ?_
  refine S.cv rfl rfl rfl rfl rfl rfl h5 ?_
  refine S.go false rfl (by repeat' (first | exact True.intro | refine And.intro ?_ ?_ | assumption | omega | (dsimp only; omega) | (simp only [Nat.add_eq, Nat.mul_eq, Nat.sub_eq, SV.wd]; omega) | exact rfl)) ?_
  refine S.drp false [(3, .a .u8 C 32), (6, .a .u8 S2 32)] rfl rfl rfl ?_ (by repeat' (first | exact True.intro | refine And.intro ?_ ?_ | assumption | omega | (dsimp only; omega) | (simp only [Nat.add_eq, Nat.mul_eq, Nat.sub_eq, SV.wd]; omega) | exact rfl))
  refine S.g false rfl ?_
  refine S.dr0 false rfl rfl rfl ?_ (by repeat' (first | exact True.intro | refine And.intro ?_ ?_ | exact rfl | decide))
  refine S.g false rfl ?_
  refine S.dr0 false rfl rfl rfl ?_ (by repeat' (first | exact True.intro | refine And.intro ?_ ?_ | exact rfl | decide))
  have q8 : (R ++ S2).length = 64 := by rw [List.length_append, q6, q4]
  refine S.recell 17 [.a .u8 (R ++ S2) 64] rfl (fun ρ => congrArg (fun z => Qk ρ [SV.a .u8 z 64]) (by
    show List.take 32 (List.take 0 (List.replicate 64 (0 : Int)) ++ (List.take 32 (List.drop 0 R) ++ List.drop 32 (List.replicate 64 (0 : Int)))) ++ (List.take 32 (List.drop 0 S2) ++ List.drop 64 (List.take 0 (List.replicate 64 (0 : Int)) ++ (List.take 32 (List.drop 0 R) ++ List.drop 32 (List.replicate 64 (0 : Int))))) = R ++ S2
    have r1 : List.take 32 R = R := List.take_of_length_le (by omega)
    have r2 : List.take 32 S2 = S2 := List.take_of_length_le (by omega)
    rw [List.drop_zero, List.drop_zero, r1, r2, List.take_zero, List.nil_append, List.take_append_of_le_length (by omega), r1, List.drop_eq_nil_of_le (by simp [q6]), List.append_nil])) ⟨q8, trivial⟩ rfl ?_
  refine S.go false rfl (by repeat' (first | exact True.intro | refine And.intro ?_ ?_ | assumption | omega | (dsimp only; omega) | (simp only [Nat.add_eq, Nat.mul_eq, Nat.sub_eq, SV.wd]; omega) | exact rfl)) ?_
  exact S.retv rfl rfl rfl rfl rfl
/-- What Verify says: s isn't reduced; the key is no point; or else. -/
theorem E5 {key sig : List Int} (hk : Qe key) (hkl : key.length = 32) (hg : Qe sig) (hgl : sig.length = 64) :
    (¬ Qp (sig.drop 32) 32 < QH -> PV Tryz.prog (gS ++ [fB (.slice a0 n0 c0) m]) 12 [.a .u8 key 32, .o a0 n0 c0, .a .u8 sig 64] (.l false)) /\
    (Qp (sig.drop 32) 32 < QH -> ¬ Yj key -> PV Tryz.prog (gS ++ [fB (.slice a0 n0 c0) m]) 12 [.a .u8 key 32, .o a0 n0 c0, .a .u8 sig 64] (.l false)) /\
    (Qp (sig.drop 32) 32 < QH -> ∀ h : Yj key, PV Tryz.prog (gS ++ [fB (.slice a0 n0 c0) m]) 12 [.a .u8 key 32, .o a0 n0 c0, .a .u8 sig 64] (.c (XE (Qq (QG (kB (EY (sig.take 32) key m)) (X8 (Kr key h))) (QG (kB (sig.drop 32)) bP)) = sig.take 32) inferInstance)) := by
  have gT' : ∀ L w, Hs (gS ++ [fB (.slice a0 n0 c0) m]) L w -> Hs gT L w := fun L w h => Qbr L w h.pre
  have q1 : (sig.take 32).length = 32 := by rw [List.length_take, hgl]; rfl
  have q2 : (sig.drop 32).length = 32 := by rw [List.length_drop, hgl]
  have b1 := hg.take 32
  have b2 := hg.drop 32
  have h1 := (Qg4 b2 q2).up gT'
  obtain ⟨n1, n2⟩ := Qkw hk hkl
  have q3 := VU (sig.take 32) key m
  have h3 := Kz (a0 := a0) (n0 := n0) (c0 := c0) hm hml b1 q1 hk hkl
  have start : ∀ v : SV, (∀ w L, LL L w -> Hs (gS ++ [fB (.slice a0 n0 c0) m]) L w -> CX Tryz.prog 12 (QI QK [.a .u8 key 32, .o a0 n0 c0, .a .u8 sig 64]) w L (fun _ : Unit => v) (fun _ => []) (fun _ => True)) -> v.wf 0 = true -> PV Tryz.prog (gS ++ [fB (.slice a0 n0 c0) m]) 12 [.a .u8 key 32, .o a0 n0 c0, .a .u8 sig 64] v := fun v H hw => PV.mk' Tryz.func12 rfl rfl rfl hw H
  refine ⟨fun hs => ?_, fun hs hp => ?_, fun hs hp => ?_⟩
  . refine start _ (fun w L hL hG => ?_) rfl
    refine S.enter Qm [.a .u8 key 32, .o a0 n0 c0, .a .u8 sig 64] (gS ++ [fB (.slice a0 n0 c0) m]) Tryz.func12 rfl rfl rfl (fun _ => rfl) hL hG ?_
    refine S.go false rfl (by repeat' (first | exact True.intro | refine And.intro ?_ ?_ | assumption | omega | (dsimp only; omega) | (simp only [Nat.add_eq, Nat.mul_eq, Nat.sub_eq, SV.wd]; omega) | exact rfl)) ?_
    refine S.dr0 false rfl rfl rfl ?_ (by repeat' (first | exact True.intro | refine And.intro ?_ ?_ | assumption | exact rfl | decide))
    refine S.g false rfl ?_
    refine S.cv rfl rfl rfl rfl rfl rfl h1 ?_
    refine S.g false rfl ?_
    refine S.condT rfl hs ?_
    refine S.g false rfl ?_
    exact S.retv rfl rfl rfl rfl rfl
  . refine start _ (fun w L hL hG => ?_) rfl
    refine S.enter Qm [.a .u8 key 32, .o a0 n0 c0, .a .u8 sig 64] (gS ++ [fB (.slice a0 n0 c0) m]) Tryz.func12 rfl rfl rfl (fun _ => rfl) hL hG ?_
    refine S.go false rfl (by repeat' (first | exact True.intro | refine And.intro ?_ ?_ | assumption | omega | (dsimp only; omega) | (simp only [Nat.add_eq, Nat.mul_eq, Nat.sub_eq, SV.wd]; omega) | exact rfl)) ?_
    refine S.dr0 false rfl rfl rfl ?_ (by repeat' (first | exact True.intro | refine And.intro ?_ ?_ | assumption | exact rfl | decide))
    refine S.g false rfl ?_
    refine S.cv rfl rfl rfl rfl rfl rfl h1 ?_
    refine S.g false rfl ?_
    refine S.condF rfl (fun h => h hs) ?_
    refine S.g false rfl ?_
    refine S.cv rfl rfl rfl rfl rfl rfl ((n2 hp).up gT') ?_
    refine S.go false rfl (by repeat' (first | exact True.intro | refine And.intro ?_ ?_ | assumption | omega | (dsimp only; omega) | (simp only [Nat.add_eq, Nat.mul_eq, Nat.sub_eq, SV.wd]; omega) | exact rfl)) ?_
    refine S.condT rfl (by decide) ?_
    refine S.g false rfl ?_
    exact S.retv rfl rfl rfl rfl rfl
  . have hN := (n1 hp).up gT'
    obtain ⟨m1, -⟩ := Qkz (a := EY (sig.take 32) key m) (b := sig.drop 32) (p := XE (X8 (Kr key hp))) (UK _ _ _) (VU _ _ _) b2 q2 (ZP _) (Q0 _)
    have hM := (m1 (Es _)).up gT'
    rw [EB] at hM
    have q4 := Q0 (X8 (Kr key hp))
    have q5 := Q0 (Qq (QG (kB (EY (sig.take 32) key m)) (X8 (Kr key hp))) (QG (kB (sig.drop 32)) bP))
    generalize XE (Qq (QG (kB (EY (sig.take 32) key m)) (X8 (Kr key hp))) (QG (kB (sig.drop 32)) bP)) = E at *
    generalize XE (X8 (Kr key hp)) = K2 at *
    generalize EY (sig.take 32) key m = C at *
    refine start _ (fun w L hL hG => ?_) rfl
    refine S.enter Qm [.a .u8 key 32, .o a0 n0 c0, .a .u8 sig 64] (gS ++ [fB (.slice a0 n0 c0) m]) Tryz.func12 rfl rfl rfl (fun _ => rfl) hL hG ?_
    refine S.go false rfl (by repeat' (first | exact True.intro | refine And.intro ?_ ?_ | assumption | omega | (dsimp only; omega) | (simp only [Nat.add_eq, Nat.mul_eq, Nat.sub_eq, SV.wd]; omega) | exact rfl)) ?_
    refine S.dr0 false rfl rfl rfl ?_ (by repeat' (first | exact True.intro | refine And.intro ?_ ?_ | assumption | exact rfl | decide))
    refine S.g false rfl ?_
    refine S.cv rfl rfl rfl rfl rfl rfl h1 ?_
    refine S.g false rfl ?_
    refine S.condF rfl (fun h => h hs) ?_
    refine S.g false rfl ?_
    refine S.cv rfl rfl rfl rfl rfl rfl hN ?_
    refine S.go false rfl (by repeat' (first | exact True.intro | refine And.intro ?_ ?_ | assumption | omega | (dsimp only; omega) | (simp only [Nat.add_eq, Nat.mul_eq, Nat.sub_eq, SV.wd]; omega) | exact rfl)) ?_
    refine S.condF rfl (by decide) ?_
    refine S.g false rfl ?_
    refine S.drp false [(3, .a .u8 C 32), (6, .t [.a .u8 E 32, .i .i64 0])] rfl rfl rfl ?_ (by repeat' (first | exact True.intro | refine And.intro ?_ ?_ | assumption | omega | (dsimp only; omega) | (simp only [Nat.add_eq, Nat.mul_eq, Nat.sub_eq, SV.wd]; omega) | exact rfl))
    refine S.gn 5 false rfl ?_
    refine S.rd 40 (.l true) rfl (fun _ => rfl) ?_
    refine S.go false rfl (by repeat' (first | exact True.intro | refine And.intro ?_ ?_ | assumption | omega | (dsimp only; omega) | (simp only [Nat.add_eq, Nat.mul_eq, Nat.sub_eq, SV.wd]; omega) | exact rfl)) ?_
    exact S.retv rfl rfl rfl rfl rfl
end
end Go.Proofs.YtbiboamaigedjaaGreatDoor
namespace Go.Proofs.YtbiboamaigedjaaGreatDoor
open Go.RowKit
set_option maxRecDepth 100000
set_option linter.unusedSimpArgs false
set_option linter.unusedVariables false
theorem EL : Ht (Hf, He, 1) bP := ⟨by show (1 : FF) ≠ 0; decide +kernel, by show Hf = Hf * 1; decide +kernel, by show He = He * 1; decide +kernel⟩
theorem QcT : (XO (Hf, He, 1) 253 lN).1 = 0 /\ (XO (Hf, He, 1) 253 lN).2.1 = (XO (Hf, He, 1) 253 lN).2.2 := by decide +kernel
theorem Qgj : QG lN bP = Xo := Qdp (Vg EL 253 lN (by decide +kernel)) QcT.1 QcT.2
theorem Qhh : QH = (lN : Int) := by decide +kernel
theorem QgN (n : Nat) : QG (n % lN) bP = QG n bP := by
  have h := Zc (lN * (n / lN)) bP (n % lN)
  rw [Nat.div_add_mod] at h
  rw [h, Nat.mul_comm, Je, Qgj, JX, Yk]
theorem Ek {l : List Int} (h : Qe l) : ((kB l : Nat) : Int) = Qp l 32 := by
  have := Zj l h
  unfold kB; omega
theorem Qew (z m : List Int) : Qp (sB z m) 32 = (Qp (GM z m) 32 + Qp (EY (Gy z m) (YP z) m) 32 * Qp (UM z) 32) % QH := by
  unfold sB
  exact UB _ (by unfold QH; omega) (by unfold QH; omega)
theorem Qkj (z m : List Int) : Qp (sB z m) 32 < QH := by rw [Qew]; unfold QH; omega
theorem Qkk (z m : List Int) : kB (sB z m) = (kB (GM z m) + kB (EY (Gy z m) (YP z) m) * kB (UM z)) % lN := by
  have h := Qew z m
  rw [<- Ek (Dt z m), <- Ek (U2 z m), <- Ek (UK _ _ _), <- Ek (Vz z), Qhh, <- Int.natCast_mul, <- Int.natCast_add, <- Int.natCast_emod] at h
  exact Int.ofNat.inj h
theorem vrf (c a n : Nat) (o : Pt) : Qq (QG c (X8 (QG a bP))) (QG ((n + c * a) % lN) bP) = QG n bP := by
  rw [QgN, Zc, Dr, <- Je, Vd (QG n bP), <- Xp, Js, Yk]
theorem Qjs (z : List Int) (h : Yj (YP z)) : Kr (YP z) h = QG (kB (UM z)) bP := EB _ h
theorem QhF (z m : List Int) (h : Yj (YP z)) : XE (Qq (QG (kB (EY (Gy z m) (YP z) m)) (X8 (Kr (YP z) h))) (QG (kB (sB z m)) bP)) = Gy z m := by
  rw [Qjs, Qkk, vrf _ _ _ Xo]
  rfl
theorem Qce {c : FF × FF × FF} {P Q : Pt} (h : Ht c P) (hx : c.1 = Q.x * c.2.2) (hy : c.2.1 = Q.y * c.2.2) : P = Q := by
  obtain ⟨h0, h1, h2⟩ := h
  refine Pt.ext (QbI h0 ?_) (QbI h0 ?_)
  . rw [h1] at hx; grobner
  . rw [h2] at hy; grobner
def z0 : List Int := [157, 97, 177, 157, 239, 253, 90, 96, 186, 132, 74, 244, 146, 236, 44, 196, 68, 73, 197, 105, 123, 50, 105, 25, 112, 59, 172, 3, 28, 174, 127, 96]
theorem Gf : Qe z0 := by intro x hx; revert x; decide
def Qdd : List Int := [48, 124, 131, 134, 79, 40, 51, 203, 66, 122, 46, 241, 192, 10, 1, 60, 253, 255, 39, 104, 217, 128, 192, 163, 165, 32, 240, 6, 144, 77, 233, 79]
def Qlr : List Int := [155, 79, 10, 254, 40, 11, 116, 106, 119, 134, 132, 231, 84, 66, 80, 32, 87, 183, 71, 58, 3, 240, 143, 150, 245, 163, 142, 146, 135, 224, 31, 143]
theorem Qb1 : UM z0 = Qdd := by decide +kernel
theorem Qhe : KC z0 = Qlr := by decide +kernel
def A0 : Pt := ⟨38815646466658113194383306759739515082307681141926459231621296960732224964046, 11903303657706407974989296177215005343713679411332034699907763981919547054807, by unfold On; decide +kernel⟩
theorem EU : kB Qdd < 2 ^ 256 /\ (XO (Hf, He, 1) 256 (kB Qdd)).1 = A0.x * (XO (Hf, He, 1) 256 (kB Qdd)).2.2 /\ (XO (Hf, He, 1) 256 (kB Qdd)).2.1 = A0.y * (XO (Hf, He, 1) 256 (kB Qdd)).2.2 := by decide +kernel
def QkF : List Int := [215, 90, 152, 1, 130, 177, 10, 183, 213, 75, 254, 211, 201, 100, 7, 58, 14, 225, 114, 243, 218, 166, 35, 37, 175, 2, 26, 104, 247, 7, 81, 26]
theorem Qcs : YP z0 = QkF := by
  unfold YP
  rw [Qb1, Qce (Vg EL 256 _ EU.1) EU.2.1 EU.2.2]
  decide +kernel
def Qdw : List Int := [243, 137, 7, 48, 140, 137, 61, 234, 242, 68, 120, 125, 180, 175, 83, 104, 34, 73, 16, 116, 24, 175, 194, 237, 197, 143, 117, 172, 88, 160, 116, 4]
theorem Qck : GM z0 [] = Qdw := by
  unfold GM
  rw [Qhe]
  decide +kernel
def R0 : Pt := ⟨44370630452101398467924320556439323233869374150616132215183787387252341590058, 38448863731492799660668882834560725606410712239157980760146247592118262650597, by unfold On; decide +kernel⟩
theorem ER : kB Qdw < 2 ^ 256 /\ (XO (Hf, He, 1) 256 (kB Qdw)).1 = R0.x * (XO (Hf, He, 1) 256 (kB Qdw)).2.2 /\ (XO (Hf, He, 1) 256 (kB Qdw)).2.1 = R0.y * (XO (Hf, He, 1) 256 (kB Qdw)).2.2 := by decide +kernel
def r0 : List Int := [229, 86, 67, 0, 195, 96, 172, 114, 144, 134, 226, 204, 128, 110, 130, 138, 132, 135, 127, 30, 184, 229, 217, 116, 216, 115, 224, 101, 34, 73, 1, 85]
theorem Qit : Gy z0 [] = r0 := by
  unfold Gy
  rw [Qck, Qce (Vg EL 256 _ ER.1) ER.2.1 ER.2.2]
  decide +kernel
def s0 : List Int := [95, 184, 130, 21, 144, 163, 59, 172, 198, 30, 57, 112, 28, 249, 180, 107, 210, 91, 245, 240, 89, 91, 190, 36, 101, 81, 65, 67, 142, 122, 16, 11]
theorem Qkl : sB z0 [] = s0 := by
  unfold sB
  rw [Qck, Qit, Qcs, Qb1]
  decide +kernel
end Go.Proofs.YtbiboamaigedjaaGreatDoor
namespace Go.Proofs.YtbiboamaigedjaaGreatDoor
open Go.RowKit
set_option linter.unusedVariables false
set_option linter.unusedSimpArgs false
set_option maxRecDepth 8000
set_option maxHeartbeats 2000000

theorem QjB (L : List Nat) (w : World) : (fB (.slice none 0 0) []).h L w := ⟨⟨by omega, by simp, none, 0, rfl, by simp, by simp [maxLen], by simp, fun h => absurd rfl h⟩, fun a n c e _ => by simp only [Value.slice.injEq] at e; exact e.2.2.symm⟩
section
variable {a0 : Option Addr} {n0 c0 : Nat} {m : List Int} (hm : Qe m) (hml : m.length < 1000000)
include hm hml
theorem Qd5 (z : List Int) (hz : Qe z) (hl : z.length = 32) : PV Tryz.prog (gS ++ [fB (.slice a0 n0 c0) m]) 12 [.a .u8 (YP z) 32, .o a0 n0 c0, .a .u8 (Gy z m ++ sB z m) 64] (.l true) := by
  have q6 : (Gy z m).length = 32 := Q0 _
  have q7 := Qex z m
  have e1 : (Gy z m ++ sB z m).take 32 = Gy z m := by rw [List.take_append_of_le_length (by omega), List.take_of_length_le (by omega)]
  have e2 : (Gy z m ++ sB z m).drop 32 = sB z m := by rw [List.drop_append_of_le_length (by omega), List.drop_eq_nil_of_le (by omega), List.nil_append]
  have hb : Qe (Gy z m ++ sB z m) := fun x hx => (List.mem_append.1 hx).elim (ZP _ x) (Dt z m x)
  obtain ⟨-, -, h3⟩ := E5 (a0 := a0) (n0 := n0) (c0 := c0) hm hml (key := YP z) (sig := Gy z m ++ sB z m) (ZP _) (Q0 _) hb (by rw [List.length_append]; omega)
  rw [e1, e2] at h3
  have hk : Yj (YP z) := Es _
  have h := h3 (Qkj z m) hk
  exact h.res (by simp only [SV.den]; rw [decide_eq_true (QhF z m hk)]) rfl
end
set_option maxHeartbeats 2000000 in
theorem Qig : PV Tryz.prog gS 5 [] (.l true) := by
  have hP := (QeQ Gf rfl).up (G' := gS ++ [fB (.slice none 0 0) []]) (fun L w h => h.pre)
  have hS := QiW (a0 := none) (n0 := 0) (c0 := 0) (m := []) (by intro x hx; cases hx) (by simp) Gf rfl
  have hV := Qd5 (a0 := none) (n0 := 0) (c0 := 0) (m := []) (by intro x hx; cases hx) (by simp) z0 Gf rfl
  change PV _ _ _ _ (.a .u8 (YP z0) 32) at hP
  rw [Qcs] at hP hV
  rw [Qit, Qkl] at hS hV
  refine PV.mk' Tryz.func5 rfl rfl rfl rfl fun w L hL hG => ?_
  refine S.enter Qm [] (gS ++ [fB (.slice none 0 0) []]) Tryz.func5 rfl rfl rfl (fun _ => rfl) hL (hG.app ⟨QjB _ _, trivial⟩) ?_
  refine S.g false rfl ?_
  refine S.recell 0 [.a .u8 z0 32] rfl (fun ρ => rfl) ⟨rfl, trivial⟩ rfl ?_
  refine S.drp false [(1, .a .u8 QkF 32), (3, .a .u8 (r0 ++ s0) 64)] rfl rfl rfl ?_ (by repeat' (first | exact True.intro | refine And.intro ?_ ?_ | assumption | exact rfl | decide))
  refine S.gn 6 false rfl ?_ (by repeat' (first | exact True.intro | refine And.intro ?_ ?_ | assumption | exact rfl | decide))
  refine S.rd 12 (.l true) rfl (fun _ => rfl) ?_
  refine S.gn 5 false rfl ?_ (by repeat' (first | exact True.intro | refine And.intro ?_ ?_ | assumption | exact rfl | decide))
  refine S.rd 17 (.l true) rfl (fun _ => rfl) ?_
  refine S.gn 5 false rfl ?_ (by repeat' (first | exact True.intro | refine And.intro ?_ ?_ | assumption | exact rfl | decide))
  refine S.rd 22 (.l true) rfl (fun _ => rfl) ?_
  refine S.gn 5 false rfl ?_ (by repeat' (first | exact True.intro | refine And.intro ?_ ?_ | assumption | exact rfl | decide))
  refine S.rd 27 (.l true) rfl (fun _ => rfl) ?_
  refine S.gn 5 false rfl ?_ (by repeat' (first | exact True.intro | refine And.intro ?_ ?_ | assumption | exact rfl | decide))
  refine S.rd 32 (.l true) rfl (fun _ => rfl) ?_
  refine S.gn 5 false rfl ?_ (by repeat' (first | exact True.intro | refine And.intro ?_ ?_ | assumption | exact rfl | decide))
  refine S.rd 37 (.l true) rfl (fun _ => rfl) ?_
  refine S.gn 5 false rfl ?_ (by repeat' (first | exact True.intro | refine And.intro ?_ ?_ | assumption | exact rfl | decide))
  refine S.rd 42 (.l true) rfl (fun _ => rfl) ?_
  refine S.go false rfl (by repeat' (first | exact True.intro | refine And.intro ?_ ?_ | assumption | exact rfl | decide)) ?_
  refine S.cv rfl rfl rfl rfl rfl rfl hV ?_
  refine S.g false rfl ?_
  exact S.retv rfl rfl rfl rfl rfl
theorem Qk6 : Qf 4 QH = [6346243789798364141, 1503914060200516822, 0, 1152921504606846976] := by decide +kernel
theorem L_f : PV Tryz.prog gT 77 [] (.a .u64 (Qf 4 QH) 4) := by
  have h : PV Tryz.prog gT 77 [] (.g [.i .u64 6346243789798364141, .i .u64 1503914060200516822, .i .u64 0, .i .u64 1152921504606846976]) := by
    refine PV.mk' Tryz.func77 rfl rfl rfl rfl fun w L hL hG => ?_
    refine S.enter Qm [] gT Tryz.func77 rfl rfl rfl (fun _ => rfl) hL hG ?_
    refine S.go false rfl (by repeat' (first | exact True.intro | refine And.intro ?_ ?_ | assumption | omega | (dsimp only; omega) | (simp only [Nat.add_eq, Nat.mul_eq, Nat.sub_eq, SV.wd]; omega) | exact rfl)) ?_
    exact S.retv rfl rfl rfl rfl rfl
  rw [Qk6]
  exact h.res rfl rfl
theorem GG : 0 <= QH /\ QH < 2 ^ 256 := by unfold QH; omega
theorem Qg5 {b : List Int} (hb : Qe b) (hl : b.length = 32) : PV Tryz.prog gT 30 [.a .u8 b 32] (.l (decide (Qp b 32 < QH))) := by
  have h1 := Qfw hb hl
  have h2 := L_f
  have h3 := Qbo (Zj b hb) GG
  have l1 := Qa 4 (Qp b 32); have l2 := Qa 4 QH
  generalize Qf 4 (Qp b 32) = x at *
  generalize Qf 4 QH = o at *
  generalize decide (Qp b 32 < QH) = r at *
  refine PV.mk' Tryz.func30 rfl rfl rfl rfl fun w L hL hG => ?_
  refine S.enter Qm [.a .u8 b 32] gT Tryz.func30 rfl rfl rfl (fun _ => rfl) hL hG ?_
  refine S.go false rfl (by repeat' (first | exact True.intro | refine And.intro ?_ ?_ | assumption | omega | (dsimp only; omega) | (simp only [Nat.add_eq, Nat.mul_eq, Nat.sub_eq, SV.wd]; omega) | exact rfl)) ?_
  refine S.cv rfl rfl rfl rfl rfl rfl h1 ?_
  refine S.go false rfl (by repeat' (first | exact True.intro | refine And.intro ?_ ?_ | assumption | omega | (dsimp only; omega) | (simp only [Nat.add_eq, Nat.mul_eq, Nat.sub_eq, SV.wd]; omega) | exact rfl)) ?_
  refine S.cv rfl rfl rfl rfl rfl rfl h2 ?_
  refine S.go false rfl (by repeat' (first | exact True.intro | refine And.intro ?_ ?_ | assumption | omega | (dsimp only; omega) | (simp only [Nat.add_eq, Nat.mul_eq, Nat.sub_eq, SV.wd]; omega) | exact rfl)) ?_
  refine S.cv rfl rfl rfl rfl rfl rfl h3 ?_
  refine S.go false rfl (by repeat' (first | exact True.intro | refine And.intro ?_ ?_ | assumption | omega | (dsimp only; omega) | (simp only [Nat.add_eq, Nat.mul_eq, Nat.sub_eq, SV.wd]; omega) | exact rfl)) ?_
  exact S.retv rfl rfl rfl rfl rfl
theorem Qei {u v : Int} (hu : 0 <= u /\ u < QH) (hv : 0 <= v /\ v < QH) : PV Tryz.prog gT 56 [.a .u64 (Qf 4 u) 4, .a .u64 (Qf 4 v) 4] (.a .u64 (Qf 4 ((u + v) % QH)) 4) := by
  have hO := GG
  have hO2 : QH + QH < 2 ^ 256 := by unfold QH; omega
  have h1 := F2 hu.1 hv.1 (by omega)
  have h2 := L_f
  have l1 := Qa 4 u; have l2 := Qa 4 v; have l3 := Qa 4 (u + v); have l4 := Qa 4 QH
  by_cases h : u + v < QH
  . have h3 := Ee (u := u + v) (v := QH) (by omega) GG h
    rw [Int.emod_eq_of_lt (by omega) h]
    generalize Qf 4 (u + v) = s at *
    generalize Qf 4 u = x at *
    generalize Qf 4 v = y at *
    generalize Qf 4 QH = o at *
    refine PV.mk' Tryz.func56 rfl rfl rfl rfl fun w L hL hG => ?_
    refine S.enter Qm [.a .u64 x 4, .a .u64 y 4] gT Tryz.func56 rfl rfl rfl (fun _ => rfl) hL hG ?_
    refine S.go false rfl (by repeat' (first | exact True.intro | refine And.intro ?_ ?_ | assumption | omega | (dsimp only; omega) | (simp only [Nat.add_eq, Nat.mul_eq, Nat.sub_eq, SV.wd]; omega) | exact rfl)) ?_
    refine S.cv rfl rfl rfl rfl rfl rfl h1 ?_
    refine S.go false rfl (by repeat' (first | exact True.intro | refine And.intro ?_ ?_ | assumption | omega | (dsimp only; omega) | (simp only [Nat.add_eq, Nat.mul_eq, Nat.sub_eq, SV.wd]; omega) | exact rfl)) ?_
    refine S.drp false [(1, .a .u64 o 4), (2, .l true)] rfl rfl rfl ?_ (by repeat' (first | exact True.intro | refine And.intro ?_ ?_ | assumption | omega | (dsimp only; omega) | (simp only [Nat.add_eq, Nat.mul_eq, Nat.sub_eq, SV.wd]; omega) | exact rfl))
    refine S.go false rfl (by repeat' (first | exact True.intro | refine And.intro ?_ ?_ | assumption | omega | (dsimp only; omega) | (simp only [Nat.add_eq, Nat.mul_eq, Nat.sub_eq, SV.wd]; omega) | exact rfl)) ?_
    exact S.retv rfl rfl rfl rfl rfl
  . have h3 := Eg (u := u + v) (v := QH) (by omega) GG h
    have h4 := Un (u := u + v) (v := QH) GG.1 (by omega) (by omega)
    have e : (u + v) % QH = u + v - QH := by unfold QH at *; omega
    rw [e]
    have l5 := Qa 4 (u + v - QH)
    generalize Qf 4 (u + v - QH) = r at *
    generalize Qf 4 (u + v) = s at *
    generalize Qf 4 u = x at *
    generalize Qf 4 v = y at *
    generalize Qf 4 QH = o at *
    refine PV.mk' Tryz.func56 rfl rfl rfl rfl fun w L hL hG => ?_
    refine S.enter Qm [.a .u64 x 4, .a .u64 y 4] gT Tryz.func56 rfl rfl rfl (fun _ => rfl) hL hG ?_
    refine S.go false rfl (by repeat' (first | exact True.intro | refine And.intro ?_ ?_ | assumption | omega | (dsimp only; omega) | (simp only [Nat.add_eq, Nat.mul_eq, Nat.sub_eq, SV.wd]; omega) | exact rfl)) ?_
    refine S.cv rfl rfl rfl rfl rfl rfl h1 ?_
    refine S.go false rfl (by repeat' (first | exact True.intro | refine And.intro ?_ ?_ | assumption | omega | (dsimp only; omega) | (simp only [Nat.add_eq, Nat.mul_eq, Nat.sub_eq, SV.wd]; omega) | exact rfl)) ?_
    refine S.drp false [(1, .a .u64 o 4), (2, .l false)] rfl rfl rfl ?_ (by repeat' (first | exact True.intro | refine And.intro ?_ ?_ | assumption | omega | (dsimp only; omega) | (simp only [Nat.add_eq, Nat.mul_eq, Nat.sub_eq, SV.wd]; omega) | exact rfl))
    refine S.go false rfl (by repeat' (first | exact True.intro | refine And.intro ?_ ?_ | assumption | omega | (dsimp only; omega) | (simp only [Nat.add_eq, Nat.mul_eq, Nat.sub_eq, SV.wd]; omega) | exact rfl)) ?_
    refine S.drp false [(1, .a .u64 o 4), (2, .t [.a .u64 r 4, .i .u64 0])] rfl rfl rfl ?_ (by repeat' (first | exact True.intro | refine And.intro ?_ ?_ | assumption | omega | (dsimp only; omega) | (simp only [Nat.add_eq, Nat.mul_eq, Nat.sub_eq, SV.wd]; omega) | exact rfl))
    refine S.go false rfl (by repeat' (first | exact True.intro | refine And.intro ?_ ?_ | assumption | omega | (dsimp only; omega) | (simp only [Nat.add_eq, Nat.mul_eq, Nat.sub_eq, SV.wd]; omega) | exact rfl)) ?_
    exact S.retv rfl rfl rfl rfl rfl
/-- What is left, as far as it has been reckoned. -/
def KD (V : Int) (T k : Nat) : Int := V / 2 ^ (T - k) % QH
theorem QkD (V : Int) (T k : Nat) : 0 <= KD V T k /\ KD V T k < QH := by unfold KD QH; omega
theorem Qly {V : Int} {T : Nat} (h : 0 <= V /\ V < 2 ^ T) : KD V T 0 = 0 := by unfold KD; rw [Nat.sub_zero, Int.ediv_eq_zero_of_lt h.1 h.2]; rfl
theorem Qlx (V : Int) (T : Nat) : KD V T T = V % QH := by unfold KD; rw [Nat.sub_self, Int.pow_zero, Int.ediv_one]
theorem Qcq (V : Int) {T k : Nat} (hk : k < T) : V / 2 ^ (T - (k + 1)) = 2 * (V / 2 ^ (T - k)) + V / 2 ^ (T - (k + 1)) % 2 := by
  have := Up V (T - (k + 1))
  rwa [show T - (k + 1) + 1 = T - k by omega] at this
theorem QhA (V : Int) {T k : Nat} (hk : k < T) (h : V / 2 ^ (T - (k + 1)) % 2 = 0) : (KD V T k + KD V T k) % QH = KD V T (k + 1) := by
  have := Qcq V hk
  unfold KD QH
  omega
theorem Qjq (V : Int) {T k : Nat} (hk : k < T) (h : V / 2 ^ (T - (k + 1)) % 2 = 1) : ((KD V T k + KD V T k) % QH + 1) % QH = KD V T (k + 1) := by
  have := Qcq V hk
  unfold KD QH
  omega
theorem YF : ∀ zs : List Int, (zs.map fun z => [Value.int .u8 z]).flatten = zs.map (Value.int .u8)
  | [] => rfl
  | a :: l => by simp only [List.map_cons, List.flatten_cons, YF l]; rfl
theorem QjW {zb : List Int} (hb : Qe zb) {k : Nat} (hk : k < 512) : bits .and .u8 (zb.getD (Int.toNat ((511 - (k : Int)) / 8)) 0 / 2 ^ Int.toNat ((511 - (k : Int)) % 8)) 1 = Qp zb 64 / 2 ^ (512 - (k + 1)) % 2 := by
  have e1 : Int.toNat ((511 - (k : Int)) / 8) = (511 - k) / 8 := by omega
  have e2 : Int.toNat ((511 - (k : Int)) % 8) = (511 - k) % 8 := by omega
  rw [e1, e2, QE, show 512 - (k + 1) = 511 - k by omega, <- Hi zb hb 64 (511 - k) (by omega)]
  exact Vu (VX (hb.at ((511 - k) / 8)) _)
attribute [local irreducible] KD in
set_option maxHeartbeats 1000000 in
theorem QfB {zb : List Int} (hb : Qe zb) (hl : zb.length = 64) {a0 : Option Addr} : PV Tryz.prog (gT ++ [fB (.slice a0 64 64) zb]) 55 [.o a0 64 64] (.a .u64 (Qf 4 (Qp zb 64 % QH)) 4) := by
  have hV := Jb zb hb 64
  rw [<- Qlx (Qp zb 64) 512]
  have h00 := Qly (T := 512) hV
  refine PV.mk' Tryz.func55 rfl rfl rfl rfl fun w L hL hG => ?_
  refine S.enter Qm [.o a0 64 64] (gT ++ [fB (.slice a0 64 64) zb]) Tryz.func55 rfl rfl rfl (fun _ => rfl) hL hG ?_
  refine S.slc 0 [.a .u8 zb 64] rfl (fun ρ w h => (h.f 3 rfl).1) (by rw [YF]; simp [Qk, SV.cs]) (by simp [ZD, SV.wd]) ?_ ⟨hl, trivial⟩
  generalize hVe : Qp zb 64 = V at hV h00 ⊢
  have n0 := Qa 4 (KD V 512 0)
  refine S.go false rfl (by repeat' (first | exact True.intro | refine And.intro ?_ ?_ | omega | (dsimp only; omega) | (simp only [Nat.add_eq, Nat.mul_eq, Nat.sub_eq, SV.wd]; omega) | exact rfl)) ?_
  refine S.recell 2 [.a .u64 (Qf 4 (KD V 512 0)) 4] rfl (fun ρ => by rw [h00, <- KH]; rfl) ⟨n0, trivial⟩ rfl ?_
  refine S.loop [0, 2, 3] (fun k : Nat => [(4, .i .i64 (511 - (k : Int)))]) (fun k => [(1, [.i .u64 0, .i .u64 0, .i .u64 0, .i .u64 0]), (2, [.a .u64 (Qf 4 (KD V 512 k)) 4])]) (fun _ => []) (fun k => k <= 512) (fun k => 512 - k) 0 rfl (fun _ => rfl) (fun _ => rfl) rfl ⟨⟨rfl, by simp⟩, trivial⟩ (by repeat' (first | exact True.intro | refine And.intro ?_ ?_ | exact n0 | exact rfl)) (fun _ _ _ => trivial) (by omega) fun J k hk again => ?_
  have hk' : k <= 512 := hk
  have n1 := Qa 4 (KD V 512 k)
  have n2 := Qa 4 (KD V 512 (k + 1))
  refine S.g false rfl ?_
  refine S.cond rfl (fun c5 => ?_) (fun c5 => ?_)
  . have c' : k < 512 := by omega
    have hs := QkD V 512 k
    have hP := Qei hs hs
    have n3 := Qa 4 ((KD V 512 k + KD V 512 k) % QH)
    have hbe := QjW hb c'
    refine S.go false rfl (by repeat' (first | exact True.intro | refine And.intro ?_ ?_ | omega | (dsimp only; omega) | (simp only [Nat.add_eq, Nat.mul_eq, Nat.sub_eq, SV.wd]; omega) | exact rfl)) ?_
    refine S.cv rfl rfl rfl rfl rfl rfl (hP.up (fun L w h => h.pre)) ?_
    refine S.go false rfl (by repeat' (first | exact True.intro | refine And.intro ?_ ?_ | exact n3 | exact hl | omega | (dsimp only; omega) | exact rfl)) ?_
    refine S.cond rfl (fun c2 => ?_) (fun c2 => ?_)
    . replace c2 : Qp zb 64 / 2 ^ (512 - (k + 1)) % 2 = 1 := by rw [<- hbe]; exact c2
      rw [hVe] at c2
      have et := Qjq V c' c2
      have h1 : 0 <= (1 : Int) /\ (1 : Int) < QH := by unfold QH; omega
      have hQ := (Qei (u := (KD V 512 k + KD V 512 k) % QH) (v := 1) (by unfold QH; omega) h1).arg (G0 DU)
      rw [et] at hQ
      refine S.go false rfl (by repeat' (first | exact True.intro | refine And.intro ?_ ?_ | omega | (dsimp only; omega) | (simp only [Nat.add_eq, Nat.mul_eq, Nat.sub_eq, SV.wd]; omega) | exact rfl)) ?_
      refine S.cv rfl rfl rfl rfl rfl rfl (hQ.up (fun L w h => h.pre)) ?_
      refine S.go false rfl (by repeat' (first | exact True.intro | refine And.intro ?_ ?_ | exact n2 | exact n3 | omega | (dsimp only; omega) | exact rfl)) ?_
      refine S.again (again (k + 1) (show k + 1 <= 512 by omega) (show 512 - (k + 1) < 512 - k by omega)) ⟨⟨rfl, by omega⟩, rfl, rfl, rfl, trivial⟩ ?_ rfl rfl (fun x hx => hx) rfl (fun ρ W h => h.hs)
      repeat' (first | exact True.intro | refine And.intro ?_ ?_ | exact n2 | exact rfl)
    . replace c2 : ¬ Qp zb 64 / 2 ^ (512 - (k + 1)) % 2 = 1 := by rw [<- hbe]; exact c2
      rw [hVe] at c2
      have et := QhA V c' (by omega)
      refine S.go false rfl (by repeat' (first | exact True.intro | refine And.intro ?_ ?_ | exact n2 | exact n3 | omega | (dsimp only; omega) | exact rfl)) ?_
      refine S.again (again (k + 1) (show k + 1 <= 512 by omega) (show 512 - (k + 1) < 512 - k by omega)) ⟨⟨rfl, by omega⟩, rfl, rfl, rfl, trivial⟩ ?_ rfl rfl (fun x hx => hx) rfl (fun ρ W h => h.hs)
      repeat' (first | exact True.intro | refine And.intro ?_ ?_ | exact n2 | exact congrArg (fun z => SV.a .u64 (Qf 4 z) 4) et | exact rfl)
  . obtain rfl : k = 512 := by omega
    refine S.go false rfl (by repeat' (first | exact True.intro | refine And.intro ?_ ?_ | exact n1 | exact rfl)) ?_
    exact S.retv rfl rfl rfl rfl rfl
theorem QfA {zb : List Int} (hb : Qe zb) (hl : zb.length = 64) (k : Nat) : PR Tryz.prog gT 55 [.y k 0 64 64] [(k, [.a .u8 zb 64])] (.a .u64 (Qf 4 (Qp zb 64 % QH)) 4) := PR.mk' Tryz.func55 rfl rfl rfl fun ρ w hG hm => by
  obtain ⟨b1, -⟩ := hm _ (.head _)
  simp only [Qk, SV.cs, SV.den, List.append_nil] at b1
  have hr := Xl.rows (s := 1) (rows := zb.map fun z => [Value.int .u8 z]) (by rw [YF]; exact b1) (by omega) (fun r hr => by simp only [List.mem_map] at hr; obtain ⟨x, _, rfl⟩ := hr; rfl) (by simp [hl, maxLen])
  rw [List.length_map, hl] at hr
  have hf : (fB (.slice (some ⟨ρ.b k, 0, none⟩) 64 64) zb).h [] w := ⟨hr, fun a n c e ha => by cases e; cases ha⟩
  have h := (QfB hb hl (a0 := some ⟨ρ.b k, 0, none⟩)).h w [] (LL.none w) (hG.app ⟨hf, trivial⟩)
  simp only [QI, SV.den] at h ⊢
  exact h
theorem QeF {za : List Int} (hb : Qe za) (hl : za.length = 64) : PV Tryz.prog gT 54 [.a .u8 za 64] (.a .u8 (Q2 (Qp za 64 % QH)) 32) := by
  have h1 := QfA hb hl 0
  have h2 := QcM (Qp za 64 % QH)
  have l1 := Qa 4 (Qp za 64 % QH); have l2 := QM (Qp za 64 % QH)
  generalize Qf 4 (Qp za 64 % QH) = x at *
  generalize Q2 (Qp za 64 % QH) = y at *
  refine PV.mk' Tryz.func54 rfl rfl rfl rfl fun w L hL hG => ?_
  refine S.enter Qm [.a .u8 za 64] gT Tryz.func54 rfl rfl rfl (fun _ => rfl) hL hG ?_
  refine S.go false rfl (by repeat' (first | exact True.intro | refine And.intro ?_ ?_ | assumption | omega | (dsimp only; omega) | (simp only [Nat.add_eq, Nat.mul_eq, Nat.sub_eq, SV.wd]; omega) | exact rfl)) ?_
  refine S.cr [0] rfl rfl rfl rfl rfl rfl rfl h1 ?_
  refine S.go false rfl (by repeat' (first | exact True.intro | refine And.intro ?_ ?_ | assumption | omega | (dsimp only; omega) | (simp only [Nat.add_eq, Nat.mul_eq, Nat.sub_eq, SV.wd]; omega) | exact rfl)) ?_
  refine S.cv rfl rfl rfl rfl rfl rfl h2 ?_
  refine S.go false rfl (by repeat' (first | exact True.intro | refine And.intro ?_ ?_ | assumption | omega | (dsimp only; omega) | (simp only [Nat.add_eq, Nat.mul_eq, Nat.sub_eq, SV.wd]; omega) | exact rfl)) ?_
  exact S.retv rfl rfl rfl rfl rfl
theorem QiB (K : IntKind) : ∀ zs : List Int, (zs.map fun z => [Value.int K z]).flatten = zs.map (Value.int K)
  | [] => rfl
  | a :: l => by simp only [List.map_cons, List.flatten_cons, QiB K l]; rfl
theorem Qj8 {z : Array Value} {v : Value} (h : z = #[v]) (n : Nat) : (Builtin.zeroCells z n).toList = List.replicate n v := by
  rw [h]
  unfold Builtin.zeroCells
  refine List.ext_getElem (by simp) fun j q1 q2 => ?_
  simp [Nat.mod_one]
theorem QgU {P : Program} {w : World} {t ty e : TypeId} (hu : P.underlying t = some (.slice e)) {i : TypeInfo} (hi : P.info? e = some i) {K : IntKind} {Z : Value} (hz : i.zero = some Z) (hzc : Z.cells = #[.int K 0]) (hs : i.size = 1) {B len cap : Nat} {zs news : List Int} {v2 : Value} {L : List Nat} (hl : zs.length = len) (hc1 : len <= cap) (hc2 : cap <= maxLen)
    (hb : Xl w B ((zs ++ List.replicate (cap - len) 0).map (Value.int K))) (h2 : Zi 1 L w v2 (news.map fun z => [Value.int K z])) (hm : len + news.length <= maxLen) (hby : (len + news.length) * i.bytes <= 140737488355328) :
    ∃ w' B' cap', (Builtin.append_ #[t, t] ty #[.slice (some ⟨B, 0, none⟩) len cap, v2]).run P w = .ok (.slice (some ⟨B', 0, none⟩) (len + news.length) cap') w' /\ len + news.length <= cap' /\ cap' <= maxLen /\ Xl w' B' (((zs ++ news) ++ List.replicate (cap' - (len + news.length)) 0).map (Value.int K)) /\ ZB B B' w w' := by
  obtain ⟨_, hl2, a2, cap2, rfl, hd1, hd2, hd3, hd4⟩ := h2
  rw [List.length_map] at hd1 ⊢
  by_cases hn : news = []
  . subst hn
    refine ⟨w, B, cap, ?_, by simpa using hc1, hc2, by simpa using hb, ⟨rfl, rfl, rfl, Nat.le_refl _, fun _ _ _ => rfl, .inl rfl⟩⟩
    obtain ⟨tt, hb'⟩ := hb
    cases a2 with
    | none =>
      obtain rfl := hd3 rfl
      simp [Builtin.append_, run_underlying hu, sizeOf, typeInfo, hi, Builtin.lenOf, hc1, Builtin.firstCells, storeCells]
    | some a2 =>
      simp [Builtin.append_, run_underlying hu, sizeOf, typeInfo, hi, Builtin.lenOf, hc1, Builtin.firstCells, loadCells, loadCellsFrom, storeCells]
  . obtain ⟨X, o0, rfl, hX, hc⟩ := hd4 (by simpa using hn)
    rw [QiB] at hc
    obtain ⟨tt, hb'⟩ := hb
    have hnews : ∀ j u, (news.map (Value.int K))[j]? = some u -> w.cell? ((⟨X, o0, none⟩ : Addr).add j) = some u := fun j u hj => by rw [X6]; exact hc j u hj
    have hflat : (news.map (Value.int K)).length = news.length * i.size := by rw [List.length_map, hs, Nat.mul_one]
    have h1' : ∀ u ∈ news.map (Value.int K), u.oneCell' = true := fun u hu => by
      obtain ⟨z, _, rfl⟩ := List.mem_map.1 hu
      rfl
    by_cases hroom : len + news.length <= cap
    . have hr := Kp (P := P) (w := w) (t := t) (ty := ty) hu hi B len cap _ hb' ⟨X, o0, none⟩ news.length cap2 (news.map (Value.int K)) hflat hnews h1' hroom (by simp [hs, hl]; omega)
      refine ⟨_, B, cap, hr, hroom, hc2, ⟨tt, ?_⟩, ZB.of_only (YU w B _)⟩
      rw [setRow_heap w B _ _ tt _ hb']
      congr 3
      simp only [hs, Nat.mul_one, List.map_append, List.length_map, List.append_assoc]
      have e1 : (zs.map (Value.int K) ++ (List.replicate (cap - len) 0).map (Value.int K)).take len = zs.map (Value.int K) := by rw [List.take_append_of_le_length (by simp [hl]), List.take_of_length_le (by simp [hl])]
      have e2 : (zs.map (Value.int K) ++ (List.replicate (cap - len) 0).map (Value.int K)).drop (len + news.length) = (List.replicate (cap - (len + news.length)) 0).map (Value.int K) := by
        rw [List.drop_append, List.drop_eq_nil_of_le (by simp [hl]), List.nil_append, List.map_replicate, List.map_replicate, List.drop_replicate]
        congr 1
        simp [hl]
        omega
      rw [e1, e2]
    . have holds : ∀ j u, (zs.map (Value.int K))[j]? = some u -> w.cell? ((⟨B, 0, none⟩ : Addr).add j) = some u := fun j u hj => by
        have := (Xl.range ⟨tt, hb'⟩) j u (by rw [List.map_append, List.getElem?_append_left (List.getElem?_eq_some_iff.1 hj).1]; exact hj)
        rw [X6]; exact this
      have hr := run_append_grow (P := P) w t ty e i Z hu hi hz ⟨B, 0, none⟩ len cap (zs.map (Value.int K)) (by simp [hs, hl]) holds ⟨X, o0, none⟩ news.length cap2 (news.map (Value.int K)) hflat hnews (by omega) (by unfold maxLen at hm; omega) (growslice_fits (by omega) hby)
      refine ⟨_, w.heap.size, grownCap w (len + news.length) cap e, hr, grownCap_ge _ _ _ _, grownCap_le_maxLen _ _ _ _ hm, ⟨e, ?_⟩, ZB.of_below (Ux (Z7 (Below.refl _ _) 1) _)⟩
      rw [show w.heap.size = w.drew.heap.size from (World.size_drew w).symm, heap_alloc_new]
      congr 2
      apply Array.ext'
      simp only [Array.toList_append, List.map_append, List.map_replicate, Qj8 hzc]
def Us (k : Nat) : SM -> SM
  | [] => []
  | x :: m => match Nat.beq x.1 k with
    | true => Us k m
    | false => x :: Us k m
theorem X1 {k : Nat} {x : Nat × Cl} : ∀ {m : SM}, x ∈ Us k m -> x ∈ m /\ x.1 ≠ k
  | [], h => by cases h
  | y :: m, h => by
    unfold Us at h
    cases hb : Nat.beq y.1 k with
    | true =>
      rw [hb] at h
      have := X1 (m := m) h
      exact ⟨List.mem_cons_of_mem _ this.1, this.2⟩
    | false =>
      rw [hb] at h
      cases h with
      | head => exact ⟨.head _, fun e => by rw [e, Nat.beq_refl] at hb; cases hb⟩
      | tail _ h => have := X1 (m := m) h; exact ⟨List.mem_cons_of_mem _ this.1, this.2⟩
theorem Kd (k : Nat) : ∀ m : SM, (Us k m).Sublist m
  | [] => .slnil
  | x :: m => by
    unfold Us
    split
    . exact .cons _ (Kd k m)
    . exact .cons_cons _ (Kd k m)
/-- A block that has grown, under a new name. -/
theorem WM.grow {ρ : QL} {L0 : List Nat} {w0 : World} {m : SM} {d : SD} {n : Nat} {Γ : List QJ} {w w' : World} (h : WM ρ L0 w0 m d n Γ w) (hm : Gh n m = true) (hd : KI n d = true) {k : Nat} {c0 c : Cl} (hk : X5 m k = some c0) (hc : ZJ c) (hcw : YQ n c = true) {B' : Nat} (hg : ZB (ρ.b k) B' w w') (hb : Xl w' B' (Qk ρ c)) :
    WM (ρ.setb n B') L0 w0 ((n, c) :: Us k m) d (n + 1) Γ w' := by
  have hkm := X4 hk
  have up := QL.setb_upto ρ n B'
  have hB : ρ.b k ∈ own ρ m L0 := List.mem_append_left _ (List.mem_map_of_mem (f := fun x : Nat × Cl => ρ.b x.1) hkm)
  have hbs := h.bel.size
  have hag : Uz [ρ.b k] w w' := ⟨hg.size, fun x hx hlt => hg.block x hlt (by simpa using hx)⟩
  have hst : Stp (own ρ m L0) w w' := ⟨hg.size, fun x hx hlt => hg.block x hlt (fun e => hx (e ▸ hB))⟩
  have hown : own (ρ.setb n B') ((n, c) :: Us k m) L0 = B' :: own ρ (Us k m) L0 := by
    unfold own
    rw [List.map_cons, QL.setb_at, Ju up (fun x hx => h.key x (X1 hx).1)]
    rfl
  have hsub : ∀ x ∈ own ρ (Us k m) L0, x ∈ own ρ m L0 := fun x hx => by
    rcases List.mem_append.1 hx with h1 | h1
    . obtain ⟨y, hy, rfl⟩ := List.mem_map.1 h1
      exact List.mem_append_left _ (List.mem_map_of_mem (f := fun x : Nat × Cl => ρ.b x.1) (X1 hy).1)
    . exact List.mem_append_right _ h1
  refine ⟨fun x hx => ?_, fun x hx => ?_, ?_, fun x hx => ?_, hg.below h.bel (h.low _ hkm) hbs, fun x hx => ?_, fun x hx => Nat.lt_succ_of_lt (h.dky x hx), fun x hx => Nat.lt_of_lt_of_le (h.ll x hx) hg.size, ?_⟩
  . cases hx with
    | head => rw [QL.setb_at, <- Q9 up c hcw]; exact ⟨hb, hc⟩
    | tail _ hx =>
      obtain ⟨h1, h2⟩ := X1 hx
      rw [<- (up x.1 (h.key x h1)).1, <- Q9 up x.2 (JT hm x h1).2]
      obtain ⟨⟨t, q1⟩, q2⟩ := h.mem x h1
      have hne : ρ.b x.1 ≠ ρ.b k := Vj h.nod h1 hkm h2
      exact ⟨⟨t, by rw [hg.block _ (Xl.lt ⟨t, q1⟩) hne]; exact q1⟩, q2⟩
  . cases hx with
    | head => exact Nat.lt_succ_self _
    | tail _ hx => exact Nat.lt_succ_of_lt (h.key x (X1 hx).1)
  . rw [List.map_cons, List.nodup_cons]
    refine ⟨fun hx => ?_, ?_⟩
    . rw [QL.setb_at] at hx
      obtain ⟨y, hy, he⟩ := List.mem_map.1 hx
      obtain ⟨h1, h2⟩ := X1 hy
      rw [<- (up y.1 (h.key y h1)).1] at he
      rcases hg.new with e | e
      . exact Vj h.nod h1 hkm h2 (by rw [he, e])
      . have := (h.mem y h1).1.lt
        omega
    . rw [Ju up (fun x hx => h.key x (X1 hx).1)]
      exact List.Nodup.sublist ((Kd k m).map _) h.nod
  . cases hx with
    | head =>
      rw [QL.setb_at]
      rcases hg.new with e | e
      . rw [e]; exact h.low _ hkm
      . omega
    | tail _ hx =>
      have h1 := (X1 hx).1
      rw [<- (up x.1 (h.key x h1)).1]
      exact h.low x h1
  . obtain ⟨h2, h3, h4, h4'⟩ := h.dat x hx
    rw [hown, <- (up x.1 (h.dky x hx)).2, <- Q9 up x.2 (Gj hd x hx).2]
    have hne : (ρ.d x.1).1 ≠ ρ.b k := fun e => h2 (e ▸ hB)
    refine ⟨?_, XR h3 hag (by simpa using hne), h4, h4'⟩
    simp only [List.mem_cons, not_or]
    refine ⟨fun e => ?_, fun e => h2 (hsub _ e)⟩
    rcases hg.new with e2 | e2
    . exact hne (e.trans e2)
    . have := Zf h3 (by rw [Q4 _ h4]; exact h4')
      omega
  . rw [hown]
    refine h.hs.stp hst fun x hx => ?_
    cases hx with
    | head =>
      rcases hg.new with e | e
      . exact .inl (e ▸ hB)
      . exact .inr e
    | tail _ hx => exact .inl (hsub x hx)
theorem Gw {s : Nat} {L L' : List Nat} {w : World} {v : Value} {rs : List (List Value)} (h : Zi s L w v rs) (hl : ∀ x ∈ L', x ∈ L) : Zi s L' w v rs := by
  obtain ⟨h0, h1, a, cap, h2, h3, h4, h5, h6⟩ := h
  refine ⟨h0, h1, a, cap, h2, h3, h4, h5, fun hn => ?_⟩
  obtain ⟨X, o, e, hX, hr⟩ := h6 hn
  exact ⟨X, o, e, fun hx => hX (hl _ hx), hr⟩
theorem QjR {P : Program} {ops : Array Oper} {o : Oper} {N : Nat} {f : Fl} {w : World} {t e : TypeId} {x y : Operand} {i : TypeInfo} {Z : Value} {K : IntKind} {B len cap : Nat} {zs news : List Int} {v2 : Value} {L : List Nat} (ho : o.op = .call { callee := .builtin .append, args := #[x, y], argTypes := #[t, t] }) (hu : P.underlying t = some (.slice e)) (hi : P.info? e = some i) (hz : i.zero = some Z) (hzc : Z.cells = #[.int K 0]) (hs : i.size = 1)
    (hx : ev f x = some (.slice (some ⟨B, 0, none⟩) len cap)) (hy : ev f y = some v2) (hl : zs.length = len) (hc1 : len <= cap) (hc2 : cap <= maxLen) (hb : Xl w B ((zs ++ List.replicate (cap - len) 0).map (Value.int K))) (h2 : Zi 1 L w v2 (news.map fun z => [Value.int K z])) (hm : len + news.length <= maxLen) (hby : (len + news.length) * i.bytes <= 140737488355328) (hw : Qo ops o f = some true) :
    DR P ops o N f w fun v' w' => ∃ B' cap', v' = .slice (some ⟨B', 0, none⟩) (len + news.length) cap' /\ len + news.length <= cap' /\ cap' <= maxLen /\ Xl w' B' (((zs ++ news) ++ List.replicate (cap' - (len + news.length)) 0).map (Value.int K)) /\ ZB B B' w w' := fun a ha => by
  have hx := ha.ev hx
  have hy := ha.ev hy
  obtain ⟨w', B', cap', hr, h3⟩ := QgU (w := w) (t := t) (ty := o.type) hu hi hz hzc hs hl hc1 hc2 hb h2 hm hby
  exact Qn.of_wp (Qg ha hw) fun K hK => by
    unfold Oper.wp execOp
    simp only [ho, resolve, invoke, builtin, Sem.run_bind, Sem.run_pure, Result.andThen_ok, List.map_toArray, List.map_cons, List.map_nil, hx, hy, hr]
    exact hK _ _ ⟨B', cap', rfl, h3⟩
/-- An append to a slice of one's own. -/
theorem S.app {c : Cx} {ks : List It} {f : SF} {m : SM} {d : SD} {n : Nat} {Γ : List QJ} {ops : Array Oper} {o : Oper} {r : List Oper} {t bytes ty : Nat} {K : IntKind} {x y : Operand} {k len cap : Nat} (zs news : List Int) {v2 : SV} {i j : TI} {cl : Cl}
    (ho : o.op = .call { callee := .builtin .append, args := #[x, y], argTypes := #[ty, ty] }) (hd : o.dst = some t) (hx : Y2 f x = some (.y k 0 len cap)) (hy : Y2 f y = some v2) (ht : apB c.P ty 1 bytes = true) (hi : c.T.get ty = some i) (hy2 : Nat.beq i.y 2 = true) (hj : c.T.get i.e = some j) (hz : j.z = some [.i K 0])
    (hk : X5 m k = some cl) (hcl : cl = [.a K (zs ++ List.replicate (cap - len) 0) cap]) (hl : zs.length = len) (hc1 : len <= cap) (hc2 : cap <= maxLen) (h2 : ∀ ρ w, WM ρ c.L0 c.w0 m d n Γ w -> Zi 1 [ρ.b k] w (v2.den ρ) (news.map fun z => [Value.int K z])) (hm : len + news.length <= maxLen) (hby : (len + news.length) * bytes <= 140737488355328)
    (kk : ∀ cap', len + news.length <= cap' -> cap' <= maxLen -> S c (.o ops r :: ks) ((t, .y n 0 (len + news.length) cap') :: f) ((n, [.a K ((zs ++ news) ++ List.replicate (cap' - (len + news.length)) 0) cap']) :: Us k m) d (n + 1) Γ)
    (hf : wfF n f = true := by rfl) (hmm : Gh n m = true := by rfl) (hdd : KI n d = true := by rfl) (hg : UN ops o f = some .on := by rfl) (hlt : Nat.blt t c.N = true := by rfl) : S c (.o ops (o :: r) :: ks) f m d n Γ := fun ρ a w ha hW => by
  subst hcl
  have hx' := Qw (ρ := ρ) hx
  have hy' := Qw (ρ := ρ) hy
  simp only [SV.den] at hx'
  have hwt := (Ya (ρ := ρ)).1 hg
  obtain ⟨z1, z2, Z, z3, z4⟩ := TT.zero c.ok hj hz
  have hu := TT.slc c.ok hi hy2
  obtain ⟨e', i', Z', u1, u2, u3, u4, u5, u6⟩ := VG ht
  rw [hu] at u1
  cases u1
  rw [u2] at z3
  simp only [Option.bind_some] at z3
  rw [u3] at z3
  cases z3
  have hzc : Z.cells = #[.int K 0] := by
    have := z4 ρ
    simp only [Qk, SV.cs, SV.den, List.append_nil] at this
    apply Array.ext'
    rw [this]
  obtain ⟨hb, hok⟩ := hW.cell hk
  simp only [Qk, SV.cs, List.append_nil] at hb
  subst u5
  refine (WL.get (QjR ho hu u2 u3 hzc u4 hx' hy' hl hc1 hc2 hb (h2 ρ w hW) hm hby hwt) hd (decide_eq_true (QR hlt)) (Q := Kn c ks) (rest := r) fun u W hu => ?_) a ha
  obtain ⟨B', cap', rfl, g1, g2, g3, g4⟩ := hu
  have hlen : ((zs ++ news) ++ List.replicate (cap' - (len + news.length)) (0 : Int)).length = cap' := by simp [hl]; omega
  have hW' := hW.grow hmm hdd hk (c := [.a K ((zs ++ news) ++ List.replicate (cap' - (len + news.length)) 0) cap']) ⟨hlen, trivial⟩ rfl g4 (by simp only [Qk, SV.cs, List.append_nil]; exact g3)
  intro a' ha'
  refine kk cap' g1 g2 _ a' W ?_ hW'
  have e : QB (ρ.setb n B') f = QB ρ f := (X2 (QL.setb_upto _ _ _) f hf).symm
  show Fr c.N a' ((t, (SV.y n 0 (len + news.length) cap').den (ρ.setb n B')) :: QB (ρ.setb n B') f)
  rw [e]
  simp only [SV.den, QL.setb_at]
  exact ha'
/-- A slice of nothing, of one's own. -/
theorem S.emp {c : Cx} {ks : List It} {f : SF} {m : SM} {d : SD} {n : Nat} {Γ : List QJ} {ops : Array Oper} {o : Oper} {r : List Oper} {t ty : Nat} (K : IntKind) {i j : TI} (ho : o.op = .buildSlice ty 0 ⟨[]⟩) (hd : o.dst = some t) (hi : c.T.get ty = some i) (hy2 : Nat.beq i.y 2 = true) (hj : c.T.get i.e = some j) (hz : j.z = some [.i K 0])
    (kk : S c (.o ops r :: ks) ((t, .y n 0 0 0) :: f) ((n, [.a K [] 0]) :: m) d (n + 1) Γ)
    (hf : wfF n f = true := by rfl) (hmm : Gh n m = true := by rfl) (hdd : KI n d = true := by rfl) (hg : UN ops o f = some .on := by rfl) (hlt : Nat.blt t c.N = true := by rfl) : S c (.o ops (o :: r) :: ks) f m d n Γ := fun ρ a w ha hW => by
  have hwt := (Ya (ρ := ρ)).1 hg
  obtain ⟨z1, z2, Z, z3, z4⟩ := TT.zero c.ok hj hz
  obtain ⟨ti, hti, hsz⟩ := Vi (TT.size c.ok hj)
  rw [hti] at z3
  simp only [Option.bind_some] at z3
  have hu := TT.slc c.ok hi hy2
  refine (WL.get (QfY (ps := []) (cs := []) ho hu hti z3 rfl (by omega) (by simp [Instr.fill]) hwt) hd (decide_eq_true (QR hlt)) (Q := Kn c ks) (rest := r) fun u W hu => ?_) a ha
  obtain ⟨rfl, hB, h2, h3⟩ := hu
  have hW' := hW.new hmm hdd (c := [.a K [] 0]) ⟨rfl, trivial⟩ rfl (B := w.heap.size) (Nat.le_refl _) h2 hB
  intro a' ha'
  refine kk _ a' W ?_ hW'
  have e : QB (ρ.setb n w.heap.size) f = QB ρ f := (X2 (QL.setb_upto _ _ _) f hf).symm
  show Fr c.N a' ((t, (SV.y n 0 0 0).den (ρ.setb n w.heap.size)) :: QB (ρ.setb n w.heap.size) f)
  rw [e]
  simp only [SV.den, QL.setb_at]
  exact ha'
theorem Qdq {a b : Int} (ha : Xa a) (hb : Xa b) : bits BinOp.or .u64 a b = bits BinOp.or .u64 b a := by
  obtain ⟨a, rfl⟩ := Int.eq_ofNat_of_zero_le ha.1
  obtain ⟨b, rfl⟩ := Int.eq_ofNat_of_zero_le hb.1
  have h1 := ha.2
  have h2 := hb.2
  rw [u64_or_nat a b (by omega) (by omega), u64_or_nat b a (by omega) (by omega), Nat.or_comm]
theorem DE (n : Nat) : (2 : Int) ^ n = ((2 ^ n : Nat) : Int) := by simp
theorem Qc5 (x n : Int) (hx : Xa x) (h0 : 0 < n) (h1 : n < 64) : bits BinOp.or .u64 (x / 2 ^ n.toNat) (x * 2 ^ (64 - n).toNat % 18446744073709551616) = Xw x (64 - n) := by
  unfold Xw
  rw [show (64 - (64 - n)).toNat = n.toNat by omega]
  refine Qdq ⟨?_, ?_⟩ ⟨?_, ?_⟩
  . exact Int.ediv_nonneg hx.1 (by rw [DE]; exact Int.natCast_nonneg _)
  . exact Int.lt_of_le_of_lt (Int.ediv_le_self _ hx.1) hx.2
  . omega
  . omega
/-- What is laid behind so many bytes: one bit, k bytes in all, the number of bits. -/
def Zy (n : Nat) : List Int := (List.range 8).map fun j => (n : Int) * 8 / 2 ^ (8 * (7 - j)) % 256
theorem Vm (n : Nat) : (Zy n).length = 8 := rfl
theorem D7 (n j : Nat) (h : j < 8) : Qb (Zy n) j = (n : Int) * 8 / 2 ^ (8 * (7 - j)) % 256 := by simp [Zy, Qb, h]
def Kl (k n : Nat) : List Int := 128 :: (List.replicate (k - 9) 0 ++ Zy n)
theorem HN (k n : Nat) (h : 9 <= k) : (Kl k n).length = k := by simp [Kl, Vm]; omega
theorem Di (k n : Nat) : Qe (Kl k n) := by
  intro x hx
  rcases List.mem_cons.1 hx with rfl | hx
  . decide
  . rcases List.mem_append.1 hx with hx | hx
    . obtain ⟨-, rfl⟩ := List.mem_replicate.1 hx; decide
    . obtain ⟨j, -, rfl⟩ := List.mem_map.1 hx; omega
theorem JP (a b : List Int) (j : Nat) : Qb (a ++ b) j = if j < a.length then Qb a j else Qb b (j - a.length) := by
  unfold Qb
  by_cases h : j < a.length
  . rw [if_pos h, List.getElem?_append_left h]
  . rw [if_neg h, List.getElem?_append_right (by omega)]
theorem Qay (n j : Nat) : Qb (List.replicate n 0) j = 0 := by
  unfold Qb
  rw [List.getElem?_replicate]
  split <;> rfl
theorem Qeh (k n j : Nat) (h : 9 <= k) : Qb (Kl k n) j = if j = 0 then 128 else if k <= j then 0 else if k <= j + 8 then (n : Int) * 8 / 2 ^ (8 * (k - 1 - j)) % 256 else 0 := by
  unfold Kl
  cases j with
  | zero => rfl
  | succ j =>
    rw [XB, JP, List.length_replicate, if_neg (by omega : ¬ j + 1 = 0)]
    by_cases h1 : j < k - 9
    . rw [if_pos h1, Qay, if_neg (by omega), if_neg (by omega)]
    . rw [if_neg h1]
      by_cases h2 : k <= j + 1
      . rw [if_pos h2]
        have : ¬ j - (k - 9) < (Zy n).length := by rw [Vm]; omega
        unfold Qb
        rw [List.getElem?_eq_none (by omega)]; rfl
      . rw [if_neg h2, if_pos (by omega), D7 n _ (by omega), show 7 - (j - (k - 9)) = k - 1 - (j + 1) by omega]
theorem Qcc (p : List Int) (tot : Int) (j : Nat) (hj : j < p.length) : ∀ k, k <= p.length -> Qb (U0 p tot k) j = if p.length <= j + k then tot * 8 / 2 ^ (8 * (p.length - 1 - j)) % 256 else Qb p j
  | 0, _ => by rw [if_neg (by omega)]; rfl
  | k + 1, h => by
    show Qb ((U0 p tot k).set (p.length - 1 - k) _) j = _
    rw [YX _ _ _ _ (by rw [Ui]; omega), Qcc p tot j hj k (by omega)]
    by_cases e : j = p.length - 1 - k
    . rw [if_pos e, if_pos (by omega), show p.length - 1 - j = k by omega]
    . rw [if_neg e]
      by_cases h2 : p.length <= j + k
      . rw [if_pos h2, if_pos (by omega)]
      . rw [if_neg h2, if_neg (by omega)]
theorem Qdo (hl : List Int) (n : Nat) (hn : n < 128) (hh : hl.length = n) (j : Nat) : Qb (Yy hl n) j = if j = n then 128 else if j < n then Qb hl j else 0 := by
  have hp := Ve n hn
  unfold Yy
  rw [YX _ _ _ _ (by simp [hh]; omega)]
  by_cases e : j = n
  . rw [if_pos e, if_pos e]
  . rw [if_neg e, if_neg e, JP, List.take_of_length_le (by omega), hh]
    by_cases h : j < n
    . rw [if_pos h, if_pos h]
    . rw [if_neg h, if_neg h, Qay]
theorem Jn (n : Nat) : QD n = n / 128 * 128 + QD (n % 128) := by unfold QD; omega
theorem Qbf (D : List Int) : U0 (Yy (Xq D) (D.length % 128)) (D.length : Int) 8 = Xq D ++ Kl (QD D.length - D.length) D.length := by
  have hm : D.length % 128 < 128 := Nat.mod_lt _ (by decide)
  have hh := U4 D
  have hp := Ve (D.length % 128) hm
  have hs := Jn D.length
  have hl := GE (Xq D) (D.length % 128) hm hh
  have hk : QD D.length - D.length = QD (D.length % 128) - D.length % 128 := by omega
  have hb := Qdo (Xq D) (D.length % 128) hm hh
  rw [hk]
  clear hs hk
  generalize QD (D.length % 128) = N at *
  generalize D.length % 128 = n at *
  refine Xv ?_ fun j hj => ?_
  . rw [Ui, List.length_append, HN _ _ (by omega), hh, hl]; omega
  . rw [Ui, hl] at hj
    rw [Qcc _ _ _ (by rw [hl]; exact hj) 8 (by rw [hl]; omega), hl, hb j, JP, hh, Qeh _ _ _ (by omega)]
    by_cases h1 : j < n
    . rw [if_neg (by omega : ¬ N <= j + 8), if_neg (by omega : ¬ j = n), if_pos h1, if_pos h1]
    . rw [if_neg h1, if_neg h1]
      by_cases h2 : j = n
      . rw [if_neg (by omega : ¬ N <= j + 8), if_pos h2, if_pos (by omega : j - n = 0)]
      . rw [if_neg h2, if_neg (by omega : ¬ j - n = 0), if_neg (by omega : ¬ N - n <= j - n)]
        by_cases h3 : N <= j + 8
        . rw [if_pos h3, if_pos (by omega), show N - n - 1 - (j - n) = N - 1 - j by omega]
        . rw [if_neg h3, if_neg (by omega)]
theorem Uy (st Z : List Int) (q : Nat) : ∀ j, QO st Z (q + j) = QO (QO st Z q) (Z.drop (q * 128)) j
  | 0 => rfl
  | j + 1 => by
    show QY (QO st Z (q + j)) ((Z.drop ((q + j) * 128)).take 128) = QY (QO (QO st Z q) (Z.drop (q * 128)) j) (((Z.drop (q * 128)).drop (j * 128)).take 128)
    rw [Uy st Z q j, List.drop_drop, show (q + j) * 128 = q * 128 + j * 128 by omega]
/-- The bytes with what is Zw. -/
def Q8 (D : List Int) : List Int := D ++ Kl (QD D.length - D.length) D.length
theorem Qbs (D : List Int) : (Q8 D).length = QD D.length := by
  have : D.length + 16 < QD D.length := by unfold QD; omega
  rw [Q8, List.length_append, HN _ _ (by omega)]
  omega
theorem QaP (D : List Int) : Xf D = Q3 (QO QU (Q8 D) (QD D.length / 128)) := by
  have hs := Jn D.length
  have hp := Ve (D.length % 128) (Nat.mod_lt _ (by decide))
  have e : QD D.length / 128 = D.length / 128 + QD (D.length % 128) / 128 := by omega
  unfold Xf
  rw [Qbf, e, Uy]
  unfold Q8
  rw [Yh _ _ _ _ (Nat.div_mul_le_self _ _), List.drop_append_of_le_length (Nat.div_mul_le_self _ _)]
  rfl
theorem XQ (x : Int) (w : World) (hx : Xa x) : Calls Tryz.prog 105 #[.int .u64 x, .int .i64 64] w fun e w' => e = .returned (.int .u64 x) /\ w' = w := by
  obtain ⟨h0, h1⟩ := hx
  go_enter Tryz.func105, Tryz.ntmps105
  go_wp2
  go_ret
  exact ⟨rfl, rfl⟩
def J8 (x a b c : Int) (sh : Bool) : Int := bits BinOp.xor .u64 (bits BinOp.xor .u64 (Xw x (64 - a)) (Xw x (64 - b))) (if sh then x / 2 ^ c.toNat else Xw x (64 - c))
theorem Va (x s : Int) : Xa (Xw x s) := Fz _ _ _
theorem Qer {x : Int} (n : Nat) (h : Xa x) : Xa (x / 2 ^ n) := ⟨Int.ediv_nonneg h.1 (by rw [DE]; exact Int.natCast_nonneg _), Int.lt_of_le_of_lt (Int.ediv_le_self _ h.1) h.2⟩
theorem XY (x n : Int) (w : World) (hx : Xa x) (h0 : 0 < n) (h1 : n < 64) : Calls Tryz.prog 129 #[.int .u64 x, .int .i64 n, .int .i64 64] w fun e w' => e = .returned (.int .u64 (Xw x (64 - n))) /\ w' = w := by
  have hq := Qc5 x n hx h0 h1
  rw [<- ZY] at hq
  have hc := fun W => XQ (bits BinOp.or .u64 (x / 2 ^ n.toNat) (IntKind.u64.wrap (x * 2 ^ (64 - n).toNat))) W (Fz _ _ _)
  have hq2 := Lib.hid hq
  replace hc := Lib.hid hc
  clear hq
  obtain ⟨x0, x1⟩ := hx
  go_enter Tryz.func129, Tryz.ntmps129
  go_wp2_with (first
    | (go_at_call 105; (with_reducible refine (hc.out _).mono ?_); rintro e w1 ⟨rfl, rfl⟩))
  go_ret
  exact ⟨congrArg (fun t => Ending.returned (.int .u64 t)) hq2.out, rfl⟩
set_option maxHeartbeats 1000000 in
theorem Vb (x a b c : Int) (w : World) (hx : Xa x) (ha : 0 < a /\ a < 64) (hb : 0 < b /\ b < 64) (hc : 0 < c /\ c < 64) : Calls Tryz.prog 106 #[.int .u64 x, Xz .i64 [a, b, c], .bool false, .int .i64 64] w fun e w' => e = .returned (.int .u64 (J8 x a b c false)) /\ Below w.heap.size w w' := by
  have hA := fun W => XY x a W hx ha.1 ha.2
  have hB := fun W => XY x b W hx hb.1 hb.2
  have hC := fun W => XY x c W hx hc.1 hc.2
  have mx : J8 x a b c false = bits BinOp.xor .u64 (bits BinOp.xor .u64 (Xw x (64 - a)) (Xw x (64 - b))) (Xw x (64 - c)) := rfl
  have i1 := Va x (64 - a)
  have i2 := Va x (64 - b)
  have i3 := Va x (64 - c)
  have i4 := Qer c.toNat hx
  generalize J8 x a b c false = m at *
  generalize Xw x (64 - a) = ra at *
  generalize Xw x (64 - b) = rb at *
  generalize Xw x (64 - c) = rc at *
  replace hA := Lib.hid hA
  replace hB := Lib.hid hB
  replace hC := Lib.hid hC
  obtain ⟨x0, x1⟩ := hx
  obtain ⟨a0, a1⟩ := ha
  obtain ⟨b0, b1⟩ := hb
  obtain ⟨c0, c1⟩ := hc
  have mx' := Lib.hid mx
  clear mx
  have mx2 : RowKit.Hid (bits BinOp.xor .u64 (bits BinOp.xor .u64 ra rb) (rc) = m) := Lib.hid (by rw [mx'.out])
  clear i1 i2 i3 i4
  go_enter Tryz.func106, Tryz.ntmps106
  go_wp2_with (first
    | ((with_reducible (refine JM 5 ?_; refine Kk rfl 122 _ rfl .i64 [a, b, c] rfl ?_)); (intro w1 A1 s1 b1; have ka : w1.cell? ⟨w.heap.size, 0, none⟩ = some (.int .i64 a) := A1.cell (k := 0) (by simp); have kb : w1.cell? ⟨w.heap.size, 1, none⟩ = some (.int .i64 b) := A1.cell (k := 1) (by simp); have kc : w1.cell? ⟨w.heap.size, 2, none⟩ = some (.int .i64 c) := A1.cell (k := 2) (by simp)))
    | (go_at_call 129; (with_reducible refine (hC.out _).mono ?_); rintro e w2 ⟨rfl, rfl⟩))
  go_quiet ((go_at_call 129; first | (with_reducible exact Calls.quiet_of_same (hA.out _)) | (with_reducible exact Calls.quiet_of_same (hB.out _))))
  go_wp2
  go_ret
  exact ⟨congrArg (fun t => Ending.returned (.int .u64 t)) mx2.out, Zq b1 _⟩
set_option maxHeartbeats 1000000 in
theorem V2 (x a b c : Int) (w : World) (hx : Xa x) (ha : 0 < a /\ a < 64) (hb : 0 < b /\ b < 64) (hc : 0 < c /\ c < 64) : Calls Tryz.prog 106 #[.int .u64 x, Xz .i64 [a, b, c], .bool true, .int .i64 64] w fun e w' => e = .returned (.int .u64 (J8 x a b c true)) /\ Below w.heap.size w w' := by
  have hA := fun W => XY x a W hx ha.1 ha.2
  have hB := fun W => XY x b W hx hb.1 hb.2
  have hC := fun W => XY x c W hx hc.1 hc.2
  have mx : J8 x a b c true = bits BinOp.xor .u64 (bits BinOp.xor .u64 (Xw x (64 - a)) (Xw x (64 - b))) (x / 2 ^ c.toNat) := rfl
  have i1 := Va x (64 - a)
  have i2 := Va x (64 - b)
  have i3 := Va x (64 - c)
  have i4 := Qer c.toNat hx
  generalize J8 x a b c true = m at *
  generalize Xw x (64 - a) = ra at *
  generalize Xw x (64 - b) = rb at *
  generalize Xw x (64 - c) = rc at *
  replace hA := Lib.hid hA
  replace hB := Lib.hid hB
  replace hC := Lib.hid hC
  obtain ⟨x0, x1⟩ := hx
  obtain ⟨a0, a1⟩ := ha
  obtain ⟨b0, b1⟩ := hb
  obtain ⟨c0, c1⟩ := hc
  have mx' := Lib.hid mx
  clear mx
  have mx2 : RowKit.Hid (bits BinOp.xor .u64 (bits BinOp.xor .u64 ra rb) (x / 2 ^ c.toNat) = m) := Lib.hid (by rw [mx'.out])
  clear i1 i2 i3 i4
  go_enter Tryz.func106, Tryz.ntmps106
  go_wp2_with (first
    | ((with_reducible (refine JM 5 ?_; refine Kk rfl 122 _ rfl .i64 [a, b, c] rfl ?_)); (intro w1 A1 s1 b1; have ka : w1.cell? ⟨w.heap.size, 0, none⟩ = some (.int .i64 a) := A1.cell (k := 0) (by simp); have kb : w1.cell? ⟨w.heap.size, 1, none⟩ = some (.int .i64 b) := A1.cell (k := 1) (by simp); have kc : w1.cell? ⟨w.heap.size, 2, none⟩ = some (.int .i64 c) := A1.cell (k := 2) (by simp)))
    | (go_at_call 129; (with_reducible refine (hC.out _).mono ?_); rintro e w2 ⟨rfl, rfl⟩))
  go_quiet ((go_at_call 129; first | (with_reducible exact Calls.quiet_of_same (hA.out _)) | (with_reducible exact Calls.quiet_of_same (hB.out _))))
  go_wp2
  go_ret
  exact ⟨congrArg (fun t => Ending.returned (.int .u64 t)) mx2.out, Zq b1 _⟩
section
variable {P : Program} {ops : Array Oper} {o : Oper} {a : Act} {w : World} {R : Value -> World -> Prop} {rest : List Oper} {Q : Exit -> Act -> World -> Prop} {n : Nat}
end
/-- What the tables of the reference hold. -/
structure EQ (w : World) : Prop where
  be : ∀ k, k < 8 -> w.cell? ⟨2, k, none⟩ = some (.int .u64 (Qb Xd k))
  ro : ∀ k, k < 80 -> w.cell? ⟨3, k, none⟩ = some (.int .u64 (Qb Xr k))
theorem EQ.lt {w : World} (h : EQ w) : 2 < w.heap.size /\ 3 < w.heap.size := ⟨World.block_lt_of_cell? w _ (h.be 0 (by decide)), World.block_lt_of_cell? w _ (h.ro 0 (by decide))⟩
theorem EQ.below {w w' : World} (h : EQ w) (hb : Below w.heap.size w w') : EQ w' :=
  ⟨fun k hk => by rw [hb.cell h.lt.1]; exact h.be k hk, fun k hk => by rw [hb.cell h.lt.2]; exact h.ro k hk⟩
theorem Qn.unXor {P : Program} {ops : Array Oper} {o : Oper} {a : Act} {w : World} {R : Value -> World -> Prop} (hw : Region.wanted o (yielded ops a.tmps) = true) {t : TypeId} {x : Operand} (ho : o.op = .unOp .xor t x) {m : Int} (hx : a.eval x = .int .u64 m) (hR : R (.int .u64 (Z5 m)) w) : Qn P ops o a w R :=
  Qn.pure hw _ (by unfold execOp; simp only [ho, hx]; simp [Op.unary, Op.intBits, Z5, bits, IntKind.signed]) hR
/-- The words of a block behind so many bytes. -/
def Xh (zs : List Int) (i : Nat) : List Int := (List.range 80).map fun j => beF (((zs.drop (j * 8)).take 8).take (i - j * 8))
theorem XS (zs : List Int) (i : Nat) : (Xh zs i).length = 80 := by simp [Xh]
theorem Yn (zs : List Int) (i j : Nat) (hj : j < 80) : Qb (Xh zs i) j = beF (((zs.drop (j * 8)).take 8).take (i - j * 8)) := by simp [Xh, Qb, hj]
theorem DI (zs : List Int) : Xh zs 0 = List.replicate 80 0 := by
  refine Xv (by simp [Xh]) fun j hj => ?_
  rw [XS] at hj
  rw [Yn _ _ _ hj, Nat.zero_sub, List.take_zero, K9]
  rfl
theorem DJ (zs : List Int) (hl : zs.length = 128) (i : Nat) (hi : i < 128) : (Xh zs i).set (i / 8) (Qb (Xh zs i) (i / 8) * 256 + Qb zs i) = Xh zs (i + 1) := by
  have hq : i / 8 < 80 := by omega
  refine Xv (by simp [Xh]) fun j hj => ?_
  rw [List.length_set, XS] at hj
  rw [YX _ _ _ _ (by rw [XS]; exact hq), Yn _ (i + 1) j hj]
  by_cases e : j = i / 8
  . subst e
    rw [if_pos rfl, Yn _ _ _ hq, show i + 1 - i / 8 * 8 = (i - i / 8 * 8) + 1 by omega, Y7 _ (i - i / 8 * 8) (by simp; omega), Hk]
    congr 1
    unfold Qb
    rw [List.getElem?_take, if_pos (by omega), List.getElem?_drop, show i / 8 * 8 + (i - i / 8 * 8) = i by omega]
  . rw [if_neg e, Yn _ _ _ hj]
    by_cases h : j < i / 8
    . rw [List.take_of_length_le (l := (zs.drop (j * 8)).take 8) (i := i - j * 8) (by simp; omega), List.take_of_length_le (l := (zs.drop (j * 8)).take 8) (i := i + 1 - j * 8) (by simp; omega)]
    . rw [show i - j * 8 = 0 by omega, show i + 1 - j * 8 = 0 by omega]
theorem Qbe (zs : List Int) (hl : zs.length = 128) : Xh zs 128 = Qc zs 0 := by
  refine Xv (by rw [XS, Xe]) fun j hj => ?_
  rw [XS] at hj
  rw [Yn _ _ _ hj]
  unfold Qc
  rw [JP]
  by_cases h : j < 16
  . rw [if_pos (by simpa using h), List.take_of_length_le (by simp; omega)]
    simp [Qb, h, UR]
  . rw [if_neg (by simpa using h), K9, List.drop_eq_nil_of_le (by omega)]
    simp [beF]
theorem Qdl {zs : List Int} (hb : Qe zs) (hl : zs.length = 128) (i : Nat) (hi : i < 128) : 0 <= Qb (Xh zs i) (i / 8) /\ Qb (Xh zs i) (i / 8) < 72057594037927936 := by
  have hq : i / 8 < 80 := by omega
  rw [Yn _ _ _ hq]
  have h := EK (i - i / 8 * 8) (((zs.drop (i / 8 * 8)).take 8).take (i - i / 8 * 8)) (by simp; omega) (fun x hx => hb x (List.mem_of_mem_drop (List.mem_of_mem_take (List.mem_of_mem_take hx))))
  have h2 : (256 : Int) ^ (i - i / 8 * 8) <= 72057594037927936 := by
    have h3 : i - i / 8 * 8 <= 7 := by omega
    have h4 : (256 : Nat) ^ (i - i / 8 * 8) <= 256 ^ 7 := Nat.pow_le_pow_right (by decide) h3
    have h5 : ((256 ^ (i - i / 8 * 8) : Nat) : Int) <= ((256 ^ 7 : Nat) : Int) := by exact_mod_cast h4
    rw [Int.natCast_pow, Int.natCast_pow] at h5
    simpa using h5
  omega

theorem FT (n wd : Int) (w : World) (hn : -9223372036854775808 <= n /\ n <= 9223372036854775807) (hw : -9223372036854775808 <= wd /\ wd <= 9223372036854775807) :
    Calls Tryz.prog 104 #[.int .i64 n, .int .i64 wd] w fun e w' => e = .returned (.int .i64 (Zw n wd)) /\ w' = w := by
  by_cases h : n < 0 \/ 1099511627776 < n \/ (wd ≠ 32 /\ wd ≠ 64)
  . rw [show Zw n wd = 0 from if_pos h]
    by_cases h1 : n < 0
    . have d1 : decide (n < 0) = true := decide_eq_true h1
      go_enter Tryz.func104, Tryz.ntmps104
      go_wp2
      go_ret
      exact ⟨rfl, rfl⟩
    . by_cases h2 : 1099511627776 < n
      . go_enter Tryz.func104, Tryz.ntmps104
        go_wp2
        go_ret
        exact ⟨rfl, rfl⟩
      . have h3 : wd ≠ 32 /\ wd ≠ 64 := by omega
        obtain ⟨h4, h5⟩ := h3
        have b4 : (wd != 32) = true := by simpa using h4
        have b5 : (wd != 64) = true := by simpa using h5
        clear h h4 h5
        go_enter Tryz.func104, Tryz.ntmps104
        go_wp2
        go_ret
        exact ⟨rfl, rfl⟩
  . have h6 : wd = 32 \/ wd = 64 := by omega
    have h7 : ¬ n < 0 := by omega
    have h8 : ¬ 1099511627776 < n := by omega
    rw [show Zw n wd = (n + 1 + wd / 4 + 2 * wd - 1) / (2 * wd) * (2 * wd) from if_neg h]
    clear h
    rcases h6 with rfl | rfl
    all_goals
      go_enter Tryz.func104, Tryz.ntmps104
      go_wp2
      go_ret
      exact ⟨rfl, rfl⟩
end Go.Proofs.YtbiboamaigedjaaGreatDoor
namespace Go.Proofs.YtbiboamaigedjaaGreatDoor
set_option linter.unusedVariables false
set_option maxRecDepth 8000
theorem Qec : Hx Tryz.prog 5 = true := by kernel_rfl
theorem Z3 : Vy Tryz.prog 23 1 = true := by kernel_rfl
theorem Zb : apB Tryz.prog 23 1 1 = true := by kernel_rfl
theorem Qz : Hx Tryz.prog 47 = true := by kernel_rfl
theorem Qh : Zd Tryz.prog 47 1 = true := by kernel_rfl
theorem De : QaB Tryz.prog 68 8 = true := by kernel_rfl
theorem Jc : Zd Tryz.prog 68 8 = true := by kernel_rfl
theorem Gp : (Tryz.prog.info? 68).bind (·.zero) = some (.agg #[.int .u64 0, .int .u64 0, .int .u64 0, .int .u64 0, .int .u64 0, .int .u64 0, .int .u64 0, .int .u64 0]) := by kernel_rfl
theorem Ye : QaB Tryz.prog 122 3 = true := by kernel_rfl
theorem ZU : Zd Tryz.prog 122 3 = true := by kernel_rfl
theorem Ua : Zd Tryz.prog 123 12 = true := by kernel_rfl
theorem Dd : (Tryz.prog.info? 123).bind (·.zero) = some (.agg #[.int .i64 0, .int .i64 0, .int .i64 0, .int .i64 0, .int .i64 0, .int .i64 0, .int .i64 0, .int .i64 0, .int .i64 0, .int .i64 0, .int .i64 0, .int .i64 0]) := by kernel_rfl
theorem Dc : (Tryz.prog.info? 125).bind (·.zero) = some (.agg (Array.replicate 80 (.int .u64 0))) := by kernel_rfl
end Go.Proofs.YtbiboamaigedjaaGreatDoor
namespace Go.Proofs.YtbiboamaigedjaaGreatDoor
open Go.RowKit
set_option linter.unusedVariables false
set_option linter.unusedSimpArgs false
set_option maxRecDepth 8000
set_option maxHeartbeats 2000000

theorem U8 {P : Program} {F : FuncId} {args : List Value} {u : Value} {w : World} (h : Calls P F args.toArray w fun e w' => e = .returned u /\ w' = w) : CV P F args w fun v _ => v = u :=
  Calls.mono h fun e w' ⟨h1, h2⟩ => ⟨u, h1, rfl, by rw [h2]; exact Below.refl _ _⟩
def XD (z : List Int) : List Value := z.map (Value.int .u64)
theorem YH (z : List Int) : (XD z).length = z.length := by simp [XD]
theorem Qlt (z : List Int) : ∀ u ∈ XD z, u.oneCell' = true := fun u hu => by
  obtain ⟨n, _, rfl⟩ := List.mem_map.1 hu
  rfl
theorem JH {z : List Int} {i : Nat} (h : i < z.length) : (XD z)[i]? = some (.int .u64 (Qb z i)) := by simp [XD, Qb, h]
theorem QgR {z : List Int} {k : Nat} {y : Int} (h : k < z.length) : (XD z).take k ++ ([.int .u64 y] ++ (XD z).drop (k + 1)) = XD (z.set k y) := by
  unfold XD
  rw [<- List.map_take, <- List.map_drop, List.set_eq_take_append_cons_drop, if_pos h]
  simp
theorem QkO {z : List Int} (h : z.length = 8) : XD z = [.int .u64 (Qb z 0), .int .u64 (Qb z 1), .int .u64 (Qb z 2), .int .u64 (Qb z 3), .int .u64 (Qb z 4), .int .u64 (Qb z 5), .int .u64 (Qb z 6), .int .u64 (Qb z 7)] := by
  match z, h with
  | [a, b, c, d, e, f, g, i], _ => rfl
abbrev e8 (x : Int) : List Value := [.int .u8 x]
theorem DT (xs : List Int) : ∀ r ∈ xs.map e8, ∀ u ∈ r, u.oneCell' = true := fun r hr u hu => by
  obtain ⟨x, _, rfl⟩ := List.mem_map.1 hr
  rw [List.mem_singleton.1 hu]
  rfl
/-- The reference's tables, off these blocks. -/
def Yi (L : List Nat) (w : World) : Prop := EQ w /\ 2 ∉ L /\ 3 ∉ L
theorem EQ.at {w w' : World} (h : EQ w) (h1 : w'.heap[2]? = w.heap[2]?) (h2 : w'.heap[3]? = w.heap[3]?) : EQ w' := by
  refine ⟨fun k hk => ?_, fun k hk => ?_⟩
  . have := h.be k hk
    unfold World.cell? at this ⊢
    rw [h1]
    exact this
  . have := h.ro k hk
    unfold World.cell? at this ⊢
    rw [h2]
    exact this
theorem Yi.below {L : List Nat} {w w' : World} (h : Yi L w) (hb : Below w.heap.size w w') : Yi L w' := ⟨h.1.below hb, h.2⟩
theorem Yi.more {L : List Nat} {w w' : World} (h : Yi L w) (hb : Below w.heap.size w w') {B : Nat} (hB : w.heap.size <= B) : Yi (B :: L) w' := by
  have := h.1.lt
  refine ⟨h.1.below hb, fun hx => ?_, fun hx => ?_⟩
  . rcases List.mem_cons.1 hx with e | e
    . omega
    . exact h.2.1 e
  . rcases List.mem_cons.1 hx with e | e
    . omega
    . exact h.2.2 e
theorem Yi.only {L : List Nat} {w w' : World} (h : Yi L w) {B : Nat} (ho : V0 B w w') (hB : B ∈ L) : Yi L w' := ⟨h.1.at (ho.block _ (fun e => h.2.1 (e ▸ hB))) (ho.block _ (fun e => h.2.2 (e ▸ hB))), h.2⟩
theorem Yi.less {L L' : List Nat} {w : World} (h : Yi L w) (hl : ∀ x, x ∈ L' -> x ∈ L) : Yi L' w := ⟨h.1, fun hx => h.2.1 (hl _ hx), fun hx => h.2.2 (hl _ hx)⟩
theorem ES.toV {s base : Nat} {rs : List (List Value)} {u : Value} {w : World} (h : ES s base rs u w) : V1 s base rs u w := by
  rcases h with h | ⟨B, sp, h1, rfl, h3, h4⟩
  . exact .inl h
  . exact .inr ⟨B, h1, h3.own⟩
section
variable {P : Program} {ops : Array Oper} {o : Oper} {N : Nat} {f : Fl} {w : World}
theorem Et {t t' : TypeId} {x y : Operand} {K K2 : IntKind} {m n r : Int} (ho : o.op = .binOp .shr t x y t') (hx : ev f x = some (.int K m)) (hy : ev f y = some (.int K2 n)) (hn : 0 <= n) (hn2 : n <= K.bits) (hr : m / 2 ^ n.toNat = r) (hw : Qo ops o f = some true := by rfl) : DV P ops o N f w (.int K r) := fun a ha =>
  Qn.shr (Qg ha hw) ho (ha.ev hx) (ha.ev hy) hn hn2 hr ⟨rfl, rfl⟩
theorem QjG {t t' : TypeId} {x y : Operand} {K K2 : IntKind} {m n r : Int} (ho : o.op = .binOp .shl t x y t') (hx : ev f x = some (.int K m)) (hy : ev f y = some (.int K2 n)) (hn : 0 <= n) (hn2 : n <= K.bits) (hr : K.wrap (m * 2 ^ n.toNat) = r) (hw : Qo ops o f = some true := by rfl) : DV P ops o N f w (.int K r) := fun a ha =>
  Qn.shl (Qg ha hw) ho (ha.ev hx) (ha.ev hy) hn hn2 hr ⟨rfl, rfl⟩
theorem QjE {t : TypeId} {x : Operand} {m : Int} (ho : o.op = .unOp .xor t x) (hx : ev f x = some (.int .u64 m)) (hw : Qo ops o f = some true := by rfl) : DV P ops o N f w (.int .u64 (Z5 m)) := fun a ha =>
  Qn.unXor (Qg ha hw) ho (ha.ev hx) ⟨rfl, rfl⟩
end
theorem KA (a b c : Int) : Tryz.prog.built 122 [(0, .int .i64 a), (1, .int .i64 b), (2, .int .i64 c)] = some [.int .i64 a, .int .i64 b, .int .i64 c].toArray := by kernel_rfl
theorem Qgd (a b c d e f g h i j k l : Value) : Tryz.prog.built 123 [(0, .agg #[a, b, c]), (1, .agg #[d, e, f]), (2, .agg #[g, h, i]), (3, .agg #[j, k, l])] = some [a, b, c, d, e, f, g, h, i, j, k, l].toArray := by kernel_rfl
theorem QkW (a b c d e f g h : Int) : Tryz.prog.built 68 [(0, .int .u64 a), (1, .int .u64 b), (2, .int .u64 c), (3, .int .u64 d), (4, .int .u64 e), (5, .int .u64 f), (6, .int .u64 g), (7, .int .u64 h)] = some [.int .u64 a, .int .u64 b, .int .u64 c, .int .u64 d, .int .u64 e, .int .u64 f, .int .u64 g, .int .u64 h].toArray := by kernel_rfl
theorem QdN : (Value.agg (Array.replicate 80 (Value.int .u64 0))).cells.toList = XD (List.replicate 80 0) := by simp [Value.cells, XD]
theorem Qar : (Value.agg #[.int .u64 0, .int .u64 0, .int .u64 0, .int .u64 0, .int .u64 0, .int .u64 0, .int .u64 0, .int .u64 0]).cells.toList = XD (List.replicate 8 0) := rfl
theorem X7 (x : Int) : IntKind.u64.wrap x = x % 18446744073709551616 := ZY x
theorem Qd0 (x : Int) : IntKind.u8.wrap x = x % 256 := IntKind.wrap_u8' x
theorem J7 (x : Int) : Xa (x % 18446744073709551616) := Ul x
theorem Qcm {T st : List Int} {i : Nat} (hT : T.length = 8) (hs : st.length = 8) (hi : i < 8) : (T.take i ++ st.drop i).set i (Qb T i) = T.take (i + 1) ++ st.drop (i + 1) := by
  have h1 : (T.take i).length = i := by rw [List.length_take]; omega
  rw [List.set_append, if_neg (by omega), h1, Nat.sub_self]
  rw [show st.drop i = st[i] :: st.drop (i + 1) from List.drop_eq_getElem_cons (by omega)]
  rw [List.set_cons_zero, Y7 T i (by omega), List.append_assoc]
  rfl
theorem Um {T st : List Int} {i : Nat} (hT : T.length = 8) (hs : st.length = 8) (hi : i <= 8) : (T.take i ++ st.drop i).length = 8 := by
  rw [List.length_append, List.length_take, List.length_drop, hT, hs]
  omega
theorem FS : (List.replicate 8 (0 : Int)).length = 8 := List.length_replicate ..
theorem K0 {P : Program} {F : FuncId} {args : List Value} {u : Value} {w : World} (h : Calls P F args.toArray w fun e w' => e = .returned u /\ Below w.heap.size w w') : CV P F args w fun v _ => v = u :=
  Calls.mono h fun e w' ⟨h1, h2⟩ => ⟨u, h1, rfl, h2⟩
theorem Qjl {T st : List Int} {i : Nat} (hT : T.length = 8) (hs : st.length = 8) (hi : i < 8) : Qb (T.take i ++ st.drop i) i = Qb st i := by
  have h1 : (T.take i).length = i := by rw [List.length_take]; omega
  rw [JP, if_neg (by omega), h1, Nat.sub_self]
  unfold Qb
  rw [List.getElem?_drop, Nat.add_zero]
theorem ZX {p : Int -> Prop} {l : List Int} (h0 : p 0) (h : ∀ x ∈ l, p x) (j : Nat) : p (Qb l j) := by
  unfold Qb
  cases e : l[j]? with
  | none => exact h0
  | some x => exact h x (List.mem_of_getElem? e)
theorem Qgk {l : List Int} {i : Nat} (h : i < l.length) : l[i]? = some (Qb l i) := by unfold Qb; rw [List.getElem?_eq_getElem h]; rfl
theorem DK (n : Nat) (h : n <= 1099511627776) : Zw (n : Int) 64 = (QD n : Nat) := by
  unfold Zw QD
  rw [if_neg (by omega)]
  omega
theorem J5 (n : Nat) : n + 9 <= QD n /\ QD n <= n + 144 /\ QD n % 128 = 0 := by unfold QD; omega
theorem Zm (st zs : List Int) : (QY st zs).length = 8 := by simp [QY]
theorem Qc7 (st zs : List Int) (j : Nat) (h : j < 8) : Qb (QY st zs) j = (Qb st j + Qb (Ql (Qc zs 64) (Qu st) 80).list j) % 18446744073709551616 := by simp [QY, Qb, h]
theorem Z8 : QU.length = 8 := by simp [QU]
theorem JR (zs : List Int) : ∀ k, (QO QU zs k).length = 8
  | 0 => Z8
  | k + 1 => Zm _ _
theorem QbL : ∀ x ∈ QU, Xa x := by unfold Xa; decide
theorem QaC (zs : List Int) : ∀ k, ∀ x ∈ QO QU zs k, Xa x
  | 0 => QbL
  | k + 1 => fun x hx => by
    obtain ⟨j, _, rfl⟩ := List.mem_map.1 hx
    exact Ul _
theorem XG : Xa 0 := by unfold Xa; omega
theorem Qbx {st : List Int} (h : ∀ x ∈ st, Xa x) : (Qu st).ok := ⟨ZX XG h 0, ZX XG h 1, ZX XG h 2, ZX XG h 3, ZX XG h 4, ZX XG h 5, ZX XG h 6, ZX XG h 7⟩
theorem En {D : List Int} (h : Qe D) : Qe (Q8 D) := fun x hx => (List.mem_append.1 hx).elim (h x) (Di _ _ x)
/-- The bytes so far, of those with what is Zw: some zeros behind the one bit. -/
theorem Em (D : List Int) : Q8 D = D ++ 128 :: List.replicate (QD D.length - D.length - 9) 0 ++ Zy D.length := by simp [Q8, Kl]
theorem Qbp (n k : Nat) (hk : k < 8) : (n : Int) * 8 / 2 ^ (56 - 8 * (k : Int)).toNat % 256 = Qb (Zy n) k := by
  rw [D7 _ _ hk, show (56 - 8 * (k : Int)).toNat = 8 * (7 - k) by omega]
theorem QaL (st : List Int) (i j : Nat) (hi : i < 8) (hj : j < 8) : Qb st i / 2 ^ (56 - 8 * (j : Int)).toNat % 256 = Qb (Q3 st) (i * 8 + j) := by
  rw [HK _ _ (by omega), show (i * 8 + j) / 8 = i by omega, show (56 - 8 * (j : Int)).toNat = 8 * (8 - 1 - (i * 8 + j) % 8) by omega]
theorem QaM (st : List Int) : (Q3 st).length = 64 := by simp [Q3]
theorem Qdx (m : List Int) (i : Nat) (a b c d : Int) (ha : a = Qb m (i - 16)) (hb : b = YC (Qb m (i - 15))) (hc : c = Qb m (i - 7)) (hd : d = VM (Qb m (i - 2))) : (((a + b) % 18446744073709551616 + c) % 18446744073709551616 + d) % 18446744073709551616 = ZK m i := by
  subst ha hb hc hd
  unfold ZK
  omega
theorem QiS (m : List Int) (i : Nat) (v : Xc) (h : v.ok) : ((((v.h + YL v.e) % 18446744073709551616 + bits BinOp.xor .u64 (bits BinOp.and .u64 v.e v.f) (bits BinOp.and .u64 (Z5 v.e) v.g)) % 18446744073709551616 + Qb Xr i) % 18446744073709551616 + Qb m i) % 18446744073709551616 = ZC m i v := by
  unfold ZC
  omega
theorem QiO (v : Xc) (h : v.ok) : (Uw v.a + bits BinOp.xor .u64 (bits BinOp.xor .u64 (bits BinOp.and .u64 v.a v.b) (bits BinOp.and .u64 v.a v.c)) (bits BinOp.and .u64 v.b v.c)) % 18446744073709551616 = UT v := rfl
theorem Fv (x y : Int) : (x + y) % 18446744073709551616 = (x + y) % 18446744073709551616 := rfl
end Go.Proofs.YtbiboamaigedjaaGreatDoor
