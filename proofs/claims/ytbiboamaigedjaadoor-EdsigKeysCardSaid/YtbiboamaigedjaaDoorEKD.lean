/- Several points so many times, together, walked by the machine of symbols. Which bytes are a point's: load, walked by the machine of symbols. A point's -/
import Derived.Laws.Closers25b
import Derived.Deep.QuietTactic
import Derived.BigQuiet
import Derived.RegionTactic
import Derived.Deep.RegionWith
import Derived.Deep.RegionHeld3
import Derived.StillTailTactics
import Derived.Laws.Bits64
import Derived.ChangeKeysEq
import Derived.Laws.StructEq
import Derived.Deep.MidRow
import Derived.Lib.SlBuf
import Derived.Laws.CopyRow
import Derived.Laws.MakeOwn
import Derived.Test.YtbiboamaigedjaaDoorRows
import Derived.Lib.LaidTab
import Derived.ChangeSame
import Derived.Stop.LaidErr
import Derived.MakeChecks
import Derived.Test.YtbiboamaigedjaaDoorEKC
namespace Go.Proofs.YtbiboamaigedjaaDoor
open Go.RowKit
set_option linter.unusedVariables false
set_option linter.unusedSimpArgs false
set_option maxRecDepth 8000
set_option maxHeartbeats 2000000

abbrev gTn : Nat := gT.length
set_option maxHeartbeats 4000000 in
theorem QeP {k0 l0 : List Int} {P0 : Pt} (hk0 : Qd k0) (hkl0 : k0.length = 32) (hp0 : XL l0 P0) : ∃ r, XL r (Qs (kB k0) P0) /\ ∀ q1 q2, PR Tryd.prog gT 36 [.y q1 0 1 1, .y q2 0 1 1] [(q1, [.a .u8 k0 32]), (q2, [.a .u64 l0 20])] (fp r) := by
  obtain ⟨T0, ht0, hm0⟩ := YS hp0
  obtain ⟨n0, hn, hn0⟩ := Un
  obtain ⟨F, hF0, hF⟩ := JE (n := 1) (kb := (fun _ : Nat => k0)) (T := (fun _ : Nat => T0)) (P := (fun _ : Nat => P0)) (fun j hj => by
    match j, hj with
    | 0, _ => exact ht0
    | j + 1, h => omega) (fun j hj => by
    match j, hj with
    | 0, _ => exact hk0
    | j + 1, h => omega) n0 hn
  have hlen : ∀ k, k <= 64 -> (F k).length = 20 := fun k hk => ((hF k).1 hk).len
  have hfin := (hF 64).1 (Nat.le_refl _)
  simp only [Zl, Nat.sub_self, Nat.pow_zero, Nat.div_one, Zf] at hfin
  refine ⟨F 64, hfin, fun q1 q2 => PR.mk' Tryd.func36 rfl rfl rfl fun ρ w hG hm => ?_⟩
  obtain ⟨b1, -⟩ := hm _ (.head _)
  obtain ⟨b2, -⟩ := hm _ (.tail _ (.head _))
  have r1 := X8.rows (s := 32) (rows := [k0.map (Value.int .u8)]) (by simpa [Qg, SV.cs] using b1) (by omega) (by simp [hkl0]) (by simp [maxLen])
  have r2 := X8.rows (s := 20) (rows := [l0.map (Value.int .u64)]) (by simpa [Qg, SV.cs] using b2) (by omega) (by simp [hp0.len]) (by simp [maxLen])
  have hll0 := hp0.len
  have htl0 := ht0.1
  have hnl := hn.len
  refine S.enter Qh [.o (some ⟨ρ.b q1, 0, none⟩) 1 1, .o (some ⟨ρ.b q2, 0, none⟩) 1 1] (gT ++ [fR 32 (.slice (some ⟨ρ.b q1, 0, none⟩) 1 1) [k0.map (Value.int .u8)], fR 20 (.slice (some ⟨ρ.b q2, 0, none⟩) 1 1) [l0.map (Value.int .u64)]]) Tryd.func36 rfl rfl rfl (fun _ => by simp only [Qt, SV.den]) (LL.none w) (hG.app ⟨r1, r2, trivial⟩) ?_
  refine S.slc 0 [.a .u8 k0 32] rfl (fun ρ w h => h.f gTn rfl) (by simp [Qg, SV.cs]) (by simp [X2, SV.wd]) ?_ ⟨hkl0, trivial⟩
  refine S.slc 1 [.a .u64 l0 20] rfl (fun ρ w h => h.f (gTn + 1) rfl) (by simp [Qg, SV.cs]) (by simp [X2, SV.wd]) ?_ ⟨hll0, trivial⟩
  refine S.g false rfl ?_
  refine S.make 1 rfl rfl rfl rfl (s := 320) (bytes := 2560) (by kernel_rfl) rfl rfl rfl rfl rfl (by omega) (by omega) ?_
  refine S.g false rfl ?_
  refine S.rd 17 (.lit .i64 0) rfl (fun _ => rfl) ?_
  refine S.rounds 1 ?_
  refine S.g false rfl ?_
  refine S.condT rfl (by omega) ?_
  refine S.go false rfl (by repeat' (first | exact True.intro | refine And.intro ?_ ?_ | assumption | omega | (dsimp only; omega) | (simp only [Nat.add_eq, Nat.mul_eq, Nat.sub_eq, SV.wd]; omega) | exact rfl)) ?_
  refine S.cv rfl rfl rfl rfl rfl rfl hm0 ?_
  refine S.go false rfl (by repeat' (first | exact True.intro | refine And.intro ?_ ?_ | assumption | omega | (dsimp only; omega) | (simp only [Nat.add_eq, Nat.mul_eq, Nat.sub_eq, SV.wd]; omega) | exact rfl)) ?_
  refine S.rd 17 (.lit .i64 1) rfl (fun _ => rfl) ?_
  refine S.next ?_
  refine S.g false rfl ?_
  refine S.condF rfl (by omega) ?_
  refine S.g false rfl ?_
  refine S.cv rfl rfl rfl rfl rfl rfl hn0 ?_
  refine S.go false rfl (by repeat' (first | exact True.intro | refine And.intro ?_ ?_ | assumption | omega | (dsimp only; omega) | (simp only [Nat.add_eq, Nat.mul_eq, Nat.sub_eq, SV.wd]; omega) | exact rfl)) ?_
  refine S.loop [0, 4, 5, 8] (fun k : Nat => [(29, .i .i64 (k : Int))]) (fun k => [(2, [.i .u64 0, .i .u64 0, .i .u64 0, .i .u64 0, .i .u64 0, .i .u64 0, .i .u64 0, .i .u64 0, .i .u64 0, .i .u64 0, .i .u64 0, .i .u64 0, .i .u64 0, .i .u64 0, .i .u64 0, .i .u64 0, .i .u64 0, .i .u64 0, .i .u64 0, .i .u64 0]), (3, [.a .u64 T0 320]), (5, [.a .u64 (F k) 20])]) (fun _ => []) (fun k => k <= 64) (fun k => 64 - k) 0 rfl (fun _ => rfl) (fun _ => rfl) rfl ⟨⟨rfl, rfl⟩, trivial⟩ (by rw [hF0]; repeat' (first | exact True.intro | refine And.intro ?_ ?_ | assumption | exact rfl)) (fun _ _ _ => trivial) (by omega) fun J k hk again => ?_
  have hk' : k <= 64 := hk
  have hFk := hlen k hk'
  refine S.g false rfl ?_
  refine S.cond rfl (fun c => ?_) (fun c => ?_)
  . have c' : k < 64 := by omega
    obtain ⟨d, a, hd0, ha0, hy, hdl, hal, hdd, haa⟩ := (hF k).2 c'
    have d0 := hdd 0 (by omega)
    have dl1 := hdl 1 (by omega)
    have d1 := hdd 1 (by omega)
    have dl2 := hdl 2 (by omega)
    have d2 := hdd 2 (by omega)
    have dl3 := hdl 3 (by omega)
    have d3 := hdd 3 (by omega)
    have dl4 := hdl 4 (by omega)
    obtain ⟨ni0, aa0⟩ := haa 0 (by omega)
    have al1 := hal 1 (by omega)
    have nj0 : 0 <= Yk k0 k /\ Yk k0 k < 16 := ni0
    unfold Yk at nj0
    rw [hd0] at d0
    rw [ha0] at aa0
    refine S.g false rfl ?_
    refine S.rounds 4 ?_
    refine S.g false rfl ?_
    refine S.condT rfl (by omega) ?_
    refine S.g false rfl ?_
    refine S.cv rfl rfl rfl rfl rfl rfl d0 ?_
    refine S.go false rfl (by repeat' (first | exact True.intro | refine And.intro ?_ ?_ | assumption | omega | (dsimp only; omega) | (simp only [Nat.add_eq, Nat.mul_eq, Nat.sub_eq, SV.wd]; omega) | exact rfl)) ?_
    refine S.next ?_
    refine S.g false rfl ?_
    refine S.condT rfl (by omega) ?_
    refine S.g false rfl ?_
    refine S.cv rfl rfl rfl rfl rfl rfl d1 ?_
    refine S.go false rfl (by repeat' (first | exact True.intro | refine And.intro ?_ ?_ | assumption | omega | (dsimp only; omega) | (simp only [Nat.add_eq, Nat.mul_eq, Nat.sub_eq, SV.wd]; omega) | exact rfl)) ?_
    refine S.next ?_
    refine S.g false rfl ?_
    refine S.condT rfl (by omega) ?_
    refine S.g false rfl ?_
    refine S.cv rfl rfl rfl rfl rfl rfl d2 ?_
    refine S.go false rfl (by repeat' (first | exact True.intro | refine And.intro ?_ ?_ | assumption | omega | (dsimp only; omega) | (simp only [Nat.add_eq, Nat.mul_eq, Nat.sub_eq, SV.wd]; omega) | exact rfl)) ?_
    refine S.next ?_
    refine S.g false rfl ?_
    refine S.condT rfl (by omega) ?_
    refine S.g false rfl ?_
    refine S.cv rfl rfl rfl rfl rfl rfl d3 ?_
    refine S.go false rfl (by repeat' (first | exact True.intro | refine And.intro ?_ ?_ | assumption | omega | (dsimp only; omega) | (simp only [Nat.add_eq, Nat.mul_eq, Nat.sub_eq, SV.wd]; omega) | exact rfl)) ?_
    refine S.next ?_
    refine S.g false rfl ?_
    refine S.condF rfl (by omega) ?_
    refine S.g false rfl ?_
    refine S.rd 41 (.lit .i64 0) rfl (fun _ => rfl) ?_
    refine S.rounds 1 ?_
    refine S.g false rfl ?_
    refine S.condT rfl (by omega) ?_
    refine S.g false rfl ?_
    refine S.drp false [(18, fp (a 1))] rfl rfl rfl ?_ (by repeat' (first | exact True.intro | refine And.intro ?_ ?_ | assumption | omega | (dsimp only; omega) | (simp only [Nat.add_eq, Nat.mul_eq, Nat.sub_eq, SV.wd]; omega) | exact rfl))
    refine S.g false rfl ?_
    refine S.rd 41 (.lit .i64 1) rfl (fun _ => rfl) ?_
    refine S.next ?_
    refine S.g false rfl ?_
    refine S.condF rfl (by omega) ?_
    refine S.g false rfl ?_
    refine S.again (again (k + 1) (show k + 1 <= 64 by omega) (show 64 - (k + 1) < 64 - k by omega)) ⟨⟨rfl, by omega⟩, rfl, rfl, ⟨rfl, rfl, rfl, rfl⟩, rfl, trivial⟩ ?_ rfl rfl (fun x hx => hx) rfl (fun ρ W h => h.hs)
    rw [hy]
    repeat' (first | exact True.intro | refine And.intro ?_ ?_ | assumption | exact rfl)
  . obtain rfl : k = 64 := by omega
    refine S.go false rfl (by repeat' (first | exact True.intro | refine And.intro ?_ ?_ | assumption | omega | (dsimp only; omega) | (simp only [Nat.add_eq, Nat.mul_eq, Nat.sub_eq, SV.wd]; omega) | exact rfl)) ?_
    exact S.retv rfl rfl rfl rfl rfl
set_option maxHeartbeats 4000000 in
theorem QeO {k0 k1 l0 l1 : List Int} {P0 P1 : Pt} (hk0 : Qd k0) (hkl0 : k0.length = 32) (hp0 : XL l0 P0) (hk1 : Qd k1) (hkl1 : k1.length = 32) (hp1 : XL l1 P1) : ∃ r, XL r (Ql (Qs (kB k0) P0) (Qs (kB k1) P1)) /\ ∀ q1 q2, PR Tryd.prog gT 36 [.y q1 0 2 2, .y q2 0 2 2] [(q1, [.a .u8 k0 32, .a .u8 k1 32]), (q2, [.a .u64 l0 20, .a .u64 l1 20])] (fp r) := by
  obtain ⟨T0, ht0, hm0⟩ := YS hp0
  obtain ⟨T1, ht1, hm1⟩ := YS hp1
  obtain ⟨n0, hn, hn0⟩ := Un
  obtain ⟨F, hF0, hF⟩ := JE (n := 2) (kb := (fun j : Nat => match j with | 0 => k0 | _ => k1)) (T := (fun j : Nat => match j with | 0 => T0 | _ => T1)) (P := (fun j : Nat => match j with | 0 => P0 | _ => P1)) (fun j hj => by
    match j, hj with
    | 0, _ => exact ht0
    | 1, _ => exact ht1
    | j + 2, h => omega) (fun j hj => by
    match j, hj with
    | 0, _ => exact hk0
    | 1, _ => exact hk1
    | j + 2, h => omega) n0 hn
  have hlen : ∀ k, k <= 64 -> (F k).length = 20 := fun k hk => ((hF k).1 hk).len
  have hfin := (hF 64).1 (Nat.le_refl _)
  simp only [Zl, Nat.sub_self, Nat.pow_zero, Nat.div_one, Zf] at hfin
  refine ⟨F 64, hfin, fun q1 q2 => PR.mk' Tryd.func36 rfl rfl rfl fun ρ w hG hm => ?_⟩
  obtain ⟨b1, -⟩ := hm _ (.head _)
  obtain ⟨b2, -⟩ := hm _ (.tail _ (.head _))
  have r1 := X8.rows (s := 32) (rows := [k0.map (Value.int .u8), k1.map (Value.int .u8)]) (by simpa [Qg, SV.cs] using b1) (by omega) (by simp [hkl0, hkl1]) (by simp [maxLen])
  have r2 := X8.rows (s := 20) (rows := [l0.map (Value.int .u64), l1.map (Value.int .u64)]) (by simpa [Qg, SV.cs] using b2) (by omega) (by simp [hp0.len, hp1.len]) (by simp [maxLen])
  have hll0 := hp0.len
  have htl0 := ht0.1
  have hll1 := hp1.len
  have htl1 := ht1.1
  have hnl := hn.len
  refine S.enter Qh [.o (some ⟨ρ.b q1, 0, none⟩) 2 2, .o (some ⟨ρ.b q2, 0, none⟩) 2 2] (gT ++ [fR 32 (.slice (some ⟨ρ.b q1, 0, none⟩) 2 2) [k0.map (Value.int .u8), k1.map (Value.int .u8)], fR 20 (.slice (some ⟨ρ.b q2, 0, none⟩) 2 2) [l0.map (Value.int .u64), l1.map (Value.int .u64)]]) Tryd.func36 rfl rfl rfl (fun _ => by simp only [Qt, SV.den]) (LL.none w) (hG.app ⟨r1, r2, trivial⟩) ?_
  refine S.slc 0 [.a .u8 k0 32, .a .u8 k1 32] rfl (fun ρ w h => h.f gTn rfl) (by simp [Qg, SV.cs]) (by simp [X2, SV.wd]) ?_ ⟨hkl0, hkl1, trivial⟩
  refine S.slc 1 [.a .u64 l0 20, .a .u64 l1 20] rfl (fun ρ w h => h.f (gTn + 1) rfl) (by simp [Qg, SV.cs]) (by simp [X2, SV.wd]) ?_ ⟨hll0, hll1, trivial⟩
  refine S.g false rfl ?_
  refine S.make 2 rfl rfl rfl rfl (s := 320) (bytes := 2560) (by kernel_rfl) rfl rfl rfl rfl rfl (by omega) (by omega) ?_
  refine S.g false rfl ?_
  refine S.rd 17 (.lit .i64 0) rfl (fun _ => rfl) ?_
  refine S.rounds 2 ?_
  refine S.g false rfl ?_
  refine S.condT rfl (by omega) ?_
  refine S.go false rfl (by repeat' (first | exact True.intro | refine And.intro ?_ ?_ | assumption | omega | (dsimp only; omega) | (simp only [Nat.add_eq, Nat.mul_eq, Nat.sub_eq, SV.wd]; omega) | exact rfl)) ?_
  refine S.cv rfl rfl rfl rfl rfl rfl hm0 ?_
  refine S.go false rfl (by repeat' (first | exact True.intro | refine And.intro ?_ ?_ | assumption | omega | (dsimp only; omega) | (simp only [Nat.add_eq, Nat.mul_eq, Nat.sub_eq, SV.wd]; omega) | exact rfl)) ?_
  refine S.rd 17 (.lit .i64 1) rfl (fun _ => rfl) ?_
  refine S.next ?_
  refine S.g false rfl ?_
  refine S.condT rfl (by omega) ?_
  refine S.go false rfl (by repeat' (first | exact True.intro | refine And.intro ?_ ?_ | assumption | omega | (dsimp only; omega) | (simp only [Nat.add_eq, Nat.mul_eq, Nat.sub_eq, SV.wd]; omega) | exact rfl)) ?_
  refine S.cv rfl rfl rfl rfl rfl rfl hm1 ?_
  refine S.go false rfl (by repeat' (first | exact True.intro | refine And.intro ?_ ?_ | assumption | omega | (dsimp only; omega) | (simp only [Nat.add_eq, Nat.mul_eq, Nat.sub_eq, SV.wd]; omega) | exact rfl)) ?_
  refine S.rd 17 (.lit .i64 2) rfl (fun _ => rfl) ?_
  refine S.next ?_
  refine S.g false rfl ?_
  refine S.condF rfl (by omega) ?_
  refine S.g false rfl ?_
  refine S.cv rfl rfl rfl rfl rfl rfl hn0 ?_
  refine S.go false rfl (by repeat' (first | exact True.intro | refine And.intro ?_ ?_ | assumption | omega | (dsimp only; omega) | (simp only [Nat.add_eq, Nat.mul_eq, Nat.sub_eq, SV.wd]; omega) | exact rfl)) ?_
  refine S.loop [0, 4, 5, 8] (fun k : Nat => [(29, .i .i64 (k : Int))]) (fun k => [(2, [.i .u64 0, .i .u64 0, .i .u64 0, .i .u64 0, .i .u64 0, .i .u64 0, .i .u64 0, .i .u64 0, .i .u64 0, .i .u64 0, .i .u64 0, .i .u64 0, .i .u64 0, .i .u64 0, .i .u64 0, .i .u64 0, .i .u64 0, .i .u64 0, .i .u64 0, .i .u64 0]), (3, [.a .u64 T0 320, .a .u64 T1 320]), (6, [.a .u64 (F k) 20])]) (fun _ => []) (fun k => k <= 64) (fun k => 64 - k) 0 rfl (fun _ => rfl) (fun _ => rfl) rfl ⟨⟨rfl, rfl⟩, trivial⟩ (by rw [hF0]; repeat' (first | exact True.intro | refine And.intro ?_ ?_ | assumption | exact rfl)) (fun _ _ _ => trivial) (by omega) fun J k hk again => ?_
  have hk' : k <= 64 := hk
  have hFk := hlen k hk'
  refine S.g false rfl ?_
  refine S.cond rfl (fun c => ?_) (fun c => ?_)
  . have c' : k < 64 := by omega
    obtain ⟨d, a, hd0, ha0, hy, hdl, hal, hdd, haa⟩ := (hF k).2 c'
    have d0 := hdd 0 (by omega)
    have dl1 := hdl 1 (by omega)
    have d1 := hdd 1 (by omega)
    have dl2 := hdl 2 (by omega)
    have d2 := hdd 2 (by omega)
    have dl3 := hdl 3 (by omega)
    have d3 := hdd 3 (by omega)
    have dl4 := hdl 4 (by omega)
    obtain ⟨ni0, aa0⟩ := haa 0 (by omega)
    have al1 := hal 1 (by omega)
    have nj0 : 0 <= Yk k0 k /\ Yk k0 k < 16 := ni0
    unfold Yk at nj0
    obtain ⟨ni1, aa1⟩ := haa 1 (by omega)
    have al2 := hal 2 (by omega)
    have nj1 : 0 <= Yk k1 k /\ Yk k1 k < 16 := ni1
    unfold Yk at nj1
    rw [hd0] at d0
    rw [ha0] at aa0
    refine S.g false rfl ?_
    refine S.rounds 4 ?_
    refine S.g false rfl ?_
    refine S.condT rfl (by omega) ?_
    refine S.g false rfl ?_
    refine S.cv rfl rfl rfl rfl rfl rfl d0 ?_
    refine S.go false rfl (by repeat' (first | exact True.intro | refine And.intro ?_ ?_ | assumption | omega | (dsimp only; omega) | (simp only [Nat.add_eq, Nat.mul_eq, Nat.sub_eq, SV.wd]; omega) | exact rfl)) ?_
    refine S.next ?_
    refine S.g false rfl ?_
    refine S.condT rfl (by omega) ?_
    refine S.g false rfl ?_
    refine S.cv rfl rfl rfl rfl rfl rfl d1 ?_
    refine S.go false rfl (by repeat' (first | exact True.intro | refine And.intro ?_ ?_ | assumption | omega | (dsimp only; omega) | (simp only [Nat.add_eq, Nat.mul_eq, Nat.sub_eq, SV.wd]; omega) | exact rfl)) ?_
    refine S.next ?_
    refine S.g false rfl ?_
    refine S.condT rfl (by omega) ?_
    refine S.g false rfl ?_
    refine S.cv rfl rfl rfl rfl rfl rfl d2 ?_
    refine S.go false rfl (by repeat' (first | exact True.intro | refine And.intro ?_ ?_ | assumption | omega | (dsimp only; omega) | (simp only [Nat.add_eq, Nat.mul_eq, Nat.sub_eq, SV.wd]; omega) | exact rfl)) ?_
    refine S.next ?_
    refine S.g false rfl ?_
    refine S.condT rfl (by omega) ?_
    refine S.g false rfl ?_
    refine S.cv rfl rfl rfl rfl rfl rfl d3 ?_
    refine S.go false rfl (by repeat' (first | exact True.intro | refine And.intro ?_ ?_ | assumption | omega | (dsimp only; omega) | (simp only [Nat.add_eq, Nat.mul_eq, Nat.sub_eq, SV.wd]; omega) | exact rfl)) ?_
    refine S.next ?_
    refine S.g false rfl ?_
    refine S.condF rfl (by omega) ?_
    refine S.g false rfl ?_
    refine S.rd 41 (.lit .i64 0) rfl (fun _ => rfl) ?_
    refine S.rounds 2 ?_
    refine S.g false rfl ?_
    refine S.condT rfl (by omega) ?_
    refine S.g false rfl ?_
    refine S.drp false [(18, fp (a 1))] rfl rfl rfl ?_ (by repeat' (first | exact True.intro | refine And.intro ?_ ?_ | assumption | omega | (dsimp only; omega) | (simp only [Nat.add_eq, Nat.mul_eq, Nat.sub_eq, SV.wd]; omega) | exact rfl))
    refine S.g false rfl ?_
    refine S.rd 41 (.lit .i64 1) rfl (fun _ => rfl) ?_
    refine S.next ?_
    refine S.g false rfl ?_
    refine S.condT rfl (by omega) ?_
    refine S.g false rfl ?_
    refine S.drp false [(18, fp (a 2))] rfl rfl rfl ?_ (by repeat' (first | exact True.intro | refine And.intro ?_ ?_ | assumption | omega | (dsimp only; omega) | (simp only [Nat.add_eq, Nat.mul_eq, Nat.sub_eq, SV.wd]; omega) | exact rfl))
    refine S.g false rfl ?_
    refine S.rd 41 (.lit .i64 2) rfl (fun _ => rfl) ?_
    refine S.next ?_
    refine S.g false rfl ?_
    refine S.condF rfl (by omega) ?_
    refine S.g false rfl ?_
    refine S.again (again (k + 1) (show k + 1 <= 64 by omega) (show 64 - (k + 1) < 64 - k by omega)) ⟨⟨rfl, by omega⟩, rfl, rfl, ⟨rfl, rfl, rfl, rfl⟩, rfl, trivial⟩ ?_ rfl rfl (fun x hx => hx) rfl (fun ρ W h => h.hs)
    rw [hy]
    repeat' (first | exact True.intro | refine And.intro ?_ ?_ | assumption | exact rfl)
  . obtain rfl : k = 64 := by omega
    refine S.go false rfl (by repeat' (first | exact True.intro | refine And.intro ?_ ?_ | assumption | omega | (dsimp only; omega) | (simp only [Nat.add_eq, Nat.mul_eq, Nat.sub_eq, SV.wd]; omega) | exact rfl)) ?_
    exact S.retv rfl rfl rfl rfl rfl
theorem Qf7 (v : Int) : (v % pV).toNat < pN := by
  have h := XQ v
  have e := Zr
  omega
def ofI (v : Int) : FF := ⟨(v % pV).toNat, Qf7 v⟩
theorem U3 (v : Int) : ((ofI v).val : Int) = v % pV := by
  have h := XQ v
  show (((v % pV).toNat : Nat) : Int) = v % pV
  omega
theorem FD {a b : FF} (h : (a.val : Int) = (b.val : Int)) : a = b := Fin.ext (by omega)
/-- The square of x, by y. -/
def uF (y : FF) : FF := (y*y - 1) * Xq (y*y*dF + 1)
def rF (u : FF) : FF := ofI (rV (u.val : Int))
def okF (u : FF) : Bool := okV (u.val : Int)
theorem Gw (u : FF) : ((rF u).val : Int) = rV (u.val : Int) := by
  have h := QhB (u.val : Int)
  rw [rF, U3, Int.emod_eq_of_lt h.1 h.2]
theorem Qb8 {u : FF} (h : okF u = true) : rF u * rF u = u := by
  refine FD ?_
  rw [val_mul, Gw]
  exact QhA h
theorem QfT (y : FF) : y*y*dF + 1 ≠ 0 := by
  intro h
  by_cases hy : y = 0
  . subst hy
    exact absurd h (by decide +kernel)
  . have hi := Zt hy
    refine QfU (iF * Xq y) ?_
    generalize Xq y = f at *
    have hq := Qc2
    grobner
theorem Qgr {x y : FF} (hx : x*x = uF y) : On dF x y := by
  have hi := Zt (QfT y)
  unfold uF at hx
  unfold On
  generalize Xq (y*y*dF + 1) = f at *
  grobner
/-- What 32 bytes say: y, whether x is odd, and x's even value. -/
def Yo (b : List Int) : List Int := b.set 31 (Qb b 31 % 128)
def yI (b : List Int) : Int := Qk (Yo b) 32
def yF (b : List Int) : FF := ofI (yI b)
def odB (b : List Int) : Bool := decide (128 <= Qb b 31)
def Kh (b : List Int) : FF := rF (uF (yF b))
structure ZB (b : List Int) : Prop where
  low : yI b < pV
  ok : okF (uF (yF b)) = true
  one : ¬ (odB b = true /\ Kh b = 0)
def xF (b : List Int) : FF := if odB b then -Kh b else Kh b
theorem Qho {b : List Int} (h : ZB b) : On dF (xF b) (yF b) := by
  refine Qgr ?_
  have hs : Kh b * Kh b = uF (yF b) := Qb8 h.ok
  unfold xF
  cases odB b
  . exact hs
  . rw [<- hs]
    show -Kh b * -Kh b = _
    grobner
def KI (b : List Int) (h : ZB b) : Pt := ⟨xF b, yF b, Qho h⟩
theorem Fs {b : List Int} (h : b.length = 32) : (Yo b).length = 32 := by simp [Yo, h]
theorem Yn {b : List Int} (h : Qd b) : Qd (Yo b) := by
  intro x hx
  rcases List.mem_or_eq_of_mem_set hx with h1 | h1
  . exact h x h1
  . have := h.at 31
    omega
theorem QdK {x : Int} (hx : 0 <= x /\ x <= 255) (h : 128 <= x) : bits BinOp.and IntKind.u8 x 128 = 128 := by
  have := Y9 (p := fun x => 128 <= x -> bits BinOp.and IntKind.u8 x 128 = 128) (by decide +kernel) hx
  exact this h
theorem QdL {x : Int} (hx : 0 <= x /\ x <= 255) (h : ¬ 128 <= x) : bits BinOp.and IntKind.u8 x 128 = 0 := by
  have := Y9 (p := fun x => ¬ 128 <= x -> bits BinOp.and IntKind.u8 x 128 = 0) (by decide +kernel) hx
  exact this h
theorem Qfv {x : Int} (hx : 0 <= x /\ x <= 255) : bits BinOp.and IntKind.u8 x 127 = x % 128 := Y9 (p := fun x => bits BinOp.and IntKind.u8 x 127 = x % 128) (by decide +kernel) hx
theorem Qhn {b : List Int} (hb : Qd b) : QH (Qm (YT (Yo b))) ((yF b).val : Int) := by rw [yF, U3]; exact KW _ (Yn hb)
def z20 : List Int := List.replicate 20 0
theorem Qec {b : List Int} (hb : Qd b) : b.set 31 (bits .and .u8 (b.getD 31 0) 127) = Yo b := by
  have e : b.getD 31 0 = Qb b 31 := by simp [Qb]
  rw [e, Qfv (hb.at 31)]
  rfl
theorem QfL {b : List Int} (hb : Qd b) (h : 128 <= Qb b 31) : ¬ bits .and .u8 (b.getD 31 0) 128 = 0 := by
  have e : b.getD 31 0 = Qb b 31 := by simp [Qb]
  rw [e, QdK (hb.at 31) h]
  omega
theorem QfN {b : List Int} (hb : Qd b) (h : ¬ 128 <= Qb b 31) : bits .and .u8 (b.getD 31 0) 128 = 0 := by
  have e : b.getD 31 0 = Qb b 31 := by simp [Qb]
  rw [e]
  exact QdL (hb.at 31) h
set_option maxHeartbeats 2000000 in
theorem QcU {b : List Int} (hb : Qd b) (hl : b.length = 32) : (∀ h : ZB b, ∃ r, QdO r (KI b h) /\ PV Tryd.prog gT 61 [.a .u8 b 32] (.t [fp r, .l true])) /\ (¬ ZB b -> PV Tryd.prog gT 61 [.a .u8 b 32] (.t [fp z20, .l false])) := by
  have hlb := Fs hl
  have k1 := Qhn hb
  have H0 := Qen (Yn hb) hlb
  have H1 := QcV (Yn hb) hlb
  generalize hk1 : Qm (YT (Yo b)) = y1 at *
  obtain ⟨s, k2, H2⟩ := Q2 k1 k1
  rw [<- val_mul] at k2
  obtain ⟨x4, k4, H4⟩ := Zp k2 VI
  obtain ⟨x5, k5, H5⟩ := Q2 k2 Qdt
  rw [Qds, <- val_mul] at k5
  obtain ⟨x6, k6, H6⟩ := Yi k5 VI
  have one_v : (1 : Int) = ((1 : FF).val : Int) := by decide +kernel
  rw [one_v, <- ZC] at k4
  rw [one_v, <- val_add] at k6
  obtain ⟨x7, k7, H7⟩ := KY k6
  rw [JS] at k7
  obtain ⟨x8, k8, H8⟩ := Q2 k4 k7
  rw [<- val_mul] at k8
  change QH x8 ((uF (yF b)).val : Int) at k8
  have H9 := Qgf k8
  have k9 := Qeg k8
  rw [<- Gw] at k9
  change QH _ ((Kh b).val : Int) at k9
  change PV _ _ _ _ (.t [_, .l (okF (uF (yF b)))]) at H9
  have H10 := El k9 ZS
  obtain ⟨nx, kn, H11⟩ := Qcj (y := y1) k9
  rw [<- US] at kn
  have hz0 : (((Kh b).val : Int) = 0) ↔ Kh b = 0 := ⟨fun h => FD (by rw [h]; decide +kernel), fun h => by rw [h]; decide +kernel⟩
  generalize rtL x8 ((uF (yF b)).val : Int) = rx at *
  have gd := QhR
  have h1 := UX 1 (by omega)
  have hsl := Qec hb
  have hxt : 128 <= Qb b 31 -> xF b = -Kh b := fun ho => by unfold xF odB; rw [decide_eq_true ho]; rfl
  have hxf : ¬ 128 <= Qb b 31 -> xF b = Kh b := fun ho => by unfold xF odB; rw [decide_eq_false ho]; rfl
  have yes : ZB b -> ∀ h : ZB b, ∃ r, QdO r (KI b h) /\ PV Tryd.prog gT 61 [.a .u8 b 32] (.t [fp r, .l true]) := fun _ h => by
    have hok := h.ok
    have hlow : Qk (Yo b) 32 < pV := h.low
    rw [hok] at H9
    by_cases ho : 128 <= Qb b 31
    . rw [<- hxt ho] at kn
      have hnz : ¬ (((Kh b).val : Int) = 0) := fun e => h.one ⟨decide_eq_true ho, hz0.1 e⟩
      obtain ⟨r, hr, H12⟩ := YK (P := KI b h) kn k1
      have hrl := hr.1.len
      refine ⟨r, hr, PV.mk' Tryd.func61 rfl rfl rfl rfl fun w L hL hG => ?_⟩
      clear k1 k2 k4 k5 k6 k7 k8 k9 kn hr
      refine S.enter Qh [.a .u8 b 32] gT Tryd.func61 rfl rfl rfl (fun _ => rfl) hL hG ?_
      refine S.go false rfl (by repeat' (first | exact True.intro | refine And.intro ?_ ?_ | assumption | omega | (dsimp only; omega) | exact rfl)) ?_
      refine S.rd 4 (.l true) rfl (fun _ => by simp only [SV.den]; rw [decide_eq_true (QfL hb ho)]) ?_
      refine S.recell 0 [.a .u8 (Yo b) 32] rfl (fun ρ => congrArg (fun z => Qg ρ [SV.a .u8 z 32]) hsl) ⟨hlb, trivial⟩ rfl ?_
      refine S.rd 19 (.a .u8 (Yo b) 32) rfl (fun ρ => congrArg (fun z => (SV.a .u8 z 32).den ρ) hsl) ?_
      refine S.cv rfl rfl rfl rfl rfl rfl H0 ?_
      refine S.g false rfl ?_
      refine S.condF rfl (fun h => h hlow) ?_
      refine S.g false rfl ?_
      refine S.cv rfl rfl rfl rfl rfl rfl H1 ?_
      refine S.g false rfl ?_
      refine S.cv rfl rfl rfl rfl rfl rfl H2 ?_
      refine S.g false rfl ?_
      refine S.cv rfl rfl rfl rfl rfl rfl h1 ?_
      refine S.g false rfl ?_
      refine S.drp false [(2, lm x4), (4, lm dL), (5, lm x5), (7, lm x6), (8, lm x7), (9, lm x8), (10, .t [lm rx, .l true])] rfl rfl rfl ?_ (by repeat' (first | exact True.intro | refine And.intro ?_ ?_ | assumption | omega | (dsimp only; omega) | exact rfl))
      refine S.g false rfl ?_
      refine S.cv rfl rfl rfl rfl rfl rfl H10 ?_
      refine S.g false rfl ?_
      refine S.condF rfl hnz ?_
      refine S.g false rfl ?_
      refine S.cv rfl rfl rfl rfl rfl rfl H11 ?_
      refine S.g false rfl ?_
      refine S.cv rfl rfl rfl rfl rfl rfl H12 ?_
      refine S.go false rfl (by repeat' (first | exact True.intro | refine And.intro ?_ ?_ | assumption | omega | (dsimp only; omega) | exact rfl)) ?_
      exact S.rett rfl rfl rfl rfl rfl
    . rw [<- hxf ho] at k9
      obtain ⟨r, hr, H12⟩ := YK (P := KI b h) k9 k1
      have hrl := hr.1.len
      refine ⟨r, hr, PV.mk' Tryd.func61 rfl rfl rfl rfl fun w L hL hG => ?_⟩
      clear k1 k2 k4 k5 k6 k7 k8 k9 kn hr
      refine S.enter Qh [.a .u8 b 32] gT Tryd.func61 rfl rfl rfl (fun _ => rfl) hL hG ?_
      refine S.go false rfl (by repeat' (first | exact True.intro | refine And.intro ?_ ?_ | assumption | omega | (dsimp only; omega) | exact rfl)) ?_
      refine S.rd 4 (.l false) rfl (fun _ => by simp only [SV.den]; rw [decide_eq_false (fun e => e (QfN hb ho))]) ?_
      refine S.recell 0 [.a .u8 (Yo b) 32] rfl (fun ρ => congrArg (fun z => Qg ρ [SV.a .u8 z 32]) hsl) ⟨hlb, trivial⟩ rfl ?_
      refine S.rd 19 (.a .u8 (Yo b) 32) rfl (fun ρ => congrArg (fun z => (SV.a .u8 z 32).den ρ) hsl) ?_
      refine S.cv rfl rfl rfl rfl rfl rfl H0 ?_
      refine S.g false rfl ?_
      refine S.condF rfl (fun h => h hlow) ?_
      refine S.g false rfl ?_
      refine S.cv rfl rfl rfl rfl rfl rfl H1 ?_
      refine S.g false rfl ?_
      refine S.cv rfl rfl rfl rfl rfl rfl H2 ?_
      refine S.g false rfl ?_
      refine S.cv rfl rfl rfl rfl rfl rfl h1 ?_
      refine S.g false rfl ?_
      refine S.drp false [(2, lm x4), (4, lm dL), (5, lm x5), (7, lm x6), (8, lm x7), (9, lm x8), (10, .t [lm rx, .l true])] rfl rfl rfl ?_ (by repeat' (first | exact True.intro | refine And.intro ?_ ?_ | assumption | omega | (dsimp only; omega) | exact rfl))
      refine S.g false rfl ?_
      refine S.cv rfl rfl rfl rfl rfl rfl H12 ?_
      refine S.go false rfl (by repeat' (first | exact True.intro | refine And.intro ?_ ?_ | assumption | omega | (dsimp only; omega) | exact rfl)) ?_
      exact S.rett rfl rfl rfl rfl rfl
  refine ⟨fun h => yes h h, fun hno => PV.mk' Tryd.func61 rfl rfl rfl rfl fun w L hL hG => ?_⟩
  clear k1 k2 k4 k5 k6 k7 k8 k9 kn
  refine S.enter Qh [.a .u8 b 32] gT Tryd.func61 rfl rfl rfl (fun _ => rfl) hL hG ?_
  refine S.go false rfl (by repeat' (first | exact True.intro | refine And.intro ?_ ?_ | assumption | omega | (dsimp only; omega) | exact rfl)) ?_
  have hod : ∃ od : Bool, (od = true ↔ 128 <= Qb b 31) /\ decide (¬ bits .and .u8 (b.getD 31 0) 128 = 0) = od := by
    by_cases ho : 128 <= Qb b 31
    . exact ⟨true, by simp [ho], decide_eq_true (QfL hb ho)⟩
    . exact ⟨false, by simp [ho], decide_eq_false (fun e => e (QfN hb ho))⟩
  obtain ⟨od, ho1, ho2⟩ := hod
  refine S.rd 4 (.l od) rfl (fun _ => by simp only [SV.den]; rw [<- ho2]) ?_
  refine S.recell 0 [.a .u8 (Yo b) 32] rfl (fun ρ => congrArg (fun z => Qg ρ [SV.a .u8 z 32]) hsl) ⟨hlb, trivial⟩ rfl ?_
  refine S.rd 19 (.a .u8 (Yo b) 32) rfl (fun ρ => congrArg (fun z => (SV.a .u8 z 32).den ρ) hsl) ?_
  refine S.cv rfl rfl rfl rfl rfl rfl H0 ?_
  refine S.g false rfl ?_
  refine S.cond rfl (fun hc => ?_) (fun hc => ?_)
  . refine S.g false rfl ?_
    exact S.rett rfl rfl rfl rfl rfl
  have hlow : Qk (Yo b) 32 < pV := Decidable.not_not.1 hc
  refine S.g false rfl ?_
  refine S.cv rfl rfl rfl rfl rfl rfl H1 ?_
  refine S.g false rfl ?_
  refine S.cv rfl rfl rfl rfl rfl rfl H2 ?_
  refine S.g false rfl ?_
  refine S.cv rfl rfl rfl rfl rfl rfl h1 ?_
  refine S.g false rfl ?_
  refine S.drp false [(2, lm x4), (4, lm dL), (5, lm x5), (7, lm x6), (8, lm x7), (9, lm x8), (10, .t [lm rx, .l (okF (uF (yF b)))])] rfl rfl rfl ?_ (by repeat' (first | exact True.intro | refine And.intro ?_ ?_ | assumption | omega | (dsimp only; omega) | exact rfl))
  cases hok : okF (uF (yF b)) with
  | false =>
    refine S.rd 9 (.l false) rfl (fun _ => rfl) ?_
    refine S.g false rfl ?_
    exact S.rett rfl rfl rfl rfl rfl
  | true =>
    refine S.rd 9 (.l true) rfl (fun _ => rfl) ?_
    cases od with
    | false => exact absurd ⟨hlow, hok, fun h => by have := ho1.2 (of_decide_eq_true h.1); cases this⟩ hno
    | true =>
      refine S.g false rfl ?_
      refine S.cv rfl rfl rfl rfl rfl rfl H10 ?_
      refine S.g false rfl ?_
      by_cases hz : ((Kh b).val : Int) = 0
      . refine S.condT rfl hz ?_
        refine S.g false rfl ?_
        exact S.rett rfl rfl rfl rfl rfl
      . exact absurd ⟨hlow, hok, fun h => hz (hz0.2 h.2)⟩ hno
theorem X9 (a : FF) : 0 <= (a.val : Int) /\ (a.val : Int) < pV := by
  have := a.isLt
  rw [Zr]; omega
theorem Ya (a : FF) : 0 <= (a.val : Int) /\ (a.val : Int) < 2 ^ 256 := by
  have h := X9 a
  have := Fb
  omega
/-- The base point's numbers. -/
def Da : FF := 15112221349535400772501151409588531511454012693041857206046113283949847762202
def E9 : FF := 46316835694926478169428394003475163141307993866256225615783033603165251855960
def bP : Pt := ⟨Da, E9, by unfold On; decide +kernel⟩
def Q9 (P : Pt) : List Int := if (P.x.val : Int) % 2 = 1 then (QE (P.y.val : Int)).set 31 (Qb (QE (P.y.val : Int)) 31 + 128) else QE (P.y.val : Int)
theorem QF (P : Pt) : (Q9 P).length = 32 := by unfold Q9; split <;> simp [Qw]
theorem Jn (a : FF) : 0 <= Qb (QE (a.val : Int)) 31 /\ Qb (QE (a.val : Int)) 31 < 128 := by
  have h := Ua (a.val : Int) 31 (by omega)
  have hv := X9 a
  have hp : pV < 2 ^ 255 := by decide +kernel
  rw [h]
  omega
theorem QhF {x : Int} (hx : 0 <= x /\ x < 128) : bits BinOp.or IntKind.u8 x 128 = x + 128 := by
  have := Y9 (p := fun x => x < 128 -> bits BinOp.or IntKind.u8 x 128 = x + 128) (by decide +kernel) (x := x) (by omega)
  exact this hx.2
theorem VX (P : Pt) : Q9 P = (QE (P.y.val : Int)).set 31 (Qb (QE (P.y.val : Int)) 31 + (P.x.val : Int) % 2 * 128) := by
  unfold Q9
  split
  . next h => rw [h]; rfl
  . next h =>
    rw [show (P.x.val : Int) % 2 = 0 by omega, Int.zero_mul, Int.add_zero]
    have hl := Qw (P.y.val : Int)
    generalize QE (P.y.val : Int) = b at *
    unfold Qb
    refine List.ext_getElem (by simp) fun i h1 h2 => ?_
    rw [List.getElem_set]
    split
    . next hi => subst hi; simp [h1]
    . rfl
theorem G9 {l : List Int} {k : Nat} (h : k < l.length) (v : Int) : Qb (l.set k v) k = v := by simp [Qb, h]
theorem Qed {l : List Int} {k : Nat} (h : k < l.length) : l.set k (Qb l k) = l := by
  refine List.ext_getElem (by simp) fun i h1 h2 => ?_
  rw [List.getElem_set]
  split
  . next hi => subst hi; simp [Qb, h]
  . rfl
theorem FI (P : Pt) : Qb (Q9 P) 31 = Qb (QE (P.y.val : Int)) 31 + (P.x.val : Int) % 2 * 128 := by
  rw [VX, G9 (by rw [Qw]; decide)]
theorem Qdb (P : Pt) : Yo (Q9 P) = QE (P.y.val : Int) := by
  have ht := Jn P.y
  unfold Yo
  rw [FI, VX, List.set_set]
  rw [show (Qb (QE (P.y.val : Int)) 31 + (P.x.val : Int) % 2 * 128) % 128 = Qb (QE (P.y.val : Int)) 31 by omega]
  exact Qed (by rw [Qw]; decide)
theorem D7 (P : Pt) : yI (Q9 P) = (P.y.val : Int) := by
  unfold yI
  rw [Qdb]
  exact ZU _ (Ya P.y).1 (Ya P.y).2
theorem QcA (a : FF) : ofI (a.val : Int) = a := FD (by rw [U3, Int.emod_eq_of_lt (X9 a).1 (X9 a).2])
theorem U6 (P : Pt) : yF (Q9 P) = P.y := by unfold yF; rw [D7, QcA]
theorem D8 (P : Pt) : odB (Q9 P) = decide ((P.x.val : Int) % 2 = 1) := by
  have ht := Jn P.y
  unfold odB
  rw [FI]
  exact decide_eq_decide.2 (by omega)
theorem QbD (P : Pt) : uF P.y = P.x * P.x := by
  have hi := Zt (QfT P.y)
  have ho := P.on
  unfold On at ho
  unfold uF
  generalize Xq (P.y*P.y*dF + 1) = f at *
  grobner
theorem ED (a : FF) : okF (a * a) = true := by
  unfold okF
  rw [val_mul]
  exact QaY _
theorem Qev (u : FF) : ((rF u).val : Int) % 2 = 0 := by rw [Gw]; exact Qeu _
theorem QfI (a : FF) : rF (a * a) = a \/ rF (a * a) = -a := by
  have h := Qb8 (ED a)
  generalize rF (a * a) = r at *
  have h2 : (r - a) * (r + a) = 0 := by grobner
  rcases Km h2 with h3 | h3
  . left; grobner
  . right; grobner
theorem QeL {a : FF} (h : a ≠ 0) : ((-a).val : Int) = pV - (a.val : Int) := by
  have hv := X9 a
  have h0 : (a.val : Int) ≠ 0 := fun e => h (FD (by rw [e]; decide +kernel))
  rw [US, show 0 - (a.val : Int) = (pV - (a.val : Int)) + pV * (-1) by omega, Int.add_mul_emod_self_left, Int.emod_eq_of_lt (by omega) (by omega)]
theorem Qgo : pV % 2 = 1 := by decide +kernel
theorem GS (P : Pt) : ZB (Q9 P) := by
  refine ⟨by rw [D7]; exact (X9 _).2, by rw [U6, QbD]; exact ED _, ?_⟩
  rintro ⟨h1, h2⟩
  rw [D8] at h1
  unfold Kh at h2
  rw [U6, QbD] at h2
  have h3 := Qb8 (ED P.x)
  rw [h2] at h3
  have h4 : P.x * P.x = 0 := by rw [<- h3]; grobner
  have h5 : P.x = 0 := (Km h4).elim id id
  rw [h5] at h1
  exact absurd h1 (by decide +kernel)
theorem Qe4 (P : Pt) : xF (Q9 P) = P.x := by
  have he := Qev (P.x * P.x)
  have ho := Qgo
  unfold xF Kh
  rw [D8, U6, QbD]
  by_cases h0 : P.x = 0
  . rw [h0] at he ⊢
    rw [decide_eq_false (show ¬ (((0 : FF).val : Nat) : Int) % 2 = 1 by decide +kernel)]
    rcases QfI 0 with h | h
    . exact h
    . refine Eq.trans h ?_
      decide +kernel
  . have hn := QeL h0
    rcases QfI P.x with h | h
    . rw [h] at he ⊢
      rw [decide_eq_false (show ¬ (P.x.val : Int) % 2 = 1 by omega)]
      rfl
    . rw [h] at he ⊢
      rw [hn] at he
      rw [decide_eq_true (show (P.x.val : Int) % 2 = 1 by omega)]
      show - -P.x = P.x
      grobner
/-- A point's bytes are that point's. -/
theorem Qaa (P : Pt) (h : ZB (Q9 P)) : KI (Q9 P) h = P := Pt.ext (Qe4 P) (U6 P)
theorem XX (P : Pt) : Qd (Q9 P) := by
  rw [VX]
  have ht := Jn P.y
  intro x hx
  rcases List.mem_or_eq_of_mem_set hx with h1 | h1
  . exact XS _ x h1
  . omega
theorem Qbe (P : Pt) : FH (P.x.val : Int) (P.y.val : Int) = Q9 P := by
  unfold FH Q9
  split
  . have e : (QE (P.y.val : Int)).getD 31 0 = Qb (QE (P.y.val : Int)) 31 := by simp [Qb]
    rw [e, QhF (Jn P.y)]
  . rfl
theorem Jw {x y : List Int} {P : Pt} (hx : QH x (P.x.val : Int)) (hy : QH y (P.y.val : Int)) : PV Tryd.prog gT 39 [pl x y] (.a .u8 (Q9 P) 32) := by
  rw [<- Qbe]; exact Qcn hx hy
def bxL : List Int := [1738742601995546, 1146398526822698, 2070867633025821, 562264141797630, 587772402128613]
def byL : List Int := [1801439850948184, 1351079888211148, 450359962737049, 900719925474099, 1801439850948198]
theorem DZ : GL Tryd.prog gT 67 0 (pl bxL byL) := GL.of Qh (GO V6) gT2 rfl (Yp rfl) rfl (Nat.lt_of_lt_of_le Nat.zero_lt_one (Nat.le_add_right 1 _)) rfl
theorem Qfm : QH bxL (bP.x.val : Int) := ⟨rfl, XO (by omega) (by omega) (by omega) (by omega) (by omega), by decide +kernel⟩
theorem Qfl : QH byL (bP.y.val : Int) := ⟨rfl, XO (by omega) (by omega) (by omega) (by omega) (by omega), by decide +kernel⟩
theorem Qal : ∃ r, QdO r bP /\ PV Tryd.prog gT 34 [pl bxL byL] (fp r) := YK Qfm Qfl
theorem De {k : List Int} (hk : Qd k) (hl : k.length = 32) : PV Tryd.prog gT 19 [.a .u8 k 32] (.a .u8 (Q9 (Qs (kB k) bP)) 32) := by
  obtain ⟨rb, hb, hB⟩ := Qal
  obtain ⟨r, hr, hM⟩ := QeP hk hl hb.1
  obtain ⟨x, y, hx, hy, hF⟩ := EP hr
  have hY := Jw hx hy
  have hel := QF (Qs (kB k) bP)
  have hbl := hb.1.len
  have gb := DZ
  generalize Q9 (Qs (kB k) bP) = E at *
  refine PV.mk' Tryd.func19 rfl rfl rfl rfl fun w L hL hG => ?_
  clear hx hy hr hb
  refine S.enter Qh [.a .u8 k 32] gT Tryd.func19 rfl rfl rfl (fun _ => rfl) hL hG ?_
  refine S.go false rfl (by repeat' (first | exact True.intro | refine And.intro ?_ ?_ | assumption | omega | (dsimp only; omega) | (simp only [Nat.add_eq, Nat.mul_eq, Nat.sub_eq, SV.wd]; omega) | exact rfl)) ?_
  have hM' := hM 3 6
  refine S.drq false [(2, pl bxL byL), (3, fp rb), (5, fp r), (6, pl x y), (7, .a .u8 E 32)] [(5, [3, 6])] rfl rfl rfl ?_ (by repeat' (first | exact True.intro | refine And.intro ?_ ?_ | assumption | omega | (dsimp only; omega) | (simp only [Nat.add_eq, Nat.mul_eq, Nat.sub_eq, SV.wd]; omega) | exact rfl))
  refine S.g false rfl ?_
  exact S.retv rfl rfl rfl rfl rfl
theorem Qgz {l : List Int} {P : Pt} (hp : QdO l P) : ∃ r, XL r (X6 P) /\ ∀ q, PR Tryd.prog gT 32 [.y q 0 1 1] [(q, [.a .u64 l 20])] (fp r) := by
  obtain ⟨hP, x, y, z, t, rfl, hx, hy⟩ := hp
  obtain ⟨nx, kn, H1⟩ := Qcj (y := y) hx
  rw [<- US] at kn
  obtain ⟨r, hr, H2⟩ := YK (P := X6 P) kn hy
  have hrl := hr.1.len
  refine ⟨r, hr.1, fun q => PR.mk' Tryd.func32 rfl rfl rfl fun ρ w hG hm => ?_⟩
  obtain ⟨b1, -⟩ := hm _ (.head _)
  have r1 := X8.rows (s := 20) (rows := [(l20 x y z t).map (Value.int .u64)]) (by simpa [Qg, SV.cs] using b1) (by omega) (by simp [DT]) (by simp [maxLen])
  clear kn hr hx hy hP
  refine S.enter Qh [.o (some ⟨ρ.b q, 0, none⟩) 1 1] (gT ++ [fR 20 (.slice (some ⟨ρ.b q, 0, none⟩) 1 1) [(l20 x y z t).map (Value.int .u64)]]) Tryd.func32 rfl rfl rfl (fun _ => by simp only [Qt, SV.den]) (LL.none w) (hG.app ⟨r1, trivial⟩) ?_
  refine S.slc 0 [.a .u64 (l20 x y z t) 20] rfl (fun ρ w h => h.f gTn rfl) (by simp [Qg, SV.cs]) (by simp [X2, SV.wd]) ?_ ⟨rfl, trivial⟩
  refine S.go false rfl (by repeat' (first | exact True.intro | refine And.intro ?_ ?_ | assumption | omega | (dsimp only; omega) | (simp only [Nat.add_eq, Nat.mul_eq, Nat.sub_eq, SV.wd]; omega) | exact rfl)) ?_
  refine S.rd 6 (pl x y) rfl (fun _ => rfl) ?_
  refine S.cv rfl rfl rfl rfl rfl rfl H1 ?_
  refine S.g false rfl ?_
  refine S.cv rfl rfl rfl rfl rfl rfl H2 ?_
  refine S.go false rfl (by repeat' (first | exact True.intro | refine And.intro ?_ ?_ | assumption | omega | (dsimp only; omega) | (simp only [Nat.add_eq, Nat.mul_eq, Nat.sub_eq, SV.wd]; omega) | exact rfl)) ?_
  exact S.retv rfl rfl rfl rfl rfl
theorem QgC {l a b : List Int} {P : Pt} (ha : Qd a) (hal : a.length = 32) (hb : Qd b) (hbl : b.length = 32) (hp : XL l P) : ∃ r, XL r (Ql (Qs (kB a) P) (Qs (kB b) bP)) /\ ∀ B1 B2 q, PR Tryd.prog (gT ++ [fG B1 (a.map (Value.int .u8)), fG B2 (b.map (Value.int .u8))]) 35 [.y q 0 1 1, .v (.pointer (some ⟨B1, 0, none⟩)), .v (.pointer (some ⟨B2, 0, none⟩))] [(q, [.a .u64 l 20])] (fp r) := by
  obtain ⟨rb, hrb, hB⟩ := Qal
  obtain ⟨r, hr, hM⟩ := QeO ha hal hp hb hbl hrb.1
  have hll := hp.len
  have hbbl := hrb.1.len
  have hrl := hr.len
  have gb := DZ
  refine ⟨r, hr, fun B1 B2 q => PR.mk' Tryd.func35 rfl rfl rfl fun ρ w hG hm => ?_⟩
  obtain ⟨b1, -⟩ := hm _ (.head _)
  have r1 := X8.rows (s := 20) (rows := [l.map (Value.int .u64)]) (by simpa [Qg, SV.cs] using b1) (by omega) (by simp [hll]) (by simp [maxLen])
  clear hr hrb hp
  refine S.enter Qh [.o (some ⟨ρ.b q, 0, none⟩) 1 1, .v (.pointer (some ⟨B1, 0, none⟩)), .v (.pointer (some ⟨B2, 0, none⟩))] ((gT ++ [fG B1 (a.map (Value.int .u8)), fG B2 (b.map (Value.int .u8))]) ++ [fR 20 (.slice (some ⟨ρ.b q, 0, none⟩) 1 1) [l.map (Value.int .u64)]]) Tryd.func35 rfl rfl rfl (fun _ => by simp only [Qt, SV.den]) (LL.none w) (hG.app ⟨r1, trivial⟩) ?_
  refine S.slc 0 [.a .u64 l 20] rfl (fun ρ w h => h.f (gTn + 2) rfl) (by simp [Qg, SV.cs]) (by simp [X2, SV.wd]) ?_ ⟨hll, trivial⟩
  refine S.data 1 [.a .u8 a 32] rfl (fun ρ w h => by have := h.g gTn rfl; simpa [Qg, SV.cs] using this) ?_ rfl ⟨hal, trivial⟩ (by simp [X2, SV.wd])
  refine S.data 2 [.a .u8 b 32] rfl (fun ρ w h => by have := h.g (gTn + 1) rfl; simpa [Qg, SV.cs] using this) ?_ rfl ⟨hbl, trivial⟩ (by simp [X2, SV.wd])
  refine S.go false rfl (by repeat' (first | exact True.intro | refine And.intro ?_ ?_ | assumption | omega | (dsimp only; omega) | (simp only [Nat.add_eq, Nat.mul_eq, Nat.sub_eq, SV.wd]; omega) | exact rfl)) ?_
  have hM' := hM 6 12
  refine S.drq (G := gT) false [(6, pl bxL byL), (7, fp rb), (9, fp r)] [(9, [6, 12])] rfl rfl rfl ?_ (by repeat' (first | exact True.intro | refine And.intro ?_ ?_ | assumption | omega | (dsimp only; omega) | (simp only [Nat.add_eq, Nat.mul_eq, Nat.sub_eq, SV.wd]; omega) | exact rfl)) (hG := fun _ _ h => h.pre.pre)
  refine S.g false rfl ?_
  exact S.retv rfl rfl rfl rfl rfl
/-- made, where the bytes are a point's. -/
theorem QcO {G' : List Qv} (hGg : ∀ L W, Hs G' L W -> Hs gT L W)  {b : List Int} (hl : b.length = 32) {l : List Int} (hll : l.length = 20) (H0 : PV Tryd.prog gT 61 [.a .u8 b 32] (.t [fp l, .l true])) {r : List Int} {Q : Pt} (hr : XL r Q) (hC : ∀ q, PR Tryd.prog G' 32 [.y q 0 1 1] [(q, [.a .u64 l 20])] (fp r)) (w : World) (B : Nat) (hG : Hs G' [] w) (r1 : Hb 32 [] w (.slice (some ⟨B, 0, none⟩) 1 1) [b.map (Value.int .u8)]) :
    CX Tryd.prog 31 (Qt Qu [.f 32 [], .o (some ⟨B, 0, none⟩) 1 1]) w [] (fun _ : Unit => .t [.a .u8 (Q9 Q) 32, .i .i64 0]) (fun _ => []) (fun _ => True) := by
  obtain ⟨x, y, hx, hy, hF⟩ := EP hr
  have hY := Jw hx hy
  have hel := QF Q
  generalize Q9 Q = E at *
  clear hx hy hr
  refine S.enter Qh [.f 32 [], .o (some ⟨B, 0, none⟩) 1 1] (G' ++ [fR 32 (.slice (some ⟨B, 0, none⟩) 1 1) [b.map (Value.int .u8)]]) Tryd.func31 rfl rfl rfl (fun _ => rfl) (LL.none w) (hG.app ⟨r1, trivial⟩) ?_
  refine S.slc 1 (s := 32) (rs := [b.map (Value.int .u8)]) [.a .u8 b 32] rfl (fun ρ w h => h.f (φ := fR 32 (.slice (some ⟨B, 0, none⟩) 1 1) [b.map (Value.int .u8)]) G'.length (by simp)) (by simp [Qg, SV.cs]) (by simp [X2, SV.wd]) ?_ ⟨hl, trivial⟩
  refine S.g false rfl ?_
  refine S.make 1 rfl rfl rfl rfl (s := 20) (bytes := 160) (by kernel_rfl) rfl rfl rfl rfl rfl (by omega) (by omega) ?_
  refine S.g false rfl ?_
  refine S.rd 16 (.lit .i64 0) rfl (fun _ => rfl) ?_
  refine S.rounds 1 ?_
  refine S.g false rfl ?_
  refine S.condT rfl (by omega) ?_
  refine S.go false rfl (by repeat' (first | exact True.intro | refine And.intro ?_ ?_ | assumption | omega | (dsimp only; omega) | (simp only [Nat.add_eq, Nat.mul_eq, Nat.sub_eq, SV.wd]; omega) | exact rfl)) ?_
  refine S.cv rfl rfl rfl rfl rfl rfl H0 ?_ (hG := fun _ _ h => hGg _ _ h.pre)
  refine S.go false rfl (by repeat' (first | exact True.intro | refine And.intro ?_ ?_ | assumption | omega | (dsimp only; omega) | (simp only [Nat.add_eq, Nat.mul_eq, Nat.sub_eq, SV.wd]; omega) | exact rfl)) ?_
  refine S.next ?_
  refine S.g false rfl ?_
  refine S.condF rfl (by omega) ?_
  refine S.g false rfl ?_
  refine S.cr [2] rfl rfl rfl rfl rfl rfl rfl (hC 2) ?_
  refine S.g false rfl ?_
  refine S.cv rfl rfl rfl rfl rfl rfl hF ?_ (hG := fun _ _ h => hGg _ _ h.pre)
  refine S.g false rfl ?_
  refine S.cv rfl rfl rfl rfl rfl rfl hY ?_ (hG := fun _ _ h => hGg _ _ h.pre)
  refine S.go false rfl (by repeat' (first | exact True.intro | refine And.intro ?_ ?_ | assumption | omega | (dsimp only; omega) | (simp only [Nat.add_eq, Nat.mul_eq, Nat.sub_eq, SV.wd]; omega) | exact rfl)) ?_
  exact S.rett rfl rfl rfl rfl rfl
theorem Qa4 {G' : List Qv} (hGg : ∀ L W, Hs G' L W -> Hs gT L W)  {b : List Int} (hl : b.length = 32) (H0 : PV Tryd.prog gT 61 [.a .u8 b 32] (.t [fp z20, .l false])) (w : World) (B : Nat) (hG : Hs G' [] w) (r1 : Hb 32 [] w (.slice (some ⟨B, 0, none⟩) 1 1) [b.map (Value.int .u8)]) :
    CX Tryd.prog 31 (Qt Qu [.f 32 [], .o (some ⟨B, 0, none⟩) 1 1]) w [] (fun _ : Unit => .t [.a .u8 (List.replicate 32 0) 32, .i .i64 1]) (fun _ => []) (fun _ => True) := by
  refine S.enter Qh [.f 32 [], .o (some ⟨B, 0, none⟩) 1 1] (G' ++ [fR 32 (.slice (some ⟨B, 0, none⟩) 1 1) [b.map (Value.int .u8)]]) Tryd.func31 rfl rfl rfl (fun _ => rfl) (LL.none w) (hG.app ⟨r1, trivial⟩) ?_
  refine S.slc 1 (s := 32) (rs := [b.map (Value.int .u8)]) [.a .u8 b 32] rfl (fun ρ w h => h.f (φ := fR 32 (.slice (some ⟨B, 0, none⟩) 1 1) [b.map (Value.int .u8)]) G'.length (by simp)) (by simp [Qg, SV.cs]) (by simp [X2, SV.wd]) ?_ ⟨hl, trivial⟩
  refine S.g false rfl ?_
  refine S.make 1 rfl rfl rfl rfl (s := 20) (bytes := 160) (by kernel_rfl) rfl rfl rfl rfl rfl (by omega) (by omega) ?_
  refine S.g false rfl ?_
  refine S.rd 16 (.lit .i64 0) rfl (fun _ => rfl) ?_
  refine S.rounds 1 ?_
  refine S.g false rfl ?_
  refine S.condT rfl (by omega) ?_
  refine S.go false rfl (by repeat' (first | exact True.intro | refine And.intro ?_ ?_ | assumption | omega | (dsimp only; omega) | (simp only [Nat.add_eq, Nat.mul_eq, Nat.sub_eq, SV.wd]; omega) | exact rfl)) ?_
  refine S.cv rfl rfl rfl rfl rfl rfl H0 ?_ (hG := fun _ _ h => hGg _ _ h.pre)
  refine S.go false rfl (by repeat' (first | exact True.intro | refine And.intro ?_ ?_ | assumption | omega | (dsimp only; omega) | (simp only [Nat.add_eq, Nat.mul_eq, Nat.sub_eq, SV.wd]; omega) | exact rfl)) ?_
  exact S.rett rfl rfl rfl rfl rfl
/-- made, where the bytes are a point's. -/
theorem QcP {G' : List Qv} (hGg : ∀ L W, Hs G' L W -> Hs gT L W) {B1 B2 : Nat} {b : List Int} (hl : b.length = 32) {l : List Int} (hll : l.length = 20) (H0 : PV Tryd.prog gT 61 [.a .u8 b 32] (.t [fp l, .l true])) {r : List Int} {Q : Pt} (hr : XL r Q) (hC : ∀ q, PR Tryd.prog G' 35 [.y q 0 1 1, .v (.pointer (some ⟨B1, 0, none⟩)), .v (.pointer (some ⟨B2, 0, none⟩))] [(q, [.a .u64 l 20])] (fp r)) (w : World) (B : Nat) (hG : Hs G' [] w) (r1 : Hb 32 [] w (.slice (some ⟨B, 0, none⟩) 1 1) [b.map (Value.int .u8)]) :
    CX Tryd.prog 31 (Qt Qu [.f 35 [.v (.pointer (some ⟨B1, 0, none⟩)), .v (.pointer (some ⟨B2, 0, none⟩))], .o (some ⟨B, 0, none⟩) 1 1]) w [] (fun _ : Unit => .t [.a .u8 (Q9 Q) 32, .i .i64 0]) (fun _ => []) (fun _ => True) := by
  obtain ⟨x, y, hx, hy, hF⟩ := EP hr
  have hY := Jw hx hy
  have hel := QF Q
  generalize Q9 Q = E at *
  clear hx hy hr
  refine S.enter Qh [.f 35 [.v (.pointer (some ⟨B1, 0, none⟩)), .v (.pointer (some ⟨B2, 0, none⟩))], .o (some ⟨B, 0, none⟩) 1 1] (G' ++ [fR 32 (.slice (some ⟨B, 0, none⟩) 1 1) [b.map (Value.int .u8)]]) Tryd.func31 rfl rfl rfl (fun _ => rfl) (LL.none w) (hG.app ⟨r1, trivial⟩) ?_
  refine S.slc 1 (s := 32) (rs := [b.map (Value.int .u8)]) [.a .u8 b 32] rfl (fun ρ w h => h.f (φ := fR 32 (.slice (some ⟨B, 0, none⟩) 1 1) [b.map (Value.int .u8)]) G'.length (by simp)) (by simp [Qg, SV.cs]) (by simp [X2, SV.wd]) ?_ ⟨hl, trivial⟩
  refine S.g false rfl ?_
  refine S.make 1 rfl rfl rfl rfl (s := 20) (bytes := 160) (by kernel_rfl) rfl rfl rfl rfl rfl (by omega) (by omega) ?_
  refine S.g false rfl ?_
  refine S.rd 16 (.lit .i64 0) rfl (fun _ => rfl) ?_
  refine S.rounds 1 ?_
  refine S.g false rfl ?_
  refine S.condT rfl (by omega) ?_
  refine S.go false rfl (by repeat' (first | exact True.intro | refine And.intro ?_ ?_ | assumption | omega | (dsimp only; omega) | (simp only [Nat.add_eq, Nat.mul_eq, Nat.sub_eq, SV.wd]; omega) | exact rfl)) ?_
  refine S.cv rfl rfl rfl rfl rfl rfl H0 ?_ (hG := fun _ _ h => hGg _ _ h.pre)
  refine S.go false rfl (by repeat' (first | exact True.intro | refine And.intro ?_ ?_ | assumption | omega | (dsimp only; omega) | (simp only [Nat.add_eq, Nat.mul_eq, Nat.sub_eq, SV.wd]; omega) | exact rfl)) ?_
  refine S.next ?_
  refine S.g false rfl ?_
  refine S.condF rfl (by omega) ?_
  refine S.g false rfl ?_
  refine S.cr [2] rfl rfl rfl rfl rfl rfl rfl (hC 2) ?_
  refine S.g false rfl ?_
  refine S.cv rfl rfl rfl rfl rfl rfl hF ?_ (hG := fun _ _ h => hGg _ _ h.pre)
  refine S.g false rfl ?_
  refine S.cv rfl rfl rfl rfl rfl rfl hY ?_ (hG := fun _ _ h => hGg _ _ h.pre)
  refine S.go false rfl (by repeat' (first | exact True.intro | refine And.intro ?_ ?_ | assumption | omega | (dsimp only; omega) | (simp only [Nat.add_eq, Nat.mul_eq, Nat.sub_eq, SV.wd]; omega) | exact rfl)) ?_
  exact S.rett rfl rfl rfl rfl rfl
theorem Qa5 {G' : List Qv} (hGg : ∀ L W, Hs G' L W -> Hs gT L W) {B1 B2 : Nat} {b : List Int} (hl : b.length = 32) (H0 : PV Tryd.prog gT 61 [.a .u8 b 32] (.t [fp z20, .l false])) (w : World) (B : Nat) (hG : Hs G' [] w) (r1 : Hb 32 [] w (.slice (some ⟨B, 0, none⟩) 1 1) [b.map (Value.int .u8)]) :
    CX Tryd.prog 31 (Qt Qu [.f 35 [.v (.pointer (some ⟨B1, 0, none⟩)), .v (.pointer (some ⟨B2, 0, none⟩))], .o (some ⟨B, 0, none⟩) 1 1]) w [] (fun _ : Unit => .t [.a .u8 (List.replicate 32 0) 32, .i .i64 1]) (fun _ => []) (fun _ => True) := by
  refine S.enter Qh [.f 35 [.v (.pointer (some ⟨B1, 0, none⟩)), .v (.pointer (some ⟨B2, 0, none⟩))], .o (some ⟨B, 0, none⟩) 1 1] (G' ++ [fR 32 (.slice (some ⟨B, 0, none⟩) 1 1) [b.map (Value.int .u8)]]) Tryd.func31 rfl rfl rfl (fun _ => rfl) (LL.none w) (hG.app ⟨r1, trivial⟩) ?_
  refine S.slc 1 (s := 32) (rs := [b.map (Value.int .u8)]) [.a .u8 b 32] rfl (fun ρ w h => h.f (φ := fR 32 (.slice (some ⟨B, 0, none⟩) 1 1) [b.map (Value.int .u8)]) G'.length (by simp)) (by simp [Qg, SV.cs]) (by simp [X2, SV.wd]) ?_ ⟨hl, trivial⟩
  refine S.g false rfl ?_
  refine S.make 1 rfl rfl rfl rfl (s := 20) (bytes := 160) (by kernel_rfl) rfl rfl rfl rfl rfl (by omega) (by omega) ?_
  refine S.g false rfl ?_
  refine S.rd 16 (.lit .i64 0) rfl (fun _ => rfl) ?_
  refine S.rounds 1 ?_
  refine S.g false rfl ?_
  refine S.condT rfl (by omega) ?_
  refine S.go false rfl (by repeat' (first | exact True.intro | refine And.intro ?_ ?_ | assumption | omega | (dsimp only; omega) | (simp only [Nat.add_eq, Nat.mul_eq, Nat.sub_eq, SV.wd]; omega) | exact rfl)) ?_
  refine S.cv rfl rfl rfl rfl rfl rfl H0 ?_ (hG := fun _ _ h => hGg _ _ h.pre)
  refine S.go false rfl (by repeat' (first | exact True.intro | refine And.intro ?_ ?_ | assumption | omega | (dsimp only; omega) | (simp only [Nat.add_eq, Nat.mul_eq, Nat.sub_eq, SV.wd]; omega) | exact rfl)) ?_
  exact S.rett rfl rfl rfl rfl rfl
/-- What Neg gives. -/
theorem QhI {b : List Int} (hb : Qd b) (hl : b.length = 32) : (∀ h : ZB b, PV Tryd.prog gT 15 [.a .u8 b 32] (.t [.a .u8 (Q9 (X6 (KI b h))) 32, .i .i64 0])) /\ (¬ ZB b -> PV Tryd.prog gT 15 [.a .u8 b 32] (.t [.a .u8 (List.replicate 32 0) 32, .i .i64 1])) := by
  have key : ∀ (o : List Int) (e : Int), o.length = 32 -> (∀ w B, Hs gT [] w -> Hb 32 [] w (.slice (some ⟨B, 0, none⟩) 1 1) [b.map (Value.int .u8)] -> CX Tryd.prog 31 (Qt Qu [.f 32 [], .o (some ⟨B, 0, none⟩) 1 1]) w [] (fun _ : Unit => .t [.a .u8 o 32, .i .i64 e]) (fun _ => []) (fun _ => True)) -> PV Tryd.prog gT 15 [.a .u8 b 32] (.t [.a .u8 o 32, .i .i64 e]) := fun o e hol H => by
    have HP : PR Tryd.prog gT 31 [.f 32 [], .y 2 0 1 1] [(2, [.a .u8 b 32])] (.t [.a .u8 o 32, .i .i64 e]) := PR.mk' Tryd.func31 rfl rfl rfl fun ρ w hG hm => by
      obtain ⟨b1, -⟩ := hm _ (.head _)
      have r1 := X8.rows (s := 32) (rows := [b.map (Value.int .u8)]) (by simpa [Qg, SV.cs] using b1) (by omega) (by simp [hl]) (by simp [maxLen])
      have := H w (ρ.b 2) hG r1
      simpa only [Qt, SV.den] using this
    refine PV.mk' Tryd.func15 rfl rfl rfl rfl fun w L hL hG => ?_
    refine S.enter Qh [.a .u8 b 32] gT Tryd.func15 rfl rfl rfl (fun _ => rfl) hL hG ?_
    refine S.go false rfl (by repeat' (first | exact True.intro | refine And.intro ?_ ?_ | assumption | omega | (dsimp only; omega) | (simp only [Nat.add_eq, Nat.mul_eq, Nat.sub_eq, SV.wd]; omega) | exact rfl)) ?_
    refine S.cr [2] rfl rfl rfl rfl rfl rfl rfl HP ?_
    refine S.go false rfl (by repeat' (first | exact True.intro | refine And.intro ?_ ?_ | assumption | omega | (dsimp only; omega) | (simp only [Nat.add_eq, Nat.mul_eq, Nat.sub_eq, SV.wd]; omega) | exact rfl)) ?_
    exact S.rett rfl rfl rfl rfl rfl
  obtain ⟨l1, l2⟩ := QcU hb hl
  refine ⟨fun h => ?_, fun h => ?_⟩
  . obtain ⟨r, hr, H0⟩ := l1 h
    obtain ⟨s, hs, H1⟩ := Qgz hr
    exact key _ _ (QF _) fun w B hG r1 => QcO (fun _ _ h => h) hl hr.1.len H0 hs H1 w B hG r1
  . exact key _ _ rfl fun w B hG r1 => Qa4 (fun _ _ h => h) hl (l2 h) w B hG r1
/-- What Mix gives. -/
theorem QhK {a b p : List Int} (ha : Qd a) (hal : a.length = 32) (hb : Qd b) (hbl : b.length = 32) (hp : Qd p) (hpl : p.length = 32) : (∀ h : ZB p, PV Tryd.prog gT 16 [.a .u8 a 32, .a .u8 p 32, .a .u8 b 32] (.t [.a .u8 (Q9 (Ql (Qs (kB a) (KI p h)) (Qs (kB b) bP))) 32, .i .i64 0])) /\ (¬ ZB p -> PV Tryd.prog gT 16 [.a .u8 a 32, .a .u8 p 32, .a .u8 b 32] (.t [.a .u8 (List.replicate 32 0) 32, .i .i64 1])) := by
  have key : ∀ (o : List Int) (e : Int), o.length = 32 -> (∀ w B1 B2 B, Hs (gT ++ [fG B1 (a.map (Value.int .u8)), fG B2 (b.map (Value.int .u8))]) [] w -> Hb 32 [] w (.slice (some ⟨B, 0, none⟩) 1 1) [p.map (Value.int .u8)] -> CX Tryd.prog 31 (Qt Qu [.f 35 [.v (.pointer (some ⟨B1, 0, none⟩)), .v (.pointer (some ⟨B2, 0, none⟩))], .o (some ⟨B, 0, none⟩) 1 1]) w [] (fun _ : Unit => .t [.a .u8 o 32, .i .i64 e]) (fun _ => []) (fun _ => True)) -> PV Tryd.prog gT 16 [.a .u8 a 32, .a .u8 p 32, .a .u8 b 32] (.t [.a .u8 o 32, .i .i64 e]) := fun o e hol H => by
    have HP : PR Tryd.prog gT 31 [.f 35 [.p 0 0, .p 2 0], .y 4 0 1 1] [(0, [.a .u8 a 32]), (2, [.a .u8 b 32]), (4, [.a .u8 p 32])] (.t [.a .u8 o 32, .i .i64 e]) := PR.mk' Tryd.func31 rfl rfl rfl fun ρ w hG hm => by
      obtain ⟨b1, -⟩ := hm _ (.head _)
      obtain ⟨b2, -⟩ := hm _ (.tail _ (.head _))
      obtain ⟨b3, -⟩ := hm _ (.tail _ (.tail _ (.head _)))
      simp only [Qg, SV.cs, List.append_nil] at b1 b2 b3
      have r1 := X8.rows (s := 32) (rows := [p.map (Value.int .u8)]) (by simpa using b3) (by omega) (by simp [hpl]) (by simp [maxLen])
      have := H w (ρ.b 0) (ρ.b 2) (ρ.b 4) (hG.app ⟨⟨by simp, b1.lt, b1.range⟩, ⟨by simp, b2.lt, b2.range⟩, trivial⟩) r1
      simpa only [Qt, SV.den] using this
    refine PV.mk' Tryd.func16 rfl rfl rfl rfl fun w L hL hG => ?_
    refine S.enter Qh [.a .u8 a 32, .a .u8 p 32, .a .u8 b 32] gT Tryd.func16 rfl rfl rfl (fun _ => rfl) hL hG ?_
    refine S.go false rfl (by repeat' (first | exact True.intro | refine And.intro ?_ ?_ | assumption | omega | (dsimp only; omega) | (simp only [Nat.add_eq, Nat.mul_eq, Nat.sub_eq, SV.wd]; omega) | exact rfl)) ?_
    refine S.cr [0, 2, 4] rfl rfl rfl rfl rfl rfl rfl HP ?_
    refine S.go false rfl (by repeat' (first | exact True.intro | refine And.intro ?_ ?_ | assumption | omega | (dsimp only; omega) | (simp only [Nat.add_eq, Nat.mul_eq, Nat.sub_eq, SV.wd]; omega) | exact rfl)) ?_
    exact S.rett rfl rfl rfl rfl rfl
  obtain ⟨l1, l2⟩ := QcU hp hpl
  refine ⟨fun h => ?_, fun h => ?_⟩
  . obtain ⟨r, hr, H0⟩ := l1 h
    obtain ⟨s, hs, H1⟩ := QgC ha hal hb hbl hr.1
    exact key _ _ (QF _) fun w B1 B2 B hG r1 => QcP (fun _ _ h => h.pre) hpl hr.1.len H0 hs (fun q => H1 B1 B2 q) w B hG r1
  . exact key _ _ rfl fun w B1 B2 B hG r1 => Qa5 (fun _ _ h => h.pre) hpl (l2 h) w B hG r1
def YI (x s : Int) : Int := bits BinOp.or .u64 (x * 2 ^ s.toNat % 18446744073709551616) (x / 2 ^ (64 - s).toNat)
def Xp (x : Int) : Prop := 0 <= x /\ x < 18446744073709551616
theorem Xu (x k : Int) (w : World) (hx : Xp x) (s : Int) (hs : bits BinOp.and .u64 (IntKind.u64.wrap k) 63 = s) (h0 : 0 <= s) (h1 : s < 64) :
    Calls Tryd.prog 43 #[.int .u64 x, .int .i64 k] w fun e w' => e = .returned (.int .u64 (YI x s)) /\ w' = w := by
  obtain ⟨hx0, hx1⟩ := hx
  go_enter Tryd.func43, Tryd.ntmps43
  go_wp2
  go_ret
  exact ⟨rfl, rfl⟩
def QdH (x : Int) : Int := bits BinOp.xor .u64 (bits BinOp.xor .u64 (YI x 36) (YI x 30)) (YI x 25)
theorem QdG (x : Int) (w : World) (hx : Xp x) : Calls Tryd.prog 42 #[.int .u64 x] w fun e w' => e = .returned (.int .u64 (QdH x)) /\ w' = w := by
  have hx' := hx
  obtain ⟨hx0, hx1⟩ := hx'
  go_enter Tryd.func42, Tryd.ntmps42
  go_wp2_with (first
    | (go_at_call 43; first | (with_reducible refine (Xu x (-28) _ hx 36 (by decide) (by decide) (by decide)).mono ?_; rintro e w1 ⟨rfl, rfl⟩) | (with_reducible refine (Xu x (-34) _ hx 30 (by decide) (by decide) (by decide)).mono ?_; rintro e w2 ⟨rfl, rfl⟩) | (with_reducible refine (Xu x (-39) _ hx 25 (by decide) (by decide) (by decide)).mono ?_; rintro e w3 ⟨rfl, rfl⟩)))
  go_ret
  exact ⟨rfl, rfl⟩
def QdF (x : Int) : Int := bits BinOp.xor .u64 (bits BinOp.xor .u64 (YI x 50) (YI x 46)) (YI x 23)
theorem QdE (x : Int) (w : World) (hx : Xp x) : Calls Tryd.prog 44 #[.int .u64 x] w fun e w' => e = .returned (.int .u64 (QdF x)) /\ w' = w := by
  have hx' := hx
  obtain ⟨hx0, hx1⟩ := hx'
  go_enter Tryd.func44, Tryd.ntmps44
  go_wp2_with (first
    | (go_at_call 43; first | (with_reducible refine (Xu x (-14) _ hx 50 (by decide) (by decide) (by decide)).mono ?_; rintro e w1 ⟨rfl, rfl⟩) | (with_reducible refine (Xu x (-18) _ hx 46 (by decide) (by decide) (by decide)).mono ?_; rintro e w2 ⟨rfl, rfl⟩) | (with_reducible refine (Xu x (-41) _ hx 23 (by decide) (by decide) (by decide)).mono ?_; rintro e w3 ⟨rfl, rfl⟩)))
  go_ret
  exact ⟨rfl, rfl⟩
def EK (x : Int) : Int := bits BinOp.xor .u64 (bits BinOp.xor .u64 (YI x 63) (YI x 56)) (x / 128)
theorem QcS (x : Int) (w : World) (hx : Xp x) : Calls Tryd.prog 45 #[.int .u64 x] w fun e w' => e = .returned (.int .u64 (EK x)) /\ w' = w := by
  have hx' := hx
  obtain ⟨hx0, hx1⟩ := hx'
  go_enter Tryd.func45, Tryd.ntmps45
  go_wp2_with (first
    | (go_at_call 43; first | (with_reducible refine (Xu x (-1) _ hx 63 (by decide) (by decide) (by decide)).mono ?_; rintro e w1 ⟨rfl, rfl⟩) | (with_reducible refine (Xu x (-8) _ hx 56 (by decide) (by decide) (by decide)).mono ?_; rintro e w2 ⟨rfl, rfl⟩)))
  go_ret
  exact ⟨rfl, rfl⟩
def EJ (x : Int) : Int := bits BinOp.xor .u64 (bits BinOp.xor .u64 (YI x 45) (YI x 3)) (x / 64)
theorem QcR (x : Int) (w : World) (hx : Xp x) : Calls Tryd.prog 46 #[.int .u64 x] w fun e w' => e = .returned (.int .u64 (EJ x)) /\ w' = w := by
  have hx' := hx
  obtain ⟨hx0, hx1⟩ := hx'
  go_enter Tryd.func46, Tryd.ntmps46
  go_wp2_with (first
    | (go_at_call 43; first | (with_reducible refine (Xu x (-19) _ hx 45 (by decide) (by decide) (by decide)).mono ?_; rintro e w1 ⟨rfl, rfl⟩) | (with_reducible refine (Xu x (-61) _ hx 3 (by decide) (by decide) (by decide)).mono ?_; rintro e w2 ⟨rfl, rfl⟩)))
  go_ret
  exact ⟨rfl, rfl⟩
/-- The block of the rounds' variable: width, count, state, four functions. -/
def QQ (w : World) (B : Nat) (st : List Int) : Prop := st.length = 8 /\ (∀ x ∈ st, Xp x) /\ ∃ t, w.heap[B]? = some (.cells ([Value.int .i64 64, Value.int .i64 80] ++ st.map (Value.int .u64) ++ [Value.func (.func 42) #[] #[], Value.func (.func 44) #[] #[], Value.func (.func 45) #[] #[], Value.func (.func 46) #[] #[]]).toArray t (0, 0))
theorem QQ.lt {w : World} {B : Nat} {st : List Int} (h : QQ w B st) : B < w.heap.size := by
  obtain ⟨_, _, t, h⟩ := h
  exact (Array.getElem?_eq_some_iff.1 h).1
theorem QQ.but {w w' : World} {B : Nat} {st : List Int} (h : QQ w B st) {row : Option Nat} (hb : w.grownBy w' row) (hr : some B ≠ row) : QQ w' B st := by
  have hl := h.lt
  obtain ⟨h1, h2, t, h⟩ := h
  exact ⟨h1, h2, t, by obtain ⟨_, _, _, _, hb5⟩ := hb; rw [hb5 B hl hr]; exact h⟩
theorem QQ.below {w w' : World} {B : Nat} {st : List Int} (h : QQ w B st) (hb : Below w.heap.size w w') : QQ w' B st := by
  have hl := h.lt
  obtain ⟨h1, h2, t, h⟩ := h
  exact ⟨h1, h2, t, by rw [hb.block B hl]; exact h⟩
theorem QQ.cell {w : World} {B : Nat} {st : List Int} (h : QQ w B st) (k : Nat) (v : Value) (hv : ([Value.int .i64 64, Value.int .i64 80] ++ st.map (Value.int .u64) ++ [Value.func (.func 42) #[] #[], Value.func (.func 44) #[] #[], Value.func (.func 45) #[] #[], Value.func (.func 46) #[] #[]])[k]? = some v) : w.cell? ⟨B, k, none⟩ = some v /\ w.frozen? ⟨B, k, none⟩ = false := by
  obtain ⟨h1, h2, t, h⟩ := h
  have hk := (List.getElem?_eq_some_iff.1 hv).1
  constructor
  . simp [World.cell?, h] at hv ⊢
    exact hv
  . simp [World.frozen?, h]
theorem QQ.width {w : World} {B : Nat} {st : List Int} (h : QQ w B st) : w.cell? ⟨B, 0, none⟩ = some (.int .i64 64) := (h.cell 0 _ rfl).1
theorem QQ.count {w : World} {B : Nat} {st : List Int} (h : QQ w B st) : w.cell? ⟨B, 1, none⟩ = some (.int .i64 80) := (h.cell 1 _ rfl).1
theorem QQ.stAt {w : World} {B : Nat} {st : List Int} (h : QQ w B st) {j : Nat} (hj : j < 8) : w.cell? ⟨B, 2 + j, none⟩ = some (.int .u64 (Qb st j)) /\ w.frozen? ⟨B, 2 + j, none⟩ = false := by
  refine h.cell (2 + j) _ ?_
  have hl := h.1
  rw [List.getElem?_append_left (by simp; omega), List.getElem?_append_right (by simp)]
  simp [Qb, show j < st.length by omega]
theorem QQ.fn {w : World} {B : Nat} {st : List Int} (h : QQ w B st) : w.cell? ⟨B, 10, none⟩ = some (.func (.func 42) #[] #[]) /\ w.cell? ⟨B, 11, none⟩ = some (.func (.func 44) #[] #[]) /\ w.cell? ⟨B, 12, none⟩ = some (.func (.func 45) #[] #[]) /\ w.cell? ⟨B, 13, none⟩ = some (.func (.func 46) #[] #[]) := by
  have hl := h.1
  refine ⟨(h.cell 10 _ ?_).1, (h.cell 11 _ ?_).1, (h.cell 12 _ ?_).1, (h.cell 13 _ ?_).1⟩ <;> simp [hl]
theorem QQ.set {w : World} {B : Nat} {st : List Int} (h : QQ w B st) {j : Nat} (hj : j < 8) {x : Int} (hx : Xp x) : QQ (w.setCell ⟨B, 2 + j, none⟩ (.int .u64 x)) B (st.set j x) := by
  obtain ⟨h1, h2, t, h⟩ := h
  refine ⟨by simp [h1], fun y hy => ?_, t, ?_⟩
  . rcases List.mem_or_eq_of_mem_set hy with k | rfl
    . exact h2 y k
    . exact hx
  . simp only [World.setCell, Array.getElem?_modify, h]
    have e : ∀ (a b v : Value) (l r : List Value), j < l.length -> ([a, b] ++ l ++ r).set (2 + j) v = [a, b] ++ l.set j v ++ r := by
      intro a b v l r hl
      rw [Nat.add_comm, List.append_assoc, List.append_assoc]
      show a :: b :: (l ++ r).set j v = a :: b :: (l.set j v ++ r)
      rw [List.set_append_left _ _ hl]
    have e2 := e (Value.int .i64 64) (Value.int .i64 80) (Value.int .u64 x) (st.map (Value.int .u64)) [Value.func (.func 42) #[] #[], Value.func (.func 44) #[] #[], Value.func (.func 45) #[] #[], Value.func (.func 46) #[] #[]] (by simp [h1, hj])
    rw [List.map_set, <- e2]
    simp
theorem QQ.stIn {w : World} {B : Nat} {st : List Int} (h : QQ w B st) (j : Nat) : Xp (Qb st j) := by
  by_cases hj : j < st.length
  . exact h.2.1 _ (Jd hj)
  . unfold Xp; simp [Qb, hj]
theorem Qab (x : Int) (w : World) (B : Nat) (st : List Int) (hr : QQ w B st) (hx : Xp x) : Calls Tryd.prog 74 #[.pointer (some ⟨B, 0, none⟩), .int .u64 x] w fun e w' => e = .returned (.int .u64 x) /\ w' = w := by
  have h0 := hr.width
  have hl := hr.lt
  obtain ⟨hx0, hx1⟩ := hx
  go_enter Tryd.func74, Tryd.ntmps74
  go_wp2
  go_ret
  exact ⟨rfl, rfl⟩
def Xh : List Int := [7640891576956012808, 13503953896175478587, 4354685564936845355, 11912009170470909681, 5840696475078001361, 11170449401992604703, 2270897969802886507, 6620516959819538809]
def Ys : List Int := [4794697086780616226, 8158064640168781261, 13096744586834688815, 16840607885511220156, 4131703408338449720, 6480981068601479193, 10538285296894168987, 12329834152419229976, 15566598209576043074, 1334009975649890238, 2608012711638119052, 6128411473006802146, 8268148722764581231, 9286055187155687089, 11230858885718282805, 13951009754708518548, 16472876342353939154, 17275323862435702243, 1135362057144423861, 2597628984639134821, 3308224258029322869, 5365058923640841347, 6679025012923562964, 8573033837759648693, 10970295158949994411, 12119686244451234320, 12683024718118986047, 13788192230050041572, 14330467153632333762, 15395433587784984357, 489312712824947311, 1452737877330783856, 2861767655752347644, 3322285676063803686, 5560940570517711597, 5996557281743188959, 7280758554555802590, 8532644243296465576, 9350256976987008742, 10552545826968843579, 11727347734174303076, 12113106623233404929, 14000437183269869457, 14369950271660146224, 15101387698204529176, 15463397548674623760, 17586052441742319658, 1182934255886127544, 1847814050463011016, 2177327727835720531, 2830643537854262169, 3796741975233480872, 4115178125766777443, 5681478168544905931, 6601373596472566643, 7507060721942968483, 8399075790359081724, 8693463985226723168, 9568029438360202098, 10144078919501101548, 10430055236837252648, 11840083180663258601, 13761210420658862357, 14299343276471374635, 14566680578165727644, 15097957966210449927, 16922976911328602910, 17689382322260857208, 500013540394364858, 748580250866718886, 1242879168328830382, 1977374033974150939, 2944078676154940804, 3659926193048069267, 4368137639120453308, 4836135668995329356, 5532061633213252278, 6448918945643986474, 6902733635092675308, 7801388544844847127]
/-- What the tables of sha hold. -/
structure Zb (w : World) : Prop where
  sq : ∀ k, k < 8 -> w.cell? ⟨1, k, none⟩ = some (.int .u64 (Qb Xh k))
  cu : ∀ k, k < 80 -> w.cell? ⟨3, k, none⟩ = some (.int .u64 (Qb Ys k))
theorem Zb.lt {w : World} (h : Zb w) : 1 < w.heap.size /\ 3 < w.heap.size := ⟨World.block_lt_of_cell? w _ (h.sq 0 (by decide)), World.block_lt_of_cell? w _ (h.cu 0 (by decide))⟩
theorem Zb.but {w w' : World} (h : Zb w) {B : Nat} (hb : w.grownBy w' (some B)) (hs : 1 ≠ B) (hc : 3 ≠ B) : Zb w' :=
  ⟨fun k hk => hb.cell (h.sq k hk) (by simpa using hs), fun k hk => hb.cell (h.cu k hk) (by simpa using hc)⟩
theorem Zb.below {w w' : World} (h : Zb w) (hb : Below w.heap.size w w') : Zb w' :=
  ⟨fun k hk => by rw [hb.cell h.lt.1]; exact h.sq k hk, fun k hk => by rw [hb.cell h.lt.2]; exact h.cu k hk⟩
theorem Ej : ∀ k, k < 8 -> Xp (Qb Xh k) := by unfold Xp; decide
theorem Qdw : ∀ k, k < 80 -> Xp (Qb Ys k) := by unfold Xp; decide
theorem XB {w w' : World} {B : Nat} (h : w.grownBy w' (some B)) (o : Nat) (v : Value) : w.grownBy (w'.setCell ⟨B, o, none⟩ v) (some B) := by
  refine ⟨h.os, h.tape, h.output, ?_, fun k hk hne => ?_⟩
  . have := h.size
    simpa [World.setCell] using this
  . rw [heap_setCell_other w' ⟨B, o, none⟩ k v (by simpa using hne)]
    exact h.block k hk hne
theorem Yq {w w' : World} {row : Option Nat} (h : w.grownBy w' row) : w.grownBy w'.drew row := ⟨h.os, h.tape, h.output, h.size, h.block⟩
def Yw : List Int := (List.range 8).map fun k => Qb Xh k
theorem Dc (k : Nat) (hk : k < 8) : Qb Yw k = Qb Xh k := by simp [Yw, Qb, hk]
theorem Qbh (w : World) (B : Nat) (st : List Int) (hr : QQ w B st) (hT : Zb w) (hs : 1 ≠ B) (hc : 3 ≠ B) :
    Calls Tryd.prog 47 #[.pointer (some ⟨B, 0, none⟩)] w fun e w' => (∃ v, e = .returned v) /\ QQ w' B Yw /\ w.grownBy w' (some B) := by
  go_enter Tryd.func47, Tryd.ntmps47
  go_wp2
  go_loopw [3] (fun i wr => ∃ (k : Nat) (st : List Int), k <= 8 /\ i = .int .i64 k /\ QQ wr B st /\ w.grownBy wr (some B) /\ ∀ k', k' < k -> Qb st k' = Qb Yw k') (fun i _ => 8 - (intOf i).toNat)
  case atStart => exact ⟨0, st, by omega, rfl, hr, World.grownBy.refl _ _, fun k' h => by omega⟩
  case round =>
    obtain ⟨k, st, hk, rfl, hr, hg, hst⟩ := hrel
    have hT' : Zb wr := hT.but hg hs hc
    have hl := hr.lt
    by_cases hlt : k < 8
    . have c0 := hT'.sq k hlt
      obtain ⟨c1, f1⟩ := hr.stAt hlt
      have hin := Ej k hlt
      have hcut := fun W (h : QQ W B st) => Qab (Qb Xh k) W B st h hin
      go_wp2
      go_region_with (go_at_call 74; refine (hcut _ (by first | exact hr | exact hr.drew)).mono ?_; rintro e w9 ⟨rfl, rfl⟩)
      go_wp2
      refine ⟨⟨k + 1, st.set k (Qb Yw k), by omega, by go_num, ?_, ?_, fun k' hk' => ?_⟩, by simp only [intOf]; omega⟩
      . have h := hr.set (j := k) hlt (x := Qb Xh k) (by unfold Xp at hin; unfold Xp; omega)
        rw [Dc k hlt]
        exact h
      . exact Yq (XB hg _ _)
      . rw [V8 st k k' _ (by rw [hr.1]; exact hlt)]
        by_cases e : k' = k
        . rw [if_pos e, e]
        . rw [if_neg e]; exact hst k' (by omega)
    . obtain rfl : k = 8 := by omega
      have e : st = Yw := XC (by rw [hr.1]; rfl) fun j h => hst j (by rw [hr.1] at h; exact h)
      subst e
      go_wp2
      refine bodyPost_end (v := .tuple #[]) (by simp [results, Tryd.results47]) rfl ?_
      exact ⟨⟨_, rfl⟩, hr, hg⟩
theorem Ka {K : IntKind} {w : World} {B : Nat} {zs : List Int} (h : ZR K w B zs) : ZR K w.drew B zs := h
theorem Z9 {B : Nat} {a w : World} (h : Below B a w) {g : Nat} (hg : B <= g) (cs : Array Value) : Below B a (w.setRow g cs) := by
  refine ⟨h.os, h.tape, h.output, ?_, fun k hk => ?_⟩
  . have := h.size
    simpa [World.setRow] using this
  . rw [setRow_other w g k cs (by omega)]
    exact h.block k hk
/-- Qd as one number, the highest first. -/
def beF : List Int -> Int := fun l => l.foldl (fun x c => x * 256 + c) 0
theorem F0 (l : List Int) (c : Int) : beF (l ++ [c]) = beF l * 256 + c := by simp [beF]
theorem Dd : ∀ (n : Nat) (l : List Int), l.length = n -> Qd l -> 0 <= beF l /\ beF l < 256 ^ n
  | 0, l, h, _ => by
    obtain rfl : l = [] := List.length_eq_zero_iff.1 h
    simp [beF]
  | n + 1, l, h, hb => by
    have hne : l ≠ [] := by rintro rfl; simp at h
    rw [<- List.dropLast_concat_getLast hne] at hb ⊢
    have ih := Dd n l.dropLast (by simp [h]) (fun x hx => hb x (by simp [hx]))
    have hc := hb (l.getLast hne) (by simp)
    rw [F0, Int.pow_succ]
    omega
theorem XN {x : Int} (h0 : 0 <= x) (h1 : x < 4611686018427387904) : IntKind.i64.wrap x = x := by
  simp [IntKind.wrap, IntKind.bits, IntKind.signed]
  omega
theorem Qap (n j : Nat) : Qb (List.replicate n 0) j = 0 := by
  unfold Qb
  rw [List.getElem?_replicate]
  split <;> rfl
theorem QaF (l : List Int) (t : Nat) (h : t < l.length) : l.take (t + 1) = l.take t ++ [Qb l t] := by
  rw [List.take_add_one, J9 h]; simp [h]
theorem Jg : (Tryd.prog.info? 122).bind (·.zero) = some (.agg (Array.replicate 80 (Value.int .u64 0))) := by kernel_rfl
theorem VU : (Tryd.prog.info? 122).map (·.size) = some 80 := by kernel_rfl
theorem Dk : Tryd.prog.underlying 122 = some (.array 80 32) := by kernel_rfl
theorem QeB (x c : Int) (hx : 0 <= x /\ x < 72057594037927936) (hc : 0 <= c /\ c <= 255) : bits BinOp.or .u64 (x * 256) c = x * 256 + c := by
  obtain ⟨a, rfl⟩ := Int.eq_ofNat_of_zero_le hx.1
  obtain ⟨b, rfl⟩ := Int.eq_ofNat_of_zero_le hc.1
  have h := u64_or_nat (a * 256) b (by omega) (by omega)
  rw [show (((a * 256 : Nat) : Int)) = (a : Int) * 256 by simp] at h
  rw [h, JC (a * 256) b 8 (by omega) (by omega)]
  simp
/-- The words of a block. -/
def Uf (zs : List Int) (i : Nat) : Int := beF ((zs.drop (i * 8)).take 8)
theorem Qax {zs : List Int} (hb : Qd zs) {i : Nat} (h : (i + 1) * 8 <= zs.length) : Xp (Uf zs i) := by
  have := Dd 8 ((zs.drop (i * 8)).take 8) (by simp; omega) (fun x hx => hb x (List.mem_of_mem_drop (List.mem_of_mem_take hx)))
  unfold Xp Uf
  omega
def Uo (m : List Int) (i : Nat) : Int := (Qb m (i - 16) + EK (Qb m (i - 15)) + Qb m (i - 7) + EJ (Qb m (i - 2))) % 18446744073709551616
def QN (zs : List Int) : Nat -> List Int
  | 0 => (List.range 16).map (Uf zs) ++ List.replicate 64 0
  | k + 1 => (QN zs k).set (16 + k) (Uo (QN zs k) (16 + k))
theorem YG (zs : List Int) : ∀ k, (QN zs k).length = 80
  | 0 => by simp [QN]
  | k + 1 => by simp [QN, YG zs k]
theorem Vj {zs : List Int} (hb : Qd zs) (hl : zs.length = 128) : ∀ k x, x ∈ QN zs k -> Xp x
  | 0, x, hx => by
    rcases List.mem_append.1 hx with h | h
    . obtain ⟨i, hi, rfl⟩ := List.mem_map.1 h
      exact Qax hb (by have := List.mem_range.1 hi; omega)
    . obtain ⟨-, rfl⟩ := List.mem_replicate.1 h
      unfold Xp; omega
  | k + 1, x, hx => by
    rcases List.mem_or_eq_of_mem_set hx with h | rfl
    . exact Vj hb hl k x h
    . unfold Xp Uo; omega
set_option maxHeartbeats 1000000 in
theorem Gr (w : World) (B : Nat) (st : List Int) (hr : QQ w B st) (v : Value) (zs : List Int) (hv : Ue .u8 w v zs) (hb : Qd zs) (hl : zs.length = 128) :
    Calls Tryd.prog 99 #[.pointer (some ⟨B, 0, none⟩), v] w fun e w' => e = .returned (Xa .u64 (QN zs 64)) /\ Below w.heap.size w w' := by
  obtain ⟨a, cap, rfl, hcap, hmax, hcell, -⟩ := hv
  obtain ⟨x, o, rfl, -⟩ := hcell 0 (by omega)
  replace hcell : ∀ k, k < 128 -> w.cell? ⟨x, o + k, none⟩ = some (.int .u8 (Qb zs k)) := fun k hk => by
    obtain ⟨x', o', e, h⟩ := hcell k (by omega)
    cases e
    exact h
  have hx : x < w.heap.size := World.block_lt_of_cell? w _ (hcell 0 (by omega))
  have hB := hr.lt
  have hwd := hr.width
  rw [hl] at hcap ⊢
  go_enter Tryd.func99, Tryd.ntmps99
  go_wp2_with (first
    | (with_reducible refine UQ 4 ?_; refine Xs rfl 122 rfl .u64 80 Jg ?_; intro w1 A1 s1 b1)
    | (with_reducible refine UQ 5 ?_; refine Xs rfl 122 rfl .u64 80 Jg ?_; intro w2 A2 s2 b2; replace A1 := A1.below b2; have BB := Zy b1 b2; replace hwd := (hr.below BB).width))
  go_loopw [17] (fun i wr => ∃ (k : Nat) (ms : List Int), k <= 16 /\ i = .int .i64 k /\ ZR .u64 wr w.heap.size (List.replicate 80 0) /\ ZR .u64 wr w1.heap.size ms /\ ms.length = 80 /\ (∀ j, j < 80 -> Qb ms j = if j < k then Uf zs j else 0) /\ Below w.heap.size w wr) (fun i _ => 16 - (intOf i).toNat)
  case atStart => exact ⟨0, List.replicate 80 0, by omega, rfl, A1, A2, by simp, fun j h => by rw [Qap, if_neg (by omega)], BB⟩
  case round =>
    clear A1 A2 BB hwd
    obtain ⟨k, ms, hk, rfl, A1, A2, hml, hms, BB⟩ := hrel
    by_cases hlt : k < 16
    . have hc : ∀ j, j < 8 -> wr.cell? ⟨x, o + k * 8 + j, none⟩ = some (.int .u8 (Qb ((zs.drop (k * 8)).take 8) j)) := fun j hj => by
        have h1 := hcell (k * 8 + j) (by omega)
        rw [<- Nat.add_assoc] at h1
        rw [BB.cell hx, h1]
        simp [Qb, hj]
      have hbp : Qd ((zs.drop (k * 8)).take 8) := fun y hy => hb y (List.mem_of_mem_drop (List.mem_of_mem_take hy))
      have hlp : ((zs.drop (k * 8)).take 8).length = 8 := by simp; omega
      generalize hps : (zs.drop (k * 8)).take 8 = ps at *
      clear hcell
      go_wp2
      have hlen : (k + 1) * 8 - k * 8 = 8 := by omega
      simp only [hlen]
      go_loopw [8, 30] (fun y j wq => ∃ (t : Nat), t <= 8 /\ j = .int .i64 t /\ y = .int .u64 (beF (ps.take t)) /\ wq = wr) (fun _ j _ => 8 - (intOf j).toNat)
      case atStart => exact ⟨0, by omega, rfl, rfl, rfl⟩
      case round =>
        obtain ⟨t, ht, rfl, rfl, rfl⟩ := hrel
        by_cases hlt2 : t < 8
        . have hc0 := hc t hlt2
          have hbt := Dd t (ps.take t) (by simp [hlp]; omega) (fun y hy => hbp y (List.mem_of_mem_take hy))
          have hcb := hbp.at t
          have hsn : beF (ps.take (t + 1)) = beF (ps.take t) * 256 + Qb ps t := by rw [QaF ps t (by omega), F0]
          generalize Qb ps t = c at *
          have hyb : 0 <= beF (ps.take t) /\ beF (ps.take t) < 72057594037927936 := by
            have hp : (256 : Int) ^ t <= 256 ^ 7 := by
              rcases (by omega : t = 0 \/ t = 1 \/ t = 2 \/ t = 3 \/ t = 4 \/ t = 5 \/ t = 6 \/ t = 7) with rfl | rfl | rfl | rfl | rfl | rfl | rfl | rfl <;> decide
            omega
          generalize beF (ps.take t) = y at *
          have ho := QeB y c hyb hcb
          have hy0 := hyb.1
          have hy1 := hyb.2
          replace hsn := Lib.hid hsn
          clear hbt hyb hc
          go_wp2
          refine ⟨⟨t + 1, by omega, by go_num, ?_, by trivial⟩, by simp only [intOf]; omega⟩
          rw [hsn.out]
        . obtain rfl : t = 8 := by omega
          have hw : beF (ps.take 8) = Uf zs k := by rw [<- hlp, List.take_length, <- hps]; rfl
          rw [hw]
          have f0 := A2.free (k := k) (by omega)
          have c0 := A2.cell (k := k) (by omega)
          clear hc
          go_wp2
          refine ⟨⟨k + 1, ms.set k (Uf zs k), by omega, by go_num, A1.setOther (by omega) _ _, A2.set _ _, by simp [hml], fun j hj => ?_, BB.setCell (by show w.heap.size <= w1.heap.size; omega) _⟩, by simp only [intOf]; omega⟩
          rw [V8 ms k j _ (by omega)]
          by_cases e : j = k
          . rw [if_pos e, if_pos (by omega), e]
          . rw [if_neg e, hms j hj]
            by_cases e2 : j < k
            . rw [if_pos e2, if_pos (by omega)]
            . rw [if_neg e2, if_neg (by omega)]
    . obtain rfl : k = 16 := by omega
      have e : ms = QN zs 0 := XC (by rw [hml]; rfl) fun j h => by
        rw [hml] at h
        rw [hms j h]
        by_cases e : j < 16
        . rw [if_pos e]
          unfold QN Qb
          rw [List.getElem?_append_left (by simpa using e)]; simp [e]
        . rw [if_neg e]
          have e2 := Qap 64 (j - 16)
          unfold QN
          unfold Qb at e2 ⊢
          rw [List.getElem?_append_right (by simpa using e), List.length_map, List.length_range, e2]
      subst e
      clear hms hml hcell
      have hsl := YG zs
      have hsi := Vj hb hl
      go_wp2
      go_loopw [11] (fun i wr => ∃ (i' : Nat), 16 <= i' /\ i' <= 80 /\ i = .int .i64 i' /\ ZR .u64 wr w.heap.size (List.replicate 80 0) /\ ZR .u64 wr w1.heap.size (QN zs (i' - 16)) /\ Below w.heap.size w wr) (fun i _ => 80 - (intOf i).toNat)
      case atStart => exact ⟨16, by omega, by omega, rfl, A1, A2, BB⟩
      case round =>
        clear A1 A2 BB
        obtain ⟨i, hi0, hi1, rfl, A1, A2, BB⟩ := hrel
        have hr' := hr.below BB
        have hct := hr'.count
        by_cases hlt : i < 80
        . have hln := hsl (i - 16)
          have hin := hsi (i - 16)
          have hst : QN zs (i + 1 - 16) = (QN zs (i - 16)).set i (Uo (QN zs (i - 16)) i) := by
            rw [show i + 1 - 16 = (i - 16) + 1 by omega]
            show (QN zs (i - 16)).set (16 + (i - 16)) (Uo (QN zs (i - 16)) (16 + (i - 16))) = _
            rw [show 16 + (i - 16) = i by omega]
          generalize QN zs (i - 16) = ms at *
          have hat : ∀ j, j < 80 -> Xp (Qb ms j) := fun j hj => hin _ (Jd (by omega))
          obtain ⟨j1, e1, n1⟩ : ∃ j : Nat, IntKind.i64.wrap ((i : Int) - 16) = (j : Int) /\ i - 16 = j := ⟨i - 16, by rw [XN (by omega) (by omega)]; omega, rfl⟩
          obtain ⟨j2, e2, n2⟩ : ∃ j : Nat, IntKind.i64.wrap ((i : Int) - 15) = (j : Int) /\ i - 15 = j := ⟨i - 15, by rw [XN (by omega) (by omega)]; omega, rfl⟩
          obtain ⟨j3, e3, n3⟩ : ∃ j : Nat, IntKind.i64.wrap ((i : Int) - 7) = (j : Int) /\ i - 7 = j := ⟨i - 7, by rw [XN (by omega) (by omega)]; omega, rfl⟩
          obtain ⟨j4, e4, n4⟩ : ∃ j : Nat, IntKind.i64.wrap ((i : Int) - 2) = (j : Int) /\ i - 2 = j := ⟨i - 2, by rw [XN (by omega) (by omega)]; omega, rfl⟩
          have b1 : (j1 : Int) < 80 := by omega
          have b2' : (j2 : Int) < 80 := by omega
          have b3 : (j3 : Int) < 80 := by omega
          have b4 : (j4 : Int) < 80 := by omega
          have b5 : (i : Int) < 80 := by omega
          have c1 := A2.cell (k := j1) (by omega)
          have c2 := A2.cell (k := j2) (by omega)
          have c3 := A2.cell (k := j3) (by omega)
          have c4 := A2.cell (k := j4) (by omega)
          have nx : Uo ms i = (Qb ms j1 + EK (Qb ms j2) + Qb ms j3 + EJ (Qb ms j4)) % 18446744073709551616 := by unfold Uo; rw [n1, n2, n3, n4]
          replace nx := Lib.hid nx
          clear n1 n2 n3 n4
          have c5 := A2.cell (k := i) (by omega)
          have f5 := A2.free (k := i) (by omega)
          have HA := fun W => QcS (Qb ms j2) W (hat _ (by omega))
          have HB := fun W => QcR (Qb ms j4) W (hat _ (by omega))
          obtain ⟨f10, f11, f12, f13⟩ := hr'.fn
          replace hst := Lib.hid hst
          clear hin hsi hsl
          go_wp2
          go_still_tail 31, (by kernel_rfl)
          still_call (HA _)
          repeat still_step
          still_call (HB _)
          repeat still_step
          refine wpStill_nil ?_
          change wpList _ _ _ _ _ wr.drew
          go_wp2
          refine ⟨?_, ?_⟩
          . refine Exists.intro (Value.int .i64 ((i : Int) + 1)) ?_
            repeat apply Exists.intro (α := Value)
            refine ⟨⟨i + 1, by omega, by omega, by go_num, ?_, ?_, ?_⟩, rfl⟩
            . exact (Ka A1).setOther (by omega) _ _
            . rw [hst.out, nx.out]
              try simp only [IntKind.wrap_u64, Int.emod_add_emod]
              exact Ka (A2.set i _)
            . exact BB.drew.setCell (by show w.heap.size <= w1.heap.size; omega) _
          . show 80 - (intOf (Value.int .i64 ((i : Int) + 1))).toNat < 80 - (intOf (Value.int .i64 (i : Int))).toNat
            simp only [intOf]; omega
        . obtain rfl : i = 80 := by omega
          have hln := hsl (80 - 16)
          go_wp2_with (first
            | (with_reducible refine UQ 83 ?_; refine Vx rfl 122 _ rfl 80 32 Dk VU w1.heap.size rfl .u64 _ A2 hln ?_)
            | (with_reducible refine Qan (o := ⟨_, .store 122 _ _, _, _, _, _⟩) ?_; refine ZK rfl 122 _ _ rfl 80 VU w.heap.size rfl .u64 _ _ rfl A1 (by simp) hln ?_; intro A3))
          refine bodyPost_ret (Vd rfl _ 80 32 Dk VU w.heap.size rfl .u64 _ A3 hln) rfl ?_
          exact ⟨rfl, Z9 BB (Nat.le_refl _) _⟩
theorem Zb.drewN {w : World} (h : Zb w) (n : Nat) : Zb (w.drewN n) := h.below (ZI (Below.refl _ _) n)
theorem UG {w w' : World} (h : Below w.heap.size w w') (B : Nat) : w.grownBy w' (some B) := ⟨h.os, h.tape, h.output, h.size, fun k hk _ => h.block k hk⟩
theorem Y4 (w : World) (g : Nat) (cs : Array Value) : w.grownBy (w.setRow g cs) (some g) := by
  refine ⟨rfl, rfl, rfl, by simp [World.setRow], fun k hk hne => ?_⟩
  rw [setRow_other w g k cs (by simpa using hne)]
theorem JD (x : Int) : Xp (x % 18446744073709551616) := by unfold Xp; omega
structure QR where
  (a b c d e f g h : Int)
def QR.ok (v : QR) : Prop := Xp v.a /\ Xp v.b /\ Xp v.c /\ Xp v.d /\ Xp v.e /\ Xp v.f /\ Xp v.g /\ Xp v.h
def QcJ (e : Int) : Int := bits BinOp.xor .u64 (if IntKind.u64.signed = true then -1 else IntKind.u64.max) e
def QaD (m : List Int) (i : Nat) (v : QR) : Int := (v.h + QdF v.e + bits BinOp.xor .u64 (bits BinOp.and .u64 v.e v.f) (bits BinOp.and .u64 (QcJ v.e) v.g) + Qb Ys i + Qb m i) % 18446744073709551616
def Qf5 (v : QR) : Int := (QdH v.a + bits BinOp.xor .u64 (bits BinOp.xor .u64 (bits BinOp.and .u64 v.a v.b) (bits BinOp.and .u64 v.a v.c)) (bits BinOp.and .u64 v.b v.c)) % 18446744073709551616
def Du (m : List Int) (i : Nat) (v : QR) : QR := ⟨(QaD m i v + Qf5 v) % 18446744073709551616, v.a, v.b, v.c, (v.d + QaD m i v) % 18446744073709551616, v.e, v.f, v.g⟩
def QM (m : List Int) (v : QR) : Nat -> QR
  | 0 => v
  | i + 1 => Du m i (QM m v i)
theorem YH {m : List Int} {v : QR} (h : v.ok) : ∀ i, (QM m v i).ok
  | 0 => h
  | i + 1 => by
    obtain ⟨h0, h1, h2, h3, h4, h5, h6, h7⟩ := YH (m := m) h i
    exact ⟨JD _, h0, h1, h2, JD _, h4, h5, h6⟩
def Yr (st : List Int) : QR := ⟨Qb st 0, Qb st 1, Qb st 2, Qb st 3, Qb st 4, Qb st 5, Qb st 6, Qb st 7⟩
def QR.list (v : QR) : List Int := [v.a, v.b, v.c, v.d, v.e, v.f, v.g, v.h]
/-- The state behind a block. -/
def Yc (st zs : List Int) : List Int := (List.range 8).map fun j => (Qb st j + Qb (QM (QN zs 64) (Yr st) 80).list j) % 18446744073709551616
set_option maxHeartbeats 4000000 in
theorem Hw (w : World) (B : Nat) (st : List Int) (hr : QQ w B st) (hT : Zb w) (hs : 1 ≠ B) (hc : 3 ≠ B) (v : Value) (zs : List Int) (hv : Ue .u8 w v zs) (hb : Qd zs) (hl : zs.length = 128) :
    Calls Tryd.prog 76 #[.pointer (some ⟨B, 0, none⟩), v] w fun e w' => (∃ v, e = .returned v) /\ QQ w' B (Yc st zs) /\ w.grownBy w' (some B) := by
  have hB := hr.lt
  have hml := YG zs 64
  have hmi := Vj hb hl 64
  have HS := fun W (h : QQ W B st) (hv : Ue .u8 W v zs) => Gr W B st h v zs hv hb hl
  have htk : Yc st zs = (List.range 8).map fun j => (Qb st j + Qb (QM (QN zs 64) (Yr st) 80).list j) % 18446744073709551616 := rfl
  generalize QN zs 64 = ms at *
  have h8 : (Yr st).ok := ⟨hr.stIn 0, hr.stIn 1, hr.stIn 2, hr.stIn 3, hr.stIn 4, hr.stIn 5, hr.stIn 6, hr.stIn 7⟩
  have he8 : Yr st = ⟨Qb st 0, Qb st 1, Qb st 2, Qb st 3, Qb st 4, Qb st 5, Qb st 6, Qb st 7⟩ := rfl
  go_enter Tryd.func76, Tryd.ntmps76
  go_wp2_with (first
    | (go_at_call 99; (with_reducible refine (HS _ hr hv).mono ?_); rintro e w1 ⟨rfl, b1⟩)
    | (with_reducible refine UQ 4 ?_; refine Xs rfl 122 rfl .u64 80 Jg ?_; intro w2 A2 s2 b2; have BB := Zy b1 b2; have hr2 := hr.below BB; have hT2 := hT.below BB)
    | (with_reducible refine Qan (o := ⟨_, .store 122 _ _, _, _, _, _⟩) ?_; refine ZK rfl 122 _ _ rfl 80 VU w1.heap.size rfl .u64 _ _ rfl A2 (by simp) hml ?_; intro A3))
  have hs1 := b1.size
  have hr3 : QQ (w2.setRow w1.heap.size (ms.map (Value.int .u64)).toArray) B st := hr2.but (Y4 _ _ _) (by simp; omega)
  have hT3 : Zb (w2.setRow w1.heap.size (ms.map (Value.int .u64)).toArray) := hT2.but (Y4 _ _ _) (by have := hT.lt.1; have := b1.size; omega) (by have := hT.lt.2; have := b1.size; omega)
  have BB3 := Z9 BB (g := w1.heap.size) b1.size (ms.map (Value.int .u64)).toArray
  generalize w2.setRow w1.heap.size (ms.map (Value.int .u64)).toArray = w3 at *
  clear hr2 hT2 A2 BB HS
  have s0 : w3.cell? ⟨B, 2, none⟩ = some (.int .u64 (Qb st 0)) := (hr3.stAt (j := 0) (by decide)).1
  have s1 : w3.cell? ⟨B, 3, none⟩ = some (.int .u64 (Qb st 1)) := (hr3.stAt (j := 1) (by decide)).1
  have s2 : w3.cell? ⟨B, 4, none⟩ = some (.int .u64 (Qb st 2)) := (hr3.stAt (j := 2) (by decide)).1
  have s3 : w3.cell? ⟨B, 5, none⟩ = some (.int .u64 (Qb st 3)) := (hr3.stAt (j := 3) (by decide)).1
  have s4 : w3.cell? ⟨B, 6, none⟩ = some (.int .u64 (Qb st 4)) := (hr3.stAt (j := 4) (by decide)).1
  have s5 : w3.cell? ⟨B, 7, none⟩ = some (.int .u64 (Qb st 5)) := (hr3.stAt (j := 5) (by decide)).1
  have s6 : w3.cell? ⟨B, 8, none⟩ = some (.int .u64 (Qb st 6)) := (hr3.stAt (j := 6) (by decide)).1
  have s7 : w3.cell? ⟨B, 9, none⟩ = some (.int .u64 (Qb st 7)) := (hr3.stAt (j := 7) (by decide)).1
  have hct := hr3.count
  have hml' := hml
  go_quiet (fail)
  go_wp2
  go_quiet (fail)
  go_wp2
  have he : QM ms (Yr st) 0 = Yr st := rfl
  generalize hv0 : Yr st = v0 at *
  go_loopw [5, 6, 7, 8, 9, 10, 11, 12, 65] (fun a b c d e f g h i wr => ∃ (k : Nat), k <= 80 /\ i = .int .i64 k /\ a = .int .u64 (QM ms v0 k).a /\ b = .int .u64 (QM ms v0 k).b /\ c = .int .u64 (QM ms v0 k).c /\ d = .int .u64 (QM ms v0 k).d /\ e = .int .u64 (QM ms v0 k).e /\ f = .int .u64 (QM ms v0 k).f /\ g = .int .u64 (QM ms v0 k).g /\ h = .int .u64 (QM ms v0 k).h /\ QQ wr B st /\ Zb wr /\ ZR .u64 wr w1.heap.size ms /\ Below w.heap.size w wr) (fun _ _ _ _ _ _ _ _ i _ => 80 - (intOf i).toNat)
  case atStart =>
    refine ⟨0, by omega, rfl, ?_, ?_, ?_, ?_, ?_, ?_, ?_, ?_, hr3, hT3.drewN _, A3, ZI BB3 _⟩ <;> (rw [he, he8])
  case round =>
    clear hr3 hT3 A3 BB3 s0 s1 s2 s3 s4 s5 s6 s7 hct
    obtain ⟨k, hk, rfl, rfl, rfl, rfl, rfl, rfl, rfl, rfl, rfl, hr3, hT3, A3, BB3⟩ := hrel
    by_cases hlt : k < 80
    . have hok := YH (m := ms) h8 k
      have hnx : QM ms v0 (k + 1) = Du ms k (QM ms v0 k) := rfl
      rcases hv : QM ms v0 k with ⟨a, b, c, d, e, f, g, h⟩
      rw [hv] at hok hnx
      obtain ⟨⟨a0, a1⟩, ⟨b0, b1'⟩, ⟨c0, c1⟩, ⟨d0, d1⟩, ⟨e0, e1⟩, ⟨f0, f1⟩, ⟨g0, g1⟩, ⟨h0, h1⟩⟩ := hok
      dsimp only at a0 a1 b0 b1' c0 c1 d0 d1 e0 e1 f0 f1 g0 g1 h0 h1
      have hcu := hT3.cu k (by omega)
      have hci := Qdw k (by omega)
      have HC := fun W (h : QQ W B st) => Qab (Qb Ys k) W B st h hci
      have HB := fun W => QdE e W ⟨e0, e1⟩
      have HA := fun W => QdG a W ⟨a0, a1⟩
      have hms := A3.cell (k := k) (by omega)
      obtain ⟨f10, f11, f12, f13⟩ := hr3.fn
      have hk80 : (k : Int) < 80 := by omega
      replace hnx := Lib.hid hnx
      clear hv hmi htk he
      go_wp2
      go_quiet (first | (go_at_call 44; exact Calls.quiet_of_same (HB _)) | (go_at_call 74; exact Calls.quiet_of_same (HC _ hr3)))
      go_wp2_with (first
        | (go_at_call 42; (with_reducible refine (HA _).mono ?_); rintro e w9 ⟨rfl, rfl⟩))
      refine ⟨⟨k + 1, by omega, by go_num, ?_, congrArg (Value.int .u64) (congrArg QR.b hnx.out).symm, congrArg (Value.int .u64) (congrArg QR.c hnx.out).symm, congrArg (Value.int .u64) (congrArg QR.d hnx.out).symm, ?_, congrArg (Value.int .u64) (congrArg QR.f hnx.out).symm, congrArg (Value.int .u64) (congrArg QR.g hnx.out).symm, congrArg (Value.int .u64) (congrArg QR.h hnx.out).symm, hr3, hT3.drewN _, A3, ZI BB3 _⟩, by simp only [intOf]; omega⟩ <;> rw [hnx.out]
      . show _ = Value.int .u64 ((QaD ms k ⟨a, b, c, d, e, f, g, h⟩ + Qf5 ⟨a, b, c, d, e, f, g, h⟩) % 18446744073709551616)
        unfold QaD Qf5 QcJ
        first | rfl | (simp only [IntKind.wrap_u64, Int.emod_add_emod, Int.add_emod_emod])
      . show _ = Value.int .u64 ((d + QaD ms k ⟨a, b, c, d, e, f, g, h⟩) % 18446744073709551616)
        unfold QaD QcJ
        first | rfl | (simp only [IntKind.wrap_u64, Int.emod_add_emod, Int.add_emod_emod])
    . obtain rfl : k = 80 := by omega
      have hok := YH (m := ms) h8 80
      rcases hv : QM ms v0 80 with ⟨a, b, c, d, e, f, g, h⟩
      rw [hv] at hok htk
      obtain ⟨⟨a0, a1⟩, ⟨b0, b1'⟩, ⟨c0, c1⟩, ⟨d0, d1⟩, ⟨e0, e1⟩, ⟨f0, f1⟩, ⟨g0, g1⟩, ⟨h0, h1⟩⟩ := hok
      dsimp only at a0 a1 b0 b1' c0 c1 d0 d1 e0 e1 f0 f1 g0 g1 h0 h1
      have hg := UG BB3 B
      replace htk := Lib.hid htk
      clear hv hmi he
      go_wp2
      rw [show Value.agg #[.int .u64 a, .int .u64 b, .int .u64 c, .int .u64 d, .int .u64 e, .int .u64 f, .int .u64 g, .int .u64 h] = Xa .u64 [a, b, c, d, e, f, g, h] from rfl]
      have hls : ([a, b, c, d, e, f, g, h] : List Int).length = 8 := rfl
      have hlv : (QR.list ⟨a, b, c, d, e, f, g, h⟩) = [a, b, c, d, e, f, g, h] := rfl
      replace hlv := Lib.hid hlv
      generalize ([a, b, c, d, e, f, g, h] : List Int) = ls at *
      clear a0 a1 b0 b1' c0 c1 d0 d1 e0 e1 f0 f1 g0 g1 h0 h1 BB3 A3 hT3
      go_loopw [135] (fun i wr => ∃ (j : Nat) (su : List Int), j <= 8 /\ i = .int .i64 j /\ QQ wr B su /\ w.grownBy wr (some B) /\ (∀ q, q < 8 -> Qb su q = if q < j then (Qb st q + Qb ls q) % 18446744073709551616 else Qb st q)) (fun i _ => 8 - (intOf i).toNat)
      case atStart => exact ⟨0, st, by omega, rfl, hr3, hg, fun q hq => by rw [if_neg (by omega)]⟩
      case round =>
        clear hr3 hg
        obtain ⟨j, su, hj, rfl, hr3, hg, hsu⟩ := hrel
        by_cases hjl : j < 8
        . have hix : ∀ w, (Instr.index 76 (Xa .u64 ls) (.int .i64 (j : Int))).run Tryd.prog w = .ok (.int .u64 (Qb ls j)) w := fun w => by
            have h := Em (w := w) (P := Tryd.prog) 76 8 32 Tryd.underlying76 _ Tryd.underlying32 rfl (by kernel_rfl) .u64 ls hls (j : Int) (by omega) (by omega)
            rwa [Int.toNat_natCast] at h
          obtain ⟨cj, fj⟩ := hr3.stAt hjl
          have hsj := hsu j hjl
          rw [if_neg (by omega)] at hsj
          rw [hsj] at cj
          have hjI : (j : Int) < 8 := by omega
          replace hsj := Lib.hid hsj
          replace hsu := Lib.hid hsu
          go_wp2
          go_still_tail 11, (by kernel_rfl)
          change wpList _ _ _ _ _ wr.drew
          go_wp2
          refine ⟨?_, ?_⟩
          . apply Exists.intro (α := Value)
            apply Exists.intro (α := Value)
            refine Exists.intro (Value.int .i64 ((j : Int) + 1)) ?_
            repeat apply Exists.intro (α := Value)
            refine ⟨⟨j + 1, su.set j ((Qb st j + Qb ls j) % 18446744073709551616), by omega, by go_num, ?_, ?_, fun q hq => ?_⟩, rfl⟩
            . try simp only [IntKind.wrap_u64]
              have h := hr3.set hjl (JD (Qb st j + Qb ls j))
              exact h
            . exact Yq (XB hg _ _)
            . rw [V8 su j q _ (by rw [hr3.1]; exact hjl)]
              by_cases e : q = j
              . rw [if_pos e, if_pos (by omega), e]
              . rw [if_neg e, hsu.out q hq]
                by_cases e2 : q < j
                . rw [if_pos e2, if_pos (by omega)]
                . rw [if_neg e2, if_neg (by omega)]
          . show 8 - (intOf (Value.int .i64 ((j : Int) + 1))).toNat < 8 - (intOf (Value.int .i64 (j : Int))).toNat
            simp only [intOf]; omega
        . obtain rfl : j = 8 := by omega
          have e : su = Yc st zs := XC (by rw [hr3.1, htk.out]; simp) fun q hq => by
            rw [hr3.1] at hq
            rw [hsu q hq, if_pos hq, htk.out, hlv.out]
            simp [Qb, hq]
          subst e
          go_wp2
          refine bodyPost_end (results_none rfl _ _ _) rfl ?_
          exact ⟨⟨_, rfl⟩, hr3, hg⟩
structure Qio where
  (a b c d e f g h : Int)
theorem YW (n : Int) (w : World) (h : n = 32 \/ n = 64) : Calls Tryd.prog 75 #[.int .i64 n] w fun e w' => e = .returned (.int .i64 (2 * n)) /\ w' = w := by
  rcases h with rfl | rfl
  all_goals
    go_enter Tryd.func75, Tryd.ntmps75
    go_wp2
    go_ret
    exact ⟨rfl, rfl⟩
theorem GK (n : Int) (w : World) (h : n = 32 \/ n = 64) : Calls Tryd.prog 103 #[.int .i64 n] w fun e w' => e = .returned (.int .i64 (n / 4)) /\ w' = w := by
  rcases h with rfl | rfl
  all_goals
    go_enter Tryd.func103, Tryd.ntmps103
    go_wp2
    go_ret
    exact ⟨rfl, rfl⟩
/-- How many bytes there are with what is Vo. -/
def Vo (n wd : Int) : Int := if n < 0 \/ 1099511627776 < n \/ (wd ≠ 32 /\ wd ≠ 64) then 0 else (n + 1 + wd / 4 + 2 * wd - 1) / (2 * wd) * (2 * wd)
theorem Qco (n wd : Int) (w : World) (hn : -9223372036854775808 <= n /\ n <= 9223372036854775807) (hw : -9223372036854775808 <= wd /\ wd <= 9223372036854775807) :
    Calls Tryd.prog 100 #[.int .i64 n, .int .i64 wd] w fun e w' => e = .returned (.int .i64 (Vo n wd)) /\ w' = w := by
  by_cases h : n < 0 \/ 1099511627776 < n \/ (wd ≠ 32 /\ wd ≠ 64)
  . rw [show Vo n wd = 0 from if_pos h]
    have hb : (decide (n < 0) || (decide (1099511627776 < n) || (decide (wd ≠ 32) && decide (wd ≠ 64)))) = true := by simpa using h
    by_cases h1 : n < 0
    . have d1 : decide (n < 0) = true := decide_eq_true h1
      go_enter Tryd.func100, Tryd.ntmps100
      go_wp2
      go_ret
      exact ⟨rfl, rfl⟩
    . by_cases h2 : 1099511627776 < n
      . go_enter Tryd.func100, Tryd.ntmps100
        go_wp2
        go_ret
        exact ⟨rfl, rfl⟩
      . have h3 : wd ≠ 32 /\ wd ≠ 64 := by omega
        obtain ⟨h4, h5⟩ := h3
        have b4 : (wd != 32) = true := by simpa using h4
        have b5 : (wd != 64) = true := by simpa using h5
        clear hb h h4 h5
        go_enter Tryd.func100, Tryd.ntmps100
        go_wp2
        go_ret
        exact ⟨rfl, rfl⟩
  . have h6 : wd = 32 \/ wd = 64 := by omega
    have h7 : ¬ n < 0 := by omega
    have h8 : ¬ 1099511627776 < n := by omega
    rw [show Vo n wd = (n + 1 + wd / 4 + 2 * wd - 1) / (2 * wd) * (2 * wd) from if_neg h]
    clear h
    have HB := fun W => YW wd W h6
    have HL := fun W => GK wd W h6
    rcases h6 with rfl | rfl
    all_goals
      go_enter Tryd.func100, Tryd.ntmps100
      go_wp2_with (first
        | (go_at_call 75; (with_reducible refine (HB _).mono ?_); rintro e w1 ⟨rfl, rfl⟩)
        | (go_at_call 103; (with_reducible refine (HL _).mono ?_); rintro e w1 ⟨rfl, rfl⟩))
      go_ret
      exact ⟨rfl, rfl⟩
/-- The bytes of a state. -/
def Za (st : List Int) : List Int := (List.range 64).map fun i => Qb st (i / 8) / 2 ^ (8 * (8 - 1 - i % 8)) % 256
theorem QaE (st : List Int) (i : Nat) (h : i < 64) : Qb (Za st) i = Qb st (i / 8) / 2 ^ (8 * (8 - 1 - i % 8)) % 256 := by simp [Za, Qb, h]
set_option maxHeartbeats 1000000 in
theorem QbF (w : World) (B Bs : Nat) (st zs : List Int) (hr : QQ w B st) (hz : ZR .u8 w Bs zs) (hl : zs.length = 64) (hne : B ≠ Bs) :
    Calls Tryd.prog 49 #[.pointer (some ⟨B, 0, none⟩), .slice (some ⟨Bs, 0, none⟩) 64 64] w fun e w' => (∃ v, e = .returned v) /\ ZR .u8 w' Bs (Za st) /\ w.grownBy w' (some Bs) := by
  have hwd := hr.width
  go_enter Tryd.func49, Tryd.ntmps49
  go_wp2
  go_loopw [13] (fun i wr => ∃ (k : Nat) (ys : List Int), k <= 64 /\ i = .int .i64 k /\ QQ wr B st /\ ZR .u8 wr Bs ys /\ ys.length = 64 /\ w.grownBy wr (some Bs) /\ ∀ q, q < k -> Qb ys q = Qb (Za st) q) (fun i _ => 64 - (intOf i).toNat)
  case atStart => exact ⟨0, zs, by omega, rfl, hr, hz, hl, World.grownBy.refl _ _, fun q h => by omega⟩
  case round =>
    clear hr hz hwd
    obtain ⟨k, ys, hk, rfl, hr, hz, hyl, hg, hys⟩ := hrel
    by_cases hlt : k < 64
    . have hk8 : k / 8 < 8 := by omega
      obtain ⟨cj, -⟩ := hr.stAt hk8
      have hsi := hr.stIn (k / 8)
      have cs := hz.cell (k := k) (by omega)
      have fs := hz.free (k := k) (by omega)
      have hat := QaE st k hlt
      generalize Qb st (k / 8) = s at *
      obtain ⟨s0, s1⟩ := hsi
      obtain ⟨q, e1, hq⟩ : ∃ q : Nat, IntKind.i64.wrap ((k : Int) / 8) = (q : Int) /\ q = k / 8 := ⟨k / 8, by rw [XN (by omega) (by omega)]; omega, rfl⟩
      obtain ⟨r, e2, hr2⟩ : ∃ r : Nat, (k : Int).tmod 8 = (r : Int) /\ r = k % 8 := ⟨k % 8, by rw [Int.tmod_eq_emod_of_nonneg (by omega)]; omega, rfl⟩
      have e5 : IntKind.i64.wrap 7 = 7 := by decide
      obtain ⟨t, e3, ht⟩ : ∃ t : Nat, IntKind.i64.wrap ((7 : Int) - (r : Int)) = (t : Int) /\ t = 7 - r := ⟨7 - r, by rw [XN (by omega) (by omega)]; omega, rfl⟩
      obtain ⟨u, e4, hu⟩ : ∃ u : Nat, IntKind.i64.wrap ((8 : Int) * (t : Int)) = (u : Int) /\ u = 8 * t := ⟨8 * t, by rw [XN (by omega) (by omega)]; omega, rfl⟩
      have hu2 : 8 * (8 - 1 - k % 8) = u := by omega
      rw [hu2] at hat
      have hu3 : (u : Int) < 64 := by omega
      have hq8 : (q : Int) < 8 := by omega
      rw [<- hq] at cj
      clear hu2 hq hr2 ht hu hk8
      replace hat := Lib.hid hat
      replace hys := Lib.hid hys
      go_wp2
      go_still_tail 20, (by kernel_rfl)
      change wpList _ _ _ _ _ wr.drew
      go_wp2
      refine ⟨⟨k + 1, ys.set k (s / 2 ^ u % 256), by omega, by go_num, hr.but (Yq (XB (World.grownBy.refl wr (some Bs)) k _)) (by simpa using hne), Ka (hz.set k _), by simp [hyl], Yq (XB hg _ _), fun q hq => ?_⟩, by simp only [intOf]; omega⟩
      rw [V8 ys k q _ (by omega)]
      by_cases e : q = k
      . rw [if_pos e, e, hat.out]
      . rw [if_neg e]; exact hys.out q (by omega)
    . obtain rfl : k = 64 := by omega
      have e : ys = Za st := XC (by rw [hyl]; simp [Za]) fun q h => hys q (by rw [hyl] at h; exact h)
      subst e
      go_wp2
      refine bodyPost_end (results_none rfl _ _ _) rfl ?_
      exact ⟨⟨_, rfl⟩, hz, hg⟩
section
variable {P : Program} {ops : Array Oper} {md : Region.Mode}

/-- A variable that the region makes (operation ka) and stores v into (operation ks). -/
structure QdP where
  ka : Nat
  ks : Nat
  K : IntKind
  n : Nat
  v : List Int
inductive QiY where
  | plain
  | alloc (it : QdP)
  | store (it : QdP)
variable {ds : List (Option Tmp)} {dl : List (List Nat)} {G : World -> Prop} {F : Qat} {base : Nat} {items : List QdP} {a : Act}
end
end Go.Proofs.YtbiboamaigedjaaDoor
--@optional
namespace Go.Proofs.YtbiboamaigedjaaDoor
open Go.RowKit
set_option linter.unusedVariables false
set_option maxRecDepth 8000

end Go.Proofs.YtbiboamaigedjaaDoor
namespace Go.Proofs.YtbiboamaigedjaaDoor
open Go.RowKit
set_option linter.unusedVariables false
set_option linter.unusedSimpArgs false
set_option maxRecDepth 8000
set_option maxHeartbeats 2000000

section
variable {P : Program} {ops : Array Oper} {o : Oper} {a : Act} {w : World} {R : Value -> World -> Prop}

end
section
variable {P : Program} {ops : Array Oper} {o : Oper} {a : Act} {w : World} {R : Value -> World -> Prop}
end
section
variable {P : Program} {ops : Array Oper} {o : Oper} {a : Act} {w : World} {R : Value -> World -> Prop}
theorem JF (K : IntKind) (n m : Nat) : madeCells (Array.replicate n (Value.int K 0)) m = if n = 0 then madeCells #[] m else Array.replicate m (Value.int K 0) := by
  by_cases hn : n = 0
  . subst hn; simp
  . rw [if_neg hn]
    apply Array.ext
    . simp [madeCells]
    . intro i h1 h2
      simp [madeCells]
      have : i % n < n := Nat.mod_lt _ (by omega)
      simp [this]
end
section
variable {P : Program} {ops : Array Oper} {o : Oper} {rest : List Oper} {a : Act} {w : World} {Q : Exit -> Act -> World -> Prop}
theorem Gc (hgd : o.guard = none) (d s : Operand) (t t' : TypeId) (ho : o.op = .call { callee := .builtin .copy, args := #[d, s], argTypes := #[t, t'] })
    (elem : TypeId) (hu : P.underlying t = some (.slice elem)) (hsz : (P.info? elem).map (·.size) = some 1) (B B' c c' n m : Nat) (hd : a.eval d = .slice (some ⟨B, 0, none⟩) n c) (hs : a.eval s = .slice (some ⟨B', 0, none⟩) m c') (K : IntKind) (zs ys : List Int)
    (hz : ZR K w B zs) (hy : ∀ q, q < m -> w.cell? ⟨B', q, none⟩ = some (.int K (Qb ys q))) (hn : zs.length = n) (hm : ys.length = m) (hle : m <= n)
    (h : ZR K (w.setRow B ((ys.take m ++ zs.drop m).map (Value.int K)).toArray) B (ys.take m ++ zs.drop m) -> wpList P ops Q rest (a.put o.dst (goInt m)) (w.setRow B ((ys.take m ++ zs.drop m).map (Value.int K)).toArray)) : wpList P ops Q (o :: rest) a w := by
  subst hn
  have h' := h (hz.setRow _)
  refine wpList_plain hgd fun KK hK => ?_
  have hlt : (ys.take m).length = m := by simp [hm]
  obtain ⟨tz, hz⟩ := hz
  have hcell : ∀ j v, ((ys.take m).map (Value.int K))[j]? = some v -> w.cell? ((⟨B', 0, none⟩ : Addr).add j) = some v := by
    intro j v hj
    have hjm : j < m := by
      have := (List.getElem?_eq_some_iff.1 hj).1
      simpa [hm] using this
    have hc := hy j hjm
    rw [Addr.add_lit, Nat.zero_add, hc, <- hj]
    simp [hjm, Qb, show j < ys.length by omega]
  have hr := run_copy_row (P := P) w t t' o.type elem B 0 zs.length c ⟨B', 0, none⟩ m c' _ tz ((ys.take m).map (Value.int K)) hu hsz hz (by rw [List.length_map, hlt]; exact (Nat.min_eq_left hle).symm) hcell (by simp only [List.size_toArray, List.length_map, hlt]; omega) (by intro v hv; obtain ⟨z, -, rfl⟩ := List.mem_map.1 hv; rfl)
  unfold Oper.wp execOp
  simp only [ho, resolve, invoke, builtin, Sem.run_bind, Sem.run_pure, Result.andThen_ok, List.map_toArray, List.map_cons, List.map_nil, hd, hs, hr]
  have e : (List.take 0 (zs.map (Value.int K)) ++ (ys.take m).map (Value.int K) ++ List.drop (0 + ((ys.take m).map (Value.int K)).length) (zs.map (Value.int K))) = (ys.take m ++ zs.drop m).map (Value.int K) := by
    rw [List.take_zero, List.nil_append, Nat.zero_add, List.length_map, hlt, List.map_append, List.map_drop]
  rw [e, List.length_map, hlt]
  exact hK _ _ h'
theorem Gb (hgd : o.guard = none) (t e : TypeId) (x y : Operand) (ho : o.op = .makeSlice t x y) (hu : P.underlying t = some (.slice e)) (K : IntKind) (hz : (P.info? e).bind (·.zero) = some (Value.int K 0)) (hs : (P.info? e).map (·.size) = some 1) (hb : (P.info? e).map (·.bytes) = some 1)
    (l n : Nat) (hx : a.eval x = .int .i64 l) (hy : a.eval y = .int .i64 n) (hle : l <= n) (hn : (n : Int) <= 281474976710656)
    (h : ∀ w1, ZR K w1 w.heap.size (List.replicate n 0) -> w.heap.size < w1.heap.size -> Below w.heap.size w w1 -> wpList P ops Q rest (a.put o.dst (.slice (some ⟨w.heap.size, 0, none⟩) l n)) w1) : wpList P ops Q (o :: rest) a w := by
  cases hi : P.info? e with
  | none => rw [hi] at hz; cases hz
  | some i =>
    rw [hi] at hz hs hb
    have hz' : i.zero = some (Value.int K 0) := hz
    have hs' : i.size = 1 := by simpa using hs
    have hb' : i.bytes = 1 := by simpa using hb
    refine wpList_plain hgd fun KK hK => ?_
    have hr := run_make w t e i _ hu hi hz' .i64 .i64 (l : Int) (n : Int) (by omega) (by omega) (by rw [hb']; omega) (by omega)
    have hm : madeCells (Value.int K 0).cells (n * 1) = ((List.replicate n (0 : Int)).map (Value.int K)).toArray := by
      have h1 := JF K 1 (n * 1)
      rw [if_neg (by decide)] at h1
      rw [show (Value.int K 0).cells = Array.replicate 1 (Value.int K 0) from rfl, h1]
      simp
    unfold Oper.wp execOp
    simp only [ho, hx, hy, Sem.run_bind, hr, Int.toNat_natCast, hs', hm]
    refine hK _ _ (h _ ⟨e, ?_⟩ (Array.getElem?_eq_some_iff.1 (heap_alloc_new w _)).1 ((Below.refl _ _).alloc (Nat.le_refl _) _))
    rw [heap_alloc_new]
end
theorem Vs {a b c : World} {row : Option Nat} (h : a.grownBy b row) (k : b.grownBy c row) : a.grownBy c row :=
  ⟨k.os.trans h.os, k.tape.trans h.tape, k.output.trans h.output, Nat.le_trans h.size k.size, fun i hi hne => (k.block i (Nat.lt_of_lt_of_le hi h.size) hne).trans (h.block i hi hne)⟩
theorem Je {K : IntKind} {w w' : World} {B : Nat} {zs : List Int} (h : ZR K w B zs) {row : Option Nat} (hb : w.grownBy w' row) (hr : some B ≠ row) : ZR K w' B zs := by
  have hl := h.lt
  obtain ⟨t, h⟩ := h
  exact ⟨t, by rw [hb.block B hl hr]; exact h⟩
theorem Qa9 {w w' : World} {B : Nat} (h : w.grownBy w' (some B)) (p : Addr) (v : Value) (hp : w.heap.size <= p.block) : w.grownBy (w'.setCell p v) (some B) := by
  refine ⟨h.os, h.tape, h.output, ?_, fun k hk hne => ?_⟩
  . have := h.size
    simpa [World.setCell] using this
  . rw [heap_setCell_other w' p k v (by omega)]
    exact h.block k hk hne
/-- The number of bits, laid behind all, the highest byte first. -/
def UN (p : List Int) (tot : Int) : Nat -> List Int
  | 0 => p
  | k + 1 => (UN p tot k).set (p.length - 1 - k) (tot * 8 / 2 ^ (8 * k) % 256)
theorem Fa (p : List Int) (tot : Int) : ∀ k, (UN p tot k).length = p.length
  | 0 => rfl
  | k + 1 => by simp [UN, Fa p tot k]
theorem Jx {p : List Int} (h : Qd p) (tot : Int) : ∀ k, Qd (UN p tot k)
  | 0 => h
  | k + 1 => fun x hx => by
    rcases List.mem_or_eq_of_mem_set hx with h' | rfl
    . exact Jx h tot k x h'
    . omega
/-- How many bytes so many have when they are Vo. -/
def Q6 (n : Nat) : Nat := (n + 1 + 16 + 128 - 1) / 128 * 128
theorem QaT (n : Nat) (h : n < 128) : Vo (n : Int) 64 = (Q6 n : Nat) := by
  unfold Vo Q6
  rw [if_neg (by omega)]
  omega
theorem KP (n : Nat) (h : n < 128) : n + 16 < Q6 n /\ Q6 n <= 256 /\ Q6 n % 128 = 0 := by unfold Q6; omega
def YO (hl : List Int) (n : Nat) : List Int := (hl.take n ++ List.replicate (Q6 n - n) 0).set n 128
theorem Ez (hl : List Int) (n : Nat) (h : n < 128) (hh : hl.length = n) : (YO hl n).length = Q6 n := by
  have := KP n h
  simp [YO, hh]
  omega
/-- A state behind so many blocks. -/
def QW (st zs : List Int) : Nat -> List Int
  | 0 => st
  | k + 1 => Yc (QW st zs k) ((zs.drop (k * 128)).take 128)
set_option maxHeartbeats 4000000 in
theorem QcX (w : World) (B : Nat) (st : List Int) (hr : QQ w B st) (hT : Zb w) (hs : 1 ≠ B) (hc : 3 ≠ B) (Bh : Nat) (hl : List Int) (n : Nat) (hA : ∀ q, q < n -> w.cell? ⟨Bh, q, none⟩ = some (.int .u8 (Qb hl q))) (hll : hl.length = n) (hn : n < 128) (hby : Qd hl) (tot : Int) (ht0 : 0 <= tot) (ht1 : tot < 72057594037927936) :
    Calls Tryd.prog 77 #[.pointer (some ⟨B, 0, none⟩), .slice (some ⟨Bh, 0, none⟩) n 128, .int .i64 tot] w fun e w' => (∃ v, e = .returned v) /\ QQ w' B (QW st (UN (YO hl n) tot 8) (Q6 n / 128)) /\ w.grownBy w' (some B) := by
  have hB := hr.lt
  have hwd := hr.width
  have hpn := KP n hn
  have hpl := Ez hl n hn hll
  have hpb : Qd (YO hl n) := fun x hx => by
    rcases List.mem_or_eq_of_mem_set hx with h | rfl
    . rcases List.mem_append.1 h with h | h
      . exact hby x (List.mem_of_mem_take h)
      . obtain ⟨-, rfl⟩ := List.mem_replicate.1 h; decide
    . decide
  have HP : ∀ W, Calls Tryd.prog 100 #[.int .i64 (n : Int), .int .i64 64] W fun e w' => e = .returned (.int .i64 ((Q6 n : Nat) : Int)) /\ w' = W := fun W => by
    have h := Qco (n : Int) 64 W (by omega) (by omega)
    rw [QaT n hn] at h
    exact h
  have hp0 : (hl.take n ++ List.replicate (Q6 n - n) 0).set n 128 = YO hl n := rfl
  have hrd : (List.replicate (Q6 n) (0 : Int)).drop n = List.replicate (Q6 n - n) 0 := by simp
  have hla : (hl.take n ++ List.replicate (Q6 n - n) (0 : Int)).length = Q6 n := by simp [hll]; omega
  obtain ⟨q0, hq0⟩ : ∃ q, hl.take n ++ List.replicate (Q6 n - n) (0 : Int) = q := ⟨_, rfl⟩
  rw [hq0] at hp0 hla
  generalize YO hl n = pb at *
  generalize Q6 n = pn at *
  go_enter Tryd.func77, Tryd.ntmps77
  go_wp2_with (first
    | (go_at_call 100; (with_reducible refine (HP _).mono ?_); rintro e w1 ⟨rfl, rfl⟩)
    | (with_reducible refine UQ 17 ?_; refine Gb rfl 23 5 _ _ rfl Tryd.underlying23 .u8 (by kernel_rfl) (by kernel_rfl) (by kernel_rfl) pn pn rfl rfl (Nat.le_refl _) (by omega) ?_; intro w2 A2 s2 b2; have hr2 := hr.below b2; have hT2 := hT.below b2; have hA2 : ∀ q, q < n -> w2.cell? ⟨Bh, q, none⟩ = some (.int .u8 (Qb hl q)) := fun q hq => by rw [b2.cell (World.block_lt_of_cell? _ _ (hA q hq))]; exact hA q hq)
    | (with_reducible refine UQ 20 ?_; refine Gc rfl _ _ _ _ rfl 5 Tryd.underlying23 (by kernel_rfl) w1.heap.size Bh _ _ pn n rfl rfl .u8 _ hl A2 hA2 (by simp) hll (by omega) ?_; rw [hrd, hq0]; intro A3; have c3 := A3.cell (k := n) (by omega); have f3 := A3.free (k := n) (by omega)))
  have hs2 := b2.size
  have hrA : QQ ((w2.setRow w1.heap.size (q0.map (Value.int .u8)).toArray).setCell ⟨w1.heap.size, n, none⟩ (.int .u8 128)) B st := hr2.but (XB (Y4 _ _ _) _ _) (by simp; omega)
  have hTA : Zb ((w2.setRow w1.heap.size (q0.map (Value.int .u8)).toArray).setCell ⟨w1.heap.size, n, none⟩ (.int .u8 128)) := hT2.but (XB (Y4 _ _ _) _ _) (by have := hT.lt.1; omega) (by have := hT.lt.2; omega)
  have hgA : w1.grownBy ((w2.setRow w1.heap.size (q0.map (Value.int .u8)).toArray).setCell ⟨w1.heap.size, n, none⟩ (.int .u8 128)) (some B) := UG ((Z9 b2 (Nat.le_refl _) _).setCell (Nat.le_refl _) _) B
  have A4 := A3.set n 128
  rw [hp0] at A4
  generalize (w2.setRow w1.heap.size (q0.map (Value.int .u8)).toArray).setCell ⟨w1.heap.size, n, none⟩ (.int .u8 128) = w4 at *
  clear hr2 hT2 hA2 A2 A3 c3 f3 hp0 hla hrd hq0 hwd HP
  go_loopw [28] (fun i wr => ∃ (k : Nat), k <= 8 /\ i = .int .i64 k /\ QQ wr B st /\ Zb wr /\ ZR .u8 wr w1.heap.size (UN pb tot k) /\ w1.grownBy wr (some B)) (fun i _ => 8 - (intOf i).toNat)
  case atStart => exact ⟨0, by omega, rfl, hrA, hTA, A4, hgA⟩
  case round =>
    clear hrA hTA A4 hgA
    obtain ⟨k, hk, rfl, hr4, hT4, A4, hg4⟩ := hrel
    have hl4 := Fa pb tot k
    by_cases hlt : k < 8
    . have hnx : UN pb tot (k + 1) = (UN pb tot k).set (pn - 1 - k) (tot * 8 / 2 ^ (8 * k) % 256) := by rw [<- hpl]; rfl
      generalize UN pb tot k = ps at *
      obtain ⟨j, e1, ej⟩ : ∃ j : Nat, (pn : Int) - 1 - (k : Int) = (j : Int) /\ pn - 1 - k = j := ⟨pn - 1 - k, by omega, rfl⟩
      rw [ej] at hnx
      have hj : j < pn := by omega
      have hjI : (j : Int) < pn := by omega
      have cj := A4.cell (k := j) (by omega)
      have fj := A4.free (k := j) (by omega)
      replace hnx := Lib.hid hnx
      clear ej
      go_wp2
      refine ⟨⟨k + 1, by omega, by go_num, hr4.but (XB (World.grownBy.refl wr (some w1.heap.size)) j _) (by simp; omega), hT4.but (XB (World.grownBy.refl wr (some w1.heap.size)) j _) (by have := hT.lt.1; omega) (by have := hT.lt.2; omega), ?_, ?_⟩, by simp only [intOf]; omega⟩
      . rw [hnx.out]
        exact A4.set j _
      . exact Qa9 hg4 _ _ (Nat.le_refl _)
    . obtain rfl : k = 8 := by omega
      have hwd := hr4.width
      have hpsb := Jx hpb tot 8
      generalize hps : UN pb tot 8 = ps at *
      replace hps := Lib.hid hps
      have HBS := fun W => YW 64 W (by omega)
      obtain ⟨nb, hnb⟩ : ∃ nb, pn / 128 = nb := ⟨_, rfl⟩
      have hpnb : pn = nb * 128 := by omega
      have hps0 : ps.length = pn := by rw [hl4, hpl]
      clear hl4
      replace hnb := Lib.hid hnb
      replace hpnb := Lib.hid hpnb
      go_wp2_with (first
        | (go_at_call 75; (with_reducible refine (HBS _).mono ?_); rintro e w9 ⟨rfl, rfl⟩))
      go_loopw [6] (fun v wr => ∃ (k m o' : Nat), k <= nb /\ m = pn - k * 128 /\ (0 < m -> o' = k * 128) /\ v = .slice (some ⟨w1.heap.size, o', none⟩) m m /\ QQ wr B (QW st ps k) /\ Zb wr /\ ZR .u8 wr w1.heap.size ps /\ w1.grownBy wr (some B)) (fun v _ => match v with | .slice _ n _ => n | _ => 0)
      case atStart => exact ⟨0, pn, 0, by omega, by omega, fun _ => by omega, rfl, hr4, hT4, A4, hg4⟩
      case round =>
        clear hr4 hT4 A4 hg4 hwd
        obtain ⟨k, m, o', hk, hm, ho', rfl, hr4, hT4, A4, hg4⟩ := hrel
        have hpn2 := hpnb.out
        by_cases hlt : k < nb
        . obtain rfl : o' = k * 128 := ho' (by omega)
          clear ho'
          have hmI : (0 : Int) < (m : Int) := by omega
          have hmB : (128 : Int) <= (m : Int) := by omega
          have hlen : ((ps.drop (k * 128)).take 128).length = 128 := by simp; omega
          have hv : Ue .u8 wr (.slice (some ⟨w1.heap.size, k * 128, none⟩) 128 m) ((ps.drop (k * 128)).take 128) := by
            refine ⟨some ⟨w1.heap.size, k * 128, none⟩, m, by rw [hlen], by omega, by unfold maxLen; omega, fun q hq => ⟨_, _, rfl, ?_⟩, by simp⟩
            rw [hlen] at hq
            have hcq := A4.cell (k := k * 128 + q) (by omega)
            rw [hcq]
            simp [Qb, hq]
          have hvb : Qd ((ps.drop (k * 128)).take 128) := fun x hx => hpsb x (List.mem_of_mem_drop (List.mem_of_mem_take hx))
          have hnx : QW st ps (k + 1) = Yc (QW st ps k) ((ps.drop (k * 128)).take 128) := rfl
          generalize (ps.drop (k * 128)).take 128 = zs at *
          generalize QW st ps k = s1 at *
          have HT := Hw wr B s1 hr4 hT4 hs hc _ zs hv hvb hlen
          replace hnx := Lib.hid hnx
          replace hm := Lib.hid hm
          clear hpn2
          go_wp2_with (first
            | (go_at_call 76; (with_reducible refine HT.mono ?_); rintro e w9 ⟨⟨v9, rfl⟩, hr9, hg9⟩))
          have hm2 := hm.out
          have hpn3 := hpnb.out
          have hne : B ≠ w1.heap.size := by omega
          have hT9 := hT4.but hg9 hs hc
          have A9 := Je A4 hg9 (by simpa using fun e => hne e.symm)
          have hg10 := Vs hg4 hg9
          by_cases e : m = 128
          . rw [if_pos e]
            refine ⟨⟨k + 1, m - 128, k * 128, by omega, by omega, fun h => by omega, rfl, ?_, hT9, A9, hg10⟩, by show m - 128 < m; omega⟩
            rw [hnx.out]; exact hr9
          . rw [if_neg e]
            refine ⟨⟨k + 1, m - 128, k * 128 + 128, by omega, by omega, fun h => by omega, rfl, ?_, hT9, A9, hg10⟩, by show m - 128 < m; omega⟩
            rw [hnx.out]; exact hr9
        . obtain rfl : k = nb := by omega
          have hm0 : m = 0 := by omega
          subst hm0
          clear hm hpn2
          go_wp2
          refine bodyPost_end (results_none rfl _ _ _) rfl ?_
          rw [hnb.out, hps.out]
          exact ⟨⟨_, rfl⟩, hr4, hg4⟩
theorem E8 {a b : List Int} (ha : ∀ x ∈ a, 0 <= x /\ x <= 255) (hb : ∀ x ∈ b, 0 <= x /\ x <= 255) : Qd (a ++ b) := fun x hx => (List.mem_append.1 hx).elim (ha x) (hb x)
/-- A slice of slices of bytes. -/
def RdP (w : World) (v : Value) (ps : List (Value × List Int)) : Prop :=
  ∃ a cap, v = .slice a ps.length cap /\ (ps.length <= cap /\ cap <= maxLen) /\ (∀ k (hk : k < ps.length), ∃ x o, a = some ⟨x, o, none⟩ /\ w.cell? ⟨x, o + k, none⟩ = some (ps[k]'hk).1) /\ ∀ p ∈ ps, Ue .u8 w p.1 p.2 /\ Qd p.2
/-- QP bytes of so many parts. -/
def Yu (ps : List (Value × List Int)) : List Int := (ps.map (·.2)).flatten
theorem Ks {ps : List (Value × List Int)} {i : Nat} (h : i < ps.length) : Yu (ps.take (i + 1)) = Yu (ps.take i) ++ (ps[i]'h).2 := by
  have e : ps.take (i + 1) = ps.take i ++ [ps[i]'h] := by rw [List.take_add_one, List.getElem?_eq_getElem h]; rfl
  rw [e]
  unfold Yu
  rw [List.map_append, List.flatten_append]
  simp only [List.map_cons, List.map_nil, List.flatten_cons, List.flatten_nil, List.append_nil]
theorem G4 (ps : List (Value × List Int)) (i : Nat) : (Yu (ps.take i)).length <= (Yu ps).length := by
  have h : Yu ps = Yu (ps.take i) ++ Yu (ps.drop i) := by
    rw [Yu, Yu, Yu, <- List.flatten_append, <- List.map_append, List.take_append_drop]
  rw [h, List.length_append]
  omega
theorem K7 {ps : List (Value × List Int)} (h : ∀ p ∈ ps, Qd p.2) : Qd (Yu ps) := fun x hx => by
  obtain ⟨l, hl, hxl⟩ := List.mem_flatten.1 hx
  obtain ⟨p, hp, rfl⟩ := List.mem_map.1 hl
  exact h p hp x hxl
theorem Qcq {w : World} {base e n g cap : Nat} {xs : List Value} (h : w.ownsRow base e 1 (.slice (some ⟨g, 0, none⟩) n cap) n xs) : w.ownsRow base e 1 (.slice (some ⟨g, 0, none⟩) 0 cap) 0 [] := by
  obtain ⟨-, h2⟩ := h
  rcases h2 with ⟨h3, -⟩ | ⟨g', cap', cur, e', hb, hh, hn, hm, hs, ht⟩
  . cases h3
  . cases e'
    exact ⟨rfl, .inr ⟨g, cap, cur, rfl, hb, hh, Nat.zero_le _, hm, hs, by simp⟩⟩
theorem Qc5 {a b c : World} {B g : Nat} (h : a.grownBy b (some B)) (k : b.grownBy c (some g)) (hg : a.heap.size <= g) : a.grownBy c (some B) :=
  ⟨k.os.trans h.os, k.tape.trans h.tape, k.output.trans h.output, Nat.le_trans h.size k.size, fun i hi hne => (k.block i (Nat.lt_of_lt_of_le hi h.size) (by simp; omega)).trans (h.block i hi hne)⟩
theorem Ue.cut {w : World} {x o n c cap : Nat} {zs : List Int} (h : Ue .u8 w (.slice (some ⟨x, o, none⟩) n cap) zs) (hc : c <= zs.length) (q : Option Addr) (hq : c = cap \/ q = some ⟨x, o + c, none⟩) (hq2 : c = cap -> ∃ y, q = some y) : Ue .u8 w (.slice q (n - c) (cap - c)) (zs.drop c) := by
  obtain ⟨a, cap', e, h1, h2, h3, h4⟩ := h
  cases e
  refine ⟨q, cap - c, by simp, by simp; omega, by omega, fun k hk => ?_, fun e => ?_⟩
  . have hk' : c + k < zs.length := by simp at hk; omega
    obtain ⟨x', o', e', hc'⟩ := h3 (c + k) hk'
    cases e'
    rcases hq with rfl | rfl
    . omega
    . exact ⟨x, o + c, rfl, by rw [Nat.add_assoc, hc', QdJ]⟩
  . subst e
    rcases hq with hq | hq
    . omega
    . cases hq
theorem Yx (st D E : List Int) : ∀ k, k * 128 <= D.length -> QW st (D ++ E) k = QW st D k
  | 0, _ => rfl
  | k + 1, h => by
    show Yc (QW st (D ++ E) k) (((D ++ E).drop (k * 128)).take 128) = Yc (QW st D k) ((D.drop (k * 128)).take 128)
    rw [Yx st D E k (by omega), List.drop_append_of_le_length (by omega), List.take_append_of_le_length (by simp; omega)]
/-- The state and what is held behind so many bytes. -/
def Yy (st D : List Int) : List Int := QW st D (D.length / 128)
def Q8 (D : List Int) : List Int := D.drop (D.length / 128 * 128)
theorem JO (D : List Int) : (Q8 D).length = D.length % 128 := by simp [Q8]; omega
theorem EQ (st D E : List Int) (h : D.length % 128 + E.length < 128) : Yy st (D ++ E) = Yy st D /\ Q8 (D ++ E) = Q8 D ++ E := by
  have e : (D ++ E).length / 128 = D.length / 128 := by rw [List.length_append]; omega
  unfold Yy Q8
  rw [e]
  exact ⟨Yx st D E _ (by omega), List.drop_append_of_le_length (by omega)⟩
theorem FE (st D E : List Int) (h : D.length % 128 + E.length = 128) : Yy st (D ++ E) = Yc (Yy st D) (Q8 D ++ E) /\ Q8 (D ++ E) = [] := by
  have e : (D ++ E).length / 128 = D.length / 128 + 1 := by rw [List.length_append]; omega
  unfold Yy Q8
  rw [e]
  constructor
  . show Yc (QW st (D ++ E) (D.length / 128)) (((D ++ E).drop (D.length / 128 * 128)).take 128) = _
    rw [Yx st D E _ (by omega), List.drop_append_of_le_length (by omega), List.take_of_length_le (by simp; omega)]
  . rw [List.drop_eq_nil_iff, List.length_append]; omega
theorem QeX : ∃ i, Tryd.prog.info? 5 = some i /\ i.zero = some (.int .u8 0) /\ i.size = 1 /\ i.bytes = 1 := by
  have h : (Tryd.prog.info? 5).map (fun i => (i.zero, i.size, i.bytes)) = some (some (.int .u8 0), 1, 1) := by kernel_rfl
  obtain ⟨i, hi, hz⟩ := Option.map_eq_some_iff.1 h
  simp only [Prod.mk.injEq] at hz
  exact ⟨i, hi, hz.1, hz.2.1, hz.2.2⟩
set_option maxHeartbeats 4000000 in
theorem Qfw (w0 w : World) (hb0 : Below w0.heap.size w0 w) (B : Nat) (st : List Int) (hr : QQ w B st) (hBn : w0.heap.size <= B) (hT : Zb w0) (v : Value) (ps : List (Value × List Int)) (hp : RdP w0 v ps) (hlen : (Yu ps).length < 1099511627776) :
    Calls Tryd.prog 48 #[.pointer (some ⟨B, 0, none⟩), v] w fun e w' => (∃ v, e = .returned v) /\ QQ w' B (QW (Yy st (Yu ps)) (UN (YO (Q8 (Yu ps)) ((Yu ps).length % 128)) ((Yu ps).length : Int) 8) (Q6 ((Yu ps).length % 128) / 128)) /\ w.grownBy w' (some B) := by
  obtain ⟨j0, hj, hy0, hy1, hy2⟩ := QeX
  obtain ⟨a, cap, rfl, ⟨hpc, hcm⟩, hcell, hrd⟩ := hp
  have hpl : (ps.length : Int) <= 9223372036854775807 := by unfold maxLen at hcm; omega
  clear hpc hcm
  have hB := hr.lt
  have hwd := hr.width
  have hs0 := hb0.size
  replace hcell := Lib.hid hcell
  replace hrd := Lib.hid hrd
  have HBS := fun W => YW 64 W (by omega)
  go_enter Tryd.func48, Tryd.ntmps48
  go_wp2_with (first
    | (go_at_call 75; (with_reducible refine (HBS _).mono ?_); rintro e w9 ⟨rfl, rfl⟩)
    | (with_reducible refine UQ 16 ?_; refine wpList_make_own _ rfl _ _ 23 rfl w9.heap.size 5 j0 (.int .u8 0) 1 Tryd.underlying23 hj hy0 hy1 .i64 .i64 128 128 rfl rfl (by omega) (by rw [hy2]; omega) (by unfold maxLen; omega) (Nat.le_refl _) ?_; intro w1 hown1 hgr1))
  have hg1 : w9.grownBy w1 (some B) := ⟨hgr1.os, hgr1.tape, hgr1.output, hgr1.size, fun k hk _ => hgr1.block k hk (by simp)⟩
  have hr1 : QQ w1 B st := hr.but hgr1 (by simp)
  clear hgr1 hwd
  go_loopw [5, 6, 19] (fun v5 v6 v19 wr => ∃ (i : Nat), i <= ps.length /\ v19 = .int .i64 i /\ v6 = .int .i64 ((Yu (ps.take i)).length : Nat) /\ v5 = .slice (some ⟨w9.heap.size, 0, none⟩) ((Yu (ps.take i)).length % 128) 128 /\ QQ wr B (Yy st (Yu (ps.take i))) /\ wr.ownsRow w9.heap.size 5 1 (.slice (some ⟨w9.heap.size, 0, none⟩) ((Yu (ps.take i)).length % 128) 128) ((Yu (ps.take i)).length % 128) ((Q8 (Yu (ps.take i))).map (Value.int .u8)) /\ w9.grownBy wr (some B)) (fun _ _ i _ => ps.length - (intOf i).toNat)
  case atStart =>
    have z0 : Yu (ps.take 0) = [] := by rw [List.take_zero]; rfl
    have z1 : Yy st [] = st := by simp [Yy, QW]
    have z2 : Q8 [] = [] := by simp [Q8]
    refine ⟨0, by omega, rfl, by rw [z0]; rfl, by rw [z0]; rfl, by rw [z0, z1]; exact hr1, by rw [z0, z2]; exact hown1, hg1⟩
  case round =>
    clear hr1 hown1 hg1
    obtain ⟨i, hi, rfl, rfl, rfl, hr1, hown1, hg1⟩ := hrel
    have hB1 : Below w0.heap.size w0 wr := hb0.grown hg1 hs0 (fun k hk => by cases hk; exact hBn)
    by_cases hlt : i < ps.length
    . obtain ⟨x, o, rfl, hc⟩ := hcell.out i hlt
      obtain ⟨hrp, hbz⟩ := hrd.out _ (List.getElem_mem hlt)
      have hct := Ks hlt
      have hle := G4 ps (i + 1)
      rw [hct, List.length_append] at hle
      have hltI : (i : Int) < (ps.length : Int) := by omega
      have hltH := Lib.hid hlt
      have hbD : RowKit.Hid (Qd (Yu (ps.take i))) := Lib.hid (K7 fun p hp => (hrd.out p (List.mem_of_mem_take hp)).2)
      generalize (ps[i]'hlt).2 = zs at *
      generalize (ps[i]'hlt).1 = pv at *
      generalize hD : Yu (ps.take i) = D at *
      replace hct := Lib.hid hct
      replace hD := Lib.hid hD
      replace hc : wr.cell? ⟨x, o + i, none⟩ = some pv := by rw [hB1.cell (World.block_lt_of_cell? w0 _ hc)]; exact hc
      obtain ⟨ap, capp, rfl, hp1, hp2, hp3, hp4⟩ := hrp
      have hrp : Ue .u8 w0 (.slice ap zs.length capp) zs := ⟨ap, capp, rfl, hp1, hp2, hp3, hp4⟩
      replace hp3 := Lib.hid hp3
      replace hrp := Lib.hid hrp
      have hDn : ((D.length : Nat) : Int) < 1099511627776 := by omega
      have hzn : ((zs.length : Nat) : Int) < 1099511627776 := by omega
      have hDl : (D.length : Int) + (zs.length : Int) < 1099511627776 := by omega
      clear hp4 hle
      go_wp2
      go_loopw [5, 8] (fun v5 v8 wq => ∃ (E rest : List Int), zs = E ++ rest /\ Ue .u8 w0 v8 rest /\ v5 = .slice (some ⟨w9.heap.size, 0, none⟩) ((D ++ E).length % 128) 128 /\ QQ wq B (Yy st (D ++ E)) /\ wq.ownsRow w9.heap.size 5 1 (.slice (some ⟨w9.heap.size, 0, none⟩) ((D ++ E).length % 128) 128) ((D ++ E).length % 128) ((Q8 (D ++ E)).map (Value.int .u8)) /\ w9.grownBy wq (some B)) (fun _ v8 _ => match v8 with | .slice _ n _ => n | _ => 0)
      case atStart => exact ⟨[], zs, rfl, hrp.out, by rw [List.append_nil], by rw [List.append_nil]; exact hr1, by rw [List.append_nil]; exact hown1, hg1⟩
      case round =>
        clear hr1 hown1 hg1 hB1 hc
        obtain ⟨E, rest, hz, hrq, rfl, hr1, hown1, hg1⟩ := hrel
        have hB1 := hb0.grown hg1 hs0 (fun k hk => by cases hk; exact hBn)
        have hzl : zs.length = E.length + rest.length := by rw [hz, List.length_append]
        have hFl : (D ++ E).length = D.length + E.length := List.length_append
        have hbF' : Qd (D ++ E) := fun x hx => by
          rcases List.mem_append.1 hx with h | h
          . exact hbD.out x h
          . exact hbz x (by rw [hz]; simp [h])
        have hbr : Qd rest := fun x hx => hbz x (by rw [hz]; simp [hx])
        obtain ⟨aq, capq, rfl, q1, q2, q3, q4⟩ := hrq
        have hrq : Ue .u8 w0 (.slice aq rest.length capq) rest := ⟨aq, capq, rfl, q1, q2, q3, q4⟩
        replace hrq := Lib.hid hrq
        replace q3 := Lib.hid q3
        by_cases hr0 : 0 < rest.length
        . obtain ⟨y, oy, rfl, -⟩ := q3.out 0 hr0
          have hn := Nat.mod_lt (D ++ E).length (show 0 < 128 by decide)
          have hhl := JO (D ++ E)
          have hrI : (0 : Int) < (rest.length : Int) := by omega
          replace hz := Lib.hid hz
          replace hzl := Lib.hid hzl
          replace hFl := Lib.hid hFl
          generalize hF : D ++ E = F at *
          have hbF := Lib.hid hbF'
          clear hbF'
          replace hF := Lib.hid hF
          generalize hnn : F.length % 128 = n at *
          replace hnn := Lib.hid hnn
          obtain ⟨c, hcd⟩ : ∃ c, c = if n + rest.length < 128 then rest.length else 128 - n := ⟨_, rfl⟩
          have hc0 : 0 < c /\ c <= rest.length /\ n + c <= 128 /\ (n + c < 128 -> c = rest.length) := by split at hcd <;> omega
          have hmin : min ((128 : Int) - (n : Int)) (rest.length : Int) = (c : Int) := by split at hcd <;> omega
          obtain ⟨hc1, hc2, hc3, hc4⟩ := hc0
          have hcI : (c : Int) <= (rest.length : Int) := by omega
          have hcI0 : (0 : Int) <= (c : Int) := by omega
          have hnw : ((rest.take c).map (Value.int .u8)).length = c * 1 := by simp [hc2]
          have hcw : ∀ j u, ((rest.take c).map (Value.int .u8))[j]? = some u -> wr.cell? ((⟨y, oy, none⟩ : Addr).add j) = some u := fun j u hj => by
            have hjc : j < c := by
              have := (List.getElem?_eq_some_iff.1 hj).1
              rw [hnw] at this
              omega
            obtain ⟨y', oy', e, hcy⟩ := q3.out j (by omega)
            cases e
            rw [Addr.add_lit, hB1.cell (World.block_lt_of_cell? w0 _ hcy), hcy, <- hj]
            simp [hjc, Qb, show j < rest.length by omega]
          have hone : ∀ u ∈ (rest.take c).map (Value.int .u8), u.oneCell' = true := by
            intro u hu
            obtain ⟨z, -, rfl⟩ := List.mem_map.1 hu
            rfl
          replace hnw := Lib.hid hnw
          replace hcw := Lib.hid hcw
          replace hone := Lib.hid hone
          replace hcd := Lib.hid hcd
          replace hc4 := Lib.hid hc4
          clear q4 hzn hDn hDl
          have hG : D ++ (E ++ rest.take c) = F ++ rest.take c := by rw [<- List.append_assoc, hF.out]
          have hzc : zs = (E ++ rest.take c) ++ rest.drop c := by rw [List.append_assoc, List.take_append_drop]; exact hz.out
          have hXl : (rest.take c).length = c := by simp [hc2]
          have hBB : B ≠ w9.heap.size := by omega
          have hgB2 : ∀ w2, wr.grownBy w2 (some w9.heap.size) -> w9.grownBy w2 (some B) := fun w2 hg2 => Qc5 hg1 hg2 (Nat.le_refl _)
          have hTt := hT.lt
          have hTsq : 1 ≠ B := by omega
          have hTcu : 3 ≠ B := by omega
          have hcut : Ue .u8 w0 (.slice (if capq = c then some ⟨y, oy, none⟩ else some ⟨y, oy + c, none⟩) (rest.length - c) (capq - c)) (rest.drop c) := by
            by_cases e : capq = c
            . rw [if_pos e]; exact Ue.cut hrq.out hc2 (some ⟨y, oy, none⟩) (.inl e.symm) (fun _ => ⟨_, rfl⟩)
            . rw [if_neg e]; exact Ue.cut hrq.out hc2 (some ⟨y, oy + c, none⟩) (.inr rfl) (fun _ => ⟨_, rfl⟩)
          replace hG := Lib.hid hG
          replace hzc := Lib.hid hzc
          replace hXl := Lib.hid hXl
          replace hgB2 := Lib.hid hgB2
          replace hcut := Lib.hid hcut
          clear hz
          by_cases hful : n + c = 128
          . have hfI : ((n : Nat) : Int) + ((c : Nat) : Int) = 128 := by omega
            have hff := FE st F (rest.take c) (by rw [hnn.out, hXl.out, hful])
            have hvl : (Q8 F ++ rest.take c).length = 128 := by rw [List.length_append, hhl, hXl.out, hful]
            have hGl : (F ++ rest.take c).length % 128 = 0 := by rw [List.length_append, hXl.out]; have := hnn.out; omega
            have hvb : Qd (Q8 F ++ rest.take c) := E8 (fun x hx => ?hb1) (fun x hx => hbr x (List.mem_of_mem_take hx))
            case hb1 => exact hbF.out x (List.mem_of_mem_drop hx)
            obtain ⟨hff1, hff2⟩ := hff
            replace hff1 := Lib.hid hff1
            replace hff2 := Lib.hid hff2
            replace hvb := Lib.hid hvb
            replace hGl := Lib.hid hGl
            replace hvl := Lib.hid hvl
            go_wp2_with (first
              | (with_reducible refine UQ 41 ?_; refine wpList_append_fits _ rfl _ _ 23 rfl w9.heap.size 5 j0 1 Tryd.underlying23 hj hy1 w9.heap.size n 128 _ rfl hown1 ⟨y, oy, none⟩ c capq _ rfl hnw.out hcw.out hone.out hc3 ?_; intro w2 hown2 hg2; rw [hful, <- List.map_append] at hown2; have hr2 := hr1.but hg2 (by simpa using hBB); have hgg2 := hgB2.out _ hg2; have hT2 : Zb w2 := hT.below (hb0.grown hgg2 hs0 (fun k hk => by cases hk; exact hBn)); have hv2 := Ue.of_own hown2; have HT := Hw w2 B _ hr2 hT2 hTsq hTcu _ _ hv2 hvb.out hvl.out)
              | (go_at_call 76; (with_reducible refine HT.mono ?_); rintro e w3 ⟨⟨v9, rfl⟩, hr3, hg3⟩; have hown3 := Qcq (hown2.kept hg3 (.inr (by simpa [Value.ownBlock] using fun e => hBB e.symm))); have hgg3 := Vs hgg2 hg3))
            refine ⟨⟨E ++ rest.take c, rest.drop c, hzc.out, hcut.out, by rw [hG.out, hGl.out], ?_, ?_, hgg3⟩, by show rest.length - c < rest.length; omega⟩
            . rw [hG.out, hff1.out]; exact hr3
            . rw [hG.out, hff2.out, hGl.out]; exact hown3
          . have hneI : ¬ (((n : Nat) : Int) + ((c : Nat) : Int) = 128) := by omega
            have hff := EQ st F (rest.take c) (by rw [hnn.out, hXl.out]; omega)
            have hGl : (F ++ rest.take c).length % 128 = n + c := by rw [List.length_append, hXl.out]; have := hnn.out; omega
            obtain ⟨hff1, hff2⟩ := hff
            replace hff1 := Lib.hid hff1
            replace hff2 := Lib.hid hff2
            replace hGl := Lib.hid hGl
            go_wp2_with (first
              | (with_reducible refine UQ 41 ?_; refine wpList_append_fits _ rfl _ _ 23 rfl w9.heap.size 5 j0 1 Tryd.underlying23 hj hy1 w9.heap.size n 128 _ rfl hown1 ⟨y, oy, none⟩ c capq _ rfl hnw.out hcw.out hone.out hc3 ?_; intro w2 hown2 hg2; rw [<- List.map_append] at hown2; have hr2 := hr1.but hg2 (by simpa using hBB); have hgg2 := hgB2.out _ hg2))
            refine ⟨⟨E ++ rest.take c, rest.drop c, hzc.out, hcut.out, by rw [hG.out, hGl.out], ?_, ?_, hgg2⟩, by show rest.length - c < rest.length; omega⟩
            . rw [hG.out, hff1.out]; exact hr2
            . rw [hG.out, hff2.out, hGl.out]; exact hown2
        . have hre : rest = [] := List.length_eq_zero_iff.1 (by omega)
          subst hre
          rw [List.append_nil] at hz
          subst hz
          clear hrq q3
          go_wp2
          have hlt2 := hltH.out
          refine ⟨⟨i + 1, by omega, by go_num, ?_, by rw [hct.out], by rw [hct.out]; exact hr1, by rw [hct.out]; exact hown1, hg1⟩, by simp only [intOf]; omega⟩
          rw [hct.out, List.length_append, Int.natCast_add]
    . obtain rfl : i = ps.length := by omega
      rw [List.take_length] at hr1 hown1
      rw [List.take_length]
      generalize hD : Yu ps = D at *
      have hhl := JO D
      have hbD : Qd (Q8 D) := fun x hx => by
        have := K7 fun p hp => (hrd.out p hp).2
        rw [hD] at this
        exact this x (List.mem_of_mem_drop hx)
      have hT1 : Zb wr := hT.below hB1
      have hTt := hT.lt
      have hmod : D.length % 128 < 128 := Nat.mod_lt _ (by decide)
      have hcl : ∀ q, q < D.length % 128 -> wr.cell? ⟨w9.heap.size, q, none⟩ = some (.int .u8 (Qb (Q8 D) q)) := fun q hq => by
        have h := Ue.of_own hown1
        obtain ⟨a', cap', e', h1, h2, h3, -⟩ := h
        obtain ⟨x', o', e2, hc2⟩ := h3 q (by rw [hhl]; exact hq)
        simp only [Value.slice.injEq] at e'
        obtain ⟨ea, -, -⟩ := e'
        rw [<- ea] at e2
        cases e2
        rwa [Nat.zero_add] at hc2
      have HL := QcX wr B _ hr1 hT1 (by omega) (by omega) w9.heap.size (Q8 D) (D.length % 128) hcl hhl hmod hbD (D.length : Int) (by omega) (by omega)
      clear hcl hown1
      go_wp2_with (first
        | (go_at_call 77; (with_reducible refine HL.mono ?_); rintro e w3 ⟨⟨v9, rfl⟩, hr3, hg3⟩))
      refine bodyPost_end (results_none rfl _ _ _) rfl ?_
      rw [hD]
      exact ⟨⟨_, rfl⟩, hr3, Vs hg1 hg3⟩
theorem Qbs {P : Program} {ops : Array Oper} {Q : Exit -> Act -> World -> Prop} {l : List Oper} {a : Act} {w : World} (h : ∀ W, W = w -> wpList P ops Q l a W) : wpList P ops Q l a w := h w rfl
/-- The sum of bytes. -/
def XM (D : List Int) : List Int := Za (QW (Yy Yw D) (UN (YO (Q8 D) (D.length % 128)) (D.length : Int) 8) (Q6 (D.length % 128) / 128))
theorem Hl : (Tryd.prog.info? 27).bind (·.zero) = some (.agg (Array.replicate 64 (Value.int .u8 0))) := by kernel_rfl
theorem JN : (Tryd.prog.info? 27).map (·.size) = some 64 := by kernel_rfl
theorem Dl : Tryd.prog.underlying 27 = some (.array 64 5) := by kernel_rfl
theorem Qau : ∀ x ∈ List.replicate 8 (0 : Int), Xp x := fun x hx => by
  obtain ⟨-, rfl⟩ := List.mem_replicate.1 hx
  unfold Xp; omega
theorem QbZ {w : World} {B : Nat} {cur : Array Value} {t : TypeId} (h : w.heap[B]? = some (.cells cur t (0, 0))) : QQ (w.setRow B #[.int .i64 64, .int .i64 80, .int .u64 0, .int .u64 0, .int .u64 0, .int .u64 0, .int .u64 0, .int .u64 0, .int .u64 0, .int .u64 0, .func (.func 42) #[] #[], .func (.func 44) #[] #[], .func (.func 45) #[] #[], .func (.func 46) #[] #[]]) B (List.replicate 8 0) :=
  ⟨rfl, Qau, t, setRow_heap _ _ _ _ _ _ h⟩
set_option maxHeartbeats 4000000 in
theorem Qd7 (w : World) (hT : Zb w) (v : Value) (ps : List (Value × List Int)) (hp : RdP w v ps) (hlen : (Yu ps).length < 1099511627776) :
    Calls Tryd.prog 21 #[v] w fun e w' => e = .returned (Xa .u8 (XM (Yu ps))) /\ Below w.heap.size w w' := by
  go_enter Tryd.func21, Tryd.ntmps21
  have hTt := hT.lt
  go_wp2_with (first
    | (with_reducible refine UQ 2 ?_; refine Xs rfl 27 rfl .u8 64 Hl ?_; intro w1 A1 s1 b1)
    | (with_reducible refine Qan (o := ⟨_, .store 82 _ _, _, _, _, _⟩) ?_; refine wpList_store_row rfl 82 _ _ rfl w1.heap.size _ rfl rfl 82 _ (heap_alloc_new _ _) (by kernel_rfl) (by simp) (by simp [Value.oneCell']) ?_; refine Qbs fun w3 hw3 => ?_; have hr3 : QQ w3 w1.heap.size (List.replicate 8 0) := (by rw [hw3]; exact QbZ (heap_alloc_new _ _)); have b3 : Below w1.heap.size w1 w3 := (by rw [hw3]; exact Z9 ((Below.refl _ _).alloc (Nat.le_refl _) _) (Nat.le_refl _) _); clear hw3; have bb3 := Zy b1 b3; have hT3 := hT.below bb3; replace A1 := A1.below b3; have s3 := hr3.lt)
    | (go_at_call 47; (with_reducible refine (Qbh w3 w1.heap.size _ hr3 hT3 (by omega) (by omega)).mono ?_); rintro e w4 ⟨⟨v4, rfl⟩, hr4, hg4⟩; have bb4 : Below w.heap.size w w4 := bb3.grown hg4 bb3.size (fun k hk => by cases hk; exact b1.size); replace A1 := Je A1 hg4 (by simp; omega))
    | (go_at_call 48; (with_reducible refine (Qfw w w4 bb4 w1.heap.size _ hr4 b1.size hT v ps hp hlen).mono ?_); rintro e w5 ⟨⟨v5, rfl⟩, hr5, hg5⟩; have bb5 : Below w.heap.size w w5 := bb4.grown hg5 bb4.size (fun k hk => by cases hk; exact b1.size); replace A1 := Je A1 hg5 (by simp; omega))
    | (with_reducible refine UQ 4 ?_; refine Xs rfl 27 rfl .u8 64 Hl ?_; intro w6 A6 s6 b6; have bb6 := Zy bb5 b6; replace A1 := A1.below b6; have hr6 := hr5.below b6; have hz6 := A1.lt; have hz7 := hr5.lt; have hz8 := b1.size; have hz9 := bb5.size)
    | (go_at_call 49; (with_reducible refine (QbF w6 w1.heap.size w5.heap.size _ _ hr6 A6 (by simp) (by omega)).mono ?_); rintro e w7 ⟨⟨v7, rfl⟩, A7, hg7⟩; have bb7 : Below w.heap.size w w7 := bb6.grown hg7 bb6.size (fun k hk => by cases hk; exact bb5.size); replace A1 := Je A1 hg7 (by simp; omega))
    | (with_reducible refine UQ 11 ?_; refine Vx rfl 27 _ rfl 64 5 Dl JN w5.heap.size rfl .u8 _ A7 (by simp [Za]) ?_)
    | (with_reducible refine Qan (o := ⟨_, .store 27 _ _, _, _, _, _⟩) ?_; refine ZK rfl 27 _ _ rfl 64 JN w.heap.size rfl .u8 _ _ rfl A1 (by simp) (by simp [Za]) ?_; intro A9))
  refine bodyPost_ret (Vd rfl _ 64 5 Dl JN w.heap.size rfl .u8 _ A9 (by simp [Za])) rfl ?_
  exact ⟨rfl, Z9 bb7 (Nat.le_refl _) _⟩
/-- The program's tables, sha's too. -/
def gS : List Qv := gT ++ [fG 1 (Xh.map (Value.int .u64)), fG 3 (Ys.map (Value.int .u64))]
theorem Qba (L : List Nat) (w : World) (h : Hs gS L w) : Hs gT L w := h.pre
theorem QgL {L : List Nat} {w : World} (h : Hs gS L w) : Zb w := by
  have h1 := (h.get (i := 3) rfl : (fG 1 (Xh.map (Value.int .u64))).h L w)
  have h2 := (h.get (i := 4) rfl : (fG 3 (Ys.map (Value.int .u64))).h L w)
  have hl1 : Xh.length = 8 := by decide
  have hl2 : Ys.length = 80 := by decide
  refine ⟨fun k hk => ?_, fun k hk => ?_⟩
  . have := h1.2.2 k (.int .u64 (Qb Xh k)) (by rw [List.getElem?_map]; unfold Qb; rw [List.getElem?_eq_getElem (by omega)]; rfl)
    rwa [Nat.zero_add] at this
  . have := h2.2.2 k (.int .u64 (Qb Ys k)) (by rw [List.getElem?_map]; unfold Qb; rw [List.getElem?_eq_getElem (by omega)]; rfl)
    rwa [Nat.zero_add] at this
theorem PV.up {P : Program} {G G' : List Qv} {F : FuncId} {args : List SV} {v : SV} (h : PV P G F args v) (hg : ∀ L w, Hs G' L w -> Hs G L w) : PV P G' F args v := ⟨h.fn, h.wa, h.wv, fun w L hL hG => h.h w L hL (hg L w hG)⟩
/-- A slice of numbers, read. -/
theorem Gv {w : World} {B o n c : Nat} {zs : List Int} {K : IntKind} (hr : w.rangeAt B o (zs.map (Value.int K))) (hl : zs.length = n) (hn : n <= c) (hc : c <= maxLen) : Ue K w (.slice (some ⟨B, o, none⟩) n c) zs := by
  refine ⟨_, c, by rw [hl], by omega, hc, fun k hk => ⟨B, o, rfl, ?_⟩, fun h => by cases h⟩
  exact hr k _ (by rw [List.getElem?_map]; unfold Qb; rw [List.getElem?_eq_getElem hk]; rfl)
theorem QfS (K : IntKind) : ∀ zs : List Int, (zs.map fun z => [Value.int K z]).flatten = zs.map (Value.int K)
  | [] => rfl
  | z :: l => by simp only [List.map_cons, List.flatten_cons, List.singleton_append, QfS K l]
theorem Qet {L : List Nat} {w : World} {v : Value} {zs : List Int} {K : IntKind} (h : Hb 1 L w v (zs.map fun z => [Value.int K z])) (hn : ∀ a n c, v = .slice a n c -> a = none -> c = 0) : Ue K w v zs := by
  obtain ⟨_, _, a, cap, rfl, h2, h3, h4, h5⟩ := h
  rw [List.length_map] at h2 ⊢
  refine ⟨a, cap, rfl, h2, h3, fun k hk => ?_, fun e => hn _ _ _ rfl e⟩
  obtain ⟨X, o, rfl, _, hc⟩ := h5 (fun e => by rw [List.map_eq_nil_iff] at e; subst e; simp at hk)
  refine ⟨X, o, rfl, hc k _ ?_⟩
  rw [QfS, List.getElem?_map]; unfold Qb; rw [List.getElem?_eq_getElem hk]; rfl
/-- A slice of slices. -/
theorem Eu {w : World} {B : Nat} {ps : List (Value × List Int)} (hb : X8 w B (ps.map (·.1))) (hm : ps.length <= maxLen) (hp : ∀ p ∈ ps, Ue .u8 w p.1 p.2 /\ Qd p.2) : RdP w (.slice (some ⟨B, 0, none⟩) ps.length ps.length) ps := by
  refine ⟨_, _, rfl, ⟨Nat.le_refl _, hm⟩, fun k hk => ⟨B, 0, rfl, ?_⟩, hp⟩
  have := hb.range k (ps[k]'hk).1 (by rw [List.getElem?_map, List.getElem?_eq_getElem hk]; rfl)
  rwa [Nat.zero_add] at this ⊢
theorem Eb {w : World} {L : List Nat} (hG : Hs gS L w) {v : Value} {ps : List (Value × List Int)} (hp : RdP w v ps) (hlen : (Yu ps).length < 1099511627776) (hs : (XM (Yu ps)).length = 64) : CX Tryd.prog 21 [v] w [] (fun _ : Unit => .a .u8 (XM (Yu ps)) 64) (fun _ => []) (fun _ => True) := by
  refine Calls.mono (Qd7 w (QgL hG) v ps hp hlen) fun e w' h => ?_
  exact ⟨_, h.1, ⟨(), by simp only [SV.den]; rfl, trivial, trivial⟩, h.2⟩
theorem XA (D : List Int) : (XM D).length = 64 := by unfold XM Za; simp
theorem ZD (D : List Int) : Qd (XM D) := by
  intro x hx
  unfold XM Za at hx
  simp only [List.mem_map] at hx
  obtain ⟨i, _, rfl⟩ := hx
  first | omega | (split <;> omega) | (constructor <;> omega)
/-- A slice of bytes that is read; nil has no room. -/
def fB (v : Value) (zs : List Int) : Qv := ⟨fun L w => Hb 1 L w v (zs.map fun z => [Value.int .u8 z]) /\ ∀ a n c, v = .slice a n c -> a = none -> c = 0, fun h hs hl => ⟨h.1.stp hs hl, h.2⟩⟩
theorem fB.rd {L : List Nat} {w : World} {v : Value} {zs : List Int} (h : (fB v zs).h L w) : Ue .u8 w v zs := Qet h.1 h.2
theorem Qgb {z : List Int} (hz : Qd z) (hl : z.length = 32) (k j : Nat) : PR Tryd.prog gS 21 [.y k 0 1 1] [(k, [.y j 0 32 32]), (j, [.a .u8 z 32])] (.a .u8 (XM z) 64) := PR.mk' Tryd.func21 rfl rfl rfl fun ρ w hG hm => by
  obtain ⟨b1, -⟩ := hm _ (.head _)
  obtain ⟨b2, -⟩ := hm _ (.tail _ (.head _))
  simp only [Qg, SV.cs, SV.den, List.append_nil] at b1 b2
  have hp := Eu (w := w) (B := ρ.b k) (ps := [(.slice (some ⟨ρ.b j, 0, none⟩) 32 32, z)]) b1 (by simp [maxLen]) (fun p hp => by
    simp only [List.mem_singleton] at hp
    subst hp
    exact ⟨Gv b2.range hl (by omega) (by simp [maxLen]), hz⟩)
  have e : Yu [(Value.slice (some ⟨ρ.b j, 0, none⟩) 32 32, z)] = z := by simp [Yu]
  have := Eb hG hp (by rw [e, hl]; omega) (XA _)
  rw [e] at this
  simp only [Qt, SV.den]
  exact this
theorem Qga {z m : List Int} {a : Option Addr} {n c : Nat} (hz : Qd z) (hl : z.length = 32) (hm : Qd m) (hml : m.length < 1000000) (k j : Nat) : PR Tryd.prog (gS ++ [fB (.slice a n c) m]) 21 [.y k 0 2 2] [(k, [.y j 0 32 32, .o a n c]), (j, [.a .u8 z 32])] (.a .u8 (XM (z ++ m)) 64) := PR.mk' Tryd.func21 rfl rfl rfl fun ρ w hG hmm => by
  obtain ⟨b1, -⟩ := hmm _ (.head _)
  obtain ⟨b2, -⟩ := hmm _ (.tail _ (.head _))
  simp only [Qg, SV.cs, SV.den, List.append_nil, List.cons_append, List.nil_append] at b1 b2
  have hr := fB.rd (hG.get (i := 5) rfl)
  have hp := Eu (w := w) (B := ρ.b k) (ps := [(.slice (some ⟨ρ.b j, 0, none⟩) 32 32, z), (.slice a n c, m)]) b1 (by simp [maxLen]) (fun p hp => by
    simp only [List.mem_cons, List.not_mem_nil, or_false] at hp
    rcases hp with rfl | rfl
    . exact ⟨Gv b2.range hl (by omega) (by simp [maxLen]), hz⟩
    . exact ⟨hr, hm⟩)
  have e : Yu [(Value.slice (some ⟨ρ.b j, 0, none⟩) 32 32, z), (.slice a n c, m)] = z ++ m := by simp [Yu]
  have := Eb hG.pre hp (by rw [e, List.length_append, hl]; omega) (XA _)
  rw [e] at this
  simp only [Qt, SV.den]
  exact this
theorem Qf9 {z y m : List Int} {a : Option Addr} {n c : Nat} (hz : Qd z) (hl : z.length = 32) (hy : Qd y) (hyl : y.length = 32) (hm : Qd m) (hml : m.length < 1000000) (k j i : Nat) : PR Tryd.prog (gS ++ [fB (.slice a n c) m]) 21 [.y k 0 3 3] [(k, [.y j 0 32 32, .y i 0 32 32, .o a n c]), (j, [.a .u8 z 32]), (i, [.a .u8 y 32])] (.a .u8 (XM (z ++ (y ++ m))) 64) := PR.mk' Tryd.func21 rfl rfl rfl fun ρ w hG hmm => by
  obtain ⟨b1, -⟩ := hmm _ (.head _)
  obtain ⟨b2, -⟩ := hmm _ (.tail _ (.head _))
  obtain ⟨b3, -⟩ := hmm _ (.tail _ (.tail _ (.head _)))
  simp only [Qg, SV.cs, SV.den, List.append_nil, List.cons_append, List.nil_append] at b1 b2 b3
  have hr := fB.rd (hG.get (i := 5) rfl)
  have hp := Eu (w := w) (B := ρ.b k) (ps := [(.slice (some ⟨ρ.b j, 0, none⟩) 32 32, z), (.slice (some ⟨ρ.b i, 0, none⟩) 32 32, y), (.slice a n c, m)]) b1 (by simp [maxLen]) (fun p hp => by
    simp only [List.mem_cons, List.not_mem_nil, or_false] at hp
    rcases hp with rfl | rfl | rfl
    . exact ⟨Gv b2.range hl (by omega) (by simp [maxLen]), hz⟩
    . exact ⟨Gv b3.range hyl (by omega) (by simp [maxLen]), hy⟩
    . exact ⟨hr, hm⟩)
  have e : Yu [(Value.slice (some ⟨ρ.b j, 0, none⟩) 32 32, z), (.slice (some ⟨ρ.b i, 0, none⟩) 32 32, y), (.slice a n c, m)] = z ++ (y ++ m) := by simp [Yu]
  have := Eb hG.pre hp (by rw [e, List.length_append, List.length_append, hl, hyl]; omega) (XA _)
  rw [e] at this
  simp only [Qt, SV.den]
  exact this
theorem UW : Tryd.prog.underlying 65 = some (.array 5 32) := by kernel_rfl
theorem JT {W : World} {name : String} {zs : List Int} {g : Nat} (h : Go.Lib.TabIs Tryd.prog W name .u64 zs) (hg : Tryd.prog.globalNamed name = some g) (h0 : 0 < zs.length) : (fG g (zs.map (Value.int .u64))).h [] W := by
  refine ⟨fun h => (by cases h), World.block_lt_of_cell? W _ (h.cell hg 0 h0), fun j v hv => ?_⟩
  rw [List.getElem?_map] at hv
  by_cases hj : j < zs.length
  . rw [List.getElem?_eq_getElem hj] at hv
    have e := Option.some.inj hv
    have := h.cell hg j hj
    rw [Nat.zero_add, this, <- e]
    simp [List.getD, hj]
  . rw [List.getElem?_eq_none (by omega)] at hv
    cases hv
theorem QdI {W : World} {rest : List (String × DataW Unit)} (h : laidMet Tryd.prog (("vouchsafe/curve.base", Rows.laid_vouchsafe_curve_base) :: rest) W) : Go.Lib.TabIs Tryd.prog W "vouchsafe/curve.base" .u64 V6 := by
  obtain ⟨ps, ⟨g', t', cs, fuel, p, q, hg', ht', hvar, hd, _, _⟩, _⟩ := h
  have hg : Tryd.prog.globalNamed "vouchsafe/curve.base" = some 0 := by kernel_rfl
  obtain rfl := Option.some.inj (hg.symm.trans hg')
  have ht : (Tryd.prog.globals[0]?).map (·.type) = some 67 := by kernel_rfl
  obtain rfl := Option.some.inj (ht.symm.trans ht')
  obtain ⟨y0, y1, n, hx, hl, h0, h1⟩ := Go.ChangeShapes.trod_struct2 Tryd.underlying67 hd
  have e0 : y0.1 = Go.Lib.tabData .u64 (V6.take 5) := by
    have := congrArg Prod.fst hx
    simp only [Rows.laid_vouchsafe_curve_base, DataW.agg.injEq, List.cons.injEq] at this
    exact this.1.symm
  have e1 : y1.1 = Go.Lib.tabData .u64 (V6.drop 5) := by
    have := congrArg Prod.fst hx
    simp only [Rows.laid_vouchsafe_curve_base, DataW.agg.injEq, List.cons.injEq] at this
    exact this.2.1.symm
  have c0 := Go.Lib.cells_of_tab (zs := V6.take 5) (k := .u64) UW Tryd.underlying32 (by kernel_rfl) (by kernel_rfl) (h0.trans (by rw [<- e0]))
  have c1 := Go.Lib.cells_of_tab (zs := V6.drop 5) (k := .u64) UW Tryd.underlying32 (by kernel_rfl) (by kernel_rfl) (h1.trans (by rw [<- e1]))
  have hc : Tryd.prog.cellsOf 67 = 10 := by kernel_rfl
  have hc5 : Tryd.prog.cellsOf 65 = 5 := by kernel_rfl
  rw [hc] at hl
  simp only [hc5, List.drop_zero] at c0 c1
  have e : cs.toList = V6.map fun z => Value.int .u64 z := by
    rw [<- List.take_append_drop 5 cs.toList, c0]
    rw [List.take_of_length_le (by simp at hl ⊢; omega)] at c1
    rw [c1]
    rfl
  unfold Go.Lib.TabIs
  rw [hvar, <- e]
theorem Qa8 {W : World} (hL : laidMet Tryd.prog [("vouchsafe/field.rootOfMinusOne", Rows.laid_vouchsafe_field_rootOfMinusOne), ("vouchsafe/curve.d", Rows.laid_vouchsafe_curve_d), ("vouchsafe/curve.base", Rows.laid_vouchsafe_curve_base), ("vouchsafe/sha.cubes", Rows.laid_vouchsafe_sha_cubes), ("vouchsafe/sha.squares", Rows.laid_vouchsafe_sha_squares)] W) : Hs gS [] W := by
  have h1 : Go.Lib.TabIs Tryd.prog W "vouchsafe/field.rootOfMinusOne" .u64 rmL :=
    Go.Lib.tabIs_of_head (g := 4) (t := 65) (e := 32) (n := 5) (by kernel_rfl) (by kernel_rfl) UW (by kernel_rfl) (by kernel_rfl) (by kernel_rfl) hL
  have t1 := laidMet.tail hL
  have h2 : Go.Lib.TabIs Tryd.prog W "vouchsafe/curve.d" .u64 dL :=
    Go.Lib.tabIs_of_head (g := 2) (t := 65) (e := 32) (n := 5) (by kernel_rfl) (by kernel_rfl) UW (by kernel_rfl) (by kernel_rfl) (by kernel_rfl) t1
  have t2 := laidMet.tail t1
  have h3 := QdI t2
  have t3 := laidMet.tail t2
  have h4 : Go.Lib.TabIs Tryd.prog W "vouchsafe/sha.cubes" .u64 Ys :=
    Go.Lib.tabIs_of_head (g := 3) (t := 122) (e := 32) (n := 80) (by kernel_rfl) (by kernel_rfl) Tryd.underlying122 Tryd.underlying32 (by kernel_rfl) (by kernel_rfl) t3
  have t4 := laidMet.tail t3
  have h5 : Go.Lib.TabIs Tryd.prog W "vouchsafe/sha.squares" .u64 Xh :=
    Go.Lib.tabIs_of_head (g := 1) (t := 76) (e := 32) (n := 8) (by kernel_rfl) (by kernel_rfl) Tryd.underlying76 Tryd.underlying32 (by kernel_rfl) (by kernel_rfl) t4
  have g1 := JT (g := 4) h1 (by kernel_rfl) (by decide)
  have g2 := JT (g := 2) h2 (by kernel_rfl) (by decide)
  have g3 := JT (g := 0) h3 (by kernel_rfl) (by decide)
  have g4 := JT (g := 3) h4 (by kernel_rfl) (by decide)
  have g5 := JT (g := 1) h5 (by kernel_rfl) (by decide)
  exact ⟨g1, g2, g3, g5, g4, trivial⟩
theorem Hx {W : World} (hL : laidMetH Tryd.prog Rows.edsigHoldsRow.laid W) : Hs gS [] W := by
  rw [MakeChecks.laidMetH_plain _ _ _ (by kernel_rfl)] at hL
  exact Qa8 hL
theorem FB : ∀ zs : List Int, (zs.map fun z => [Value.int .u8 z]).flatten = zs.map (Value.int .u8)
  | [] => rfl
  | a :: l => by simp only [List.map_cons, List.flatten_cons, FB l]; rfl
/-- A slice of bytes that came in. -/
theorem QhU {W : World} {v : Value} {zs : List Int} (h : Ue .u8 W v zs) : ∃ a c, v = .slice a zs.length c /\ (fB v zs).h [] W := by
  obtain ⟨a, c, rfl, h1, h2, h3, h4⟩ := h
  refine ⟨a, c, rfl, ⟨Nat.zero_lt_one, fun r hr => by simp only [List.mem_map] at hr; obtain ⟨x, _, rfl⟩ := hr; rfl, a, c, by rw [List.length_map], by rw [List.length_map]; exact h1, h2, h4, fun hne => ?_⟩, fun a' n' c' e he => by cases e; exact h4 he⟩
  have hl : 0 < zs.length := by
    cases zs with
    | nil => exact absurd rfl hne
    | cons _ _ => exact Nat.succ_pos _
  obtain ⟨x, o, rfl, _⟩ := h3 0 hl
  refine ⟨x, o, rfl, fun h => (by cases h), fun j u hu => ?_⟩
  have hf := FB zs
  rw [hf, List.getElem?_map] at hu
  by_cases hj : j < zs.length
  . obtain ⟨x', o', e, hc⟩ := h3 j hj
    cases e
    rw [hc, <- hu, List.getElem?_eq_getElem hj]
    simp [Qb, hj]
  . rw [List.getElem?_eq_none (by omega)] at hu
    cases hu
/-- What is carried behind m words of 38 times a number. -/
def Z4 (xs : List Int) : Nat -> Int
  | 0 => 0
  | m + 1 => (Qb xs m * 38 + Z4 xs m) / 18446744073709551616
def EI (xs : List Int) (m : Nat) : Int := (Qb xs m * 38 + Z4 xs m) % 18446744073709551616
def Ko (xs : List Int) (n : Nat) : List Int := (List.range n).map (EI xs)
theorem QeS (xs : List Int) (hx : Qn xs) (m : Nat) : 0 <= Z4 xs m /\ Z4 xs m < 38 := by
  induction m with
  | zero => simp [Z4]
  | succ m ih => have := hx.at m; simp only [Z4]; omega
theorem JG (xs : List Int) (n : Nat) : Qn (Ko xs n) := by
  intro x hx
  simp only [Ko, List.mem_map] at hx
  obtain ⟨k, _, rfl⟩ := hx
  unfold EI; omega
theorem QeQ (xs : List Int) (hx : Qn xs) (n m : Nat) (hm : m <= n) : Qf (Ko xs n) m + Z4 xs m * 2 ^ (64 * m) = 38 * Qf xs m := by
  induction m with
  | zero => simp [Qf, Z4]
  | succ m ih =>
    have h0 := ih (by omega)
    have e : Qb (Ko xs n) m = EI xs m := by simp [Ko, Qb, show m < n by omega]
    simp only [Qf, Z4, e]
    rw [ZY]
    unfold EI
    generalize (2 : Int) ^ (64 * m) = q at *
    have h1 := Int.emod_add_mul_ediv (Qb xs m * 38 + Z4 xs m) 18446744073709551616
    generalize (Qb xs m * 38 + Z4 xs m) / 18446744073709551616 = d at *
    generalize (Qb xs m * 38 + Z4 xs m) % 18446744073709551616 = r at *
    have e1 : r * q + d * (q * 18446744073709551616) = (r + 18446744073709551616 * d) * q := by grind
    have e2 : (Qb xs m * 38 + Z4 xs m) * q = 38 * (Qb xs m * q) + Z4 xs m * q := by grind
    rw [Int.add_assoc, e1, h1, e2]
    have e3 : 38 * (Qf xs m + Qb xs m * q) = 38 * Qf xs m + 38 * (Qb xs m * q) := by grind
    omega
theorem QeR (v : Int) (hv : 0 <= v /\ v < 2 ^ 256) : Ko (Qc 4 v) 4 = Qc 4 (38 * v % 2 ^ 256) /\ Z4 (Qc 4 v) 4 = 38 * v / 2 ^ 256 := by
  have e := QeQ (Qc 4 v) (Qo _ _) 4 4 (Nat.le_refl _)
  rw [QC hv.1 hv.2] at e
  have hs := Xl (Ko (Qc 4 v) 4) (JG _ _) 4
  constructor
  . refine Y2 (JG _ _) (by simp [Ko]) ?_
    simp only [Nat.reduceMul, Int.reducePow] at *
    omega
  . simp only [Nat.reduceMul, Int.reducePow] at *
    omega
/-- What fold comes to. -/
theorem Qc6 (lo hi t c s k s2 k2 s3 : Int) (hlo : 0 <= lo /\ lo < 2 ^ 256) (hhi : 0 <= hi /\ hi < 2 ^ 256) (ht : t = 38 * hi % 2 ^ 256) (hc : c = 38 * hi / 2 ^ 256) (hs : s = (lo + t) % 2 ^ 256) (hk : k = (lo + t) / 2 ^ 256)
    (hs2 : s2 = (s + (c + k) * 38) % 2 ^ 256) (hk2 : k2 = (s + (c + k) * 38) / 2 ^ 256) (hs3 : s3 = s2 + k2 * 38) : s3 % pV = (lo + hi * 2 ^ 256) % pV /\ 0 <= s3 /\ s3 < 2 ^ 256 /\ 0 <= c /\ c < 38 /\ 0 <= k /\ k <= 1 /\ 0 <= k2 /\ k2 <= 1 := by
  have hp : (2 : Int) ^ 256 = 2 * pV + 38 := by decide +kernel
  have hpv : 1000000 < pV := by decide +kernel
  have e : lo + hi * 2 ^ 256 = s3 + (2 * hi + 2 * c + 2 * k + 2 * k2) * pV := by
    have a1 := Int.emod_add_mul_ediv (38 * hi) (2 ^ 256)
    have a2 := Int.emod_add_mul_ediv (lo + t) (2 ^ 256)
    have a3 := Int.emod_add_mul_ediv (s + (c + k) * 38) (2 ^ 256)
    rw [<- ht, <- hc] at a1
    rw [<- hs, <- hk] at a2
    rw [<- hs2, <- hk2] at a3
    rw [hp] at a1 a2 a3 ⊢
    subst hs3
    clear ht hc hs hk hs2 hk2 hp hlo hhi
    generalize pV = p at *
    grind
  refine ⟨by rw [e, Int.add_mul_emod_self_right], ?_⟩
  generalize (2 : Int) ^ 256 = M at *
  have c1 : 0 <= c /\ c < 38 := by
    subst hc
    refine ⟨Int.ediv_nonneg (by omega) (by omega), Int.ediv_lt_of_lt_mul (by omega) (by omega)⟩
  have t1 : 0 <= t /\ t < M := by
    subst ht
    exact ⟨Int.emod_nonneg _ (by omega), Int.emod_lt_of_pos _ (by omega)⟩
  have k1 : 0 <= k /\ k < 2 := by
    subst hk
    exact ⟨Int.ediv_nonneg (by omega) (by omega), Int.ediv_lt_of_lt_mul (by omega) (by omega)⟩
  have s1 : 0 <= s /\ s < M := by
    subst hs
    exact ⟨Int.emod_nonneg _ (by omega), Int.emod_lt_of_pos _ (by omega)⟩
  have k3 : 0 <= k2 /\ k2 < 2 := by
    subst hk2
    exact ⟨Int.ediv_nonneg (by omega) (by omega), Int.ediv_lt_of_lt_mul (by omega) (by omega)⟩
  have s4 : 0 <= s2 /\ s2 < M := by
    subst hs2
    exact ⟨Int.emod_nonneg _ (by omega), Int.emod_lt_of_pos _ (by omega)⟩
  have a3 := Int.emod_add_mul_ediv (s + (c + k) * 38) M
  rw [<- hs2, <- hk2] at a3
  refine ⟨by omega, ?_, c1.1, c1.2, k1.1, by omega, k3.1, by omega⟩
  have : k2 = 0 \/ k2 = 1 := by omega
  rcases this with rfl | rfl
  . omega
  . omega
theorem Qb0 (xs ys : List Int) (k : Nat) (T : Int) (h : T = Qf xs k * Qf ys 4 + Qb xs k * Qf ys 4 * 2 ^ (64 * k)) : T = Qf xs (k + 1) * Qf ys 4 := by
  have e : Qf xs (k + 1) = Qf xs k + Qb xs k * 2 ^ (64 * k) := rfl
  rw [h, e]
  clear h e
  generalize (2 : Int) ^ (64 * k) = q
  generalize Qf ys 4 = y
  generalize Qf xs k = x
  grind
theorem Qf1 : Qf (List.replicate 8 0) 8 = 0 := by decide +kernel
theorem Df (j : Nat) : Qb (List.replicate 8 (0 : Int)) j = 0 := by
  simp only [Qb, List.getElem?_replicate]; split <;> rfl

theorem Ht {x : Int} (h0 : 0 <= x) (h1 : x < 18446744073709551616) : bits BinOp.and IntKind.u64 x 1 = x % 2 := by
  have h := XE x 1 1 rfl (by omega) h0 h1
  simpa using h

theorem QcF : Qc 4 1 = [1, 0, 0, 0] := by decide +kernel
/-- A power, with so many of the exponent's bits still to come. -/
def Q5 (u v : Int) (m : Nat) : Int := u ^ (v / 2 ^ m).toNat % pV
theorem QbH (u v : Int) (m : Nat) : 0 <= Q5 u v m /\ Q5 u v m < 2 ^ 256 := by
  have h := XQ (u ^ (v / 2 ^ m).toNat)
  have := Fb
  unfold Q5
  omega
theorem Hv (u v : Int) (hv : 0 <= v /\ v < 2 ^ 256) : Q5 u v 256 = 1 := by
  unfold Q5
  rw [Int.ediv_eq_zero_of_lt hv.1 hv.2, show Int.toNat 0 = 0 from rfl, Int.pow_zero]
  decide +kernel
theorem QaG (u v : Int) (j : Nat) (hv : 0 <= v) (h : v / 2 ^ j % 2 = 0) : (Q5 u v (j + 1) * Q5 u v (j + 1)) % pV = Q5 u v j := by
  have hh := VV v j
  have hy : 0 <= v / 2 ^ (j + 1) := Int.ediv_nonneg hv (Int.le_of_lt (QI _))
  have e : (v / 2 ^ j).toNat = 2 * (v / 2 ^ (j + 1)).toNat := by omega
  unfold Q5
  rw [e, Jt]
theorem QbG (u v : Int) (j : Nat) (hv : 0 <= v) (h : v / 2 ^ j % 2 = 1) : ((Q5 u v (j + 1) * Q5 u v (j + 1)) % pV * u) % pV = Q5 u v j := by
  have hh := VV v j
  have hy : 0 <= v / 2 ^ (j + 1) := Int.ediv_nonneg hv (Int.le_of_lt (QI _))
  have e : (v / 2 ^ j).toNat = 2 * (v / 2 ^ (j + 1)).toNat + 1 := by omega
  unfold Q5
  rw [e, Jt, KJ u u _ rfl]
theorem Qgn : 0 <= pV - 2 /\ pV - 2 < 2 ^ 256 := by decide +kernel
theorem Qgu (a : Int) (h0 : 0 <= a) (h1 : a < 18446744073709551616) : Qc 4 a = [a, 0, 0, 0] := by
  symm
  refine Y2 (fun x hx => by simp at hx; omega) rfl ?_
  simp [Qf, Qb]
theorem P_r : PV Tryd.prog gT 51 [] (.a .u64 (Qc 4 pV) 4) := by
  have h : PV Tryd.prog gT 51 [] (.g [.i .u64 18446744073709551597, .i .u64 18446744073709551615, .i .u64 18446744073709551615, .i .u64 9223372036854775807]) := by
    refine PV.mk' Tryd.func51 rfl rfl rfl rfl fun w L hL hG => ?_
    refine S.enter Qh [] gT Tryd.func51 rfl rfl rfl (fun _ => rfl) hL hG ?_
    refine S.go false rfl (by repeat' (first | exact True.intro | refine And.intro ?_ ?_ | assumption | omega | (dsimp only; omega) | (simp only [Nat.add_eq, Nat.mul_eq, Nat.sub_eq, SV.wd]; omega) | exact rfl)) ?_
    exact S.retv rfl rfl rfl rfl rfl
  rw [Qgp]
  exact h.res rfl rfl
set_option maxHeartbeats 1000000 in
theorem QcT {za : List Int} (hb : Qd za) (hl : za.length = 32) : PV Tryd.prog gT 27 [.a .u8 za 32] (.a .u64 (Qc 4 (Qk za 32)) 4) := by
  rw [<- GJ za hb 4, <- GM za 4]
  refine PV.mk' Tryd.func27 rfl rfl rfl rfl fun w L hL hG => ?_
  refine S.enter Qh [.a .u8 za 32] gT Tryd.func27 rfl rfl rfl (fun _ => rfl) hL hG ?_
  refine S.go false rfl (by repeat' (first | exact True.intro | refine And.intro ?_ ?_ | assumption | omega | (dsimp only; omega) | (simp only [Nat.add_eq, Nat.mul_eq, Nat.sub_eq, SV.wd]; omega) | exact rfl)) ?_
  refine S.recell 2 [.a .u64 (Hh za 4 0) 4] rfl (fun ρ => by rw [JJ]; rfl) ⟨Xz za 4 0, trivial⟩ rfl ?_
  refine S.loop [1, 2, 3] (fun k : Nat => [(4, .i .i64 (k : Int))]) (fun k => [(0, [.a .u8 za 32]), (1, [.i .u64 0, .i .u64 0, .i .u64 0, .i .u64 0]), (2, [.a .u64 (Hh za 4 k) 4])]) (fun _ => []) (fun k => k <= 32) (fun k => 32 - k) 0 rfl (fun _ => rfl) (fun _ => rfl) rfl ⟨⟨rfl, rfl⟩, trivial⟩ (by repeat' (first | exact True.intro | refine And.intro ?_ ?_ | exact Xz za 4 0 | assumption | exact rfl)) (fun _ _ _ => trivial) (by omega) fun J k hk again => ?_
  have hk' : k <= 32 := hk
  have hlen := Xz za 4 k
  have hlen' := Xz za 4 (k + 1)
  refine S.g false rfl ?_
  refine S.cond rfl (fun c => ?_) (fun c => ?_)
  . have c' : k < 32 := by omega
    have hr := Jr hb (Int.toNat (k : Int))
    refine S.go false rfl (by repeat' (first | exact True.intro | refine And.intro ?_ ?_ | assumption | omega | (dsimp only; omega) | (simp only [Nat.add_eq, Nat.mul_eq, Nat.sub_eq, SV.wd]; omega) | exact rfl)) ?_
    refine S.dr0 false rfl rfl rfl ?_ (by repeat' (first | exact True.intro | refine And.intro ?_ ?_ | omega | (dsimp only; omega) | (simp only [Nat.add_eq, Nat.mul_eq, Nat.sub_eq, SV.wd]; omega) | exact rfl))
    refine S.g false rfl ?_
    refine S.again (again (k + 1) (show k + 1 <= 32 by omega) (show 32 - (k + 1) < 32 - k by omega)) ⟨⟨rfl, by omega⟩, rfl, rfl, rfl, trivial⟩ ?_ rfl rfl (fun x hx => hx) rfl (fun ρ W h => h.hs)
    repeat' (first | exact True.intro | refine And.intro ?_ ?_ | exact congrArg (fun z => SV.a .u64 z 4) (JK hb (n := 4) (by omega)) | exact hlen' | exact hl | exact rfl)
  . obtain rfl : k = 32 := by omega
    refine S.go false rfl (by repeat' (first | exact True.intro | refine And.intro ?_ ?_ | assumption | omega | (dsimp only; omega) | (simp only [Nat.add_eq, Nat.mul_eq, Nat.sub_eq, SV.wd]; omega) | exact rfl)) ?_
    exact S.retv rfl rfl rfl rfl rfl
set_option maxHeartbeats 1000000 in
theorem Qaf (v : Int) : PV Tryd.prog gT 10 [.a .u64 (Qc 4 v) 4] (.a .u8 (QE v) 32) := by
  have hv : QE v = btW (Qc 4 v) 32 := (Qag _).symm
  rw [hv]
  have hnl := Qa 4 v
  generalize Qc 4 v = zs at *
  refine PV.mk' Tryd.func10 rfl rfl rfl rfl fun w L hL hG => ?_
  refine S.enter Qh [.a .u64 zs 4] gT Tryd.func10 rfl rfl rfl (fun _ => rfl) hL hG ?_
  refine S.go false rfl (by repeat' (first | exact True.intro | refine And.intro ?_ ?_ | assumption | omega | (dsimp only; omega) | (simp only [Nat.add_eq, Nat.mul_eq, Nat.sub_eq, SV.wd]; omega) | exact rfl)) ?_
  refine S.recell 2 [.a .u8 (btW zs 0) 32] rfl (fun ρ => by rw [FU]) ⟨ZH zs 0, trivial⟩ rfl ?_
  refine S.loop [1, 2, 3] (fun k : Nat => [(4, .i .i64 (k : Int))]) (fun k => [(0, [.a .u64 zs 4]), (1, [.a .u8 (List.replicate 32 0) 32]), (2, [.a .u8 (btW zs k) 32])]) (fun _ => []) (fun k => k <= 32) (fun k => 32 - k) 0 rfl (fun _ => rfl) (fun _ => rfl) rfl ⟨⟨rfl, rfl⟩, trivial⟩ (by repeat' (first | exact True.intro | refine And.intro ?_ ?_ | exact ZH zs 0 | assumption | exact rfl)) (fun _ _ _ => trivial) (by omega) fun J k hk again => ?_
  have hk' : k <= 32 := hk
  have hlen := ZH zs k
  have hlen' := ZH zs (k + 1)
  refine S.g false rfl ?_
  refine S.cond rfl (fun c => ?_) (fun c => ?_)
  . have c' : k < 32 := by omega
    refine S.gn 14 false rfl ?_ (by repeat' (first | exact True.intro | refine And.intro ?_ ?_ | omega | (dsimp only; omega) | (simp only [Nat.add_eq, Nat.mul_eq, Nat.sub_eq, SV.wd]; omega) | exact rfl))
    refine S.gn 1 true rfl ?_ (by repeat' (first | exact True.intro | refine And.intro ?_ ?_ | omega | (dsimp only; omega) | (simp only [Nat.add_eq, Nat.mul_eq, Nat.sub_eq, SV.wd]; omega) | exact rfl))
    refine S.g false rfl ?_
    refine S.again (again (k + 1) (show k + 1 <= 32 by omega) (show 32 - (k + 1) < 32 - k by omega)) ⟨⟨rfl, by omega⟩, rfl, rfl, rfl, trivial⟩ ?_ rfl rfl (fun x hx => hx) rfl (fun ρ W h => h.hs)
    repeat' (first | exact True.intro | refine And.intro ?_ ?_ | exact congrArg (fun z => SV.a .u8 z 32) (FV c') | exact hlen' | exact hnl | exact rfl)
  . obtain rfl : k = 32 := by omega
    refine S.go false rfl (by repeat' (first | exact True.intro | refine And.intro ?_ ?_ | assumption | omega | (dsimp only; omega) | (simp only [Nat.add_eq, Nat.mul_eq, Nat.sub_eq, SV.wd]; omega) | exact rfl)) ?_
    exact S.retv rfl rfl rfl rfl rfl
theorem F6 {xs ys : List Int} (h : ∀ j, j < 4 -> Qb xs j = Qb ys j) : Qf xs 4 = Qf ys 4 := by
  simp only [Qf]
  rw [h 0 (by omega), h 1 (by omega), h 2 (by omega), h 3 (by omega)]
theorem QgH {xs ys : List Int} (hx : Qn xs) (hy : Qn ys) (hl : xs.length = 4) (hm : ys.length = 4) : PV Tryd.prog gT 26 [.a .u64 xs 4, .a .u64 ys 4] (.l (decide (Qf xs 4 < Qf ys 4))) := by
  refine PV.mk' Tryd.func26 rfl rfl rfl rfl fun w L hL hG => ?_
  refine S.enter Qh [.a .u64 xs 4, .a .u64 ys 4] gT Tryd.func26 rfl rfl rfl (fun _ => rfl) hL hG ?_
  refine S.go false rfl (by repeat' (first | exact True.intro | refine And.intro ?_ ?_ | assumption | omega | (dsimp only; omega) | (simp only [Nat.add_eq, Nat.mul_eq, Nat.sub_eq, SV.wd]; omega) | exact rfl)) ?_
  refine S.loop [2, 3, 4] (fun k : Nat => [(5, .i .i64 (3 - (k : Int)))]) (fun k => [(0, [.a .u64 xs 4]), (1, [.a .u64 ys 4])]) (fun _ => []) (fun k => k <= 4 /\ ∀ j, 4 - k <= j -> j < 4 -> Qb xs j = Qb ys j) (fun k => 4 - k) 0 rfl (fun _ => rfl) (fun _ => rfl) rfl ⟨⟨rfl, rfl⟩, trivial⟩ (by repeat' (first | exact True.intro | refine And.intro ?_ ?_ | assumption | exact rfl)) (fun _ _ _ => trivial) ⟨by omega, fun j h1 h2 => by omega⟩ fun J k hk again => ?_
  obtain ⟨hk', he⟩ := hk
  refine S.g false rfl ?_
  refine S.cond rfl (fun c => ?_) (fun c => ?_)
  . have c' : k < 4 := by omega
    have e0 : Int.toNat (3 - (k : Int)) = 3 - k := by omega
    have e1 : xs.getD (Int.toNat (3 - (k : Int))) 0 = Qb xs (3 - k) := by rw [e0, Qx]
    have e2 : ys.getD (Int.toNat (3 - (k : Int))) 0 = Qb ys (3 - k) := by rw [e0, Qx]
    refine S.g false rfl ?_
    refine S.dr0 false rfl rfl rfl ?_ (by repeat' (first | exact True.intro | refine And.intro ?_ ?_ | assumption | omega | (dsimp only; omega) | (simp only [Nat.add_eq, Nat.mul_eq, Nat.sub_eq, SV.wd]; omega) | exact rfl))
    refine S.g false rfl ?_
    refine S.cond rfl (fun c2 => ?_) (fun c2 => ?_)
    . refine S.g false rfl ?_
      refine S.dr0 false rfl rfl rfl ?_ (by repeat' (first | exact True.intro | refine And.intro ?_ ?_ | assumption | omega | (dsimp only; omega) | (simp only [Nat.add_eq, Nat.mul_eq, Nat.sub_eq, SV.wd]; omega) | exact rfl))
      refine S.g false rfl ?_
      refine S.rd 4 (.l (decide (Qf xs 4 < Qf ys 4))) rfl (fun ρ => by
        simp only [SV.den]
        rw [<- QhL xs ys hx hy (3 - k) (by omega) (fun j h1 h2 => he j (by omega) h2) (by rw [<- e1, <- e2]; exact c2)]
        simp only [e1, e2]) ?_
      exact S.retv rfl rfl rfl rfl rfl
    . refine S.g false rfl ?_
      refine S.again (again (k + 1) ⟨by show k + 1 <= 4; omega, fun j h1 h2 => by
        by_cases hj : j = 3 - k
        . rw [hj, <- e1, <- e2]; exact Decidable.of_not_not c2
        . exact he j (by omega) h2⟩ (show 4 - (k + 1) < 4 - k by omega)) ⟨⟨rfl, by omega⟩, rfl, rfl, rfl, trivial⟩ ?_ rfl rfl (fun x hx => hx) rfl (fun ρ W h => h.hs)
      repeat' (first | exact True.intro | refine And.intro ?_ ?_ | assumption | exact rfl)
  . obtain rfl : k = 4 := by omega
    have hv := F6 (fun j hj => he j (by omega) hj)
    refine S.g false rfl ?_
    refine S.rd 4 (.l (decide (Qf xs 4 < Qf ys 4))) rfl (fun ρ => by rw [hv, decide_eq_false (Int.lt_irrefl _)]; rfl) ?_
    exact S.retv rfl rfl rfl rfl rfl
theorem EN {u v : Int} (hu : 0 <= u /\ u < 2 ^ 256) (hv : 0 <= v /\ v < 2 ^ 256) : PV Tryd.prog gT 26 [.a .u64 (Qc 4 u) 4, .a .u64 (Qc 4 v) 4] (.l (decide (u < v))) := by
  have h := QgH (Qo 4 u) (Qo 4 v) (Qa 4 u) (Qa 4 v)
  rwa [QC hu.1 hu.2, QC hv.1 hv.2] at h
theorem EM {u v : Int} (hu : 0 <= u /\ u < 2 ^ 256) (hv : 0 <= v /\ v < 2 ^ 256) (h : u < v) : PV Tryd.prog gT 26 [.a .u64 (Qc 4 u) 4, .a .u64 (Qc 4 v) 4] (.l true) := by have := EN hu hv; rwa [decide_eq_true h] at this
theorem EO {u v : Int} (hu : 0 <= u /\ u < 2 ^ 256) (hv : 0 <= v /\ v < 2 ^ 256) (h : ¬ u < v) : PV Tryd.prog gT 26 [.a .u64 (Qc 4 u) 4, .a .u64 (Qc 4 v) 4] (.l false) := by have := EN hu hv; rwa [decide_eq_false h] at this
set_option maxHeartbeats 1000000 in
theorem QeM {xs ys : List Int} (hx : Qn xs) (hy : Qn ys) (hl : xs.length = 4) (hm : ys.length = 4) : PV Tryd.prog gT 84 [.a .u64 xs 4, .a .u64 ys 4] (.t [.a .u64 (Zm xs ys 4) 4, .i .u64 (Vw xs ys 4)]) := by
  rw [<- Ds]
  refine PV.mk' Tryd.func84 rfl rfl rfl rfl fun w L hL hG => ?_
  refine S.enter Qh [.a .u64 xs 4, .a .u64 ys 4] gT Tryd.func84 rfl rfl rfl (fun _ => rfl) hL hG ?_
  refine S.go false rfl (by repeat' (first | exact True.intro | refine And.intro ?_ ?_ | assumption | omega | (dsimp only; omega) | (simp only [Nat.add_eq, Nat.mul_eq, Nat.sub_eq, SV.wd]; omega) | exact rfl)) ?_
  refine S.recell 3 [.a .u64 (sbW xs ys 0) 4] rfl (fun ρ => rfl) ⟨ZE xs ys 0, trivial⟩ rfl ?_
  refine S.loop [2, 3, 4, 6] (fun k : Nat => [(7, .i .u64 (Vw xs ys k)), (8, .i .i64 (k : Int))]) (fun k => [(0, [.a .u64 xs 4]), (1, [.a .u64 ys 4]), (2, [.i .u64 0, .i .u64 0, .i .u64 0, .i .u64 0]), (3, [.a .u64 (sbW xs ys k) 4])]) (fun _ => []) (fun k => k <= 4) (fun k => 4 - k) 0 rfl (fun _ => rfl) (fun _ => rfl) rfl ⟨⟨rfl, rfl⟩, ⟨rfl, rfl⟩, trivial⟩ (by repeat' (first | exact True.intro | refine And.intro ?_ ?_ | exact ZE xs ys 0 | assumption | exact rfl)) (fun _ _ _ => trivial) (by omega) fun J k hk again => ?_
  have hk' : k <= 4 := hk
  have hlen := ZE xs ys k
  have hlen' := ZE xs ys (k + 1)
  refine S.g false rfl ?_
  refine S.cond rfl (fun c => ?_) (fun c => ?_)
  . have c' : k < 4 := by omega
    have hb := Jb xs ys k
    have h1 := hx.at k
    have h2 := hy.at k
    have e1 : xs.getD (Int.toNat (k : Int)) 0 = Qb xs k := by rw [Int.toNat_natCast, Qx]
    have e2 : ys.getD (Int.toNat (k : Int)) 0 = Qb ys k := by rw [Int.toNat_natCast, Qx]
    have hE := Do (xs.getD (Int.toNat (k : Int)) 0) (ys.getD (Int.toNat (k : Int)) 0) (Vw xs ys k) (by omega) (by omega) (by omega) hb.1 hb.2
    refine S.g false rfl ?_
    refine S.dre (G := gT) false [(8, .t [.i .u64 ((xs.getD (Int.toNat (k : Int)) 0 - ys.getD (Int.toNat (k : Int)) 0 - Vw xs ys k) % 18446744073709551616), .i .u64 (bor (xs.getD (Int.toNat (k : Int)) 0) (ys.getD (Int.toNat (k : Int)) 0) (Vw xs ys k))])] [] [8] rfl rfl rfl ?_ (by repeat' (first | exact True.intro | refine And.intro ?_ ?_ | assumption | omega | (dsimp only; omega) | (simp only [Nat.add_eq, Nat.mul_eq, Nat.sub_eq, SV.wd]; omega) | exact rfl))
    refine S.g false rfl ?_
    refine S.again (again (k + 1) (show k + 1 <= 4 by omega) (show 4 - (k + 1) < 4 - k by omega)) ⟨⟨rfl, by rw [e1, e2]; rfl⟩, ⟨rfl, by omega⟩, rfl, rfl, rfl, rfl, trivial⟩ ?_ rfl rfl (fun x hx => hx) rfl (fun ρ W h => h.hs)
    repeat' (first | exact True.intro | refine And.intro ?_ ?_ | exact congrArg (fun z => SV.a .u64 z 4) (HI c') | assumption | exact rfl)
  . obtain rfl : k = 4 := by omega
    refine S.go false rfl (by repeat' (first | exact True.intro | refine And.intro ?_ ?_ | assumption | omega | (dsimp only; omega) | (simp only [Nat.add_eq, Nat.mul_eq, Nat.sub_eq, SV.wd]; omega) | exact rfl)) ?_
    exact S.rett rfl rfl rfl rfl rfl
theorem Qfz (x y b : Int) (hx : 0 <= x) (hy : 0 <= y) (hb0 : 0 <= b) (hb : b <= 1) : PE Tryd.prog 79 [.i .u64 x, .i .u64 y, .i .u64 b] (.t [.i .u64 ((x + y + b) % 18446744073709551616), .i .u64 ((x + y + b) / 18446744073709551616)]) := ⟨rfl, rfl, fun w => Ze x y b hx hy hb0 hb w⟩
/-- A sum, as far as it has been reckoned. -/
def adW (xs ys : List Int) (k : Nat) : List Int := (List.range 4).map fun j => if j < k then Qbl xs ys j else 0
theorem Jf (xs ys : List Int) (k : Nat) : (adW xs ys k).length = 4 := by simp [adW]
theorem QfA (xs ys : List Int) : adW xs ys 4 = Ke xs ys 4 := by
  unfold adW Ke
  refine List.map_congr_left fun j hj => ?_
  rw [List.mem_range] at hj
  rw [if_pos hj]
theorem QdN {xs ys : List Int} {k : Nat} (hk : k < 4) : (adW xs ys k).set (Int.toNat (k : Int)) ((xs.getD (Int.toNat (k : Int)) 0 + ys.getD (Int.toNat (k : Int)) 0 + Hi xs ys k) % 18446744073709551616) = adW xs ys (k + 1) := by
  rw [Int.toNat_natCast, Qx, Qx]
  refine Xb hk (fun j hj hne => ?_) ?_
  . by_cases h : j < k
    . rw [if_pos (by omega), if_pos h]
    . rw [if_neg (by omega), if_neg h]
  . rw [if_pos (by omega)]
    rfl
set_option maxHeartbeats 1000000 in
theorem Qgm {xs ys : List Int} (hx : Qn xs) (hy : Qn ys) (hl : xs.length = 4) (hm : ys.length = 4) : PV Tryd.prog gT 81 [.a .u64 xs 4, .a .u64 ys 4] (.t [.a .u64 (Ke xs ys 4) 4, .i .u64 (Hi xs ys 4)]) := by
  rw [<- QfA]
  refine PV.mk' Tryd.func81 rfl rfl rfl rfl fun w L hL hG => ?_
  refine S.enter Qh [.a .u64 xs 4, .a .u64 ys 4] gT Tryd.func81 rfl rfl rfl (fun _ => rfl) hL hG ?_
  refine S.go false rfl (by repeat' (first | exact True.intro | refine And.intro ?_ ?_ | assumption | omega | (dsimp only; omega) | (simp only [Nat.add_eq, Nat.mul_eq, Nat.sub_eq, SV.wd]; omega) | exact rfl)) ?_
  refine S.recell 3 [.a .u64 (adW xs ys 0) 4] rfl (fun ρ => rfl) ⟨Jf xs ys 0, trivial⟩ rfl ?_
  refine S.loop [2, 3, 4, 6] (fun k : Nat => [(7, .i .u64 (Hi xs ys k)), (8, .i .i64 (k : Int))]) (fun k => [(0, [.a .u64 xs 4]), (1, [.a .u64 ys 4]), (2, [.i .u64 0, .i .u64 0, .i .u64 0, .i .u64 0]), (3, [.a .u64 (adW xs ys k) 4])]) (fun _ => []) (fun k => k <= 4) (fun k => 4 - k) 0 rfl (fun _ => rfl) (fun _ => rfl) rfl ⟨⟨rfl, rfl⟩, ⟨rfl, rfl⟩, trivial⟩ (by repeat' (first | exact True.intro | refine And.intro ?_ ?_ | exact Jf xs ys 0 | assumption | exact rfl)) (fun _ _ _ => trivial) (by omega) fun J k hk again => ?_
  have hk' : k <= 4 := hk
  have hlen := Jf xs ys k
  have hlen' := Jf xs ys (k + 1)
  refine S.g false rfl ?_
  refine S.cond rfl (fun c => ?_) (fun c => ?_)
  . have c' : k < 4 := by omega
    have hb := Qac xs ys hx hy k
    have h1 := hx.at k
    have h2 := hy.at k
    have e1 : xs.getD (Int.toNat (k : Int)) 0 = Qb xs k := by rw [Int.toNat_natCast, Qx]
    have e2 : ys.getD (Int.toNat (k : Int)) 0 = Qb ys k := by rw [Int.toNat_natCast, Qx]
    have hE := Qfz (xs.getD (Int.toNat (k : Int)) 0) (ys.getD (Int.toNat (k : Int)) 0) (Hi xs ys k) (by omega) (by omega) hb.1 hb.2
    refine S.g false rfl ?_
    refine S.dre (G := gT) false [(8, .t [.i .u64 ((xs.getD (Int.toNat (k : Int)) 0 + ys.getD (Int.toNat (k : Int)) 0 + Hi xs ys k) % 18446744073709551616), .i .u64 ((xs.getD (Int.toNat (k : Int)) 0 + ys.getD (Int.toNat (k : Int)) 0 + Hi xs ys k) / 18446744073709551616)])] [] [8] rfl rfl rfl ?_ (by repeat' (first | exact True.intro | refine And.intro ?_ ?_ | assumption | omega | (dsimp only; omega) | (simp only [Nat.add_eq, Nat.mul_eq, Nat.sub_eq, SV.wd]; omega) | exact rfl))
    refine S.g false rfl ?_
    refine S.again (again (k + 1) (show k + 1 <= 4 by omega) (show 4 - (k + 1) < 4 - k by omega)) ⟨⟨rfl, by rw [e1, e2]; rfl⟩, ⟨rfl, by omega⟩, rfl, rfl, rfl, rfl, trivial⟩ ?_ rfl rfl (fun x hx => hx) rfl (fun ρ W h => h.hs)
    repeat' (first | exact True.intro | refine And.intro ?_ ?_ | exact congrArg (fun z => SV.a .u64 z 4) (QdN c') | assumption | exact rfl)
  . obtain rfl : k = 4 := by omega
    refine S.go false rfl (by repeat' (first | exact True.intro | refine And.intro ?_ ?_ | assumption | omega | (dsimp only; omega) | (simp only [Nat.add_eq, Nat.mul_eq, Nat.sub_eq, SV.wd]; omega) | exact rfl)) ?_
    exact S.rett rfl rfl rfl rfl rfl
theorem QeN {u v : Int} (hu : 0 <= u /\ u < 2 ^ 256) (hv : 0 <= v /\ v < 2 ^ 256) : PV Tryd.prog gT 84 [.a .u64 (Qc 4 u) 4, .a .u64 (Qc 4 v) 4] (.t [.a .u64 (Qc 4 ((u - v) % 2 ^ 256)) 4, .i .u64 (if u < v then 1 else 0)]) := by
  have h := QeM (Qo 4 u) (Qo 4 v) (Qa 4 u) (Qa 4 v)
  rwa [(HF hu hv).1, (HF hu hv).2] at h
theorem VM {u v : Int} (hv : 0 <= v) (h : v <= u) (hu : u < 2 ^ 256) : PV Tryd.prog gT 84 [.a .u64 (Qc 4 u) 4, .a .u64 (Qc 4 v) 4] (.t [.a .u64 (Qc 4 (u - v)) 4, .i .u64 0]) := by
  have := QeN (u := u) (v := v) ⟨by omega, hu⟩ ⟨hv, by omega⟩
  rwa [Int.emod_eq_of_lt (by omega) (by omega), if_neg (by omega)] at this
theorem Gz {u v : Int} (hu : 0 <= u /\ u < 2 ^ 256) (hv : 0 <= v /\ v < 2 ^ 256) : PV Tryd.prog gT 81 [.a .u64 (Qc 4 u) 4, .a .u64 (Qc 4 v) 4] (.t [.a .u64 (Qc 4 ((u + v) % 2 ^ 256)) 4, .i .u64 ((u + v) / 2 ^ 256)]) := by
  have h := Qgm (Qo 4 u) (Qo 4 v) (Qa 4 u) (Qa 4 v)
  have hq := Qbz (Qc 4 u) (Qc 4 v) (Qo 4 u) (Qo 4 v) 4 4 (by omega)
  have hw := Xl (Ke (Qc 4 u) (Qc 4 v) 4) (Kd _ _ 4) 4
  have hc := Qac (Qc 4 u) (Qc 4 v) (Qo 4 u) (Qo 4 v) 4
  rw [QC hu.1 hu.2, QC hv.1 hv.2] at hq
  have e1 : Hi (Qc 4 u) (Qc 4 v) 4 = (u + v) / 2 ^ 256 := by
    simp only [Nat.reduceMul, Int.reducePow] at hq hw ⊢
    omega
  have e2 : Ke (Qc 4 u) (Qc 4 v) 4 = Qc 4 ((u + v) % 2 ^ 256) := Y2 (Kd _ _ 4) (by simp [Ke]) (by
    simp only [Nat.reduceMul, Int.reducePow] at hq hw ⊢
    omega)
  rwa [e1, e2] at h
theorem DB {u v : Int} (hu : 0 <= u) (hv : 0 <= v) (hs : u + v < 2 ^ 256) : PV Tryd.prog gT 81 [.a .u64 (Qc 4 u) 4, .a .u64 (Qc 4 v) 4] (.t [.a .u64 (Qc 4 (u + v)) 4, .i .u64 0]) := by
  have := Gz (u := u) (v := v) ⟨hu, by omega⟩ ⟨hv, by omega⟩
  rwa [Int.emod_eq_of_lt (by omega) hs, Int.ediv_eq_zero_of_lt (by omega) hs] at this
theorem VH : 0 <= pV /\ pV < 2 ^ 256 := by decide +kernel
theorem QfV {v : Int} (hv : 0 <= v /\ v < 2 ^ 256) : PV Tryd.prog gT 82 [.a .u64 (Qc 4 v) 4] (.a .u64 (Qc 4 (v % pV)) 4) := by
  have hP := P_r
  refine PV.mk' Tryd.func82 rfl rfl rfl rfl fun w L hL hG => ?_
  refine S.enter Qh [.a .u64 (Qc 4 v) 4] gT Tryd.func82 rfl rfl rfl (fun _ => rfl) hL hG ?_
  refine S.go false rfl (by repeat' (first | exact True.intro | refine And.intro ?_ ?_ | assumption | omega | (dsimp only; omega) | (simp only [Nat.add_eq, Nat.mul_eq, Nat.sub_eq, SV.wd]; omega) | exact rfl)) ?_
  refine S.loop [1, 2] (fun s : Nat × Int => [(3, .i .i64 (s.1 : Int))]) (fun s => [(0, [.a .u64 (Qc 4 s.2) 4]), (1, [.i .u64 0, .i .u64 0, .i .u64 0, .i .u64 0])]) (fun _ => []) (fun s => s.1 <= 3 /\ (0 <= s.2 /\ s.2 < 2 ^ 256) /\ s.2 % pV = v % pV /\ (s.2 + s.1 * pV < 3 * pV \/ s.2 < pV)) (fun s => 3 - s.1) (0, v) rfl (fun _ => rfl) (fun _ => rfl) rfl ⟨⟨rfl, rfl⟩, trivial⟩ (by repeat' (first | exact True.intro | refine And.intro ?_ ?_ | assumption | exact rfl)) (fun _ _ _ => trivial) ⟨by show (0 : Nat) <= 3; omega, hv, rfl, Or.inl (by have := Qcp; show v + ((0 : Nat) : Int) * pV < 3 * pV; simp; omega)⟩ fun J s hs again => ?_
  obtain ⟨k, z⟩ := s
  obtain ⟨hk, hz, hzv, hzb⟩ := hs
  simp only at hk hz hzv hzb
  dsimp only
  have hzl := Qa 4 z
  have hpl := Qa 4 pV
  refine S.g false rfl ?_
  refine S.cond rfl (fun c => ?_) (fun c => ?_)
  . have c' : k < 3 := by omega
    by_cases hlt : z < pV
    . have hL := EM hz VH hlt
      refine S.g false rfl ?_
      refine S.drp false [(1, .a .u64 (Qc 4 pV) 4), (2, .l true)] rfl rfl rfl ?_ (by repeat' (first | exact True.intro | refine And.intro ?_ ?_ | assumption | omega | (dsimp only; omega) | (simp only [Nat.add_eq, Nat.mul_eq, Nat.sub_eq, SV.wd]; omega) | exact rfl))
      refine S.g false rfl ?_
      refine S.again (again (k + 1, z) ⟨by show k + 1 <= 3; omega, hz, hzv, Or.inr hlt⟩ (show 3 - (k + 1) < 3 - k by omega)) ⟨⟨rfl, by simp only; omega⟩, rfl, rfl, trivial⟩ ?_ rfl rfl (fun x hx => hx) rfl (fun ρ W h => h.hs)
      repeat' (first | exact True.intro | refine And.intro ?_ ?_ | assumption | exact rfl)
    . have hL := EO hz VH hlt
      have hM := VM VH.1 (by omega : pV <= z) hz.2
      have hdl := Qa 4 (z - pV)
      refine S.g false rfl ?_
      refine S.drp false [(1, .a .u64 (Qc 4 pV) 4), (2, .l false)] rfl rfl rfl ?_ (by repeat' (first | exact True.intro | refine And.intro ?_ ?_ | assumption | omega | (dsimp only; omega) | (simp only [Nat.add_eq, Nat.mul_eq, Nat.sub_eq, SV.wd]; omega) | exact rfl))
      refine S.g false rfl ?_
      refine S.drp false [(1, .a .u64 (Qc 4 pV) 4), (2, .t [.a .u64 (Qc 4 (z - pV)) 4, .i .u64 0])] rfl rfl rfl ?_ (by repeat' (first | exact True.intro | refine And.intro ?_ ?_ | assumption | omega | (dsimp only; omega) | (simp only [Nat.add_eq, Nat.mul_eq, Nat.sub_eq, SV.wd]; omega) | exact rfl))
      refine S.g false rfl ?_
      have hpp := VH
      refine S.again (again (k + 1, z - pV) ⟨by show k + 1 <= 3; omega, by simp only; omega, by simp only; rw [Int.sub_emod_right]; exact hzv, by simp only; unfold pV at *; omega⟩ (show 3 - (k + 1) < 3 - k by omega)) ⟨⟨rfl, by simp only; omega⟩, rfl, rfl, trivial⟩ ?_ rfl rfl (fun x hx => hx) rfl (fun ρ W h => h.hs)
      repeat' (first | exact True.intro | refine And.intro ?_ ?_ | assumption | exact rfl)
  . obtain rfl : k = 3 := by omega
    have hz3 : z = v % pV := by rw [<- hzv]; exact (Int.emod_eq_of_lt hz.1 (by unfold pV at *; omega)).symm
    refine S.go false rfl (by repeat' (first | exact True.intro | refine And.intro ?_ ?_ | assumption | omega | (dsimp only; omega) | (simp only [Nat.add_eq, Nat.mul_eq, Nat.sub_eq, SV.wd]; omega) | exact rfl)) ?_
    rw [<- hz3]
    exact S.retv rfl rfl rfl rfl rfl
theorem Qhu {u v : Int} (hu : 0 <= u) (hv : 0 <= v) (hs : u + v < 2 ^ 256) : PV Tryd.prog gT 53 [.a .u64 (Qc 4 u) 4, .a .u64 (Qc 4 v) 4] (.a .u64 (Qc 4 ((u + v) % pV)) 4) := by
  have h1 := DB hu hv hs
  have h2 := QfV (v := u + v) ⟨by omega, hs⟩
  have l1 := Qa 4 u; have l2 := Qa 4 v; have l3 := Qa 4 (u + v); have l4 := Qa 4 ((u + v) % pV)
  generalize Qc 4 ((u + v) % pV) = r at *
  generalize Qc 4 (u + v) = s at *
  generalize Qc 4 u = x at *
  generalize Qc 4 v = y at *
  refine PV.mk' Tryd.func53 rfl rfl rfl rfl fun w L hL hG => ?_
  refine S.enter Qh [.a .u64 x 4, .a .u64 y 4] gT Tryd.func53 rfl rfl rfl (fun _ => rfl) hL hG ?_
  refine S.go false rfl (by repeat' (first | exact True.intro | refine And.intro ?_ ?_ | assumption | omega | (dsimp only; omega) | (simp only [Nat.add_eq, Nat.mul_eq, Nat.sub_eq, SV.wd]; omega) | exact rfl)) ?_
  refine S.cv rfl rfl rfl rfl rfl rfl h1 ?_
  refine S.go false rfl (by repeat' (first | exact True.intro | refine And.intro ?_ ?_ | assumption | omega | (dsimp only; omega) | (simp only [Nat.add_eq, Nat.mul_eq, Nat.sub_eq, SV.wd]; omega) | exact rfl)) ?_
  refine S.cv rfl rfl rfl rfl rfl rfl h2 ?_
  refine S.go false rfl (by repeat' (first | exact True.intro | refine And.intro ?_ ?_ | assumption | omega | (dsimp only; omega) | (simp only [Nat.add_eq, Nat.mul_eq, Nat.sub_eq, SV.wd]; omega) | exact rfl)) ?_
  exact S.retv rfl rfl rfl rfl rfl
theorem EX {u v : Int} (hu : 0 <= u /\ u < pV) (hv : 0 <= v /\ v < pV) : PV Tryd.prog gT 56 [.a .u64 (Qc 4 u) 4, .a .u64 (Qc 4 v) 4] (.a .u64 (Qc 4 ((u - v) % pV)) 4) := by
  have hP := P_r
  have hp := VH
  have hp2 : pV + pV < 2 ^ 256 := by decide +kernel
  have l1 := Qa 4 u; have l2 := Qa 4 v; have l3 := Qa 4 pV
  by_cases h : u < v
  . have h1 := EM ⟨hu.1, by omega⟩ ⟨hv.1, by omega⟩ h
    have h2 := DB (u := u) (v := pV) hu.1 hp.1 (by omega)
    have h3 := VM (u := u + pV) (v := v) hv.1 (by omega) (by omega)
    have e : (u - v) % pV = u + pV - v := by unfold pV at *; omega
    rw [e]
    have l4 := Qa 4 (u + pV); have l5 := Qa 4 (u + pV - v)
    generalize Qc 4 (u + pV - v) = r at *
    generalize Qc 4 (u + pV) = s at *
    generalize Qc 4 u = x at *
    generalize Qc 4 v = y at *
    generalize Qc 4 pV = p at *
    refine PV.mk' Tryd.func56 rfl rfl rfl rfl fun w L hL hG => ?_
    refine S.enter Qh [.a .u64 x 4, .a .u64 y 4] gT Tryd.func56 rfl rfl rfl (fun _ => rfl) hL hG ?_
    refine S.go false rfl (by repeat' (first | exact True.intro | refine And.intro ?_ ?_ | assumption | omega | (dsimp only; omega) | (simp only [Nat.add_eq, Nat.mul_eq, Nat.sub_eq, SV.wd]; omega) | exact rfl)) ?_
    refine S.cv rfl rfl rfl rfl rfl rfl h1 ?_
    refine S.g false rfl ?_
    refine S.drp false [(1, .a .u64 p 4), (2, .t [.a .u64 s 4, .i .u64 0])] rfl rfl rfl ?_ (by repeat' (first | exact True.intro | refine And.intro ?_ ?_ | assumption | omega | (dsimp only; omega) | (simp only [Nat.add_eq, Nat.mul_eq, Nat.sub_eq, SV.wd]; omega) | exact rfl))
    refine S.go false rfl (by repeat' (first | exact True.intro | refine And.intro ?_ ?_ | assumption | omega | (dsimp only; omega) | (simp only [Nat.add_eq, Nat.mul_eq, Nat.sub_eq, SV.wd]; omega) | exact rfl)) ?_
    refine S.cv rfl rfl rfl rfl rfl rfl h3 ?_
    refine S.go false rfl (by repeat' (first | exact True.intro | refine And.intro ?_ ?_ | assumption | omega | (dsimp only; omega) | (simp only [Nat.add_eq, Nat.mul_eq, Nat.sub_eq, SV.wd]; omega) | exact rfl)) ?_
    exact S.retv rfl rfl rfl rfl rfl
  . have h1 := EO ⟨hu.1, by omega⟩ ⟨hv.1, by omega⟩ h
    have h3 := VM (u := u) (v := v) hv.1 (by omega) (by omega)
    have e : (u - v) % pV = u - v := by unfold pV at *; omega
    rw [e]
    have l5 := Qa 4 (u - v)
    generalize Qc 4 (u - v) = r at *
    generalize Qc 4 u = x at *
    generalize Qc 4 v = y at *
    refine PV.mk' Tryd.func56 rfl rfl rfl rfl fun w L hL hG => ?_
    refine S.enter Qh [.a .u64 x 4, .a .u64 y 4] gT Tryd.func56 rfl rfl rfl (fun _ => rfl) hL hG ?_
    refine S.go false rfl (by repeat' (first | exact True.intro | refine And.intro ?_ ?_ | assumption | omega | (dsimp only; omega) | (simp only [Nat.add_eq, Nat.mul_eq, Nat.sub_eq, SV.wd]; omega) | exact rfl)) ?_
    refine S.cv rfl rfl rfl rfl rfl rfl h1 ?_
    refine S.go false rfl (by repeat' (first | exact True.intro | refine And.intro ?_ ?_ | assumption | omega | (dsimp only; omega) | (simp only [Nat.add_eq, Nat.mul_eq, Nat.sub_eq, SV.wd]; omega) | exact rfl)) ?_
    refine S.cv rfl rfl rfl rfl rfl rfl h3 ?_
    refine S.go false rfl (by repeat' (first | exact True.intro | refine And.intro ?_ ?_ | assumption | omega | (dsimp only; omega) | (simp only [Nat.add_eq, Nat.mul_eq, Nat.sub_eq, SV.wd]; omega) | exact rfl)) ?_
    exact S.retv rfl rfl rfl rfl rfl
def esL : List Int := [18446744073709551614, 18446744073709551615, 18446744073709551615, 1152921504606846975]
def qsL : List Int := [18446744073709551611, 18446744073709551615, 18446744073709551615, 2305843009213693951]
def ttL : List Int := [2, 0, 0, 0]
def zzL : List Int := [0, 0, 0, 0]
theorem Qe3 : esL = Qc 4 (Qk (ZM 254 15) 32) := by decide +kernel
theorem Qew : qsL = Qc 4 ((kN : Nat) : Int) := by decide +kernel
theorem Qd4 : ttL = Qc 4 2 := by decide +kernel
theorem Ga : zzL = Qc 4 0 := by decide +kernel
theorem QhV : 0 <= Qk (ZM 254 15) 32 /\ Qk (ZM 254 15) 32 < 2 ^ 256 := by decide +kernel
theorem QhD : 0 <= ((kN : Nat) : Int) /\ ((kN : Nat) : Int) < 2 ^ 256 := by decide +kernel
theorem Qf6 : (2 : Int) ^ kN % pV = iV := by
  have h : pmo pN 2 256 kN = 2 ^ kN % pN := Gy _ _ _ _ (by decide +kernel)
  have h2 : ((2 ^ kN % pN : Nat) : Int) = iV := by rw [<- h]; decide +kernel
  rw [<- h2, Int.natCast_emod, Int.natCast_pow, Zr]
  rfl
theorem Fh {u v : Int} (hu : 0 <= u /\ u < 2 ^ 256) (hv : 0 <= v /\ v < 2 ^ 256) : decide (Qc 4 u = Qc 4 v) = decide (u = v) := by
  refine decide_eq_decide.2 ⟨fun h => ?_, fun h => by rw [h]⟩
  rw [<- QC hu.1 hu.2, h, QC hv.1 hv.2]
theorem QcC {c : Int} (h : 0 <= c) : bits BinOp.and IntKind.u64 (Qb (Qc 4 c) 0) 1 = c % 2 := by
  have h0 := (Qo 4 c).at 0
  rw [Ht h0.1 h0.2]
  have e : Qb (Qc 4 c) 0 = c / 2 ^ (64 * 0) % 18446744073709551616 := rfl
  rw [e, Nat.mul_zero, Int.pow_zero, Int.ediv_one]
  omega
/-- 38 times a number, as far as it has been reckoned. -/
def Fq (ys : List Int) (k : Nat) : List Int := (List.range 4).map fun j => if j < k then EI ys j else 0
theorem VO (ys : List Int) (k : Nat) : (Fq ys k).length = 4 := by simp [Fq]
theorem QcQ (ys : List Int) : Fq ys 4 = Ko ys 4 := by
  unfold Fq Ko
  refine List.map_congr_left fun j hj => ?_
  rw [List.mem_range] at hj
  rw [if_pos hj]
theorem Qa6 {ys : List Int} {k : Nat} (hk : k < 4) {l : Int} (hl : l = EI ys k) : (Fq ys k).set (Int.toNat (k : Int)) l = Fq ys (k + 1) := by
  rw [Int.toNat_natCast]
  refine Xb hk (fun j hj hne => ?_) ?_
  . by_cases h : j < k
    . rw [if_pos (by omega), if_pos h]
    . rw [if_neg (by omega), if_neg h]
  . rw [if_pos (by omega)]
    exact hl.symm
theorem F5 (n : Nat) : Qn (List.replicate n 0) := fun x hx => by rw [List.eq_of_mem_replicate hx]; decide
theorem KZ {x : SV} {a b c d : Int} {l : List Int} (h : l = [a, b, c, d]) : Qt Qu [x, SV.a .u64 l 4] = Qt Qu [x, SV.g [.i .u64 a, .i .u64 b, .i .u64 c, .i .u64 d]] := by subst h; rfl
set_option maxHeartbeats 2000000 in
theorem QgO {lo hi : Int} (hlo : 0 <= lo /\ lo < 2 ^ 256) (hhi : 0 <= hi /\ hi < 2 ^ 256) : PV Tryd.prog gT 80 [.a .u64 (Qc 4 lo) 4, .a .u64 (Qc 4 hi) 4] (.a .u64 (Qc 4 ((lo + hi * 2 ^ 256) % pV)) 4) := by
  have hF := Qc6 lo hi _ _ _ _ _ _ _ hlo hhi rfl rfl rfl rfl rfl rfl rfl
  have hm := QeR hi hhi
  have hp1 := Gz (u := lo) (v := 38 * hi % 2 ^ 256) hlo (by omega)
  have hyw := Qo 4 hi
  have hyl := Qa 4 hi
  have hxl := Qa 4 lo
  generalize Qc 4 hi = ys at *
  generalize ht : 38 * hi % 2 ^ 256 = t at *
  generalize hc : 38 * hi / 2 ^ 256 = c at *
  generalize hs : (lo + t) % 2 ^ 256 = s at *
  generalize hk : (lo + t) / 2 ^ 256 = k1 at *
  have hs0 : 0 <= s /\ s < 2 ^ 256 := by omega
  have hck : 0 <= (c + k1) * 38 /\ (c + k1) * 38 < 18446744073709551616 := by omega
  have hp2 := (Gz (u := s) (v := (c + k1) * 38) hs0 (by omega)).arg (KZ (Qgu _ hck.1 hck.2))
  generalize hs2 : (s + (c + k1) * 38) % 2 ^ 256 = s2 at *
  generalize hk2 : (s + (c + k1) * 38) / 2 ^ 256 = k2 at *
  have hs20 : 0 <= s2 /\ s2 < 2 ^ 256 := by omega
  have hp3 := (Gz (u := s2) (v := 38) hs20 (by omega)).arg (KZ (Qgu 38 (by omega) (by omega)))
  have hcut := QfV (v := s2 + k2 * 38) ⟨hF.2.1, hF.2.2.1⟩
  rw [hF.1] at hcut
  have htl := Qa 4 t; have hsl := Qa 4 s; have hs2l := Qa 4 s2
  generalize hr : Qc 4 ((lo + hi * 2 ^ 256) % pV) = r at *
  have hrl : r.length = 4 := by rw [<- hr]; exact Qa _ _
  refine PV.mk' Tryd.func80 rfl rfl rfl rfl fun w L hL hG => ?_
  refine S.enter Qh [.a .u64 (Qc 4 lo) 4, .a .u64 ys 4] gT Tryd.func80 rfl rfl rfl (fun _ => rfl) hL hG ?_
  refine S.go false rfl (by repeat' (first | exact True.intro | refine And.intro ?_ ?_ | assumption | omega | (dsimp only; omega) | (simp only [Nat.add_eq, Nat.mul_eq, Nat.sub_eq, SV.wd]; omega) | exact rfl)) ?_
  refine S.recell 3 [.a .u64 (Fq ys 0) 4] rfl (fun ρ => rfl) ⟨VO ys 0, trivial⟩ rfl ?_
  refine S.loop [2, 3, 4, 5] (fun k : Nat => [(6, .i .u64 (Z4 ys k)), (7, .i .i64 (k : Int))]) (fun k => [(0, [.a .u64 (Qc 4 lo) 4]), (1, [.a .u64 ys 4]), (2, [.i .u64 0, .i .u64 0, .i .u64 0, .i .u64 0]), (3, [.a .u64 (Fq ys k) 4])]) (fun _ => []) (fun k => k <= 4) (fun k => 4 - k) 0 rfl (fun _ => rfl) (fun _ => rfl) rfl ⟨⟨rfl, rfl⟩, ⟨rfl, rfl⟩, trivial⟩ (by repeat' (first | exact True.intro | refine And.intro ?_ ?_ | exact VO ys 0 | assumption | exact rfl)) (fun _ _ _ => trivial) (by omega) fun J k hk again => ?_
  have hk' : k <= 4 := hk
  have hlen := VO ys k
  have hlen' := VO ys (k + 1)
  refine S.g false rfl ?_
  refine S.cond rfl (fun c5 => ?_) (fun c5 => ?_)
  . have c' : k < 4 := by omega
    have hb := QeS ys hyw k
    have e1 : ys.getD (Int.toNat (k : Int)) 0 = Qb ys k := by rw [Int.toNat_natCast, Qx]
    have h1 := hyw.at k
    rw [<- e1] at h1
    have hM := U4 (ys.getD (Int.toNat (k : Int)) 0) 38 h1 (by omega)
    have hw : EI ys k = (ys.getD (Int.toNat (k : Int)) 0 * 38 + Z4 ys k) % 18446744073709551616 := by rw [e1]; rfl
    have hcn : Z4 ys (k + 1) = (ys.getD (Int.toNat (k : Int)) 0 * 38 + Z4 ys k) / 18446744073709551616 := by rw [e1]; rfl
    refine S.go false rfl (by repeat' (first | exact True.intro | refine And.intro ?_ ?_ | assumption | omega | (dsimp only; omega) | (simp only [Nat.add_eq, Nat.mul_eq, Nat.sub_eq, SV.wd]; omega) | exact rfl)) ?_
    refine S.cv rfl rfl rfl rfl rfl rfl hM ?_
    refine S.go false rfl (by repeat' (first | exact True.intro | refine And.intro ?_ ?_ | assumption | omega | (dsimp only; omega) | (simp only [Nat.add_eq, Nat.mul_eq, Nat.sub_eq, SV.wd]; omega) | exact rfl)) ?_
    refine S.ext rfl rfl rfl rfl rfl rfl rfl (Ze _ _ _ (by omega) hb.1 (by omega) (by omega)) rfl ?_
    generalize ys.getD (Int.toNat (k : Int)) 0 = y at *
    generalize Z4 ys k = cc at *
    refine S.go false rfl (by repeat' (first | exact True.intro | refine And.intro ?_ ?_ | omega | (dsimp only; omega) | (simp only [Nat.add_eq, Nat.mul_eq, Nat.sub_eq, SV.wd]; omega) | exact rfl)) ?_
    refine S.again (again (k + 1) (show k + 1 <= 4 by omega) (show 4 - (k + 1) < 4 - k by omega)) ⟨⟨rfl, by rw [hcn]; omega⟩, ⟨rfl, by omega⟩, rfl, rfl, rfl, rfl, trivial⟩ ?_ rfl rfl (fun x hx => hx) rfl (fun ρ W h => h.hs)
    repeat' (first | exact True.intro | refine And.intro ?_ ?_ | exact congrArg (fun z => SV.a .u64 z 4) (Qa6 c' (by rw [hw]; omega)) | assumption | exact rfl)
  . obtain rfl : k = 4 := by omega
    refine S.recell 3 [.a .u64 (Qc 4 t) 4] rfl (fun ρ => by rw [QcQ, hm.1]) ⟨htl, trivial⟩ rfl ?_
    refine S.rd 6 (.i .u64 c) rfl (fun ρ => by rw [hm.2]) ?_
    refine S.go false rfl (by repeat' (first | exact True.intro | refine And.intro ?_ ?_ | assumption | omega | (dsimp only; omega) | (simp only [Nat.add_eq, Nat.mul_eq, Nat.sub_eq, SV.wd]; omega) | exact rfl)) ?_
    refine S.cv rfl rfl rfl rfl rfl rfl hp1 ?_
    refine S.go false rfl (by repeat' (first | exact True.intro | refine And.intro ?_ ?_ | assumption | omega | (dsimp only; omega) | (simp only [Nat.add_eq, Nat.mul_eq, Nat.sub_eq, SV.wd]; omega) | exact rfl)) ?_
    refine S.cv rfl rfl rfl rfl rfl rfl hp2 ?_
    refine S.go false rfl (by repeat' (first | exact True.intro | refine And.intro ?_ ?_ | assumption | omega | (dsimp only; omega) | (simp only [Nat.add_eq, Nat.mul_eq, Nat.sub_eq, SV.wd]; omega) | exact rfl)) ?_
    refine S.cond rfl (fun c6 => ?_) (fun c6 => ?_)
    . obtain rfl : k2 = 1 := by omega
      have e3 : (s2 + 38) % 2 ^ 256 = s2 + 1 * 38 := by omega
      rw [e3] at hp3
      have hs3l := Qa 4 (s2 + 1 * 38)
      refine S.go false rfl (by repeat' (first | exact True.intro | refine And.intro ?_ ?_ | assumption | omega | (dsimp only; omega) | (simp only [Nat.add_eq, Nat.mul_eq, Nat.sub_eq, SV.wd]; omega) | exact rfl)) ?_
      refine S.cv rfl rfl rfl rfl rfl rfl hp3 ?_
      refine S.go false rfl (by repeat' (first | exact True.intro | refine And.intro ?_ ?_ | assumption | omega | (dsimp only; omega) | (simp only [Nat.add_eq, Nat.mul_eq, Nat.sub_eq, SV.wd]; omega) | exact rfl)) ?_
      refine S.cv rfl rfl rfl rfl rfl rfl hcut ?_
      refine S.go false rfl (by repeat' (first | exact True.intro | refine And.intro ?_ ?_ | assumption | omega | (dsimp only; omega) | (simp only [Nat.add_eq, Nat.mul_eq, Nat.sub_eq, SV.wd]; omega) | exact rfl)) ?_
      exact S.retv rfl rfl rfl rfl rfl
    . obtain rfl : k2 = 0 := by omega
      rw [show s2 + 0 * 38 = s2 by omega] at hcut
      refine S.go false rfl (by repeat' (first | exact True.intro | refine And.intro ?_ ?_ | assumption | omega | (dsimp only; omega) | (simp only [Nat.add_eq, Nat.mul_eq, Nat.sub_eq, SV.wd]; omega) | exact rfl)) ?_
      refine S.cv rfl rfl rfl rfl rfl rfl hcut ?_
      refine S.go false rfl (by repeat' (first | exact True.intro | refine And.intro ?_ ?_ | assumption | omega | (dsimp only; omega) | (simp only [Nat.add_eq, Nat.mul_eq, Nat.sub_eq, SV.wd]; omega) | exact rfl)) ?_
      exact S.retv rfl rfl rfl rfl rfl
theorem QgN {xs ys : List Int} (hx : Qn xs) (hy : Qn ys) (hl : xs.length = 4) (hm : ys.length = 4) : PV Tryd.prog gT 80 [.a .u64 xs 4, .a .u64 ys 4] (.a .u64 (Qc 4 ((Qf xs 4 + Qf ys 4 * 2 ^ 256) % pV)) 4) := by
  have h := QgO (lo := Qf xs 4) (hi := Qf ys 4) (Xl xs hx 4) (Xl ys hy 4)
  rwa [<- VW xs hx 4 hl, <- VW ys hy 4 hm] at h
theorem QgA {x y p c : Int} (hx : 0 <= x /\ x < 18446744073709551616) (hy : 0 <= y /\ y < 18446744073709551616) (hp : 0 <= p /\ p < 18446744073709551616) (hc : 0 <= c /\ c < 18446744073709551616) :
    (0 <= x * y / 18446744073709551616 /\ x * y / 18446744073709551616 < 18446744073709551616) /\ (0 <= x * y % 18446744073709551616 /\ x * y % 18446744073709551616 < 18446744073709551616) /\ (0 <= x * y / 18446744073709551616 + (p + x * y % 18446744073709551616 + 0) / 18446744073709551616 /\ x * y / 18446744073709551616 + (p + x * y % 18446744073709551616 + 0) / 18446744073709551616 < 18446744073709551616) /\ (0 <= x * y / 18446744073709551616 + (p + x * y % 18446744073709551616 + 0) / 18446744073709551616 + ((p + x * y % 18446744073709551616 + 0) % 18446744073709551616 + c + 0) / 18446744073709551616 /\ x * y / 18446744073709551616 + (p + x * y % 18446744073709551616 + 0) / 18446744073709551616 + ((p + x * y % 18446744073709551616 + 0) % 18446744073709551616 + c + 0) / 18446744073709551616 < 18446744073709551616) /\ ((p + x * y % 18446744073709551616 + 0) % 18446744073709551616 + c + 0) % 18446744073709551616 + (x * y / 18446744073709551616 + (p + x * y % 18446744073709551616 + 0) / 18446744073709551616 + ((p + x * y % 18446744073709551616 + 0) % 18446744073709551616 + c + 0) / 18446744073709551616) * 18446744073709551616 = x * y + p + c := by
  have hm := KT (p := p) (c := c) hx hy
  generalize x * y = m at *
  omega
theorem J8 {l : List Int} {i j : Nat} (h : i ≠ j) (v : Int) : Qb (l.set i v) j = Qb l j := by simp [Qb, List.getElem?_set, h]
def lo4 (p : List Int) : List Int := [Qb p 0, Qb p 1, Qb p 2, Qb p 3]
def hi4 (p : List Int) : List Int := [Qb p 4, Qb p 5, Qb p 6, Qb p 7]
theorem Qbt {a b c d : Int} (ha : 0 <= a /\ a < 18446744073709551616) (hb : 0 <= b /\ b < 18446744073709551616) (hc : 0 <= c /\ c < 18446744073709551616) (hd : 0 <= d /\ d < 18446744073709551616) : Qn [a, b, c, d] := by
  intro x hx
  simp only [List.mem_cons, List.not_mem_nil, or_false] at hx
  rcases hx with rfl | rfl | rfl | rfl <;> assumption
set_option exponentiation.threshold 600 in
theorem QhM (p : List Int) : Qf (lo4 p) 4 + Qf (hi4 p) 4 * 2 ^ 256 = Qf p 8 := by
  simp only [Qf, lo4, hi4, Qb, List.getElem?_cons_zero, List.getElem?_cons_succ, Option.getD_some, Nat.reduceMul, Nat.reduceAdd, Int.reducePow]
  omega
theorem QhS {a b c d a' b' c' d' : Int} {l m : List Int} (h : l = [a, b, c, d]) (h' : m = [a', b', c', d']) : Qt Qu [SV.a .u64 l 4, SV.a .u64 m 4] = Qt Qu [SV.g [.i .u64 a, .i .u64 b, .i .u64 c, .i .u64 d], SV.g [.i .u64 a', .i .u64 b', .i .u64 c', .i .u64 d']] := by subst h; subst h'; rfl
set_option maxHeartbeats 4000000 in
theorem Qgk {xs ys : List Int} (hx : Qn xs) (hy : Qn ys) (hxl : xs.length = 4) (hyl : ys.length = 4) : PV Tryd.prog gT 52 [.a .u64 xs 4, .a .u64 ys 4] (.a .u64 (Qc 4 (Qf xs 4 * Qf ys 4 % pV)) 4) := by
  refine PV.mk' Tryd.func52 rfl rfl rfl rfl fun w L hL hG => ?_
  refine S.enter Qh [.a .u64 xs 4, .a .u64 ys 4] gT Tryd.func52 rfl rfl rfl (fun _ => rfl) hL hG ?_
  refine S.go false rfl (by repeat' (first | exact True.intro | refine And.intro ?_ ?_ | assumption | omega | (dsimp only; omega) | (simp only [Nat.add_eq, Nat.mul_eq, Nat.sub_eq, SV.wd]; omega) | exact rfl)) ?_
  refine S.recell 3 [.a .u64 (List.replicate 8 0) 8] rfl (fun ρ => rfl) ⟨rfl, trivial⟩ rfl ?_
  refine S.loop [2, 3, 4, 5] (fun s : TSt => [(6, .i .i64 (s.k : Int))]) (fun s => [(0, [.a .u64 xs 4]), (1, [.a .u64 ys 4]), (2, [.i .u64 0, .i .u64 0, .i .u64 0, .i .u64 0]), (3, [.a .u64 s.p 8])]) (fun _ => []) (fun s => s.k <= 4 /\ Qn s.p /\ s.p.length = 8 /\ Qf s.p 8 = Qf xs s.k * Qf ys 4 /\ ∀ j, s.k + 4 <= j -> Qb s.p j = 0) (fun s => 4 - s.k) ⟨0, List.replicate 8 0⟩ rfl (fun _ => rfl) (fun _ => rfl) rfl ⟨⟨rfl, rfl⟩, trivial⟩ (by repeat' (first | exact True.intro | refine And.intro ?_ ?_ | assumption | exact rfl)) (fun _ _ _ => trivial) ⟨by show (0 : Nat) <= 4; omega, F5 8, rfl, by show Qf (List.replicate 8 0) 8 = _; rw [Qf1]; simp [Qf], fun j _ => Df j⟩ fun J s hs again => ?_
  obtain ⟨k, ps⟩ := s
  obtain ⟨hk, hpw, hpl2, hpv, hpz⟩ := hs
  simp only at hk hpw hpl2 hpv hpz
  dsimp only
  refine S.g false rfl ?_
  refine S.cond rfl (fun c => ?_) (fun c => ?_)
  . have ck : k < 4 := by omega
    refine S.g false rfl ?_
    refine S.loop [2, 3, 4, 5, 6] (fun s : TIn => [(7, .i .u64 s.c), (8, .i .i64 (s.j : Int))]) (fun s => [(0, [.a .u64 xs 4]), (1, [.a .u64 ys 4]), (2, [.i .u64 0, .i .u64 0, .i .u64 0, .i .u64 0]), (3, [.a .u64 s.p 8])]) (fun _ => []) (fun s => s.j <= 4 /\ Qn s.p /\ s.p.length = 8 /\ (0 <= s.c /\ s.c < 18446744073709551616) /\ Qf s.p 8 + s.c * 2 ^ (64 * (k + s.j)) = Qf xs k * Qf ys 4 + Qb xs k * Qf ys s.j * 2 ^ (64 * k) /\ ∀ j, k + 4 <= j -> Qb s.p j = 0) (fun s => 4 - s.j) ⟨0, ps, 0⟩ rfl (fun _ => rfl) (fun _ => rfl) rfl ⟨⟨rfl, rfl⟩, ⟨rfl, rfl⟩, trivial⟩ (by repeat' (first | exact True.intro | refine And.intro ?_ ?_ | assumption | exact rfl)) (fun _ _ _ => trivial) ⟨by show (0 : Nat) <= 4; omega, hpw, hpl2, ⟨by show (0 : Int) <= 0; omega, by show (0 : Int) < 18446744073709551616; omega⟩, by show Qf ps 8 + 0 * 2 ^ (64 * (k + 0)) = _; rw [hpv]; simp [Qf], hpz⟩ fun J2 s2 hs2 again2 => ?_
    obtain ⟨j, qs, e⟩ := s2
    obtain ⟨hj, hqw, hql, he, hqv, hqz⟩ := hs2
    simp only at hj hqw hql he hqv hqz
    dsimp only
    refine S.g false rfl ?_
    refine S.cond rfl (fun c2 => ?_) (fun c2 => ?_)
    . have cj : j < 4 := by omega
      have e1 : xs.getD (Int.toNat (k : Int)) 0 = Qb xs k := by rw [Int.toNat_natCast, Qx]
      have e2 : ys.getD (Int.toNat (j : Int)) 0 = Qb ys j := by rw [Int.toNat_natCast, Qx]
      have e4 : Int.toNat ((k : Int) + (j : Int)) = k + j := by omega
      have e3 : qs.getD (Int.toNat ((k : Int) + (j : Int))) 0 = Qb qs (k + j) := by rw [e4, Qx]
      have hxk : 0 <= xs.getD (Int.toNat (k : Int)) 0 /\ xs.getD (Int.toNat (k : Int)) 0 < 18446744073709551616 := by rw [e1]; exact hx.at k
      have hyj : 0 <= ys.getD (Int.toNat (j : Int)) 0 /\ ys.getD (Int.toNat (j : Int)) 0 < 18446744073709551616 := by rw [e2]; exact hy.at j
      have hqj : 0 <= qs.getD (Int.toNat ((k : Int) + (j : Int))) 0 /\ qs.getD (Int.toNat ((k : Int) + (j : Int))) 0 < 18446744073709551616 := by rw [e3]; exact hqw.at (k + j)
      obtain ⟨m1, m2, m3, m4, m5⟩ := QgA hxk hyj hqj he
      have hM := U4 _ _ hxk hyj
      have hstep := HK qs xs ys k j _ e _ _ hql ck cj hqv (by rw [<- e1, <- e2, <- e3]; exact m5)
      generalize xs.getD (Int.toNat (k : Int)) 0 * ys.getD (Int.toNat (j : Int)) 0 / 18446744073709551616 = mh at *
      generalize xs.getD (Int.toNat (k : Int)) 0 * ys.getD (Int.toNat (j : Int)) 0 % 18446744073709551616 = ml at *
      refine S.g false rfl ?_
      refine S.drp (G := gT) false [(6, .t [.i .u64 mh, .i .u64 ml])] rfl rfl rfl ?_ (by repeat' (first | exact True.intro | refine And.intro ?_ ?_ | assumption | omega | (dsimp only; omega) | (simp only [Nat.add_eq, Nat.mul_eq, Nat.sub_eq, SV.wd]; omega) | exact rfl))
      refine S.go false rfl (by repeat' (first | exact True.intro | refine And.intro ?_ ?_ | assumption | omega | (dsimp only; omega) | (simp only [Nat.add_eq, Nat.mul_eq, Nat.sub_eq, SV.wd]; omega) | exact rfl)) ?_
      refine S.ext rfl rfl rfl rfl rfl rfl rfl (Ze _ _ _ hqj.1 (by omega) (by omega) (by omega)) rfl ?_
      generalize qs.getD (Int.toNat ((k : Int) + (j : Int))) 0 = q at *
      generalize hl1 : (q + ml + 0) % 18446744073709551616 = l1 at *
      generalize ho1 : (q + ml + 0) / 18446744073709551616 = o1 at *
      refine S.go false rfl (by repeat' (first | exact True.intro | refine And.intro ?_ ?_ | assumption | omega | (dsimp only; omega) | (simp only [Nat.add_eq, Nat.mul_eq, Nat.sub_eq, SV.wd]; omega) | exact rfl)) ?_
      refine S.ext rfl rfl rfl rfl rfl rfl rfl (Ze _ _ _ (by omega) he.1 (by omega) (by omega)) rfl ?_
      have hl2 : 0 <= (l1 + e + 0) % 18446744073709551616 /\ (l1 + e + 0) % 18446744073709551616 < 18446744073709551616 := by omega
      generalize hl2e : (l1 + e + 0) % 18446744073709551616 = l2 at *
      generalize ho2 : (l1 + e + 0) / 18446744073709551616 = o2 at *
      refine S.go false rfl (by repeat' (first | exact True.intro | refine And.intro ?_ ?_ | omega | (dsimp only; omega) | (simp only [Nat.add_eq, Nat.mul_eq, Nat.sub_eq, SV.wd]; omega) | exact rfl)) ?_
      have hsl : (qs.set (Int.toNat ((k : Int) + (j : Int))) l2).length = 8 := by rw [List.length_set]; exact hql
      refine S.again (again2 ⟨j + 1, qs.set (k + j) l2, mh + o1 + o2⟩ ⟨by show j + 1 <= 4; omega, hqw.set _ hl2, by simp [hql], m4, hstep, fun t ht => by rw [J8 (by omega)]; exact hqz t ht⟩ (show 4 - (j + 1) < 4 - j by omega)) ⟨⟨rfl, rfl⟩, ⟨rfl, by simp only; omega⟩, rfl, rfl, rfl, rfl, ⟨rfl, rfl⟩, trivial⟩ ?_ rfl rfl (fun x hx => hx) rfl (fun ρ W h => h.hs)
      repeat' (first | exact True.intro | refine And.intro ?_ ?_ | assumption | exact congrArg (fun z => SV.a .u64 (qs.set z l2) 8) e4 | (show (qs.set (k + j) l2).length = 8; simp only [List.length_set]; exact hql) | exact rfl)
    . obtain rfl : j = 4 := by omega
      have ek : Int.toNat ((k : Int) + 4) = k + 4 := by omega
      have hst := Kx qs (k + 4) _ e e 0 hql (by omega) hqv (by rw [hqz (k + 4) (Nat.le_refl _)]; omega)
      have hus := hqw.set (k + 4) he
      have hul : (qs.set (k + 4) e).length = 8 := by rw [List.length_set]; exact hql
      have hend := Qb0 xs ys k (Qf (qs.set (k + 4) e) 8) (by rw [<- hst]; simp)
      refine S.go false rfl (by repeat' (first | exact True.intro | refine And.intro ?_ ?_ | omega | (dsimp only; omega) | (simp only [Nat.add_eq, Nat.mul_eq, Nat.sub_eq, SV.wd]; omega) | exact rfl)) ?_
      refine S.again (again ⟨k + 1, qs.set (k + 4) e⟩ ⟨by show k + 1 <= 4; omega, hus, hul, hend, fun t ht => by rw [J8 (by simp only at ht; omega)]; exact hqz t (by simp only at ht; omega)⟩ (show 4 - (k + 1) < 4 - k by omega)) ⟨⟨rfl, by simp only; omega⟩, rfl, rfl, rfl, rfl, trivial⟩ ?_ rfl rfl (fun x hx => hx) rfl (fun ρ W h => h.hs)
      repeat' (first | exact True.intro | refine And.intro ?_ ?_ | assumption | exact congrArg (fun z => SV.a .u64 (qs.set z e) 8) ek | exact rfl)
  . obtain rfl : k = 4 := by omega
    have hF := QgN (Qbt (hpw.at 0) (hpw.at 1) (hpw.at 2) (hpw.at 3)) (Qbt (hpw.at 4) (hpw.at 5) (hpw.at 6) (hpw.at 7)) rfl rfl
    have hlh := QhM ps
    rw [hpv] at hlh
    unfold lo4 hi4 at hlh
    rw [hlh] at hF
    have hF2 := hF.arg (QhS rfl rfl)
    simp only [<- Qx] at hF2
    refine S.go false rfl (by repeat' (first | exact True.intro | refine And.intro ?_ ?_ | assumption | omega | (dsimp only; omega) | (simp only [Nat.add_eq, Nat.mul_eq, Nat.sub_eq, SV.wd]; omega) | exact rfl)) ?_
    refine S.cv rfl rfl rfl rfl rfl rfl hF2 ?_
    refine S.go false rfl (by repeat' (first | exact True.intro | refine And.intro ?_ ?_ | assumption | omega | (dsimp only; omega) | (simp only [Nat.add_eq, Nat.mul_eq, Nat.sub_eq, SV.wd]; omega) | exact rfl)) ?_
    exact S.retv rfl rfl rfl rfl rfl
theorem Um {u v : Int} (hu : 0 <= u /\ u < 2 ^ 256) (hv : 0 <= v /\ v < 2 ^ 256) : PV Tryd.prog gT 52 [.a .u64 (Qc 4 u) 4, .a .u64 (Qc 4 v) 4] (.a .u64 (Qc 4 (u * v % pV)) 4) := by
  have h := Qgk (Qo 4 u) (Qo 4 v) (Qa 4 u) (Qa 4 v)
  rwa [QC hu.1 hu.2, QC hv.1 hv.2] at h
theorem QiL {ys : List Int} (hy : Qn ys) {k : Nat} (hk : k < 256) : bits .and .u64 (ys.getD (Int.toNat ((255 - (k : Int)) / 64)) 0 / 2 ^ Int.toNat ((255 - (k : Int)) % 64)) 1 = Qf ys 4 / 2 ^ (255 - k) % 2 := by
  have e1 : Int.toNat ((255 - (k : Int)) / 64) = (255 - k) / 64 := by omega
  have e2 : Int.toNat ((255 - (k : Int)) % 64) = (255 - k) % 64 := by omega
  rw [e1, e2, Qx, <- FW ys hy 4 (255 - k) (by omega)]
  have hx64 := hy.at ((255 - k) / 64)
  have h0 : 0 <= Qb ys ((255 - k) / 64) / 2 ^ ((255 - k) % 64) := Int.ediv_nonneg hx64.1 (Int.le_of_lt (QI _))
  have h1 : Qb ys ((255 - k) / 64) / 2 ^ ((255 - k) % 64) <= Qb ys ((255 - k) / 64) := Int.ediv_le_self _ hx64.1
  exact XE _ 1 1 rfl (by omega) h0 (by omega)
set_option maxHeartbeats 1000000 in
theorem Ea {u v : Int} (hu : 0 <= u /\ u < 2 ^ 256) (hv : 0 <= v /\ v < 2 ^ 256) : PV Tryd.prog gT 83 [.a .u64 (Qc 4 u) 4, .a .u64 (Qc 4 v) 4] (.a .u64 (Qc 4 (u ^ v.toNat % pV)) 4) := by
  have e0 : u ^ v.toNat % pV = Q5 u v 0 := by unfold Q5; rw [Int.pow_zero, Int.ediv_one]
  rw [e0]
  have hvl := Qa 4 v; have hul := Qa 4 u
  have hvw := Qo 4 v
  have hvv := QC hv.1 hv.2
  generalize Qc 4 v = ys at *
  refine PV.mk' Tryd.func83 rfl rfl rfl rfl fun w L hL hG => ?_
  refine S.enter Qh [.a .u64 (Qc 4 u) 4, .a .u64 ys 4] gT Tryd.func83 rfl rfl rfl (fun _ => rfl) hL hG ?_
  refine S.go false rfl (by repeat' (first | exact True.intro | refine And.intro ?_ ?_ | assumption | omega | (dsimp only; omega) | (simp only [Nat.add_eq, Nat.mul_eq, Nat.sub_eq, SV.wd]; omega) | exact rfl)) ?_
  have hol := Qa 4 (Q5 u v (256 - 0))
  refine S.recell 3 [.a .u64 (Qc 4 (Q5 u v (256 - 0))) 4] rfl (fun ρ => by rw [Nat.sub_zero, Hv u v hv, QcF]; rfl) ⟨hol, trivial⟩ rfl ?_
  refine S.loop [2, 3, 4, 5] (fun k : Nat => [(6, .i .i64 (255 - (k : Int)))]) (fun k => [(0, [.a .u64 (Qc 4 u) 4]), (1, [.a .u64 ys 4]), (2, [.i .u64 0, .i .u64 0, .i .u64 0, .i .u64 0]), (3, [.a .u64 (Qc 4 (Q5 u v (256 - k))) 4])]) (fun _ => []) (fun k => k <= 256) (fun k => 256 - k) 0 rfl (fun _ => rfl) (fun _ => rfl) rfl ⟨⟨rfl, rfl⟩, trivial⟩ (by repeat' (first | exact True.intro | refine And.intro ?_ ?_ | exact hol | assumption | exact rfl)) (fun _ _ _ => trivial) (by omega) fun J k hk again => ?_
  have hk' : k <= 256 := hk
  have hlen := Qa 4 (Q5 u v (256 - k))
  refine S.g false rfl ?_
  refine S.cond rfl (fun c => ?_) (fun c => ?_)
  . have c' : k < 256 := by omega
    have hz := QbH u v (256 - k)
    have hP := Um hz hz
    have hlen' := Qa 4 (Q5 u v (256 - (k + 1)))
    have hbe := QiL hvw c'
    rw [hvv] at hbe
    have ek : 256 - k = (255 - k) + 1 := by omega
    have ek' : 256 - (k + 1) = 255 - k := by omega
    refine S.go false rfl (by repeat' (first | exact True.intro | refine And.intro ?_ ?_ | assumption | omega | (dsimp only; omega) | (simp only [Nat.add_eq, Nat.mul_eq, Nat.sub_eq, SV.wd]; omega) | exact rfl)) ?_
    refine S.cv rfl rfl rfl rfl rfl rfl hP ?_
    have hl2 := Qa 4 (Q5 u v (256 - k) * Q5 u v (256 - k) % pV)
    refine S.go false rfl (by repeat' (first | exact True.intro | refine And.intro ?_ ?_ | omega | (dsimp only; omega) | (simp only [Nat.add_eq, Nat.mul_eq, Nat.sub_eq, SV.wd]; omega) | exact rfl)) ?_
    refine S.cond rfl (fun c2 => ?_) (fun c2 => ?_)
    . rw [hbe] at c2
      have hm := XQ (Q5 u v (256 - k) * Q5 u v (256 - k))
      have hpp := VH
      have hQ := Um (u := Q5 u v (256 - k) * Q5 u v (256 - k) % pV) (v := u) ⟨hm.1, by omega⟩ hu
      have et := QbG u v (255 - k) hv.1 c2
      rw [<- ek, <- ek'] at et
      rw [et] at hQ
      refine S.go false rfl (by repeat' (first | exact True.intro | refine And.intro ?_ ?_ | assumption | omega | (dsimp only; omega) | (simp only [Nat.add_eq, Nat.mul_eq, Nat.sub_eq, SV.wd]; omega) | exact rfl)) ?_
      refine S.cv rfl rfl rfl rfl rfl rfl hQ ?_
      refine S.go false rfl (by repeat' (first | exact True.intro | refine And.intro ?_ ?_ | omega | (dsimp only; omega) | (simp only [Nat.add_eq, Nat.mul_eq, Nat.sub_eq, SV.wd]; omega) | exact rfl)) ?_
      refine S.again (again (k + 1) (show k + 1 <= 256 by omega) (show 256 - (k + 1) < 256 - k by omega)) ⟨⟨rfl, by omega⟩, rfl, rfl, rfl, rfl, trivial⟩ ?_ rfl rfl (fun x hx => hx) rfl (fun ρ W h => h.hs)
      repeat' (first | exact True.intro | refine And.intro ?_ ?_ | exact hlen' | assumption | exact rfl)
    . rw [hbe] at c2
      have et := QaG u v (255 - k) hv.1 (by omega)
      rw [<- ek, <- ek'] at et
      refine S.go false rfl (by repeat' (first | exact True.intro | refine And.intro ?_ ?_ | assumption | omega | (dsimp only; omega) | (simp only [Nat.add_eq, Nat.mul_eq, Nat.sub_eq, SV.wd]; omega) | exact rfl)) ?_
      refine S.again (again (k + 1) (show k + 1 <= 256 by omega) (show 256 - (k + 1) < 256 - k by omega)) ⟨⟨rfl, by omega⟩, rfl, rfl, rfl, rfl, trivial⟩ ?_ rfl rfl (fun x hx => hx) rfl (fun ρ W h => h.hs)
      repeat' (first | exact True.intro | refine And.intro ?_ ?_ | exact hlen' | exact congrArg (fun z => SV.a .u64 (Qc 4 z) 4) et | assumption | exact rfl)
  . obtain rfl : k = 256 := by omega
    refine S.go false rfl (by repeat' (first | exact True.intro | refine And.intro ?_ ?_ | assumption | omega | (dsimp only; omega) | (simp only [Nat.add_eq, Nat.mul_eq, Nat.sub_eq, SV.wd]; omega) | exact rfl)) ?_
    exact S.retv rfl rfl rfl rfl rfl
theorem EA : (pV - 2).toNat = (Qk (ZM 235 127) 32).toNat := by rw [DX]; decide +kernel
theorem Qc1 {u : Int} (hu : 0 <= u /\ u < 2 ^ 256) : PV Tryd.prog gT 57 [.a .u64 (Qc 4 u) 4] (.a .u64 (Qc 4 (Fy u)) 4) := by
  have hP := P_r
  have hp := VH
  have h2 := (VM (u := pV) (v := 2) (by omega) (by decide +kernel) hp.2).arg (KZ (Qgu 2 (by omega) (by omega)))
  have h3 := Ea (u := u) (v := pV - 2) hu Qgn
  have e : u ^ (pV - 2).toNat % pV = Fy u := by rw [EA]; rfl
  rw [e] at h3
  have l1 := Qa 4 u; have l2 := Qa 4 (pV - 2); have l3 := Qa 4 pV; have l4 := Qa 4 (Fy u)
  generalize Qc 4 u = x at *
  generalize Qc 4 (pV - 2) = y at *
  generalize Qc 4 pV = p at *
  generalize Qc 4 (Fy u) = z at *
  refine PV.mk' Tryd.func57 rfl rfl rfl rfl fun w L hL hG => ?_
  refine S.enter Qh [.a .u64 x 4] gT Tryd.func57 rfl rfl rfl (fun _ => rfl) hL hG ?_
  refine S.go false rfl (by repeat' (first | exact True.intro | refine And.intro ?_ ?_ | assumption | omega | (dsimp only; omega) | (simp only [Nat.add_eq, Nat.mul_eq, Nat.sub_eq, SV.wd]; omega) | exact rfl)) ?_
  refine S.cv rfl rfl rfl rfl rfl rfl hP ?_
  refine S.go false rfl (by repeat' (first | exact True.intro | refine And.intro ?_ ?_ | assumption | omega | (dsimp only; omega) | (simp only [Nat.add_eq, Nat.mul_eq, Nat.sub_eq, SV.wd]; omega) | exact rfl)) ?_
  refine S.cv rfl rfl rfl rfl rfl rfl h2 ?_
  refine S.go false rfl (by repeat' (first | exact True.intro | refine And.intro ?_ ?_ | assumption | omega | (dsimp only; omega) | (simp only [Nat.add_eq, Nat.mul_eq, Nat.sub_eq, SV.wd]; omega) | exact rfl)) ?_
  refine S.cv rfl rfl rfl rfl rfl rfl h3 ?_
  refine S.go false rfl (by repeat' (first | exact True.intro | refine And.intro ?_ ?_ | assumption | omega | (dsimp only; omega) | (simp only [Nat.add_eq, Nat.mul_eq, Nat.sub_eq, SV.wd]; omega) | exact rfl)) ?_
  exact S.retv rfl rfl rfl rfl rfl
theorem QgM {y : SV} {a b c d : Int} {l : List Int} (h : l = [a, b, c, d]) : Qt Qu [SV.a .u64 l 4, y] = Qt Qu [SV.g [.i .u64 a, .i .u64 b, .i .u64 c, .i .u64 d], y] := by subst h; rfl
theorem QfM {c : Int} (h : 0 <= c) : bits BinOp.and IntKind.u64 ((Qc 4 c).getD 0 0) 1 = c % 2 := by rw [Qx]; exact QcC h
set_option maxHeartbeats 2000000 in
theorem QbL {u : Int} (hu : 0 <= u /\ u < pV) : PV Tryd.prog gT 55 [.a .u64 (Qc 4 u) 4] (.t [.a .u64 (Qc 4 (rV u)) 4, .l (okV u)]) := by
  have hp := Fb
  have l0 := Ep u
  have l1 := Eo u
  have hi : 0 <= iV /\ iV < 2 ^ 256 := by decide +kernel
  have T0 := (Ea (u := u) (v := Qk (ZM 254 15) 32) ⟨hu.1, by omega⟩ QhV).arg (KZ Qe3.symm)
  rw [show u ^ (Qk (ZM 254 15) 32).toNat % pV = Zh u from rfl] at T0
  have T1 := (Ea (u := 2) (v := ((kN : Nat) : Int)) (by omega) QhD).arg (QhS Qd4.symm Qew.symm)
  rw [Int.toNat_natCast, Qf6] at T1
  have P0 := Um (u := Zh u) (v := Zh u) ⟨l0.1, by omega⟩ ⟨l0.1, by omega⟩
  have P1 := Um (u := Zh u) (v := iV) ⟨l0.1, by omega⟩ hi
  rw [show Zh u * iV % pV = Yh u from rfl] at P1
  have P2 := Um (u := Yh u) (v := Yh u) ⟨l1.1, by omega⟩ ⟨l1.1, by omega⟩
  have s0 := XQ (Zh u * Zh u)
  have s1 := XQ (Yh u * Yh u)
  have hs0 : decide (Qc 4 (Zh u * Zh u % pV) = Qc 4 u) = Hg u := Fh (by omega) (by omega)
  have hs1 : decide (Qc 4 (Yh u * Yh u % pV) = Qc 4 u) = HG u := Fh (by omega) (by omega)
  have N0 := (EX (u := 0) (v := Zh u) (by decide +kernel) l0).arg (QgM Ga.symm)
  have N1 := (EX (u := 0) (v := Yh u) (by decide +kernel) l1).arg (QgM Ga.symm)
  have o0 := QfM l0.1
  have o1 := QfM l1.1
  have n0 := Qa 4 u; have n1 := Qa 4 (Zh u); have n2 := Qa 4 (Yh u); have n3 := Qa 4 iV
  have n4 := Qa 4 (Zh u * Zh u % pV); have n5 := Qa 4 (Yh u * Yh u % pV); have n6 := Qa 4 ((0 - Zh u) % pV); have n7 := Qa 4 ((0 - Yh u) % pV)
  have hz := Ga
  have hE : rV u = if Hg u then X7 (Zh u) else if HG u then X7 (Yh u) else 0 := rfl
  have hO : okV u = (Hg u || HG u) := rfl
  have E0 : X7 (Zh u) = if Zh u % 2 = 1 then (0 - Zh u) % pV else Zh u := rfl
  have E1 : X7 (Yh u) = if Yh u % 2 = 1 then (0 - Yh u) % pV else Yh u := rfl
  refine PV.mk' Tryd.func55 rfl rfl rfl rfl fun w L hL hG => ?_
  refine S.enter Qh [.a .u64 (Qc 4 u) 4] gT Tryd.func55 rfl rfl rfl (fun _ => rfl) hL hG ?_
  refine S.go false rfl (by repeat' (first | exact True.intro | refine And.intro ?_ ?_ | assumption | omega | (dsimp only; omega) | (simp only [Nat.add_eq, Nat.mul_eq, Nat.sub_eq, SV.wd]; omega) | exact rfl)) ?_
  refine S.cv rfl rfl rfl rfl rfl rfl T0 ?_
  refine S.go false rfl (by repeat' (first | exact True.intro | refine And.intro ?_ ?_ | assumption | omega | (dsimp only; omega) | (simp only [Nat.add_eq, Nat.mul_eq, Nat.sub_eq, SV.wd]; omega) | exact rfl)) ?_
  refine S.drp false [(2, .a .u64 (Qc 4 (Zh u * Zh u % pV)) 4)] rfl rfl rfl ?_ (by repeat' (first | exact True.intro | refine And.intro ?_ ?_ | assumption | omega | (dsimp only; omega) | (simp only [Nat.add_eq, Nat.mul_eq, Nat.sub_eq, SV.wd]; omega) | exact rfl))
  refine S.g false rfl ?_
  refine S.cond rfl (fun c3 => ?_) (fun c3 => ?_)
  . have h0 : Hg u = false := by rw [<- hs0]; exact decide_eq_false c3
    rw [h0] at hE hO
    refine S.go false rfl (by repeat' (first | exact True.intro | refine And.intro ?_ ?_ | assumption | omega | (dsimp only; omega) | (simp only [Nat.add_eq, Nat.mul_eq, Nat.sub_eq, SV.wd]; omega) | exact rfl)) ?_
    refine S.drp false [(3, .a .u64 (Qc 4 iV) 4), (4, .a .u64 (Qc 4 (Yh u)) 4)] rfl rfl rfl ?_ (by repeat' (first | exact True.intro | refine And.intro ?_ ?_ | assumption | omega | (dsimp only; omega) | (simp only [Nat.add_eq, Nat.mul_eq, Nat.sub_eq, SV.wd]; omega) | exact rfl))
    refine S.go false rfl (by repeat' (first | exact True.intro | refine And.intro ?_ ?_ | assumption | omega | (dsimp only; omega) | (simp only [Nat.add_eq, Nat.mul_eq, Nat.sub_eq, SV.wd]; omega) | exact rfl)) ?_
    refine S.drp false [(2, .a .u64 (Qc 4 (Yh u * Yh u % pV)) 4)] rfl rfl rfl ?_ (by repeat' (first | exact True.intro | refine And.intro ?_ ?_ | assumption | omega | (dsimp only; omega) | (simp only [Nat.add_eq, Nat.mul_eq, Nat.sub_eq, SV.wd]; omega) | exact rfl))
    refine S.g false rfl ?_
    refine S.cond rfl (fun c6 => ?_) (fun c6 => ?_)
    . have h1 : HG u = false := by rw [<- hs1]; exact decide_eq_false c6
      rw [h1] at hE hO
      rw [hE, hO, if_neg (by decide), if_neg (by decide), <- hz]
      refine S.go false rfl (by repeat' (first | exact True.intro | refine And.intro ?_ ?_ | assumption | omega | (dsimp only; omega) | (simp only [Nat.add_eq, Nat.mul_eq, Nat.sub_eq, SV.wd]; omega) | exact rfl)) ?_
      exact S.rett rfl rfl rfl rfl rfl
    . have h1 : HG u = true := by rw [<- hs1]; exact decide_eq_true (Decidable.of_not_not c6)
      rw [h1] at hE hO
      rw [hE, hO, if_neg (by decide), if_pos rfl]
      refine S.go false rfl (by repeat' (first | exact True.intro | refine And.intro ?_ ?_ | assumption | omega | (dsimp only; omega) | (simp only [Nat.add_eq, Nat.mul_eq, Nat.sub_eq, SV.wd]; omega) | exact rfl)) ?_
      refine S.cond rfl (fun c8 => ?_) (fun c8 => ?_)
      . replace c8 : Yh u % 2 = 1 := by rw [<- o1]; exact c8
        rw [E1, if_pos c8]
        refine S.go false rfl (by repeat' (first | exact True.intro | refine And.intro ?_ ?_ | assumption | omega | (dsimp only; omega) | (simp only [Nat.add_eq, Nat.mul_eq, Nat.sub_eq, SV.wd]; omega) | exact rfl)) ?_
        refine S.cv rfl rfl rfl rfl rfl rfl N1 ?_
        refine S.go false rfl (by repeat' (first | exact True.intro | refine And.intro ?_ ?_ | assumption | omega | (dsimp only; omega) | (simp only [Nat.add_eq, Nat.mul_eq, Nat.sub_eq, SV.wd]; omega) | exact rfl)) ?_
        exact S.rett rfl rfl rfl rfl rfl
      . replace c8 : ¬ Yh u % 2 = 1 := by rw [<- o1]; exact c8
        rw [E1, if_neg c8]
        refine S.go false rfl (by repeat' (first | exact True.intro | refine And.intro ?_ ?_ | assumption | omega | (dsimp only; omega) | (simp only [Nat.add_eq, Nat.mul_eq, Nat.sub_eq, SV.wd]; omega) | exact rfl)) ?_
        exact S.rett rfl rfl rfl rfl rfl
  . have h0 : Hg u = true := by rw [<- hs0]; exact decide_eq_true (Decidable.of_not_not c3)
    rw [h0] at hE hO
    rw [hE, hO, if_pos rfl]
    refine S.go false rfl (by repeat' (first | exact True.intro | refine And.intro ?_ ?_ | assumption | omega | (dsimp only; omega) | (simp only [Nat.add_eq, Nat.mul_eq, Nat.sub_eq, SV.wd]; omega) | exact rfl)) ?_
    refine S.drp false [(2, .a .u64 (Qc 4 (Zh u * Zh u % pV)) 4)] rfl rfl rfl ?_ (by repeat' (first | exact True.intro | refine And.intro ?_ ?_ | assumption | omega | (dsimp only; omega) | (simp only [Nat.add_eq, Nat.mul_eq, Nat.sub_eq, SV.wd]; omega) | exact rfl))
    refine S.g false rfl ?_
    refine S.cond rfl (fun c6 => absurd (Decidable.of_not_not c3) c6) (fun c6 => ?_)
    refine S.go false rfl (by repeat' (first | exact True.intro | refine And.intro ?_ ?_ | assumption | omega | (dsimp only; omega) | (simp only [Nat.add_eq, Nat.mul_eq, Nat.sub_eq, SV.wd]; omega) | exact rfl)) ?_
    refine S.cond rfl (fun c8 => ?_) (fun c8 => ?_)
    . replace c8 : Zh u % 2 = 1 := by rw [<- o0]; exact c8
      rw [E0, if_pos c8]
      refine S.go false rfl (by repeat' (first | exact True.intro | refine And.intro ?_ ?_ | assumption | omega | (dsimp only; omega) | (simp only [Nat.add_eq, Nat.mul_eq, Nat.sub_eq, SV.wd]; omega) | exact rfl)) ?_
      refine S.cv rfl rfl rfl rfl rfl rfl N0 ?_
      refine S.go false rfl (by repeat' (first | exact True.intro | refine And.intro ?_ ?_ | assumption | omega | (dsimp only; omega) | (simp only [Nat.add_eq, Nat.mul_eq, Nat.sub_eq, SV.wd]; omega) | exact rfl)) ?_
      exact S.rett rfl rfl rfl rfl rfl
    . replace c8 : ¬ Zh u % 2 = 1 := by rw [<- o0]; exact c8
      rw [E0, if_neg c8]
      refine S.go false rfl (by repeat' (first | exact True.intro | refine And.intro ?_ ?_ | assumption | omega | (dsimp only; omega) | (simp only [Nat.add_eq, Nat.mul_eq, Nat.sub_eq, SV.wd]; omega) | exact rfl)) ?_
      exact S.rett rfl rfl rfl rfl rfl
end Go.Proofs.YtbiboamaigedjaaDoor
namespace Go.Proofs.YtbiboamaigedjaaDoor
set_option linter.unusedVariables false
set_option maxRecDepth 100000

/-- The order. -/
def lN : Nat := 7237005577332262213973186563042994240857116359379907606001950938285454250989
/-- A point as x and y over one divisor. -/
def Kt (c : FF × FF × FF) (P : Pt) : Prop := c.2.2 ≠ 0 /\ c.1 = P.x * c.2.2 /\ c.2.1 = P.y * c.2.2
def Vc (c e : FF × FF × FF) : FF × FF × FF :=
  let a := c.2.2 * e.2.2
  let b := a * a
  let u := c.1 * e.1
  let v := c.2.1 * e.2.1
  let t := dF * (u * v)
  let f := b - t
  let g := b + t
  (a * f * (c.1 * e.2.1 + c.2.1 * e.1), a * g * (v + u), f * g)
theorem Fc {c e : FF × FF × FF} {P Q : Pt} (h : Kt c P) (k : Kt e Q) : Kt (Vc c e) (Ql P Q) := by
  obtain ⟨cx, cy, cz⟩ := c
  obtain ⟨ex, ey, ez⟩ := e
  obtain ⟨h0, h1, h2⟩ := h
  obtain ⟨k0, k1, k2⟩ := k
  have d1 := Kr P.on Q.on
  have d2 := Kp P.on Q.on
  have p1 := YN P Q
  have p2 := YM P Q
  have nz : ∀ {a b : FF}, a ≠ 0 -> b ≠ 0 -> a * b ≠ 0 := fun ha hb h => (Km h).elim ha hb
  dsimp only at h0 h1 h2 k0 k1 k2
  subst h1 h2 k1 k2
  have ha := nz h0 k0
  have hb := nz ha ha
  have hf : cz * ez * (cz * ez) - dF * (P.x * cz * (Q.x * ez) * (P.y * cz * (Q.y * ez))) = cz * ez * (cz * ez) * (1 - dF*P.x*Q.x*P.y*Q.y) := by grobner
  have hg : cz * ez * (cz * ez) + dF * (P.x * cz * (Q.x * ez) * (P.y * cz * (Q.y * ez))) = cz * ez * (cz * ez) * (1 + dF*P.x*Q.x*P.y*Q.y) := by grobner
  refine ⟨?_, ?_, ?_⟩
  . show (cz * ez * (cz * ez) - dF * (P.x * cz * (Q.x * ez) * (P.y * cz * (Q.y * ez)))) * (cz * ez * (cz * ez) + dF * (P.x * cz * (Q.x * ez) * (P.y * cz * (Q.y * ez)))) ≠ 0
    rw [hf, hg]
    exact nz (nz hb d2) (nz hb d1)
  . show cz * ez * (cz * ez * (cz * ez) - dF * (P.x * cz * (Q.x * ez) * (P.y * cz * (Q.y * ez)))) * (P.x * cz * (Q.y * ez) + P.y * cz * (Q.x * ez)) = (Ql P Q).x * ((cz * ez * (cz * ez) - dF * (P.x * cz * (Q.x * ez) * (P.y * cz * (Q.y * ez)))) * (cz * ez * (cz * ez) + dF * (P.x * cz * (Q.x * ez) * (P.y * cz * (Q.y * ez)))))
    rw [hf, hg]
    have e1 : (Ql P Q).x * (cz * ez * (cz * ez) * (1 - dF*P.x*Q.x*P.y*Q.y) * (cz * ez * (cz * ez) * (1 + dF*P.x*Q.x*P.y*Q.y))) = (Ql P Q).x * (1 + dF*P.x*Q.x*P.y*Q.y) * (cz * ez * (cz * ez) * (1 - dF*P.x*Q.x*P.y*Q.y) * (cz * ez * (cz * ez))) := by
      generalize (Ql P Q).x = X
      generalize 1 - dF*P.x*Q.x*P.y*Q.y = U
      generalize 1 + dF*P.x*Q.x*P.y*Q.y = V
      grobner
    rw [e1, p1]
    generalize 1 - dF*P.x*Q.x*P.y*Q.y = U
    grobner
  . show cz * ez * (cz * ez * (cz * ez) + dF * (P.x * cz * (Q.x * ez) * (P.y * cz * (Q.y * ez)))) * (P.y * cz * (Q.y * ez) + P.x * cz * (Q.x * ez)) = (Ql P Q).y * ((cz * ez * (cz * ez) - dF * (P.x * cz * (Q.x * ez) * (P.y * cz * (Q.y * ez)))) * (cz * ez * (cz * ez) + dF * (P.x * cz * (Q.x * ez) * (P.y * cz * (Q.y * ez)))))
    rw [hf, hg]
    have e1 : (Ql P Q).y * (cz * ez * (cz * ez) * (1 - dF*P.x*Q.x*P.y*Q.y) * (cz * ez * (cz * ez) * (1 + dF*P.x*Q.x*P.y*Q.y))) = (Ql P Q).y * (1 - dF*P.x*Q.x*P.y*Q.y) * (cz * ez * (cz * ez) * (1 + dF*P.x*Q.x*P.y*Q.y) * (cz * ez * (cz * ez))) := by
      generalize (Ql P Q).y = X
      generalize 1 - dF*P.x*Q.x*P.y*Q.y = U
      generalize 1 + dF*P.x*Q.x*P.y*Q.y = V
      grobner
    rw [e1, p2]
    generalize 1 + dF*P.x*Q.x*P.y*Q.y = V
    grobner
/-- So many times, by doubling. -/
def Xg (c : FF × FF × FF) : Nat -> Nat -> FF × FF × FF
  | 0, _ => (0, 1, 1)
  | f + 1, k => match k % 2 with
    | 0 => Vc (Xg c f (k / 2)) (Xg c f (k / 2))
    | _ => Vc (Vc (Xg c f (k / 2)) (Xg c f (k / 2))) c
theorem YQ {c : FF × FF × FF} {P : Pt} (h : Kt c P) : ∀ f k, k < 2 ^ f -> Kt (Xg c f k) (Qs k P)
  | 0, k, hk => by
    obtain rfl : k = 0 := by simpa using hk
    exact ⟨by show (1 : FF) ≠ 0; decide +kernel, by show (0 : FF) = 0 * 1; decide +kernel, by show (1 : FF) = 1 * 1; decide +kernel⟩
  | f + 1, k, hk => by
    have ih := YQ h f (k / 2) (by rw [Nat.pow_succ] at hk; omega)
    have hd := Fc ih ih
    rw [<- Xt] at hd
    unfold Xg
    split
    . next h0 => rw [show k / 2 + k / 2 = k by omega] at hd; exact hd
    . next h0 =>
      have h1 : k / 2 + k / 2 + 1 = k := by
        have : k % 2 ≠ 0 := fun e => h0 e
        omega
      have ho := Fc hd h
      rw [show Ql (Qs (k / 2 + k / 2) P) P = Qs (k / 2 + k / 2 + 1) P from rfl, h1] at ho
      exact ho
theorem QaU {c : FF × FF × FF} {P : Pt} (h : Kt c P) (hx : c.1 = 0) (hy : c.2.1 = c.2.2) : P = QS := by
  obtain ⟨h0, h1, h2⟩ := h
  apply Pt.ext
  . rw [hx] at h1
    rcases Km h1.symm with e | e
    . exact e
    . exact absurd e h0
  . refine E7 h0 ?_
    show c.2.2 * P.y = c.2.2 * 1
    rw [hy] at h2
    grobner
instance instOn (x y : FF) : Decidable (On dF x y) := inferInstanceAs (Decidable (_ = _))
end Go.Proofs.YtbiboamaigedjaaDoor
