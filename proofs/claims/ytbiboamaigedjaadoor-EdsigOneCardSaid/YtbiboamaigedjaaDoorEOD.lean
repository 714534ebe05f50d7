/- A point's bytes are read as that point: mathematics. The closures of Neg and Mix, made, Base, Neg, Mix, walked by the machine of symbols. made, Neg an -/
import Derived.Laws.Closers25b
import Derived.Deep.QuietTactic
import Derived.BigQuiet
import Derived.RegionTactic
import Derived.Deep.RegionWith
import Derived.Deep.RegionHeld3
import Derived.StillTailTactics
import Derived.Laws.Bits64
import Derived.ChangeKeysEq
import Derived.Laws.StructEq
import Derived.Deep.MidRow
import Derived.Lib.SlBuf
import Derived.Laws.CopyRow
import Derived.Laws.MakeOwn
import Derived.Test.YtbiboamaigedjaaDoorRows
import Derived.Lib.LaidTab
import Derived.ChangeSame
import Derived.Stop.LaidErr
import Derived.MakeChecks
import Derived.Test.YtbiboamaigedjaaDoorEOC
namespace Go.Proofs.YtbiboamaigedjaaDoor
open Go.RowKit
set_option linter.unusedVariables false
set_option linter.unusedSimpArgs false
set_option maxRecDepth 8000
set_option maxHeartbeats 2000000

theorem V0 (a : FF) : 0 <= (a.val : Int) /\ (a.val : Int) < pV := by
  have := a.isLt
  rw [Zu]; omega
theorem Es (a : FF) : 0 <= (a.val : Int) /\ (a.val : Int) < 2 ^ 256 := by
  have h := V0 a
  have := Qbs
  omega
/-- The base point's numbers. -/
def Ei : FF := 15112221349535400772501151409588531511454012693041857206046113283949847762202
def Fo : FF := 46316835694926478169428394003475163141307993866256225615783033603165251855960
def bP : Pt := ⟨Ei, Fo, by unfold On; decide +kernel⟩
def Xa (P : Pt) : List Int := if (P.x.val : Int) % 2 = 1 then (QD (P.y.val : Int)).set 31 (Qa (QD (P.y.val : Int)) 31 + 128) else QD (P.y.val : Int)
theorem QB (P : Pt) : (Xa P).length = 32 := by unfold Xa; split <;> simp [Qu]
theorem KH (a : FF) : 0 <= Qa (QD (a.val : Int)) 31 /\ Qa (QD (a.val : Int)) 31 < 128 := by
  have h := VT (a.val : Int) 31 (by omega)
  have hv := V0 a
  have hp : pV < 2 ^ 255 := by decide +kernel
  rw [h]
  omega
theorem Qf1 {x : Int} (hx : 0 <= x /\ x < 128) : bits BinOp.or IntKind.u8 x 128 = x + 128 := by
  have := Y1 (p := fun x => x < 128 -> bits BinOp.or IntKind.u8 x 128 = x + 128) (by decide +kernel) (x := x) (by omega)
  exact this hx.2
theorem Jv (P : Pt) : Xa P = (QD (P.y.val : Int)).set 31 (Qa (QD (P.y.val : Int)) 31 + (P.x.val : Int) % 2 * 128) := by
  unfold Xa
  split
  . next h => rw [h]; rfl
  . next h =>
    rw [show (P.x.val : Int) % 2 = 0 by omega, Int.zero_mul, Int.add_zero]
    have hl := Qu (P.y.val : Int)
    generalize QD (P.y.val : Int) = b at *
    unfold Qa
    refine List.ext_getElem (by simp) fun i h1 h2 => ?_
    rw [List.getElem_set]
    split
    . next hi => subst hi; simp [h1]
    . rfl
theorem GD {l : List Int} {k : Nat} (h : k < l.length) (v : Int) : Qa (l.set k v) k = v := by simp [Qa, h]
theorem Qc9 {l : List Int} {k : Nat} (h : k < l.length) : l.set k (Qa l k) = l := by
  refine List.ext_getElem (by simp) fun i h1 h2 => ?_
  rw [List.getElem_set]
  split
  . next hi => subst hi; simp [Qa, h]
  . rfl
theorem HM (P : Pt) : Qa (Xa P) 31 = Qa (QD (P.y.val : Int)) 31 + (P.x.val : Int) % 2 * 128 := by
  rw [Jv, GD (by rw [Qu]; decide)]
theorem Qb3 (P : Pt) : YF (Xa P) = QD (P.y.val : Int) := by
  have ht := KH P.y
  unfold YF
  rw [HM, Jv, List.set_set]
  rw [show (Qa (QD (P.y.val : Int)) 31 + (P.x.val : Int) % 2 * 128) % 128 = Qa (QD (P.y.val : Int)) 31 by omega]
  exact Qc9 (by rw [Qu]; decide)
theorem Db (P : Pt) : yI (Xa P) = (P.y.val : Int) := by
  unfold yI
  rw [Qb3]
  exact YN _ (Es P.y).1 (Es P.y).2
theorem Qbz (a : FF) : ofI (a.val : Int) = a := E4 (by rw [KY, Int.emod_eq_of_lt (V0 a).1 (V0 a).2])
theorem YX (P : Pt) : yF (Xa P) = P.y := by unfold yF; rw [Db, Qbz]
theorem Dc (P : Pt) : odB (Xa P) = decide ((P.x.val : Int) % 2 = 1) := by
  have ht := KH P.y
  unfold odB
  rw [HM]
  exact decide_eq_decide.2 (by omega)
theorem QaB (P : Pt) : uF P.y = P.x * P.x := by
  have hi := ZH (Qeu P.y)
  have ho := P.on
  unfold On at ho
  unfold uF
  generalize X5 (P.y*P.y*dF + 1) = f at *
  grobner
theorem FT (a : FF) : okF (a * a) = true := by
  unfold okF
  rw [val_mul]
  exact D1 _
theorem Qdm (u : FF) : ((rF u).val : Int) % 2 = 0 := by rw [FL]; exact Qdl _
theorem Qen (a : FF) : rF (a * a) = a \/ rF (a * a) = -a := by
  have h := Qa8 (FT a)
  generalize rF (a * a) = r at *
  have h2 : (r - a) * (r + a) = 0 := by grobner
  rcases JS h2 with h3 | h3
  . left; grobner
  . right; grobner
theorem Qdy {a : FF} (h : a ≠ 0) : ((-a).val : Int) = pV - (a.val : Int) := by
  have hv := V0 a
  have h0 : (a.val : Int) ≠ 0 := fun e => h (E4 (by rw [e]; decide +kernel))
  rw [UB, show 0 - (a.val : Int) = (pV - (a.val : Int)) + pV * (-1) by omega, Int.add_mul_emod_self_left, Int.emod_eq_of_lt (by omega) (by omega)]
theorem QeT : pV % 2 = 1 := by decide +kernel
theorem Gj (P : Pt) : Ye (Xa P) := by
  refine ⟨by rw [Db]; exact (V0 _).2, by rw [YX, QaB]; exact FT _, ?_⟩
  rintro ⟨h1, h2⟩
  rw [Dc] at h1
  unfold Fh at h2
  rw [YX, QaB] at h2
  have h3 := Qa8 (FT P.x)
  rw [h2] at h3
  have h4 : P.x * P.x = 0 := by rw [<- h3]; grobner
  have h5 : P.x = 0 := (JS h4).elim id id
  rw [h5] at h1
  exact absurd h1 (by decide +kernel)
theorem Gi (P : Pt) : xF (Xa P) = P.x := by
  have he := Qdm (P.x * P.x)
  have ho := QeT
  unfold xF Fh
  rw [Dc, YX, QaB]
  by_cases h0 : P.x = 0
  . rw [h0] at he ⊢
    rw [decide_eq_false (show ¬ (((0 : FF).val : Nat) : Int) % 2 = 1 by decide +kernel)]
    rcases Qen 0 with h | h
    . exact h
    . refine Eq.trans h ?_
      decide +kernel
  . have hn := Qdy h0
    rcases Qen P.x with h | h
    . rw [h] at he ⊢
      rw [decide_eq_false (show ¬ (P.x.val : Int) % 2 = 1 by omega)]
      rfl
    . rw [h] at he ⊢
      rw [hn] at he
      rw [decide_eq_true (show (P.x.val : Int) % 2 = 1 by omega)]
      show - -P.x = P.x
      grobner
/-- A point's bytes are that point's. -/
theorem De (P : Pt) (h : Ye (Xa P)) : Fi (Xa P) h = P := Pt.ext (Gi P) (YX P)
theorem Qb4 {P Q : Pt} (h : Xa P = Xa Q) : P = Q := by
  have hp := Gi P
  have hq := Gi Q
  have kp := YX P
  have kq := YX Q
  rw [h] at hp kp
  exact Pt.ext (hp.symm.trans hq) (kp.symm.trans kq)
theorem Xs (P : Pt) : Qb (Xa P) := by
  rw [Jv]
  have ht := KH P.y
  intro x hx
  rcases List.mem_or_eq_of_mem_set hx with h1 | h1
  . exact Z0 _ x h1
  . omega
theorem Qag (P : Pt) : HK (P.x.val : Int) (P.y.val : Int) = Xa P := by
  unfold HK Xa
  split
  . have e : (QD (P.y.val : Int)).getD 31 0 = Qa (QD (P.y.val : Int)) 31 := by simp [Qa]
    rw [e, Qf1 (KH P.y)]
  . rfl
theorem U9 {x y : List Int} {P : Pt} (hx : QA x (P.x.val : Int)) (hy : QA y (P.y.val : Int)) : PV Tryd.prog gT 39 [pl x y] (.a .u8 (Xa P) 32) := by
  rw [<- Qag]; exact Qbq hx hy
def bxL : List Int := [1738742601995546, 1146398526822698, 2070867633025821, 562264141797630, 587772402128613]
def byL : List Int := [1801439850948184, 1351079888211148, 450359962737049, 900719925474099, 1801439850948198]
theorem E2 : GL Tryd.prog gT 67 0 (pl bxL byL) := GL.of Qm (Gb VO) gT2 rfl (Z5 rfl) rfl (Nat.lt_of_lt_of_le Nat.zero_lt_one (Nat.le_add_right 1 _)) rfl
theorem Qd0 : QA bxL (bP.x.val : Int) := ⟨rfl, XI (by omega) (by omega) (by omega) (by omega) (by omega), by decide +kernel⟩
theorem QdZ : QA byL (bP.y.val : Int) := ⟨rfl, XI (by omega) (by omega) (by omega) (by omega) (by omega), by decide +kernel⟩
theorem Dk : ∃ r, QcJ r bP /\ PV Tryd.prog gT 34 [pl bxL byL] (fp r) := Yu Qd0 QdZ
theorem Em {k : List Int} (hk : Qb k) (hl : k.length = 32) : PV Tryd.prog gT 19 [.a .u8 k 32] (.a .u8 (Xa (Qn (kB k) bP)) 32) := by
  obtain ⟨rb, hb, hB⟩ := Dk
  obtain ⟨r, hr, hM⟩ := QdA hk hl hb.1
  obtain ⟨x, y, hx, hy, hF⟩ := F1 hr
  have hY := U9 hx hy
  have hel := QB (Qn (kB k) bP)
  have hbl := hb.1.len
  have gb := E2
  generalize Xa (Qn (kB k) bP) = E at *
  refine PV.mk' Tryd.func19 rfl rfl rfl rfl fun w L hL hG => ?_
  clear hx hy hr hb
  refine S.enter Qm [.a .u8 k 32] gT Tryd.func19 rfl rfl rfl (fun _ => rfl) hL hG ?_
  refine S.go false rfl (by repeat' (first | exact True.intro | refine And.intro ?_ ?_ | assumption | omega | (dsimp only; omega) | (simp only [Nat.add_eq, Nat.mul_eq, Nat.sub_eq, SV.wd]; omega) | exact rfl)) ?_
  have hM' := hM 3 6
  refine S.drq false [(2, pl bxL byL), (3, fp rb), (5, fp r), (6, pl x y), (7, .a .u8 E 32)] [(5, [3, 6])] rfl rfl rfl ?_ (by repeat' (first | exact True.intro | refine And.intro ?_ ?_ | assumption | omega | (dsimp only; omega) | (simp only [Nat.add_eq, Nat.mul_eq, Nat.sub_eq, SV.wd]; omega) | exact rfl))
  refine S.g false rfl ?_
  exact S.retv rfl rfl rfl rfl rfl
theorem Qe4 {l : List Int} {P : Pt} (hp : QcJ l P) : ∃ r, XF r (XK P) /\ ∀ q, PR Tryd.prog gT 32 [.y q 0 1 1] [(q, [.a .u64 l 20])] (fp r) := by
  obtain ⟨hP, x, y, z, t, rfl, hx, hy⟩ := hp
  obtain ⟨nx, kn, H1⟩ := Qbm (y := y) hx
  rw [<- UB] at kn
  obtain ⟨r, hr, H2⟩ := Yu (P := XK P) kn hy
  have hrl := hr.1.len
  refine ⟨r, hr.1, fun q => PR.mk' Tryd.func32 rfl rfl rfl fun ρ w hG hm => ?_⟩
  obtain ⟨b1, -⟩ := hm _ (.head _)
  have r1 := XZ.rows (s := 20) (rows := [(l20 x y z t).map (Value.int .u64)]) (by simpa [Qd, SV.cs] using b1) (by omega) (by simp [EY]) (by simp [maxLen])
  clear kn hr hx hy hP
  refine S.enter Qm [.o (some ⟨ρ.b q, 0, none⟩) 1 1] (gT ++ [fR 20 (.slice (some ⟨ρ.b q, 0, none⟩) 1 1) [(l20 x y z t).map (Value.int .u64)]]) Tryd.func32 rfl rfl rfl (fun _ => by simp only [Qr, SV.den]) (LL.none w) (hG.app ⟨r1, trivial⟩) ?_
  refine S.slc 0 [.a .u64 (l20 x y z t) 20] rfl (fun ρ w h => h.f gTn rfl) (by simp [Qd, SV.cs]) (by simp [XU, SV.wd]) ?_ ⟨rfl, trivial⟩
  refine S.go false rfl (by repeat' (first | exact True.intro | refine And.intro ?_ ?_ | assumption | omega | (dsimp only; omega) | (simp only [Nat.add_eq, Nat.mul_eq, Nat.sub_eq, SV.wd]; omega) | exact rfl)) ?_
  refine S.rd 6 (pl x y) rfl (fun _ => rfl) ?_
  refine S.cv rfl rfl rfl rfl rfl rfl H1 ?_
  refine S.g false rfl ?_
  refine S.cv rfl rfl rfl rfl rfl rfl H2 ?_
  refine S.go false rfl (by repeat' (first | exact True.intro | refine And.intro ?_ ?_ | assumption | omega | (dsimp only; omega) | (simp only [Nat.add_eq, Nat.mul_eq, Nat.sub_eq, SV.wd]; omega) | exact rfl)) ?_
  exact S.retv rfl rfl rfl rfl rfl
theorem Qe6 {l a b : List Int} {P : Pt} (ha : Qb a) (hal : a.length = 32) (hb : Qb b) (hbl : b.length = 32) (hp : XF l P) : ∃ r, XF r (Qf (Qn (kB a) P) (Qn (kB b) bP)) /\ ∀ B1 B2 q, PR Tryd.prog (gT ++ [fG B1 (a.map (Value.int .u8)), fG B2 (b.map (Value.int .u8))]) 35 [.y q 0 1 1, .v (.pointer (some ⟨B1, 0, none⟩)), .v (.pointer (some ⟨B2, 0, none⟩))] [(q, [.a .u64 l 20])] (fp r) := by
  obtain ⟨rb, hrb, hB⟩ := Dk
  obtain ⟨r, hr, hM⟩ := Qdz ha hal hp hb hbl hrb.1
  have hll := hp.len
  have hbbl := hrb.1.len
  have hrl := hr.len
  have gb := E2
  refine ⟨r, hr, fun B1 B2 q => PR.mk' Tryd.func35 rfl rfl rfl fun ρ w hG hm => ?_⟩
  obtain ⟨b1, -⟩ := hm _ (.head _)
  have r1 := XZ.rows (s := 20) (rows := [l.map (Value.int .u64)]) (by simpa [Qd, SV.cs] using b1) (by omega) (by simp [hll]) (by simp [maxLen])
  clear hr hrb hp
  refine S.enter Qm [.o (some ⟨ρ.b q, 0, none⟩) 1 1, .v (.pointer (some ⟨B1, 0, none⟩)), .v (.pointer (some ⟨B2, 0, none⟩))] ((gT ++ [fG B1 (a.map (Value.int .u8)), fG B2 (b.map (Value.int .u8))]) ++ [fR 20 (.slice (some ⟨ρ.b q, 0, none⟩) 1 1) [l.map (Value.int .u64)]]) Tryd.func35 rfl rfl rfl (fun _ => by simp only [Qr, SV.den]) (LL.none w) (hG.app ⟨r1, trivial⟩) ?_
  refine S.slc 0 [.a .u64 l 20] rfl (fun ρ w h => h.f (gTn + 2) rfl) (by simp [Qd, SV.cs]) (by simp [XU, SV.wd]) ?_ ⟨hll, trivial⟩
  refine S.data 1 [.a .u8 a 32] rfl (fun ρ w h => by have := h.g gTn rfl; simpa [Qd, SV.cs] using this) ?_ rfl ⟨hal, trivial⟩ (by simp [XU, SV.wd])
  refine S.data 2 [.a .u8 b 32] rfl (fun ρ w h => by have := h.g (gTn + 1) rfl; simpa [Qd, SV.cs] using this) ?_ rfl ⟨hbl, trivial⟩ (by simp [XU, SV.wd])
  refine S.go false rfl (by repeat' (first | exact True.intro | refine And.intro ?_ ?_ | assumption | omega | (dsimp only; omega) | (simp only [Nat.add_eq, Nat.mul_eq, Nat.sub_eq, SV.wd]; omega) | exact rfl)) ?_
  have hM' := hM 6 12
  refine S.drq (G := gT) false [(6, pl bxL byL), (7, fp rb), (9, fp r)] [(9, [6, 12])] rfl rfl rfl ?_ (by repeat' (first | exact True.intro | refine And.intro ?_ ?_ | assumption | omega | (dsimp only; omega) | (simp only [Nat.add_eq, Nat.mul_eq, Nat.sub_eq, SV.wd]; omega) | exact rfl)) (hG := fun _ _ h => h.pre.pre)
  refine S.g false rfl ?_
  exact S.retv rfl rfl rfl rfl rfl
/-- made, where the bytes are a point's. -/
theorem QbL {G' : List Qq} (hGg : ∀ L W, Hs G' L W -> Hs gT L W)  {b : List Int} (hl : b.length = 32) {l : List Int} (hll : l.length = 20) (H0 : PV Tryd.prog gT 61 [.a .u8 b 32] (.t [fp l, .l true])) {r : List Int} {Q : Pt} (hr : XF r Q) (hC : ∀ q, PR Tryd.prog G' 32 [.y q 0 1 1] [(q, [.a .u64 l 20])] (fp r)) (w : World) (B : Nat) (hG : Hs G' [] w) (r1 : GF 32 [] w (.slice (some ⟨B, 0, none⟩) 1 1) [b.map (Value.int .u8)]) :
    CX Tryd.prog 31 (Qr Qt [.f 32 [], .o (some ⟨B, 0, none⟩) 1 1]) w [] (fun _ : Unit => .t [.a .u8 (Xa Q) 32, .i .i64 0]) (fun _ => []) (fun _ => True) := by
  obtain ⟨x, y, hx, hy, hF⟩ := F1 hr
  have hY := U9 hx hy
  have hel := QB Q
  generalize Xa Q = E at *
  clear hx hy hr
  refine S.enter Qm [.f 32 [], .o (some ⟨B, 0, none⟩) 1 1] (G' ++ [fR 32 (.slice (some ⟨B, 0, none⟩) 1 1) [b.map (Value.int .u8)]]) Tryd.func31 rfl rfl rfl (fun _ => rfl) (LL.none w) (hG.app ⟨r1, trivial⟩) ?_
  refine S.slc 1 (s := 32) (rs := [b.map (Value.int .u8)]) [.a .u8 b 32] rfl (fun ρ w h => h.f (φ := fR 32 (.slice (some ⟨B, 0, none⟩) 1 1) [b.map (Value.int .u8)]) G'.length (by simp)) (by simp [Qd, SV.cs]) (by simp [XU, SV.wd]) ?_ ⟨hl, trivial⟩
  refine S.g false rfl ?_
  refine S.make 1 rfl rfl rfl rfl (s := 20) (bytes := 160) (by kernel_rfl) rfl rfl rfl rfl rfl (by omega) (by omega) ?_
  refine S.g false rfl ?_
  refine S.rd 16 (.lit .i64 0) rfl (fun _ => rfl) ?_
  refine S.rounds 1 ?_
  refine S.g false rfl ?_
  refine S.condT rfl (by omega) ?_
  refine S.go false rfl (by repeat' (first | exact True.intro | refine And.intro ?_ ?_ | assumption | omega | (dsimp only; omega) | (simp only [Nat.add_eq, Nat.mul_eq, Nat.sub_eq, SV.wd]; omega) | exact rfl)) ?_
  refine S.cv rfl rfl rfl rfl rfl rfl H0 ?_ (hG := fun _ _ h => hGg _ _ h.pre)
  refine S.go false rfl (by repeat' (first | exact True.intro | refine And.intro ?_ ?_ | assumption | omega | (dsimp only; omega) | (simp only [Nat.add_eq, Nat.mul_eq, Nat.sub_eq, SV.wd]; omega) | exact rfl)) ?_
  refine S.next ?_
  refine S.g false rfl ?_
  refine S.condF rfl (by omega) ?_
  refine S.g false rfl ?_
  refine S.cr [2] rfl rfl rfl rfl rfl rfl rfl (hC 2) ?_
  refine S.g false rfl ?_
  refine S.cv rfl rfl rfl rfl rfl rfl hF ?_ (hG := fun _ _ h => hGg _ _ h.pre)
  refine S.g false rfl ?_
  refine S.cv rfl rfl rfl rfl rfl rfl hY ?_ (hG := fun _ _ h => hGg _ _ h.pre)
  refine S.go false rfl (by repeat' (first | exact True.intro | refine And.intro ?_ ?_ | assumption | omega | (dsimp only; omega) | (simp only [Nat.add_eq, Nat.mul_eq, Nat.sub_eq, SV.wd]; omega) | exact rfl)) ?_
  exact S.rett rfl rfl rfl rfl rfl
theorem D8 {G' : List Qq} (hGg : ∀ L W, Hs G' L W -> Hs gT L W)  {b : List Int} (hl : b.length = 32) (H0 : PV Tryd.prog gT 61 [.a .u8 b 32] (.t [fp z20, .l false])) (w : World) (B : Nat) (hG : Hs G' [] w) (r1 : GF 32 [] w (.slice (some ⟨B, 0, none⟩) 1 1) [b.map (Value.int .u8)]) :
    CX Tryd.prog 31 (Qr Qt [.f 32 [], .o (some ⟨B, 0, none⟩) 1 1]) w [] (fun _ : Unit => .t [.a .u8 (List.replicate 32 0) 32, .i .i64 1]) (fun _ => []) (fun _ => True) := by
  refine S.enter Qm [.f 32 [], .o (some ⟨B, 0, none⟩) 1 1] (G' ++ [fR 32 (.slice (some ⟨B, 0, none⟩) 1 1) [b.map (Value.int .u8)]]) Tryd.func31 rfl rfl rfl (fun _ => rfl) (LL.none w) (hG.app ⟨r1, trivial⟩) ?_
  refine S.slc 1 (s := 32) (rs := [b.map (Value.int .u8)]) [.a .u8 b 32] rfl (fun ρ w h => h.f (φ := fR 32 (.slice (some ⟨B, 0, none⟩) 1 1) [b.map (Value.int .u8)]) G'.length (by simp)) (by simp [Qd, SV.cs]) (by simp [XU, SV.wd]) ?_ ⟨hl, trivial⟩
  refine S.g false rfl ?_
  refine S.make 1 rfl rfl rfl rfl (s := 20) (bytes := 160) (by kernel_rfl) rfl rfl rfl rfl rfl (by omega) (by omega) ?_
  refine S.g false rfl ?_
  refine S.rd 16 (.lit .i64 0) rfl (fun _ => rfl) ?_
  refine S.rounds 1 ?_
  refine S.g false rfl ?_
  refine S.condT rfl (by omega) ?_
  refine S.go false rfl (by repeat' (first | exact True.intro | refine And.intro ?_ ?_ | assumption | omega | (dsimp only; omega) | (simp only [Nat.add_eq, Nat.mul_eq, Nat.sub_eq, SV.wd]; omega) | exact rfl)) ?_
  refine S.cv rfl rfl rfl rfl rfl rfl H0 ?_ (hG := fun _ _ h => hGg _ _ h.pre)
  refine S.go false rfl (by repeat' (first | exact True.intro | refine And.intro ?_ ?_ | assumption | omega | (dsimp only; omega) | (simp only [Nat.add_eq, Nat.mul_eq, Nat.sub_eq, SV.wd]; omega) | exact rfl)) ?_
  exact S.rett rfl rfl rfl rfl rfl
/-- made, where the bytes are a point's. -/
theorem QbM {G' : List Qq} (hGg : ∀ L W, Hs G' L W -> Hs gT L W) {B1 B2 : Nat} {b : List Int} (hl : b.length = 32) {l : List Int} (hll : l.length = 20) (H0 : PV Tryd.prog gT 61 [.a .u8 b 32] (.t [fp l, .l true])) {r : List Int} {Q : Pt} (hr : XF r Q) (hC : ∀ q, PR Tryd.prog G' 35 [.y q 0 1 1, .v (.pointer (some ⟨B1, 0, none⟩)), .v (.pointer (some ⟨B2, 0, none⟩))] [(q, [.a .u64 l 20])] (fp r)) (w : World) (B : Nat) (hG : Hs G' [] w) (r1 : GF 32 [] w (.slice (some ⟨B, 0, none⟩) 1 1) [b.map (Value.int .u8)]) :
    CX Tryd.prog 31 (Qr Qt [.f 35 [.v (.pointer (some ⟨B1, 0, none⟩)), .v (.pointer (some ⟨B2, 0, none⟩))], .o (some ⟨B, 0, none⟩) 1 1]) w [] (fun _ : Unit => .t [.a .u8 (Xa Q) 32, .i .i64 0]) (fun _ => []) (fun _ => True) := by
  obtain ⟨x, y, hx, hy, hF⟩ := F1 hr
  have hY := U9 hx hy
  have hel := QB Q
  generalize Xa Q = E at *
  clear hx hy hr
  refine S.enter Qm [.f 35 [.v (.pointer (some ⟨B1, 0, none⟩)), .v (.pointer (some ⟨B2, 0, none⟩))], .o (some ⟨B, 0, none⟩) 1 1] (G' ++ [fR 32 (.slice (some ⟨B, 0, none⟩) 1 1) [b.map (Value.int .u8)]]) Tryd.func31 rfl rfl rfl (fun _ => rfl) (LL.none w) (hG.app ⟨r1, trivial⟩) ?_
  refine S.slc 1 (s := 32) (rs := [b.map (Value.int .u8)]) [.a .u8 b 32] rfl (fun ρ w h => h.f (φ := fR 32 (.slice (some ⟨B, 0, none⟩) 1 1) [b.map (Value.int .u8)]) G'.length (by simp)) (by simp [Qd, SV.cs]) (by simp [XU, SV.wd]) ?_ ⟨hl, trivial⟩
  refine S.g false rfl ?_
  refine S.make 1 rfl rfl rfl rfl (s := 20) (bytes := 160) (by kernel_rfl) rfl rfl rfl rfl rfl (by omega) (by omega) ?_
  refine S.g false rfl ?_
  refine S.rd 16 (.lit .i64 0) rfl (fun _ => rfl) ?_
  refine S.rounds 1 ?_
  refine S.g false rfl ?_
  refine S.condT rfl (by omega) ?_
  refine S.go false rfl (by repeat' (first | exact True.intro | refine And.intro ?_ ?_ | assumption | omega | (dsimp only; omega) | (simp only [Nat.add_eq, Nat.mul_eq, Nat.sub_eq, SV.wd]; omega) | exact rfl)) ?_
  refine S.cv rfl rfl rfl rfl rfl rfl H0 ?_ (hG := fun _ _ h => hGg _ _ h.pre)
  refine S.go false rfl (by repeat' (first | exact True.intro | refine And.intro ?_ ?_ | assumption | omega | (dsimp only; omega) | (simp only [Nat.add_eq, Nat.mul_eq, Nat.sub_eq, SV.wd]; omega) | exact rfl)) ?_
  refine S.next ?_
  refine S.g false rfl ?_
  refine S.condF rfl (by omega) ?_
  refine S.g false rfl ?_
  refine S.cr [2] rfl rfl rfl rfl rfl rfl rfl (hC 2) ?_
  refine S.g false rfl ?_
  refine S.cv rfl rfl rfl rfl rfl rfl hF ?_ (hG := fun _ _ h => hGg _ _ h.pre)
  refine S.g false rfl ?_
  refine S.cv rfl rfl rfl rfl rfl rfl hY ?_ (hG := fun _ _ h => hGg _ _ h.pre)
  refine S.go false rfl (by repeat' (first | exact True.intro | refine And.intro ?_ ?_ | assumption | omega | (dsimp only; omega) | (simp only [Nat.add_eq, Nat.mul_eq, Nat.sub_eq, SV.wd]; omega) | exact rfl)) ?_
  exact S.rett rfl rfl rfl rfl rfl
theorem D9 {G' : List Qq} (hGg : ∀ L W, Hs G' L W -> Hs gT L W) {B1 B2 : Nat} {b : List Int} (hl : b.length = 32) (H0 : PV Tryd.prog gT 61 [.a .u8 b 32] (.t [fp z20, .l false])) (w : World) (B : Nat) (hG : Hs G' [] w) (r1 : GF 32 [] w (.slice (some ⟨B, 0, none⟩) 1 1) [b.map (Value.int .u8)]) :
    CX Tryd.prog 31 (Qr Qt [.f 35 [.v (.pointer (some ⟨B1, 0, none⟩)), .v (.pointer (some ⟨B2, 0, none⟩))], .o (some ⟨B, 0, none⟩) 1 1]) w [] (fun _ : Unit => .t [.a .u8 (List.replicate 32 0) 32, .i .i64 1]) (fun _ => []) (fun _ => True) := by
  refine S.enter Qm [.f 35 [.v (.pointer (some ⟨B1, 0, none⟩)), .v (.pointer (some ⟨B2, 0, none⟩))], .o (some ⟨B, 0, none⟩) 1 1] (G' ++ [fR 32 (.slice (some ⟨B, 0, none⟩) 1 1) [b.map (Value.int .u8)]]) Tryd.func31 rfl rfl rfl (fun _ => rfl) (LL.none w) (hG.app ⟨r1, trivial⟩) ?_
  refine S.slc 1 (s := 32) (rs := [b.map (Value.int .u8)]) [.a .u8 b 32] rfl (fun ρ w h => h.f (φ := fR 32 (.slice (some ⟨B, 0, none⟩) 1 1) [b.map (Value.int .u8)]) G'.length (by simp)) (by simp [Qd, SV.cs]) (by simp [XU, SV.wd]) ?_ ⟨hl, trivial⟩
  refine S.g false rfl ?_
  refine S.make 1 rfl rfl rfl rfl (s := 20) (bytes := 160) (by kernel_rfl) rfl rfl rfl rfl rfl (by omega) (by omega) ?_
  refine S.g false rfl ?_
  refine S.rd 16 (.lit .i64 0) rfl (fun _ => rfl) ?_
  refine S.rounds 1 ?_
  refine S.g false rfl ?_
  refine S.condT rfl (by omega) ?_
  refine S.go false rfl (by repeat' (first | exact True.intro | refine And.intro ?_ ?_ | assumption | omega | (dsimp only; omega) | (simp only [Nat.add_eq, Nat.mul_eq, Nat.sub_eq, SV.wd]; omega) | exact rfl)) ?_
  refine S.cv rfl rfl rfl rfl rfl rfl H0 ?_ (hG := fun _ _ h => hGg _ _ h.pre)
  refine S.go false rfl (by repeat' (first | exact True.intro | refine And.intro ?_ ?_ | assumption | omega | (dsimp only; omega) | (simp only [Nat.add_eq, Nat.mul_eq, Nat.sub_eq, SV.wd]; omega) | exact rfl)) ?_
  exact S.rett rfl rfl rfl rfl rfl
/-- What Neg gives. -/
theorem Qf5 {b : List Int} (hb : Qb b) (hl : b.length = 32) : (∀ h : Ye b, PV Tryd.prog gT 15 [.a .u8 b 32] (.t [.a .u8 (Xa (XK (Fi b h))) 32, .i .i64 0])) /\ (¬ Ye b -> PV Tryd.prog gT 15 [.a .u8 b 32] (.t [.a .u8 (List.replicate 32 0) 32, .i .i64 1])) := by
  have key : ∀ (o : List Int) (e : Int), o.length = 32 -> (∀ w B, Hs gT [] w -> GF 32 [] w (.slice (some ⟨B, 0, none⟩) 1 1) [b.map (Value.int .u8)] -> CX Tryd.prog 31 (Qr Qt [.f 32 [], .o (some ⟨B, 0, none⟩) 1 1]) w [] (fun _ : Unit => .t [.a .u8 o 32, .i .i64 e]) (fun _ => []) (fun _ => True)) -> PV Tryd.prog gT 15 [.a .u8 b 32] (.t [.a .u8 o 32, .i .i64 e]) := fun o e hol H => by
    have HP : PR Tryd.prog gT 31 [.f 32 [], .y 2 0 1 1] [(2, [.a .u8 b 32])] (.t [.a .u8 o 32, .i .i64 e]) := PR.mk' Tryd.func31 rfl rfl rfl fun ρ w hG hm => by
      obtain ⟨b1, -⟩ := hm _ (.head _)
      have r1 := XZ.rows (s := 32) (rows := [b.map (Value.int .u8)]) (by simpa [Qd, SV.cs] using b1) (by omega) (by simp [hl]) (by simp [maxLen])
      have := H w (ρ.b 2) hG r1
      simpa only [Qr, SV.den] using this
    refine PV.mk' Tryd.func15 rfl rfl rfl rfl fun w L hL hG => ?_
    refine S.enter Qm [.a .u8 b 32] gT Tryd.func15 rfl rfl rfl (fun _ => rfl) hL hG ?_
    refine S.go false rfl (by repeat' (first | exact True.intro | refine And.intro ?_ ?_ | assumption | omega | (dsimp only; omega) | (simp only [Nat.add_eq, Nat.mul_eq, Nat.sub_eq, SV.wd]; omega) | exact rfl)) ?_
    refine S.cr [2] rfl rfl rfl rfl rfl rfl rfl HP ?_
    refine S.go false rfl (by repeat' (first | exact True.intro | refine And.intro ?_ ?_ | assumption | omega | (dsimp only; omega) | (simp only [Nat.add_eq, Nat.mul_eq, Nat.sub_eq, SV.wd]; omega) | exact rfl)) ?_
    exact S.rett rfl rfl rfl rfl rfl
  obtain ⟨l1, l2⟩ := QbQ hb hl
  refine ⟨fun h => ?_, fun h => ?_⟩
  . obtain ⟨r, hr, H0⟩ := l1 h
    obtain ⟨s, hs, H1⟩ := Qe4 hr
    exact key _ _ (QB _) fun w B hG r1 => QbL (fun _ _ h => h) hl hr.1.len H0 hs H1 w B hG r1
  . exact key _ _ rfl fun w B hG r1 => D8 (fun _ _ h => h) hl (l2 h) w B hG r1
/-- What Mix gives. -/
theorem Qf7 {a b p : List Int} (ha : Qb a) (hal : a.length = 32) (hb : Qb b) (hbl : b.length = 32) (hp : Qb p) (hpl : p.length = 32) : (∀ h : Ye p, PV Tryd.prog gT 16 [.a .u8 a 32, .a .u8 p 32, .a .u8 b 32] (.t [.a .u8 (Xa (Qf (Qn (kB a) (Fi p h)) (Qn (kB b) bP))) 32, .i .i64 0])) /\ (¬ Ye p -> PV Tryd.prog gT 16 [.a .u8 a 32, .a .u8 p 32, .a .u8 b 32] (.t [.a .u8 (List.replicate 32 0) 32, .i .i64 1])) := by
  have key : ∀ (o : List Int) (e : Int), o.length = 32 -> (∀ w B1 B2 B, Hs (gT ++ [fG B1 (a.map (Value.int .u8)), fG B2 (b.map (Value.int .u8))]) [] w -> GF 32 [] w (.slice (some ⟨B, 0, none⟩) 1 1) [p.map (Value.int .u8)] -> CX Tryd.prog 31 (Qr Qt [.f 35 [.v (.pointer (some ⟨B1, 0, none⟩)), .v (.pointer (some ⟨B2, 0, none⟩))], .o (some ⟨B, 0, none⟩) 1 1]) w [] (fun _ : Unit => .t [.a .u8 o 32, .i .i64 e]) (fun _ => []) (fun _ => True)) -> PV Tryd.prog gT 16 [.a .u8 a 32, .a .u8 p 32, .a .u8 b 32] (.t [.a .u8 o 32, .i .i64 e]) := fun o e hol H => by
    have HP : PR Tryd.prog gT 31 [.f 35 [.p 0 0, .p 2 0], .y 4 0 1 1] [(0, [.a .u8 a 32]), (2, [.a .u8 b 32]), (4, [.a .u8 p 32])] (.t [.a .u8 o 32, .i .i64 e]) := PR.mk' Tryd.func31 rfl rfl rfl fun ρ w hG hm => by
      obtain ⟨b1, -⟩ := hm _ (.head _)
      obtain ⟨b2, -⟩ := hm _ (.tail _ (.head _))
      obtain ⟨b3, -⟩ := hm _ (.tail _ (.tail _ (.head _)))
      simp only [Qd, SV.cs, List.append_nil] at b1 b2 b3
      have r1 := XZ.rows (s := 32) (rows := [p.map (Value.int .u8)]) (by simpa using b3) (by omega) (by simp [hpl]) (by simp [maxLen])
      have := H w (ρ.b 0) (ρ.b 2) (ρ.b 4) (hG.app ⟨⟨by simp, b1.lt, b1.range⟩, ⟨by simp, b2.lt, b2.range⟩, trivial⟩) r1
      simpa only [Qr, SV.den] using this
    refine PV.mk' Tryd.func16 rfl rfl rfl rfl fun w L hL hG => ?_
    refine S.enter Qm [.a .u8 a 32, .a .u8 p 32, .a .u8 b 32] gT Tryd.func16 rfl rfl rfl (fun _ => rfl) hL hG ?_
    refine S.go false rfl (by repeat' (first | exact True.intro | refine And.intro ?_ ?_ | assumption | omega | (dsimp only; omega) | (simp only [Nat.add_eq, Nat.mul_eq, Nat.sub_eq, SV.wd]; omega) | exact rfl)) ?_
    refine S.cr [0, 2, 4] rfl rfl rfl rfl rfl rfl rfl HP ?_
    refine S.go false rfl (by repeat' (first | exact True.intro | refine And.intro ?_ ?_ | assumption | omega | (dsimp only; omega) | (simp only [Nat.add_eq, Nat.mul_eq, Nat.sub_eq, SV.wd]; omega) | exact rfl)) ?_
    exact S.rett rfl rfl rfl rfl rfl
  obtain ⟨l1, l2⟩ := QbQ hp hpl
  refine ⟨fun h => ?_, fun h => ?_⟩
  . obtain ⟨r, hr, H0⟩ := l1 h
    obtain ⟨s, hs, H1⟩ := Qe6 ha hal hb hbl hr.1
    exact key _ _ (QB _) fun w B1 B2 B hG r1 => QbM (fun _ _ h => h.pre) hpl hr.1.len H0 hs (fun q => H1 B1 B2 q) w B hG r1
  . exact key _ _ rfl fun w B1 B2 B hG r1 => D9 (fun _ _ h => h.pre) hpl (l2 h) w B hG r1
def Ys (x s : Int) : Int := bits BinOp.or .u64 (x * 2 ^ s.toNat % 18446744073709551616) (x / 2 ^ (64 - s).toNat)
def Xl (x : Int) : Prop := 0 <= x /\ x < 18446744073709551616
theorem Xo (x k : Int) (w : World) (hx : Xl x) (s : Int) (hs : bits BinOp.and .u64 (IntKind.u64.wrap k) 63 = s) (h0 : 0 <= s) (h1 : s < 64) :
    Calls Tryd.prog 43 #[.int .u64 x, .int .i64 k] w fun e w' => e = .returned (.int .u64 (Ys x s)) /\ w' = w := by
  obtain ⟨hx0, hx1⟩ := hx
  go_enter Tryd.func43, Tryd.ntmps43
  go_wp2
  go_ret
  exact ⟨rfl, rfl⟩
def QcD (x : Int) : Int := bits BinOp.xor .u64 (bits BinOp.xor .u64 (Ys x 36) (Ys x 30)) (Ys x 25)
theorem QcC (x : Int) (w : World) (hx : Xl x) : Calls Tryd.prog 42 #[.int .u64 x] w fun e w' => e = .returned (.int .u64 (QcD x)) /\ w' = w := by
  have hx' := hx
  obtain ⟨hx0, hx1⟩ := hx'
  go_enter Tryd.func42, Tryd.ntmps42
  go_wp2_with (first
    | (go_at_call 43; first | (with_reducible refine (Xo x (-28) _ hx 36 (by decide) (by decide) (by decide)).mono ?_; rintro e w1 ⟨rfl, rfl⟩) | (with_reducible refine (Xo x (-34) _ hx 30 (by decide) (by decide) (by decide)).mono ?_; rintro e w2 ⟨rfl, rfl⟩) | (with_reducible refine (Xo x (-39) _ hx 25 (by decide) (by decide) (by decide)).mono ?_; rintro e w3 ⟨rfl, rfl⟩)))
  go_ret
  exact ⟨rfl, rfl⟩
def QcB (x : Int) : Int := bits BinOp.xor .u64 (bits BinOp.xor .u64 (Ys x 50) (Ys x 46)) (Ys x 23)
theorem QcA (x : Int) (w : World) (hx : Xl x) : Calls Tryd.prog 44 #[.int .u64 x] w fun e w' => e = .returned (.int .u64 (QcB x)) /\ w' = w := by
  have hx' := hx
  obtain ⟨hx0, hx1⟩ := hx'
  go_enter Tryd.func44, Tryd.ntmps44
  go_wp2_with (first
    | (go_at_call 43; first | (with_reducible refine (Xo x (-14) _ hx 50 (by decide) (by decide) (by decide)).mono ?_; rintro e w1 ⟨rfl, rfl⟩) | (with_reducible refine (Xo x (-18) _ hx 46 (by decide) (by decide) (by decide)).mono ?_; rintro e w2 ⟨rfl, rfl⟩) | (with_reducible refine (Xo x (-41) _ hx 23 (by decide) (by decide) (by decide)).mono ?_; rintro e w3 ⟨rfl, rfl⟩)))
  go_ret
  exact ⟨rfl, rfl⟩
def FZ (x : Int) : Int := bits BinOp.xor .u64 (bits BinOp.xor .u64 (Ys x 63) (Ys x 56)) (x / 128)
theorem QbP (x : Int) (w : World) (hx : Xl x) : Calls Tryd.prog 45 #[.int .u64 x] w fun e w' => e = .returned (.int .u64 (FZ x)) /\ w' = w := by
  have hx' := hx
  obtain ⟨hx0, hx1⟩ := hx'
  go_enter Tryd.func45, Tryd.ntmps45
  go_wp2_with (first
    | (go_at_call 43; first | (with_reducible refine (Xo x (-1) _ hx 63 (by decide) (by decide) (by decide)).mono ?_; rintro e w1 ⟨rfl, rfl⟩) | (with_reducible refine (Xo x (-8) _ hx 56 (by decide) (by decide) (by decide)).mono ?_; rintro e w2 ⟨rfl, rfl⟩)))
  go_ret
  exact ⟨rfl, rfl⟩
def FY (x : Int) : Int := bits BinOp.xor .u64 (bits BinOp.xor .u64 (Ys x 45) (Ys x 3)) (x / 64)
theorem QbO (x : Int) (w : World) (hx : Xl x) : Calls Tryd.prog 46 #[.int .u64 x] w fun e w' => e = .returned (.int .u64 (FY x)) /\ w' = w := by
  have hx' := hx
  obtain ⟨hx0, hx1⟩ := hx'
  go_enter Tryd.func46, Tryd.ntmps46
  go_wp2_with (first
    | (go_at_call 43; first | (with_reducible refine (Xo x (-19) _ hx 45 (by decide) (by decide) (by decide)).mono ?_; rintro e w1 ⟨rfl, rfl⟩) | (with_reducible refine (Xo x (-61) _ hx 3 (by decide) (by decide) (by decide)).mono ?_; rintro e w2 ⟨rfl, rfl⟩)))
  go_ret
  exact ⟨rfl, rfl⟩
/-- The block of the rounds' variable: width, count, state, four functions. -/
def QL (w : World) (B : Nat) (st : List Int) : Prop := st.length = 8 /\ (∀ x ∈ st, Xl x) /\ ∃ t, w.heap[B]? = some (.cells ([Value.int .i64 64, Value.int .i64 80] ++ st.map (Value.int .u64) ++ [Value.func (.func 42) #[] #[], Value.func (.func 44) #[] #[], Value.func (.func 45) #[] #[], Value.func (.func 46) #[] #[]]).toArray t (0, 0))
theorem QL.lt {w : World} {B : Nat} {st : List Int} (h : QL w B st) : B < w.heap.size := by
  obtain ⟨_, _, t, h⟩ := h
  exact (Array.getElem?_eq_some_iff.1 h).1
theorem QL.but {w w' : World} {B : Nat} {st : List Int} (h : QL w B st) {row : Option Nat} (hb : w.grownBy w' row) (hr : some B ≠ row) : QL w' B st := by
  have hl := h.lt
  obtain ⟨h1, h2, t, h⟩ := h
  exact ⟨h1, h2, t, by obtain ⟨_, _, _, _, hb5⟩ := hb; rw [hb5 B hl hr]; exact h⟩
theorem QL.below {w w' : World} {B : Nat} {st : List Int} (h : QL w B st) (hb : Below w.heap.size w w') : QL w' B st := by
  have hl := h.lt
  obtain ⟨h1, h2, t, h⟩ := h
  exact ⟨h1, h2, t, by rw [hb.block B hl]; exact h⟩
theorem QL.cell {w : World} {B : Nat} {st : List Int} (h : QL w B st) (k : Nat) (v : Value) (hv : ([Value.int .i64 64, Value.int .i64 80] ++ st.map (Value.int .u64) ++ [Value.func (.func 42) #[] #[], Value.func (.func 44) #[] #[], Value.func (.func 45) #[] #[], Value.func (.func 46) #[] #[]])[k]? = some v) : w.cell? ⟨B, k, none⟩ = some v /\ w.frozen? ⟨B, k, none⟩ = false := by
  obtain ⟨h1, h2, t, h⟩ := h
  have hk := (List.getElem?_eq_some_iff.1 hv).1
  constructor
  . simp [World.cell?, h] at hv ⊢
    exact hv
  . simp [World.frozen?, h]
theorem QL.width {w : World} {B : Nat} {st : List Int} (h : QL w B st) : w.cell? ⟨B, 0, none⟩ = some (.int .i64 64) := (h.cell 0 _ rfl).1
theorem QL.count {w : World} {B : Nat} {st : List Int} (h : QL w B st) : w.cell? ⟨B, 1, none⟩ = some (.int .i64 80) := (h.cell 1 _ rfl).1
theorem QL.stAt {w : World} {B : Nat} {st : List Int} (h : QL w B st) {j : Nat} (hj : j < 8) : w.cell? ⟨B, 2 + j, none⟩ = some (.int .u64 (Qa st j)) /\ w.frozen? ⟨B, 2 + j, none⟩ = false := by
  refine h.cell (2 + j) _ ?_
  have hl := h.1
  rw [List.getElem?_append_left (by simp; omega), List.getElem?_append_right (by simp)]
  simp [Qa, show j < st.length by omega]
theorem QL.fn {w : World} {B : Nat} {st : List Int} (h : QL w B st) : w.cell? ⟨B, 10, none⟩ = some (.func (.func 42) #[] #[]) /\ w.cell? ⟨B, 11, none⟩ = some (.func (.func 44) #[] #[]) /\ w.cell? ⟨B, 12, none⟩ = some (.func (.func 45) #[] #[]) /\ w.cell? ⟨B, 13, none⟩ = some (.func (.func 46) #[] #[]) := by
  have hl := h.1
  refine ⟨(h.cell 10 _ ?_).1, (h.cell 11 _ ?_).1, (h.cell 12 _ ?_).1, (h.cell 13 _ ?_).1⟩ <;> simp [hl]
theorem QL.set {w : World} {B : Nat} {st : List Int} (h : QL w B st) {j : Nat} (hj : j < 8) {x : Int} (hx : Xl x) : QL (w.setCell ⟨B, 2 + j, none⟩ (.int .u64 x)) B (st.set j x) := by
  obtain ⟨h1, h2, t, h⟩ := h
  refine ⟨by simp [h1], fun y hy => ?_, t, ?_⟩
  . rcases List.mem_or_eq_of_mem_set hy with k | rfl
    . exact h2 y k
    . exact hx
  . simp only [World.setCell, Array.getElem?_modify, h]
    have e : ∀ (a b v : Value) (l r : List Value), j < l.length -> ([a, b] ++ l ++ r).set (2 + j) v = [a, b] ++ l.set j v ++ r := by
      intro a b v l r hl
      rw [Nat.add_comm, List.append_assoc, List.append_assoc]
      show a :: b :: (l ++ r).set j v = a :: b :: (l.set j v ++ r)
      rw [List.set_append_left _ _ hl]
    have e2 := e (Value.int .i64 64) (Value.int .i64 80) (Value.int .u64 x) (st.map (Value.int .u64)) [Value.func (.func 42) #[] #[], Value.func (.func 44) #[] #[], Value.func (.func 45) #[] #[], Value.func (.func 46) #[] #[]] (by simp [h1, hj])
    rw [List.map_set, <- e2]
    simp
theorem QL.stIn {w : World} {B : Nat} {st : List Int} (h : QL w B st) (j : Nat) : Xl (Qa st j) := by
  by_cases hj : j < st.length
  . exact h.2.1 _ (UT hj)
  . unfold Xl; simp [Qa, hj]
theorem Df (x : Int) (w : World) (B : Nat) (st : List Int) (hr : QL w B st) (hx : Xl x) : Calls Tryd.prog 74 #[.pointer (some ⟨B, 0, none⟩), .int .u64 x] w fun e w' => e = .returned (.int .u64 x) /\ w' = w := by
  have h0 := hr.width
  have hl := hr.lt
  obtain ⟨hx0, hx1⟩ := hx
  go_enter Tryd.func74, Tryd.ntmps74
  go_wp2
  go_ret
  exact ⟨rfl, rfl⟩
def Xc : List Int := [7640891576956012808, 13503953896175478587, 4354685564936845355, 11912009170470909681, 5840696475078001361, 11170449401992604703, 2270897969802886507, 6620516959819538809]
def Z8 : List Int := [4794697086780616226, 8158064640168781261, 13096744586834688815, 16840607885511220156, 4131703408338449720, 6480981068601479193, 10538285296894168987, 12329834152419229976, 15566598209576043074, 1334009975649890238, 2608012711638119052, 6128411473006802146, 8268148722764581231, 9286055187155687089, 11230858885718282805, 13951009754708518548, 16472876342353939154, 17275323862435702243, 1135362057144423861, 2597628984639134821, 3308224258029322869, 5365058923640841347, 6679025012923562964, 8573033837759648693, 10970295158949994411, 12119686244451234320, 12683024718118986047, 13788192230050041572, 14330467153632333762, 15395433587784984357, 489312712824947311, 1452737877330783856, 2861767655752347644, 3322285676063803686, 5560940570517711597, 5996557281743188959, 7280758554555802590, 8532644243296465576, 9350256976987008742, 10552545826968843579, 11727347734174303076, 12113106623233404929, 14000437183269869457, 14369950271660146224, 15101387698204529176, 15463397548674623760, 17586052441742319658, 1182934255886127544, 1847814050463011016, 2177327727835720531, 2830643537854262169, 3796741975233480872, 4115178125766777443, 5681478168544905931, 6601373596472566643, 7507060721942968483, 8399075790359081724, 8693463985226723168, 9568029438360202098, 10144078919501101548, 10430055236837252648, 11840083180663258601, 13761210420658862357, 14299343276471374635, 14566680578165727644, 15097957966210449927, 16922976911328602910, 17689382322260857208, 500013540394364858, 748580250866718886, 1242879168328830382, 1977374033974150939, 2944078676154940804, 3659926193048069267, 4368137639120453308, 4836135668995329356, 5532061633213252278, 6448918945643986474, 6902733635092675308, 7801388544844847127]
/-- What the tables of sha hold. -/
structure X1 (w : World) : Prop where
  sq : ∀ k, k < 8 -> w.cell? ⟨1, k, none⟩ = some (.int .u64 (Qa Xc k))
  cu : ∀ k, k < 80 -> w.cell? ⟨3, k, none⟩ = some (.int .u64 (Qa Z8 k))
theorem X1.lt {w : World} (h : X1 w) : 1 < w.heap.size /\ 3 < w.heap.size := ⟨World.block_lt_of_cell? w _ (h.sq 0 (by decide)), World.block_lt_of_cell? w _ (h.cu 0 (by decide))⟩
theorem X1.but {w w' : World} (h : X1 w) {B : Nat} (hb : w.grownBy w' (some B)) (hs : 1 ≠ B) (hc : 3 ≠ B) : X1 w' :=
  ⟨fun k hk => hb.cell (h.sq k hk) (by simpa using hs), fun k hk => hb.cell (h.cu k hk) (by simpa using hc)⟩
theorem X1.below {w w' : World} (h : X1 w) (hb : Below w.heap.size w w') : X1 w' :=
  ⟨fun k hk => by rw [hb.cell h.lt.1]; exact h.sq k hk, fun k hk => by rw [hb.cell h.lt.2]; exact h.cu k hk⟩
theorem FB : ∀ k, k < 8 -> Xl (Qa Xc k) := by unfold Xl; decide
theorem Qcp : ∀ k, k < 80 -> Xl (Qa Z8 k) := by unfold Xl; decide
theorem Xx {w w' : World} {B : Nat} (h : w.grownBy w' (some B)) (o : Nat) (v : Value) : w.grownBy (w'.setCell ⟨B, o, none⟩ v) (some B) := by
  refine ⟨h.os, h.tape, h.output, ?_, fun k hk hne => ?_⟩
  . have := h.size
    simpa [World.setCell] using this
  . rw [heap_setCell_other w' ⟨B, o, none⟩ k v (by simpa using hne)]
    exact h.block k hk hne
theorem Z6 {w w' : World} {row : Option Nat} (h : w.grownBy w' row) : w.grownBy w'.drew row := ⟨h.os, h.tape, h.output, h.size, h.block⟩
def Yc : List Int := (List.range 8).map fun k => Qa Xc k
theorem Ek (k : Nat) (hk : k < 8) : Qa Yc k = Qa Xc k := by simp [Yc, Qa, hk]
theorem Qaj (w : World) (B : Nat) (st : List Int) (hr : QL w B st) (hT : X1 w) (hs : 1 ≠ B) (hc : 3 ≠ B) :
    Calls Tryd.prog 47 #[.pointer (some ⟨B, 0, none⟩)] w fun e w' => (∃ v, e = .returned v) /\ QL w' B Yc /\ w.grownBy w' (some B) := by
  go_enter Tryd.func47, Tryd.ntmps47
  go_wp2
  go_loopw [3] (fun i wr => ∃ (k : Nat) (st : List Int), k <= 8 /\ i = .int .i64 k /\ QL wr B st /\ w.grownBy wr (some B) /\ ∀ k', k' < k -> Qa st k' = Qa Yc k') (fun i _ => 8 - (intOf i).toNat)
  case atStart => exact ⟨0, st, by omega, rfl, hr, World.grownBy.refl _ _, fun k' h => by omega⟩
  case round =>
    obtain ⟨k, st, hk, rfl, hr, hg, hst⟩ := hrel
    have hT' : X1 wr := hT.but hg hs hc
    have hl := hr.lt
    by_cases hlt : k < 8
    . have c0 := hT'.sq k hlt
      obtain ⟨c1, f1⟩ := hr.stAt hlt
      have hin := FB k hlt
      have hcut := fun W (h : QL W B st) => Df (Qa Xc k) W B st h hin
      go_wp2
      go_region_with (go_at_call 74; refine (hcut _ (by first | exact hr | exact hr.drew)).mono ?_; rintro e w9 ⟨rfl, rfl⟩)
      go_wp2
      refine ⟨⟨k + 1, st.set k (Qa Yc k), by omega, by go_num, ?_, ?_, fun k' hk' => ?_⟩, by simp only [intOf]; omega⟩
      . have h := hr.set (j := k) hlt (x := Qa Xc k) (by unfold Xl at hin; unfold Xl; omega)
        rw [Ek k hlt]
        exact h
      . exact Z6 (Xx hg _ _)
      . rw [VQ st k k' _ (by rw [hr.1]; exact hlt)]
        by_cases e : k' = k
        . rw [if_pos e, e]
        . rw [if_neg e]; exact hst k' (by omega)
    . obtain rfl : k = 8 := by omega
      have e : st = Yc := Xj (by rw [hr.1]; rfl) fun j h => hst j (by rw [hr.1] at h; exact h)
      subst e
      go_wp2
      refine bodyPost_end (v := .tuple #[]) (by simp [results, Tryd.results47]) rfl ?_
      exact ⟨⟨_, rfl⟩, hr, hg⟩
theorem JJ {K : IntKind} {w : World} {B : Nat} {zs : List Int} (h : ZA K w B zs) : ZA K w.drew B zs := h
theorem ZO {B : Nat} {a w : World} (h : Below B a w) {g : Nat} (hg : B <= g) (cs : Array Value) : Below B a (w.setRow g cs) := by
  refine ⟨h.os, h.tape, h.output, ?_, fun k hk => ?_⟩
  . have := h.size
    simpa [World.setRow] using this
  . rw [setRow_other w g k cs (by omega)]
    exact h.block k hk
/-- Qb as one number, the highest first. -/
def Dj : List Int -> Int := fun l => l.foldl (fun x c => x * 256 + c) 0
theorem Fc (l : List Int) (c : Int) : Dj (l ++ [c]) = Dj l * 256 + c := by simp [Dj]
theorem El : ∀ (n : Nat) (l : List Int), l.length = n -> Qb l -> 0 <= Dj l /\ Dj l < 256 ^ n
  | 0, l, h, _ => by
    obtain rfl : l = [] := List.length_eq_zero_iff.1 h
    simp [Dj]
  | n + 1, l, h, hb => by
    have hne : l ≠ [] := by rintro rfl; simp at h
    rw [<- List.dropLast_concat_getLast hne] at hb ⊢
    have ih := El n l.dropLast (by simp [h]) (fun x hx => hb x (by simp [hx]))
    have hc := hb (l.getLast hne) (by simp)
    rw [Fc, Int.pow_succ]
    omega
theorem XH {x : Int} (h0 : 0 <= x) (h1 : x < 4611686018427387904) : IntKind.i64.wrap x = x := by
  simp [IntKind.wrap, IntKind.bits, IntKind.signed]
  omega
theorem Do (n j : Nat) : Qa (List.replicate n 0) j = 0 := by
  unfold Qa
  rw [List.getElem?_replicate]
  split <;> rfl
theorem DF (l : List Int) (t : Nat) (h : t < l.length) : l.take (t + 1) = l.take t ++ [Qa l t] := by
  rw [List.take_add_one, JI h]; simp [h]
theorem UV : (Tryd.prog.info? 122).bind (·.zero) = some (.agg (Array.replicate 80 (Value.int .u64 0))) := by kernel_rfl
theorem VF : (Tryd.prog.info? 122).map (·.size) = some 80 := by kernel_rfl
theorem Et : Tryd.prog.underlying 122 = some (.array 80 32) := by kernel_rfl
theorem Qdq (x c : Int) (hx : 0 <= x /\ x < 72057594037927936) (hc : 0 <= c /\ c <= 255) : bits BinOp.or .u64 (x * 256) c = x * 256 + c := by
  obtain ⟨a, rfl⟩ := Int.eq_ofNat_of_zero_le hx.1
  obtain ⟨b, rfl⟩ := Int.eq_ofNat_of_zero_le hc.1
  have h := u64_or_nat (a * 256) b (by omega) (by omega)
  rw [show (((a * 256 : Nat) : Int)) = (a : Int) * 256 by simp] at h
  rw [h, Jf (a * 256) b 8 (by omega) (by omega)]
  simp
/-- The words of a block. -/
def VZ (zs : List Int) (i : Nat) : Int := Dj ((zs.drop (i * 8)).take 8)
theorem Dx {zs : List Int} (hb : Qb zs) {i : Nat} (h : (i + 1) * 8 <= zs.length) : Xl (VZ zs i) := by
  have := El 8 ((zs.drop (i * 8)).take 8) (by simp; omega) (fun x hx => hb x (List.mem_of_mem_drop (List.mem_of_mem_take hx)))
  unfold Xl VZ
  omega
def V8 (m : List Int) (i : Nat) : Int := (Qa m (i - 16) + FZ (Qa m (i - 15)) + Qa m (i - 7) + FY (Qa m (i - 2))) % 18446744073709551616
def QI (zs : List Int) : Nat -> List Int
  | 0 => (List.range 16).map (VZ zs) ++ List.replicate 64 0
  | k + 1 => (QI zs k).set (16 + k) (V8 (QI zs k) (16 + k))
theorem Yp (zs : List Int) : ∀ k, (QI zs k).length = 80
  | 0 => by simp [QI]
  | k + 1 => by simp [QI, Yp zs k]
theorem Y7 {zs : List Int} (hb : Qb zs) (hl : zs.length = 128) : ∀ k x, x ∈ QI zs k -> Xl x
  | 0, x, hx => by
    rcases List.mem_append.1 hx with h | h
    . obtain ⟨i, hi, rfl⟩ := List.mem_map.1 h
      exact Dx hb (by have := List.mem_range.1 hi; omega)
    . obtain ⟨-, rfl⟩ := List.mem_replicate.1 h
      unfold Xl; omega
  | k + 1, x, hx => by
    rcases List.mem_or_eq_of_mem_set hx with h | rfl
    . exact Y7 hb hl k x h
    . unfold Xl V8; omega
set_option maxHeartbeats 1000000 in
theorem KQ (w : World) (B : Nat) (st : List Int) (hr : QL w B st) (v : Value) (zs : List Int) (hv : VY .u8 w v zs) (hb : Qb zs) (hl : zs.length = 128) :
    Calls Tryd.prog 99 #[.pointer (some ⟨B, 0, none⟩), v] w fun e w' => e = .returned (Q2 .u64 (QI zs 64)) /\ Below w.heap.size w w' := by
  obtain ⟨a, cap, rfl, hcap, hmax, hcell, -⟩ := hv
  obtain ⟨x, o, rfl, -⟩ := hcell 0 (by omega)
  replace hcell : ∀ k, k < 128 -> w.cell? ⟨x, o + k, none⟩ = some (.int .u8 (Qa zs k)) := fun k hk => by
    obtain ⟨x', o', e, h⟩ := hcell k (by omega)
    cases e
    exact h
  have hx : x < w.heap.size := World.block_lt_of_cell? w _ (hcell 0 (by omega))
  have hB := hr.lt
  have hwd := hr.width
  rw [hl] at hcap ⊢
  go_enter Tryd.func99, Tryd.ntmps99
  go_wp2_with (first
    | (with_reducible refine Uz 4 ?_; refine Xn rfl 122 rfl .u64 80 UV ?_; intro w1 A1 s1 b1)
    | (with_reducible refine Uz 5 ?_; refine Xn rfl 122 rfl .u64 80 UV ?_; intro w2 A2 s2 b2; replace A1 := A1.below b2; have BB := Zk b1 b2; replace hwd := (hr.below BB).width))
  go_loopw [17] (fun i wr => ∃ (k : Nat) (ms : List Int), k <= 16 /\ i = .int .i64 k /\ ZA .u64 wr w.heap.size (List.replicate 80 0) /\ ZA .u64 wr w1.heap.size ms /\ ms.length = 80 /\ (∀ j, j < 80 -> Qa ms j = if j < k then VZ zs j else 0) /\ Below w.heap.size w wr) (fun i _ => 16 - (intOf i).toNat)
  case atStart => exact ⟨0, List.replicate 80 0, by omega, rfl, A1, A2, by simp, fun j h => by rw [Do, if_neg (by omega)], BB⟩
  case round =>
    clear A1 A2 BB hwd
    obtain ⟨k, ms, hk, rfl, A1, A2, hml, hms, BB⟩ := hrel
    by_cases hlt : k < 16
    . have hc : ∀ j, j < 8 -> wr.cell? ⟨x, o + k * 8 + j, none⟩ = some (.int .u8 (Qa ((zs.drop (k * 8)).take 8) j)) := fun j hj => by
        have h1 := hcell (k * 8 + j) (by omega)
        rw [<- Nat.add_assoc] at h1
        rw [BB.cell hx, h1]
        simp [Qa, hj]
      have hbp : Qb ((zs.drop (k * 8)).take 8) := fun y hy => hb y (List.mem_of_mem_drop (List.mem_of_mem_take hy))
      have hlp : ((zs.drop (k * 8)).take 8).length = 8 := by simp; omega
      generalize hps : (zs.drop (k * 8)).take 8 = ps at *
      clear hcell
      go_wp2
      have hlen : (k + 1) * 8 - k * 8 = 8 := by omega
      simp only [hlen]
      go_loopw [8, 30] (fun y j wq => ∃ (t : Nat), t <= 8 /\ j = .int .i64 t /\ y = .int .u64 (Dj (ps.take t)) /\ wq = wr) (fun _ j _ => 8 - (intOf j).toNat)
      case atStart => exact ⟨0, by omega, rfl, rfl, rfl⟩
      case round =>
        obtain ⟨t, ht, rfl, rfl, rfl⟩ := hrel
        by_cases hlt2 : t < 8
        . have hc0 := hc t hlt2
          have hbt := El t (ps.take t) (by simp [hlp]; omega) (fun y hy => hbp y (List.mem_of_mem_take hy))
          have hcb := hbp.at t
          have hsn : Dj (ps.take (t + 1)) = Dj (ps.take t) * 256 + Qa ps t := by rw [DF ps t (by omega), Fc]
          generalize Qa ps t = c at *
          have hyb : 0 <= Dj (ps.take t) /\ Dj (ps.take t) < 72057594037927936 := by
            have hp : (256 : Int) ^ t <= 256 ^ 7 := by
              rcases (by omega : t = 0 \/ t = 1 \/ t = 2 \/ t = 3 \/ t = 4 \/ t = 5 \/ t = 6 \/ t = 7) with rfl | rfl | rfl | rfl | rfl | rfl | rfl | rfl <;> decide
            omega
          generalize Dj (ps.take t) = y at *
          have ho := Qdq y c hyb hcb
          have hy0 := hyb.1
          have hy1 := hyb.2
          replace hsn := Lib.hid hsn
          clear hbt hyb hc
          go_wp2
          refine ⟨⟨t + 1, by omega, by go_num, ?_, by trivial⟩, by simp only [intOf]; omega⟩
          rw [hsn.out]
        . obtain rfl : t = 8 := by omega
          have hw : Dj (ps.take 8) = VZ zs k := by rw [<- hlp, List.take_length, <- hps]; rfl
          rw [hw]
          have f0 := A2.free (k := k) (by omega)
          have c0 := A2.cell (k := k) (by omega)
          clear hc
          go_wp2
          refine ⟨⟨k + 1, ms.set k (VZ zs k), by omega, by go_num, A1.setOther (by omega) _ _, A2.set _ _, by simp [hml], fun j hj => ?_, BB.setCell (by show w.heap.size <= w1.heap.size; omega) _⟩, by simp only [intOf]; omega⟩
          rw [VQ ms k j _ (by omega)]
          by_cases e : j = k
          . rw [if_pos e, if_pos (by omega), e]
          . rw [if_neg e, hms j hj]
            by_cases e2 : j < k
            . rw [if_pos e2, if_pos (by omega)]
            . rw [if_neg e2, if_neg (by omega)]
    . obtain rfl : k = 16 := by omega
      have e : ms = QI zs 0 := Xj (by rw [hml]; rfl) fun j h => by
        rw [hml] at h
        rw [hms j h]
        by_cases e : j < 16
        . rw [if_pos e]
          unfold QI Qa
          rw [List.getElem?_append_left (by simpa using e)]; simp [e]
        . rw [if_neg e]
          have e2 := Do 64 (j - 16)
          unfold QI
          unfold Qa at e2 ⊢
          rw [List.getElem?_append_right (by simpa using e), List.length_map, List.length_range, e2]
      subst e
      clear hms hml hcell
      have hsl := Yp zs
      have hsi := Y7 hb hl
      go_wp2
      go_loopw [11] (fun i wr => ∃ (i' : Nat), 16 <= i' /\ i' <= 80 /\ i = .int .i64 i' /\ ZA .u64 wr w.heap.size (List.replicate 80 0) /\ ZA .u64 wr w1.heap.size (QI zs (i' - 16)) /\ Below w.heap.size w wr) (fun i _ => 80 - (intOf i).toNat)
      case atStart => exact ⟨16, by omega, by omega, rfl, A1, A2, BB⟩
      case round =>
        clear A1 A2 BB
        obtain ⟨i, hi0, hi1, rfl, A1, A2, BB⟩ := hrel
        have hr' := hr.below BB
        have hct := hr'.count
        by_cases hlt : i < 80
        . have hln := hsl (i - 16)
          have hin := hsi (i - 16)
          have hst : QI zs (i + 1 - 16) = (QI zs (i - 16)).set i (V8 (QI zs (i - 16)) i) := by
            rw [show i + 1 - 16 = (i - 16) + 1 by omega]
            show (QI zs (i - 16)).set (16 + (i - 16)) (V8 (QI zs (i - 16)) (16 + (i - 16))) = _
            rw [show 16 + (i - 16) = i by omega]
          generalize QI zs (i - 16) = ms at *
          have hat : ∀ j, j < 80 -> Xl (Qa ms j) := fun j hj => hin _ (UT (by omega))
          obtain ⟨j1, e1, n1⟩ : ∃ j : Nat, IntKind.i64.wrap ((i : Int) - 16) = (j : Int) /\ i - 16 = j := ⟨i - 16, by rw [XH (by omega) (by omega)]; omega, rfl⟩
          obtain ⟨j2, e2, n2⟩ : ∃ j : Nat, IntKind.i64.wrap ((i : Int) - 15) = (j : Int) /\ i - 15 = j := ⟨i - 15, by rw [XH (by omega) (by omega)]; omega, rfl⟩
          obtain ⟨j3, e3, n3⟩ : ∃ j : Nat, IntKind.i64.wrap ((i : Int) - 7) = (j : Int) /\ i - 7 = j := ⟨i - 7, by rw [XH (by omega) (by omega)]; omega, rfl⟩
          obtain ⟨j4, e4, n4⟩ : ∃ j : Nat, IntKind.i64.wrap ((i : Int) - 2) = (j : Int) /\ i - 2 = j := ⟨i - 2, by rw [XH (by omega) (by omega)]; omega, rfl⟩
          have b1 : (j1 : Int) < 80 := by omega
          have b2' : (j2 : Int) < 80 := by omega
          have b3 : (j3 : Int) < 80 := by omega
          have b4 : (j4 : Int) < 80 := by omega
          have b5 : (i : Int) < 80 := by omega
          have c1 := A2.cell (k := j1) (by omega)
          have c2 := A2.cell (k := j2) (by omega)
          have c3 := A2.cell (k := j3) (by omega)
          have c4 := A2.cell (k := j4) (by omega)
          have nx : V8 ms i = (Qa ms j1 + FZ (Qa ms j2) + Qa ms j3 + FY (Qa ms j4)) % 18446744073709551616 := by unfold V8; rw [n1, n2, n3, n4]
          replace nx := Lib.hid nx
          clear n1 n2 n3 n4
          have c5 := A2.cell (k := i) (by omega)
          have f5 := A2.free (k := i) (by omega)
          have HA := fun W => QbP (Qa ms j2) W (hat _ (by omega))
          have HB := fun W => QbO (Qa ms j4) W (hat _ (by omega))
          obtain ⟨f10, f11, f12, f13⟩ := hr'.fn
          replace hst := Lib.hid hst
          clear hin hsi hsl
          go_wp2
          go_still_tail 31, (by kernel_rfl)
          still_call (HA _)
          repeat still_step
          still_call (HB _)
          repeat still_step
          refine wpStill_nil ?_
          change wpList _ _ _ _ _ wr.drew
          go_wp2
          refine ⟨?_, ?_⟩
          . refine Exists.intro (Value.int .i64 ((i : Int) + 1)) ?_
            repeat apply Exists.intro (α := Value)
            refine ⟨⟨i + 1, by omega, by omega, by go_num, ?_, ?_, ?_⟩, rfl⟩
            . exact (JJ A1).setOther (by omega) _ _
            . rw [hst.out, nx.out]
              try simp only [IntKind.wrap_u64, Int.emod_add_emod]
              exact JJ (A2.set i _)
            . exact BB.drew.setCell (by show w.heap.size <= w1.heap.size; omega) _
          . show 80 - (intOf (Value.int .i64 ((i : Int) + 1))).toNat < 80 - (intOf (Value.int .i64 (i : Int))).toNat
            simp only [intOf]; omega
        . obtain rfl : i = 80 := by omega
          have hln := hsl (80 - 16)
          go_wp2_with (first
            | (with_reducible refine Uz 83 ?_; refine Vm rfl 122 _ rfl 80 32 Et VF w1.heap.size rfl .u64 _ A2 hln ?_)
            | (with_reducible refine Dm (o := ⟨_, .store 122 _ _, _, _, _, _⟩) ?_; refine Zs rfl 122 _ _ rfl 80 VF w.heap.size rfl .u64 _ _ rfl A1 (by simp) hln ?_; intro A3))
          refine bodyPost_ret (Y4 rfl _ 80 32 Et VF w.heap.size rfl .u64 _ A3 hln) rfl ?_
          exact ⟨rfl, ZO BB (Nat.le_refl _) _⟩
theorem X1.drewN {w : World} (h : X1 w) (n : Nat) : X1 (w.drewN n) := h.below (Zq (Below.refl _ _) n)
theorem Uq {w w' : World} (h : Below w.heap.size w w') (B : Nat) : w.grownBy w' (some B) := ⟨h.os, h.tape, h.output, h.size, fun k hk _ => h.block k hk⟩
theorem YV (w : World) (g : Nat) (cs : Array Value) : w.grownBy (w.setRow g cs) (some g) := by
  refine ⟨rfl, rfl, rfl, by simp [World.setRow], fun k hk hne => ?_⟩
  rw [setRow_other w g k cs (by simpa using hne)]
theorem Jg (x : Int) : Xl (x % 18446744073709551616) := by unfold Xl; omega
structure QM where
  (a b c d e f g h : Int)
def QM.ok (v : QM) : Prop := Xl v.a /\ Xl v.b /\ Xl v.c /\ Xl v.d /\ Xl v.e /\ Xl v.f /\ Xl v.g /\ Xl v.h
def QbF (e : Int) : Int := bits BinOp.xor .u64 (if IntKind.u64.signed = true then -1 else IntKind.u64.max) e
def DD (m : List Int) (i : Nat) (v : QM) : Int := (v.h + QcB v.e + bits BinOp.xor .u64 (bits BinOp.and .u64 v.e v.f) (bits BinOp.and .u64 (QbF v.e) v.g) + Qa Z8 i + Qa m i) % 18446744073709551616
def QeB (v : QM) : Int := (QcD v.a + bits BinOp.xor .u64 (bits BinOp.xor .u64 (bits BinOp.and .u64 v.a v.b) (bits BinOp.and .u64 v.a v.c)) (bits BinOp.and .u64 v.b v.c)) % 18446744073709551616
def EA (m : List Int) (i : Nat) (v : QM) : QM := ⟨(DD m i v + QeB v) % 18446744073709551616, v.a, v.b, v.c, (v.d + DD m i v) % 18446744073709551616, v.e, v.f, v.g⟩
def QG (m : List Int) (v : QM) : Nat -> QM
  | 0 => v
  | i + 1 => EA m i (QG m v i)
theorem Yr {m : List Int} {v : QM} (h : v.ok) : ∀ i, (QG m v i).ok
  | 0 => h
  | i + 1 => by
    obtain ⟨h0, h1, h2, h3, h4, h5, h6, h7⟩ := Yr (m := m) h i
    exact ⟨Jg _, h0, h1, h2, Jg _, h4, h5, h6⟩
def Z7 (st : List Int) : QM := ⟨Qa st 0, Qa st 1, Qa st 2, Qa st 3, Qa st 4, Qa st 5, Qa st 6, Qa st 7⟩
def QM.list (v : QM) : List Int := [v.a, v.b, v.c, v.d, v.e, v.f, v.g, v.h]
/-- The state behind a block. -/
def ZS (st zs : List Int) : List Int := (List.range 8).map fun j => (Qa st j + Qa (QG (QI zs 64) (Z7 st) 80).list j) % 18446744073709551616
set_option maxHeartbeats 4000000 in
theorem GU (w : World) (B : Nat) (st : List Int) (hr : QL w B st) (hT : X1 w) (hs : 1 ≠ B) (hc : 3 ≠ B) (v : Value) (zs : List Int) (hv : VY .u8 w v zs) (hb : Qb zs) (hl : zs.length = 128) :
    Calls Tryd.prog 76 #[.pointer (some ⟨B, 0, none⟩), v] w fun e w' => (∃ v, e = .returned v) /\ QL w' B (ZS st zs) /\ w.grownBy w' (some B) := by
  have hB := hr.lt
  have hml := Yp zs 64
  have hmi := Y7 hb hl 64
  have HS := fun W (h : QL W B st) (hv : VY .u8 W v zs) => KQ W B st h v zs hv hb hl
  have htk : ZS st zs = (List.range 8).map fun j => (Qa st j + Qa (QG (QI zs 64) (Z7 st) 80).list j) % 18446744073709551616 := rfl
  generalize QI zs 64 = ms at *
  have h8 : (Z7 st).ok := ⟨hr.stIn 0, hr.stIn 1, hr.stIn 2, hr.stIn 3, hr.stIn 4, hr.stIn 5, hr.stIn 6, hr.stIn 7⟩
  have he8 : Z7 st = ⟨Qa st 0, Qa st 1, Qa st 2, Qa st 3, Qa st 4, Qa st 5, Qa st 6, Qa st 7⟩ := rfl
  go_enter Tryd.func76, Tryd.ntmps76
  go_wp2_with (first
    | (go_at_call 99; (with_reducible refine (HS _ hr hv).mono ?_); rintro e w1 ⟨rfl, b1⟩)
    | (with_reducible refine Uz 4 ?_; refine Xn rfl 122 rfl .u64 80 UV ?_; intro w2 A2 s2 b2; have BB := Zk b1 b2; have hr2 := hr.below BB; have hT2 := hT.below BB)
    | (with_reducible refine Dm (o := ⟨_, .store 122 _ _, _, _, _, _⟩) ?_; refine Zs rfl 122 _ _ rfl 80 VF w1.heap.size rfl .u64 _ _ rfl A2 (by simp) hml ?_; intro A3))
  have hs1 := b1.size
  have hr3 : QL (w2.setRow w1.heap.size (ms.map (Value.int .u64)).toArray) B st := hr2.but (YV _ _ _) (by simp; omega)
  have hT3 : X1 (w2.setRow w1.heap.size (ms.map (Value.int .u64)).toArray) := hT2.but (YV _ _ _) (by have := hT.lt.1; have := b1.size; omega) (by have := hT.lt.2; have := b1.size; omega)
  have BB3 := ZO BB (g := w1.heap.size) b1.size (ms.map (Value.int .u64)).toArray
  generalize w2.setRow w1.heap.size (ms.map (Value.int .u64)).toArray = w3 at *
  clear hr2 hT2 A2 BB HS
  have s0 : w3.cell? ⟨B, 2, none⟩ = some (.int .u64 (Qa st 0)) := (hr3.stAt (j := 0) (by decide)).1
  have s1 : w3.cell? ⟨B, 3, none⟩ = some (.int .u64 (Qa st 1)) := (hr3.stAt (j := 1) (by decide)).1
  have s2 : w3.cell? ⟨B, 4, none⟩ = some (.int .u64 (Qa st 2)) := (hr3.stAt (j := 2) (by decide)).1
  have s3 : w3.cell? ⟨B, 5, none⟩ = some (.int .u64 (Qa st 3)) := (hr3.stAt (j := 3) (by decide)).1
  have s4 : w3.cell? ⟨B, 6, none⟩ = some (.int .u64 (Qa st 4)) := (hr3.stAt (j := 4) (by decide)).1
  have s5 : w3.cell? ⟨B, 7, none⟩ = some (.int .u64 (Qa st 5)) := (hr3.stAt (j := 5) (by decide)).1
  have s6 : w3.cell? ⟨B, 8, none⟩ = some (.int .u64 (Qa st 6)) := (hr3.stAt (j := 6) (by decide)).1
  have s7 : w3.cell? ⟨B, 9, none⟩ = some (.int .u64 (Qa st 7)) := (hr3.stAt (j := 7) (by decide)).1
  have hct := hr3.count
  have hml' := hml
  go_quiet (fail)
  go_wp2
  go_quiet (fail)
  go_wp2
  have he : QG ms (Z7 st) 0 = Z7 st := rfl
  generalize hv0 : Z7 st = v0 at *
  go_loopw [5, 6, 7, 8, 9, 10, 11, 12, 65] (fun a b c d e f g h i wr => ∃ (k : Nat), k <= 80 /\ i = .int .i64 k /\ a = .int .u64 (QG ms v0 k).a /\ b = .int .u64 (QG ms v0 k).b /\ c = .int .u64 (QG ms v0 k).c /\ d = .int .u64 (QG ms v0 k).d /\ e = .int .u64 (QG ms v0 k).e /\ f = .int .u64 (QG ms v0 k).f /\ g = .int .u64 (QG ms v0 k).g /\ h = .int .u64 (QG ms v0 k).h /\ QL wr B st /\ X1 wr /\ ZA .u64 wr w1.heap.size ms /\ Below w.heap.size w wr) (fun _ _ _ _ _ _ _ _ i _ => 80 - (intOf i).toNat)
  case atStart =>
    refine ⟨0, by omega, rfl, ?_, ?_, ?_, ?_, ?_, ?_, ?_, ?_, hr3, hT3.drewN _, A3, Zq BB3 _⟩ <;> (rw [he, he8])
  case round =>
    clear hr3 hT3 A3 BB3 s0 s1 s2 s3 s4 s5 s6 s7 hct
    obtain ⟨k, hk, rfl, rfl, rfl, rfl, rfl, rfl, rfl, rfl, rfl, hr3, hT3, A3, BB3⟩ := hrel
    by_cases hlt : k < 80
    . have hok := Yr (m := ms) h8 k
      have hnx : QG ms v0 (k + 1) = EA ms k (QG ms v0 k) := rfl
      rcases hv : QG ms v0 k with ⟨a, b, c, d, e, f, g, h⟩
      rw [hv] at hok hnx
      obtain ⟨⟨a0, a1⟩, ⟨b0, b1'⟩, ⟨c0, c1⟩, ⟨d0, d1⟩, ⟨e0, e1⟩, ⟨f0, f1⟩, ⟨g0, g1⟩, ⟨h0, h1⟩⟩ := hok
      dsimp only at a0 a1 b0 b1' c0 c1 d0 d1 e0 e1 f0 f1 g0 g1 h0 h1
      have hcu := hT3.cu k (by omega)
      have hci := Qcp k (by omega)
      have HC := fun W (h : QL W B st) => Df (Qa Z8 k) W B st h hci
      have HB := fun W => QcA e W ⟨e0, e1⟩
      have HA := fun W => QcC a W ⟨a0, a1⟩
      have hms := A3.cell (k := k) (by omega)
      obtain ⟨f10, f11, f12, f13⟩ := hr3.fn
      have hk80 : (k : Int) < 80 := by omega
      replace hnx := Lib.hid hnx
      clear hv hmi htk he
      go_wp2
      go_quiet (first | (go_at_call 44; exact Calls.quiet_of_same (HB _)) | (go_at_call 74; exact Calls.quiet_of_same (HC _ hr3)))
      go_wp2_with (first
        | (go_at_call 42; (with_reducible refine (HA _).mono ?_); rintro e w9 ⟨rfl, rfl⟩))
      refine ⟨⟨k + 1, by omega, by go_num, ?_, congrArg (Value.int .u64) (congrArg QM.b hnx.out).symm, congrArg (Value.int .u64) (congrArg QM.c hnx.out).symm, congrArg (Value.int .u64) (congrArg QM.d hnx.out).symm, ?_, congrArg (Value.int .u64) (congrArg QM.f hnx.out).symm, congrArg (Value.int .u64) (congrArg QM.g hnx.out).symm, congrArg (Value.int .u64) (congrArg QM.h hnx.out).symm, hr3, hT3.drewN _, A3, Zq BB3 _⟩, by simp only [intOf]; omega⟩ <;> rw [hnx.out]
      . show _ = Value.int .u64 ((DD ms k ⟨a, b, c, d, e, f, g, h⟩ + QeB ⟨a, b, c, d, e, f, g, h⟩) % 18446744073709551616)
        unfold DD QeB QbF
        first | rfl | (simp only [IntKind.wrap_u64, Int.emod_add_emod, Int.add_emod_emod])
      . show _ = Value.int .u64 ((d + DD ms k ⟨a, b, c, d, e, f, g, h⟩) % 18446744073709551616)
        unfold DD QbF
        first | rfl | (simp only [IntKind.wrap_u64, Int.emod_add_emod, Int.add_emod_emod])
    . obtain rfl : k = 80 := by omega
      have hok := Yr (m := ms) h8 80
      rcases hv : QG ms v0 80 with ⟨a, b, c, d, e, f, g, h⟩
      rw [hv] at hok htk
      obtain ⟨⟨a0, a1⟩, ⟨b0, b1'⟩, ⟨c0, c1⟩, ⟨d0, d1⟩, ⟨e0, e1⟩, ⟨f0, f1⟩, ⟨g0, g1⟩, ⟨h0, h1⟩⟩ := hok
      dsimp only at a0 a1 b0 b1' c0 c1 d0 d1 e0 e1 f0 f1 g0 g1 h0 h1
      have hg := Uq BB3 B
      replace htk := Lib.hid htk
      clear hv hmi he
      go_wp2
      rw [show Value.agg #[.int .u64 a, .int .u64 b, .int .u64 c, .int .u64 d, .int .u64 e, .int .u64 f, .int .u64 g, .int .u64 h] = Q2 .u64 [a, b, c, d, e, f, g, h] from rfl]
      have hls : ([a, b, c, d, e, f, g, h] : List Int).length = 8 := rfl
      have hlv : (QM.list ⟨a, b, c, d, e, f, g, h⟩) = [a, b, c, d, e, f, g, h] := rfl
      replace hlv := Lib.hid hlv
      generalize ([a, b, c, d, e, f, g, h] : List Int) = ls at *
      clear a0 a1 b0 b1' c0 c1 d0 d1 e0 e1 f0 f1 g0 g1 h0 h1 BB3 A3 hT3
      go_loopw [135] (fun i wr => ∃ (j : Nat) (su : List Int), j <= 8 /\ i = .int .i64 j /\ QL wr B su /\ w.grownBy wr (some B) /\ (∀ q, q < 8 -> Qa su q = if q < j then (Qa st q + Qa ls q) % 18446744073709551616 else Qa st q)) (fun i _ => 8 - (intOf i).toNat)
      case atStart => exact ⟨0, st, by omega, rfl, hr3, hg, fun q hq => by rw [if_neg (by omega)]⟩
      case round =>
        clear hr3 hg
        obtain ⟨j, su, hj, rfl, hr3, hg, hsu⟩ := hrel
        by_cases hjl : j < 8
        . have hix : ∀ w, (Instr.index 76 (Q2 .u64 ls) (.int .i64 (j : Int))).run Tryd.prog w = .ok (.int .u64 (Qa ls j)) w := fun w => by
            have h := FE (w := w) (P := Tryd.prog) 76 8 32 Tryd.underlying76 _ Tryd.underlying32 rfl (by kernel_rfl) .u64 ls hls (j : Int) (by omega) (by omega)
            rwa [Int.toNat_natCast] at h
          obtain ⟨cj, fj⟩ := hr3.stAt hjl
          have hsj := hsu j hjl
          rw [if_neg (by omega)] at hsj
          rw [hsj] at cj
          have hjI : (j : Int) < 8 := by omega
          replace hsj := Lib.hid hsj
          replace hsu := Lib.hid hsu
          go_wp2
          go_still_tail 11, (by kernel_rfl)
          change wpList _ _ _ _ _ wr.drew
          go_wp2
          refine ⟨?_, ?_⟩
          . apply Exists.intro (α := Value)
            apply Exists.intro (α := Value)
            refine Exists.intro (Value.int .i64 ((j : Int) + 1)) ?_
            repeat apply Exists.intro (α := Value)
            refine ⟨⟨j + 1, su.set j ((Qa st j + Qa ls j) % 18446744073709551616), by omega, by go_num, ?_, ?_, fun q hq => ?_⟩, rfl⟩
            . try simp only [IntKind.wrap_u64]
              have h := hr3.set hjl (Jg (Qa st j + Qa ls j))
              exact h
            . exact Z6 (Xx hg _ _)
            . rw [VQ su j q _ (by rw [hr3.1]; exact hjl)]
              by_cases e : q = j
              . rw [if_pos e, if_pos (by omega), e]
              . rw [if_neg e, hsu.out q hq]
                by_cases e2 : q < j
                . rw [if_pos e2, if_pos (by omega)]
                . rw [if_neg e2, if_neg (by omega)]
          . show 8 - (intOf (Value.int .i64 ((j : Int) + 1))).toNat < 8 - (intOf (Value.int .i64 (j : Int))).toNat
            simp only [intOf]; omega
        . obtain rfl : j = 8 := by omega
          have e : su = ZS st zs := Xj (by rw [hr3.1, htk.out]; simp) fun q hq => by
            rw [hr3.1] at hq
            rw [hsu q hq, if_pos hq, htk.out, hlv.out]
            simp [Qa, hq]
          subst e
          go_wp2
          refine bodyPost_end (results_none rfl _ _ _) rfl ?_
          exact ⟨⟨_, rfl⟩, hr3, hg⟩
structure QgH where
  (a b c d e f g h : Int)
theorem YK (n : Int) (w : World) (h : n = 32 \/ n = 64) : Calls Tryd.prog 75 #[.int .i64 n] w fun e w' => e = .returned (.int .i64 (2 * n)) /\ w' = w := by
  rcases h with rfl | rfl
  all_goals
    go_enter Tryd.func75, Tryd.ntmps75
    go_wp2
    go_ret
    exact ⟨rfl, rfl⟩
theorem K9 (n : Int) (w : World) (h : n = 32 \/ n = 64) : Calls Tryd.prog 103 #[.int .i64 n] w fun e w' => e = .returned (.int .i64 (n / 4)) /\ w' = w := by
  rcases h with rfl | rfl
  all_goals
    go_enter Tryd.func103, Tryd.ntmps103
    go_wp2
    go_ret
    exact ⟨rfl, rfl⟩
/-- How many bytes there are with what is Vd. -/
def Vd (n wd : Int) : Int := if n < 0 \/ 1099511627776 < n \/ (wd ≠ 32 /\ wd ≠ 64) then 0 else (n + 1 + wd / 4 + 2 * wd - 1) / (2 * wd) * (2 * wd)
theorem Qbr (n wd : Int) (w : World) (hn : -9223372036854775808 <= n /\ n <= 9223372036854775807) (hw : -9223372036854775808 <= wd /\ wd <= 9223372036854775807) :
    Calls Tryd.prog 100 #[.int .i64 n, .int .i64 wd] w fun e w' => e = .returned (.int .i64 (Vd n wd)) /\ w' = w := by
  by_cases h : n < 0 \/ 1099511627776 < n \/ (wd ≠ 32 /\ wd ≠ 64)
  . rw [show Vd n wd = 0 from if_pos h]
    have hb : (decide (n < 0) || (decide (1099511627776 < n) || (decide (wd ≠ 32) && decide (wd ≠ 64)))) = true := by simpa using h
    by_cases h1 : n < 0
    . have d1 : decide (n < 0) = true := decide_eq_true h1
      go_enter Tryd.func100, Tryd.ntmps100
      go_wp2
      go_ret
      exact ⟨rfl, rfl⟩
    . by_cases h2 : 1099511627776 < n
      . go_enter Tryd.func100, Tryd.ntmps100
        go_wp2
        go_ret
        exact ⟨rfl, rfl⟩
      . have h3 : wd ≠ 32 /\ wd ≠ 64 := by omega
        obtain ⟨h4, h5⟩ := h3
        have b4 : (wd != 32) = true := by simpa using h4
        have b5 : (wd != 64) = true := by simpa using h5
        clear hb h h4 h5
        go_enter Tryd.func100, Tryd.ntmps100
        go_wp2
        go_ret
        exact ⟨rfl, rfl⟩
  . have h6 : wd = 32 \/ wd = 64 := by omega
    have h7 : ¬ n < 0 := by omega
    have h8 : ¬ 1099511627776 < n := by omega
    rw [show Vd n wd = (n + 1 + wd / 4 + 2 * wd - 1) / (2 * wd) * (2 * wd) from if_neg h]
    clear h
    have HB := fun W => YK wd W h6
    have HL := fun W => K9 wd W h6
    rcases h6 with rfl | rfl
    all_goals
      go_enter Tryd.func100, Tryd.ntmps100
      go_wp2_with (first
        | (go_at_call 75; (with_reducible refine (HB _).mono ?_); rintro e w1 ⟨rfl, rfl⟩)
        | (go_at_call 103; (with_reducible refine (HL _).mono ?_); rintro e w1 ⟨rfl, rfl⟩))
      go_ret
      exact ⟨rfl, rfl⟩
/-- The bytes of a state. -/
def X0 (st : List Int) : List Int := (List.range 64).map fun i => Qa st (i / 8) / 2 ^ (8 * (8 - 1 - i % 8)) % 256
theorem DE (st : List Int) (i : Nat) (h : i < 64) : Qa (X0 st) i = Qa st (i / 8) / 2 ^ (8 * (8 - 1 - i % 8)) % 256 := by simp [X0, Qa, h]
set_option maxHeartbeats 1000000 in
theorem QaD (w : World) (B Bs : Nat) (st zs : List Int) (hr : QL w B st) (hz : ZA .u8 w Bs zs) (hl : zs.length = 64) (hne : B ≠ Bs) :
    Calls Tryd.prog 49 #[.pointer (some ⟨B, 0, none⟩), .slice (some ⟨Bs, 0, none⟩) 64 64] w fun e w' => (∃ v, e = .returned v) /\ ZA .u8 w' Bs (X0 st) /\ w.grownBy w' (some Bs) := by
  have hwd := hr.width
  go_enter Tryd.func49, Tryd.ntmps49
  go_wp2
  go_loopw [13] (fun i wr => ∃ (k : Nat) (ys : List Int), k <= 64 /\ i = .int .i64 k /\ QL wr B st /\ ZA .u8 wr Bs ys /\ ys.length = 64 /\ w.grownBy wr (some Bs) /\ ∀ q, q < k -> Qa ys q = Qa (X0 st) q) (fun i _ => 64 - (intOf i).toNat)
  case atStart => exact ⟨0, zs, by omega, rfl, hr, hz, hl, World.grownBy.refl _ _, fun q h => by omega⟩
  case round =>
    clear hr hz hwd
    obtain ⟨k, ys, hk, rfl, hr, hz, hyl, hg, hys⟩ := hrel
    by_cases hlt : k < 64
    . have hk8 : k / 8 < 8 := by omega
      obtain ⟨cj, -⟩ := hr.stAt hk8
      have hsi := hr.stIn (k / 8)
      have cs := hz.cell (k := k) (by omega)
      have fs := hz.free (k := k) (by omega)
      have hat := DE st k hlt
      generalize Qa st (k / 8) = s at *
      obtain ⟨s0, s1⟩ := hsi
      obtain ⟨q, e1, hq⟩ : ∃ q : Nat, IntKind.i64.wrap ((k : Int) / 8) = (q : Int) /\ q = k / 8 := ⟨k / 8, by rw [XH (by omega) (by omega)]; omega, rfl⟩
      obtain ⟨r, e2, hr2⟩ : ∃ r : Nat, (k : Int).tmod 8 = (r : Int) /\ r = k % 8 := ⟨k % 8, by rw [Int.tmod_eq_emod_of_nonneg (by omega)]; omega, rfl⟩
      have e5 : IntKind.i64.wrap 7 = 7 := by decide
      obtain ⟨t, e3, ht⟩ : ∃ t : Nat, IntKind.i64.wrap ((7 : Int) - (r : Int)) = (t : Int) /\ t = 7 - r := ⟨7 - r, by rw [XH (by omega) (by omega)]; omega, rfl⟩
      obtain ⟨u, e4, hu⟩ : ∃ u : Nat, IntKind.i64.wrap ((8 : Int) * (t : Int)) = (u : Int) /\ u = 8 * t := ⟨8 * t, by rw [XH (by omega) (by omega)]; omega, rfl⟩
      have hu2 : 8 * (8 - 1 - k % 8) = u := by omega
      rw [hu2] at hat
      have hu3 : (u : Int) < 64 := by omega
      have hq8 : (q : Int) < 8 := by omega
      rw [<- hq] at cj
      clear hu2 hq hr2 ht hu hk8
      replace hat := Lib.hid hat
      replace hys := Lib.hid hys
      go_wp2
      go_still_tail 20, (by kernel_rfl)
      change wpList _ _ _ _ _ wr.drew
      go_wp2
      refine ⟨⟨k + 1, ys.set k (s / 2 ^ u % 256), by omega, by go_num, hr.but (Z6 (Xx (World.grownBy.refl wr (some Bs)) k _)) (by simpa using hne), JJ (hz.set k _), by simp [hyl], Z6 (Xx hg _ _), fun q hq => ?_⟩, by simp only [intOf]; omega⟩
      rw [VQ ys k q _ (by omega)]
      by_cases e : q = k
      . rw [if_pos e, e, hat.out]
      . rw [if_neg e]; exact hys.out q (by omega)
    . obtain rfl : k = 64 := by omega
      have e : ys = X0 st := Xj (by rw [hyl]; simp [X0]) fun q h => hys q (by rw [hyl] at h; exact h)
      subst e
      go_wp2
      refine bodyPost_end (results_none rfl _ _ _) rfl ?_
      exact ⟨⟨_, rfl⟩, hz, hg⟩
section
variable {P : Program} {ops : Array Oper} {md : Region.Mode}

/-- A variable that the region makes (operation ka) and stores v into (operation ks). -/
structure QcK where
  ka : Nat
  ks : Nat
  K : IntKind
  n : Nat
  v : List Int
inductive Qha where
  | plain
  | alloc (it : QcK)
  | store (it : QcK)
variable {ds : List (Option Tmp)} {dl : List (List Nat)} {G : World -> Prop} {F : Ds} {base : Nat} {items : List QcK} {a : Act}
end
end Go.Proofs.YtbiboamaigedjaaDoor
--@optional
namespace Go.Proofs.YtbiboamaigedjaaDoor
open Go.RowKit
set_option linter.unusedVariables false
set_option maxRecDepth 8000

end Go.Proofs.YtbiboamaigedjaaDoor
namespace Go.Proofs.YtbiboamaigedjaaDoor
open Go.RowKit
set_option linter.unusedVariables false
set_option linter.unusedSimpArgs false
set_option maxRecDepth 8000
set_option maxHeartbeats 2000000

section
variable {P : Program} {ops : Array Oper} {o : Oper} {a : Act} {w : World} {R : Value -> World -> Prop}

end
section
variable {P : Program} {ops : Array Oper} {o : Oper} {a : Act} {w : World} {R : Value -> World -> Prop}
end
section
variable {P : Program} {ops : Array Oper} {o : Oper} {a : Act} {w : World} {R : Value -> World -> Prop}
theorem Ji (K : IntKind) (n m : Nat) : madeCells (Array.replicate n (Value.int K 0)) m = if n = 0 then madeCells #[] m else Array.replicate m (Value.int K 0) := by
  by_cases hn : n = 0
  . subst hn; simp
  . rw [if_neg hn]
    apply Array.ext
    . simp [madeCells]
    . intro i h1 h2
      simp [madeCells]
      have : i % n < n := Nat.mod_lt _ (by omega)
      simp [this]
end
section
variable {P : Program} {ops : Array Oper} {o : Oper} {rest : List Oper} {a : Act} {w : World} {Q : Exit -> Act -> World -> Prop}
theorem KA (hgd : o.guard = none) (d s : Operand) (t t' : TypeId) (ho : o.op = .call { callee := .builtin .copy, args := #[d, s], argTypes := #[t, t'] })
    (elem : TypeId) (hu : P.underlying t = some (.slice elem)) (hsz : (P.info? elem).map (·.size) = some 1) (B B' c c' n m : Nat) (hd : a.eval d = .slice (some ⟨B, 0, none⟩) n c) (hs : a.eval s = .slice (some ⟨B', 0, none⟩) m c') (K : IntKind) (zs ys : List Int)
    (hz : ZA K w B zs) (hy : ∀ q, q < m -> w.cell? ⟨B', q, none⟩ = some (.int K (Qa ys q))) (hn : zs.length = n) (hm : ys.length = m) (hle : m <= n)
    (h : ZA K (w.setRow B ((ys.take m ++ zs.drop m).map (Value.int K)).toArray) B (ys.take m ++ zs.drop m) -> wpList P ops Q rest (a.put o.dst (goInt m)) (w.setRow B ((ys.take m ++ zs.drop m).map (Value.int K)).toArray)) : wpList P ops Q (o :: rest) a w := by
  subst hn
  have h' := h (hz.setRow _)
  refine wpList_plain hgd fun KK hK => ?_
  have hlt : (ys.take m).length = m := by simp [hm]
  obtain ⟨tz, hz⟩ := hz
  have hcell : ∀ j v, ((ys.take m).map (Value.int K))[j]? = some v -> w.cell? ((⟨B', 0, none⟩ : Addr).add j) = some v := by
    intro j v hj
    have hjm : j < m := by
      have := (List.getElem?_eq_some_iff.1 hj).1
      simpa [hm] using this
    have hc := hy j hjm
    rw [Addr.add_lit, Nat.zero_add, hc, <- hj]
    simp [hjm, Qa, show j < ys.length by omega]
  have hr := run_copy_row (P := P) w t t' o.type elem B 0 zs.length c ⟨B', 0, none⟩ m c' _ tz ((ys.take m).map (Value.int K)) hu hsz hz (by rw [List.length_map, hlt]; exact (Nat.min_eq_left hle).symm) hcell (by simp only [List.size_toArray, List.length_map, hlt]; omega) (by intro v hv; obtain ⟨z, -, rfl⟩ := List.mem_map.1 hv; rfl)
  unfold Oper.wp execOp
  simp only [ho, resolve, invoke, builtin, Sem.run_bind, Sem.run_pure, Result.andThen_ok, List.map_toArray, List.map_cons, List.map_nil, hd, hs, hr]
  have e : (List.take 0 (zs.map (Value.int K)) ++ (ys.take m).map (Value.int K) ++ List.drop (0 + ((ys.take m).map (Value.int K)).length) (zs.map (Value.int K))) = (ys.take m ++ zs.drop m).map (Value.int K) := by
    rw [List.take_zero, List.nil_append, Nat.zero_add, List.length_map, hlt, List.map_append, List.map_drop]
  rw [e, List.length_map, hlt]
  exact hK _ _ h'
theorem Kz (hgd : o.guard = none) (t e : TypeId) (x y : Operand) (ho : o.op = .makeSlice t x y) (hu : P.underlying t = some (.slice e)) (K : IntKind) (hz : (P.info? e).bind (·.zero) = some (Value.int K 0)) (hs : (P.info? e).map (·.size) = some 1) (hb : (P.info? e).map (·.bytes) = some 1)
    (l n : Nat) (hx : a.eval x = .int .i64 l) (hy : a.eval y = .int .i64 n) (hle : l <= n) (hn : (n : Int) <= 281474976710656)
    (h : ∀ w1, ZA K w1 w.heap.size (List.replicate n 0) -> w.heap.size < w1.heap.size -> Below w.heap.size w w1 -> wpList P ops Q rest (a.put o.dst (.slice (some ⟨w.heap.size, 0, none⟩) l n)) w1) : wpList P ops Q (o :: rest) a w := by
  cases hi : P.info? e with
  | none => rw [hi] at hz; cases hz
  | some i =>
    rw [hi] at hz hs hb
    have hz' : i.zero = some (Value.int K 0) := hz
    have hs' : i.size = 1 := by simpa using hs
    have hb' : i.bytes = 1 := by simpa using hb
    refine wpList_plain hgd fun KK hK => ?_
    have hr := run_make w t e i _ hu hi hz' .i64 .i64 (l : Int) (n : Int) (by omega) (by omega) (by rw [hb']; omega) (by omega)
    have hm : madeCells (Value.int K 0).cells (n * 1) = ((List.replicate n (0 : Int)).map (Value.int K)).toArray := by
      have h1 := Ji K 1 (n * 1)
      rw [if_neg (by decide)] at h1
      rw [show (Value.int K 0).cells = Array.replicate 1 (Value.int K 0) from rfl, h1]
      simp
    unfold Oper.wp execOp
    simp only [ho, hx, hy, Sem.run_bind, hr, Int.toNat_natCast, hs', hm]
    refine hK _ _ (h _ ⟨e, ?_⟩ (Array.getElem?_eq_some_iff.1 (heap_alloc_new w _)).1 ((Below.refl _ _).alloc (Nat.le_refl _) _))
    rw [heap_alloc_new]
end
theorem Vj {a b c : World} {row : Option Nat} (h : a.grownBy b row) (k : b.grownBy c row) : a.grownBy c row :=
  ⟨k.os.trans h.os, k.tape.trans h.tape, k.output.trans h.output, Nat.le_trans h.size k.size, fun i hi hne => (k.block i (Nat.lt_of_lt_of_le hi h.size) hne).trans (h.block i hi hne)⟩
theorem UU {K : IntKind} {w w' : World} {B : Nat} {zs : List Int} (h : ZA K w B zs) {row : Option Nat} (hb : w.grownBy w' row) (hr : some B ≠ row) : ZA K w' B zs := by
  have hl := h.lt
  obtain ⟨t, h⟩ := h
  exact ⟨t, by rw [hb.block B hl hr]; exact h⟩
theorem Qac {w w' : World} {B : Nat} (h : w.grownBy w' (some B)) (p : Addr) (v : Value) (hp : w.heap.size <= p.block) : w.grownBy (w'.setCell p v) (some B) := by
  refine ⟨h.os, h.tape, h.output, ?_, fun k hk hne => ?_⟩
  . have := h.size
    simpa [World.setCell] using this
  . rw [heap_setCell_other w' p k v (by omega)]
    exact h.block k hk hne
/-- The number of bits, laid behind all, the highest byte first. -/
def Uw (p : List Int) (tot : Int) : Nat -> List Int
  | 0 => p
  | k + 1 => (Uw p tot k).set (p.length - 1 - k) (tot * 8 / 2 ^ (8 * k) % 256)
theorem Hg (p : List Int) (tot : Int) : ∀ k, (Uw p tot k).length = p.length
  | 0 => rfl
  | k + 1 => by simp [Uw, Hg p tot k]
theorem Ja {p : List Int} (h : Qb p) (tot : Int) : ∀ k, Qb (Uw p tot k)
  | 0 => h
  | k + 1 => fun x hx => by
    rcases List.mem_or_eq_of_mem_set hx with h' | rfl
    . exact Ja h tot k x h'
    . omega
/-- How many bytes so many have when they are Vd. -/
def Q3 (n : Nat) : Nat := (n + 1 + 16 + 128 - 1) / 128 * 128
theorem DY (n : Nat) (h : n < 128) : Vd (n : Int) 64 = (Q3 n : Nat) := by
  unfold Vd Q3
  rw [if_neg (by omega)]
  omega
theorem Kf (n : Nat) (h : n < 128) : n + 16 < Q3 n /\ Q3 n <= 256 /\ Q3 n % 128 = 0 := by unfold Q3; omega
def Yz (hl : List Int) (n : Nat) : List Int := (hl.take n ++ List.replicate (Q3 n - n) 0).set n 128
theorem FR (hl : List Int) (n : Nat) (h : n < 128) (hh : hl.length = n) : (Yz hl n).length = Q3 n := by
  have := Kf n h
  simp [Yz, hh]
  omega
/-- A state behind so many blocks. -/
def QR (st zs : List Int) : Nat -> List Int
  | 0 => st
  | k + 1 => ZS (QR st zs k) ((zs.drop (k * 128)).take 128)
set_option maxHeartbeats 4000000 in
theorem QbT (w : World) (B : Nat) (st : List Int) (hr : QL w B st) (hT : X1 w) (hs : 1 ≠ B) (hc : 3 ≠ B) (Bh : Nat) (hl : List Int) (n : Nat) (hA : ∀ q, q < n -> w.cell? ⟨Bh, q, none⟩ = some (.int .u8 (Qa hl q))) (hll : hl.length = n) (hn : n < 128) (hby : Qb hl) (tot : Int) (ht0 : 0 <= tot) (ht1 : tot < 72057594037927936) :
    Calls Tryd.prog 77 #[.pointer (some ⟨B, 0, none⟩), .slice (some ⟨Bh, 0, none⟩) n 128, .int .i64 tot] w fun e w' => (∃ v, e = .returned v) /\ QL w' B (QR st (Uw (Yz hl n) tot 8) (Q3 n / 128)) /\ w.grownBy w' (some B) := by
  have hB := hr.lt
  have hwd := hr.width
  have hpn := Kf n hn
  have hpl := FR hl n hn hll
  have hpb : Qb (Yz hl n) := fun x hx => by
    rcases List.mem_or_eq_of_mem_set hx with h | rfl
    . rcases List.mem_append.1 h with h | h
      . exact hby x (List.mem_of_mem_take h)
      . obtain ⟨-, rfl⟩ := List.mem_replicate.1 h; decide
    . decide
  have HP : ∀ W, Calls Tryd.prog 100 #[.int .i64 (n : Int), .int .i64 64] W fun e w' => e = .returned (.int .i64 ((Q3 n : Nat) : Int)) /\ w' = W := fun W => by
    have h := Qbr (n : Int) 64 W (by omega) (by omega)
    rw [DY n hn] at h
    exact h
  have hp0 : (hl.take n ++ List.replicate (Q3 n - n) 0).set n 128 = Yz hl n := rfl
  have hrd : (List.replicate (Q3 n) (0 : Int)).drop n = List.replicate (Q3 n - n) 0 := by simp
  have hla : (hl.take n ++ List.replicate (Q3 n - n) (0 : Int)).length = Q3 n := by simp [hll]; omega
  obtain ⟨q0, hq0⟩ : ∃ q, hl.take n ++ List.replicate (Q3 n - n) (0 : Int) = q := ⟨_, rfl⟩
  rw [hq0] at hp0 hla
  generalize Yz hl n = pb at *
  generalize Q3 n = pn at *
  go_enter Tryd.func77, Tryd.ntmps77
  go_wp2_with (first
    | (go_at_call 100; (with_reducible refine (HP _).mono ?_); rintro e w1 ⟨rfl, rfl⟩)
    | (with_reducible refine Uz 17 ?_; refine Kz rfl 23 5 _ _ rfl Tryd.underlying23 .u8 (by kernel_rfl) (by kernel_rfl) (by kernel_rfl) pn pn rfl rfl (Nat.le_refl _) (by omega) ?_; intro w2 A2 s2 b2; have hr2 := hr.below b2; have hT2 := hT.below b2; have hA2 : ∀ q, q < n -> w2.cell? ⟨Bh, q, none⟩ = some (.int .u8 (Qa hl q)) := fun q hq => by rw [b2.cell (World.block_lt_of_cell? _ _ (hA q hq))]; exact hA q hq)
    | (with_reducible refine Uz 20 ?_; refine KA rfl _ _ _ _ rfl 5 Tryd.underlying23 (by kernel_rfl) w1.heap.size Bh _ _ pn n rfl rfl .u8 _ hl A2 hA2 (by simp) hll (by omega) ?_; rw [hrd, hq0]; intro A3; have c3 := A3.cell (k := n) (by omega); have f3 := A3.free (k := n) (by omega)))
  have hs2 := b2.size
  have hrA : QL ((w2.setRow w1.heap.size (q0.map (Value.int .u8)).toArray).setCell ⟨w1.heap.size, n, none⟩ (.int .u8 128)) B st := hr2.but (Xx (YV _ _ _) _ _) (by simp; omega)
  have hTA : X1 ((w2.setRow w1.heap.size (q0.map (Value.int .u8)).toArray).setCell ⟨w1.heap.size, n, none⟩ (.int .u8 128)) := hT2.but (Xx (YV _ _ _) _ _) (by have := hT.lt.1; omega) (by have := hT.lt.2; omega)
  have hgA : w1.grownBy ((w2.setRow w1.heap.size (q0.map (Value.int .u8)).toArray).setCell ⟨w1.heap.size, n, none⟩ (.int .u8 128)) (some B) := Uq ((ZO b2 (Nat.le_refl _) _).setCell (Nat.le_refl _) _) B
  have A4 := A3.set n 128
  rw [hp0] at A4
  generalize (w2.setRow w1.heap.size (q0.map (Value.int .u8)).toArray).setCell ⟨w1.heap.size, n, none⟩ (.int .u8 128) = w4 at *
  clear hr2 hT2 hA2 A2 A3 c3 f3 hp0 hla hrd hq0 hwd HP
  go_loopw [28] (fun i wr => ∃ (k : Nat), k <= 8 /\ i = .int .i64 k /\ QL wr B st /\ X1 wr /\ ZA .u8 wr w1.heap.size (Uw pb tot k) /\ w1.grownBy wr (some B)) (fun i _ => 8 - (intOf i).toNat)
  case atStart => exact ⟨0, by omega, rfl, hrA, hTA, A4, hgA⟩
  case round =>
    clear hrA hTA A4 hgA
    obtain ⟨k, hk, rfl, hr4, hT4, A4, hg4⟩ := hrel
    have hl4 := Hg pb tot k
    by_cases hlt : k < 8
    . have hnx : Uw pb tot (k + 1) = (Uw pb tot k).set (pn - 1 - k) (tot * 8 / 2 ^ (8 * k) % 256) := by rw [<- hpl]; rfl
      generalize Uw pb tot k = ps at *
      obtain ⟨j, e1, ej⟩ : ∃ j : Nat, (pn : Int) - 1 - (k : Int) = (j : Int) /\ pn - 1 - k = j := ⟨pn - 1 - k, by omega, rfl⟩
      rw [ej] at hnx
      have hj : j < pn := by omega
      have hjI : (j : Int) < pn := by omega
      have cj := A4.cell (k := j) (by omega)
      have fj := A4.free (k := j) (by omega)
      replace hnx := Lib.hid hnx
      clear ej
      go_wp2
      refine ⟨⟨k + 1, by omega, by go_num, hr4.but (Xx (World.grownBy.refl wr (some w1.heap.size)) j _) (by simp; omega), hT4.but (Xx (World.grownBy.refl wr (some w1.heap.size)) j _) (by have := hT.lt.1; omega) (by have := hT.lt.2; omega), ?_, ?_⟩, by simp only [intOf]; omega⟩
      . rw [hnx.out]
        exact A4.set j _
      . exact Qac hg4 _ _ (Nat.le_refl _)
    . obtain rfl : k = 8 := by omega
      have hwd := hr4.width
      have hpsb := Ja hpb tot 8
      generalize hps : Uw pb tot 8 = ps at *
      replace hps := Lib.hid hps
      have HBS := fun W => YK 64 W (by omega)
      obtain ⟨nb, hnb⟩ : ∃ nb, pn / 128 = nb := ⟨_, rfl⟩
      have hpnb : pn = nb * 128 := by omega
      have hps0 : ps.length = pn := by rw [hl4, hpl]
      clear hl4
      replace hnb := Lib.hid hnb
      replace hpnb := Lib.hid hpnb
      go_wp2_with (first
        | (go_at_call 75; (with_reducible refine (HBS _).mono ?_); rintro e w9 ⟨rfl, rfl⟩))
      go_loopw [6] (fun v wr => ∃ (k m o' : Nat), k <= nb /\ m = pn - k * 128 /\ (0 < m -> o' = k * 128) /\ v = .slice (some ⟨w1.heap.size, o', none⟩) m m /\ QL wr B (QR st ps k) /\ X1 wr /\ ZA .u8 wr w1.heap.size ps /\ w1.grownBy wr (some B)) (fun v _ => match v with | .slice _ n _ => n | _ => 0)
      case atStart => exact ⟨0, pn, 0, by omega, by omega, fun _ => by omega, rfl, hr4, hT4, A4, hg4⟩
      case round =>
        clear hr4 hT4 A4 hg4 hwd
        obtain ⟨k, m, o', hk, hm, ho', rfl, hr4, hT4, A4, hg4⟩ := hrel
        have hpn2 := hpnb.out
        by_cases hlt : k < nb
        . obtain rfl : o' = k * 128 := ho' (by omega)
          clear ho'
          have hmI : (0 : Int) < (m : Int) := by omega
          have hmB : (128 : Int) <= (m : Int) := by omega
          have hlen : ((ps.drop (k * 128)).take 128).length = 128 := by simp; omega
          have hv : VY .u8 wr (.slice (some ⟨w1.heap.size, k * 128, none⟩) 128 m) ((ps.drop (k * 128)).take 128) := by
            refine ⟨some ⟨w1.heap.size, k * 128, none⟩, m, by rw [hlen], by omega, by unfold maxLen; omega, fun q hq => ⟨_, _, rfl, ?_⟩, by simp⟩
            rw [hlen] at hq
            have hcq := A4.cell (k := k * 128 + q) (by omega)
            rw [hcq]
            simp [Qa, hq]
          have hvb : Qb ((ps.drop (k * 128)).take 128) := fun x hx => hpsb x (List.mem_of_mem_drop (List.mem_of_mem_take hx))
          have hnx : QR st ps (k + 1) = ZS (QR st ps k) ((ps.drop (k * 128)).take 128) := rfl
          generalize (ps.drop (k * 128)).take 128 = zs at *
          generalize QR st ps k = s1 at *
          have HT := GU wr B s1 hr4 hT4 hs hc _ zs hv hvb hlen
          replace hnx := Lib.hid hnx
          replace hm := Lib.hid hm
          clear hpn2
          go_wp2_with (first
            | (go_at_call 76; (with_reducible refine HT.mono ?_); rintro e w9 ⟨⟨v9, rfl⟩, hr9, hg9⟩))
          have hm2 := hm.out
          have hpn3 := hpnb.out
          have hne : B ≠ w1.heap.size := by omega
          have hT9 := hT4.but hg9 hs hc
          have A9 := UU A4 hg9 (by simpa using fun e => hne e.symm)
          have hg10 := Vj hg4 hg9
          by_cases e : m = 128
          . rw [if_pos e]
            refine ⟨⟨k + 1, m - 128, k * 128, by omega, by omega, fun h => by omega, rfl, ?_, hT9, A9, hg10⟩, by show m - 128 < m; omega⟩
            rw [hnx.out]; exact hr9
          . rw [if_neg e]
            refine ⟨⟨k + 1, m - 128, k * 128 + 128, by omega, by omega, fun h => by omega, rfl, ?_, hT9, A9, hg10⟩, by show m - 128 < m; omega⟩
            rw [hnx.out]; exact hr9
        . obtain rfl : k = nb := by omega
          have hm0 : m = 0 := by omega
          subst hm0
          clear hm hpn2
          go_wp2
          refine bodyPost_end (results_none rfl _ _ _) rfl ?_
          rw [hnb.out, hps.out]
          exact ⟨⟨_, rfl⟩, hr4, hg4⟩
theorem Eh {a b : List Int} (ha : ∀ x ∈ a, 0 <= x /\ x <= 255) (hb : ∀ x ∈ b, 0 <= x /\ x <= 255) : Qb (a ++ b) := fun x hx => (List.mem_append.1 hx).elim (ha x) (hb x)
/-- A slice of slices of bytes. -/
def RdP (w : World) (v : Value) (ps : List (Value × List Int)) : Prop :=
  ∃ a cap, v = .slice a ps.length cap /\ (ps.length <= cap /\ cap <= maxLen) /\ (∀ k (hk : k < ps.length), ∃ x o, a = some ⟨x, o, none⟩ /\ w.cell? ⟨x, o + k, none⟩ = some (ps[k]'hk).1) /\ ∀ p ∈ ps, VY .u8 w p.1 p.2 /\ Qb p.2
/-- QK bytes of so many parts. -/
def Ya (ps : List (Value × List Int)) : List Int := (ps.map (·.2)).flatten
theorem JV {ps : List (Value × List Int)} {i : Nat} (h : i < ps.length) : Ya (ps.take (i + 1)) = Ya (ps.take i) ++ (ps[i]'h).2 := by
  have e : ps.take (i + 1) = ps.take i ++ [ps[i]'h] := by rw [List.take_add_one, List.getElem?_eq_getElem h]; rfl
  rw [e]
  unfold Ya
  rw [List.map_append, List.flatten_append]
  simp only [List.map_cons, List.map_nil, List.flatten_cons, List.flatten_nil, List.append_nil]
theorem Gw (ps : List (Value × List Int)) (i : Nat) : (Ya (ps.take i)).length <= (Ya ps).length := by
  have h : Ya ps = Ya (ps.take i) ++ Ya (ps.drop i) := by
    rw [Ya, Ya, Ya, <- List.flatten_append, <- List.map_append, List.take_append_drop]
  rw [h, List.length_append]
  omega
theorem Kw {ps : List (Value × List Int)} (h : ∀ p ∈ ps, Qb p.2) : Qb (Ya ps) := fun x hx => by
  obtain ⟨l, hl, hxl⟩ := List.mem_flatten.1 hx
  obtain ⟨p, hp, rfl⟩ := List.mem_map.1 hl
  exact h p hp x hxl
theorem Qbt {w : World} {base e n g cap : Nat} {xs : List Value} (h : w.ownsRow base e 1 (.slice (some ⟨g, 0, none⟩) n cap) n xs) : w.ownsRow base e 1 (.slice (some ⟨g, 0, none⟩) 0 cap) 0 [] := by
  obtain ⟨-, h2⟩ := h
  rcases h2 with ⟨h3, -⟩ | ⟨g', cap', cur, e', hb, hh, hn, hm, hs, ht⟩
  . cases h3
  . cases e'
    exact ⟨rfl, .inr ⟨g, cap, cur, rfl, hb, hh, Nat.zero_le _, hm, hs, by simp⟩⟩
theorem QbY {a b c : World} {B g : Nat} (h : a.grownBy b (some B)) (k : b.grownBy c (some g)) (hg : a.heap.size <= g) : a.grownBy c (some B) :=
  ⟨k.os.trans h.os, k.tape.trans h.tape, k.output.trans h.output, Nat.le_trans h.size k.size, fun i hi hne => (k.block i (Nat.lt_of_lt_of_le hi h.size) (by simp; omega)).trans (h.block i hi hne)⟩
theorem VY.cut {w : World} {x o n c cap : Nat} {zs : List Int} (h : VY .u8 w (.slice (some ⟨x, o, none⟩) n cap) zs) (hc : c <= zs.length) (q : Option Addr) (hq : c = cap \/ q = some ⟨x, o + c, none⟩) (hq2 : c = cap -> ∃ y, q = some y) : VY .u8 w (.slice q (n - c) (cap - c)) (zs.drop c) := by
  obtain ⟨a, cap', e, h1, h2, h3, h4⟩ := h
  cases e
  refine ⟨q, cap - c, by simp, by simp; omega, by omega, fun k hk => ?_, fun e => ?_⟩
  . have hk' : c + k < zs.length := by simp at hk; omega
    obtain ⟨x', o', e', hc'⟩ := h3 (c + k) hk'
    cases e'
    rcases hq with rfl | rfl
    . omega
    . exact ⟨x, o + c, rfl, by rw [Nat.add_assoc, hc', QcF]⟩
  . subst e
    rcases hq with hq | hq
    . omega
    . cases hq
theorem Yd (st D E : List Int) : ∀ k, k * 128 <= D.length -> QR st (D ++ E) k = QR st D k
  | 0, _ => rfl
  | k + 1, h => by
    show ZS (QR st (D ++ E) k) (((D ++ E).drop (k * 128)).take 128) = ZS (QR st D k) ((D.drop (k * 128)).take 128)
    rw [Yd st D E k (by omega), List.drop_append_of_le_length (by omega), List.take_append_of_le_length (by simp; omega)]
/-- The state and what is held behind so many bytes. -/
def Yf (st D : List Int) : List Int := QR st D (D.length / 128)
def Q5 (D : List Int) : List Int := D.drop (D.length / 128 * 128)
theorem Jo (D : List Int) : (Q5 D).length = D.length % 128 := by simp [Q5]; omega
theorem F2 (st D E : List Int) (h : D.length % 128 + E.length < 128) : Yf st (D ++ E) = Yf st D /\ Q5 (D ++ E) = Q5 D ++ E := by
  have e : (D ++ E).length / 128 = D.length / 128 := by rw [List.length_append]; omega
  unfold Yf Q5
  rw [e]
  exact ⟨Yd st D E _ (by omega), List.drop_append_of_le_length (by omega)⟩
theorem HI (st D E : List Int) (h : D.length % 128 + E.length = 128) : Yf st (D ++ E) = ZS (Yf st D) (Q5 D ++ E) /\ Q5 (D ++ E) = [] := by
  have e : (D ++ E).length / 128 = D.length / 128 + 1 := by rw [List.length_append]; omega
  unfold Yf Q5
  rw [e]
  constructor
  . show ZS (QR st (D ++ E) (D.length / 128)) (((D ++ E).drop (D.length / 128 * 128)).take 128) = _
    rw [Yd st D E _ (by omega), List.drop_append_of_le_length (by omega), List.take_of_length_le (by simp; omega)]
  . rw [List.drop_eq_nil_iff, List.length_append]; omega
theorem QdG : ∃ i, Tryd.prog.info? 5 = some i /\ i.zero = some (.int .u8 0) /\ i.size = 1 /\ i.bytes = 1 := by
  have h : (Tryd.prog.info? 5).map (fun i => (i.zero, i.size, i.bytes)) = some (some (.int .u8 0), 1, 1) := by kernel_rfl
  obtain ⟨i, hi, hz⟩ := Option.map_eq_some_iff.1 h
  simp only [Prod.mk.injEq] at hz
  exact ⟨i, hi, hz.1, hz.2.1, hz.2.2⟩
set_option maxHeartbeats 4000000 in
theorem Qec (w0 w : World) (hb0 : Below w0.heap.size w0 w) (B : Nat) (st : List Int) (hr : QL w B st) (hBn : w0.heap.size <= B) (hT : X1 w0) (v : Value) (ps : List (Value × List Int)) (hp : RdP w0 v ps) (hlen : (Ya ps).length < 1099511627776) :
    Calls Tryd.prog 48 #[.pointer (some ⟨B, 0, none⟩), v] w fun e w' => (∃ v, e = .returned v) /\ QL w' B (QR (Yf st (Ya ps)) (Uw (Yz (Q5 (Ya ps)) ((Ya ps).length % 128)) ((Ya ps).length : Int) 8) (Q3 ((Ya ps).length % 128) / 128)) /\ w.grownBy w' (some B) := by
  obtain ⟨j0, hj, hy0, hy1, hy2⟩ := QdG
  obtain ⟨a, cap, rfl, ⟨hpc, hcm⟩, hcell, hrd⟩ := hp
  have hpl : (ps.length : Int) <= 9223372036854775807 := by unfold maxLen at hcm; omega
  clear hpc hcm
  have hB := hr.lt
  have hwd := hr.width
  have hs0 := hb0.size
  replace hcell := Lib.hid hcell
  replace hrd := Lib.hid hrd
  have HBS := fun W => YK 64 W (by omega)
  go_enter Tryd.func48, Tryd.ntmps48
  go_wp2_with (first
    | (go_at_call 75; (with_reducible refine (HBS _).mono ?_); rintro e w9 ⟨rfl, rfl⟩)
    | (with_reducible refine Uz 16 ?_; refine wpList_make_own _ rfl _ _ 23 rfl w9.heap.size 5 j0 (.int .u8 0) 1 Tryd.underlying23 hj hy0 hy1 .i64 .i64 128 128 rfl rfl (by omega) (by rw [hy2]; omega) (by unfold maxLen; omega) (Nat.le_refl _) ?_; intro w1 hown1 hgr1))
  have hg1 : w9.grownBy w1 (some B) := ⟨hgr1.os, hgr1.tape, hgr1.output, hgr1.size, fun k hk _ => hgr1.block k hk (by simp)⟩
  have hr1 : QL w1 B st := hr.but hgr1 (by simp)
  clear hgr1 hwd
  go_loopw [5, 6, 19] (fun v5 v6 v19 wr => ∃ (i : Nat), i <= ps.length /\ v19 = .int .i64 i /\ v6 = .int .i64 ((Ya (ps.take i)).length : Nat) /\ v5 = .slice (some ⟨w9.heap.size, 0, none⟩) ((Ya (ps.take i)).length % 128) 128 /\ QL wr B (Yf st (Ya (ps.take i))) /\ wr.ownsRow w9.heap.size 5 1 (.slice (some ⟨w9.heap.size, 0, none⟩) ((Ya (ps.take i)).length % 128) 128) ((Ya (ps.take i)).length % 128) ((Q5 (Ya (ps.take i))).map (Value.int .u8)) /\ w9.grownBy wr (some B)) (fun _ _ i _ => ps.length - (intOf i).toNat)
  case atStart =>
    have z0 : Ya (ps.take 0) = [] := by rw [List.take_zero]; rfl
    have z1 : Yf st [] = st := by simp [Yf, QR]
    have z2 : Q5 [] = [] := by simp [Q5]
    refine ⟨0, by omega, rfl, by rw [z0]; rfl, by rw [z0]; rfl, by rw [z0, z1]; exact hr1, by rw [z0, z2]; exact hown1, hg1⟩
  case round =>
    clear hr1 hown1 hg1
    obtain ⟨i, hi, rfl, rfl, rfl, hr1, hown1, hg1⟩ := hrel
    have hB1 : Below w0.heap.size w0 wr := hb0.grown hg1 hs0 (fun k hk => by cases hk; exact hBn)
    by_cases hlt : i < ps.length
    . obtain ⟨x, o, rfl, hc⟩ := hcell.out i hlt
      obtain ⟨hrp, hbz⟩ := hrd.out _ (List.getElem_mem hlt)
      have hct := JV hlt
      have hle := Gw ps (i + 1)
      rw [hct, List.length_append] at hle
      have hltI : (i : Int) < (ps.length : Int) := by omega
      have hltH := Lib.hid hlt
      have hbD : RowKit.Hid (Qb (Ya (ps.take i))) := Lib.hid (Kw fun p hp => (hrd.out p (List.mem_of_mem_take hp)).2)
      generalize (ps[i]'hlt).2 = zs at *
      generalize (ps[i]'hlt).1 = pv at *
      generalize hD : Ya (ps.take i) = D at *
      replace hct := Lib.hid hct
      replace hD := Lib.hid hD
      replace hc : wr.cell? ⟨x, o + i, none⟩ = some pv := by rw [hB1.cell (World.block_lt_of_cell? w0 _ hc)]; exact hc
      obtain ⟨ap, capp, rfl, hp1, hp2, hp3, hp4⟩ := hrp
      have hrp : VY .u8 w0 (.slice ap zs.length capp) zs := ⟨ap, capp, rfl, hp1, hp2, hp3, hp4⟩
      replace hp3 := Lib.hid hp3
      replace hrp := Lib.hid hrp
      have hDn : ((D.length : Nat) : Int) < 1099511627776 := by omega
      have hzn : ((zs.length : Nat) : Int) < 1099511627776 := by omega
      have hDl : (D.length : Int) + (zs.length : Int) < 1099511627776 := by omega
      clear hp4 hle
      go_wp2
      go_loopw [5, 8] (fun v5 v8 wq => ∃ (E rest : List Int), zs = E ++ rest /\ VY .u8 w0 v8 rest /\ v5 = .slice (some ⟨w9.heap.size, 0, none⟩) ((D ++ E).length % 128) 128 /\ QL wq B (Yf st (D ++ E)) /\ wq.ownsRow w9.heap.size 5 1 (.slice (some ⟨w9.heap.size, 0, none⟩) ((D ++ E).length % 128) 128) ((D ++ E).length % 128) ((Q5 (D ++ E)).map (Value.int .u8)) /\ w9.grownBy wq (some B)) (fun _ v8 _ => match v8 with | .slice _ n _ => n | _ => 0)
      case atStart => exact ⟨[], zs, rfl, hrp.out, by rw [List.append_nil], by rw [List.append_nil]; exact hr1, by rw [List.append_nil]; exact hown1, hg1⟩
      case round =>
        clear hr1 hown1 hg1 hB1 hc
        obtain ⟨E, rest, hz, hrq, rfl, hr1, hown1, hg1⟩ := hrel
        have hB1 := hb0.grown hg1 hs0 (fun k hk => by cases hk; exact hBn)
        have hzl : zs.length = E.length + rest.length := by rw [hz, List.length_append]
        have hFl : (D ++ E).length = D.length + E.length := List.length_append
        have hbF' : Qb (D ++ E) := fun x hx => by
          rcases List.mem_append.1 hx with h | h
          . exact hbD.out x h
          . exact hbz x (by rw [hz]; simp [h])
        have hbr : Qb rest := fun x hx => hbz x (by rw [hz]; simp [hx])
        obtain ⟨aq, capq, rfl, q1, q2, q3, q4⟩ := hrq
        have hrq : VY .u8 w0 (.slice aq rest.length capq) rest := ⟨aq, capq, rfl, q1, q2, q3, q4⟩
        replace hrq := Lib.hid hrq
        replace q3 := Lib.hid q3
        by_cases hr0 : 0 < rest.length
        . obtain ⟨y, oy, rfl, -⟩ := q3.out 0 hr0
          have hn := Nat.mod_lt (D ++ E).length (show 0 < 128 by decide)
          have hhl := Jo (D ++ E)
          have hrI : (0 : Int) < (rest.length : Int) := by omega
          replace hz := Lib.hid hz
          replace hzl := Lib.hid hzl
          replace hFl := Lib.hid hFl
          generalize hF : D ++ E = F at *
          have hbF := Lib.hid hbF'
          clear hbF'
          replace hF := Lib.hid hF
          generalize hnn : F.length % 128 = n at *
          replace hnn := Lib.hid hnn
          obtain ⟨c, hcd⟩ : ∃ c, c = if n + rest.length < 128 then rest.length else 128 - n := ⟨_, rfl⟩
          have hc0 : 0 < c /\ c <= rest.length /\ n + c <= 128 /\ (n + c < 128 -> c = rest.length) := by split at hcd <;> omega
          have hmin : min ((128 : Int) - (n : Int)) (rest.length : Int) = (c : Int) := by split at hcd <;> omega
          obtain ⟨hc1, hc2, hc3, hc4⟩ := hc0
          have hcI : (c : Int) <= (rest.length : Int) := by omega
          have hcI0 : (0 : Int) <= (c : Int) := by omega
          have hnw : ((rest.take c).map (Value.int .u8)).length = c * 1 := by simp [hc2]
          have hcw : ∀ j u, ((rest.take c).map (Value.int .u8))[j]? = some u -> wr.cell? ((⟨y, oy, none⟩ : Addr).add j) = some u := fun j u hj => by
            have hjc : j < c := by
              have := (List.getElem?_eq_some_iff.1 hj).1
              rw [hnw] at this
              omega
            obtain ⟨y', oy', e, hcy⟩ := q3.out j (by omega)
            cases e
            rw [Addr.add_lit, hB1.cell (World.block_lt_of_cell? w0 _ hcy), hcy, <- hj]
            simp [hjc, Qa, show j < rest.length by omega]
          have hone : ∀ u ∈ (rest.take c).map (Value.int .u8), u.oneCell' = true := by
            intro u hu
            obtain ⟨z, -, rfl⟩ := List.mem_map.1 hu
            rfl
          replace hnw := Lib.hid hnw
          replace hcw := Lib.hid hcw
          replace hone := Lib.hid hone
          replace hcd := Lib.hid hcd
          replace hc4 := Lib.hid hc4
          clear q4 hzn hDn hDl
          have hG : D ++ (E ++ rest.take c) = F ++ rest.take c := by rw [<- List.append_assoc, hF.out]
          have hzc : zs = (E ++ rest.take c) ++ rest.drop c := by rw [List.append_assoc, List.take_append_drop]; exact hz.out
          have hXl : (rest.take c).length = c := by simp [hc2]
          have hBB : B ≠ w9.heap.size := by omega
          have hgB2 : ∀ w2, wr.grownBy w2 (some w9.heap.size) -> w9.grownBy w2 (some B) := fun w2 hg2 => QbY hg1 hg2 (Nat.le_refl _)
          have hTt := hT.lt
          have hTsq : 1 ≠ B := by omega
          have hTcu : 3 ≠ B := by omega
          have hcut : VY .u8 w0 (.slice (if capq = c then some ⟨y, oy, none⟩ else some ⟨y, oy + c, none⟩) (rest.length - c) (capq - c)) (rest.drop c) := by
            by_cases e : capq = c
            . rw [if_pos e]; exact VY.cut hrq.out hc2 (some ⟨y, oy, none⟩) (.inl e.symm) (fun _ => ⟨_, rfl⟩)
            . rw [if_neg e]; exact VY.cut hrq.out hc2 (some ⟨y, oy + c, none⟩) (.inr rfl) (fun _ => ⟨_, rfl⟩)
          replace hG := Lib.hid hG
          replace hzc := Lib.hid hzc
          replace hXl := Lib.hid hXl
          replace hgB2 := Lib.hid hgB2
          replace hcut := Lib.hid hcut
          clear hz
          by_cases hful : n + c = 128
          . have hfI : ((n : Nat) : Int) + ((c : Nat) : Int) = 128 := by omega
            have hff := HI st F (rest.take c) (by rw [hnn.out, hXl.out, hful])
            have hvl : (Q5 F ++ rest.take c).length = 128 := by rw [List.length_append, hhl, hXl.out, hful]
            have hGl : (F ++ rest.take c).length % 128 = 0 := by rw [List.length_append, hXl.out]; have := hnn.out; omega
            have hvb : Qb (Q5 F ++ rest.take c) := Eh (fun x hx => ?hb1) (fun x hx => hbr x (List.mem_of_mem_take hx))
            case hb1 => exact hbF.out x (List.mem_of_mem_drop hx)
            obtain ⟨hff1, hff2⟩ := hff
            replace hff1 := Lib.hid hff1
            replace hff2 := Lib.hid hff2
            replace hvb := Lib.hid hvb
            replace hGl := Lib.hid hGl
            replace hvl := Lib.hid hvl
            go_wp2_with (first
              | (with_reducible refine Uz 41 ?_; refine wpList_append_fits _ rfl _ _ 23 rfl w9.heap.size 5 j0 1 Tryd.underlying23 hj hy1 w9.heap.size n 128 _ rfl hown1 ⟨y, oy, none⟩ c capq _ rfl hnw.out hcw.out hone.out hc3 ?_; intro w2 hown2 hg2; rw [hful, <- List.map_append] at hown2; have hr2 := hr1.but hg2 (by simpa using hBB); have hgg2 := hgB2.out _ hg2; have hT2 : X1 w2 := hT.below (hb0.grown hgg2 hs0 (fun k hk => by cases hk; exact hBn)); have hv2 := VY.of_own hown2; have HT := GU w2 B _ hr2 hT2 hTsq hTcu _ _ hv2 hvb.out hvl.out)
              | (go_at_call 76; (with_reducible refine HT.mono ?_); rintro e w3 ⟨⟨v9, rfl⟩, hr3, hg3⟩; have hown3 := Qbt (hown2.kept hg3 (.inr (by simpa [Value.ownBlock] using fun e => hBB e.symm))); have hgg3 := Vj hgg2 hg3))
            refine ⟨⟨E ++ rest.take c, rest.drop c, hzc.out, hcut.out, by rw [hG.out, hGl.out], ?_, ?_, hgg3⟩, by show rest.length - c < rest.length; omega⟩
            . rw [hG.out, hff1.out]; exact hr3
            . rw [hG.out, hff2.out, hGl.out]; exact hown3
          . have hneI : ¬ (((n : Nat) : Int) + ((c : Nat) : Int) = 128) := by omega
            have hff := F2 st F (rest.take c) (by rw [hnn.out, hXl.out]; omega)
            have hGl : (F ++ rest.take c).length % 128 = n + c := by rw [List.length_append, hXl.out]; have := hnn.out; omega
            obtain ⟨hff1, hff2⟩ := hff
            replace hff1 := Lib.hid hff1
            replace hff2 := Lib.hid hff2
            replace hGl := Lib.hid hGl
            go_wp2_with (first
              | (with_reducible refine Uz 41 ?_; refine wpList_append_fits _ rfl _ _ 23 rfl w9.heap.size 5 j0 1 Tryd.underlying23 hj hy1 w9.heap.size n 128 _ rfl hown1 ⟨y, oy, none⟩ c capq _ rfl hnw.out hcw.out hone.out hc3 ?_; intro w2 hown2 hg2; rw [<- List.map_append] at hown2; have hr2 := hr1.but hg2 (by simpa using hBB); have hgg2 := hgB2.out _ hg2))
            refine ⟨⟨E ++ rest.take c, rest.drop c, hzc.out, hcut.out, by rw [hG.out, hGl.out], ?_, ?_, hgg2⟩, by show rest.length - c < rest.length; omega⟩
            . rw [hG.out, hff1.out]; exact hr2
            . rw [hG.out, hff2.out, hGl.out]; exact hown2
        . have hre : rest = [] := List.length_eq_zero_iff.1 (by omega)
          subst hre
          rw [List.append_nil] at hz
          subst hz
          clear hrq q3
          go_wp2
          have hlt2 := hltH.out
          refine ⟨⟨i + 1, by omega, by go_num, ?_, by rw [hct.out], by rw [hct.out]; exact hr1, by rw [hct.out]; exact hown1, hg1⟩, by simp only [intOf]; omega⟩
          rw [hct.out, List.length_append, Int.natCast_add]
    . obtain rfl : i = ps.length := by omega
      rw [List.take_length] at hr1 hown1
      rw [List.take_length]
      generalize hD : Ya ps = D at *
      have hhl := Jo D
      have hbD : Qb (Q5 D) := fun x hx => by
        have := Kw fun p hp => (hrd.out p hp).2
        rw [hD] at this
        exact this x (List.mem_of_mem_drop hx)
      have hT1 : X1 wr := hT.below hB1
      have hTt := hT.lt
      have hmod : D.length % 128 < 128 := Nat.mod_lt _ (by decide)
      have hcl : ∀ q, q < D.length % 128 -> wr.cell? ⟨w9.heap.size, q, none⟩ = some (.int .u8 (Qa (Q5 D) q)) := fun q hq => by
        have h := VY.of_own hown1
        obtain ⟨a', cap', e', h1, h2, h3, -⟩ := h
        obtain ⟨x', o', e2, hc2⟩ := h3 q (by rw [hhl]; exact hq)
        simp only [Value.slice.injEq] at e'
        obtain ⟨ea, -, -⟩ := e'
        rw [<- ea] at e2
        cases e2
        rwa [Nat.zero_add] at hc2
      have HL := QbT wr B _ hr1 hT1 (by omega) (by omega) w9.heap.size (Q5 D) (D.length % 128) hcl hhl hmod hbD (D.length : Int) (by omega) (by omega)
      clear hcl hown1
      go_wp2_with (first
        | (go_at_call 77; (with_reducible refine HL.mono ?_); rintro e w3 ⟨⟨v9, rfl⟩, hr3, hg3⟩))
      refine bodyPost_end (results_none rfl _ _ _) rfl ?_
      rw [hD]
      exact ⟨⟨_, rfl⟩, hr3, Vj hg1 hg3⟩
theorem Qas {P : Program} {ops : Array Oper} {Q : Exit -> Act -> World -> Prop} {l : List Oper} {a : Act} {w : World} (h : ∀ W, W = w -> wpList P ops Q l a W) : wpList P ops Q l a w := h w rfl
/-- The sum of bytes. -/
def XG (D : List Int) : List Int := X0 (QR (Yf Yc D) (Uw (Yz (Q5 D) (D.length % 128)) (D.length : Int) 8) (Q3 (D.length % 128) / 128))
theorem GK : (Tryd.prog.info? 27).bind (·.zero) = some (.agg (Array.replicate 64 (Value.int .u8 0))) := by kernel_rfl
theorem Jn : (Tryd.prog.info? 27).map (·.size) = some 64 := by kernel_rfl
theorem Eu : Tryd.prog.underlying 27 = some (.array 64 5) := by kernel_rfl
theorem Dt : ∀ x ∈ List.replicate 8 (0 : Int), Xl x := fun x hx => by
  obtain ⟨-, rfl⟩ := List.mem_replicate.1 hx
  unfold Xl; omega
theorem Qa0 {w : World} {B : Nat} {cur : Array Value} {t : TypeId} (h : w.heap[B]? = some (.cells cur t (0, 0))) : QL (w.setRow B #[.int .i64 64, .int .i64 80, .int .u64 0, .int .u64 0, .int .u64 0, .int .u64 0, .int .u64 0, .int .u64 0, .int .u64 0, .int .u64 0, .func (.func 42) #[] #[], .func (.func 44) #[] #[], .func (.func 45) #[] #[], .func (.func 46) #[] #[]]) B (List.replicate 8 0) :=
  ⟨rfl, Dt, t, setRow_heap _ _ _ _ _ _ h⟩
set_option maxHeartbeats 4000000 in
theorem Qc1 (w : World) (hT : X1 w) (v : Value) (ps : List (Value × List Int)) (hp : RdP w v ps) (hlen : (Ya ps).length < 1099511627776) :
    Calls Tryd.prog 21 #[v] w fun e w' => e = .returned (Q2 .u8 (XG (Ya ps))) /\ Below w.heap.size w w' := by
  go_enter Tryd.func21, Tryd.ntmps21
  have hTt := hT.lt
  go_wp2_with (first
    | (with_reducible refine Uz 2 ?_; refine Xn rfl 27 rfl .u8 64 GK ?_; intro w1 A1 s1 b1)
    | (with_reducible refine Dm (o := ⟨_, .store 82 _ _, _, _, _, _⟩) ?_; refine wpList_store_row rfl 82 _ _ rfl w1.heap.size _ rfl rfl 82 _ (heap_alloc_new _ _) (by kernel_rfl) (by simp) (by simp [Value.oneCell']) ?_; refine Qas fun w3 hw3 => ?_; have hr3 : QL w3 w1.heap.size (List.replicate 8 0) := (by rw [hw3]; exact Qa0 (heap_alloc_new _ _)); have b3 : Below w1.heap.size w1 w3 := (by rw [hw3]; exact ZO ((Below.refl _ _).alloc (Nat.le_refl _) _) (Nat.le_refl _) _); clear hw3; have bb3 := Zk b1 b3; have hT3 := hT.below bb3; replace A1 := A1.below b3; have s3 := hr3.lt)
    | (go_at_call 47; (with_reducible refine (Qaj w3 w1.heap.size _ hr3 hT3 (by omega) (by omega)).mono ?_); rintro e w4 ⟨⟨v4, rfl⟩, hr4, hg4⟩; have bb4 : Below w.heap.size w w4 := bb3.grown hg4 bb3.size (fun k hk => by cases hk; exact b1.size); replace A1 := UU A1 hg4 (by simp; omega))
    | (go_at_call 48; (with_reducible refine (Qec w w4 bb4 w1.heap.size _ hr4 b1.size hT v ps hp hlen).mono ?_); rintro e w5 ⟨⟨v5, rfl⟩, hr5, hg5⟩; have bb5 : Below w.heap.size w w5 := bb4.grown hg5 bb4.size (fun k hk => by cases hk; exact b1.size); replace A1 := UU A1 hg5 (by simp; omega))
    | (with_reducible refine Uz 4 ?_; refine Xn rfl 27 rfl .u8 64 GK ?_; intro w6 A6 s6 b6; have bb6 := Zk bb5 b6; replace A1 := A1.below b6; have hr6 := hr5.below b6; have hz6 := A1.lt; have hz7 := hr5.lt; have hz8 := b1.size; have hz9 := bb5.size)
    | (go_at_call 49; (with_reducible refine (QaD w6 w1.heap.size w5.heap.size _ _ hr6 A6 (by simp) (by omega)).mono ?_); rintro e w7 ⟨⟨v7, rfl⟩, A7, hg7⟩; have bb7 : Below w.heap.size w w7 := bb6.grown hg7 bb6.size (fun k hk => by cases hk; exact bb5.size); replace A1 := UU A1 hg7 (by simp; omega))
    | (with_reducible refine Uz 11 ?_; refine Vm rfl 27 _ rfl 64 5 Eu Jn w5.heap.size rfl .u8 _ A7 (by simp [X0]) ?_)
    | (with_reducible refine Dm (o := ⟨_, .store 27 _ _, _, _, _, _⟩) ?_; refine Zs rfl 27 _ _ rfl 64 Jn w.heap.size rfl .u8 _ _ rfl A1 (by simp) (by simp [X0]) ?_; intro A9))
  refine bodyPost_ret (Y4 rfl _ 64 5 Eu Jn w.heap.size rfl .u8 _ A9 (by simp [X0])) rfl ?_
  exact ⟨rfl, ZO bb7 (Nat.le_refl _) _⟩
/-- The program's tables, sha's too. -/
def gS : List Qq := gT ++ [fG 1 (Xc.map (Value.int .u64)), fG 3 (Z8.map (Value.int .u64))]
theorem QbZ (L : List Nat) (w : World) (h : Hs gS L w) : Hs gT L w := h.pre
theorem Qfc {L : List Nat} {w : World} (h : Hs gS L w) : X1 w := by
  have h1 := (h.get (i := 3) rfl : (fG 1 (Xc.map (Value.int .u64))).h L w)
  have h2 := (h.get (i := 4) rfl : (fG 3 (Z8.map (Value.int .u64))).h L w)
  have hl1 : Xc.length = 8 := by decide
  have hl2 : Z8.length = 80 := by decide
  refine ⟨fun k hk => ?_, fun k hk => ?_⟩
  . have := h1.2.2 k (.int .u64 (Qa Xc k)) (by rw [List.getElem?_map]; unfold Qa; rw [List.getElem?_eq_getElem (by omega)]; rfl)
    rwa [Nat.zero_add] at this
  . have := h2.2.2 k (.int .u64 (Qa Z8 k)) (by rw [List.getElem?_map]; unfold Qa; rw [List.getElem?_eq_getElem (by omega)]; rfl)
    rwa [Nat.zero_add] at this
theorem PV.up {P : Program} {G G' : List Qq} {F : FuncId} {args : List SV} {v : SV} (h : PV P G F args v) (hg : ∀ L w, Hs G' L w -> Hs G L w) : PV P G' F args v := ⟨h.fn, h.wa, h.wv, fun w L hL hG => h.h w L hL (hg L w hG)⟩
/-- A slice of numbers, read. -/
theorem KU {w : World} {B o n c : Nat} {zs : List Int} {K : IntKind} (hr : w.rangeAt B o (zs.map (Value.int K))) (hl : zs.length = n) (hn : n <= c) (hc : c <= maxLen) : VY K w (.slice (some ⟨B, o, none⟩) n c) zs := by
  refine ⟨_, c, by rw [hl], by omega, hc, fun k hk => ⟨B, o, rfl, ?_⟩, fun h => by cases h⟩
  exact hr k _ (by rw [List.getElem?_map]; unfold Qa; rw [List.getElem?_eq_getElem hk]; rfl)
theorem Qet (K : IntKind) : ∀ zs : List Int, (zs.map fun z => [Value.int K z]).flatten = zs.map (Value.int K)
  | [] => rfl
  | z :: l => by simp only [List.map_cons, List.flatten_cons, List.singleton_append, Qet K l]
theorem Qdk {L : List Nat} {w : World} {v : Value} {zs : List Int} {K : IntKind} (h : GF 1 L w v (zs.map fun z => [Value.int K z])) (hn : ∀ a n c, v = .slice a n c -> a = none -> c = 0) : VY K w v zs := by
  obtain ⟨_, _, a, cap, rfl, h2, h3, h4, h5⟩ := h
  rw [List.length_map] at h2 ⊢
  refine ⟨a, cap, rfl, h2, h3, fun k hk => ?_, fun e => hn _ _ _ rfl e⟩
  obtain ⟨X, o, rfl, _, hc⟩ := h5 (fun e => by rw [List.map_eq_nil_iff] at e; subst e; simp at hk)
  refine ⟨X, o, rfl, hc k _ ?_⟩
  rw [Qet, List.getElem?_map]; unfold Qa; rw [List.getElem?_eq_getElem hk]; rfl
/-- A slice of slices. -/
theorem FK {w : World} {B : Nat} {ps : List (Value × List Int)} (hb : XZ w B (ps.map (·.1))) (hm : ps.length <= maxLen) (hp : ∀ p ∈ ps, VY .u8 w p.1 p.2 /\ Qb p.2) : RdP w (.slice (some ⟨B, 0, none⟩) ps.length ps.length) ps := by
  refine ⟨_, _, rfl, ⟨Nat.le_refl _, hm⟩, fun k hk => ⟨B, 0, rfl, ?_⟩, hp⟩
  have := hb.range k (ps[k]'hk).1 (by rw [List.getElem?_map, List.getElem?_eq_getElem hk]; rfl)
  rwa [Nat.zero_add] at this ⊢
theorem Ft {w : World} {L : List Nat} (hG : Hs gS L w) {v : Value} {ps : List (Value × List Int)} (hp : RdP w v ps) (hlen : (Ya ps).length < 1099511627776) (hs : (XG (Ya ps)).length = 64) : CX Tryd.prog 21 [v] w [] (fun _ : Unit => .a .u8 (XG (Ya ps)) 64) (fun _ => []) (fun _ => True) := by
  refine Calls.mono (Qc1 w (Qfc hG) v ps hp hlen) fun e w' h => ?_
  exact ⟨_, h.1, ⟨(), by simp only [SV.den]; rfl, trivial, trivial⟩, h.2⟩
theorem Xv (D : List Int) : (XG D).length = 64 := by unfold XG X0; simp
theorem Zm (D : List Int) : Qb (XG D) := by
  intro x hx
  unfold XG X0 at hx
  simp only [List.mem_map] at hx
  obtain ⟨i, _, rfl⟩ := hx
  first | omega | (split <;> omega) | (constructor <;> omega)
/-- A slice of bytes that is read; nil has no room. -/
def fB (v : Value) (zs : List Int) : Qq := ⟨fun L w => GF 1 L w v (zs.map fun z => [Value.int .u8 z]) /\ ∀ a n c, v = .slice a n c -> a = none -> c = 0, fun h hs hl => ⟨h.1.stp hs hl, h.2⟩⟩
theorem fB.rd {L : List Nat} {w : World} {v : Value} {zs : List Int} (h : (fB v zs).h L w) : VY .u8 w v zs := Qdk h.1 h.2
theorem QeG {z : List Int} (hz : Qb z) (hl : z.length = 32) (k j : Nat) : PR Tryd.prog gS 21 [.y k 0 1 1] [(k, [.y j 0 32 32]), (j, [.a .u8 z 32])] (.a .u8 (XG z) 64) := PR.mk' Tryd.func21 rfl rfl rfl fun ρ w hG hm => by
  obtain ⟨b1, -⟩ := hm _ (.head _)
  obtain ⟨b2, -⟩ := hm _ (.tail _ (.head _))
  simp only [Qd, SV.cs, SV.den, List.append_nil] at b1 b2
  have hp := FK (w := w) (B := ρ.b k) (ps := [(.slice (some ⟨ρ.b j, 0, none⟩) 32 32, z)]) b1 (by simp [maxLen]) (fun p hp => by
    simp only [List.mem_singleton] at hp
    subst hp
    exact ⟨KU b2.range hl (by omega) (by simp [maxLen]), hz⟩)
  have e : Ya [(Value.slice (some ⟨ρ.b j, 0, none⟩) 32 32, z)] = z := by simp [Ya]
  have := Ft hG hp (by rw [e, hl]; omega) (Xv _)
  rw [e] at this
  simp only [Qr, SV.den]
  exact this
theorem QeF {z m : List Int} {a : Option Addr} {n c : Nat} (hz : Qb z) (hl : z.length = 32) (hm : Qb m) (hml : m.length < 1000000) (k j : Nat) : PR Tryd.prog (gS ++ [fB (.slice a n c) m]) 21 [.y k 0 2 2] [(k, [.y j 0 32 32, .o a n c]), (j, [.a .u8 z 32])] (.a .u8 (XG (z ++ m)) 64) := PR.mk' Tryd.func21 rfl rfl rfl fun ρ w hG hmm => by
  obtain ⟨b1, -⟩ := hmm _ (.head _)
  obtain ⟨b2, -⟩ := hmm _ (.tail _ (.head _))
  simp only [Qd, SV.cs, SV.den, List.append_nil, List.cons_append, List.nil_append] at b1 b2
  have hr := fB.rd (hG.get (i := 5) rfl)
  have hp := FK (w := w) (B := ρ.b k) (ps := [(.slice (some ⟨ρ.b j, 0, none⟩) 32 32, z), (.slice a n c, m)]) b1 (by simp [maxLen]) (fun p hp => by
    simp only [List.mem_cons, List.not_mem_nil, or_false] at hp
    rcases hp with rfl | rfl
    . exact ⟨KU b2.range hl (by omega) (by simp [maxLen]), hz⟩
    . exact ⟨hr, hm⟩)
  have e : Ya [(Value.slice (some ⟨ρ.b j, 0, none⟩) 32 32, z), (.slice a n c, m)] = z ++ m := by simp [Ya]
  have := Ft hG.pre hp (by rw [e, List.length_append, hl]; omega) (Xv _)
  rw [e] at this
  simp only [Qr, SV.den]
  exact this
theorem QeE {z y m : List Int} {a : Option Addr} {n c : Nat} (hz : Qb z) (hl : z.length = 32) (hy : Qb y) (hyl : y.length = 32) (hm : Qb m) (hml : m.length < 1000000) (k j i : Nat) : PR Tryd.prog (gS ++ [fB (.slice a n c) m]) 21 [.y k 0 3 3] [(k, [.y j 0 32 32, .y i 0 32 32, .o a n c]), (j, [.a .u8 z 32]), (i, [.a .u8 y 32])] (.a .u8 (XG (z ++ (y ++ m))) 64) := PR.mk' Tryd.func21 rfl rfl rfl fun ρ w hG hmm => by
  obtain ⟨b1, -⟩ := hmm _ (.head _)
  obtain ⟨b2, -⟩ := hmm _ (.tail _ (.head _))
  obtain ⟨b3, -⟩ := hmm _ (.tail _ (.tail _ (.head _)))
  simp only [Qd, SV.cs, SV.den, List.append_nil, List.cons_append, List.nil_append] at b1 b2 b3
  have hr := fB.rd (hG.get (i := 5) rfl)
  have hp := FK (w := w) (B := ρ.b k) (ps := [(.slice (some ⟨ρ.b j, 0, none⟩) 32 32, z), (.slice (some ⟨ρ.b i, 0, none⟩) 32 32, y), (.slice a n c, m)]) b1 (by simp [maxLen]) (fun p hp => by
    simp only [List.mem_cons, List.not_mem_nil, or_false] at hp
    rcases hp with rfl | rfl | rfl
    . exact ⟨KU b2.range hl (by omega) (by simp [maxLen]), hz⟩
    . exact ⟨KU b3.range hyl (by omega) (by simp [maxLen]), hy⟩
    . exact ⟨hr, hm⟩)
  have e : Ya [(Value.slice (some ⟨ρ.b j, 0, none⟩) 32 32, z), (.slice (some ⟨ρ.b i, 0, none⟩) 32 32, y), (.slice a n c, m)] = z ++ (y ++ m) := by simp [Ya]
  have := Ft hG.pre hp (by rw [e, List.length_append, List.length_append, hl, hyl]; omega) (Xv _)
  rw [e] at this
  simp only [Qr, SV.den]
  exact this
theorem UF : Tryd.prog.underlying 65 = some (.array 5 32) := by kernel_rfl
theorem Js {W : World} {name : String} {zs : List Int} {g : Nat} (h : Go.Lib.TabIs Tryd.prog W name .u64 zs) (hg : Tryd.prog.globalNamed name = some g) (h0 : 0 < zs.length) : (fG g (zs.map (Value.int .u64))).h [] W := by
  refine ⟨fun h => (by cases h), World.block_lt_of_cell? W _ (h.cell hg 0 h0), fun j v hv => ?_⟩
  rw [List.getElem?_map] at hv
  by_cases hj : j < zs.length
  . rw [List.getElem?_eq_getElem hj] at hv
    have e := Option.some.inj hv
    have := h.cell hg j hj
    rw [Nat.zero_add, this, <- e]
    simp [List.getD, hj]
  . rw [List.getElem?_eq_none (by omega)] at hv
    cases hv
theorem QcE {W : World} {rest : List (String × DataW Unit)} (h : laidMet Tryd.prog (("vouchsafe/curve.base", Rows.laid_vouchsafe_curve_base) :: rest) W) : Go.Lib.TabIs Tryd.prog W "vouchsafe/curve.base" .u64 VO := by
  obtain ⟨ps, ⟨g', t', cs, fuel, p, q, hg', ht', hvar, hd, _, _⟩, _⟩ := h
  have hg : Tryd.prog.globalNamed "vouchsafe/curve.base" = some 0 := by kernel_rfl
  obtain rfl := Option.some.inj (hg.symm.trans hg')
  have ht : (Tryd.prog.globals[0]?).map (·.type) = some 67 := by kernel_rfl
  obtain rfl := Option.some.inj (ht.symm.trans ht')
  obtain ⟨y0, y1, n, hx, hl, h0, h1⟩ := Go.ChangeShapes.trod_struct2 Tryd.underlying67 hd
  have e0 : y0.1 = Go.Lib.tabData .u64 (VO.take 5) := by
    have := congrArg Prod.fst hx
    simp only [Rows.laid_vouchsafe_curve_base, DataW.agg.injEq, List.cons.injEq] at this
    exact this.1.symm
  have e1 : y1.1 = Go.Lib.tabData .u64 (VO.drop 5) := by
    have := congrArg Prod.fst hx
    simp only [Rows.laid_vouchsafe_curve_base, DataW.agg.injEq, List.cons.injEq] at this
    exact this.2.1.symm
  have c0 := Go.Lib.cells_of_tab (zs := VO.take 5) (k := .u64) UF Tryd.underlying32 (by kernel_rfl) (by kernel_rfl) (h0.trans (by rw [<- e0]))
  have c1 := Go.Lib.cells_of_tab (zs := VO.drop 5) (k := .u64) UF Tryd.underlying32 (by kernel_rfl) (by kernel_rfl) (h1.trans (by rw [<- e1]))
  have hc : Tryd.prog.cellsOf 67 = 10 := by kernel_rfl
  have hc5 : Tryd.prog.cellsOf 65 = 5 := by kernel_rfl
  rw [hc] at hl
  simp only [hc5, List.drop_zero] at c0 c1
  have e : cs.toList = VO.map fun z => Value.int .u64 z := by
    rw [<- List.take_append_drop 5 cs.toList, c0]
    rw [List.take_of_length_le (by simp at hl ⊢; omega)] at c1
    rw [c1]
    rfl
  unfold Go.Lib.TabIs
  rw [hvar, <- e]
theorem Qab {W : World} (hL : laidMet Tryd.prog [("vouchsafe/field.rootOfMinusOne", Rows.laid_vouchsafe_field_rootOfMinusOne), ("vouchsafe/curve.d", Rows.laid_vouchsafe_curve_d), ("vouchsafe/curve.base", Rows.laid_vouchsafe_curve_base), ("vouchsafe/sha.cubes", Rows.laid_vouchsafe_sha_cubes), ("vouchsafe/sha.squares", Rows.laid_vouchsafe_sha_squares)] W) : Hs gS [] W := by
  have h1 : Go.Lib.TabIs Tryd.prog W "vouchsafe/field.rootOfMinusOne" .u64 rmL :=
    Go.Lib.tabIs_of_head (g := 4) (t := 65) (e := 32) (n := 5) (by kernel_rfl) (by kernel_rfl) UF (by kernel_rfl) (by kernel_rfl) (by kernel_rfl) hL
  have t1 := laidMet.tail hL
  have h2 : Go.Lib.TabIs Tryd.prog W "vouchsafe/curve.d" .u64 dL :=
    Go.Lib.tabIs_of_head (g := 2) (t := 65) (e := 32) (n := 5) (by kernel_rfl) (by kernel_rfl) UF (by kernel_rfl) (by kernel_rfl) (by kernel_rfl) t1
  have t2 := laidMet.tail t1
  have h3 := QcE t2
  have t3 := laidMet.tail t2
  have h4 : Go.Lib.TabIs Tryd.prog W "vouchsafe/sha.cubes" .u64 Z8 :=
    Go.Lib.tabIs_of_head (g := 3) (t := 122) (e := 32) (n := 80) (by kernel_rfl) (by kernel_rfl) Tryd.underlying122 Tryd.underlying32 (by kernel_rfl) (by kernel_rfl) t3
  have t4 := laidMet.tail t3
  have h5 : Go.Lib.TabIs Tryd.prog W "vouchsafe/sha.squares" .u64 Xc :=
    Go.Lib.tabIs_of_head (g := 1) (t := 76) (e := 32) (n := 8) (by kernel_rfl) (by kernel_rfl) Tryd.underlying76 Tryd.underlying32 (by kernel_rfl) (by kernel_rfl) t4
  have g1 := Js (g := 4) h1 (by kernel_rfl) (by decide)
  have g2 := Js (g := 2) h2 (by kernel_rfl) (by decide)
  have g3 := Js (g := 0) h3 (by kernel_rfl) (by decide)
  have g4 := Js (g := 3) h4 (by kernel_rfl) (by decide)
  have g5 := Js (g := 1) h5 (by kernel_rfl) (by decide)
  exact ⟨g1, g2, g3, g5, g4, trivial⟩
theorem GV {W : World} (hL : laidMetH Tryd.prog Rows.edsigHoldsRow.laid W) : Hs gS [] W := by
  rw [MakeChecks.laidMetH_plain _ _ _ (by kernel_rfl)] at hL
  exact Qab hL
theorem HF : ∀ zs : List Int, (zs.map fun z => [Value.int .u8 z]).flatten = zs.map (Value.int .u8)
  | [] => rfl
  | a :: l => by simp only [List.map_cons, List.flatten_cons, HF l]; rfl
/-- A slice of bytes that came in. -/
theorem Qgf {W : World} {v : Value} {zs : List Int} (h : VY .u8 W v zs) : ∃ a c, v = .slice a zs.length c /\ (fB v zs).h [] W := by
  obtain ⟨a, c, rfl, h1, h2, h3, h4⟩ := h
  refine ⟨a, c, rfl, ⟨Nat.zero_lt_one, fun r hr => by simp only [List.mem_map] at hr; obtain ⟨x, _, rfl⟩ := hr; rfl, a, c, by rw [List.length_map], by rw [List.length_map]; exact h1, h2, h4, fun hne => ?_⟩, fun a' n' c' e he => by cases e; exact h4 he⟩
  have hl : 0 < zs.length := by
    cases zs with
    | nil => exact absurd rfl hne
    | cons _ _ => exact Nat.succ_pos _
  obtain ⟨x, o, rfl, _⟩ := h3 0 hl
  refine ⟨x, o, rfl, fun h => (by cases h), fun j u hu => ?_⟩
  have hf := HF zs
  rw [hf, List.getElem?_map] at hu
  by_cases hj : j < zs.length
  . obtain ⟨x', o', e, hc⟩ := h3 j hj
    cases e
    rw [hc, <- hu, List.getElem?_eq_getElem hj]
    simp [Qa, hj]
  . rw [List.getElem?_eq_none (by omega)] at hu
    cases hu
theorem Qb.take {l : List Int} (h : Qb l) (n : Nat) : Qb (l.take n) := fun x hx => h x (List.mem_of_mem_take hx)
/-- A seed's secret, and its prefix. -/
def Y3 (z : List Int) : List Int := Ed ((XG z).take 32)
def Uv (z : List Int) : List Int := (XG z).drop 32
theorem ZF (z : List Int) : (Y3 z).length = 32 := HX (by rw [List.length_take, Xv]; rfl)
theorem ZV (z : List Int) : Qb (Y3 z) := Ec ((Zm z).take 32)
theorem Vu (z : List Int) : (Uv z).length = 32 := by unfold Uv; rw [List.length_drop, Xv]
theorem FO (z : List Int) : Qb (Uv z) := (Zm z).drop 32
theorem HD {z : List Int} (hz : Qb z) (hl : z.length = 32) : PV Tryd.prog gS 18 [.a .u8 z 32] (.t [.a .u8 (Y3 z) 32, .a .u8 (Uv z) 32]) := by
  have h1 := QeG hz hl 3 0
  have hsl := Xv z
  have htl : ((XG z).take 32).length = 32 := by rw [List.length_take, hsl]; rfl
  have h2 := (QdX htl).up QbZ
  have hcl := ZF z
  have hpl := Vu z
  unfold Y3 Uv at *
  generalize XG z = h at *
  generalize Ed (h.take 32) = s at *
  refine PV.mk' Tryd.func18 rfl rfl rfl rfl fun w L hL hG => ?_
  refine S.enter Qm [.a .u8 z 32] gS Tryd.func18 rfl rfl rfl (fun _ => rfl) hL hG ?_
  refine S.go false rfl (by repeat' (first | exact True.intro | refine And.intro ?_ ?_ | assumption | exact rfl | decide)) ?_
  refine S.cr [3, 0] rfl rfl rfl rfl rfl rfl rfl h1 ?_
  refine S.go false rfl (by repeat' (first | exact True.intro | refine And.intro ?_ ?_ | assumption | omega | (dsimp only; omega) | (simp only [Nat.add_eq, Nat.mul_eq, Nat.sub_eq, SV.wd]; omega) | exact rfl)) ?_
  refine S.drp false [(3, .a .u8 s 32)] rfl rfl rfl ?_ (by repeat' (first | exact True.intro | refine And.intro ?_ ?_ | assumption | exact rfl | decide))
  refine S.g false rfl ?_
  exact S.rett rfl rfl rfl rfl rfl
theorem Ha {z : List Int} (hz : Qb z) (hl : z.length = 32) : PV Tryd.prog gS 8 [.a .u8 z 32] (.a .u8 (Xa (Qn (kB (Y3 z)) bP)) 32) := by
  have h1 := HD hz hl
  have h2 := (Em (ZV z) (ZF z)).up QbZ
  have hel := QB (Qn (kB (Y3 z)) bP)
  have hcl := ZF z
  have hpl := Vu z
  generalize Xa (Qn (kB (Y3 z)) bP) = E at *
  generalize Y3 z = s at *
  generalize Uv z = p at *
  refine PV.mk' Tryd.func8 rfl rfl rfl rfl fun w L hL hG => ?_
  refine S.enter Qm [.a .u8 z 32] gS Tryd.func8 rfl rfl rfl (fun _ => rfl) hL hG ?_
  refine S.go false rfl (by repeat' (first | exact True.intro | refine And.intro ?_ ?_ | assumption | omega | (dsimp only; omega) | (simp only [Nat.add_eq, Nat.mul_eq, Nat.sub_eq, SV.wd]; omega) | exact rfl)) ?_
  refine S.cv rfl rfl rfl rfl rfl rfl h1 ?_
  refine S.go false rfl (by repeat' (first | exact True.intro | refine And.intro ?_ ?_ | assumption | omega | (dsimp only; omega) | (simp only [Nat.add_eq, Nat.mul_eq, Nat.sub_eq, SV.wd]; omega) | exact rfl)) ?_
  refine S.cv rfl rfl rfl rfl rfl rfl h2 ?_
  refine S.go false rfl (by repeat' (first | exact True.intro | refine And.intro ?_ ?_ | assumption | omega | (dsimp only; omega) | (simp only [Nat.add_eq, Nat.mul_eq, Nat.sub_eq, SV.wd]; omega) | exact rfl)) ?_
  exact S.retv rfl rfl rfl rfl rfl
/-- What binds a signature to R, the key and the message. -/
def Fk (r key m : List Int) : List Int := QD (Qh (XG (r ++ (key ++ m))) 64 % Q0)
theorem VK (r key m : List Int) : (Fk r key m).length = 32 := Qu _
theorem Uf (r key m : List Int) : Qb (Fk r key m) := Z0 _
section
variable {a0 : Option Addr} {n0 c0 : Nat} {m : List Int} (hm : Qb m) (hml : m.length < 1000000)
include hm hml
theorem Ut {r key : List Int} (hr : Qb r) (hrl : r.length = 32) (hk : Qb key) (hkl : key.length = 32) : PV Tryd.prog (gS ++ [fB (.slice a0 n0 c0) m]) 17 [.a .u8 r 32, .a .u8 key 32, .o a0 n0 c0] (.a .u8 (Fk r key m) 32) := by
  have h1 := QeE (a := a0) (n := n0) (c := c0) hr hrl hk hkl hm hml 6 0 1
  have hsl := Xv (r ++ (key ++ m))
  have h2 := (G4 (Zm (r ++ (key ++ m))) hsl).up (G' := gS ++ [fB (.slice a0 n0 c0) m]) (fun L w h => QbZ L w h.pre)
  have hcl := VK r key m
  unfold Fk at *
  generalize XG (r ++ (key ++ m)) = D at *
  generalize QD (Qh D 64 % Q0) = o at *
  refine PV.mk' Tryd.func17 rfl rfl rfl rfl fun w L hL hG => ?_
  refine S.enter Qm [.a .u8 r 32, .a .u8 key 32, .o a0 n0 c0] (gS ++ [fB (.slice a0 n0 c0) m]) Tryd.func17 rfl rfl rfl (fun _ => rfl) hL hG ?_
  refine S.go false rfl (by repeat' (first | exact True.intro | refine And.intro ?_ ?_ | assumption | omega | (dsimp only; omega) | (simp only [Nat.add_eq, Nat.mul_eq, Nat.sub_eq, SV.wd]; omega) | exact rfl)) ?_
  refine S.drq false [(4, .a .u8 D 64), (5, .a .u8 o 32)] [(4, [6, 0, 1])] rfl rfl rfl ?_ (by repeat' (first | exact True.intro | refine And.intro ?_ ?_ | assumption | exact rfl | decide))
  refine S.g false rfl ?_
  exact S.retv rfl rfl rfl rfl rfl
/-- What is drawn of the prefix and the message, and the signature's second half. -/
def Jd (z m : List Int) : List Int := QD (Qh (XG (Uv z ++ m)) 64 % Q0)
omit hm hml in
theorem Jc (z m : List Int) : (Jd z m).length = 32 := Qu _
omit hm hml in
theorem Vg (z m : List Int) : Qb (Jd z m) := Z0 _
def Xz (z : List Int) : List Int := Xa (Qn (kB (Y3 z)) bP)
def YQ (z m : List Int) : List Int := Xa (Qn (kB (Jd z m)) bP)
def sB (z m : List Int) : List Int := QD ((Qh (Jd z m) 32 + Qh (Fk (YQ z m) (Xz z) m) 32 * Qh (Y3 z) 32) % Q0)
omit hm hml in
theorem KR (z m : List Int) : (sB z m).length = 32 := Qu _
omit hm hml in
theorem Yq (z m : List Int) : Qb (sB z m) := Z0 _
theorem QaM {z : List Int} (hz : Qb z) (hl : z.length = 32) : PV Tryd.prog (gS ++ [fB (.slice a0 n0 c0) m]) 9 [.a .u8 z 32, .o a0 n0 c0] (.a .u8 (YQ z m ++ sB z m) 64) := by
  have gT' : ∀ L w, Hs (gS ++ [fB (.slice a0 n0 c0) m]) L w -> Hs gT L w := fun L w h => QbZ L w h.pre
  have h1 := (HD hz hl).up (G' := gS ++ [fB (.slice a0 n0 c0) m]) (fun L w h => h.pre)
  have h2 := (Em (ZV z) (ZF z)).up gT'
  have h3 := QeF (a := a0) (n := n0) (c := c0) (FO z) (Vu z) hm hml 5 3
  have hsl := Xv (Uv z ++ m)
  have h4 := (G4 (Zm (Uv z ++ m)) hsl).up gT'
  have h5 := (Em (Vg z m) (Jc z m)).up gT'
  have h6 := Ut (a0 := a0) (n0 := n0) (c0 := c0) hm hml (Xs (Qn (kB (Jd z m)) bP)) (QB _) (Xs (Qn (kB (Y3 z)) bP)) (QB _)
  have h7 := (QbK (Uf (YQ z m) (Xz z) m) (ZV z) (Vg z m) (VK _ _ _) (ZF z) (Jc z m)).up gT'
  have q1 := ZF z; have q2 := Vu z; have q3 := Jc z m; have q4 := KR z m; have q5 : (Xz z).length = 32 := QB _; have q6 : (YQ z m).length = 32 := QB _; have q7 := VK (YQ z m) (Xz z) m
  change PV _ _ _ _ (.a .u8 (sB z m) 32) at h7
  change PV _ _ _ _ (.a .u8 (Xz z) 32) at h2
  change PV _ _ _ _ (.a .u8 (YQ z m) 32) at h5
  change PV _ _ _ _ (.a .u8 (Jd z m) 32) at h4
  change PV _ _ _ [.a .u8 (YQ z m) 32, .a .u8 (Xz z) 32, .o a0 n0 c0] _ at h6
  change PV _ _ _ _ (.a .u8 (Fk (YQ z m) (Xz z) m) 32) at h6
  generalize sB z m = S2 at *
  generalize Fk (YQ z m) (Xz z) m = C at *
  generalize YQ z m = R at *
  generalize Xz z = E at *
  generalize Jd z m = O at *
  generalize XG (Uv z ++ m) = D at *
  generalize Y3 z = s at *
  generalize Uv z = p at *
  refine PV.mk' Tryd.func9 rfl rfl rfl rfl fun w L hL hG => ?_
  refine S.enter Qm [.a .u8 z 32, .o a0 n0 c0] (gS ++ [fB (.slice a0 n0 c0) m]) Tryd.func9 rfl rfl rfl (fun _ => rfl) hL hG ?_
  refine S.go false rfl (by repeat' (first | exact True.intro | refine And.intro ?_ ?_ | assumption | omega | (dsimp only; omega) | (simp only [Nat.add_eq, Nat.mul_eq, Nat.sub_eq, SV.wd]; omega) | exact rfl)) ?_
  refine S.cv rfl rfl rfl rfl rfl rfl h1 ?_
  refine S.go false rfl (by repeat' (first | exact True.intro | refine And.intro ?_ ?_ | assumption | omega | (dsimp only; omega) | (simp only [Nat.add_eq, Nat.mul_eq, Nat.sub_eq, SV.wd]; omega) | exact rfl)) ?_
  refine S.cv rfl rfl rfl rfl rfl rfl h2 ?_
  refine S.go false rfl (by repeat' (first | exact True.intro | refine And.intro ?_ ?_ | assumption | exact rfl | decide)) ?_
  refine S.cr [5, 3] rfl rfl rfl rfl rfl rfl rfl h3 ?_
  refine S.g false rfl ?_
  refine S.cv rfl rfl rfl rfl rfl rfl h4 ?_
  refine S.go false rfl (by repeat' (first | exact True.intro | refine And.intro ?_ ?_ | assumption | omega | (dsimp only; omega) | (simp only [Nat.add_eq, Nat.mul_eq, Nat.sub_eq, SV.wd]; omega) | exact rfl)) ?_
  refine S.cv rfl rfl rfl rfl rfl rfl h5 ?_
  refine S.go false rfl (by repeat' (first | exact True.intro | refine And.intro ?_ ?_ | assumption | omega | (dsimp only; omega) | (simp only [Nat.add_eq, Nat.mul_eq, Nat.sub_eq, SV.wd]; omega) | exact rfl)) ?_
  refine S.drp false [(3, .a .u8 C 32), (6, .a .u8 S2 32)] rfl rfl rfl ?_ (by repeat' (first | exact True.intro | refine And.intro ?_ ?_ | assumption | omega | (dsimp only; omega) | (simp only [Nat.add_eq, Nat.mul_eq, Nat.sub_eq, SV.wd]; omega) | exact rfl))
  refine S.g false rfl ?_
  refine S.dr0 false rfl rfl rfl ?_ (by repeat' (first | exact True.intro | refine And.intro ?_ ?_ | exact rfl | decide))
  refine S.g false rfl ?_
  refine S.dr0 false rfl rfl rfl ?_ (by repeat' (first | exact True.intro | refine And.intro ?_ ?_ | exact rfl | decide))
  have q8 : (R ++ S2).length = 64 := by rw [List.length_append, q6, q4]
  refine S.recell 17 [.a .u8 (R ++ S2) 64] rfl (fun ρ => congrArg (fun z => Qd ρ [SV.a .u8 z 64]) (by
    show List.take 32 (List.take 0 (List.replicate 64 (0 : Int)) ++ (List.take 32 (List.drop 0 R) ++ List.drop 32 (List.replicate 64 (0 : Int)))) ++ (List.take 32 (List.drop 0 S2) ++ List.drop 64 (List.take 0 (List.replicate 64 (0 : Int)) ++ (List.take 32 (List.drop 0 R) ++ List.drop 32 (List.replicate 64 (0 : Int))))) = R ++ S2
    have r1 : List.take 32 R = R := List.take_of_length_le (by omega)
    have r2 : List.take 32 S2 = S2 := List.take_of_length_le (by omega)
    rw [List.drop_zero, List.drop_zero, r1, r2, List.take_zero, List.nil_append, List.take_append_of_le_length (by omega), r1, List.drop_eq_nil_of_le (by simp [q6]), List.append_nil])) ⟨q8, trivial⟩ rfl ?_
  refine S.go false rfl (by repeat' (first | exact True.intro | refine And.intro ?_ ?_ | assumption | omega | (dsimp only; omega) | (simp only [Nat.add_eq, Nat.mul_eq, Nat.sub_eq, SV.wd]; omega) | exact rfl)) ?_
  exact S.retv rfl rfl rfl rfl rfl
/-- What Verify says: s isn't reduced; the key is no point; or else. -/
theorem GM {key sig : List Int} (hk : Qb key) (hkl : key.length = 32) (hg : Qb sig) (hgl : sig.length = 64) :
    (¬ Qh (sig.drop 32) 32 < Q0 -> PV Tryd.prog (gS ++ [fB (.slice a0 n0 c0) m]) 7 [.a .u8 key 32, .o a0 n0 c0, .a .u8 sig 64] (.l false)) /\
    (Qh (sig.drop 32) 32 < Q0 -> ¬ Ye key -> PV Tryd.prog (gS ++ [fB (.slice a0 n0 c0) m]) 7 [.a .u8 key 32, .o a0 n0 c0, .a .u8 sig 64] (.l false)) /\
    (Qh (sig.drop 32) 32 < Q0 -> ∀ h : Ye key, PV Tryd.prog (gS ++ [fB (.slice a0 n0 c0) m]) 7 [.a .u8 key 32, .o a0 n0 c0, .a .u8 sig 64] (.c (Xa (Qf (Qn (kB (Fk (sig.take 32) key m)) (XK (Fi key h))) (Qn (kB (sig.drop 32)) bP)) = sig.take 32) inferInstance)) := by
  have gT' : ∀ L w, Hs (gS ++ [fB (.slice a0 n0 c0) m]) L w -> Hs gT L w := fun L w h => QbZ L w h.pre
  have q1 : (sig.take 32).length = 32 := by rw [List.length_take, hgl]; rfl
  have q2 : (sig.drop 32).length = 32 := by rw [List.length_drop, hgl]
  have b1 := hg.take 32
  have b2 := hg.drop 32
  have h1 := (Qdg b2 q2).up gT'
  obtain ⟨n1, n2⟩ := Qf5 hk hkl
  have q3 := VK (sig.take 32) key m
  have h3 := Ut (a0 := a0) (n0 := n0) (c0 := c0) hm hml b1 q1 hk hkl
  have start : ∀ v : SV, (∀ w L, LL L w -> Hs (gS ++ [fB (.slice a0 n0 c0) m]) L w -> CX Tryd.prog 7 (Qr Qt [.a .u8 key 32, .o a0 n0 c0, .a .u8 sig 64]) w L (fun _ : Unit => v) (fun _ => []) (fun _ => True)) -> v.wf 0 = true -> PV Tryd.prog (gS ++ [fB (.slice a0 n0 c0) m]) 7 [.a .u8 key 32, .o a0 n0 c0, .a .u8 sig 64] v := fun v H hw => PV.mk' Tryd.func7 rfl rfl rfl hw H
  refine ⟨fun hs => ?_, fun hs hp => ?_, fun hs hp => ?_⟩
  . refine start _ (fun w L hL hG => ?_) rfl
    refine S.enter Qm [.a .u8 key 32, .o a0 n0 c0, .a .u8 sig 64] (gS ++ [fB (.slice a0 n0 c0) m]) Tryd.func7 rfl rfl rfl (fun _ => rfl) hL hG ?_
    refine S.go false rfl (by repeat' (first | exact True.intro | refine And.intro ?_ ?_ | assumption | omega | (dsimp only; omega) | (simp only [Nat.add_eq, Nat.mul_eq, Nat.sub_eq, SV.wd]; omega) | exact rfl)) ?_
    refine S.dr0 false rfl rfl rfl ?_ (by repeat' (first | exact True.intro | refine And.intro ?_ ?_ | assumption | exact rfl | decide))
    refine S.g false rfl ?_
    refine S.cv rfl rfl rfl rfl rfl rfl h1 ?_
    refine S.g false rfl ?_
    refine S.condT rfl hs ?_
    refine S.g false rfl ?_
    exact S.retv rfl rfl rfl rfl rfl
  . refine start _ (fun w L hL hG => ?_) rfl
    refine S.enter Qm [.a .u8 key 32, .o a0 n0 c0, .a .u8 sig 64] (gS ++ [fB (.slice a0 n0 c0) m]) Tryd.func7 rfl rfl rfl (fun _ => rfl) hL hG ?_
    refine S.go false rfl (by repeat' (first | exact True.intro | refine And.intro ?_ ?_ | assumption | omega | (dsimp only; omega) | (simp only [Nat.add_eq, Nat.mul_eq, Nat.sub_eq, SV.wd]; omega) | exact rfl)) ?_
    refine S.dr0 false rfl rfl rfl ?_ (by repeat' (first | exact True.intro | refine And.intro ?_ ?_ | assumption | exact rfl | decide))
    refine S.g false rfl ?_
    refine S.cv rfl rfl rfl rfl rfl rfl h1 ?_
    refine S.g false rfl ?_
    refine S.condF rfl (fun h => h hs) ?_
    refine S.g false rfl ?_
    refine S.cv rfl rfl rfl rfl rfl rfl ((n2 hp).up gT') ?_
    refine S.go false rfl (by repeat' (first | exact True.intro | refine And.intro ?_ ?_ | assumption | omega | (dsimp only; omega) | (simp only [Nat.add_eq, Nat.mul_eq, Nat.sub_eq, SV.wd]; omega) | exact rfl)) ?_
    refine S.condT rfl (by decide) ?_
    refine S.g false rfl ?_
    exact S.retv rfl rfl rfl rfl rfl
  . have hN := (n1 hp).up gT'
    obtain ⟨m1, -⟩ := Qf7 (a := Fk (sig.take 32) key m) (b := sig.drop 32) (p := Xa (XK (Fi key hp))) (Uf _ _ _) (VK _ _ _) b2 q2 (Xs _) (QB _)
    have hM := (m1 (Gj _)).up gT'
    rw [De] at hM
    have q4 := QB (XK (Fi key hp))
    have q5 := QB (Qf (Qn (kB (Fk (sig.take 32) key m)) (XK (Fi key hp))) (Qn (kB (sig.drop 32)) bP))
    generalize Xa (Qf (Qn (kB (Fk (sig.take 32) key m)) (XK (Fi key hp))) (Qn (kB (sig.drop 32)) bP)) = E at *
    generalize Xa (XK (Fi key hp)) = K2 at *
    generalize Fk (sig.take 32) key m = C at *
    refine start _ (fun w L hL hG => ?_) rfl
    refine S.enter Qm [.a .u8 key 32, .o a0 n0 c0, .a .u8 sig 64] (gS ++ [fB (.slice a0 n0 c0) m]) Tryd.func7 rfl rfl rfl (fun _ => rfl) hL hG ?_
    refine S.go false rfl (by repeat' (first | exact True.intro | refine And.intro ?_ ?_ | assumption | omega | (dsimp only; omega) | (simp only [Nat.add_eq, Nat.mul_eq, Nat.sub_eq, SV.wd]; omega) | exact rfl)) ?_
    refine S.dr0 false rfl rfl rfl ?_ (by repeat' (first | exact True.intro | refine And.intro ?_ ?_ | assumption | exact rfl | decide))
    refine S.g false rfl ?_
    refine S.cv rfl rfl rfl rfl rfl rfl h1 ?_
    refine S.g false rfl ?_
    refine S.condF rfl (fun h => h hs) ?_
    refine S.g false rfl ?_
    refine S.cv rfl rfl rfl rfl rfl rfl hN ?_
    refine S.go false rfl (by repeat' (first | exact True.intro | refine And.intro ?_ ?_ | assumption | omega | (dsimp only; omega) | (simp only [Nat.add_eq, Nat.mul_eq, Nat.sub_eq, SV.wd]; omega) | exact rfl)) ?_
    refine S.condF rfl (by decide) ?_
    refine S.g false rfl ?_
    refine S.drp false [(3, .a .u8 C 32), (6, .t [.a .u8 E 32, .i .i64 0])] rfl rfl rfl ?_ (by repeat' (first | exact True.intro | refine And.intro ?_ ?_ | assumption | omega | (dsimp only; omega) | (simp only [Nat.add_eq, Nat.mul_eq, Nat.sub_eq, SV.wd]; omega) | exact rfl))
    refine S.gn 5 false rfl ?_
    refine S.rd 40 (.l true) rfl (fun _ => rfl) ?_
    refine S.go false rfl (by repeat' (first | exact True.intro | refine And.intro ?_ ?_ | assumption | omega | (dsimp only; omega) | (simp only [Nat.add_eq, Nat.mul_eq, Nat.sub_eq, SV.wd]; omega) | exact rfl)) ?_
    exact S.retv rfl rfl rfl rfl rfl
end
end Go.Proofs.YtbiboamaigedjaaDoor
namespace Go.Proofs.YtbiboamaigedjaaDoor
set_option linter.unusedVariables false
set_option maxRecDepth 100000

/-- The order. -/
def lN : Nat := 7237005577332262213973186563042994240857116359379907606001950938285454250989
theorem Qbj : Xt 1224481 := Xt.small (f := 1110) (by decide) (by decide +kernel)
theorem Qbi : Xt 531581 := Xt.small (f := 732) (by decide) (by decide +kernel)
theorem QeS : Xt 1257559732178653 := by
  refine JO (F := 1224481 * 531581) (by decide) (by decide +kernel) fun r hr hd => ?_
  refine KG Qbj Qbi (by decide) ?_ ?_
  . exact Xt.certify (b := 1252739704402215) (f := 21) Qbj (by decide +kernel) (by decide +kernel) r hr hd
  . exact Xt.certify (b := 1139842034583224) (f := 20) Qbi (by decide +kernel) (by decide +kernel) r hr hd
theorem QeR : Xt 4434155615661930479 := by
  refine JO (F := 1257559732178653) (by decide) (by decide +kernel) ?_
  exact Xt.certify (b := 415787812636281767) (f := 51) QeS (by decide +kernel) (by decide +kernel)
theorem QeQ : Xt 172054593956031949258510691 := by
  refine JO (F := 4434155615661930479) (by decide) (by decide +kernel) ?_
  exact Xt.certify (b := 81982237619807054769897707) (f := 62) QeR (by decide +kernel) (by decide +kernel)
theorem QeP : Xt 19757330305831588566944191468367130476339 := by
  refine JO (F := 172054593956031949258510691) (by decide) (by decide +kernel) ?_
  exact Xt.certify (b := 9148758478138211201771971577098600188172) (f := 88) QeQ (by decide +kernel) (by decide +kernel)
theorem QeO : Xt 276602624281642239937218680557139826668747 := by
  refine JO (F := 19757330305831588566944191468367130476339) (by decide) (by decide +kernel) ?_
  exact Xt.certify (b := 16384) (f := 134) QeP (by decide +kernel) (by decide +kernel)
theorem QbU : Xt lN := by
  refine JO (F := 276602624281642239937218680557139826668747) (by decide) (by decide +kernel) ?_
  exact Xt.certify (b := 2975531125133123119648879457563281269120703404158613135195788908093573672641) (f := 138) QeO (by decide +kernel) (by decide +kernel)
/-- A point as x and y over one divisor. -/
def Fg (c : FF × FF × FF) (P : Pt) : Prop := c.2.2 ≠ 0 /\ c.1 = P.x * c.2.2 /\ c.2.1 = P.y * c.2.2
def Qdv (c e : FF × FF × FF) : FF × FF × FF :=
  let a := c.2.2 * e.2.2
  let b := a * a
  let u := c.1 * e.1
  let v := c.2.1 * e.2.1
  let t := dF * (u * v)
  let f := b - t
  let g := b + t
  (a * f * (c.1 * e.2.1 + c.2.1 * e.1), a * g * (v + u), f * g)
theorem Hh {c e : FF × FF × FF} {P Q : Pt} (h : Fg c P) (k : Fg e Q) : Fg (Qdv c e) (Qf P Q) := by
  obtain ⟨cx, cy, cz⟩ := c
  obtain ⟨ex, ey, ez⟩ := e
  obtain ⟨h0, h1, h2⟩ := h
  obtain ⟨k0, k1, k2⟩ := k
  have d1 := JU P.on Q.on
  have d2 := JT P.on Q.on
  have p1 := Yx P Q
  have p2 := Yw P Q
  have nz : ∀ {a b : FF}, a ≠ 0 -> b ≠ 0 -> a * b ≠ 0 := fun ha hb h => (JS h).elim ha hb
  dsimp only at h0 h1 h2 k0 k1 k2
  subst h1 h2 k1 k2
  have ha := nz h0 k0
  have hb := nz ha ha
  have hf : cz * ez * (cz * ez) - dF * (P.x * cz * (Q.x * ez) * (P.y * cz * (Q.y * ez))) = cz * ez * (cz * ez) * (1 - dF*P.x*Q.x*P.y*Q.y) := by grobner
  have hg : cz * ez * (cz * ez) + dF * (P.x * cz * (Q.x * ez) * (P.y * cz * (Q.y * ez))) = cz * ez * (cz * ez) * (1 + dF*P.x*Q.x*P.y*Q.y) := by grobner
  refine ⟨?_, ?_, ?_⟩
  . show (cz * ez * (cz * ez) - dF * (P.x * cz * (Q.x * ez) * (P.y * cz * (Q.y * ez)))) * (cz * ez * (cz * ez) + dF * (P.x * cz * (Q.x * ez) * (P.y * cz * (Q.y * ez)))) ≠ 0
    rw [hf, hg]
    exact nz (nz hb d2) (nz hb d1)
  . show cz * ez * (cz * ez * (cz * ez) - dF * (P.x * cz * (Q.x * ez) * (P.y * cz * (Q.y * ez)))) * (P.x * cz * (Q.y * ez) + P.y * cz * (Q.x * ez)) = (Qf P Q).x * ((cz * ez * (cz * ez) - dF * (P.x * cz * (Q.x * ez) * (P.y * cz * (Q.y * ez)))) * (cz * ez * (cz * ez) + dF * (P.x * cz * (Q.x * ez) * (P.y * cz * (Q.y * ez)))))
    rw [hf, hg]
    have e1 : (Qf P Q).x * (cz * ez * (cz * ez) * (1 - dF*P.x*Q.x*P.y*Q.y) * (cz * ez * (cz * ez) * (1 + dF*P.x*Q.x*P.y*Q.y))) = (Qf P Q).x * (1 + dF*P.x*Q.x*P.y*Q.y) * (cz * ez * (cz * ez) * (1 - dF*P.x*Q.x*P.y*Q.y) * (cz * ez * (cz * ez))) := by
      generalize (Qf P Q).x = X
      generalize 1 - dF*P.x*Q.x*P.y*Q.y = U
      generalize 1 + dF*P.x*Q.x*P.y*Q.y = V
      grobner
    rw [e1, p1]
    generalize 1 - dF*P.x*Q.x*P.y*Q.y = U
    grobner
  . show cz * ez * (cz * ez * (cz * ez) + dF * (P.x * cz * (Q.x * ez) * (P.y * cz * (Q.y * ez)))) * (P.y * cz * (Q.y * ez) + P.x * cz * (Q.x * ez)) = (Qf P Q).y * ((cz * ez * (cz * ez) - dF * (P.x * cz * (Q.x * ez) * (P.y * cz * (Q.y * ez)))) * (cz * ez * (cz * ez) + dF * (P.x * cz * (Q.x * ez) * (P.y * cz * (Q.y * ez)))))
    rw [hf, hg]
    have e1 : (Qf P Q).y * (cz * ez * (cz * ez) * (1 - dF*P.x*Q.x*P.y*Q.y) * (cz * ez * (cz * ez) * (1 + dF*P.x*Q.x*P.y*Q.y))) = (Qf P Q).y * (1 - dF*P.x*Q.x*P.y*Q.y) * (cz * ez * (cz * ez) * (1 + dF*P.x*Q.x*P.y*Q.y) * (cz * ez * (cz * ez))) := by
      generalize (Qf P Q).y = X
      generalize 1 - dF*P.x*Q.x*P.y*Q.y = U
      generalize 1 + dF*P.x*Q.x*P.y*Q.y = V
      grobner
    rw [e1, p2]
    generalize 1 + dF*P.x*Q.x*P.y*Q.y = V
    grobner
/-- So many times, by doubling. -/
def YB (c : FF × FF × FF) : Nat -> Nat -> FF × FF × FF
  | 0, _ => (0, 1, 1)
  | f + 1, k => match k % 2 with
    | 0 => Qdv (YB c f (k / 2)) (YB c f (k / 2))
    | _ => Qdv (Qdv (YB c f (k / 2)) (YB c f (k / 2))) c
theorem Vw {c : FF × FF × FF} {P : Pt} (h : Fg c P) : ∀ f k, k < 2 ^ f -> Fg (YB c f k) (Qn k P)
  | 0, k, hk => by
    obtain rfl : k = 0 := by simpa using hk
    exact ⟨by show (1 : FF) ≠ 0; decide +kernel, by show (0 : FF) = 0 * 1; decide +kernel, by show (1 : FF) = 1 * 1; decide +kernel⟩
  | f + 1, k, hk => by
    have ih := Vw h f (k / 2) (by rw [Nat.pow_succ] at hk; omega)
    have hd := Hh ih ih
    rw [<- Q6] at hd
    unfold YB
    split
    . next h0 => rw [show k / 2 + k / 2 = k by omega] at hd; exact hd
    . next h0 =>
      have h1 : k / 2 + k / 2 + 1 = k := by
        have : k % 2 ≠ 0 := fun e => h0 e
        omega
      have ho := Hh hd h
      rw [show Qf (Qn (k / 2 + k / 2) P) P = Qn (k / 2 + k / 2 + 1) P from rfl, h1] at ho
      exact ho
theorem DZ {c : FF × FF × FF} {P : Pt} (h : Fg c P) (hx : c.1 = 0) (hy : c.2.1 = c.2.2) : P = Qy := by
  obtain ⟨h0, h1, h2⟩ := h
  apply Pt.ext
  . rw [hx] at h1
    rcases JS h1.symm with e | e
    . exact e
    . exact absurd e h0
  . refine Eg h0 ?_
    show c.2.2 * P.y = c.2.2 * 1
    rw [hy] at h2
    grobner
/-- What brings a point to (0, 1) does so with what is left. -/
theorem QaI {m n : Nat} {P : Pt} (hm : Qn m P = Qy) (hn : Qn n P = Qy) : Qn (n % m) P = Qy := by
  have e : Qn (n / m * m + n % m) P = Qn n P := by rw [Nat.mul_comm, Nat.div_add_mod]
  rw [Q6, Yo, hm, YO, Xu] at e
  rw [e, hn]
theorem QaK (P : Pt) : ∀ m n : Nat, Qn m P = Qy -> Qn n P = Qy -> Qn (Nat.gcd m n) P = Qy := by
  intro m n
  induction m, n using Nat.gcd.induction with
  | H0 n => intro _ h; rw [Nat.gcd_zero_left]; exact h
  | H1 m n hm ih =>
    intro h1 h2
    rw [Nat.gcd_rec]
    exact ih (QaI h1 h2) h1
instance instOn (x y : FF) : Decidable (On dF x y) := inferInstanceAs (Decidable (_ = _))
end Go.Proofs.YtbiboamaigedjaaDoor
namespace Go.Proofs.YtbiboamaigedjaaDoor
open Go.RowKit
set_option maxRecDepth 100000
set_option linter.unusedSimpArgs false
set_option linter.unusedVariables false
theorem GA : Fg (Ei, Fo, 1) bP := ⟨by show (1 : FF) ≠ 0; decide +kernel, by show Ei = Ei * 1; decide +kernel, by show Fo = Fo * 1; decide +kernel⟩
theorem Dl : (YB (Ei, Fo, 1) 253 lN).1 = 0 /\ (YB (Ei, Fo, 1) 253 lN).2.1 = (YB (Ei, Fo, 1) 253 lN).2.2 := by decide +kernel
theorem Fd : Qn lN bP = Qy := DZ (Vw GA 253 lN (by decide +kernel)) Dl.1 Dl.2
theorem Qgo : bP ≠ Qy := fun h => absurd (congrArg Pt.y h) (by show Fo ≠ 1; decide +kernel)
theorem KW : Q0 = (lN : Int) := by decide +kernel
theorem Qc5 (n : Nat) : Qn (n % lN) bP = Qn n bP := by
  have h := Q6 (lN * (n / lN)) bP (n % lN)
  rw [Nat.div_add_mod] at h
  rw [h, Nat.mul_comm, Yo, Fd, YO, Xu]
/-- The base point's multiples below the order are different ones. -/
theorem QaJ {m n : Nat} (hm : m < lN) (hn : n < lN) (h : Qn m bP = Qn n bP) : m = n := by
  have key : ∀ {a b : Nat}, a <= b -> b < lN -> Qn a bP = Qn b bP -> a = b := fun {a b} hab hb e => by
    have h1 := Q6 a bP (b - a)
    rw [show a + (b - a) = b by omega, <- e] at h1
    have h2 : Qn (b - a) bP = Qy := by
      have h3 : Qf Qy (Qn a bP) = Qf (Qn (b - a) bP) (Qn a bP) := by rw [Xu, Xw, <- h1]
      exact (Yy h3).symm
    rcases Nat.eq_zero_or_pos (b - a) with h0 | h0
    . omega
    . exact absurd (by
        have hg := QaK bP lN (b - a) Fd h2
        have hc : Nat.gcd lN (b - a) = 1 := QbU.cop (fun hd => absurd (Nat.le_of_dvd h0 hd) (by omega))
        rw [hc, G0] at hg
        exact hg) Qgo
  rcases Nat.le_total m n with h1 | h1
  . exact key h1 hn h
  . exact (key h1 hm h.symm).symm
theorem YH {l : List Int} (h : Qb l) : ((kB l : Nat) : Int) = Qh l 32 := by
  have := XV l h
  unfold kB; omega
theorem QaR (z m : List Int) : Qh (sB z m) 32 = (Qh (Jd z m) 32 + Qh (Fk (YQ z m) (Xz z) m) 32 * Qh (Y3 z) 32) % Q0 := by
  unfold sB
  exact YN _ (by unfold Q0; omega) (by unfold Q0; omega)
theorem QaS (z m : List Int) : Qh (sB z m) 32 < Q0 := by rw [QaR]; unfold Q0; omega
theorem QfT (z m : List Int) : kB (sB z m) = (kB (Jd z m) + kB (Fk (YQ z m) (Xz z) m) * kB (Y3 z)) % lN := by
  have h := QaR z m
  rw [<- YH (Yq z m), <- YH (Vg z m), <- YH (Uf _ _ _), <- YH (ZV z), KW, <- Int.natCast_mul, <- Int.natCast_add, <- Int.natCast_emod] at h
  exact Int.ofNat.inj h
theorem vrf (c a n : Nat) (o : Pt) : Qf (Qn c (XK (Qn a bP))) (Qn ((n + c * a) % lN) bP) = Qn n bP := by
  rw [Qc5, Q6, G1, <- Yo, Xw (Qn n bP), <- QQ, VA, Xu]
theorem Qfa (z : List Int) (h : Ye (Xz z)) : Fi (Xz z) h = Qn (kB (Y3 z)) bP := De _ h
theorem Gc (z m : List Int) (h : Ye (Xz z)) : Xa (Qf (Qn (kB (Fk (YQ z m) (Xz z) m)) (XK (Fi (Xz z) h))) (Qn (kB (sB z m)) bP)) = YQ z m := by
  rw [Qfa, QfT, vrf _ _ _ Qy]
  rfl
/-- No other s below the order. -/
theorem Qf3 (z m o : List Int) (ho : Qb o) (hol : o.length = 32) (hlt : Qh o 32 < Q0) (h : Ye (Xz z)) : Xa (Qf (Qn (kB (Fk (YQ z m) (Xz z) m)) (XK (Fi (Xz z) h))) (Qn (kB o) bP)) = YQ z m ↔ o = sB z m := by
  refine ⟨fun e => ?_, fun e => by rw [e]; exact Gc z m h⟩
  have e2 := Qb4 (e.trans (Gc z m h).symm)
  rw [Xw, Xw _ (Qn (kB (sB z m)) bP)] at e2
  have e3 := Yy e2
  have h1 : kB o < lN := by have := YH ho; rw [KW] at hlt; omega
  have h2 : kB (sB z m) < lN := by have := YH (Yq z m); have := QaS z m; rw [KW] at this; omega
  have e4 := QaJ h1 h2 e3
  rw [<- YT ho hol, <- YT (Yq z m) (KR z m), <- YH ho, <- YH (Yq z m), e4]
theorem EJ {c : FF × FF × FF} {P Q : Pt} (h : Fg c P) (hx : c.1 = Q.x * c.2.2) (hy : c.2.1 = Q.y * c.2.2) : P = Q := by
  obtain ⟨h0, h1, h2⟩ := h
  refine Pt.ext (Eg h0 ?_) (Eg h0 ?_)
  . rw [h1] at hx; grobner
  . rw [h2] at hy; grobner
def z0 : List Int := [157, 97, 177, 157, 239, 253, 90, 96, 186, 132, 74, 244, 146, 236, 44, 196, 68, 73, 197, 105, 123, 50, 105, 25, 112, 59, 172, 3, 28, 174, 127, 96]
theorem UW : Qb z0 := by intro x hx; revert x; decide
def DN : List Int := [48, 124, 131, 134, 79, 40, 51, 203, 66, 122, 46, 241, 192, 10, 1, 60, 253, 255, 39, 104, 217, 128, 192, 163, 165, 32, 240, 6, 144, 77, 233, 79]
def QgQ : List Int := [155, 79, 10, 254, 40, 11, 116, 106, 119, 134, 132, 231, 84, 66, 80, 32, 87, 183, 71, 58, 3, 240, 143, 150, 245, 163, 142, 146, 135, 224, 31, 143]
theorem Ey : Y3 z0 = DN := by decide +kernel
theorem Qdo : Uv z0 = QgQ := by decide +kernel
def A0 : Pt := ⟨38815646466658113194383306759739515082307681141926459231621296960732224964046, 11903303657706407974989296177215005343713679411332034699907763981919547054807, by unfold On; decide +kernel⟩
theorem GI : kB DN < 2 ^ 256 /\ (YB (Ei, Fo, 1) 256 (kB DN)).1 = A0.x * (YB (Ei, Fo, 1) 256 (kB DN)).2.2 /\ (YB (Ei, Fo, 1) 256 (kB DN)).2.1 = A0.y * (YB (Ei, Fo, 1) 256 (kB DN)).2.2 := by decide +kernel
def Qf9 : List Int := [215, 90, 152, 1, 130, 177, 10, 183, 213, 75, 254, 211, 201, 100, 7, 58, 14, 225, 114, 243, 218, 166, 35, 37, 175, 2, 26, 104, 247, 7, 81, 26]
theorem EZ : Xz z0 = Qf9 := by
  unfold Xz
  rw [Ey, EJ (Vw GA 256 _ GI.1) GI.2.1 GI.2.2]
  decide +kernel
def D4 : List Int := [243, 137, 7, 48, 140, 137, 61, 234, 242, 68, 120, 125, 180, 175, 83, 104, 34, 73, 16, 116, 24, 175, 194, 237, 197, 143, 117, 172, 88, 160, 116, 4]
theorem EP : Jd z0 [] = D4 := by
  unfold Jd
  rw [Qdo]
  decide +kernel
def R0 : Pt := ⟨44370630452101398467924320556439323233869374150616132215183787387252341590058, 38448863731492799660668882834560725606410712239157980760146247592118262650597, by unfold On; decide +kernel⟩
theorem GG : kB D4 < 2 ^ 256 /\ (YB (Ei, Fo, 1) 256 (kB D4)).1 = R0.x * (YB (Ei, Fo, 1) 256 (kB D4)).2.2 /\ (YB (Ei, Fo, 1) 256 (kB D4)).2.1 = R0.y * (YB (Ei, Fo, 1) 256 (kB D4)).2.2 := by decide +kernel
def r0 : List Int := [229, 86, 67, 0, 195, 96, 172, 114, 144, 134, 226, 204, 128, 110, 130, 138, 132, 135, 127, 30, 184, 229, 217, 116, 216, 115, 224, 101, 34, 73, 1, 85]
theorem Qeo : YQ z0 [] = r0 := by
  unfold YQ
  rw [EP, EJ (Vw GA 256 _ GG.1) GG.2.1 GG.2.2]
  decide +kernel
def s0 : List Int := [95, 184, 130, 21, 144, 163, 59, 172, 198, 30, 57, 112, 28, 249, 180, 107, 210, 91, 245, 240, 89, 91, 190, 36, 101, 81, 65, 67, 142, 122, 16, 11]
theorem QfU : sB z0 [] = s0 := by
  unfold sB
  rw [EP, Qeo, EZ, Ey]
  decide +kernel
end Go.Proofs.YtbiboamaigedjaaDoor
namespace Go.Proofs.YtbiboamaigedjaaDoor
open Go.RowKit
set_option linter.unusedVariables false
set_option linter.unusedSimpArgs false
set_option maxRecDepth 8000
set_option maxHeartbeats 2000000

theorem Qfh (L : List Nat) (w : World) : (fB (.slice none 0 0) []).h L w := ⟨⟨by omega, by simp, none, 0, rfl, by simp, by simp [maxLen], by simp, fun h => absurd rfl h⟩, fun a n c e _ => by simp only [Value.slice.injEq] at e; exact e.2.2.symm⟩
section
variable {a0 : Option Addr} {n0 c0 : Nat} {m : List Int} (hm : Qb m) (hml : m.length < 1000000)
include hm hml
theorem Qaw (z : List Int) (hz : Qb z) (hl : z.length = 32) : PV Tryd.prog (gS ++ [fB (.slice a0 n0 c0) m]) 7 [.a .u8 (Xz z) 32, .o a0 n0 c0, .a .u8 (YQ z m ++ sB z m) 64] (.l true) := by
  have q6 : (YQ z m).length = 32 := QB _
  have q7 := KR z m
  have e1 : (YQ z m ++ sB z m).take 32 = YQ z m := by rw [List.take_append_of_le_length (by omega), List.take_of_length_le (by omega)]
  have e2 : (YQ z m ++ sB z m).drop 32 = sB z m := by rw [List.drop_append_of_le_length (by omega), List.drop_eq_nil_of_le (by omega), List.nil_append]
  have hb : Qb (YQ z m ++ sB z m) := fun x hx => (List.mem_append.1 hx).elim (Xs _ x) (Yq z m x)
  obtain ⟨-, -, h3⟩ := GM (a0 := a0) (n0 := n0) (c0 := c0) hm hml (key := Xz z) (sig := YQ z m ++ sB z m) (Xs _) (QB _) hb (by rw [List.length_append]; omega)
  rw [e1, e2] at h3
  have hk : Ye (Xz z) := Gj _
  have h := h3 (QaS z m) hk
  exact h.res (by simp only [SV.den]; rw [decide_eq_true (Gc z m hk)]) rfl
/-- The same with another second half. -/
theorem Qav (z : List Int) (hz : Qb z) (hl : z.length = 32) (o : List Int) (ho : Qb o) (hol : o.length = 32) : PV Tryd.prog (gS ++ [fB (.slice a0 n0 c0) m]) 7 [.a .u8 (Xz z) 32, .o a0 n0 c0, .a .u8 (YQ z m ++ o) 64] (.c (o = sB z m) inferInstance) := by
  have q6 : (YQ z m).length = 32 := QB _
  have e1 : (YQ z m ++ o).take 32 = YQ z m := by rw [List.take_append_of_le_length (by omega), List.take_of_length_le (by omega)]
  have e2 : (YQ z m ++ o).drop 32 = o := by rw [List.drop_append_of_le_length (by omega), List.drop_eq_nil_of_le (by omega), List.nil_append]
  have hb : Qb (YQ z m ++ o) := fun x hx => (List.mem_append.1 hx).elim (Xs _ x) (ho x)
  obtain ⟨h1, -, h3⟩ := GM (a0 := a0) (n0 := n0) (c0 := c0) hm hml (key := Xz z) (sig := YQ z m ++ o) (Xs _) (QB _) hb (by rw [List.length_append]; omega)
  rw [e1, e2] at h3
  rw [e2] at h1
  by_cases hlt : Qh o 32 < Q0
  . have hk : Ye (Xz z) := Gj _
    exact (h3 hlt hk).res (by simp only [SV.den]; exact congrArg Value.bool (decide_eq_decide.2 (Qf3 z m o ho hol hlt hk))) rfl
  . have hne : ¬ o = sB z m := fun e => hlt (by rw [e]; exact QaS z m)
    exact (h1 hlt).res (by simp only [SV.den]; rw [decide_eq_false hne]) rfl
end
set_option maxHeartbeats 2000000 in
theorem Qed : PV Tryd.prog gS 6 [] (.l true) := by
  have hP := (Ha UW rfl).up (G' := gS ++ [fB (.slice none 0 0) []]) (fun L w h => h.pre)
  have hS := QaM (a0 := none) (n0 := 0) (c0 := 0) (m := []) (by intro x hx; cases hx) (by simp) UW rfl
  have hV := Qaw (a0 := none) (n0 := 0) (c0 := 0) (m := []) (by intro x hx; cases hx) (by simp) z0 UW rfl
  change PV _ _ _ _ (.a .u8 (Xz z0) 32) at hP
  rw [EZ] at hP hV
  rw [Qeo, QfU] at hS hV
  refine PV.mk' Tryd.func6 rfl rfl rfl rfl fun w L hL hG => ?_
  refine S.enter Qm [] (gS ++ [fB (.slice none 0 0) []]) Tryd.func6 rfl rfl rfl (fun _ => rfl) hL (hG.app ⟨Qfh _ _, trivial⟩) ?_
  refine S.g false rfl ?_
  refine S.recell 0 [.a .u8 z0 32] rfl (fun ρ => rfl) ⟨rfl, trivial⟩ rfl ?_
  refine S.drp false [(1, .a .u8 Qf9 32), (3, .a .u8 (r0 ++ s0) 64)] rfl rfl rfl ?_ (by repeat' (first | exact True.intro | refine And.intro ?_ ?_ | assumption | exact rfl | decide))
  refine S.gn 6 false rfl ?_ (by repeat' (first | exact True.intro | refine And.intro ?_ ?_ | assumption | exact rfl | decide))
  refine S.rd 12 (.l true) rfl (fun _ => rfl) ?_
  refine S.gn 5 false rfl ?_ (by repeat' (first | exact True.intro | refine And.intro ?_ ?_ | assumption | exact rfl | decide))
  refine S.rd 17 (.l true) rfl (fun _ => rfl) ?_
  refine S.gn 5 false rfl ?_ (by repeat' (first | exact True.intro | refine And.intro ?_ ?_ | assumption | exact rfl | decide))
  refine S.rd 22 (.l true) rfl (fun _ => rfl) ?_
  refine S.gn 5 false rfl ?_ (by repeat' (first | exact True.intro | refine And.intro ?_ ?_ | assumption | exact rfl | decide))
  refine S.rd 27 (.l true) rfl (fun _ => rfl) ?_
  refine S.gn 5 false rfl ?_ (by repeat' (first | exact True.intro | refine And.intro ?_ ?_ | assumption | exact rfl | decide))
  refine S.rd 32 (.l true) rfl (fun _ => rfl) ?_
  refine S.gn 5 false rfl ?_ (by repeat' (first | exact True.intro | refine And.intro ?_ ?_ | assumption | exact rfl | decide))
  refine S.rd 37 (.l true) rfl (fun _ => rfl) ?_
  refine S.gn 5 false rfl ?_ (by repeat' (first | exact True.intro | refine And.intro ?_ ?_ | assumption | exact rfl | decide))
  refine S.rd 42 (.l true) rfl (fun _ => rfl) ?_
  refine S.go false rfl (by repeat' (first | exact True.intro | refine And.intro ?_ ?_ | assumption | exact rfl | decide)) ?_
  refine S.cv rfl rfl rfl rfl rfl rfl hV ?_
  refine S.g false rfl ?_
  exact S.retv rfl rfl rfl rfl rfl
/-- As far as they are the same. -/
def smB (s o : List Int) (k : Nat) : Bool := (List.range k).all fun j => decide (Qa s j = Qa o j)
def mxB (s o : List Int) (k : Nat) : List Int := o.take k ++ s.drop k
theorem Qc6 {s o : List Int} (hs : s.length = 32) (ho : o.length = 32) : smB s o 32 = decide (o = s) := by
  unfold smB
  by_cases h : o = s
  . rw [decide_eq_true h, h]; simp
  . rw [decide_eq_false h, Bool.eq_false_iff]
    intro hall
    refine h (Xj (by rw [ho, hs]) fun j hj => ?_)
    have := List.all_eq_true.1 hall j (List.mem_range.2 (by omega))
    exact (of_decide_eq_true this).symm
theorem QaL (s o : List Int) (k : Nat) : smB s o (k + 1) = (smB s o k && decide (Qa s k = Qa o k)) := by
  unfold smB
  rw [List.range_succ, List.all_append]
  simp
theorem ER {s o : List Int} (hs : s.length = 32) (ho : o.length = 32) {k : Nat} (hk : k <= 32) : (mxB s o k).length = 32 := by
  unfold mxB; rw [List.length_append, List.length_take, List.length_drop]; omega
theorem QbJ {r s o : List Int} (hr : r.length = 32) (hs : s.length = 32) (ho : o.length = 32) {k : Nat} (hk : k < 32) : (r ++ mxB s o k).set (Int.toNat (32 + (k : Int))) (o.getD (Int.toNat (k : Int)) 0) = r ++ mxB s o (k + 1) := by
  have e : Int.toNat (32 + (k : Int)) = 32 + k := by omega
  rw [e, Int.toNat_natCast, QY]
  rw [List.set_append, if_neg (by omega), hr, show 32 + k - 32 = k by omega]
  congr 1
  unfold mxB
  rw [List.set_append, if_neg (by rw [List.length_take]; omega), List.length_take, show k - min k o.length = 0 by omega]
  rw [List.take_add_one, List.append_assoc]
  congr 1
  have hd : s.drop k = s[k] :: s.drop (k + 1) := (List.getElem_cons_drop (by omega)).symm
  rw [hd, List.set_cons_zero]
  rw [List.getElem?_eq_getElem (by omega)]
  simp [Qa, List.getElem?_eq_getElem (show k < o.length by omega)]
set_option maxHeartbeats 2000000 in
theorem Qf2 {z m o : List Int} (hz : Qb z) (hl : z.length = 32) (hm : Qb m) (ho : Qb o) (hol : o.length = 32) {a0 : Option Addr} {n0 c0 : Nat} (hn : n0 = m.length) : PV Tryd.prog (gS ++ [fB (.slice a0 n0 c0) m]) 4 [.a .u8 z 32, .o a0 n0 c0, .a .u8 o 32] (.l true) := by
  have hA := Qed.up (G' := gS ++ [fB (.slice a0 n0 c0) m]) (fun L w h => h.pre)
  refine PV.mk' Tryd.func4 rfl rfl rfl rfl fun w L hL hG => ?_
  refine S.enter Qm [.a .u8 z 32, .o a0 n0 c0, .a .u8 o 32] (gS ++ [fB (.slice a0 n0 c0) m]) Tryd.func4 rfl rfl rfl (fun _ => rfl) hL hG ?_
  refine S.go false rfl (by repeat' (first | exact True.intro | refine And.intro ?_ ?_ | assumption | omega | (dsimp only; omega) | (simp only [Nat.add_eq, Nat.mul_eq, Nat.sub_eq, SV.wd]; omega) | exact rfl)) ?_
  refine S.cv rfl rfl rfl rfl rfl rfl hA ?_
  refine S.g false rfl ?_
  refine S.cond rfl (fun c => ?_) (fun c => ?_)
  . refine S.g false rfl ?_
    exact S.retv rfl rfl rfl rfl rfl
  . have hml : m.length < 1000000 := by omega
    have hP := (Ha hz hl).up (G' := gS ++ [fB (.slice a0 n0 c0) m]) (fun L w h => h.pre)
    have hS := QaM (a0 := a0) (n0 := n0) (c0 := c0) hm hml hz hl
    have hV := Qav (a0 := a0) (n0 := n0) (c0 := c0) hm hml z hz hl o ho hol
    change PV _ _ _ _ (.a .u8 (Xz z) 32) at hP
    have hrl : (YQ z m).length = 32 := QB _
    have hsl := KR z m
    generalize Xz z = K at *
    generalize YQ z m = R at *
    generalize sB z m = s at *
    have hgl : (R ++ s).length = 64 := by rw [List.length_append]; omega
    refine S.g false rfl ?_
    refine S.cv rfl rfl rfl rfl rfl rfl hS ?_
    refine S.go false rfl (by repeat' (first | exact True.intro | refine And.intro ?_ ?_ | assumption | omega | (dsimp only; omega) | (simp only [Nat.add_eq, Nat.mul_eq, Nat.sub_eq, SV.wd]; omega) | exact rfl)) ?_
    refine S.loop [3, 5, 7, 8, 1] (fun k : Nat => [(9, .l (smB s o k)), (10, .i .i64 (k : Int))]) (fun k => [(0, [.a .u8 z 32]), (1, [.a .u8 o 32]), (2, [.a .u8 (R ++ s) 64]), (3, [.a .u8 (R ++ mxB s o k) 64])]) (fun _ => []) (fun k => k <= 32) (fun k => 32 - k) 0 rfl (fun _ => rfl) (fun _ => rfl) rfl ⟨rfl, ⟨rfl, rfl⟩, trivial⟩ (by repeat' (first | exact True.intro | refine And.intro ?_ ?_ | assumption | exact rfl)) (fun _ _ _ => trivial) (by omega) fun J k hk again => ?_
    have hk' : k <= 32 := hk
    have hxl : (R ++ mxB s o k).length = 64 := by rw [List.length_append, ER hsl hol hk']; omega
    refine S.g false rfl ?_
    refine S.cond rfl (fun c2 => ?_) (fun c2 => ?_)
    . have ck : k < 32 := by omega
      have hstep := QbJ hrl hsl hol ck
      have hxl2 : (R ++ mxB s o (k + 1)).length = 64 := by rw [List.length_append, ER hsl hol (show k + 1 <= 32 by omega)]; omega
      have hat : (R ++ s).getD (Int.toNat (32 + (k : Int))) 0 = Qa s k := by
        have e : Int.toNat (32 + (k : Int)) = 32 + k := by omega
        rw [e, QY]
        unfold Qa
        rw [List.getElem?_append_right (by omega), hrl, show 32 + k - 32 = k by omega]
      have hot : o.getD (Int.toNat (k : Int)) 0 = Qa o k := by rw [Int.toNat_natCast, QY]
      have hsm := QaL s o k
      refine S.go false rfl (by repeat' (first | exact True.intro | refine And.intro ?_ ?_ | omega | (dsimp only; omega) | (simp only [Nat.add_eq, Nat.mul_eq, Nat.sub_eq, SV.wd]; omega) | exact rfl)) ?_
      cases hb : smB s o k with
      | false =>
        rw [hb] at hsm
        refine S.dr0 false rfl rfl rfl ?_ (by repeat' (first | exact True.intro | refine And.intro ?_ ?_ | omega | (dsimp only; omega) | (simp only [Nat.add_eq, Nat.mul_eq, Nat.sub_eq, SV.wd]; omega) | exact rfl))
        refine S.g false rfl ?_
        refine S.again (again (k + 1) (show k + 1 <= 32 by omega) (show 32 - (k + 1) < 32 - k by omega)) ⟨by rw [hsm]; exact rfl, ⟨rfl, by omega⟩, rfl, rfl, rfl, rfl, rfl, trivial⟩ ?_ rfl rfl (fun x hx => hx) rfl (fun ρ W h => h.hs)
        repeat' (first | exact True.intro | refine And.intro ?_ ?_ | exact hxl2 | exact hgl | exact hl | exact hol | exact congrArg (fun y => SV.a .u8 y 64) hstep | exact rfl)
      | true =>
        rw [hb] at hsm
        refine S.dr0 false rfl rfl rfl ?_ (by repeat' (first | exact True.intro | refine And.intro ?_ ?_ | omega | (dsimp only; omega) | (simp only [Nat.add_eq, Nat.mul_eq, Nat.sub_eq, SV.wd]; omega) | exact rfl))
        refine S.g false rfl ?_
        refine S.rd 9 (.l (smB s o (k + 1))) rfl (fun ρ => by rw [hsm]; simp only [SV.den, Bool.true_and]; rw [<- hat, <- hot]) ?_
        refine S.again (again (k + 1) (show k + 1 <= 32 by omega) (show 32 - (k + 1) < 32 - k by omega)) ⟨rfl, ⟨rfl, by omega⟩, rfl, rfl, rfl, rfl, rfl, trivial⟩ ?_ rfl rfl (fun x hx => hx) rfl (fun ρ W h => h.hs)
        repeat' (first | exact True.intro | refine And.intro ?_ ?_ | exact hxl2 | exact hgl | exact hl | exact hol | exact congrArg (fun y => SV.a .u8 y 64) hstep | exact rfl)
    . obtain rfl : k = 32 := by omega
      have hmx : mxB s o 32 = o := by unfold mxB; rw [List.take_of_length_le (by omega), List.drop_eq_nil_of_le (by omega), List.append_nil]
      rw [hmx] at hxl ⊢
      rw [Qc6 hsl hol]
      refine S.g false rfl ?_
      by_cases he : o = s
      . have hv := hV.res (v' := .l true) (by simp only [SV.den]; rw [decide_eq_true he]) rfl
        refine S.rd 9 (.l true) rfl (fun _ => by simp only [SV.den]; rw [decide_eq_true he]) ?_
        refine S.drp false [(1, .a .u8 K 32), (4, .l true)] rfl rfl rfl ?_ (by repeat' (first | exact True.intro | refine And.intro ?_ ?_ | assumption | omega | (dsimp only; omega) | (simp only [Nat.add_eq, Nat.mul_eq, Nat.sub_eq, SV.wd]; omega) | exact rfl))
        refine S.g false rfl ?_
        exact S.retv rfl rfl rfl rfl rfl
      . have hv := hV.res (v' := .l false) (by simp only [SV.den]; rw [decide_eq_false he]) rfl
        refine S.rd 9 (.l false) rfl (fun _ => by simp only [SV.den]; rw [decide_eq_false he]) ?_
        refine S.drp false [(1, .a .u8 K 32), (4, .l false)] rfl rfl rfl ?_ (by repeat' (first | exact True.intro | refine And.intro ?_ ?_ | assumption | omega | (dsimp only; omega) | (simp only [Nat.add_eq, Nat.mul_eq, Nat.sub_eq, SV.wd]; omega) | exact rfl))
        refine S.g false rfl ?_
        exact S.retv rfl rfl rfl rfl rfl
theorem F5 (z : List Int) (v : Value) (m : List Int) (o : List Int) (W : World) (hT : Hs gS [] W) (hz : Qb z) (hl : z.length = 32) (hr : VY .u8 W v m) (hm : Qb m) (ho : Qb o) (hol : o.length = 32) : Calls Tryd.prog 4 #[Q2 .u8 z, v, Q2 .u8 o] W fun e W' => e = .returned (.bool true) /\ Below W.heap.size W W' := by
  obtain ⟨a, c, rfl, hf⟩ := Qgf hr
  refine Calls.mono ((Qf2 hz hl hm ho hol (a0 := a) (c0 := c) rfl).h W [] (fun x h => by cases h) (hT.app ⟨hf, trivial⟩)) fun e W' ⟨u, he, ⟨x, hx, _⟩, hb⟩ => ⟨by rw [he, hx]; rfl, hb⟩
end Go.Proofs.YtbiboamaigedjaaDoor
