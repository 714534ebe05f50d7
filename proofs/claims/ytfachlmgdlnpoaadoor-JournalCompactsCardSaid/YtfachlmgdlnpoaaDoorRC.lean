/- The rounds of sha: all. The sums of sha. Slices of structures as arguments, with what their data weighs. No program stands here. Sealed sectors. A reg -/
import Derived.Test.YtfachlmgdlnpoaaDoorRB
namespace Go.Proofs.YtfachlmgdlnpoaaDoor
open Go.RowKit
set_option linter.unusedVariables false
set_option linter.unusedSimpArgs false
set_option maxRecDepth 8000
set_option maxHeartbeats 2000000

theorem Dp {a b : List Int} (ha : ∀ x ∈ a, 0 <= x /\ x <= 255) (hb : ∀ x ∈ b, 0 <= x /\ x <= 255) : ZK (a ++ b) := fun x hx => (List.mem_append.1 hx).elim (ha x) (hb x)
def RdP (w : World) (v : Value) (ps : List (Value × List Int)) : Prop :=
 ∃ a cap, v = .slice a ps.length cap /\ (ps.length <= cap /\ cap <= maxLen) /\ (∀ k (hk : k < ps.length), ∃ x o, a = some ⟨x, o, none⟩ /\ w.cell? ⟨x, o + k, none⟩ = some (ps[k]'hk).1) /\ ∀ p ∈ ps, H2 .u8 w p.1 p.2 /\ ZK p.2
def Jz (ps : List (Value × List Int)) : List Int := (ps.map (·.2)).flatten
theorem Hr {ps : List (Value × List Int)} {i : Nat} (h : i < ps.length) : Jz (ps.take (i + 1)) = Jz (ps.take i) ++ (ps[i]'h).2 := by
 have e : ps.take (i + 1) = ps.take i ++ [ps[i]'h] := by rw [List.take_add_one, List.getElem?_eq_getElem h]; rfl
 rw [e]
 unfold Jz
 rw [List.map_append, List.flatten_append]
 simp only [List.map_cons, List.map_nil, List.flatten_cons, List.flatten_nil, List.append_nil]
theorem FG (ps : List (Value × List Int)) (i : Nat) : (Jz (ps.take i)).length <= (Jz ps).length := by
 have h : Jz ps = Jz (ps.take i) ++ Jz (ps.drop i) := by
  rw [Jz, Jz, Jz, <- List.flatten_append, <- List.map_append, List.take_append_drop]
 rw [h, List.length_append]
 omega
theorem H1 {ps : List (Value × List Int)} (h : ∀ p ∈ ps, ZK p.2) : ZK (Jz ps) := fun x hx => by
 obtain ⟨l, hl, hxl⟩ := List.mem_flatten.1 hx
 obtain ⟨p, hp, rfl⟩ := List.mem_map.1 hl
 exact h p hp x hxl
theorem Qcn {w : World} {base e n g cap : Nat} {xs : List Value} (h : w.ownsRow base e 1 (.slice (some ⟨g, 0, none⟩) n cap) n xs) : w.ownsRow base e 1 (.slice (some ⟨g, 0, none⟩) 0 cap) 0 [] := by
  obtain ⟨-, h2⟩ := h
  rcases h2 with ⟨h3, -⟩ | ⟨g', cap', cur, e', hb, hh, hn, hm, hs, ht⟩
  . cases h3
  . cases e'
    exact ⟨rfl, .inr ⟨g, cap, cur, rfl, hb, hh, Nat.zero_le _, hm, hs, by simp⟩⟩
theorem QcJ {a b c : World} {B g : Nat} (h : a.grownBy b (some B)) (k : b.grownBy c (some g)) (hg : a.heap.size <= g) : a.grownBy c (some B) :=
 ⟨k.os.trans h.os, k.tape.trans h.tape, k.output.trans h.output, Nat.le_trans h.size k.size, fun i hi hne => (k.block i (Nat.lt_of_lt_of_le hi h.size) (by simp; omega)).trans (h.block i hi hne)⟩
theorem H2.cut {w : World} {x o n c cap : Nat} {zs : List Int} (h : H2 .u8 w (.slice (some ⟨x, o, none⟩) n cap) zs) (hc : c <= zs.length) (q : Option Addr) (hq : c = cap \/ q = some ⟨x, o + c, none⟩) (hq2 : c = cap -> ∃ y, q = some y) : H2 .u8 w (.slice q (n - c) (cap - c)) (zs.drop c) := by
  obtain ⟨a, cap', e, h1, h2, h3, h4⟩ := h
  cases e
  refine ⟨q, cap - c, by simp, by simp; omega, by omega, fun k hk => ?_, fun e => ?_⟩
  . have hk' : c + k < zs.length := by simp at hk; omega
    obtain ⟨x', o', e', hc'⟩ := h3 (c + k) hk'
    cases e'
    rcases hq with rfl | rfl
    . omega
    . exact ⟨x, o + c, rfl, by rw [Nat.add_assoc, hc', Qdd]⟩
  . subst e
    rcases hq with hq | hq
    . omega
    . cases hq
theorem Vz (st D E : List Int) : ∀ k, k * 64 <= D.length -> Xr st (D ++ E) k = Xr st D k
 | 0, _ => rfl
 | k + 1, h => by
  show XS (Xr st (D ++ E) k) (((D ++ E).drop (k * 64)).take 64) = XS (Xr st D k) ((D.drop (k * 64)).take 64)
  rw [Vz st D E k (by omega), List.drop_append_of_le_length (by omega), List.take_append_of_le_length (by simp; omega)]
def UL (st D : List Int) : List Int := Xr st D (D.length / 64)
def ZH (D : List Int) : List Int := D.drop (D.length / 64 * 64)
theorem JK (D : List Int) : (ZH D).length = D.length % 64 := by simp [ZH]; omega
theorem Dg (st D E : List Int) (h : D.length % 64 + E.length < 64) : UL st (D ++ E) = UL st D /\ ZH (D ++ E) = ZH D ++ E := by
 have e : (D ++ E).length / 64 = D.length / 64 := by rw [List.length_append]; omega
 unfold UL ZH
 rw [e]
 exact ⟨Vz st D E _ (by omega), List.drop_append_of_le_length (by omega)⟩
theorem Ex (st D E : List Int) (h : D.length % 64 + E.length = 64) : UL st (D ++ E) = XS (UL st D) (ZH D ++ E) /\ ZH (D ++ E) = [] := by
  have e : (D ++ E).length / 64 = D.length / 64 + 1 := by rw [List.length_append]; omega
  unfold UL ZH
  rw [e]
  constructor
  . show XS (Xr st (D ++ E) (D.length / 64)) (((D ++ E).drop (D.length / 64 * 64)).take 64) = _
    rw [Vz st D E _ (by omega), List.drop_append_of_le_length (by omega), List.take_of_length_le (by simp; omega)]
  . rw [List.drop_eq_nil_iff, List.length_append]; omega
theorem QdZ : ∃ i, Tryd.prog.info? 5 = some i /\ i.zero = some (.int .u8 0) /\ i.size = 1 /\ i.bytes = 1 := by
 have h : (Tryd.prog.info? 5).map (fun i => (i.zero, i.size, i.bytes)) = some (some (.int .u8 0), 1, 1) := by kernel_rfl
 obtain ⟨i, hi, hz⟩ := Option.map_eq_some_iff.1 h
 simp only [Prod.mk.injEq] at hz
 exact ⟨i, hi, hz.1, hz.2.1, hz.2.2⟩
set_option maxHeartbeats 4000000 in
theorem Qel (w0 w : World) (hb0 : Below w0.heap.size w0 w) (B : Nat) (st : List Int) (hr : Zu w B st) (hBn : w0.heap.size <= B) (hT : ZM w0) (v : Value) (ps : List (Value × List Int)) (hp : RdP w0 v ps) (hlen : (Jz ps).length < 1099511627776) :
    Calls Tryd.prog 92 #[.pointer (some ⟨B, 0, none⟩), v] w fun e w' => (∃ v, e = .returned v) /\ Zu w' B (Xr (UL st (Jz ps)) (JH (VJ (ZH (Jz ps)) ((Jz ps).length % 64)) ((Jz ps).length : Int) 8) (Xd ((Jz ps).length % 64) / 64)) /\ w.grownBy w' (some B) := by
  obtain ⟨j0, hj, hy0, hy1, hy2⟩ := QdZ
  obtain ⟨a, cap, rfl, ⟨hpc, hcm⟩, hcell, hrd⟩ := hp
  have hpl : (ps.length : Int) <= 9223372036854775807 := by unfold maxLen at hcm; omega
  clear hpc hcm
  have hB := hr.lt
  have hwd := hr.width
  have hs0 := hb0.size
  replace hcell := Lib.hid hcell
  replace hrd := Lib.hid hrd
  have HBS := fun W => U2 32 W (by omega)
  go_enter Tryd.func92, Tryd.ntmps92
  go_wp2_with (first
    | (go_at_call 96; (with_reducible refine (HBS _).mono ?_); rintro e w9 ⟨rfl, rfl⟩)
    | (with_reducible refine Ko 16 ?_; refine wpList_make_own _ rfl _ _ 40 rfl w9.heap.size 5 j0 (.int .u8 0) 1 Tryd.underlying40 hj hy0 hy1 .i64 .i64 64 64 rfl rfl (by omega) (by rw [hy2]; omega) (by unfold maxLen; omega) (Nat.le_refl _) ?_; intro w1 hown1 hgr1))
  have hg1 : w9.grownBy w1 (some B) := ⟨hgr1.os, hgr1.tape, hgr1.output, hgr1.size, fun k hk _ => hgr1.block k hk (by simp)⟩
  have hr1 : Zu w1 B st := hr.but hgr1 (by simp)
  clear hgr1 hwd
  go_loopw [5, 6, 19] (fun v5 v6 v19 wr => ∃ (i : Nat), i <= ps.length /\ v19 = .int .i64 i /\ v6 = .int .i64 ((Jz (ps.take i)).length : Nat) /\ v5 = .slice (some ⟨w9.heap.size, 0, none⟩) ((Jz (ps.take i)).length % 64) 64 /\ Zu wr B (UL st (Jz (ps.take i))) /\ wr.ownsRow w9.heap.size 5 1 (.slice (some ⟨w9.heap.size, 0, none⟩) ((Jz (ps.take i)).length % 64) 64) ((Jz (ps.take i)).length % 64) ((ZH (Jz (ps.take i))).map (Value.int .u8)) /\ w9.grownBy wr (some B)) (fun _ _ i _ => ps.length - (intOf i).toNat)
  case atStart =>
    have z0 : Jz (ps.take 0) = [] := by rw [List.take_zero]; rfl
    have z1 : UL st [] = st := by simp [UL, Xr]
    have z2 : ZH [] = [] := by simp [ZH]
    refine ⟨0, by omega, rfl, by rw [z0]; rfl, by rw [z0]; rfl, by rw [z0, z1]; exact hr1, by rw [z0, z2]; exact hown1, hg1⟩
  case round =>
    clear hr1 hown1 hg1
    obtain ⟨i, hi, rfl, rfl, rfl, hr1, hown1, hg1⟩ := hrel
    have hB1 : Below w0.heap.size w0 wr := hb0.grown hg1 hs0 (fun k hk => by cases hk; exact hBn)
    by_cases hlt : i < ps.length
    . obtain ⟨x, o, rfl, hc⟩ := hcell.out i hlt
      obtain ⟨hrp, hbz⟩ := hrd.out _ (List.getElem_mem hlt)
      have hct := Hr hlt
      have hle := FG ps (i + 1)
      rw [hct, List.length_append] at hle
      have hltI : (i : Int) < (ps.length : Int) := by omega
      have hltH := Lib.hid hlt
      have hbD : RowKit.Hid (ZK (Jz (ps.take i))) := Lib.hid (H1 fun p hp => (hrd.out p (List.mem_of_mem_take hp)).2)
      generalize (ps[i]'hlt).2 = zs at *
      generalize (ps[i]'hlt).1 = pv at *
      generalize hD : Jz (ps.take i) = D at *
      replace hct := Lib.hid hct
      replace hD := Lib.hid hD
      replace hc : wr.cell? ⟨x, o + i, none⟩ = some pv := by rw [hB1.cell (World.block_lt_of_cell? w0 _ hc)]; exact hc
      obtain ⟨ap, capp, rfl, hp1, hp2, hp3, hp4⟩ := hrp
      have hrp : H2 .u8 w0 (.slice ap zs.length capp) zs := ⟨ap, capp, rfl, hp1, hp2, hp3, hp4⟩
      replace hp3 := Lib.hid hp3
      replace hrp := Lib.hid hrp
      have hDn : ((D.length : Nat) : Int) < 1099511627776 := by omega
      have hzn : ((zs.length : Nat) : Int) < 1099511627776 := by omega
      have hDl : (D.length : Int) + (zs.length : Int) < 1099511627776 := by omega
      clear hp4 hle
      go_wp2
      go_loopw [5, 8] (fun v5 v8 wq => ∃ (E rest : List Int), zs = E ++ rest /\ H2 .u8 w0 v8 rest /\ v5 = .slice (some ⟨w9.heap.size, 0, none⟩) ((D ++ E).length % 64) 64 /\ Zu wq B (UL st (D ++ E)) /\ wq.ownsRow w9.heap.size 5 1 (.slice (some ⟨w9.heap.size, 0, none⟩) ((D ++ E).length % 64) 64) ((D ++ E).length % 64) ((ZH (D ++ E)).map (Value.int .u8)) /\ w9.grownBy wq (some B)) (fun _ v8 _ => match v8 with | .slice _ n _ => n | _ => 0)
      case atStart => exact ⟨[], zs, rfl, hrp.out, by rw [List.append_nil], by rw [List.append_nil]; exact hr1, by rw [List.append_nil]; exact hown1, hg1⟩
      case round =>
        clear hr1 hown1 hg1 hB1 hc
        obtain ⟨E, rest, hz, hrq, rfl, hr1, hown1, hg1⟩ := hrel
        have hB1 := hb0.grown hg1 hs0 (fun k hk => by cases hk; exact hBn)
        have hzl : zs.length = E.length + rest.length := by rw [hz, List.length_append]
        have hFl : (D ++ E).length = D.length + E.length := List.length_append
        have hbF' : ZK (D ++ E) := fun x hx => by
          rcases List.mem_append.1 hx with h | h
          . exact hbD.out x h
          . exact hbz x (by rw [hz]; simp [h])
        have hbr : ZK rest := fun x hx => hbz x (by rw [hz]; simp [hx])
        obtain ⟨aq, capq, rfl, q1, q2, q3, q4⟩ := hrq
        have hrq : H2 .u8 w0 (.slice aq rest.length capq) rest := ⟨aq, capq, rfl, q1, q2, q3, q4⟩
        replace hrq := Lib.hid hrq
        replace q3 := Lib.hid q3
        by_cases hr0 : 0 < rest.length
        . obtain ⟨y, oy, rfl, -⟩ := q3.out 0 hr0
          have hn := Nat.mod_lt (D ++ E).length (show 0 < 64 by decide)
          have hhl := JK (D ++ E)
          have hrI : (0 : Int) < (rest.length : Int) := by omega
          replace hz := Lib.hid hz
          replace hzl := Lib.hid hzl
          replace hFl := Lib.hid hFl
          generalize hF : D ++ E = F at *
          have hbF := Lib.hid hbF'
          clear hbF'
          replace hF := Lib.hid hF
          generalize hnn : F.length % 64 = n at *
          replace hnn := Lib.hid hnn
          obtain ⟨c, hcd⟩ : ∃ c, c = if n + rest.length < 64 then rest.length else 64 - n := ⟨_, rfl⟩
          have hc0 : 0 < c /\ c <= rest.length /\ n + c <= 64 /\ (n + c < 64 -> c = rest.length) := by split at hcd <;> omega
          have hmin : min ((64 : Int) - (n : Int)) (rest.length : Int) = (c : Int) := by split at hcd <;> omega
          obtain ⟨hc1, hc2, hc3, hc4⟩ := hc0
          have hcI : (c : Int) <= (rest.length : Int) := by omega
          have hcI0 : (0 : Int) <= (c : Int) := by omega
          have hnw : ((rest.take c).map (Value.int .u8)).length = c * 1 := by simp [hc2]
          have hcw : ∀ j u, ((rest.take c).map (Value.int .u8))[j]? = some u -> wr.cell? ((⟨y, oy, none⟩ : Addr).add j) = some u := fun j u hj => by
            have hjc : j < c := by
              have := (List.getElem?_eq_some_iff.1 hj).1
              rw [hnw] at this
              omega
            obtain ⟨y', oy', e, hcy⟩ := q3.out j (by omega)
            cases e
            rw [Addr.add_lit, hB1.cell (World.block_lt_of_cell? w0 _ hcy), hcy, <- hj]
            simp [hjc, QX, show j < rest.length by omega]
          have hone : ∀ u ∈ (rest.take c).map (Value.int .u8), u.oneCell' = true := by
            intro u hu
            obtain ⟨z, -, rfl⟩ := List.mem_map.1 hu
            rfl
          replace hnw := Lib.hid hnw
          replace hcw := Lib.hid hcw
          replace hone := Lib.hid hone
          replace hcd := Lib.hid hcd
          replace hc4 := Lib.hid hc4
          clear q4 hzn hDn hDl
          have hG : D ++ (E ++ rest.take c) = F ++ rest.take c := by rw [<- List.append_assoc, hF.out]
          have hzc : zs = (E ++ rest.take c) ++ rest.drop c := by rw [List.append_assoc, List.take_append_drop]; exact hz.out
          have hXl : (rest.take c).length = c := by simp [hc2]
          have hBB : B ≠ w9.heap.size := by omega
          have hgB2 : ∀ w2, wr.grownBy w2 (some w9.heap.size) -> w9.grownBy w2 (some B) := fun w2 hg2 => QcJ hg1 hg2 (Nat.le_refl _)
          have hTt := hT.lt
          have hTsq : 0 ≠ B := by omega
          have hTcu : 3 ≠ B := by omega
          have hcut : H2 .u8 w0 (.slice (if capq = c then some ⟨y, oy, none⟩ else some ⟨y, oy + c, none⟩) (rest.length - c) (capq - c)) (rest.drop c) := by
            by_cases e : capq = c
            . rw [if_pos e]; exact H2.cut hrq.out hc2 (some ⟨y, oy, none⟩) (.inl e.symm) (fun _ => ⟨_, rfl⟩)
            . rw [if_neg e]; exact H2.cut hrq.out hc2 (some ⟨y, oy + c, none⟩) (.inr rfl) (fun _ => ⟨_, rfl⟩)
          replace hG := Lib.hid hG
          replace hzc := Lib.hid hzc
          replace hXl := Lib.hid hXl
          replace hgB2 := Lib.hid hgB2
          replace hcut := Lib.hid hcut
          clear hz
          by_cases hful : n + c = 64
          . have hfI : ((n : Nat) : Int) + ((c : Nat) : Int) = 64 := by omega
            have hff := Ex st F (rest.take c) (by rw [hnn.out, hXl.out, hful])
            have hvl : (ZH F ++ rest.take c).length = 64 := by rw [List.length_append, hhl, hXl.out, hful]
            have hGl : (F ++ rest.take c).length % 64 = 0 := by rw [List.length_append, hXl.out]; have := hnn.out; omega
            have hvb : ZK (ZH F ++ rest.take c) := Dp (fun x hx => ?hb1) (fun x hx => hbr x (List.mem_of_mem_take hx))
            case hb1 => exact hbF.out x (List.mem_of_mem_drop hx)
            obtain ⟨hff1, hff2⟩ := hff
            replace hff1 := Lib.hid hff1
            replace hff2 := Lib.hid hff2
            replace hvb := Lib.hid hvb
            replace hGl := Lib.hid hGl
            replace hvl := Lib.hid hvl
            go_wp2_with (first
              | (with_reducible refine Ko 41 ?_; refine wpList_append_fits _ rfl _ _ 40 rfl w9.heap.size 5 j0 1 Tryd.underlying40 hj hy1 w9.heap.size n 64 _ rfl hown1 ⟨y, oy, none⟩ c capq _ rfl hnw.out hcw.out hone.out hc3 ?_; intro w2 hown2 hg2; rw [hful, <- List.map_append] at hown2; have hr2 := hr1.but hg2 (by simpa using hBB); have hgg2 := hgB2.out _ hg2; have hT2 : ZM w2 := hT.below (hb0.grown hgg2 hs0 (fun k hk => by cases hk; exact hBn)); have hv2 := H2.of_own hown2; have HT := FY w2 B _ hr2 hT2 hTsq hTcu _ _ hv2 hvb.out hvl.out)
              | (go_at_call 97; (with_reducible refine HT.mono ?_); rintro e w3 ⟨⟨v9, rfl⟩, hr3, hg3⟩; have hown3 := Qcn (hown2.kept hg3 (.inr (by simpa [Value.ownBlock] using fun e => hBB e.symm))); have hgg3 := JL hgg2 hg3))
            refine ⟨⟨E ++ rest.take c, rest.drop c, hzc.out, hcut.out, by rw [hG.out, hGl.out], ?_, ?_, hgg3⟩, by show rest.length - c < rest.length; omega⟩
            . rw [hG.out, hff1.out]; exact hr3
            . rw [hG.out, hff2.out, hGl.out]; exact hown3
          . have hneI : ¬ (((n : Nat) : Int) + ((c : Nat) : Int) = 64) := by omega
            have hff := Dg st F (rest.take c) (by rw [hnn.out, hXl.out]; omega)
            have hGl : (F ++ rest.take c).length % 64 = n + c := by rw [List.length_append, hXl.out]; have := hnn.out; omega
            obtain ⟨hff1, hff2⟩ := hff
            replace hff1 := Lib.hid hff1
            replace hff2 := Lib.hid hff2
            replace hGl := Lib.hid hGl
            go_wp2_with (first
              | (with_reducible refine Ko 41 ?_; refine wpList_append_fits _ rfl _ _ 40 rfl w9.heap.size 5 j0 1 Tryd.underlying40 hj hy1 w9.heap.size n 64 _ rfl hown1 ⟨y, oy, none⟩ c capq _ rfl hnw.out hcw.out hone.out hc3 ?_; intro w2 hown2 hg2; rw [<- List.map_append] at hown2; have hr2 := hr1.but hg2 (by simpa using hBB); have hgg2 := hgB2.out _ hg2))
            refine ⟨⟨E ++ rest.take c, rest.drop c, hzc.out, hcut.out, by rw [hG.out, hGl.out], ?_, ?_, hgg2⟩, by show rest.length - c < rest.length; omega⟩
            . rw [hG.out, hff1.out]; exact hr2
            . rw [hG.out, hff2.out, hGl.out]; exact hown2
        . have hre : rest = [] := List.length_eq_zero_iff.1 (by omega)
          subst hre
          rw [List.append_nil] at hz
          subst hz
          clear hrq q3
          go_wp2
          have hlt2 := hltH.out
          refine ⟨⟨i + 1, by omega, by go_num, ?_, by rw [hct.out], by rw [hct.out]; exact hr1, by rw [hct.out]; exact hown1, hg1⟩, by simp only [intOf]; omega⟩
          rw [hct.out, List.length_append, Int.natCast_add]
    . obtain rfl : i = ps.length := by omega
      rw [List.take_length] at hr1 hown1
      rw [List.take_length]
      generalize hD : Jz ps = D at *
      have hhl := JK D
      have hbD : ZK (ZH D) := fun x hx => by
        have := H1 fun p hp => (hrd.out p hp).2
        rw [hD] at this
        exact this x (List.mem_of_mem_drop hx)
      have hT1 : ZM wr := hT.below hB1
      have hTt := hT.lt
      have hmod : D.length % 64 < 64 := Nat.mod_lt _ (by decide)
      have hcl : ∀ q, q < D.length % 64 -> wr.cell? ⟨w9.heap.size, q, none⟩ = some (.int .u8 (QX (ZH D) q)) := fun q hq => by
        have h := H2.of_own hown1
        obtain ⟨a', cap', e', h1, h2, h3, -⟩ := h
        obtain ⟨x', o', e2, hc2⟩ := h3 q (by rw [hhl]; exact hq)
        simp only [Value.slice.injEq] at e'
        obtain ⟨ea, -, -⟩ := e'
        rw [<- ea] at e2
        cases e2
        rwa [Nat.zero_add] at hc2
      have HL := QcE wr B _ hr1 hT1 (by omega) (by omega) w9.heap.size (ZH D) (D.length % 64) hcl hhl hmod hbD (D.length : Int) (by omega) (by omega)
      clear hcl hown1
      go_wp2_with (first
        | (go_at_call 98; (with_reducible refine HL.mono ?_); rintro e w3 ⟨⟨v9, rfl⟩, hr3, hg3⟩))
      refine bodyPost_end (results_none rfl _ _ _) rfl ?_
      rw [hD]
      exact ⟨⟨_, rfl⟩, hr3, JL hg1 hg3⟩
theorem Qbz {P : Program} {ops : Array Oper} {Q : Exit -> Act -> World -> Prop} {l : List Oper} {a : Act} {w : World} (h : ∀ W, W = w -> wpList P ops Q l a W) : wpList P ops Q l a w := h w rfl
def XK (D : List Int) : List Int := XX (Xr (UL XM D) (JH (VJ (ZH D) (D.length % 64)) (D.length : Int) 8) (Xd (D.length % 64) / 64))
theorem FM : (Tryd.prog.info? 132).bind (·.zero) = some (.agg (Array.replicate 32 (Value.int .u8 0))) := by kernel_rfl
theorem G8 : (Tryd.prog.info? 132).map (·.size) = some 32 := by kernel_rfl
theorem Dy : Tryd.prog.underlying 132 = some (.array 32 5) := by kernel_rfl
theorem Qaq : ∀ x ∈ List.replicate 8 (0 : Int), Zo x := fun x hx => by
 obtain ⟨-, rfl⟩ := List.mem_replicate.1 hx
 unfold Zo; omega
theorem QbU {w : World} {B : Nat} {cur : Array Value} {t : TypeId} (h : w.heap[B]? = some (.cells cur t (0, 0))) : Zu (w.setRow B #[.int .i64 32, .int .i64 64, .int .u32 0, .int .u32 0, .int .u32 0, .int .u32 0, .int .u32 0, .int .u32 0, .int .u32 0, .int .u32 0, .func (.func 86) #[] #[], .func (.func 88) #[] #[], .func (.func 89) #[] #[], .func (.func 90) #[] #[]]) B (List.replicate 8 0) :=
 ⟨rfl, Qaq, t, setRow_heap _ _ _ _ _ _ h⟩
set_option maxHeartbeats 4000000 in
theorem Qdx (w : World) (hT : ZM w) (v : Value) (ps : List (Value × List Int)) (hp : RdP w v ps) (hlen : (Jz ps).length < 1099511627776) :
  Calls Tryd.prog 81 #[v] w fun e w' => e = .returned (Z6 .u8 (XK (Jz ps))) /\ Below w.heap.size w w' := by
 go_enter Tryd.func81, Tryd.ntmps81
 have hTt := hT.lt
 go_wp2_with (first
  | (with_reducible refine Ko 2 ?_; refine Ys rfl 132 rfl .u8 32 FM ?_; intro w1 A1 s1 b1)
  | (with_reducible refine Qan (o := ⟨_, .store 143 _ _, _, _, _, _⟩) ?_; refine wpList_store_row rfl 143 _ _ rfl w1.heap.size _ rfl rfl 143 _ (heap_alloc_new _ _) (by kernel_rfl) (by simp) (by simp [Value.oneCell']) ?_; refine Qbz fun w3 hw3 => ?_; have hr3 : Zu w3 w1.heap.size (List.replicate 8 0) := (by rw [hw3]; exact QbU (heap_alloc_new _ _)); have b3 : Below w1.heap.size w1 w3 := (by rw [hw3]; exact Uo ((Below.refl _ _).alloc (Nat.le_refl _) _) (Nat.le_refl _) _); clear hw3; have bb3 := Qe b1 b3; have hT3 := hT.below bb3; replace A1 := A1.below b3; have s3 := hr3.lt)
  | (go_at_call 91; (with_reducible refine (Qbk w3 w1.heap.size _ hr3 hT3 (by omega) (by omega)).mono ?_); rintro e w4 ⟨⟨v4, rfl⟩, hr4, hg4⟩; have bb4 : Below w.heap.size w w4 := bb3.grown hg4 bb3.size (fun k hk => by cases hk; exact b1.size); replace A1 := Gk A1 hg4 (by simp; omega))
  | (go_at_call 92; (with_reducible refine (Qel w w4 bb4 w1.heap.size _ hr4 b1.size hT v ps hp hlen).mono ?_); rintro e w5 ⟨⟨v5, rfl⟩, hr5, hg5⟩; have bb5 : Below w.heap.size w w5 := bb4.grown hg5 bb4.size (fun k hk => by cases hk; exact b1.size); replace A1 := Gk A1 hg5 (by simp; omega))
  | (with_reducible refine Ko 4 ?_; refine Ys rfl 132 rfl .u8 32 FM ?_; intro w6 A6 s6 b6; have bb6 := Qe bb5 b6; replace A1 := A1.below b6; have hr6 := hr5.below b6; have hz6 := A1.lt; have hz7 := hr5.lt; have hz8 := b1.size; have hz9 := bb5.size)
  | (go_at_call 93; (with_reducible refine (QbE w6 w1.heap.size w5.heap.size _ _ hr6 A6 (by simp) (by omega)).mono ?_); rintro e w7 ⟨⟨v7, rfl⟩, A7, hg7⟩; have bb7 : Below w.heap.size w w7 := bb6.grown hg7 bb6.size (fun k hk => by cases hk; exact bb5.size); replace A1 := Gk A1 hg7 (by simp; omega))
  | (with_reducible refine Ko 11 ?_; refine JT rfl 132 _ rfl 32 5 Dy G8 w5.heap.size rfl .u8 _ A7 (by simp [XX]) ?_)
  | (with_reducible refine Qan (o := ⟨_, .store 132 _ _, _, _, _, _⟩) ?_; refine V3 rfl 132 _ _ rfl 32 G8 w.heap.size rfl .u8 _ _ rfl A1 (by simp) (by simp [XX]) ?_; intro A9))
 refine bodyPost_ret (Jw rfl _ 32 5 Dy G8 w.heap.size rfl .u8 _ A9 (by simp [XX])) rfl ?_
 exact ⟨rfl, Uo bb7 (Nat.le_refl _) _⟩
end Go.Proofs.YtfachlmgdlnpoaaDoor
namespace Go.Proofs.YtfachlmgdlnpoaaDoor
open Go.ChangeShapes Go.WideShapes Go.ChangeAt Go.RowKit
set_option linter.unusedVariables false
section
variable {P : Program} {H : Type} {enc : TypeId × Value -> H} {W : World} {base : Nat} {sp : Nat -> Bool} {held : Bool}
end
end Go.Proofs.YtfachlmgdlnpoaaDoor
namespace Go.Proofs.YtfachlmgdlnpoaaDoor
open Go.RowKit
set_option linter.unusedVariables false
set_option linter.unusedSimpArgs false
set_option maxRecDepth 8000
set_option maxHeartbeats 2000000

theorem Ji {α : Type} {f : α -> Value} : ∀ xs : List α, (xs.map (fun x => [f x])).flatten = xs.map f
 | [] => rfl
 | x :: xs => by rw [List.map_cons, List.flatten_cons, Ji xs]; rfl
theorem Qbl {zs : List Int} {k : Nat} (h : k < zs.length) : zs[k]? = some (QX zs k) := by
 unfold QX
 simp [List.getD_eq_getElem?_getD, List.getElem?_eq_getElem h]
theorem DQ {L : List Nat} {w : World} {v : Value} {zs : List Int} (h : QD 1 L w v (Vw zs)) : H2 .u8 w v zs := by
 obtain ⟨_, _, a, cap, rfl, h2, h3, h4, h5⟩ := h
 rw [List.length_map] at h2 ⊢
 refine ⟨a, cap, rfl, h2, h3, fun k hk => ?_, h4⟩
 obtain ⟨X, q, rfl, _, hr⟩ := h5 (fun e => by have := congrArg List.length e; rw [List.length_map, List.length_nil] at this; omega)
 refine ⟨X, q, rfl, ?_⟩
 have := hr k (.int .u8 (QX zs k)) (by rw [show Vw zs = zs.map (fun x => [Value.int .u8 x]) from rfl, Ji, List.getElem?_map, Qbl hk]; rfl)
 exact this
theorem QbH (D : List Int) (u v : Value) (w : World) (L : List Nat) (hL : LL L w) (h : QD 1 L w v [[u]]) (hu : QD 1 L w u (Vw D)) (hB : Z0 D) (hlen : D.length <= 1000000) (hT : ZM w) : CV Tryd.prog 81 [v] w fun v' W => v' = .agg (Qr (XK D)).toArray := by
  have hp : RdP w v [(u, D)] := by
    obtain ⟨_, _, a, cap, rfl, h2, h3, h4, h5⟩ := h
    refine ⟨a, cap, rfl, ⟨h2, h3⟩, fun k hk => ?_, fun p hp => ?_⟩
    . obtain ⟨X, q, rfl, _, hr⟩ := h5 (by simp)
      refine ⟨X, q, rfl, ?_⟩
      have hk0 : k = 0 := by simp at hk; omega
      subst hk0
      exact hr 0 u rfl
    . rw [List.mem_singleton.1 hp]; exact ⟨DQ hu, hB⟩
  have e : Jz [(u, D)] = D := by simp [Jz]
  have := Qdx w hT v [(u, D)] hp (by rw [e]; omega)
  rw [e] at this
  exact Calls.mono this fun e' w' h' => ⟨_, h'.1, rfl, h'.2⟩
theorem VB (D : List Int) : (XK D).length = 32 := by unfold XK XX; simp
theorem QaA (D : List Int) : Z0 (XK D) := fun x hx => by
 unfold XK XX at hx
 obtain ⟨i, _, rfl⟩ := List.mem_map.1 hx
 omega
abbrev zr (n : Nat) : List Int := List.replicate n 0
theorem GU {a l : List Int} {m k : Nat} (hk : a.length = k) (h : l.length <= m) : Zk (a ++ zr m) k l = (a ++ l) ++ zr (m - l.length) := by
 subst hk
 unfold Zk
 rw [List.take_left, List.drop_append, List.drop_of_length_le (by omega), List.nil_append, List.append_assoc, show a.length + l.length - a.length = l.length by omega, List.drop_replicate]
theorem EX {a : List Int} {n k : Nat} {x : Int} (hk : a.length = k) : (Qr (a ++ zr (n + 1))).take k ++ ([Value.int .u8 x] ++ (Qr (a ++ zr (n + 1))).drop (k + 1)) = Qr ((a ++ [x]) ++ zr n) := by
 subst hk
 unfold Qr
 rw [List.map_append, List.take_append_of_le_length (by simp), List.take_of_length_le (by simp), List.drop_append, List.drop_of_length_le (by simp), List.nil_append, List.length_map, show a.length + 1 - a.length = 1 by omega]
 simp [List.replicate_succ]
theorem Qce (a : List Int) (m k c o0 : Nat) (n : Int) (P : Nat) (w : World) (L : List Nat) (hL : LL L w) (hPL : P ∈ L) (hp : Xc w P (Qr (a ++ zr m))) (ho : a.length = o0) (hk : k <= m) (hk8 : k <= 8) : CW Tryd.prog 75 [.slice (some ⟨P, o0, none⟩) k c, .int .i64 n] w P fun v W => v = .tuple #[] /\ Xc W P (Qr ((a ++ ZG k n) ++ zr (m - k))) := by
 have e := Qeq (a ++ zr m) [] o0 k c n P w L hL hPL (by rw [show ZG 0 n = [] from rfl, QaP, List.append_nil]; exact hp) (by rw [List.length_append, List.length_replicate]; omega) hk8
 simp only [List.append_nil] at e
 rw [GU ho (by rw [Xp]; exact hk), Xp] at e
 exact e
theorem JQ {w : World} {B : Nat} {z : List Int} (h : Xc w B (Qr z)) (o0 k c : Nat) (ho : o0 + k <= z.length) (hc : k <= c) (hm : c <= maxLen) : QD 1 [] w (.slice (some ⟨B, o0, none⟩) k c) (Vw ((z.drop o0).take k)) := by
 have hl : (Vw ((z.drop o0).take k)).length = k := by simp; omega
 refine ⟨Nat.one_pos, fun r hr => by obtain ⟨x, _, rfl⟩ := List.mem_map.1 hr; rfl, some ⟨B, o0, none⟩, c, by rw [hl], by rw [hl]; exact hc, hm, fun e => (by cases e), fun _ => ⟨B, o0, rfl, fun e => (by cases e), ?_⟩⟩
 rw [Ji]
 have := h.part o0 k
 unfold Qr at this
 rw [<- List.map_drop, <- List.map_take] at this
 exact this
structure Pg where
 gen : Int
 idx : Int
 mks : Int
 dat : List Int
def XN (p : Pg) : List Int := (((ZG 8 p.gen ++ ZG 4 p.idx) ++ [(p.dat.length : Int) % 256]) ++ [p.mks % 256]) ++ p.dat ++ zr (106 - p.dat.length)
def Xk (p : Pg) : List Int := XN p ++ (XK (XN p)).take 8
theorem YG {p : Pg} (h : p.dat.length <= 106) : (XN p).length = 120 := by
 unfold XN
 simp only [List.length_append, Xp, List.length_singleton, List.length_replicate]
 omega
theorem Z8 {p : Pg} (h : p.dat.length <= 106) : (Xk p).length = 128 := by
 unfold Xk
 rw [List.length_append, YG h, List.length_take, VB]; rfl
theorem KG {p : Pg} (h : Z0 p.dat) : Z0 (XN p) := fun x hx => by
 unfold XN at hx
 simp only [List.mem_append, List.mem_singleton, List.mem_replicate] at hx
 rcases hx with (((( hx | hx) | hx) | hx) | hx) | hx
 . exact KE _ _ x hx
 . exact KE _ _ x hx
 . omega
 . omega
 . exact h x hx
 . omega
theorem QaE {p : Pg} (h : Z0 p.dat) : Z0 (Xk p) := fun x hx => by
 rcases List.mem_append.1 hx with hx | hx
 . exact KG h x hx
 . exact QaA _ x (List.mem_of_mem_take hx)
theorem HZ : (Value.agg (Array.replicate 32 (Value.int .u8 0))).cells.toList = Qr (zr 32) := by simp [Value.cells, Qr]
theorem QbP {gen idx mk : Int} {dat : List Int} (h : dat.length <= 100) : Zk (Qr (((((([] : List Int) ++ ZG 8 gen) ++ ZG 4 idx) ++ [(dat.length : Int) % 256]) ++ [mk % 256]) ++ zr 114)) 14 (dat.map (Value.int .u8)) = Qr (XN ⟨gen, idx, mk, dat⟩ ++ zr 8) := by
 have e := GU (a := ((((([] : List Int) ++ ZG 8 gen) ++ ZG 4 idx) ++ [(dat.length : Int) % 256]) ++ [mk % 256])) (l := dat) (m := 114) (k := 14) (by simp [Xp]) (by omega)
 have e2 := congrArg Qr e
 unfold Qr at e2
 rw [HK] at e2
 unfold Qr
 rw [e2]
 congr 1
 unfold XN
 show _ = _ ++ zr (106 - dat.length) ++ zr 8
 rw [List.append_assoc (_ ++ dat) (zr (106 - dat.length)) (zr 8), List.replicate_append_replicate, show 106 - dat.length + 8 = 114 - dat.length by omega, List.nil_append]
theorem QbQ {p : Pg} (h : p.dat.length <= 106) : Zk (Qr (XN p ++ zr 8)) 120 ((Qr (XK (XN p))).take 8) = Qr (Xk p) := by
 have e := GU (a := XN p) (l := (XK (XN p)).take 8) (m := 8) (k := 120) (YG h) (by rw [List.length_take]; omega)
 have e2 := congrArg Qr e
 unfold Qr at e2
 rw [HK, List.map_take] at e2
 unfold Qr
 rw [e2]
 unfold Xk
 rw [List.length_take, VB]
 simp
set_option maxHeartbeats 1000000 in
theorem QbO (gen idx mk : Int) (dat : List Int) (dv : Value) (w : World) (L : List Nat) (hL : LL L w) (h1 : QD 1 L w dv (Vw dat))  (hby : Z0 dat) (hdl : dat.length <= 100) (hT : ZM w) : CV Tryd.prog 64 [.agg #[.int .i64 gen, .int .i64 idx, .int .i64 mk, dv]] w fun v W => v = .agg (Qr (Xk ⟨gen, idx, mk, dat⟩)).toArray := by
 refine QN (N := 33) (f := [(0, .agg #[.int .i64 gen, .int .i64 idx, .int .i64 mk, dv])]) Tryd.func64 rfl rfl rfl rfl fun Q hQ hE => ?_
 have hB := Below.refl w.heap.size w
 refine Sq fun K1 hK1 => (Rg ?_)
 refine Ge (Xa rfl rfl rfl) rfl rfl ?_
 rintro _ W2 ⟨rfl, k3, b4, z5⟩
 have l6 := hB.size
 replace h1 := h1.more b4 (Nat.le_refl _)
 replace hB := Qe hB b4
 replace hL := LL.more hL z5
 refine Ge (Qu (cs := Qr z0) rfl ZE Yh) rfl rfl ?_
 rintro _ W7 ⟨rfl, k8, b9, z10⟩
 have l12 := hB.size
 replace h1 := h1.more b9 (Nat.le_refl _)
 replace k3 := k3.below b9
 replace hB := Qe hB b9
 replace hL := LL.more hL z10
 refine Ni (hK1 (Sq fun K13 hK13 => (Rg ?_)))
 refine Ge (Qu (cs := Qr z0) rfl ZE Yh) rfl rfl ?_
 rintro _ W14 ⟨rfl, k15, b16, z17⟩
 have n18 : w.heap.size ≠ W7.heap.size := Nat.ne_of_lt k3.lt
 have n19 : W2.heap.size ≠ W7.heap.size := Nat.ne_of_lt k8.lt
 have l20 := hB.size
 replace h1 := h1.more b16 (Nat.le_refl _)
 replace k3 := k3.below b16
 replace k8 := k8.below b16
 replace hB := Qe hB b16
 replace hL := LL.more hL z17
 refine Ni (hK13 (Sq fun K21 hK21 => ?_))
 replace k15 : Xc W14 W7.heap.size (Qr (([] : List Int) ++ zr 128)) := k15
 refine dM 3 [(some 5, .is (.slice (some ⟨W7.heap.size, 0, none⟩) 8 128)), (some 6, .is (.pointer (some ⟨w.heap.size, 0, none⟩))), (some 7, .is (.int .i64 gen))] [[], [], [1]] (by exact trivial) ?_ ?_
 .
  refine Dc (fun Wd hd => ?_) ?_
  .
   exact Dd (Jl 8 rfl Tryd.underlying75 QA rfl rfl (by omega) (by omega) (by decide)) rfl
  refine Dc (fun Wd hd => ?_) ?_
  .
   exact Dd (Qn (o1 := 0) rfl Yu rfl rfl) rfl
  refine Dc (fun Wd hd => ?_) ?_
  .
   have k3 := k3.below hd
   exact Dd (Qi rfl Qv rfl (k3.cell (k := 0) rfl)) rfl
  exact trivial
 .
  intro W22 b23
  replace h1 := h1.below b23
  replace k3 := k3.below b23
  replace k8 := k8.below b23
  replace k15 := k15.below b23
  replace hB := Qe hB b23
  replace hL := LL.below hL b23
  refine Ge (U0 rfl Tryd.func75 rfl rfl rfl (Qce ([] : List Int) 128 8 128 0 gen W7.heap.size W22 _ hL (.head _) k15 rfl (by omega) (by omega))) rfl rfl ?_
  rintro _ W25 ⟨⟨rfl, hp26⟩, g24⟩
  replace h1 := h1.chgL g24 (.head _)
  replace k3 := k3.chg g24 n18
  replace k8 := k8.chg g24 n19
  replace hB := g24.toBelow hB l20
  replace hL := hL.chg g24
  refine Ni (hK21 (Sq fun K27 hK27 => ?_))
  refine dM 3 [(some 9, .is (.slice (some ⟨W7.heap.size, 8, none⟩) 4 120)), (some 10, .is (.pointer (some ⟨w.heap.size, 1, none⟩))), (some 11, .is (.int .i64 idx))] [[], [], [1]] (by exact trivial) ?_ ?_
  .
   refine Dc (fun Wd hd => ?_) ?_
   .
    exact Dd (VN (o1 := 8) (m := 4) (c := 120) 8 12 rfl Tryd.underlying75 QA rfl rfl rfl (by omega) (by omega) (by omega) (by omega) (by omega) rfl rfl rfl) rfl
   refine Dc (fun Wd hd => ?_) ?_
   .
    exact Dd (Qn (o1 := 1) rfl Vb rfl rfl) rfl
   refine Dc (fun Wd hd => ?_) ?_
   .
    have k3 := k3.below hd
    exact Dd (Qi rfl Qv rfl (k3.cell (k := 1) rfl)) rfl
   exact trivial
  .
   intro W28 b29
   replace h1 := h1.below b29
   replace k3 := k3.below b29
   replace k8 := k8.below b29
   replace hp26 := hp26.below b29
   replace hB := Qe hB b29
   replace hL := LL.below hL b29
   refine Ge (U0 rfl Tryd.func75 rfl rfl rfl (Qce (([] : List Int) ++ ZG 8 gen) 120 4 120 8 idx W7.heap.size W28 _ hL (.head _) hp26 (by simp [Xp]) (by omega) (by omega))) rfl rfl ?_
   rintro _ W31 ⟨⟨rfl, hp32⟩, g30⟩
   replace h1 := h1.chgL g30 (.head _)
   replace k3 := k3.chg g30 n18
   replace k8 := k8.chg g30 n19
   replace hB := g30.toBelow hB l20
   refine Ni (hK27 (Sq fun K33 hK33 => (Rg (Va (Qn (o1 := 3) rfl Zy rfl rfl) rfl rfl (Va (Qi rfl XR rfl (k3.cell (k := 3) rfl)) rfl rfl (Va (QT rfl QH rfl h1) rfl rfl (Va (XP (r := (dat.length : Int) % 256) rfl Tryd.underlying3 Tryd.underlying5 rfl (Js _)) rfl rfl ?_)))))))
   refine Va (QU (o1 := 12) rfl Tryd.underlying75 QA rfl rfl (by omega) rfl) rfl rfl ?_
   refine WL.do (Qh (cs' := Qr ((((([] : List Int) ++ ZG 8 gen) ++ ZG 4 idx) ++ [(dat.length : Int) % 256]) ++ zr 115)) (vs := [.int .u8 ((dat.length : Int) % 256)]) rfl QA rfl rfl rfl (oC rfl Qk) hp32 rfl (by simp [Qo, Xp]) (EX (n := 115) (by simp [Xp]))) rfl ?_
   rintro _ W34 ⟨k36, o35⟩
   replace k3 := k3.other o35 n18
   replace k8 := k8.other o35 n19
   clear hp32
   replace h1 := h1.only o35 (.head _)
   replace hB := o35.below hB l20
   refine Ni (hK33 (Sq fun K37 hK37 => (Rg (Va (Qn (o1 := 2) rfl Zz rfl rfl) rfl rfl (Va (Qi rfl Qv rfl (k3.cell (k := 2) rfl)) rfl rfl (Va (XP (r := mk % 256) rfl Tryd.underlying3 Tryd.underlying5 rfl (Js _)) rfl rfl (Va (QU (o1 := 13) rfl Tryd.underlying75 QA rfl rfl (by omega) rfl) rfl rfl ?_)))))))
   refine WL.do (Qh (cs' := Qr (((((([] : List Int) ++ ZG 8 gen) ++ ZG 4 idx) ++ [(dat.length : Int) % 256]) ++ [mk % 256]) ++ zr 114)) (vs := [.int .u8 (mk % 256)]) rfl QA rfl rfl rfl (oC rfl Qk) k36 rfl (by simp [Qo, Xp]) (EX (n := 114) (by simp [Xp]))) rfl ?_
   rintro _ W38 ⟨k40, o39⟩
   replace k3 := k3.other o39 n18
   replace k8 := k8.other o39 n19
   clear k36
   replace h1 := h1.only o39 (.head _)
   replace hB := o39.below hB l20
   refine Ni (hK37 (Sq fun K41 hK41 => ?_))
   refine dM 3 [(some 22, .is (.slice (some ⟨W7.heap.size, 14, none⟩) 106 114)), (some 23, .is (.pointer (some ⟨w.heap.size, 3, none⟩))), (some 24, .is (dv))] [[], [], [1]] (by exact trivial) ?_ ?_
   .
    refine Dc (fun Wd hd => ?_) ?_
    .
     exact Dd (VN (o1 := 14) (m := 106) (c := 114) 14 120 rfl Tryd.underlying75 QA rfl rfl rfl (by omega) (by omega) (by omega) (by omega) (by omega) rfl rfl rfl) rfl
    refine Dc (fun Wd hd => ?_) ?_
    .
     exact Dd (Qn (o1 := 3) rfl Zy rfl rfl) rfl
    refine Dc (fun Wd hd => ?_) ?_
    .
     have k3 := k3.below hd
     exact Dd (Qi rfl XR rfl (k3.cell (k := 3) rfl)) rfl
    exact trivial
   .
    intro W42 b43
    replace h1 := h1.below b43
    replace k8 := k8.below b43
    replace k40 := k40.below b43
    replace hB := Qe hB b43
    refine Ge (QcZ (q := dat.length) (ys := dat.map (Value.int .u8)) rfl QH rfl rfl k40 (by rw [List.map_map]; exact h1) (by simp [Qo, Xp]) (by rw [List.length_map]; exact Nat.min_eq_left (by omega)) (fun v hv => by obtain ⟨n, _, rfl⟩ := List.mem_map.1 hv; rfl)) rfl rfl ?_
    rintro u47 W45 ⟨rfl, k44, o46⟩
    replace k8 := k8.other o46 n19
    replace hB := o46.below hB l20
    rw [List.take_of_length_le (by rw [List.length_map]; omega), show Zk (Qr (((((([] : List Int) ++ ZG 8 gen) ++ ZG 4 idx) ++ [(dat.length : Int) % 256]) ++ [mk % 256]) ++ zr 114)) 14 (dat.map (Value.int .u8)) = Qr (XN ⟨gen, idx, mk, dat⟩ ++ zr 8) from QbP hdl] at k44
    refine Ni (hK41 (Sq fun K48 hK48 => (Rg (Va (Jl 120 rfl Tryd.underlying75 QA rfl rfl (by omega) (by omega) (by decide)) rfl rfl ?_))))
    refine Ge (ZP (r := [.slice (some ⟨W7.heap.size, 0, none⟩) 120 128]) rfl US (by decide) (by decide) rfl rfl rfl) rfl rfl ?_
    rintro u53 W49 ⟨k50, b51, z52⟩
    have l57 := hB.size
    replace k8 := k8.below b51
    replace k44 := k44.below b51
    replace hB := Qe hB b51
    refine Ge (QQ rfl Tryd.func81 rfl rfl rfl (QbH (XN ⟨gen, idx, mk, dat⟩) _ _ W49 [] (LL.nil _) (k50.rd (L := []) (by simp)) (by have e_ := JQ k44 0 120 128 (by rw [List.length_append, YG (by show dat.length <= 106; omega)]; simp) (by omega) (by unfold maxLen; omega); rw [List.drop_zero, List.take_append_of_le_length (by rw [YG (by show dat.length <= 106; omega)]; exact Nat.le_refl _), List.take_of_length_le (by rw [YG (by show dat.length <= 106; omega)]; exact Nat.le_refl _)] at e_; exact e_) (KG hby) (by rw [YG (by show dat.length <= 106; omega)]; omega) (hT.below hB))) rfl rfl ?_
    rintro _ W59 ⟨rfl, b58⟩
    replace k8 := k8.below b58
    replace k44 := k44.below b58
    replace hB := Qe hB b58
    refine Ge (Qu (cs := Qr (zr 32)) rfl VV HZ) rfl rfl ?_
    rintro _ W60 ⟨rfl, k61, b62, z63⟩
    have n65 : W2.heap.size ≠ W59.heap.size := Nat.ne_of_lt k8.lt
    have n66 : W7.heap.size ≠ W59.heap.size := Nat.ne_of_lt k44.lt
    have l68 := hB.size
    replace k8 := k8.below b62
    replace k44 := k44.below b62
    replace hB := Qe hB b62
    refine WL.do (Qx (vs := (Qr (XK (XN ⟨gen, idx, mk, dat⟩)))) rfl VG rfl rfl rfl (YU (XK (XN ⟨gen, idx, mk, dat⟩))) k61 (by rw [Qo]; exact (VB _)) (by rw [Qo]; rfl)) rfl ?_
    rintro _ W69 ⟨k71, o70⟩
    replace k8 := k8.other o70 n65
    replace k44 := k44.other o70 n66
    clear k61
    replace hB := o70.below hB l68
    refine Ni (hK48 (Sq fun K72 hK72 => ?_))
    refine dM 2 [(some 29, .is (.slice (some ⟨W7.heap.size, 120, none⟩) 8 8)), (some 30, .is (.slice (some ⟨W59.heap.size, 0, none⟩) 32 32))] [[], []] (by exact trivial) ?_ ?_
    .
     refine Dc (fun Wd hd => ?_) ?_
     .
      exact Dd (Qbd (o1 := 120) (c := 8) 120 rfl Tryd.underlying75 QA rfl rfl (by omega) (by omega) rfl rfl) rfl
     refine Dc (fun Wd hd => ?_) ?_
     .
      exact Dd (Dk rfl Tryd.underlying132 QA rfl (by decide)) rfl
     exact trivial
    .
     intro W73 b74
     replace k8 := k8.below b74
     replace k44 := k44.below b74
     replace k71 := k71.below b74
     replace hB := Qe hB b74
     refine Ge (Qc0 (q := 8) rfl QH rfl rfl k44 k71.range (by rw [Qo, VB]) (by rw [Qo, List.length_append, YG (by show dat.length <= 106; omega), List.length_replicate]; exact Nat.le_refl _) rfl (YU _)) rfl rfl ?_
     rintro u78 W76 ⟨rfl, k75, o77⟩
     replace k8 := k8.other o77 n19
     replace hB := o77.below hB l20
     rw [show Zk (Qr (XN ⟨gen, idx, mk, dat⟩ ++ zr 8)) 120 ((Qr (XK (XN ⟨gen, idx, mk, dat⟩))).take 8) = Qr (Xk ⟨gen, idx, mk, dat⟩) from QbQ (by show dat.length <= 106; omega)] at k75
     refine Ni (hK72 (Sq fun K79 hK79 => (Rg (Va (Qg rfl QF rfl k75.range (by rw [Qo, Z8 (by show dat.length <= 106; omega)])) rfl rfl ?_))))
     refine WL.do (Qx (vs := (Qr (Xk ⟨gen, idx, mk, dat⟩))) rfl Q1 rfl rfl rfl (YU (Xk ⟨gen, idx, mk, dat⟩)) k8 (by rw [Qo]; exact (Z8 (by show dat.length <= 106; omega))) (by rw [Qo]; exact Xy)) rfl ?_
     rintro _ W80 ⟨k82, o81⟩
     clear k8
     replace hB := o81.below hB l12
     refine Ni (hK79 ?_)
     exact WC.ret fun a_ ha_ => hQ (QI rfl (.agg rfl QF k82.range (by rw [Qo]; exact (Z8 (by show dat.length <= 106; omega)))) rfl hB ha_)

section
variable {P : Program} {N : Nat} {sd : List (Option Tmp × VS)} {dl : List (List Nat)}
end
section
variable {P : Program} {ops : Array Oper} {o : Oper} {N : Nat} {f : Fl} {w : World}
end
abbrev Qfc := Nat -> World -> World -> Prop
def QfA (m : Nat) (rel : Qfc) (sd : List (Option Tmp × VS)) (dl : List (List Nat)) : Prop := ∀ i, i < m -> ∀ j, j ≠ i -> i ∉ (dl[j]?).getD [] -> ∀ u W W', rel i W W' -> XT sd j u W -> XT sd j u W'
def Gl (P : Program) (ops : Array Oper) (N : Nat) (G : (Nat -> Bool) -> World -> Prop) (rel : Qfc) (sd : List (Option Tmp × VS)) (dl : List (List Nat)) (f : Fl) : Nat -> List Oper -> Prop
 | _, [] => True
 | k, o :: l => (∀ L W, L k = false -> (∀ j, k ∈ (dl[j]?).getD [] -> L j = false) -> G L W -> XE P ops o N W sd (fun v W' => rel k W W' /\ G (Ua L k true) W' /\ XT sd k v W') ((dl[k]?).getD []) f) /\ Gl P ops N G rel sd dl f (k + 1) l
section
variable {P : Program} {N : Nat} {sd : List (Option Tmp × VS)} {dl : List (List Nat)}
theorem WC.drawL {id : Nat} {f : Fl} {w : World} {Q : Exit -> Act -> World -> Prop} (G : (Nat -> Bool) -> World -> Prop) (m : Nat) (rel : Qfc) {ops : List Oper} (sd : List (Option Tmp × VS)) (dl : List (List Nat)) (hm : P.follows .mixedOrders = true) (hb : VT .any ops.toArray = true) (hbp : VT .any (ops.take m).toArray = true) (ht : UI .any ops.toArray (ops.take m).length = true) (hdl : (ops.take m).map (XJ .any) = dl)
    (hds : (ops.take m).map (·.dst) = sd.map (·.1)) (hN : E8 N sd = true) (hG0 : G (fun _ => false) w.drew) (hmono : QfA (ops.take m).length rel sd dl) (hst : Gl P (ops.take m).toArray N G rel sd dl f 0 (ops.take m))
    (hend : ∀ W, G (fun j => decide (j < (ops.take m).length)) W -> V8 (fun f W => WL P ops.toArray Q N (ops.drop m) f W) W sd f) : WC P N (.region id ops.toArray true) Q f w := fun a ha => by
  obtain ⟨pre, hpre⟩ : ∃ pre, pre = ops.take m := ⟨_, rfl⟩
  obtain ⟨suf, hsuf⟩ : ∃ suf, suf = ops.drop m := ⟨_, rfl⟩
  have hops : pre ++ suf = ops := by rw [hpre, hsuf]; exact List.take_append_drop m ops
  rw [<- hpre] at hbp ht hdl hds hst hmono hend
  rw [<- hsuf] at hend
  clear hpre hsuf
  subst hops
  have hlen : dl.length = sd.length := by rw [<- hdl, List.length_map, <- List.length_map (f := (·.dst)), hds, List.length_map]
  have hpl : pre.length = dl.length := by rw [<- hdl, List.length_map]
  refine wp_region_any hm ?_
  have hrep : Array.replicate (pre ++ suf).toArray.size false = Array.replicate pre.toArray.size false ++ Array.replicate suf.length false := by
    simp [Array.replicate_append_replicate]
  rw [hrep]
  have hsz : (pre ++ suf).toArray.size = pre.toArray.size + suf.length := by simp
  rw [hsz]
  refine J4 (pre := pre.toArray) (suf := suf) hb hbp (by simp) (by simpa using ht) pre.toArray.size _ (by simp) (fun j hj => by simp [Array.getD_eq_getD_getElem?, Array.getElem?_replicate] at hj; split at hj <;> simp_all) a w.drew ?_
  have hda : ∀ j, Xs .any pre.toArray j = (dl[j]?).getD [] := by
    intro j
    subst hdl
    simp only [Xs, List.getElem?_map, List.getElem?_toArray]
  have hF0 : ∀ j, (Array.replicate pre.toArray.size false).getD j false = true -> False := fun j hj => by simp [Array.getD_eq_getD_getElem?, Array.getElem?_replicate] at hj; split at hj <;> simp_all
  refine H8 hbp a G (fun j g W => XT sd j (g j) W) (fun i _ W W' => i < pre.length /\ rel i W W') ?_ ?_ ?_ pre.toArray.size _ (fun _ => undef) a w.drew (by simp) (by
      have := List.countP_le_length (p := fun b => !b) (l := (Array.replicate pre.toArray.size false).toList)
      simpa using this) (fun j hj => (hF0 j hj).elim) (XV.start fun j hj => hF0 j hj) (by
      have e : (fun j => (Array.replicate pre.toArray.size false).getD j false) = fun _ => false := by
        funext j
        cases hj : (Array.replicate pre.toArray.size false).getD j false with
        | false => rfl
        | true => exact (hF0 j hj).elim
      rw [e]
      exact hG0) (fun j hj => (hF0 j hj).elim)
  . intro i g W W' j g' hB hne hnd h
    exact hmono i hB.1 j hne (by rw [<- hda j]; exact hnd) _ W W' hB.2 h
  . intro i o hoi L g W hLi hdn hG hd
    have key : ∀ (l : List Oper) (k : Nat), Gl P pre.toArray N G rel sd dl f k l -> ∀ j o, l[j]? = some o -> ∀ L W, L (k + j) = false -> (∀ q, (k + j) ∈ (dl[q]?).getD [] -> L q = false) -> G L W -> XE P pre.toArray o N W sd (fun v W' => rel (k + j) W W' /\ G (Ua L (k + j) true) W' /\ XT sd (k + j) v W') ((dl[k + j]?).getD []) f := by
      intro l
      induction l with
      | nil => intro k _ j o h; simp at h
      | cons x l ih =>
        intro k hs j o h
        cases j with
        | zero =>
          simp only [List.getElem?_cons_zero, Option.some.injEq] at h
          subst h
          exact hs.1
        | succ j =>
          have := ih (k + 1) hs.2 j o (by simpa using h)
          rw [show k + (j + 1) = k + 1 + j by omega]
          exact this
    have hk := key pre 0 hst i o (by simpa using hoi) L W (by rw [Nat.zero_add]; exact hLi) (by rw [Nat.zero_add]; intro q hq; exact hdn q (by rw [hda q]; exact hq)) hG
    rw [Nat.zero_add] at hk
    have hdo : XJ .any o = (dl[i]?).getD [] := by rw [<- hda i, Yn hoi]
    rw [hdo] at hd ⊢
    rw [Vu (ds := sd.map (·.1)) (by simpa using hds)]
    have hH : Vp (fun j g w => XT sd j (g j) w) dl g W ((dl[i]?).getD []) := Vp.of _ fun j hj => by have := hd j hj; rwa [hda j] at this
    have hil : i < pre.length := by
      have := (Array.getElem?_eq_some_iff.1 hoi).1
      simpa using this
    refine (XE.to hN _ f a hk ha hH).mono fun v W' h => ⟨⟨hil, h.1⟩, h.2.1, ?_⟩
    simp only [X4]
    rw [show Ua g i v i = v by simp [Ua]]
    exact h.2.2
  . intro L g W hL hG hd
    rw [Vu (ds := sd.map (·.1)) (by simpa using hds)]
    have hH : Vp (fun j g w => XT sd j (g j) w) dl g W (List.range' 0 sd.length) := Vp.of _ fun j hj => by
      have hj' : j < pre.toArray.size := by
        simp [List.mem_range'] at hj
        simp
        omega
      have := hd j hj'
      rwa [hda j] at this
    have hLe : L = fun j => decide (j < pre.length) := by
      funext j
      rw [hL j]
      simp
    rw [hLe] at hG
    have hfin := V8.to (Q := fun a W => wpList P (pre ++ suf).toArray Q suf a W) hN (fun f h a ha => h a ha) sd 0 f a (by simp) (hend W hG) ha hH
    show wpOps P (pre ++ suf).toArray Q (List.range' pre.toArray.size suf.length) _ _
    rw [wpOps_eq_wpList suf pre.toArray.size (fun j => by simp [List.getElem?_append_right])]
    rw [List.range_eq_range', show pre.toArray.size = sd.length by simp; omega]
    exact hfin
end
structure VA (Cs : List Nat) (w w' : World) : Prop where
 os : w'.os = w.os
 tape : w'.tape = w.tape
 output : w'.output = w.output
 size : w.heap.size <= w'.heap.size
 block : ∀ k, k < w.heap.size -> k ∉ Cs -> w'.heap[k]? = w.heap[k]?
theorem VA.of_below {Cs : List Nat} {w w' : World} (h : Below w.heap.size w w') : VA Cs w w' := ⟨h.os, h.tape, h.output, h.size, fun k hk _ => h.block k hk⟩
theorem VA.below {Cs : List Nat} {w W W' : World} (h : VA Cs w W) (b : Below W.heap.size W W') : VA Cs w W' :=
 ⟨by rw [b.os, h.os], by rw [b.tape, h.tape], by rw [b.output, h.output], Nat.le_trans h.size b.size, fun k hk hn => by rw [b.block k (Nat.lt_of_lt_of_le hk h.size), h.block k hk hn]⟩
theorem VA.only {Cs : List Nat} {w W W' : World} (h : VA Cs w W) {C : Nat} (o : Yi C W W') (hC : C ∈ Cs) : VA Cs w W' :=
 ⟨by rw [o.os, h.os], by rw [o.tape, h.tape], by rw [o.output, h.output], by rw [o.size]; exact h.size, fun k hk hn => by rw [o.block k (fun e => hn (e ▸ hC)), h.block k hk hn]⟩
theorem VA.toBelow {Cs : List Nat} {w0 w w' : World} (g : VA Cs w w') (hb : Below w0.heap.size w0 w) (hC : ∀ C ∈ Cs, w0.heap.size <= C) : Below w0.heap.size w0 w' :=
 ⟨by rw [g.os, hb.os], by rw [g.tape, hb.tape], by rw [g.output, hb.output], Nat.le_trans hb.size g.size, fun k hk => by rw [g.block k (Nat.lt_of_lt_of_le hk hb.size) (fun h => by have := hC k h; omega), hb.block k hk]⟩
theorem VA.toChg {Cs : List Nat} {B : Nat} {w0 w w' : World} (g : VA Cs w w') (hb : Vg B w0 w) (hC : ∀ C ∈ Cs, C = B \/ w0.heap.size <= C) : Vg B w0 w' :=
 ⟨by rw [g.os, hb.os], by rw [g.tape, hb.tape], by rw [g.output, hb.output], Nat.le_trans hb.size g.size, fun k hk hn => by rw [g.block k (Nat.lt_of_lt_of_le hk hb.size) (fun h => by have := hC k h; omega), hb.block k hk hn]⟩
theorem Up.of_chgM {L Cs : List Nat} {w w' : World} (g : VA Cs w w') (hC : ∀ C ∈ Cs, C ∈ L) : Up L w w' := ⟨g.size, fun k hk hlt => g.block k hlt (fun h => hk (hC k h))⟩
theorem Xc.chgM {w w' : World} {B : Nat} {cs : List Value} (h : Xc w B cs) {Cs : List Nat} (g : VA Cs w w') (hn : B ∉ Cs) : Xc w' B cs := by
 obtain ⟨t, h'⟩ := h
 exact ⟨t, by rw [g.block B (Xc.lt ⟨t, h'⟩) hn]; exact h'⟩
theorem QD.chgM {s : Nat} {L : List Nat} {w w' : World} {v : Value} {rs : List (List Value)} (h : QD s L w v rs) {Cs : List Nat} (g : VA Cs w w') (hC : ∀ C ∈ Cs, C ∈ L) : QD s L w' v rs := h.agree (.of_chgM g hC)
theorem LL.chgM {L : List Nat} {w w' : World} (h : LL L w) {Cs : List Nat} (g : VA Cs w w') : LL L w' := fun x hx => Nat.lt_of_lt_of_le (h x hx) g.size
abbrev SpC := List (Nat × Nat × List Value × (List Value -> World -> Prop))
def Qbt : SpC -> Prop
 | [] => True
 | e :: l => (∀ x ∈ l, x.1 ≠ e.1 /\ x.2.1 ≠ e.2.1) /\ Qbt l
theorem Qbt.or : ∀ {sp : SpC}, Qbt sp -> ∀ {a b}, a ∈ sp -> b ∈ sp -> a = b \/ (a.1 ≠ b.1 /\ a.2.1 ≠ b.2.1)
  | e :: l, h, a, b, ha, hb => by
    rcases List.mem_cons.1 ha with e1 | ha
    . rcases List.mem_cons.1 hb with e2 | hb
      . exact .inl (e1.trans e2.symm)
      . rw [e1]; exact .inr ⟨fun q => (h.1 b hb).1 q.symm, fun q => (h.1 b hb).2 q.symm⟩
    . rcases List.mem_cons.1 hb with e2 | hb
      . rw [e2]; exact .inr (h.1 a ha)
      . exact Qbt.or h.2 ha hb
def Xj (W : World) (C : Nat) (q : List Value -> World -> Prop) : Prop := ∃ cs, Xc W C cs /\ q cs W
def Qfe (sp : SpC) : Prop := ∀ e ∈ sp, (∀ cs W W', Below W.heap.size W W' -> e.2.2.2 cs W -> e.2.2.2 cs W') /\ ∀ x ∈ sp, x.2.1 ≠ e.2.1 -> ∀ cs W W', Yi x.2.1 W W' -> e.2.2.2 cs W -> e.2.2.2 cs W'
def GC (sp : SpC) (w : World) (L : Nat -> Bool) (W : World) : Prop := VA (sp.map (·.2.1)) w W /\ ∀ e ∈ sp, (L e.1 = false -> Xc W e.2.1 e.2.2.1) /\ (L e.1 = true -> Xj W e.2.1 e.2.2.2)
def Qb0 (sp : SpC) (k : Nat) (W W' : World) : Prop := match sp.find? (fun e => e.1 == k) with
 | some e => Yi e.2.1 W W'
 | none => Below W.heap.size W W'
section
variable {P : Program} {N : Nat} {sd : List (Option Tmp × VS)} {dl : List (List Nat)}
theorem XE.mono {ops : Array Oper} {o : Oper} {W : World} {R R' : Value -> World -> Prop} (hr : ∀ v W', R v W' -> R' v W') : ∀ (l : List Nat) (f : Fl), XE P ops o N W sd R l f -> XE P ops o N W sd R' l f
  | [], f, h => DR.mono h hr
  | j :: l, f, h => by
    unfold XE at h ⊢
    split
    . rename_i e; rw [e] at h; exact XE.mono hr l _ h
    . rename_i e; rw [e] at h; exact fun u hu => XE.mono hr l _ (h u hu)
    . rename_i e; rw [e] at h; exact fun u hu => XE.mono hr l _ (h u hu)
    . rename_i e1 e2 e3
      split at h
      . rename_i e; exact absurd e (e1 _ _)
      . rename_i e; exact absurd e (e2 _ _)
      . rename_i e; exact absurd e (e3 _)
      . exact XE.mono hr l _ h
def Ql (P : Program) (ops : Array Oper) (N : Nat) (w0 : World) (sp : SpC) (sd : List (Option Tmp × VS)) (dl : List (List Nat)) (f : Fl) : Nat -> List Oper -> Prop
 | _, [] => True
 | k, o :: l => (match sp.find? (fun e => e.1 == k) with
   | some e => ∀ W, VA (sp.map (·.2.1)) w0 W -> Xc W e.2.1 e.2.2.1 -> XE P ops o N W sd (fun v W' => Yi e.2.1 W W' /\ Xj W' e.2.1 e.2.2.2 /\ XT sd k v W') ((dl[k]?).getD []) f
   | none => ∀ W, VA (sp.map (·.2.1)) w0 W -> (∀ e ∈ sp, k ∈ (dl[e.1]?).getD [] -> Xc W e.2.1 e.2.2.1) -> XE P ops o N W sd (fun v W' => Below W.heap.size W W' /\ XT sd k v W') ((dl[k]?).getD []) f) /\ Ql P ops N w0 sp sd dl f (k + 1) l
theorem Ql.cons {ops : Array Oper} {w0 : World} {f : Fl} {k : Nat} {sp : SpC} {o : Oper} {l : List Oper} (hk : sp.find? (fun e => e.1 == k) = none) (h : ∀ W, VA (sp.map (·.2.1)) w0 W -> (∀ e ∈ sp, k ∈ (dl[e.1]?).getD [] -> Xc W e.2.1 e.2.2.1) -> XE P ops o N W sd (fun v W' => Below W.heap.size W W' /\ XT sd k v W') ((dl[k]?).getD []) f) (hl : Ql P ops N w0 sp sd dl f (k + 1) l) : Ql P ops N w0 sp sd dl f k (o :: l) := ⟨by rw [hk]; exact h, hl⟩
theorem Ql.hit {ops : Array Oper} {w0 : World} {f : Fl} {k C : Nat} {cs : List Value} {q : List Value -> World -> Prop} {sp : SpC} {o : Oper} {l : List Oper} (hk : sp.find? (fun e => e.1 == k) = some (k, C, cs, q)) (h : ∀ W, VA (sp.map (·.2.1)) w0 W -> Xc W C cs -> XE P ops o N W sd (fun v W' => Yi C W W' /\ Xj W' C q /\ XT sd k v W') ((dl[k]?).getD []) f) (hl : Ql P ops N w0 sp sd dl f (k + 1) l) : Ql P ops N w0 sp sd dl f k (o :: l) := ⟨by rw [hk]; exact h, hl⟩
theorem Ql.toL {ops : Array Oper} {w0 : World} {f : Fl} {sp : SpC} (hd : Qbt sp) (hq : Qfe sp) : ∀ (l : List Oper) (k : Nat), Ql P ops N w0 sp sd dl f k l -> Gl P ops N (GC sp w0) (Qb0 sp) sd dl f k l
  | [], _, _ => trivial
  | o :: l, k, h => by
    refine ⟨fun L W hl hn hG => ?_, Ql.toL hd hq l (k + 1) h.2⟩
    have h1 := h.1
    cases hf : sp.find? (fun e => e.1 == k) with
    | none =>
      rw [hf] at h1
      refine XE.mono (fun v W' hr => ⟨by unfold Qb0; rw [hf]; exact hr.1, ⟨hG.1.below hr.1, fun e he => ?_⟩, hr.2⟩) _ _ (h1 W hG.1 fun e he hin => (hG.2 e he).1 (hn e.1 hin))
      have hne : ¬ e.1 = k := by have := List.find?_eq_none.1 hf e he; simpa using this
      have hu : Ua L k true e.1 = L e.1 := by simp [Ua, hne]
      rw [hu]
      exact ⟨fun h => ((hG.2 e he).1 h).below hr.1, fun h => by obtain ⟨cs, h1, h2⟩ := (hG.2 e he).2 h; exact ⟨cs, h1.below hr.1, (hq e he).1 cs W W' hr.1 h2⟩⟩
    | some e =>
      rw [hf] at h1
      have hm := List.mem_of_find?_eq_some hf
      have hk : e.1 = k := by have := List.find?_some hf; simpa using this
      have hb := (hG.2 e hm).1 (by rw [hk]; exact hl)
      refine XE.mono (fun v W' hr => ⟨by unfold Qb0; rw [hf]; exact hr.1, ⟨hG.1.only hr.1 (List.mem_map.2 ⟨e, hm, rfl⟩), fun x hx => ?_⟩, hr.2.2⟩) _ _ (h1 W hG.1 hb)
      rcases hd.or hx hm with rfl | ⟨n1, n2⟩
      . have hu : Ua L k true x.1 = true := by simp [Ua, hk]
        rw [hu]; exact ⟨fun h => (by cases h), fun _ => hr.2.1⟩
      . have hu : Ua L k true x.1 = L x.1 := by simp [Ua, hk ▸ n1]
        rw [hu]; exact ⟨fun h => ((hG.2 x hx).1 h).other hr.1 n2, fun h => by obtain ⟨cs, h1, h2⟩ := (hG.2 x hx).2 h; exact ⟨cs, h1.other hr.1 n2, (hq x hx).2 e hm (fun e' => n2 e'.symm) cs W W' hr.1 h2⟩⟩
theorem G1 : ∀ {sd : List (Option Tmp × VS)}, VS.mono sd -> ∀ {j : Nat} {d : Option Tmp} {p : Value -> World -> Prop}, sd[j]? = some (d, .by p) -> ∀ u W W', Below W.heap.size W W' -> p u W -> p u W'
 | [], _, j, d, p, h => by simp at h
 | (d', .is v) :: l, hm, j, d, p, h => by
  cases j with
  | zero => simp at h
  | succ j => exact G1 (sd := l) hm (by simpa using h)
 | (d', .by q) :: l, hm, j, d, p, h => by
  cases j with
  | zero =>
   simp at h
   obtain ⟨_, rfl⟩ := h
   exact hm.1
  | succ j => exact G1 (sd := l) hm.2 (by simpa using h)
theorem WC.drawC {id : Nat} {f : Fl} {w : World} {Q : Exit -> Act -> World -> Prop} (m : Nat) (sp : SpC) {ops : List Oper} (sd : List (Option Tmp × VS)) (dl : List (List Nat)) (hmono : VS.mono sd) (hmonoC : ∀ e ∈ sp, VS.monoR (Yi e.2.1) sd) (hdis : Qbt sp) (hq : Qfe sp) (h0 : ∀ e ∈ sp, Xc w e.2.1 e.2.2.1) (hst : Ql P (ops.take m).toArray N w sp sd dl f 0 (ops.take m))
    (hend : ∀ W, VA (sp.map (·.2.1)) w W -> (∀ e ∈ sp, Xj W e.2.1 e.2.2.2) -> V8 (fun f W => WL P ops.toArray Q N (ops.drop m) f W) W sd f)
    (hsp : sp.all (fun e => Nat.blt e.1 m) = true := by rfl) (hlen : (ops.take m).length = m := by kernel_rfl) (hm : P.follows .mixedOrders = true := by kernel_rfl) (hb : VT .any ops.toArray = true := by kernel_rfl) (hbp : VT .any (ops.take m).toArray = true := by kernel_rfl) (ht : UI .any ops.toArray (ops.take m).length = true := by kernel_rfl) (hdl : (ops.take m).map (XJ .any) = dl := by kernel_rfl)
    (hds : (ops.take m).map (·.dst) = sd.map (·.1) := by kernel_rfl) (hN : E8 N sd = true := by kernel_rfl) : WC P N (.region id ops.toArray true) Q f w := by
  refine WC.drawL (GC sp w) m (Qb0 sp) sd dl hm hb hbp ht hdl hds hN ?_ ?_ (Ql.toL hdis hq _ _ hst) ?_
  . have hb0 : Below w.heap.size w w.drew := YJ (Below.refl _ _) 1
    exact ⟨.of_below hb0, fun e he => ⟨fun _ => (h0 e he).below hb0, fun h => by cases h⟩⟩
  . intro i hi j hne hnd u W W' hr hok
    unfold XT at hok ⊢
    cases hj : sd[j]? with
    | none => trivial
    | some x =>
      rw [hj] at hok
      obtain ⟨d, s⟩ := x
      cases s with
      | is v => exact hok
      | «by» p =>
        unfold Qb0 at hr
        cases hf : sp.find? (fun e => e.1 == i) with
        | none => rw [hf] at hr; exact G1 hmono hj u W W' hr hok
        | some e => rw [hf] at hr; exact Ui (hmonoC e (List.mem_of_find?_eq_some hf)) hj u W W' hr hok
  . intro W hG
    refine hend W hG.1 fun e he => ?_
    have := hG.2 e he
    have hlt : e.1 < (ops.take m).length := by
      have h1 := List.all_eq_true.1 hsp e he
      rw [hlen]
      simpa [Nat.blt_eq] using h1
    exact this.2 (decide_eq_true hlt)
end
theorem Xo {sp : SpC} (h : ∀ e ∈ sp, ∃ cs', e.2.2.2 = fun cs _ => cs = cs') : Qfe sp := fun e he => by
 obtain ⟨cs', h'⟩ := h e he
 rw [h']
 exact ⟨fun _ _ _ _ h => h, fun _ _ _ _ _ _ _ h => h⟩
theorem Xj.is {W : World} {C : Nat} {cs : List Value} (h : Xc W C cs) : Xj W C fun x _ => x = cs := ⟨cs, h, rfl⟩
theorem Xj.blk {W : World} {C : Nat} {cs : List Value} (h : Xj W C fun x _ => x = cs) : Xc W C cs := by
 obtain ⟨_, h, rfl⟩ := h
 exact h
theorem U1 {z : List Int} {i : Nat} (h : i < z.length) : (Qr z)[i]? = some (.int .u8 (z[i]?.getD 0)) := by simp [Qr, h]
theorem QfF {z : List Int} {k : Nat} {y : Int} (h : k < z.length) : (Qr z).take k ++ ([.int .u8 y] ++ (Qr z).drop (k + 1)) = Qr (z.set k y) := by
 unfold Qr
 rw [<- List.map_take, <- List.map_drop, List.set_eq_take_append_cons_drop, if_pos h]
 simp
theorem Qek {w : World} {B : Nat} {z : List Int} (h : Xc w B (Qr z)) (o0 k c : Nat) (ho : o0 + k <= z.length) (hc : k <= c) (hm : c <= maxLen) {L : List Nat} (hB : B ∉ L) : QD 1 L w (.slice (some ⟨B, o0, none⟩) k c) (Vw ((z.drop o0).take k)) := by
 obtain ⟨h0, h1, a, cap, h2, h3, h4, h5, h6⟩ := JQ h o0 k c ho hc hm
 refine ⟨h0, h1, a, cap, h2, h3, h4, h5, fun hn => ?_⟩
 obtain ⟨X, q, e, _, hr⟩ := h6 hn
 refine ⟨X, q, e, ?_, hr⟩
 injection h2 with h21
 rw [e] at h21
 injection h21 with h22
 injection h22 with h23
 rw [<- h23]; exact hB
theorem V7 {z : List Int} (h : Z0 z) (i : Nat) : 0 <= z[i]?.getD 0 /\ z[i]?.getD 0 <= 255 := by
 cases e : z[i]? with
 | none => exact ⟨by decide, by decide⟩
 | some x => exact h x (List.mem_of_getElem? e)
theorem V2 {z : List Int} (h : Z0 z) (a b : Nat) : Z0 ((z.drop a).take b) := fun x hx => h x (List.mem_of_mem_drop (List.mem_of_mem_take hx))
theorem U8 {z : List Int} (h : z.length = 128) {a b : Nat} (hb : a + b <= 128) : ((z.drop a).take b).length = b := by rw [List.length_take, List.length_drop]; omega
def Ub (z : List Int) : Pg := ⟨X9 ((z.drop 0).take 8), X9 ((z.drop 8).take 4), z[13]?.getD 0, (z.drop 14).take (z[12]?.getD 0).toNat⟩
def VR (z : List Int) : Prop := X9 ((z.drop 0).take 8) < 1 \/ 1099511627776 < X9 ((z.drop 0).take 8) \/ (100 : Int) < z[12]?.getD 0 \/ (3 : Int) < z[13]?.getD 0
instance (z : List Int) : Decidable (VR z) := by unfold VR; exact inferInstance
def Zq (z : List Int) : Option Pg := if VR z then none else if Xk (Ub z) = z then some (Ub z) else none
def UnS (z : List Int) (p : Pg) (b : Bool) : Prop := (b = true -> Zq z = some p) /\ (b = false -> Zq z = none)
theorem Us {z : List Int} {p : Pg} (h : VR z) : UnS z p false := ⟨fun h => (by cases h), fun _ => by unfold Zq; rw [if_pos h]⟩
theorem QbC {z : List Int} {p : Pg} (h : ¬ VR z) (hp : p = Ub z) : UnS z p (decide (Xk p = z)) := by
 subst hp
 unfold UnS Zq
 rw [if_neg h]
 constructor
 . intro h1; rw [if_pos (of_decide_eq_true h1)]
 . intro h1; rw [if_neg (of_decide_eq_false h1)]
set_option maxHeartbeats 1000000 in
theorem FT (z : List Int) (w : World) (L : List Nat) (hL : LL L w)   (hL0 : LL L w) (hz : z.length = 128) (hbz : Z0 z) (hT : ZM w) : CV Tryd.prog 74 [.agg (Qr z).toArray] w fun v W => ∃ (p : Pg) (dv : Value) (b : Bool), v = .tuple #[.agg #[.int .i64 p.gen, .int .i64 p.idx, .int .i64 p.mks, dv], .bool b] /\ QD 1 L W dv (Vw p.dat) /\ UnS z p b /\ Z0 p.dat /\ p.dat.length <= 100 := by
 refine QN (N := 43) (f := [(0, .agg (Qr z).toArray)]) Tryd.func74 rfl rfl rfl rfl fun Q hQ hE => ?_
 have hB := Below.refl w.heap.size w
 refine Sq fun K1 hK1 => (Rg ?_)
 refine Ge (Xa (cs := (Qr z)) rfl rfl rfl) rfl rfl ?_
 rintro _ W2 ⟨rfl, k3, b4, z5⟩
 have l6 := hB.size
 replace hB := Qe hB b4
 replace hL := LL.more hL z5
 refine Ge (Qu rfl ZQ rfl) rfl rfl ?_
 rintro _ W7 ⟨rfl, k8, b9, z10⟩
 have n11 : w.heap.size ≠ W2.heap.size := Nat.ne_of_lt k3.lt
 have l12 := hB.size
 replace k3 := k3.below b9
 replace hB := Qe hB b9
 replace hL := LL.more hL z10
 refine Pu rfl (Ni (hK1 (Sq fun K13 hK13 => ?_)))
 have hb12 := V7 hbz 12
 have hb13 := V7 hbz 13
 obtain ⟨q, hq⟩ : ∃ q : Nat, z[12]?.getD 0 = (q : Int) := ⟨(z[12]?.getD 0).toNat, by omega⟩
 refine dM 6 [(some 7, .is (.slice (some ⟨w.heap.size, 0, none⟩) 8 128)), (some 8, .is (.int .i64 (X9 ((z.drop 0).take 8)))), (some 9, .is (.pointer (some ⟨w.heap.size, 12, none⟩))), (some 10, .is (.int .u8 (z[12]?.getD 0))), (some 11, .is (.int .i64 (z[12]?.getD 0))), (some 4, .is (.int .i64 (X9 ((z.drop 0).take 8))))] [[], [0], [], [2], [3], [1, 1, 0, 1]] (by exact trivial) ?_ ?_
 .
  refine Dc (fun Wd hd => ?_) ?_
  .
   exact Dd (Jl 8 rfl Tryd.underlying75 QA rfl rfl (by omega) (by omega) (by decide)) rfl
  refine Dc (fun Wd hd => ?_) ?_
  .
   have k3 := k3.below hd
   exact DR.mono (QQ rfl Tryd.func78 rfl rfl rfl (QcK ((z.drop 0).take 8) _ Wd [] (LL.nil _) (JQ k3 0 8 128 (by omega) (by omega) (by unfold maxLen; omega)) (V2 hbz _ _) (by rw [U8 hz (by omega)]; omega))) (fun v W' ⟨h, hb⟩ => ⟨hb, (by rw [h]; exact rfl)⟩)
  refine Dc (fun Wd hd => ?_) ?_
  .
   exact Dd (QU (o1 := 12) rfl Tryd.underlying75 QA rfl rfl (by omega) (by first | (simp; done) | omega)) rfl
  refine Dc (fun Wd hd => ?_) ?_
  .
   have k3 := k3.below hd
   exact Dd (Qi rfl X1 rfl (k3.cell (k := 12) (U1 (by rw [show z.length = 128 from hz]; exact (by omega))))) rfl
  refine Dc (fun Wd hd => ?_) ?_
  .
   exact Dd (XP (r := z[12]?.getD 0) rfl Tryd.underlying5 Tryd.underlying3 rfl (Qm (by omega))) rfl
  refine Dc (fun Wd hd => ?_) ?_
  .
   exact Dd (KH rfl rfl) rfl
  exact trivial
 .
  intro W14 b15
  replace k3 := k3.below b15
  replace k8 := k8.below b15
  replace hB := Qe hB b15
  replace hL := LL.below hL b15
  refine Pu rfl (Ni (hK13 (Sq fun K16 hK16 => (Sq fun K17 hK17 => (Rg (Pu rfl (Va (Xe rfl rfl rfl) rfl rfl ?_)))))))
  refine Pu rfl ?_
  refine WL.split 14 rfl (fun g18 => ?_) (fun g18 => ?_)
  .
   replace g18 := dT g18
   refine Of rfl (Of rfl (Pu rfl (Pu rfl (Of rfl (Of rfl (Pu rfl (Pu rfl ?_)))))))
   refine Of rfl (Of rfl (Of rfl (Pu rfl (Ni (hK17 (WC.condT rfl (Sq fun K19 hK19 => ?_)))))))
   refine Rg (Va (QS rfl rfl (Xi (cs := [.int .i64 0, .int .i64 0, .int .i64 0, .slice none 0 0]) (by kernel_rfl) Qk)) rfl rfl ?_)
   refine WL.do (Qh (cs' := [.int .i64 0, .int .i64 0, .int .i64 0, .slice none 0 0]) (vs := [.int .i64 0, .int .i64 0, .int .i64 0, .slice none 0 0]) rfl Xu rfl rfl rfl (oC rfl (oC rfl (oC rfl (oC rfl Qk)))) k8 rfl (nB rfl) rfl) rfl ?_
   rintro _ W20 ⟨k22, o21⟩
   clear k8
   replace hB := o21.below hB l12
   refine Pu rfl (Ni (hK19 ?_))
   exact WC.ret fun a_ ha_ => hQ (QO rfl (.agg rfl Xq k22.range rfl) (.tmp rfl) ⟨⟨0, 0, 0, []⟩, _, false, rfl, QD.nil (by decide), Us (by unfold VR; first | omega | (simp_all; omega)), fun x hx => (by cases hx), by show 0 <= 100; omega⟩ hB ha_)
  .
   replace g18 := dF g18
   refine Pu rfl (Va (XL rfl rfl rfl) rfl rfl (Pu rfl (Pu rfl ?_)))
   refine WL.split 18 rfl (fun g23 => ?_) (fun g23 => ?_)
   .
    replace g23 := dT g23
    refine Of rfl (Of rfl (Pu rfl (Pu rfl (Of rfl (Of rfl (Of rfl (Pu rfl ?_)))))))
    refine Ni (hK17 (WC.condT rfl (Sq fun K24 hK24 => (Rg (Va (QS rfl rfl (Xi (cs := [.int .i64 0, .int .i64 0, .int .i64 0, .slice none 0 0]) (by kernel_rfl) Qk)) rfl rfl ?_)))))
    refine WL.do (Qh (cs' := [.int .i64 0, .int .i64 0, .int .i64 0, .slice none 0 0]) (vs := [.int .i64 0, .int .i64 0, .int .i64 0, .slice none 0 0]) rfl Xu rfl rfl rfl (oC rfl (oC rfl (oC rfl (oC rfl Qk)))) k8 rfl (nB rfl) rfl) rfl ?_
    rintro _ W25 ⟨k27, o26⟩
    clear k8
    replace hB := o26.below hB l12
    refine Pu rfl (Ni (hK24 ?_))
    exact WC.ret fun a_ ha_ => hQ (QO rfl (.agg rfl Xq k27.range rfl) (.tmp rfl) ⟨⟨0, 0, 0, []⟩, _, false, rfl, QD.nil (by decide), Us (by unfold VR; first | omega | (simp_all; omega)), fun x hx => (by cases hx), by show 0 <= 100; omega⟩ hB ha_)
   .
    replace g23 := dF g23
    refine Pu rfl (Va (XL rfl rfl rfl) rfl rfl (Pu rfl (Pu rfl ?_)))
    refine WL.split 22 rfl (fun g28 => ?_) (fun g28 => ?_)
    .
     replace g28 := dT g28
     refine Of rfl (Of rfl (Of rfl (Pu rfl (Ni (hK17 (WC.condT rfl (Sq fun K29 hK29 => ?_)))))))
     refine Rg (Va (QS rfl rfl (Xi (cs := [.int .i64 0, .int .i64 0, .int .i64 0, .slice none 0 0]) (by kernel_rfl) Qk)) rfl rfl ?_)
     refine WL.do (Qh (cs' := [.int .i64 0, .int .i64 0, .int .i64 0, .slice none 0 0]) (vs := [.int .i64 0, .int .i64 0, .int .i64 0, .slice none 0 0]) rfl Xu rfl rfl rfl (oC rfl (oC rfl (oC rfl (oC rfl Qk)))) k8 rfl (nB rfl) rfl) rfl ?_
     rintro _ W30 ⟨k32, o31⟩
     clear k8
     replace hB := o31.below hB l12
     refine Pu rfl (Ni (hK29 ?_))
     exact WC.ret fun a_ ha_ => hQ (QO rfl (.agg rfl Xq k32.range rfl) (.tmp rfl) ⟨⟨0, 0, 0, []⟩, _, false, rfl, QD.nil (by decide), Us (by unfold VR; first | omega | (simp_all; omega)), fun x hx => (by cases hx), by show 0 <= 100; omega⟩ hB ha_)
    .
     replace g28 := dF g28
     refine Va (QU (o1 := 13) rfl Tryd.underlying75 QA rfl rfl (by omega) (by first | (simp; done) | omega)) rfl rfl (Va (Qi rfl X1 rfl (k3.cell (k := 13) (U1 (by rw [show z.length = 128 from hz]; exact (by omega))))) rfl rfl (Va (XL rfl rfl rfl) rfl rfl (Pu rfl (Ni (hK17 ?_)))))
     refine WC.cond rfl (fun c33 => ?_) (fun c33 => ?_)
     .
      replace c33 := dT c33
      refine Sq fun K34 hK34 => (Rg (Va (QS rfl rfl (Xi (cs := [.int .i64 0, .int .i64 0, .int .i64 0, .slice none 0 0]) (by kernel_rfl) Qk)) rfl rfl ?_))
      refine WL.do (Qh (cs' := [.int .i64 0, .int .i64 0, .int .i64 0, .slice none 0 0]) (vs := [.int .i64 0, .int .i64 0, .int .i64 0, .slice none 0 0]) rfl Xu rfl rfl rfl (oC rfl (oC rfl (oC rfl (oC rfl Qk)))) k8 rfl (nB rfl) rfl) rfl ?_
      rintro _ W35 ⟨k37, o36⟩
      clear k8
      replace hB := o36.below hB l12
      refine Pu rfl (Ni (hK34 ?_))
      exact WC.ret fun a_ ha_ => hQ (QO rfl (.agg rfl Xq k37.range rfl) (.tmp rfl) ⟨⟨0, 0, 0, []⟩, _, false, rfl, QD.nil (by decide), Us (by unfold VR; first | omega | (simp_all; omega)), fun x hx => (by cases hx), by show 0 <= 100; omega⟩ hB ha_)
     .
      replace c33 := dF c33
      refine WC.skip (hK16 (Sq fun K38 hK38 => ?_))
      have hq100 : q <= 100 := by omega
      have hdl : ((z.drop 14).take q).length = q := U8 hz (by omega)
      refine dM 11 [(some 28, .is (.int .i64 (X9 ((z.drop 0).take 8)))), (some 29, .is (.slice (some ⟨w.heap.size, 8, none⟩) 4 120)), (some 30, .is (.int .i64 (X9 ((z.drop 8).take 4)))), (some 31, .is (.pointer (some ⟨w.heap.size, 13, none⟩))), (some 32, .is (.int .u8 (z[13]?.getD 0))), (some 33, .is (.int .i64 (z[13]?.getD 0))), (some 34, .is (.int .i64 (z[12]?.getD 0))), (some 35, .is (.int .i64 (14 + (z[12]?.getD 0)))), (some 36, .is (.slice (some ⟨w.heap.size, 14, none⟩) q 114)), (some 37, .is (.agg #[.int .i64 (X9 ((z.drop 0).take 8)), .int .i64 (X9 ((z.drop 8).take 4)), .int .i64 (z[13]?.getD 0), .slice (some ⟨w.heap.size, 14, none⟩) q 114])), (some 6, .by fun u W => Ks W14.heap.size 85 [.int .i64 0, .int .i64 0, .int .i64 0, .slice none 0 0] u W)] [[], [], [1], [], [3], [4], [], [6], [7], [0, 2, 5, 8], []] ⟨fun _ _ _ hb h => h.below hb, trivial⟩ ?_ ?_
      .
       refine Dc (fun Wd hd => ?_) ?_
       .
        exact Dd (Qt rfl rfl) rfl
       refine Dc (fun Wd hd => ?_) ?_
       .
        exact Dd (VN (o1 := 8) (m := 4) (c := 120) 8 12 rfl Tryd.underlying75 QA rfl rfl rfl (by omega) (by omega) (by omega) (by omega) (by omega) rfl rfl rfl) rfl
       refine Dc (fun Wd hd => ?_) ?_
       .
        have k3 := k3.below hd
        exact DR.mono (QQ rfl Tryd.func78 rfl rfl rfl (QcK ((z.drop 8).take 4) _ Wd [] (LL.nil _) (JQ k3 8 4 120 (by omega) (by omega) (by unfold maxLen; omega)) (V2 hbz _ _) (by rw [U8 hz (by omega)]; omega))) (fun v W' ⟨h, hb⟩ => ⟨hb, (by rw [h]; exact rfl)⟩)
       refine Dc (fun Wd hd => ?_) ?_
       .
        exact Dd (QU (o1 := 13) rfl Tryd.underlying75 QA rfl rfl (by omega) (by first | (simp; done) | omega)) rfl
       refine Dc (fun Wd hd => ?_) ?_
       .
        have k3 := k3.below hd
        exact Dd (Qi rfl X1 rfl (k3.cell (k := 13) (U1 (by rw [show z.length = 128 from hz]; exact (by omega))))) rfl
       refine Dc (fun Wd hd => ?_) ?_
       .
        exact Dd (XP (r := z[13]?.getD 0) rfl Tryd.underlying5 Tryd.underlying3 rfl (Qm (by omega))) rfl
       refine Dc (fun Wd hd => ?_) ?_
       .
        exact Dd (Qt rfl rfl) rfl
       refine Dc (fun Wd hd => ?_) ?_
       .
        exact Dd (QR (r := 14 + (z[12]?.getD 0)) rfl rfl rfl (Qm (by omega))) rfl
       refine Dc (fun Wd hd => ?_) ?_
       .
        exact Dd (VN (o1 := 14) (m := q) (c := 114) 14 (14 + q) rfl Tryd.underlying75 QA rfl rfl rfl (by omega) (by omega) (by omega) (by omega) (by omega) rfl (by omega) rfl) rfl
       refine Dc (fun Wd hd => ?_) ?_
       .
        exact Dd (QS rfl rfl (Xi (cs := [.int .i64 (X9 ((z.drop 0).take 8)), .int .i64 (X9 ((z.drop 8).take 4)), .int .i64 (z[13]?.getD 0), .slice (some ⟨w.heap.size, 14, none⟩) q 114]) (by kernel_rfl) (oC rfl (oC rfl (oC rfl (oC rfl Qk)))))) rfl
       refine Dc (fun Wd hd => ?_) ?_
       .
        exact (Ul rfl ZQ rfl).mono (fun v W' h => ⟨h.1, h.2 hd⟩)
       exact trivial
      .
       intro W39 b40
       rintro _ ⟨B4_10, rfl, q4_10, t4_10⟩
       have k4_10 := t4_10.blk
       have n41 : w.heap.size ≠ B4_10 := Nat.ne_of_lt (Nat.lt_of_lt_of_le k3.lt q4_10)
       have n42 : W2.heap.size ≠ B4_10 := Nat.ne_of_lt (Nat.lt_of_lt_of_le k8.lt q4_10)
       replace k3 := k3.below b40
       replace k8 := k8.below b40
       have l43 := Nat.le_trans hB.size q4_10
       replace hB := Qe hB b40
       replace hL := LL.below hL b40
       replace hL := LL.cons hL k4_10.lt
       refine WL.do (Qh (cs' := [.int .i64 (X9 ((z.drop 0).take 8)), .int .i64 (X9 ((z.drop 8).take 4)), .int .i64 (z[13]?.getD 0), .slice (some ⟨w.heap.size, 14, none⟩) q 114]) (vs := [.int .i64 (X9 ((z.drop 0).take 8)), .int .i64 (X9 ((z.drop 8).take 4)), .int .i64 (z[13]?.getD 0), .slice (some ⟨w.heap.size, 14, none⟩) q 114]) rfl Xu rfl rfl rfl (oC rfl (oC rfl (oC rfl (oC rfl Qk)))) k4_10 rfl (nB rfl) rfl) rfl ?_
       rintro _ W44 ⟨k46, o45⟩
       replace k3 := k3.other o45 n41
       replace k8 := k8.other o45 n42
       clear k4_10
       replace hB := o45.below hB l43
       replace hL := LL.only hL o45
       refine Ni (hK38 (Sq fun K47 hK47 => ?_))
       refine WC.drawC 6 [(5, W2.heap.size, [.int .i64 0, .int .i64 0, .int .i64 0, .slice none 0 0], fun cs_ _ => cs_ = [.int .i64 (X9 ((z.drop 0).take 8)), .int .i64 (X9 ((z.drop 8).take 4)), .int .i64 (z[13]?.getD 0), .slice (some ⟨w.heap.size, 14, none⟩) q 114])] [(some 38, .is (.agg #[.int .i64 (X9 ((z.drop 0).take 8)), .int .i64 (X9 ((z.drop 8).take 4)), .int .i64 (z[13]?.getD 0), .slice (some ⟨w.heap.size, 14, none⟩) q 114])), (some 39, .is (.agg #[.int .i64 (X9 ((z.drop 0).take 8)), .int .i64 (X9 ((z.drop 8).take 4)), .int .i64 (z[13]?.getD 0), .slice (some ⟨w.heap.size, 14, none⟩) q 114])), (some 40, .is (.agg (Qr (Xk ⟨X9 ((z.drop 0).take 8), X9 ((z.drop 8).take 4), z[13]?.getD 0, (z.drop 14).take q⟩)).toArray)), (some 41, .is (.agg (Qr z).toArray)), (some 42, .is (.bool (decide (Xk ⟨X9 ((z.drop 0).take 8), X9 ((z.drop 8).take 4), z[13]?.getD 0, (z.drop 14).take q⟩ = z)))), (none, .by fun _ _ => True)] [[], [], [1], [], [2, 3], [0, 2, 0]] ⟨fun _ _ _ _ h => h, trivial⟩ (mA ⟨fun _ _ _ _ h => h, trivial⟩) ⟨fun x hx => (by cases hx), trivial⟩ (Xo (mA ⟨_, rfl⟩)) (mA k8) ?_ ?_
       .
        refine Ql.cons rfl (fun Wd hd hbs_ => ?_) ?_
        .
         have k46 := k46.chgM hd (by simp only [List.map_cons, List.map_nil, List.mem_cons, List.not_mem_nil, or_false, not_or]; exact n42.symm)
         exact Dd (Qg rfl Xq rfl k46.range rfl) rfl
        refine Ql.cons rfl (fun Wd hd hbs_ => ?_) ?_
        .
         have k46 := k46.chgM hd (by simp only [List.map_cons, List.map_nil, List.mem_cons, List.not_mem_nil, or_false, not_or]; exact n42.symm)
         exact Dd (Qg rfl Xq rfl k46.range rfl) rfl
        refine Ql.cons rfl (fun Wd hd hbs_ => ?_) ?_
        .
         have k3 := k3.chgM hd (by simp only [List.map_cons, List.map_nil, List.mem_cons, List.not_mem_nil, or_false, not_or]; exact n11)
         exact DR.mono (QQ rfl Tryd.func64 rfl rfl rfl (QbO (X9 ((z.drop 0).take 8)) (X9 ((z.drop 8).take 4)) (z[13]?.getD 0) ((z.drop 14).take q) _ Wd [] (LL.nil _) (JQ k3 14 q 114 (by omega) (by omega) (by unfold maxLen; omega)) (V2 hbz _ _) (by rw [hdl]; exact hq100) (hT.below (hd.toBelow hB (mA l12))))) (fun v W' ⟨h, hb⟩ => ⟨hb, (by rw [h]; exact rfl)⟩)
        refine Ql.cons rfl (fun Wd hd hbs_ => ?_) ?_
        .
         have k3 := k3.chgM hd (by simp only [List.map_cons, List.map_nil, List.mem_cons, List.not_mem_nil, or_false, not_or]; exact n11)
         exact Dd (Qg rfl QF rfl k3.range (by rw [Qo]; exact hz)) rfl
        refine Ql.cons rfl (fun Wd hd hbs_ => ?_) ?_
        .
         exact Dd (Qe6 (K := .u8) (xs := Xk ⟨X9 ((z.drop 0).take 8), X9 ((z.drop 8).take 4), z[13]?.getD 0, (z.drop 14).take q⟩) (ys := z) rfl Tryd.underlying75 Tryd.underlying5 QA (by kernel_rfl) rfl rfl (Z8 (by show (List.take _ _).length <= 106; rw [hdl]; omega)) hz) rfl
        refine Ql.hit rfl (fun Wd hd hb_ => ?_) ?_
        .
         exact (Qx (vs := [.int .i64 (X9 ((z.drop 0).take 8)), .int .i64 (X9 ((z.drop 8).take 4)), .int .i64 (z[13]?.getD 0), .slice (some ⟨w.heap.size, 14, none⟩) q 114]) rfl Xu rfl rfl rfl (oC rfl (oC rfl (oC rfl (oC rfl Qk)))) hb_ rfl rfl).mono (fun _ W' h => ⟨h.2, Xj.is h.1, trivial⟩)
        exact trivial
       .
        intro W48 hd hq_
        replace k3 := k3.chgM hd (by simp only [List.map_cons, List.map_nil, List.mem_cons, List.not_mem_nil, or_false, not_or]; exact n11)
        replace k46 := k46.chgM hd (by simp only [List.map_cons, List.map_nil, List.mem_cons, List.not_mem_nil, or_false, not_or]; exact n42.symm)
        have k49 := hq_ _ (.head _)
        replace k49 := Xj.blk k49
        replace hB := hd.toBelow hB (mA l12)
        replace hL := hL.chgM hd
        intro _ _
        refine Pu rfl (Ni (hK47 ?_))
        exact WC.ret fun a_ ha_ => hQ (QO rfl (.agg rfl Xq k49.range rfl) (.tmp rfl) ⟨⟨X9 ((z.drop 0).take 8), X9 ((z.drop 8).take 4), z[13]?.getD 0, (z.drop 14).take q⟩, _, _, rfl, Qek k3 14 q 114 (by omega) (by omega) (by unfold maxLen; omega) (fun h_ => by have := hL0 _ h_; have := l6; omega), QbC (by unfold VR; omega) (by unfold Ub; rw [hq]; rfl), V2 hbz _ _, by show (List.take _ _).length <= 100; rw [hdl]; exact hq100⟩ hB ha_)

def YL (Qb : List (List Int)) (Qa : List (Int × List Int)) : Prop := (∀ z ∈ Qb, Z0 z) /\ ∀ p ∈ Qa, Z0 p.2
theorem Gn : Z0 z0 := fun x hx => by
 unfold z0 at hx
 have := (List.mem_replicate.1 hx).2
 omega
theorem KD {l : List (Int × List Int)} (h : ∀ p ∈ l, Z0 p.2) (a : Int) : ∀ (n : Nat) (z : List Int), Zl l a n = some z -> Z0 z
  | 0, z, h' => by simp [Zl] at h'
  | n + 1, z, h' => by
    unfold Zl at h'
    split at h'
    . rename_i p hp
      split at h'
      . cases h'; exact h p (List.mem_of_getElem? hp)
      . exact KD h a n z h'
    . exact KD h a n z h'
theorem Kw {Qb : List (List Int)} {Qa : List (Int × List Int)} (h : YL Qb Qa) (Qc : Bool) (a : Int) : Z0 (Xn Qb Qa Qc a).1 := by
  unfold Xn
  split
  . exact Gn
  . split
    . exact Gn
    . split
      . exact Gn
      . split
        . rename_i z hz; exact KD h.2 a _ z hz
        . show Z0 (Qb[a.toNat]?.getD [])
          cases e : Qb[a.toNat]? with
          | none => exact fun x hx => by cases hx
          | some x => exact h.1 x (List.mem_of_getElem? e)
def UK (Qb : List (List Int)) (Qa : List (Int × List Int)) (Qc : Bool) (a ix : Int) : Option Pg :=
 if ¬ (Xn Qb Qa Qc a).2 = 0 then none else match Zq (Xn Qb Qa Qc a).1 with
  | some p => if p.idx = ix then some p else none
  | none => none
def PaS (x : Option Pg) (p : Pg) (b : Bool) : Prop := (b = true -> x = some p) /\ (b = false -> x = none)
theorem QeN {Qb : List (List Int)} {Qa : List (Int × List Int)} {Qc : Bool} {a ix : Int} {p : Pg} (h : ¬ (Xn Qb Qa Qc a).2 = 0) : PaS (UK Qb Qa Qc a ix) p false := by
 unfold UK; rw [if_pos h]; exact ⟨fun h => (by cases h), fun _ => rfl⟩
theorem QeL {Qb : List (List Int)} {Qa : List (Int × List Int)} {Qc : Bool} {a ix : Int} {p : Pg} (h : ¬ ¬ (Xn Qb Qa Qc a).2 = 0) (hu : UnS (Xn Qb Qa Qc a).1 p false) : PaS (UK Qb Qa Qc a ix) p false := by
 unfold UK; rw [if_neg h, hu.2 rfl]; exact ⟨fun h => (by cases h), fun _ => rfl⟩
theorem QeM {Qb : List (List Int)} {Qa : List (Int × List Int)} {Qc : Bool} {a ix : Int} {p : Pg} (h : ¬ ¬ (Xn Qb Qa Qc a).2 = 0) (hu : UnS (Xn Qb Qa Qc a).1 p true) : PaS (UK Qb Qa Qc a ix) p (decide (p.idx = ix)) := by
 unfold UK; rw [if_neg h, hu.1 rfl]
 dsimp only
 by_cases hi : p.idx = ix
 . rw [if_pos hi, decide_eq_true hi]; exact ⟨fun _ => rfl, fun h => (by cases h)⟩
 . rw [if_neg hi, decide_eq_false hi]; exact ⟨fun h => (by cases h), fun _ => rfl⟩
set_option maxHeartbeats 1000000 in
theorem Qck (Qb : List (List Int)) (Qa : List (Int × List Int)) (Qd : Int) (Qc : Bool) (s1 s2 : Value) (fr sz ix : Int) (P : Nat) (rest : List Value) (w : World) (L : List Nat) (hL : LL L w) (h1 : QD 128 L w s1 (Qb.map Qr)) (h2 : QD 129 L w s2 (Qa.map QG))  (hp : Xc w P ([s1, s2, .int .i64 Qd, .bool Qc, .int .i64 fr, .int .i64 sz] ++ rest)) (hfr : 0 <= fr /\ fr <= 100000) (hix : 0 <= ix /\ ix <= 100000) (hbd : YL Qb Qa) (hT : ZM w) : CV Tryd.prog 60 [.pointer (some ⟨P, 0, none⟩), .int .i64 ix] w fun v W => ∃ (p : Pg) (dv : Value) (b : Bool), v = .tuple #[.agg #[.int .i64 p.gen, .int .i64 p.idx, .int .i64 p.mks, dv], .bool b] /\ QD 1 L W dv (Vw p.dat) /\ PaS (UK Qb Qa Qc (fr + ix) ix) p b /\ Z0 p.dat /\ p.dat.length <= 100 := by
 refine QN (N := 40) (f := [(0, .pointer (some ⟨P, 0, none⟩)), (1, .int .i64 ix)]) Tryd.func60 rfl rfl rfl rfl fun Q hQ hE => ?_
 have hB := Below.refl w.heap.size w
 have h1m : Qb.length <= maxLen := by have := h1.len; rwa [List.length_map] at this
 unfold maxLen at h1m
 have h2m : Qa.length <= maxLen := by have := h2.len; rwa [List.length_map] at this
 unfold maxLen at h2m
 refine Sq fun K1 hK1 => (Rg ?_)
 refine Ge (Qu rfl ZQ rfl) rfl rfl ?_
 rintro _ W2 ⟨rfl, k3, b4, z5⟩
 have n6 : P ≠ w.heap.size := Nat.ne_of_lt hp.lt
 have l7 := hB.size
 replace h1 := h1.more b4 (Nat.le_refl _)
 replace h2 := h2.more b4 (Nat.le_refl _)
 replace hp := hp.below b4
 replace hB := Qe hB b4
 replace hL := LL.more hL z5
 refine Pu rfl (Ni (hK1 (Sq fun K8 hK8 => ?_)))
 refine WC.drawR 16 15 14 6 (fun u W => UG W2.heap.size 75 128 u W) (fun u W => Ks W2.heap.size 75 (Qr ((Xn Qb Qa Qc (fr + ix)).1)) u W) (EJ W2.heap.size 75 128) [(some 11, .is (.pointer (some ⟨P, 0, none⟩))), (some 12, .is (.pointer (some ⟨P, 0, none⟩))), (some 13, .is (.pointer (some ⟨P, 0, none⟩))), (some 14, .is (.agg #[s1, s2, .int .i64 Qd, .bool Qc])), (some 15, .is (.pointer (some ⟨P, 0, none⟩))), (some 16, .is (.pointer (some ⟨P, 0, none⟩))), (some 17, .is (.pointer (some ⟨P, 4, none⟩))), (some 18, .is (.int .i64 fr)), (some 19, .is (.int .i64 ix)), (some 20, .is (.int .i64 (fr + ix))), (some 21, .is (.tuple #[.agg (Qr ((Xn Qb Qa Qc (fr + ix)).1)).toArray, .int .i64 ((Xn Qb Qa Qc (fr + ix)).2)])), (some 10, .is (.tuple #[.agg (Qr ((Xn Qb Qa Qc (fr + ix)).1)).toArray, .int .i64 ((Xn Qb Qa Qc (fr + ix)).2)])), (some 22, .is (.agg (Qr ((Xn Qb Qa Qc (fr + ix)).1)).toArray)), (some 23, .is (.int .i64 ((Xn Qb Qa Qc (fr + ix)).2))), (some 6, .by fun u W => UG W2.heap.size 75 128 u W), (none, .by fun _ _ => True)] [[], [0], [1], [2], [], [4], [5], [6], [], [7, 8], [3, 9], [10], [11], [11], [], [14, 12, 10, 0, 1, 2, 3, 4, 5, 6, 7, 8, 9, 10, 11, 12, 14]] (by kernel_rfl) (by kernel_rfl) (by kernel_rfl) (by kernel_rfl) (by kernel_rfl) (by kernel_rfl) (by kernel_rfl) ⟨fun _ _ _ hb h => h.below hb, fun _ _ _ _ h => h, trivial⟩ rfl rfl rfl (by decide) (by decide) ⟨fun _ _ _ hw h => h.wr hw, fun _ _ _ _ h => h, trivial⟩ (fun _ _ _ hb h => h.below hb) (fun _ _ hb hw => hw.below hb) ?_ ?_
 .
  refine Q5.cons (by decide) (fun Wd hd => ?_) ?_
  .
   exact Dd (Qt rfl rfl) rfl
  refine Q5.cons (by decide) (fun Wd hd => ?_) ?_
  .
   exact Dd (QZ rfl rfl) rfl
  refine Q5.cons (by decide) (fun Wd hd => ?_) ?_
  .
   exact Dd (Qn (o1 := 0) rfl ZR rfl rfl) rfl
  refine Q5.cons (by decide) (fun Wd hd => ?_) ?_
  .
   have hp := hp.below hd
   exact Dd (Qg (cs := [s1, s2, .int .i64 Qd, .bool Qc]) rfl Qf rfl (hp.part 0 4) rfl) rfl
  refine Q5.cons (by decide) (fun Wd hd => ?_) ?_
  .
   exact Dd (Qt rfl rfl) rfl
  refine Q5.cons (by decide) (fun Wd hd => ?_) ?_
  .
   exact Dd (QZ rfl rfl) rfl
  refine Q5.cons (by decide) (fun Wd hd => ?_) ?_
  .
   exact Dd (Qn (o1 := 4) rfl Ju rfl rfl) rfl
  refine Q5.cons (by decide) (fun Wd hd => ?_) ?_
  .
   have hp := hp.below hd
   exact Dd (Qi rfl Qv rfl (hp.cell (k := 4) rfl)) rfl
  refine Q5.cons (by decide) (fun Wd hd => ?_) ?_
  .
   exact Dd (Qt rfl rfl) rfl
  refine Q5.cons (by decide) (fun Wd hd => ?_) ?_
  .
   exact Dd (QR (r := fr + ix) rfl rfl rfl (Qm (by omega))) rfl
  refine Q5.cons (by decide) (fun Wd hd => ?_) ?_
  .
   have h1 := h1.below hd
   have h2 := h2.below hd
   exact DR.mono (QQ rfl Tryd.func73 rfl rfl rfl (Qb8 Qb Qa Qd Qc _ _ (fr + ix) Wd _ (LL.below hL hd) h1 h2)) (fun v W' ⟨h, hb⟩ => ⟨hb, (by rw [h]; exact rfl)⟩)
  refine Q5.cons (by decide) (fun Wd hd => ?_) ?_
  .
   exact Dd (Qt rfl rfl) rfl
  refine Q5.cons (by decide) (fun Wd hd => ?_) ?_
  .
   exact Dd (Zd rfl rfl rfl) rfl
  refine Q5.cons (by decide) (fun Wd hd => ?_) ?_
  .
   exact Dd (Zd rfl rfl rfl) rfl
  refine Q5.cons (by decide) (fun Wd hd => ?_) ?_
  .
   exact (Ul (cs := Qr z0) rfl ZE Yh).mono (fun v W' h => ⟨h.1, (h.2 hd).newT (by rw [Qo]; exact Xy)⟩)
  refine Q5.hit (fun Wd hd ut hut => ?_) ?_
  .
   exact Jk rfl Q1 rfl hut rfl rfl (YU ((Xn Qb Qa Qc (fr + ix)).1)) (by rw [Qo]; exact (Yk h1 h2))
  exact trivial
 .
  intro W10 b11
  rintro _ - ⟨B1_14, rfl, q1_14, t1_14⟩
  have k1_14 := t1_14.blk
  intro _ _
  have n13 : w.heap.size ≠ B1_14 := Nat.ne_of_lt (Nat.lt_of_lt_of_le k3.lt q1_14)
  replace h1 := h1.more b11 q1_14
  replace h2 := h2.more b11 q1_14
  replace hp := hp.below b11
  replace k3 := k3.below b11
  have l14 := Nat.le_trans hB.size q1_14
  replace hB := Qe hB b11
  replace hL := LL.below hL b11
  replace hL := LL.cons hL k1_14.lt
  refine Pu rfl (Ni (hK8 (Sq fun K15 hK15 => (Sq fun K16 hK16 => (Rg (Pu rfl (Va (Xl rfl rfl rfl) rfl rfl ?_)))))))
  refine Ni (hK16 ?_)
  refine WC.cond rfl (fun c17 => ?_) (fun c17 => ?_)
  .
   replace c17 := Q4 c17
   replace c17 := dF c17
   refine Sq fun K18 hK18 => (Rg (Va (QS rfl rfl (Xi (cs := [.int .i64 0, .int .i64 0, .int .i64 0, .slice none 0 0]) (by kernel_rfl) Qk)) rfl rfl ?_))
   refine WL.do (Qh (cs' := [.int .i64 0, .int .i64 0, .int .i64 0, .slice none 0 0]) (vs := [.int .i64 0, .int .i64 0, .int .i64 0, .slice none 0 0]) rfl Xu rfl rfl rfl (oC rfl (oC rfl (oC rfl (oC rfl Qk)))) k3 rfl (nB rfl) rfl) rfl ?_
   rintro _ W19 ⟨k21, o20⟩
   clear k3
   replace hB := o20.below hB l7
   refine Pu rfl (Ni (hK18 ?_))
   exact WC.ret fun a_ ha_ => hQ (QO rfl (.agg rfl Xq k21.range rfl) (.tmp rfl) ⟨⟨0, 0, 0, []⟩, _, false, rfl, QD.nil (by decide), QeN (by first | assumption | omega | simp_all), fun x hx => (by cases hx), by show 0 <= 100; omega⟩ hB ha_)
  .
   replace c17 := Q2 c17
   replace c17 := dT c17
   refine WC.skip (hK15 (Sq fun K22 hK22 => (Rg (Va (Qg rfl QF rfl k1_14.range (by rw [Qo]; exact (Yk h1 h2))) rfl rfl ?_))))
   refine Ge (QQ rfl Tryd.func74 rfl rfl rfl (FT ((Xn Qb Qa Qc (fr + ix)).1) W10 _ hL hL (Yk h1 h2) (Kw hbd _ _) (hT.below hB))) rfl rfl ?_
   rintro _ W24 ⟨⟨p, dv, ub, rfl, hdv, hun, hpy, hpl⟩, b23⟩
   replace h1 := h1.below b23
   replace h2 := h2.below b23
   replace hp := hp.below b23
   replace k3 := k3.below b23
   replace k1_14 := k1_14.below b23
   replace hB := Qe hB b23
   replace hL := LL.below hL b23
   refine Pu rfl (Pu rfl (Pu rfl ?_))
   refine Ge (Qu rfl ZQ rfl) rfl rfl ?_
   rintro _ W25 ⟨rfl, k26, b27, z28⟩
   have n29 : P ≠ W24.heap.size := Nat.ne_of_lt hp.lt
   have n30 : w.heap.size ≠ W24.heap.size := Nat.ne_of_lt k3.lt
   have n31 : B1_14 ≠ W24.heap.size := Nat.ne_of_lt k1_14.lt
   have l32 := hB.size
   replace h1 := h1.more b27 (Nat.le_refl _)
   replace h2 := h2.more b27 (Nat.le_refl _)
   replace hdv := hdv.more b27 (Nat.le_refl _)
   replace hp := hp.below b27
   replace k3 := k3.below b27
   replace k1_14 := k1_14.below b27
   replace hB := Qe hB b27
   replace hL := LL.more hL z28
   refine WL.do (Qh (cs' := [.int .i64 p.gen, .int .i64 p.idx, .int .i64 p.mks, dv]) (vs := [.int .i64 p.gen, .int .i64 p.idx, .int .i64 p.mks, dv]) rfl Xu rfl rfl rfl (oC rfl (oC rfl (oC rfl (oC hdv.one Qk)))) k26 rfl (nB rfl) rfl) rfl ?_
   rintro _ W33 ⟨k35, o34⟩
   replace hp := hp.other o34 n29
   replace k3 := k3.other o34 n30
   replace k1_14 := k1_14.other o34 n31
   clear k26
   replace h1 := h1.only o34 (.head _)
   replace h2 := h2.only o34 (.head _)
   replace hdv := hdv.only o34 (.head _)
   replace hB := o34.below hB l32
   replace hL := LL.only hL o34
   refine Pu rfl (Ni (hK22 (Sq fun K36 hK36 => ?_)))
   cases ub
   .
    refine WC.drawC 9 [(8, w.heap.size, [.int .i64 0, .int .i64 0, .int .i64 0, .slice none 0 0], fun cs_ _ => cs_ = [.int .i64 p.gen, .int .i64 p.idx, .int .i64 p.mks, dv])] [(some 32, .is (.agg #[.int .i64 p.gen, .int .i64 p.idx, .int .i64 p.mks, dv])), (some 33, .is (.bool false)), (some 34, .is (.bool false)), (some 35, .is (undef)), (some 36, .is (undef)), (some 37, .is (undef)), (some 38, .is (undef)), (some 39, .is (.bool false)), (none, .by fun _ _ => True)] [[], [], [1], [2], [3, 2], [2], [4, 5, 2], [2, 6], [0, 2, 0]] ⟨fun _ _ _ _ h => h, trivial⟩ (mA ⟨fun _ _ _ _ h => h, trivial⟩) ⟨fun x hx => (by cases hx), trivial⟩ (Xo (mA ⟨_, rfl⟩)) (mA k3) ?_ ?_
    .
     refine Ql.cons rfl (fun Wd hd hbs_ => ?_) ?_
     .
      have k35 := k35.chgM hd (by simp only [List.map_cons, List.map_nil, List.mem_cons, List.not_mem_nil, or_false, not_or]; exact n30.symm)
      exact Dd (Qg rfl Xq rfl k35.range rfl) rfl
     refine Ql.cons rfl (fun Wd hd hbs_ => ?_) ?_
     .
      exact Dd (Qt rfl rfl) rfl
     refine Ql.cons rfl (fun Wd hd hbs_ => ?_) ?_
     .
      exact Dd (Qt rfl rfl) rfl
     refine Ql.cons rfl (fun Wd hd hbs_ => ?_) ?_
     .
      exact Dd (Xb rfl) rfl
     refine Ql.cons rfl (fun Wd hd hbs_ => ?_) ?_
     .
      exact Dd (Xb rfl) rfl
     refine Ql.cons rfl (fun Wd hd hbs_ => ?_) ?_
     .
      exact Dd (Xb rfl) rfl
     refine Ql.cons rfl (fun Wd hd hbs_ => ?_) ?_
     .
      exact Dd (Xb rfl) rfl
     refine Ql.cons rfl (fun Wd hd hbs_ => ?_) ?_
     .
      exact Dd (ZT rfl rfl rfl) rfl
     refine Ql.hit rfl (fun Wd hd hb_ => ?_) ?_
     .
      have hdv := hdv.chgM hd (mA (.tail _ (.tail _ (.head _))))
      exact (Qx (vs := [.int .i64 p.gen, .int .i64 p.idx, .int .i64 p.mks, dv]) rfl Xu rfl rfl rfl (oC rfl (oC rfl (oC rfl (oC hdv.one Qk)))) hb_ rfl rfl).mono (fun _ W' h => ⟨h.2, Xj.is h.1, trivial⟩)
     exact trivial
    .
     intro W37 hd hq_
     replace h1 := h1.chgM hd (mA (.tail _ (.tail _ (.head _))))
     replace h2 := h2.chgM hd (mA (.tail _ (.tail _ (.head _))))
     replace hdv := hdv.chgM hd (mA (.tail _ (.tail _ (.head _))))
     replace hp := hp.chgM hd (by simp only [List.map_cons, List.map_nil, List.mem_cons, List.not_mem_nil, or_false, not_or]; exact n6)
     replace k1_14 := k1_14.chgM hd (by simp only [List.map_cons, List.map_nil, List.mem_cons, List.not_mem_nil, or_false, not_or]; exact n13.symm)
     replace k35 := k35.chgM hd (by simp only [List.map_cons, List.map_nil, List.mem_cons, List.not_mem_nil, or_false, not_or]; exact n30.symm)
     have k38 := hq_ _ (.head _)
     replace k38 := Xj.blk k38
     replace hB := hd.toBelow hB (mA l7)
     replace hL := hL.chgM hd
     intro _ _
     refine Pu rfl (Ni (hK36 ?_))
     exact WC.ret fun a_ ha_ => hQ (QO rfl (.agg rfl Xq k38.range rfl) (.tmp rfl) ⟨p, dv, _, rfl, (hdv.less (fun x hx => (.tail _ (.tail _ (.tail _ hx))))), QeL (by first | assumption | omega | simp_all) hun, hpy, hpl⟩ hB ha_)
   .
    refine WC.drawC 9 [(8, w.heap.size, [.int .i64 0, .int .i64 0, .int .i64 0, .slice none 0 0], fun cs_ _ => cs_ = [.int .i64 p.gen, .int .i64 p.idx, .int .i64 p.mks, dv])] [(some 32, .is (.agg #[.int .i64 p.gen, .int .i64 p.idx, .int .i64 p.mks, dv])), (some 33, .is (.bool true)), (some 34, .is (.bool true)), (some 35, .is (.pointer (some ⟨W24.heap.size, 1, none⟩))), (some 36, .is (.int .i64 p.idx)), (some 37, .is (.int .i64 ix)), (some 38, .is (.bool (decide (p.idx = ix)))), (some 39, .is (.bool (decide (p.idx = ix)))), (none, .by fun _ _ => True)] [[], [], [1], [2], [3, 2], [2], [4, 5, 2], [2, 6], [0, 2, 0]] ⟨fun _ _ _ _ h => h, trivial⟩ (mA ⟨fun _ _ _ _ h => h, trivial⟩) ⟨fun x hx => (by cases hx), trivial⟩ (Xo (mA ⟨_, rfl⟩)) (mA k3) ?_ ?_
    .
     refine Ql.cons rfl (fun Wd hd hbs_ => ?_) ?_
     .
      have k35 := k35.chgM hd (by simp only [List.map_cons, List.map_nil, List.mem_cons, List.not_mem_nil, or_false, not_or]; exact n30.symm)
      exact Dd (Qg rfl Xq rfl k35.range rfl) rfl
     refine Ql.cons rfl (fun Wd hd hbs_ => ?_) ?_
     .
      exact Dd (Qt rfl rfl) rfl
     refine Ql.cons rfl (fun Wd hd hbs_ => ?_) ?_
     .
      exact Dd (Qt rfl rfl) rfl
     refine Ql.cons rfl (fun Wd hd hbs_ => ?_) ?_
     .
      exact Dd (Qn (o1 := 1) rfl Vb rfl rfl) rfl
     refine Ql.cons rfl (fun Wd hd hbs_ => ?_) ?_
     .
      have k35 := k35.chgM hd (by simp only [List.map_cons, List.map_nil, List.mem_cons, List.not_mem_nil, or_false, not_or]; exact n30.symm)
      exact Dd (Qi rfl Qv rfl (k35.cell (k := 1) rfl)) rfl
     refine Ql.cons rfl (fun Wd hd hbs_ => ?_) ?_
     .
      exact Dd (Qt rfl rfl) rfl
     refine Ql.cons rfl (fun Wd hd hbs_ => ?_) ?_
     .
      exact Dd (Zw rfl rfl rfl) rfl
     refine Ql.cons rfl (fun Wd hd hbs_ => ?_) ?_
     .
      exact Dd (ZT rfl rfl rfl) rfl
     refine Ql.hit rfl (fun Wd hd hb_ => ?_) ?_
     .
      have hdv := hdv.chgM hd (mA (.tail _ (.tail _ (.head _))))
      exact (Qx (vs := [.int .i64 p.gen, .int .i64 p.idx, .int .i64 p.mks, dv]) rfl Xu rfl rfl rfl (oC rfl (oC rfl (oC rfl (oC hdv.one Qk)))) hb_ rfl rfl).mono (fun _ W' h => ⟨h.2, Xj.is h.1, trivial⟩)
     exact trivial
    .
     intro W39 hd hq_
     replace h1 := h1.chgM hd (mA (.tail _ (.tail _ (.head _))))
     replace h2 := h2.chgM hd (mA (.tail _ (.tail _ (.head _))))
     replace hdv := hdv.chgM hd (mA (.tail _ (.tail _ (.head _))))
     replace hp := hp.chgM hd (by simp only [List.map_cons, List.map_nil, List.mem_cons, List.not_mem_nil, or_false, not_or]; exact n6)
     replace k1_14 := k1_14.chgM hd (by simp only [List.map_cons, List.map_nil, List.mem_cons, List.not_mem_nil, or_false, not_or]; exact n13.symm)
     replace k35 := k35.chgM hd (by simp only [List.map_cons, List.map_nil, List.mem_cons, List.not_mem_nil, or_false, not_or]; exact n30.symm)
     have k40 := hq_ _ (.head _)
     replace k40 := Xj.blk k40
     replace hB := hd.toBelow hB (mA l7)
     replace hL := hL.chgM hd
     intro _ _
     refine Pu rfl (Ni (hK36 ?_))
     exact WC.ret fun a_ ha_ => hQ (QO rfl (.agg rfl Xq k40.range rfl) (.tmp rfl) ⟨p, dv, _, rfl, (hdv.less (fun x hx => (.tail _ (.tail _ (.tail _ hx))))), QeM (by first | assumption | omega | simp_all) hun, hpy, hpl⟩ hB ha_)

theorem Qe8 {P : Program} {ops : Array Oper} {o : Oper} {N : Nat} {f : Fl} {w : World} {t d e : TypeId} {x : Operand} {u : Value} {l : List Int} {L : List Nat} (ho : o.op = .convert t d x) (hs : P.underlying t = some (.slice e)) (hd : P.underlying d = some .string) (he : P.underlying e = some (.int .u8)) (hx : ev f x = some u) (h : QD 1 L w u (Vw l)) (hw : QP ops o f = some true := by rfl) : DV P ops o N f w (.string (strOfNums l)) := fun a ha => by
 have hx := ha.ev hx
 have hc := F3 (P := P) (w := w) t d e hs hd he u l (DQ h)
 exact QK.pure (Qw ha hw) _ (by unfold execOp; simp only [ho, hx, Sem.run_bind, Sem.run_pure, hc, Result.andThen_ok]) ⟨rfl, rfl⟩
def PaO {α : Type} (x : Option α) (p : α) (b : Bool) : Prop := (b = true -> x = some p) /\ (b = false -> x = none)
theorem DW {α : Type} {x : Option α} {p : α} (h : x = none) : PaO x p false := ⟨fun h => (by cases h), fun _ => h⟩
theorem Qfk {α : Type} {x : Option α} {p : α} (h : x = some p) : PaO x p true := ⟨fun _ => h, fun h => (by cases h)⟩
def VH (p : Pg) : Option Int := if p.idx = 0 /\ p.mks = 3 /\ p.dat.length = 7 /\ p.dat.take 3 = [108, 111, 103] then some (X9 (p.dat.drop 3)) else none
theorem Uc {l : List Int} (h : Z0 l) : strOfNums l = ⟨#[108, 111, 103]⟩ ↔ l = [108, 111, 103] := by
  constructor
  . intro e
    have := congrArg sb e
    rw [QbR h] at this
    exact this
  . rintro rfl; rfl
def ZL (gen n : Int) : Pg := ⟨gen, 0, 3, [108, 111, 103] ++ ZG 4 n⟩
set_option maxHeartbeats 1000000 in
theorem QeD (p : Pg) (dv : Value) (w : World) (L : List Nat) (hL : LL L w) (h1 : QD 1 L w dv (Vw p.dat))  (hby : Z0 p.dat) : CV Tryd.prog 61 [.agg #[.int .i64 p.gen, .int .i64 p.idx, .int .i64 p.mks, dv]] w fun v W => ∃ (n : Int) (b : Bool), v = .tuple #[.int .i64 n, .bool b] /\ PaO (VH p) n b := by
 refine QN (N := 29) (f := [(0, .agg #[.int .i64 p.gen, .int .i64 p.idx, .int .i64 p.mks, dv])]) Tryd.func61 rfl rfl rfl rfl fun Q hQ hE => ?_
 have hB := Below.refl w.heap.size w
 refine Sq fun K1 hK1 => (Rg ?_)
 refine Ge (Xa rfl rfl rfl) rfl rfl ?_
 rintro _ W2 ⟨rfl, k3, b4, z5⟩
 have l6 := hB.size
 replace h1 := h1.more b4 (Nat.le_refl _)
 replace hB := Qe hB b4
 replace hL := LL.more hL z5
 refine Pu rfl (Pu rfl (Ni (hK1 (Sq fun K7 hK7 => (Sq fun K8 hK8 => (Rg (Va (Qn (o1 := 1) rfl Vb rfl rfl) rfl rfl ?_)))))))
 refine Va (Qi rfl Qv rfl (k3.cell (k := 1) rfl)) rfl rfl (Va (Xl rfl rfl rfl) rfl rfl (Pu rfl ?_))
 refine WL.split 7 rfl (fun g9 => ?_) (fun g9 => ?_)
 .
  replace g9 := Q4 g9
  replace g9 := dF g9
  refine Of rfl (Of rfl (Of rfl (Pu rfl (Pu rfl (Of rfl (Of rfl (Of rfl ?_)))))))
  refine Of rfl (Pu rfl (Pu rfl (Of rfl (Of rfl (Of rfl (Of rfl (Of rfl ?_)))))))
  refine Pu rfl (Ni (hK8 (WC.condT rfl (Sq fun K10 hK10 => (Rg (Pu rfl (Pu rfl ?_)))))))
  refine Ni (hK10 ?_)
  exact WC.ret fun a_ ha_ => hQ (QO rfl (.tmp rfl) (.tmp rfl) ⟨_, _, rfl, DW (by unfold VH; rw [if_neg]; rintro ⟨q1, q2, q3, q4⟩; first | omega | (have q5 := (Uc (fun x hx => hby x (List.mem_of_mem_take hx))).2 q4; simp_all; done) | (simp_all; done) | (simp_all; omega))⟩ hB ha_)
 .
  replace g9 := Q2 g9
  replace g9 := dT g9
  refine Va (Qn (o1 := 2) rfl Zz rfl rfl) rfl rfl (Va (Qi rfl Qv rfl (k3.cell (k := 2) rfl)) rfl rfl (Va (Xl rfl rfl rfl) rfl rfl (Pu rfl (Pu rfl ?_))))
  refine WL.split 12 rfl (fun g11 => ?_) (fun g11 => ?_)
  .
   replace g11 := Q4 g11
   replace g11 := dF g11
   refine Of rfl (Of rfl (Of rfl (Of rfl (Pu rfl (Pu rfl (Of rfl (Of rfl ?_)))))))
   refine Of rfl (Of rfl (Of rfl (Pu rfl (Ni (hK8 (WC.condT rfl (Sq fun K12 hK12 => ?_)))))))
   refine Rg (Pu rfl (Pu rfl (Ni (hK12 ?_))))
   exact WC.ret fun a_ ha_ => hQ (QO rfl (.tmp rfl) (.tmp rfl) ⟨_, _, rfl, DW (by unfold VH; rw [if_neg]; rintro ⟨q1, q2, q3, q4⟩; first | omega | (have q5 := (Uc (fun x hx => hby x (List.mem_of_mem_take hx))).2 q4; simp_all; done) | (simp_all; done) | (simp_all; omega))⟩ hB ha_)
  .
   replace g11 := Q2 g11
   replace g11 := dT g11
   refine Va (Qn (o1 := 3) rfl Zy rfl rfl) rfl rfl (Va (Qi rfl XR rfl (k3.cell (k := 3) rfl)) rfl rfl (Va (QT rfl QH rfl h1) rfl rfl (Va (Xl rfl rfl rfl) rfl rfl (Pu rfl (Pu rfl ?_)))))
   refine WL.split 18 rfl (fun g13 => ?_) (fun g13 => ?_)
   .
    replace g13 := Q4 g13
    replace g13 := dF g13
    refine Of rfl (Of rfl (Of rfl (Of rfl (Of rfl (Pu rfl (Ni (hK8 ?_)))))))
    refine WC.condT rfl (Sq fun K14 hK14 => (Rg (Pu rfl (Pu rfl (Ni (hK14 ?_))))))
    exact WC.ret fun a_ ha_ => hQ (QO rfl (.tmp rfl) (.tmp rfl) ⟨_, _, rfl, DW (by unfold VH; rw [if_neg]; rintro ⟨q1, q2, q3, q4⟩; first | omega | (have q5 := (Uc (fun x hx => hby x (List.mem_of_mem_take hx))).2 q4; simp_all; done) | (simp_all; done) | (simp_all; omega))⟩ hB ha_)
   .
    replace g13 := Q2 g13
    replace g13 := dT g13
    refine Va (Qn (o1 := 3) rfl Zy rfl rfl) rfl rfl (Va (Qi rfl XR rfl (k3.cell (k := 3) rfl)) rfl rfl ?_)
    refine Ge (Fw 3 rfl QH rfl h1 rfl (by omega) (by omega)) rfl rfl ?_
    rintro u15 _ ⟨rfl, p16⟩
    refine Va (Qe8 rfl Tryd.underlying40 Tryd.underlying9 Tryd.underlying5 rfl p16) rfl rfl (Va (Qea rfl rfl rfl) rfl rfl (Pu rfl (Ni (hK8 ?_))))
    refine WC.cond rfl (fun c17 => ?_) (fun c17 => ?_)
    .
     replace c17 := Q4 c17
     replace c17 := dF c17
     refine Sq fun K18 hK18 => (Rg (Pu rfl (Pu rfl (Ni (hK18 ?_)))))
     exact WC.ret fun a_ ha_ => hQ (QO rfl (.tmp rfl) (.tmp rfl) ⟨_, _, rfl, DW (by unfold VH; rw [if_neg]; rintro ⟨q1, q2, q3, q4⟩; first | omega | (have q5 := (Uc (fun x hx => hby x (List.mem_of_mem_take hx))).2 q4; simp_all; done) | (simp_all; done) | (simp_all; omega))⟩ hB ha_)
    .
     replace c17 := Q2 c17
     replace c17 := dT c17
     refine WC.skip (hK7 (Sq fun K19 hK19 => (Rg (Va (Qn (o1 := 3) rfl Zy rfl rfl) rfl rfl (Va (Qi rfl XR rfl (k3.cell (k := 3) rfl)) rfl rfl ?_)))))
     refine Ge (Fv 3 rfl QH rfl h1 rfl (by omega) (by omega)) rfl rfl ?_
     rintro u20 _ ⟨rfl, p21⟩
     refine Ge (QQ rfl Tryd.func78 rfl rfl rfl (QcK (((p.dat).drop 3)) _ W2 _ hL p21 (fun x hx => hby x (List.mem_of_mem_drop hx)) (by rw [List.length_drop]; omega))) rfl rfl ?_
     rintro _ W23 ⟨rfl, b22⟩
     replace hB := Qe hB b22
     refine Pu rfl (Pu rfl (Ni (hK19 ?_)))
     exact WC.ret fun a_ ha_ => hQ (QO rfl (.tmp rfl) (.tmp rfl) ⟨_, _, rfl, Qfk (by unfold VH; rw [if_pos]; refine ⟨by omega, by omega, by omega, (Uc (fun x hx => hby x (List.mem_of_mem_take hx))).1 (by first | assumption | (simp_all; done))⟩)⟩ hB ha_)

theorem QeZ {w : World} {B cap : Nat} {sp : List Value} {n : Int} {L : List Nat} (h : Xc w B (Qr (Zk [(108 : Int), 111, 103, 0, 0, 0, 0] 3 (ZG 4 n)) ++ sp)) (hc : 7 <= cap) (hm : cap <= maxLen) (hB : B ∉ L) : QD 1 L w (.slice (some ⟨B, 0, none⟩) 7 cap) (Vw ([108, 111, 103] ++ ZG 4 n)) := by
 have e : Zk [(108 : Int), 111, 103, 0, 0, 0, 0] 3 (ZG 4 n) = [108, 111, 103] ++ ZG 4 n := rfl
 rw [e] at h
 have hl : (Vw ([108, 111, 103] ++ ZG 4 n)).length = 7 := rfl
 refine ⟨Nat.one_pos, fun r hr => by obtain ⟨x, _, rfl⟩ := List.mem_map.1 hr; rfl, some ⟨B, 0, none⟩, cap, by rw [hl], by rw [hl]; exact hc, hm, fun e => (by cases e), fun _ => ⟨B, 0, rfl, hB, ?_⟩⟩
 rw [Ji]
 have := h.part 0 7
 exact this
set_option maxHeartbeats 1000000 in
theorem QcH (gen n : Int) (w : World) (L : List Nat) (hL : LL L w)   (hL0 : LL L w) : CV Tryd.prog 55 [.int .i64 gen, .int .i64 n] w fun v W => ∃ dv, v = .agg #[.int .i64 gen, .int .i64 0, .int .i64 3, dv] /\ QD 1 L W dv (Vw (ZL gen n).dat) := by
 refine QN (N := 17) (f := [(0, .int .i64 gen), (1, .int .i64 n)]) Tryd.func55 rfl rfl rfl rfl fun Q hQ hE => ?_
 have hB := Below.refl w.heap.size w
 refine Sq fun K1 hK1 => (Rg ?_)
 refine Ge (Qu rfl ZQ rfl) rfl rfl ?_
 rintro _ W2 ⟨rfl, k3, b4, z5⟩
 have l6 := hB.size
 replace hB := Qe hB b4
 replace hL := LL.more hL z5
 refine Ni (hK1 (Sq fun K7 hK7 => (Rg ?_)))
 refine Ge (QcX rfl X2) rfl rfl ?_
 rintro _ W8 ⟨rfl, k9, b10, z11⟩
 refine Ge (Qc1 rfl Tryd.underlying40 Tryd.underlying5 rfl k9) rfl rfl ?_
 rintro _ W12 ⟨rfl, o13, h14⟩
 have b15 := o13.below b10 (Nat.le_refl _)
 replace h14 := h14 (w.heap.size :: L) (fun e_ => Nat.lt_irrefl _ (hL _ e_))
 replace k3 := k3.below b15
 replace hB := Qe hB b15
 replace hL := LL.below hL b15
 refine Ge (QcW rfl X2) rfl rfl ?_
 rintro u20 W16 ⟨k17, b18, z19⟩
 have l22 := hB.size
 replace h14 := h14.more b18 (Nat.le_refl _)
 replace k3 := k3.below b18
 replace hB := Qe hB b18
 replace hL := LL.more hL z19
 refine Ge (JM (L := []) (rs := Vw [108, 111, 103]) (news := Vw [0, 0, 0, 0]) rfl X2 rfl rfl (h14.less (fun x hx => by cases hx)) (k17.rd (L := []) (by simp)) (by simp) (by simp [maxLen]) (by simp)) rfl rfl ?_
 rintro u27 W23 ⟨k24, b25, z26⟩
 have n29 : w.heap.size ≠ W16.heap.size := Nat.ne_of_lt k3.lt
 have l31 := hB.size
 replace k3 := k3.below b25
 replace hB := Qe hB b25
 replace hL := LL.more hL z26
 obtain ⟨_, _, cap, sp, rfl, hc2, hc3, hc4, hk5⟩ := k24
 have h28 : Xc W23 W16.heap.size (Qr [(108 : Int), 111, 103, 0, 0, 0, 0] ++ sp) := hk5
 replace hc2 : 7 <= cap := hc2
 refine Pu rfl (Ni (hK7 (Sq fun K32 hK32 => (Rg (Pu rfl (Va (ZX (Qe4 3 rfl QH rfl rfl rfl (by decide) hc2) (show Value.slice (some ⟨W16.heap.size, Qcs cap 3 0 1, none⟩) (7 - 3) (cap - 3) = .slice (some ⟨W16.heap.size, 3, none⟩) 4 (cap - 3) by unfold Qcs; rw [if_neg (by omega)])) rfl rfl (Pu rfl ?_)))))))
 refine Ge (U0 rfl Tryd.func75 rfl rfl rfl (Qeq [(108 : Int), 111, 103, 0, 0, 0, 0] sp 3 4 (cap - 3) n W16.heap.size W23 _ hL (.head _) h28 (by decide) (by decide))) rfl rfl ?_
 rintro _ W34 ⟨⟨rfl, hp35⟩, g33⟩
 replace k3 := k3.chg g33 n29
 replace hB := g33.toBelow hB l31
 refine Ni (hK32 (Sq fun K36 hK36 => (Rg (Pu rfl (Pu rfl (Va (QS rfl rfl (Xi (cs := [.int .i64 gen, .int .i64 0, .int .i64 3, .slice (some ⟨W16.heap.size, 0, none⟩) 7 cap]) (by kernel_rfl) (oC rfl (oC rfl (oC rfl (oC rfl Qk)))))) rfl rfl ?_))))))
 refine WL.do (Qh (cs' := [.int .i64 gen, .int .i64 0, .int .i64 3, .slice (some ⟨W16.heap.size, 0, none⟩) 7 cap]) (vs := [.int .i64 gen, .int .i64 0, .int .i64 3, .slice (some ⟨W16.heap.size, 0, none⟩) 7 cap]) rfl Xu rfl rfl rfl (oC rfl (oC rfl (oC rfl (oC rfl Qk)))) k3 rfl (nB rfl) rfl) rfl ?_
 rintro _ W37 ⟨k39, o38⟩
 replace hp35 := hp35.other o38 n29.symm
 clear k3
 replace hB := o38.below hB l6
 refine Ni (hK36 ?_)
 exact WC.ret fun a_ ha_ => hQ (QI rfl (.agg rfl Xq k39.range rfl) ⟨_, rfl, QeZ hp35 hc2 hc3 (fun h_ => by have := hL0 _ h_; have := l31; omega)⟩ hB ha_)

def Xg (Qb : List (List Int)) (Qa : List (Int × List Int)) (Qc : Bool) : Int := if QM Qb Qa = false \/ (Qb.length : Int) < 8 then 1 else if Qc = true then 9 else 0
def ZS (n : Int) (half gen used : Int) : Int := if (¬ half = 0 /\ ¬ half = 1) \/ gen < 1 \/ 1099511627776 < gen \/ used < 1 \/ n / 2 < used then 1 else 0
def ZD (n : Int) : Int := if n < 0 \/ 4096 < n then 0 else if (n + 99) / 100 < 1 then 1 else (n + 99) / 100
def Db (m : Int) : Option Pg -> Int
 | some p => if m < p.gen then p.gen else m
 | none => m
def XF (Qb : List (List Int)) (Qa : List (Int × List Int)) (Qc : Bool) : Nat -> Int
 | 0 => 0
 | k + 1 => Db (XF Qb Qa Qc k) (Zq (Xn Qb Qa Qc (k : Int)).1)
theorem Qcz {Qb : List (List Int)} {Qa : List (Int × List Int)} {Qc : Bool} {k : Nat} {p : Pg} (h : UnS (Xn Qb Qa Qc (k : Int)).1 p false) : XF Qb Qa Qc (k + 1) = XF Qb Qa Qc k := (congrArg (Db (XF Qb Qa Qc k)) (h.2 rfl)).trans rfl
theorem Qcy {Qb : List (List Int)} {Qa : List (Int × List Int)} {Qc : Bool} {k : Nat} {p : Pg} (h : UnS (Xn Qb Qa Qc (k : Int)).1 p true) : XF Qb Qa Qc (k + 1) = if XF Qb Qa Qc k < p.gen then p.gen else XF Qb Qa Qc k := (congrArg (Db (XF Qb Qa Qc k)) (h.1 rfl)).trans rfl
theorem QbK {n : Int} (h : ¬ n < 0) (h2 : ¬ 4096 < n) : ZD n = if 1 < (n + 100 - 1) / 100 then (n + 100 - 1) / 100 else 1 := by
 unfold ZD
 rw [if_neg (show ¬ (n < 0 \/ 4096 < n) by omega)]
 split <;> split <;> omega
theorem U9 {n : Int} (h : n < 0 \/ 4096 < n) : ZD n = 0 := by
 unfold ZD
 rw [if_pos h]
theorem Gv {z : List Int} {p : Pg} (h : Zq z = some p) : 1 <= p.gen /\ p.gen <= 1099511627776 := by
  unfold Zq at h
  split at h
  . cases h
  . rename_i hb
    split at h
    . cases h
      unfold VR at hb
      show 1 <= X9 _ /\ X9 _ <= _
      omega
    . cases h
theorem V0 (Qb : List (List Int)) (Qa : List (Int × List Int)) (Qc : Bool) : ∀ k, 0 <= XF Qb Qa Qc k /\ XF Qb Qa Qc k <= 1099511627776
 | 0 => ⟨Int.le_refl _, by show (0 : Int) <= _; decide⟩
 | k + 1 => by
  have ih := V0 Qb Qa Qc k
  show 0 <= Db (XF Qb Qa Qc k) (Zq (Xn Qb Qa Qc (k : Int)).1) /\ Db (XF Qb Qa Qc k) (Zq (Xn Qb Qa Qc (k : Int)).1) <= _
  generalize hx : Zq (Xn Qb Qa Qc (k : Int)).1 = x
  generalize XF Qb Qa Qc k = m at *
  cases x with
  | none => exact ih
  | some p =>
   have := Gv hx
   show 0 <= (if m < p.gen then p.gen else m) /\ (if m < p.gen then p.gen else m) <= _
   split <;> omega
def Xt (Qb : List (List Int)) (Qa : List (Int × List Int)) (Qc : Bool) : Int × Int := if XF Qb Qa Qc Qb.length = 1099511627776 then (0, 5) else (XF Qb Qa Qc Qb.length + 1, 0)
theorem Qda (a b c d : Value) (e f : Int) : Tryd.prog.built 71 [(0, .agg #[a, b, c, d]), (1, .int .i64 e), (2, .int .i64 f)] = some [a, b, c, d, .int .i64 e, .int .i64 f].toArray := by kernel_rfl
theorem Hm (a b c d : Value) (e f : Int) : Tryd.prog.built 81 [(0, .agg #[a, b, c, d, .int .i64 e, .int .i64 f])] = some [a, b, c, d, .int .i64 e, .int .i64 f, .int .i64 0].toArray := by kernel_rfl
theorem Dr (a b c d : Value) (e f g h : Int) : Tryd.prog.built 116 [(0, .agg #[a, b, c, d, .int .i64 e, .int .i64 f]), (1, .int .i64 g), (2, .int .i64 h)] = some [a, b, c, d, .int .i64 e, .int .i64 f, .int .i64 g, .int .i64 h].toArray := by kernel_rfl
set_option maxHeartbeats 1000000 in
theorem Km (Qb : List (List Int)) (Qa : List (Int × List Int)) (Qd : Int) (Qc : Bool) (s1 s2 : Value) (w : World) (L : List Nat) (hL : LL L w) (h1 : QD 128 L w s1 (Qb.map Qr)) (h2 : QD 129 L w s2 (Qa.map QG)) : CV Tryd.prog 32 [.agg #[s1, s2, .int .i64 Qd, .bool Qc]] w fun v W => v = .int .i64 (Xg Qb Qa Qc) := by
 refine QN (N := 14) (f := [(0, .agg #[s1, s2, .int .i64 Qd, .bool Qc])]) Tryd.func32 rfl rfl rfl rfl fun Q hQ hE => ?_
 have hB := Below.refl w.heap.size w
 have h1m : Qb.length <= maxLen := by have := h1.len; rwa [List.length_map] at this
 unfold maxLen at h1m
 have h2m : Qa.length <= maxLen := by have := h2.len; rwa [List.length_map] at this
 unfold maxLen at h2m
 refine Sq fun K1 hK1 => (Rg ?_)
 refine Ge (Xa rfl rfl rfl) rfl rfl ?_
 rintro _ W2 ⟨rfl, k3, b4, z5⟩
 have l6 := hB.size
 replace h1 := h1.more b4 (Nat.le_refl _)
 replace h2 := h2.more b4 (Nat.le_refl _)
 replace hB := Qe hB b4
 refine Pu rfl (Ni (hK1 (Sq fun K7 hK7 => (Sq fun K8 hK8 => (Rg (Va (Qg rfl Qf rfl k3.range rfl) rfl rfl ?_))))))
 refine Ge (QQ rfl Tryd.func50 rfl rfl rfl (Ga _ _ _ _ _ _ W2 [] (LL.nil _) (h1.less (by simp)) (h2.less (by simp)))) rfl rfl ?_
 rintro _ W10 ⟨rfl, b9⟩
 replace h1 := h1.below b9
 replace k3 := k3.below b9
 replace hB := Qe hB b9
 refine Va (XU rfl rfl) rfl rfl (Pu rfl ?_)
 refine WL.split 6 rfl (fun g11 => ?_) (fun g11 => ?_)
 .
  replace g11 := Q4 g11
  refine Of rfl (Of rfl (Of rfl (Of rfl (Pu rfl (Ni (hK8 (WC.condT rfl ?_)))))))
  refine Sq fun K12 hK12 => (Rg (Pu rfl (Ni (hK12 ?_))))
  exact WC.ret fun a_ ha_ => hQ (QI rfl (.tmp rfl) (by unfold Xg; first | (simp [*]; done) | (rw [if_pos (by first | exact .inl (by assumption) | exact .inr (by omega) | (simp_all; done))]) | (rw [if_neg (by rintro (h_ | h_) <;> simp_all <;> omega)]; simp_all)) hB ha_)
 .
  replace g11 := Q2 g11
  refine Va (Qn (o1 := 0) rfl QE rfl rfl) rfl rfl (Va (Qi rfl Q7 rfl (k3.cell (k := 0) rfl)) rfl rfl (Va (QT rfl QW rfl h1) rfl rfl (Va (Xe rfl rfl rfl) rfl rfl (Pu rfl (Ni (hK8 ?_))))))
  refine WC.cond rfl (fun c13 => ?_) (fun c13 => ?_)
  .
   replace c13 := dT c13
   refine Sq fun K14 hK14 => (Rg (Pu rfl (Ni (hK14 ?_))))
   exact WC.ret fun a_ ha_ => hQ (QI rfl (.tmp rfl) (by unfold Xg; first | (simp [*]; done) | (rw [if_pos (by first | exact .inl (by assumption) | exact .inr (by omega) | (simp_all; done))]) | (rw [if_neg (by rintro (h_ | h_) <;> simp_all <;> omega)]; simp_all)) hB ha_)
  .
   replace c13 := dF c13
   refine WC.skip (hK7 (Sq fun K15 hK15 => (Sq fun K16 hK16 => (Rg (Va (Qn (o1 := 3) rfl XC rfl rfl) rfl rfl (Va (Qi rfl Yt rfl (k3.cell (k := 3) rfl)) rfl rfl (Ni ?_)))))))
   refine hK16 ?_
   refine WC.cond rfl (fun c17 => ?_) (fun c17 => ?_)
   .
    refine Sq fun K18 hK18 => (Rg (Pu rfl (Ni (hK18 ?_))))
    exact WC.ret fun a_ ha_ => hQ (QI rfl (.tmp rfl) (by unfold Xg; first | (simp [*]; done) | (rw [if_pos (by first | exact .inl (by assumption) | exact .inr (by omega) | (simp_all; done))]) | (rw [if_neg (by rintro (h_ | h_) <;> simp_all <;> omega)]; simp_all)) hB ha_)
   .
    replace c17 := ZY c17
    refine WC.skip (hK15 (Sq fun K19 hK19 => (Rg (Pu rfl (Ni (hK19 ?_))))))
    exact WC.ret fun a_ ha_ => hQ (QI rfl (.tmp rfl) (by unfold Xg; first | (simp [*]; done) | (rw [if_pos (by first | exact .inl (by assumption) | exact .inr (by omega) | (simp_all; done))]) | (rw [if_neg (by rintro (h_ | h_) <;> simp_all <;> omega)]; simp_all)) hB ha_)

set_option maxHeartbeats 1000000 in
theorem Qes (Qb : List (List Int)) (Qa : List (Int × List Int)) (Qd : Int) (Qc : Bool) (s1 s2 : Value) (half gen used : Int) (w : World) (L : List Nat) (hL : LL L w) (h1 : QD 128 L w s1 (Qb.map Qr)) (h2 : QD 129 L w s2 (Qa.map QG))  (hsl : Qb.length <= 100000) : CV Tryd.prog 40 [.agg #[s1, s2, .int .i64 Qd, .bool Qc], .agg #[.int .i64 half, .int .i64 gen, .int .i64 used]] w fun v W => v = .int .i64 (ZS (Qb.length : Int) half gen used) := by
 refine QN (N := 37) (f := [(0, .agg #[s1, s2, .int .i64 Qd, .bool Qc]), (1, .agg #[.int .i64 half, .int .i64 gen, .int .i64 used])]) Tryd.func40 rfl rfl rfl rfl fun Q hQ hE => ?_
 have hB := Below.refl w.heap.size w
 have h1m : Qb.length <= maxLen := by have := h1.len; rwa [List.length_map] at this
 unfold maxLen at h1m
 have h2m : Qa.length <= maxLen := by have := h2.len; rwa [List.length_map] at this
 unfold maxLen at h2m
 refine Sq fun K1 hK1 => (Rg ?_)
 refine Ge (Xa rfl rfl rfl) rfl rfl ?_
 rintro _ W2 ⟨rfl, k3, b4, z5⟩
 have l6 := hB.size
 replace h1 := h1.more b4 (Nat.le_refl _)
 replace hB := Qe hB b4
 refine Ge (Xa rfl rfl rfl) rfl rfl ?_
 rintro _ W7 ⟨rfl, k8, b9, z10⟩
 have l12 := hB.size
 replace h1 := h1.more b9 (Nat.le_refl _)
 replace k3 := k3.below b9
 replace hB := Qe hB b9
 refine Pu rfl (Ni (hK1 (Sq fun K13 hK13 => (Sq fun K14 hK14 => (Rg (Va (Qn (o1 := 0) rfl ZC rfl rfl) rfl rfl (Va (Qi rfl Qv rfl (k8.cell (k := 0) rfl)) rfl rfl ?_)))))))
 refine Va (Xl rfl rfl rfl) rfl rfl (Pu rfl ?_)
 refine WL.split 8 rfl (fun g15 => ?_) (fun g15 => ?_)
 .
  replace g15 := Q4 g15
  replace g15 := dF g15
  refine Va (Qn (o1 := 0) rfl ZC rfl rfl) rfl rfl (Va (Qi rfl Qv rfl (k8.cell (k := 0) rfl)) rfl rfl (Va (Xl rfl rfl rfl) rfl rfl (Pu rfl (Pu rfl ?_))))
  refine WL.split 13 rfl (fun g16 => ?_) (fun g16 => ?_)
  .
   replace g16 := Q4 g16
   replace g16 := dF g16
   refine Of rfl (Of rfl (Of rfl (Pu rfl (Pu rfl (Of rfl (Of rfl (Of rfl ?_)))))))
   refine Pu rfl (Pu rfl (Of rfl (Of rfl (Of rfl (Pu rfl (Pu rfl (Of rfl ?_)))))))
   refine Of rfl (Of rfl (Of rfl (Of rfl (Of rfl (Of rfl (Pu rfl (Ni ?_)))))))
   refine hK14 (WC.condT rfl (Sq fun K17 hK17 => (Rg (Pu rfl (Ni (hK17 ?_))))))
   exact WC.ret fun a_ ha_ => hQ (QI rfl (.tmp rfl) (by unfold ZS; first | (rw [if_pos (by omega)]) | (rw [if_neg (by omega)])) hB ha_)
  .
   replace g16 := Q2 g16
   replace g16 := dT g16
   refine Va (Qn (o1 := 1) rfl XY rfl rfl) rfl rfl (Va (Qi rfl Qv rfl (k8.cell (k := 1) rfl)) rfl rfl (Va (Xe rfl rfl rfl) rfl rfl (Pu rfl (Pu rfl ?_))))
   refine WL.split 18 rfl (fun g18 => ?_) (fun g18 => ?_)
   .
    replace g18 := dT g18
    refine Of rfl (Of rfl (Of rfl (Pu rfl (Pu rfl (Of rfl (Of rfl (Of rfl ?_)))))))
    refine Pu rfl (Pu rfl (Of rfl (Of rfl (Of rfl (Of rfl (Of rfl (Of rfl ?_)))))))
    refine Of rfl (Pu rfl (Ni (hK14 (WC.condT rfl (Sq fun K19 hK19 => (Rg (Pu rfl ?_)))))))
    refine Ni (hK19 ?_)
    exact WC.ret fun a_ ha_ => hQ (QI rfl (.tmp rfl) (by unfold ZS; first | (rw [if_pos (by omega)]) | (rw [if_neg (by omega)])) hB ha_)
   .
    replace g18 := dF g18
    refine Va (Qn (o1 := 1) rfl XY rfl rfl) rfl rfl (Va (Qi rfl Qv rfl (k8.cell (k := 1) rfl)) rfl rfl (Va (XL rfl rfl rfl) rfl rfl (Pu rfl (Pu rfl ?_))))
    refine WL.split 23 rfl (fun g20 => ?_) (fun g20 => ?_)
    .
     replace g20 := dT g20
     refine Of rfl (Of rfl (Of rfl (Pu rfl (Pu rfl (Of rfl (Of rfl (Of rfl ?_)))))))
     refine Of rfl (Of rfl (Of rfl (Of rfl (Pu rfl (Ni (hK14 (WC.condT rfl ?_)))))))
     refine Sq fun K21 hK21 => (Rg (Pu rfl (Ni (hK21 ?_))))
     exact WC.ret fun a_ ha_ => hQ (QI rfl (.tmp rfl) (by unfold ZS; first | (rw [if_pos (by omega)]) | (rw [if_neg (by omega)])) hB ha_)
    .
     replace g20 := dF g20
     refine Va (Qn (o1 := 2) rfl XB rfl rfl) rfl rfl (Va (Qi rfl Qv rfl (k8.cell (k := 2) rfl)) rfl rfl (Va (Xe rfl rfl rfl) rfl rfl (Pu rfl (Pu rfl ?_))))
     refine WL.split 28 rfl (fun g22 => ?_) (fun g22 => ?_)
     .
      replace g22 := dT g22
      refine Of rfl (Of rfl (Of rfl (Of rfl (Of rfl (Of rfl (Of rfl (Pu rfl ?_)))))))
      refine Ni (hK14 (WC.condT rfl (Sq fun K23 hK23 => (Rg (Pu rfl (Ni (hK23 ?_)))))))
      exact WC.ret fun a_ ha_ => hQ (QI rfl (.tmp rfl) (by unfold ZS; first | (rw [if_pos (by omega)]) | (rw [if_neg (by omega)])) hB ha_)
     .
      replace g22 := dF g22
      refine Va (Qn (o1 := 2) rfl XB rfl rfl) rfl rfl (Va (Qi rfl Qv rfl (k8.cell (k := 2) rfl)) rfl rfl (Va (Qn (o1 := 0) rfl QE rfl rfl) rfl rfl (Va (Qi rfl Q7 rfl (k3.cell (k := 0) rfl)) rfl rfl (Va (QT rfl QW rfl h1) rfl rfl (Va (Y3 (r := (Qb.length : Int) / 2) rfl rfl rfl (by omega) (by rw [Int.tdiv_eq_ediv_of_nonneg (by omega)]; exact (Qm (by omega)))) rfl rfl (Va (XL rfl rfl rfl) rfl rfl (Pu rfl ?_)))))))
      refine Ni (hK14 ?_)
      refine WC.cond rfl (fun c24 => ?_) (fun c24 => ?_)
      .
       replace c24 := dT c24
       refine Sq fun K25 hK25 => (Rg (Pu rfl (Ni (hK25 ?_))))
       exact WC.ret fun a_ ha_ => hQ (QI rfl (.tmp rfl) (by unfold ZS; first | (rw [if_pos (by omega)]) | (rw [if_neg (by omega)])) hB ha_)
      .
       replace c24 := dF c24
       refine WC.skip (hK13 (Sq fun K26 hK26 => (Rg (Pu rfl (Ni (hK26 ?_))))))
       exact WC.ret fun a_ ha_ => hQ (QI rfl (.tmp rfl) (by unfold ZS; first | (rw [if_pos (by omega)]) | (rw [if_neg (by omega)])) hB ha_)
 .
  replace g15 := Q2 g15
  replace g15 := dT g15
  refine Of rfl (Of rfl (Of rfl (Pu rfl (Pu rfl (Va (Qn (o1 := 1) rfl XY rfl rfl) rfl rfl (Va (Qi rfl Qv rfl (k8.cell (k := 1) rfl)) rfl rfl (Va (Xe rfl rfl rfl) rfl rfl ?_)))))))
  refine Pu rfl (Pu rfl ?_)
  refine WL.split 18 rfl (fun g27 => ?_) (fun g27 => ?_)
  .
   replace g27 := dT g27
   refine Of rfl (Of rfl (Of rfl (Pu rfl (Pu rfl (Of rfl (Of rfl (Of rfl ?_)))))))
   refine Pu rfl (Pu rfl (Of rfl (Of rfl (Of rfl (Of rfl (Of rfl (Of rfl ?_)))))))
   refine Of rfl (Pu rfl (Ni (hK14 (WC.condT rfl (Sq fun K28 hK28 => (Rg (Pu rfl ?_)))))))
   refine Ni (hK28 ?_)
   exact WC.ret fun a_ ha_ => hQ (QI rfl (.tmp rfl) (by unfold ZS; first | (rw [if_pos (by omega)]) | (rw [if_neg (by omega)])) hB ha_)
  .
   replace g27 := dF g27
   refine Va (Qn (o1 := 1) rfl XY rfl rfl) rfl rfl (Va (Qi rfl Qv rfl (k8.cell (k := 1) rfl)) rfl rfl (Va (XL rfl rfl rfl) rfl rfl (Pu rfl (Pu rfl ?_))))
   refine WL.split 23 rfl (fun g29 => ?_) (fun g29 => ?_)
   .
    replace g29 := dT g29
    refine Of rfl (Of rfl (Of rfl (Pu rfl (Pu rfl (Of rfl (Of rfl (Of rfl ?_)))))))
    refine Of rfl (Of rfl (Of rfl (Of rfl (Pu rfl (Ni (hK14 (WC.condT rfl ?_)))))))
    refine Sq fun K30 hK30 => (Rg (Pu rfl (Ni (hK30 ?_))))
    exact WC.ret fun a_ ha_ => hQ (QI rfl (.tmp rfl) (by unfold ZS; first | (rw [if_pos (by omega)]) | (rw [if_neg (by omega)])) hB ha_)
   .
    replace g29 := dF g29
    refine Va (Qn (o1 := 2) rfl XB rfl rfl) rfl rfl (Va (Qi rfl Qv rfl (k8.cell (k := 2) rfl)) rfl rfl (Va (Xe rfl rfl rfl) rfl rfl (Pu rfl (Pu rfl ?_))))
    refine WL.split 28 rfl (fun g31 => ?_) (fun g31 => ?_)
    .
     replace g31 := dT g31
     refine Of rfl (Of rfl (Of rfl (Of rfl (Of rfl (Of rfl (Of rfl (Pu rfl ?_)))))))
     refine Ni (hK14 (WC.condT rfl (Sq fun K32 hK32 => (Rg (Pu rfl (Ni (hK32 ?_)))))))
     exact WC.ret fun a_ ha_ => hQ (QI rfl (.tmp rfl) (by unfold ZS; first | (rw [if_pos (by omega)]) | (rw [if_neg (by omega)])) hB ha_)
    .
     replace g31 := dF g31
     refine Va (Qn (o1 := 2) rfl XB rfl rfl) rfl rfl (Va (Qi rfl Qv rfl (k8.cell (k := 2) rfl)) rfl rfl (Va (Qn (o1 := 0) rfl QE rfl rfl) rfl rfl (Va (Qi rfl Q7 rfl (k3.cell (k := 0) rfl)) rfl rfl (Va (QT rfl QW rfl h1) rfl rfl (Va (Y3 (r := (Qb.length : Int) / 2) rfl rfl rfl (by omega) (by rw [Int.tdiv_eq_ediv_of_nonneg (by omega)]; exact (Qm (by omega)))) rfl rfl (Va (XL rfl rfl rfl) rfl rfl (Pu rfl ?_)))))))
     refine Ni (hK14 ?_)
     refine WC.cond rfl (fun c33 => ?_) (fun c33 => ?_)
     .
      replace c33 := dT c33
      refine Sq fun K34 hK34 => (Rg (Pu rfl (Ni (hK34 ?_))))
      exact WC.ret fun a_ ha_ => hQ (QI rfl (.tmp rfl) (by unfold ZS; first | (rw [if_pos (by omega)]) | (rw [if_neg (by omega)])) hB ha_)
     .
      replace c33 := dF c33
      refine WC.skip (hK13 (Sq fun K35 hK35 => (Rg (Pu rfl (Ni (hK35 ?_))))))
      exact WC.ret fun a_ ha_ => hQ (QI rfl (.tmp rfl) (by unfold ZS; first | (rw [if_pos (by omega)]) | (rw [if_neg (by omega)])) hB ha_)

set_option maxHeartbeats 1000000 in
theorem EW (n : Int) (w : World) (L : List Nat) (hL : LL L w)   (hn : -9223372036854775808 <= n /\ n <= 9223372036854775807) : CV Tryd.prog 22 [.int .i64 n] w fun v W => v = .int .i64 (ZD n) := by
 refine QN (N := 14) (f := [(0, .int .i64 n)]) Tryd.func22 rfl rfl rfl rfl fun Q hQ hE => ?_
 have hB := Below.refl w.heap.size w
 refine Sq fun K1 hK1 => (Rg (Pu rfl (Ni (hK1 (Sq fun K2 hK2 => (Sq fun K3 hK3 => (Rg ?_)))))))
 refine Pu rfl (Va (Xe rfl rfl rfl) rfl rfl (Pu rfl ?_))
 refine WL.split 5 rfl (fun g4 => ?_) (fun g4 => ?_)
 .
  replace g4 := dT g4
  refine Of rfl (Of rfl (Pu rfl (Ni (hK3 (WC.condT rfl (Sq fun K5 hK5 => (Rg ?_)))))))
  refine Pu rfl (Ni (hK5 ?_))
  exact WC.ret fun a_ ha_ => hQ (QI rfl (.tmp rfl) (by rw [U9 (by omega)]) hB ha_)
 .
  replace g4 := dF g4
  refine Pu rfl (Va (XL rfl rfl rfl) rfl rfl (Pu rfl (Ni (hK3 ?_))))
  refine WC.cond rfl (fun c6 => ?_) (fun c6 => ?_)
  .
   replace c6 := dT c6
   refine Sq fun K7 hK7 => (Rg (Pu rfl (Ni (hK7 ?_))))
   exact WC.ret fun a_ ha_ => hQ (QI rfl (.tmp rfl) (by rw [U9 (by omega)]) hB ha_)
  .
   replace c6 := dF c6
   refine WC.skip (hK2 (Sq fun K8 hK8 => (Rg (Pu rfl (Va (QR (r := n + 100) rfl rfl rfl (Qm (by omega))) rfl rfl (Va (Zm (r := (n + 100) - 1) rfl rfl rfl (Qm (by omega))) rfl rfl (Va (Y3 (r := ((n + 100) - 1) / 100) rfl rfl rfl (by omega) (by rw [Int.tdiv_eq_ediv_of_nonneg (by omega)]; exact (Qm (by omega)))) rfl rfl ?_)))))))
   refine Va (FA rfl rfl rfl) rfl rfl (Pu rfl (Ni (hK8 ?_)))
   exact WC.ret fun a_ ha_ => hQ (QI rfl (.tmp rfl) (by rw [QbK (by omega) (by omega)]) hB ha_)

set_option maxHeartbeats 1000000 in
theorem Kh (Qb : List (List Int)) (Qa : List (Int × List Int)) (Qd : Int) (Qc : Bool) (s1 s2 : Value) (q : Int) (w : World) (L : List Nat) (hL : LL L w) (h1 : QD 128 L w s1 (Qb.map Qr)) (h2 : QD 129 L w s2 (Qa.map QG))  (hq : q = 0 \/ q = 1) (hsl : Qb.length <= 100000) : CV Tryd.prog 38 [.agg #[s1, s2, .int .i64 Qd, .bool Qc], .int .i64 q] w fun v W => v = .agg #[s1, s2, .int .i64 Qd, .bool Qc, .int .i64 (q * ((Qb.length : Int) / 2)), .int .i64 ((Qb.length : Int) / 2)] := by
 refine QN (N := 16) (f := [(0, .agg #[s1, s2, .int .i64 Qd, .bool Qc]), (1, .int .i64 q)]) Tryd.func38 rfl rfl rfl rfl fun Q hQ hE => ?_
 have hB := Below.refl w.heap.size w
 have h1m : Qb.length <= maxLen := by have := h1.len; rwa [List.length_map] at this
 unfold maxLen at h1m
 have h2m : Qa.length <= maxLen := by have := h2.len; rwa [List.length_map] at this
 unfold maxLen at h2m
 refine Sq fun K1 hK1 => (Rg ?_)
 refine Ge (Xa rfl rfl rfl) rfl rfl ?_
 rintro _ W2 ⟨rfl, k3, b4, z5⟩
 have l6 := hB.size
 replace h1 := h1.more b4 (Nat.le_refl _)
 replace h2 := h2.more b4 (Nat.le_refl _)
 replace hB := Qe hB b4
 refine Ge (Qu rfl EQ rfl) rfl rfl ?_
 rintro _ W7 ⟨rfl, k8, b9, z10⟩
 have l12 := hB.size
 replace h1 := h1.more b9 (Nat.le_refl _)
 replace h2 := h2.more b9 (Nat.le_refl _)
 replace k3 := k3.below b9
 replace hB := Qe hB b9
 refine Ni (hK1 (Sq fun K13 hK13 => (Rg (Va (Qn (o1 := 0) rfl QE rfl rfl) rfl rfl (Va (Qi rfl Q7 rfl (k3.cell (k := 0) rfl)) rfl rfl (Va (QT rfl QW rfl h1) rfl rfl (Va (Y3 (r := (Qb.length : Int) / 2) rfl rfl rfl (by omega) (by rw [Int.tdiv_eq_ediv_of_nonneg (by omega)]; exact (Qm (by omega)))) rfl rfl ?_)))))))
 refine Pu rfl (Ni (hK13 (Sq fun K14 hK14 => (Rg (Va (Qg rfl Qf rfl k3.range rfl) rfl rfl (Pu rfl (Pu rfl ?_)))))))
 refine Va (VO (r := q * ((Qb.length : Int) / 2)) rfl rfl rfl (by rcases hq with rfl | rfl <;> rw [Qm (by omega)])) rfl rfl (Pu rfl (Va (QS rfl rfl (Qda _ _ _ _ _ _)) rfl rfl ?_))
 refine WL.do (Qh (cs' := [s1, s2, .int .i64 Qd, .bool Qc, .int .i64 (q * ((Qb.length : Int) / 2)), .int .i64 ((Qb.length : Int) / 2)]) (vs := [s1, s2, .int .i64 Qd, .bool Qc, .int .i64 (q * ((Qb.length : Int) / 2)), .int .i64 ((Qb.length : Int) / 2)]) rfl Fa rfl rfl rfl (oC h1.one (oC h2.one (oC rfl (oC rfl (oC rfl (oC rfl Qk)))))) k8 rfl (nB rfl) rfl) rfl ?_
 rintro _ W15 ⟨k17, o16⟩
 clear k8
 replace hB := o16.below hB l12
 refine Ni (hK14 ?_)
 exact WC.ret fun a_ ha_ => hQ (QI rfl (.agg rfl KR k17.range rfl) rfl hB ha_)

set_option maxHeartbeats 1000000 in
theorem QeR (Qb : List (List Int)) (Qa : List (Int × List Int)) (Qd : Int) (Qc : Bool) (s1 s2 : Value) (w : World) (L : List Nat) (hL : LL L w) (h1 : QD 128 L w s1 (Qb.map Qr)) (h2 : QD 129 L w s2 (Qa.map QG))  (hbd : YL Qb Qa) (hsl : Qb.length <= 100000) (hT : ZM w) : CV Tryd.prog 54 [.agg #[s1, s2, .int .i64 Qd, .bool Qc]] w fun v W => v = .tuple #[.int .i64 (Xt Qb Qa Qc).1, .int .i64 (Xt Qb Qa Qc).2] := by
 refine QN (N := 37) (f := [(0, .agg #[s1, s2, .int .i64 Qd, .bool Qc])]) Tryd.func54 rfl rfl rfl rfl fun Q hQ hE => ?_
 have hB := Below.refl w.heap.size w
 have h1m : Qb.length <= maxLen := by have := h1.len; rwa [List.length_map] at this
 unfold maxLen at h1m
 have h2m : Qa.length <= maxLen := by have := h2.len; rwa [List.length_map] at this
 unfold maxLen at h2m
 refine Sq fun K1 hK1 => (Rg ?_)
 refine Ge (Xa rfl rfl rfl) rfl rfl ?_
 rintro _ W2 ⟨rfl, k3, b4, z5⟩
 have l6 := hB.size
 replace h1 := h1.more b4 (Nat.le_refl _)
 replace h2 := h2.more b4 (Nat.le_refl _)
 replace hB := Qe hB b4
 replace hL := LL.more hL z5
 refine Pu rfl (Pu rfl (Ni (hK1 (Sq fun K7 hK7 => (Rg (Pu rfl (Ni ?_)))))))
 refine hK7 (Sq fun K8 hK8 => (Sq fun K9 hK9 => (Rg (Va (Qn (o1 := 0) rfl QE rfl rfl) rfl rfl (Va (Qi rfl Q7 rfl (k3.cell (k := 0) rfl)) rfl rfl (Va (QT rfl QW rfl h1) rfl rfl (Pu rfl ?_)))))))
 refine Ni (hK9 (WC.block ?_))
 refine WC.loop (fun (i : Nat) => [(1, .pointer (some ⟨w.heap.size, 0, none⟩)), (2, .int .i64 0), (3, .int .i64 0), (12, .int .i64 (Qb.length : Int)), (13, .int .i64 (i : Int)), (4, .int .i64 (XF Qb Qa Qc i))]) (fun (i : Nat) W => i <= Qb.length /\ Below w.heap.size w W /\ LL (w.heap.size :: L) W /\ QD 128 (w.heap.size :: L) W s1 (Qb.map Qr) /\ QD 129 (w.heap.size :: L) W s2 (Qa.map QG) /\ Xc W w.heap.size [s1, s2, .int .i64 Qd, .bool Qc]) (fun (i : Nat) => Qb.length - i) 0 (by repeat first | exact trivial | refine aR ?_ | refine aI (by omega) ?_) ⟨Nat.zero_le _, hB, hL, h1, h2, k3⟩ ?_
 clear h1 h2 k3 hB hL
 rintro K10 i W11 ⟨hi, hB, hL, h1, h2, k3⟩ hK10
 refine Sq fun K12 hK12 => (Rg (Va (Xe rfl rfl rfl) rfl rfl (Ni (hK12 (Sq fun K13 hK13 => ?_)))))
 refine WC.cond rfl (fun c14 => ?_) (fun c14 => ?_)
 .
  replace c14 := dT c14
  refine WC.skip (hK13 (Sq fun K15 hK15 => (WC.block (Sq fun K16 hK16 => (Rg (Pu rfl (Pu rfl ?_)))))))
  refine Ni (hK16 (Sq fun K17 hK17 => (Rg (Va (Qg rfl Qf rfl k3.range rfl) rfl rfl (Pu rfl ?_)))))
  refine Ge (QQ rfl Tryd.func73 rfl rfl rfl (Qb8 Qb Qa Qd Qc _ _ (i : Int) W11 _ hL h1 h2)) rfl rfl ?_
  rintro _ W21 ⟨rfl, b20⟩
  replace h1 := h1.below b20
  replace h2 := h2.below b20
  replace k3 := k3.below b20
  replace hB := Qe hB b20
  replace hL := LL.below hL b20
  refine Pu rfl (Pu rfl (Pu rfl ?_))
  refine Ge (Qu (cs := Qr z0) rfl ZE Yh) rfl rfl ?_
  rintro _ W22 ⟨rfl, k23, b24, z25⟩
  have n26 : w.heap.size ≠ W21.heap.size := Nat.ne_of_lt k3.lt
  have l27 := hB.size
  replace h1 := h1.more b24 (Nat.le_refl _)
  replace h2 := h2.more b24 (Nat.le_refl _)
  replace k3 := k3.below b24
  replace hB := Qe hB b24
  replace hL := LL.more hL z25
  refine WL.do (Qx (vs := (Qr ((Xn Qb Qa Qc (i : Int)).1))) rfl Q1 rfl rfl rfl (YU ((Xn Qb Qa Qc (i : Int)).1)) k23 (by rw [Qo]; exact (Yk h1 h2)) (by rw [Qo]; exact Xy)) rfl ?_
  rintro _ W28 ⟨k30, o29⟩
  replace k3 := k3.other o29 n26
  clear k23
  replace h1 := h1.only o29 (.head _)
  replace h2 := h2.only o29 (.head _)
  replace hB := o29.below hB l27
  replace hL := LL.only hL o29
  refine Pu rfl (Ni (hK17 (Sq fun K31 hK31 => (Rg (Va (Qg rfl QF rfl k30.range (by rw [Qo]; exact (Yk h1 h2))) rfl rfl ?_)))))
  refine Ge (QQ rfl Tryd.func74 rfl rfl rfl (FT ((Xn Qb Qa Qc (i : Int)).1) W28 _ hL hL (Yk h1 h2) (Kw hbd _ _) (hT.below hB))) rfl rfl ?_
  rintro _ W40 ⟨⟨p32, dv33, ub34, rfl, hdv35, hun36, hpy37, hpl38⟩, b39⟩
  replace h1 := h1.below b39
  replace h2 := h2.below b39
  replace k3 := k3.below b39
  replace hB := Qe hB b39
  replace hL := LL.below hL b39
  refine Pu rfl (Pu rfl (Pu rfl ?_))
  refine Ge (Qu rfl ZQ rfl) rfl rfl ?_
  rintro _ W41 ⟨rfl, k42, b43, z44⟩
  have n45 : w.heap.size ≠ W40.heap.size := Nat.ne_of_lt k3.lt
  have l47 := hB.size
  replace h1 := h1.more b43 (Nat.le_refl _)
  replace h2 := h2.more b43 (Nat.le_refl _)
  replace hdv35 := hdv35.more b43 (Nat.le_refl _)
  replace k3 := k3.below b43
  replace hB := Qe hB b43
  replace hL := LL.more hL z44
  refine WL.do (Qh (cs' := [.int .i64 p32.gen, .int .i64 p32.idx, .int .i64 p32.mks, dv33]) (vs := [.int .i64 p32.gen, .int .i64 p32.idx, .int .i64 p32.mks, dv33]) rfl Xu rfl rfl rfl (oC rfl (oC rfl (oC rfl (oC hdv35.one Qk)))) k42 rfl (nB rfl) rfl) rfl ?_
  rintro _ W48 ⟨k50, o49⟩
  replace k3 := k3.other o49 n45
  clear k42
  replace h1 := h1.only o49 (.head _)
  replace h2 := h2.only o49 (.head _)
  replace hB := o49.below hB l47
  replace hL := LL.only hL o49
  refine Pu rfl (Ni (hK31 (Sq fun K51 hK51 => ?_)))
  have hmi := V0 Qb Qa Qc i
  cases ub34
  .
   rw [<- Qcz hun36]
   refine Rg (Pu rfl (Ni (hK51 (WC.condF rfl (WC.skip (hK15 (Rg ?_)))))))
   refine Va (QR (r := (i : Int) + 1) rfl rfl rfl (Qm (by omega))) rfl rfl (Pu rfl (Ni ?_))
   replace hL := hL.less (fun x hx => (.tail _ (.tail _ hx)))
   replace h1 := h1.less (fun x hx => (.tail _ (.tail _ hx)))
   replace h2 := h2.less (fun x hx => (.tail _ (.tail _ hx)))
   exact hK10 (i + 1) ⟨(by omega), hB, hL, h1, h2, k3⟩ (by omega) (by repeat first | exact trivial | refine aR ?_ | refine aI (by omega) ?_)
  .
   refine Rg (Pu rfl (Ni (hK51 (WC.condT rfl (Rg (Pu rfl (Va (Qn (o1 := 0) rfl Yu rfl rfl) rfl rfl ?_)))))))
   refine Va (Qi rfl Qv rfl (k50.cell (k := 0) rfl)) rfl rfl (Va (ZX (FA rfl rfl rfl) (congrArg (Value.int .i64) (Qcy hun36).symm)) rfl rfl (Pu rfl (Ni (hK15 (Rg (Va (QR (r := (i : Int) + 1) rfl rfl rfl (Qm (by omega))) rfl rfl (Pu rfl ?_)))))))
   refine Ni ?_
   replace hL := hL.less (fun x hx => (.tail _ (.tail _ hx)))
   replace h1 := h1.less (fun x hx => (.tail _ (.tail _ hx)))
   replace h2 := h2.less (fun x hx => (.tail _ (.tail _ hx)))
   exact hK10 (i + 1) ⟨(by omega), hB, hL, h1, h2, k3⟩ (by omega) (by repeat first | exact trivial | refine aR ?_ | refine aI (by omega) ?_)
 .
  replace c14 := dF c14
  refine WC.exit ?_
  refine hK8 (Sq fun K52 hK52 => (Sq fun K53 hK53 => ?_))
  have hie : i = Qb.length := by omega
  have hmi := V0 Qb Qa Qc i
  refine Rg (Pu rfl (Va (Zw rfl rfl rfl) rfl rfl (Ni (hK53 ?_))))
  refine WC.cond rfl (fun c54 => ?_) (fun c54 => ?_)
  .
   replace c54 := dT c54
   refine Sq fun K55 hK55 => (Rg (Pu rfl (Pu rfl (Ni (hK55 ?_)))))
   exact WC.ret fun a_ ha_ => hQ (QO rfl (.tmp rfl) (.tmp rfl) (by unfold Xt; rw [<- hie]; first | (rw [if_pos (show XF Qb Qa Qc i = 1099511627776 by assumption)]; done) | (rw [if_neg (show ¬ XF Qb Qa Qc i = 1099511627776 by assumption)])) hB ha_)
  .
   replace c54 := dF c54
   refine WC.skip (hK52 (Sq fun K56 hK56 => (Rg (Pu rfl (Va (QR (r := (XF Qb Qa Qc i) + 1) rfl rfl rfl (Qm (by omega))) rfl rfl (Pu rfl (Pu rfl ?_)))))))
   refine Ni (hK56 ?_)
   exact WC.ret fun a_ ha_ => hQ (QO rfl (.tmp rfl) (.tmp rfl) (by unfold Xt; rw [<- hie]; first | (rw [if_pos (show XF Qb Qa Qc i = 1099511627776 by assumption)]; done) | (rw [if_neg (show ¬ XF Qb Qa Qc i = 1099511627776 by assumption)])) hB ha_)

def KM (L : List Nat) (r : DO) (u : Value) (W : World) : Prop := ∃ t1 t2, u = .tuple #[.agg #[t1, t2, .int .i64 r.Qd, .bool r.Qc], .int .i64 r.err] /\ QD 128 L W t1 (r.Qb.map Qr) /\ QD 129 L W t2 (r.Qa.map QG)
def JS (L : List Nat) (r : DO) (u : Value) (W : World) : Prop := ∃ t1 t2, u = .agg #[t1, t2, .int .i64 r.Qd, .bool r.Qc] /\ QD 128 L W t1 (r.Qb.map Qr) /\ QD 129 L W t2 (r.Qa.map QG)
theorem KM.below {L : List Nat} {r : DO} {u : Value} {w w' : World} (h : KM L r u w) (hb : Below w.heap.size w w') : KM L r u w' := by
 obtain ⟨t1, t2, e, h1, h2⟩ := h
 exact ⟨t1, t2, e, h1.below hb, h2.below hb⟩
theorem JS.below {L : List Nat} {r : DO} {u : Value} {w w' : World} (h : JS L r u w) (hb : Below w.heap.size w w') : JS L r u w' := by
 obtain ⟨t1, t2, e, h1, h2⟩ := h
 exact ⟨t1, t2, e, h1.below hb, h2.below hb⟩
theorem KM.only {L : List Nat} {r : DO} {u : Value} {w w' : World} (h : KM L r u w) {B : Nat} (ho : Yi B w w') (hB : B ∈ L) : KM L r u w' := by
 obtain ⟨t1, t2, e, h1, h2⟩ := h
 exact ⟨t1, t2, e, h1.only ho hB, h2.only ho hB⟩
theorem JS.only {L : List Nat} {r : DO} {u : Value} {w w' : World} (h : JS L r u w) {B : Nat} (ho : Yi B w w') (hB : B ∈ L) : JS L r u w' := by
 obtain ⟨t1, t2, e, h1, h2⟩ := h
 exact ⟨t1, t2, e, h1.only ho hB, h2.only ho hB⟩
abbrev wrC (s1 s2 : Value) (d : DO) (fr sz : Int) : List Value := [s1, s2, .int .i64 d.Qd, .bool d.Qc, .int .i64 fr, .int .i64 sz, .int .i64 d.err]
def Yq (d : DO) (fr : Int) (p : Pg) : DO := if d.err = 0 then Q0 d.Qb d.Qa d.Qd d.Qc (fr + p.idx) (Xk p) else d
def X0 (d : DO) : DO := if d.err = 0 then Xz d.Qb d.Qa d.Qd d.Qc else d
theorem FN {d : DO} {fr : Int} {p : Pg} (h : d.err = 0) : Yq d fr p = Q0 d.Qb d.Qa d.Qd d.Qc (fr + p.idx) (Xk p) := by unfold Yq; rw [if_pos h]
theorem Gs {d : DO} {fr : Int} {p : Pg} (h : ¬ d.err = 0) : Yq d fr p = d := by unfold Yq; rw [if_neg h]
theorem FO {d : DO} (h : d.err = 0) : X0 d = Xz d.Qb d.Qa d.Qd d.Qc := by unfold X0; rw [if_pos h]
theorem Gt {d : DO} (h : ¬ d.err = 0) : X0 d = d := by unfold X0; rw [if_neg h]

set_option maxHeartbeats 1000000 in
theorem Qev (d : DO) (p : Pg) (fr sz : Int) (s1 s2 dv : Value) (P : Nat) (w : World) (L : List Nat) (hL : LL L w) (hPL : P ∈ L) (hp : Xc w P (wrC s1 s2 d fr sz)) (h1 : QD 128 L w s1 (d.Qb.map Qr)) (h2 : QD 129 L w s2 (d.Qa.map QG)) (h3 : QD 1 L w dv (Vw p.dat)) (hfu : -9223372036854775808 <= d.Qd /\ d.Qd <= 9223372036854775807) (hfr : 0 <= fr /\ fr <= 100000) (hix : 0 <= p.idx /\ p.idx <= 100000) (hby : Z0 p.dat) (hdl : p.dat.length <= 100) (tabC : ∀ {W}, Vg P w W -> ZM W) : CW Tryd.prog 42 [.pointer (some ⟨P, 0, none⟩), .agg #[.int .i64 p.gen, .int .i64 p.idx, .int .i64 p.mks, dv]] w P fun v W => v = .tuple #[] /\ ∃ t1 t2, Xc W P (wrC t1 t2 (Yq d fr p) fr sz) /\ QD 128 L W t1 ((Yq d fr p).Qb.map Qr) /\ QD 129 L W t2 ((Yq d fr p).Qa.map QG) := by
 refine Kl (N := 35) (f := [(0, .pointer (some ⟨P, 0, none⟩)), (1, .agg #[.int .i64 p.gen, .int .i64 p.idx, .int .i64 p.mks, dv])]) Tryd.func42 rfl rfl rfl rfl fun Q hQ hE => ?_
 have hB := Vg.refl P w
 have hL0 := hL
 refine Sq fun K1 hK1 => (Rg ?_)
 refine Ge (Xa rfl rfl rfl) rfl rfl ?_
 rintro _ W2 ⟨rfl, k3, b4, z5⟩
 have n6 : P ≠ w.heap.size := Nat.ne_of_lt hp.lt
 have l7 := hB.size
 replace h1 := h1.more b4 (Nat.le_refl _)
 replace h2 := h2.more b4 (Nat.le_refl _)
 replace h3 := h3.more b4 (Nat.le_refl _)
 replace hp := hp.below b4
 replace hB := Vg.thenB hB b4
 replace hL := LL.more hL z5
 refine Ni (hK1 (Sq fun K8 hK8 => (Rg (Pu rfl (Va (QZ rfl rfl) rfl rfl (Va (Qn (o1 := 6) rfl Ze rfl rfl) rfl rfl (Va (Qi rfl YX rfl (hp.cell (k := 6) rfl)) rfl rfl ?_)))))))
 refine Va (Zw rfl rfl rfl) rfl rfl (Ni (hK8 ?_))
 refine WC.cond rfl (fun c9 => ?_) (fun c9 => ?_)
 .
  replace c9 := dT c9
  refine WC.drawC 25 [(24, P, [s1, s2, .int .i64 d.Qd, .bool d.Qc, .int .i64 fr, .int .i64 sz, .int .i64 d.err], fun cs_ W_ => ∃ t1_ t2_, cs_ = [t1_, t2_, .int .i64 (Q0 d.Qb d.Qa d.Qd d.Qc (fr + p.idx) (Xk p)).Qd, .bool (Q0 d.Qb d.Qa d.Qd d.Qc (fr + p.idx) (Xk p)).Qc, .int .i64 fr, .int .i64 sz, .int .i64 d.err] /\ QD 128 (w.heap.size :: L) W_ t1_ ((Q0 d.Qb d.Qa d.Qd d.Qc (fr + p.idx) (Xk p)).Qb.map Qr) /\ QD 129 (w.heap.size :: L) W_ t2_ ((Q0 d.Qb d.Qa d.Qd d.Qc (fr + p.idx) (Xk p)).Qa.map QG))] [(some 10, .is (.pointer (some ⟨P, 0, none⟩))), (some 11, .is (.pointer (some ⟨P, 0, none⟩))), (some 12, .is (.pointer (some ⟨P, 0, none⟩))), (some 13, .is (.pointer (some ⟨P, 0, none⟩))), (some 14, .is (.pointer (some ⟨P, 0, none⟩))), (some 15, .is (.pointer (some ⟨P, 0, none⟩))), (some 16, .is (.agg #[s1, s2, .int .i64 d.Qd, .bool d.Qc])), (some 17, .is (.pointer (some ⟨P, 0, none⟩))), (some 18, .is (.pointer (some ⟨P, 0, none⟩))), (some 19, .is (.pointer (some ⟨P, 0, none⟩))), (some 20, .is (.pointer (some ⟨P, 4, none⟩))), (some 21, .is (.int .i64 fr)), (some 22, .is (.pointer (some ⟨w.heap.size, 1, none⟩))), (some 23, .is (.int .i64 p.idx)), (some 24, .is (.int .i64 (fr + p.idx))), (some 25, .is (.agg #[.int .i64 p.gen, .int .i64 p.idx, .int .i64 p.mks, dv])), (some 26, .is (.agg (Qr (Xk ⟨p.gen, p.idx, p.mks, p.dat⟩)).toArray)), (some 27, .by fun u W => KM (w.heap.size :: L) (Q0 d.Qb d.Qa d.Qd d.Qc (fr + p.idx) (Xk p)) u W), (some 9, .by fun u W => KM (w.heap.size :: L) (Q0 d.Qb d.Qa d.Qd d.Qc (fr + p.idx) (Xk p)) u W), (some 28, .by fun u W => JS (w.heap.size :: L) (Q0 d.Qb d.Qa d.Qd d.Qc (fr + p.idx) (Xk p)) u W), (some 29, .is (.int .i64 ((Q0 d.Qb d.Qa d.Qd d.Qc (fr + p.idx) (Xk p)).err))), (some 30, .is (.pointer (some ⟨P, 0, none⟩))), (some 31, .is (.pointer (some ⟨P, 0, none⟩))), (some 32, .is (.pointer (some ⟨P, 0, none⟩))), (none, .by fun _ _ => True)] [[], [], [], [2], [3], [4], [5], [], [7], [8], [9], [10], [], [12], [11, 13], [], [15], [6, 14, 16, 16], [17], [18], [18], [0, 0, 2, 3, 4, 5, 6, 7, 8, 9, 10, 11, 12, 13, 14, 15, 16, 17, 18, 19], [21, 0, 2, 3, 4, 5, 6, 7, 8, 9, 10, 11, 12, 13, 14, 15, 16, 17, 18, 19], [22, 0, 2, 3, 4, 5, 6, 7, 8, 9, 10, 11, 12, 13, 14, 15, 16, 17, 18, 19], [23, 19, 17, 0, 2, 3, 4, 5, 6, 7, 8, 9, 10, 11, 12, 13, 14, 15, 16, 17, 18, 19]] ⟨fun _ _ _ hb h => h.below hb, fun _ _ _ hb h => h.below hb, fun _ _ _ hb h => h.below hb, fun _ _ _ _ h => h, trivial⟩ (mA ⟨fun _ _ _ ho h => h.only ho (.tail _ hPL), fun _ _ _ ho h => h.only ho (.tail _ hPL), fun _ _ _ ho h => h.only ho (.tail _ hPL), fun _ _ _ _ h => h, trivial⟩) ⟨fun x hx => (by cases hx), trivial⟩ (fun e he => by simp only [List.mem_cons, List.not_mem_nil, or_false] at he; subst he; exact ⟨fun cs_ W_ W2_ hb_ h_ => by obtain ⟨t1_, t2_, e_, g1_, g2_⟩ := h_; exact ⟨t1_, t2_, e_, g1_.below hb_, g2_.below hb_⟩, fun x hx hne => absurd (by rw [List.mem_singleton.1 hx]) hne⟩) (mA hp) ?_ ?_
  .
   refine Ql.cons rfl (fun Wd hd hbs_ => ?_) ?_
   .
    exact Dd (Qt rfl rfl) rfl
   refine Ql.cons rfl (fun Wd hd hbs_ => ?_) ?_
   .
    exact Dd (Qt rfl rfl) rfl
   refine Ql.cons rfl (fun Wd hd hbs_ => ?_) ?_
   .
    exact Dd (Qt rfl rfl) rfl
   refine Ql.cons rfl (fun Wd hd hbs_ => ?_) ?_
   .
    exact Dd (QZ rfl rfl) rfl
   refine Ql.cons rfl (fun Wd hd hbs_ => ?_) ?_
   .
    exact Dd (Qn (o1 := 0) rfl ZA rfl rfl) rfl
   refine Ql.cons rfl (fun Wd hd hbs_ => ?_) ?_
   .
    exact Dd (Qn (o1 := 0) rfl ZR rfl rfl) rfl
   refine Ql.cons rfl (fun Wd hd hbs_ => ?_) ?_
   .
    have hp := hbs_ _ (.head _) (show 6 ∈ ([23, 19, 17, 0, 2, 3, 4, 5, 6, 7, 8, 9, 10, 11, 12, 13, 14, 15, 16, 17, 18, 19] : List Nat) by decide)
    exact Dd (Qg (cs := [s1, s2, .int .i64 d.Qd, .bool d.Qc]) rfl Qf rfl (hp.part 0 4) rfl) rfl
   refine Ql.cons rfl (fun Wd hd hbs_ => ?_) ?_
   .
    exact Dd (Qt rfl rfl) rfl
   refine Ql.cons rfl (fun Wd hd hbs_ => ?_) ?_
   .
    exact Dd (QZ rfl rfl) rfl
   refine Ql.cons rfl (fun Wd hd hbs_ => ?_) ?_
   .
    exact Dd (Qn (o1 := 0) rfl ZA rfl rfl) rfl
   refine Ql.cons rfl (fun Wd hd hbs_ => ?_) ?_
   .
    exact Dd (Qn (o1 := 4) rfl Ju rfl rfl) rfl
   refine Ql.cons rfl (fun Wd hd hbs_ => ?_) ?_
   .
    have hp := hbs_ _ (.head _) (show 11 ∈ ([23, 19, 17, 0, 2, 3, 4, 5, 6, 7, 8, 9, 10, 11, 12, 13, 14, 15, 16, 17, 18, 19] : List Nat) by decide)
    exact Dd (Qi rfl Qv rfl (hp.cell (k := 4) rfl)) rfl
   refine Ql.cons rfl (fun Wd hd hbs_ => ?_) ?_
   .
    exact Dd (Qn (o1 := 1) rfl Vb rfl rfl) rfl
   refine Ql.cons rfl (fun Wd hd hbs_ => ?_) ?_
   .
    have k3 := k3.chgM hd (by simp only [List.map_cons, List.map_nil, List.mem_cons, List.not_mem_nil, or_false, not_or]; exact n6.symm)
    exact Dd (Qi rfl Qv rfl (k3.cell (k := 1) rfl)) rfl
   refine Ql.cons rfl (fun Wd hd hbs_ => ?_) ?_
   .
    exact Dd (QR (r := fr + p.idx) rfl rfl rfl (Qm (by omega))) rfl
   refine Ql.cons rfl (fun Wd hd hbs_ => ?_) ?_
   .
    have k3 := k3.chgM hd (by simp only [List.map_cons, List.map_nil, List.mem_cons, List.not_mem_nil, or_false, not_or]; exact n6.symm)
    exact Dd (Qg rfl Xq rfl k3.range rfl) rfl
   refine Ql.cons rfl (fun Wd hd hbs_ => ?_) ?_
   .
    have h3 := h3.chgM hd (mA (.tail _ hPL))
    exact DR.mono (QQ rfl Tryd.func64 rfl rfl rfl (QbO p.gen p.idx p.mks p.dat _ Wd _ (hL.chgM hd) h3 hby hdl (tabC (hd.toChg hB (mA (.inl rfl)))))) (fun v W' ⟨h, hb⟩ => ⟨hb, (by rw [h]; exact rfl)⟩)
   refine Ql.cons rfl (fun Wd hd hbs_ => ?_) ?_
   .
    have h1 := h1.chgM hd (mA (.tail _ hPL))
    have h2 := h2.chgM hd (mA (.tail _ hPL))
    exact DR.mono (QQ rfl Tryd.func63 rfl rfl rfl (Qdq d.Qb d.Qa d.Qd d.Qc _ _ (fr + p.idx) (Xk p) Wd _ (hL.chgM hd) h1 h2 (hL.chgM hd) hfu (Z8 (Nat.le_trans hdl (by decide))))) (fun v W_ h => ⟨h.2, h.1⟩)
   refine Ql.cons rfl (fun Wd hd hbs_ => ?_) ?_
   .
    intro u2_17 p2_17
    exact DV.dr (Qt rfl rfl) ⟨Below.refl _ _, p2_17⟩
   refine Ql.cons rfl (fun Wd hd hbs_ => ?_) ?_
   .
    intro u2_18 p2_18
    obtain ⟨t1_, t2_, rfl, g1_, g2_⟩ := p2_18
    exact DV.dr (Zd rfl rfl rfl) ⟨Below.refl _ _, ⟨t1_, t2_, rfl, g1_, g2_⟩⟩
   refine Ql.cons rfl (fun Wd hd hbs_ => ?_) ?_
   .
    intro u2_18 p2_18
    obtain ⟨t1_, t2_, rfl, g1_, g2_⟩ := p2_18
    exact Dd (Zd rfl rfl rfl) rfl
   refine Ql.cons rfl (fun Wd hd hbs_ => ?_) ?_
   .
    intro u2_17 p2_17 u2_18 p2_18 u2_19 p2_19
    exact Dd (QZ rfl rfl) rfl
   refine Ql.cons rfl (fun Wd hd hbs_ => ?_) ?_
   .
    intro u2_17 p2_17 u2_18 p2_18 u2_19 p2_19
    exact Dd (Qn (o1 := 0) rfl ZA rfl rfl) rfl
   refine Ql.cons rfl (fun Wd hd hbs_ => ?_) ?_
   .
    intro u2_17 p2_17 u2_18 p2_18 u2_19 p2_19
    exact Dd (Qn (o1 := 0) rfl ZR rfl rfl) rfl
   refine Ql.hit rfl (fun Wd hd hb_ => ?_) ?_
   .
    intro u2_19 p2_19 u2_17 p2_17 u2_17 p2_17 u2_18 p2_18 u2_19 p2_19
    obtain ⟨t1_, t2_, rfl, g1_, g2_⟩ := p2_19
    exact DR.mono (Qh (o0 := 0) (cs' := [t1_, t2_, .int .i64 (Q0 d.Qb d.Qa d.Qd d.Qc (fr + p.idx) (Xk p)).Qd, .bool (Q0 d.Qb d.Qa d.Qd d.Qc (fr + p.idx) (Xk p)).Qc, .int .i64 fr, .int .i64 sz, .int .i64 d.err]) (vs := [t1_, t2_, .int .i64 (Q0 d.Qb d.Qa d.Qd d.Qc (fr + p.idx) (Xk p)).Qd, .bool (Q0 d.Qb d.Qa d.Qd d.Qc (fr + p.idx) (Xk p)).Qc]) rfl Qj rfl rfl rfl (oC g1_.one (oC g2_.one (oC rfl (oC rfl Qk)))) hb_ rfl (by show 4 <= 7; decide) rfl) (fun _ W_ h => ⟨h.2, ⟨_, h.1, t1_, t2_, rfl, g1_.only h.2 (.tail _ hPL), g2_.only h.2 (.tail _ hPL)⟩, trivial⟩)
   exact trivial
  .
   intro W10 hd hq_
   replace h1 := h1.chgM hd (mA (.tail _ hPL))
   replace h2 := h2.chgM hd (mA (.tail _ hPL))
   replace h3 := h3.chgM hd (mA (.tail _ hPL))
   replace k3 := k3.chgM hd (by simp only [List.map_cons, List.map_nil, List.mem_cons, List.not_mem_nil, or_false, not_or]; exact n6.symm)
   have k11 := hq_ _ (.head _)
   obtain ⟨_, k11, t14, t15, rfl, j12, j13⟩ := k11
   replace hB := hd.toChg hB (mA (.inl rfl))
   replace hL := hL.chgM hd
   intro u2_17 p2_17
   intro u2_18 p2_18
   intro u2_19 p2_19
   intro _ _
   refine Va (QZ rfl rfl) rfl rfl (Va (Qn (o1 := 6) rfl Ze rfl rfl) rfl rfl ?_)
   refine WL.do (Qh (cs' := [t14, t15, .int .i64 ((Q0 d.Qb d.Qa d.Qd d.Qc (fr + p.idx) (Xk p)).Qd), .bool ((Q0 d.Qb d.Qa d.Qd d.Qc (fr + p.idx) (Xk p)).Qc), .int .i64 fr, .int .i64 sz, .int .i64 ((Q0 d.Qb d.Qa d.Qd d.Qc (fr + p.idx) (Xk p)).err)]) (vs := [.int .i64 ((Q0 d.Qb d.Qa d.Qd d.Qc (fr + p.idx) (Xk p)).err)]) rfl JU rfl rfl rfl (oC rfl Qk) k11 rfl (nB rfl) rfl) rfl ?_
   rintro _ W16 ⟨k18, o17⟩
   clear k11
   replace j12 := j12.only o17 (.tail _ hPL)
   replace j13 := j13.only o17 (.tail _ hPL)
   replace hB := Vg.only hB o17 (.inl rfl)
   refine Ni ?_
   intro a_ ha_
   exact hE (Kk rfl  ⟨rfl, t14, t15, by rw [FN (by first | assumption | omega | simp_all)]; exact k18, by rw [FN (by first | assumption | omega | simp_all)]; exact (j12.less (fun x hx => (.tail _ hx))), by rw [FN (by first | assumption | omega | simp_all)]; exact (j13.less (fun x hx => (.tail _ hx)))⟩ hB ha_)
 .
  replace c9 := dF c9
  refine WC.skip ?_
  intro a_ ha_
  exact hE (Kk rfl  ⟨rfl, s1, s2, by rw [Gs (by first | assumption | omega | simp_all)]; exact hp, by rw [Gs (by first | assumption | omega | simp_all)]; exact (h1.less (fun x hx => (.tail _ hx))), by rw [Gs (by first | assumption | omega | simp_all)]; exact (h2.less (fun x hx => (.tail _ hx)))⟩ hB ha_)

set_option maxHeartbeats 1000000 in
theorem QeC (d : DO) (fr sz : Int) (s1 s2 : Value) (P : Nat) (w : World) (L : List Nat) (hL : LL L w) (hPL : P ∈ L) (hp : Xc w P (wrC s1 s2 d fr sz)) (h1 : QD 128 L w s1 (d.Qb.map Qr)) (h2 : QD 129 L w s2 (d.Qa.map QG)) (hfu : -9223372036854775808 <= d.Qd /\ d.Qd <= 9223372036854775807) : CW Tryd.prog 43 [.pointer (some ⟨P, 0, none⟩)] w P fun v W => v = .tuple #[] /\ ∃ t1 t2, Xc W P (wrC t1 t2 (X0 d) fr sz) /\ QD 128 L W t1 ((X0 d).Qb.map Qr) /\ QD 129 L W t2 ((X0 d).Qa.map QG) := by
 refine Kl (N := 23) (f := [(0, .pointer (some ⟨P, 0, none⟩))]) Tryd.func43 rfl rfl rfl rfl fun Q hQ hE => ?_
 have hB := Vg.refl P w
 have hL0 := hL
 refine Sq fun K1 hK1 => (Rg (Pu rfl (Va (QZ rfl rfl) rfl rfl (Va (Qn (o1 := 6) rfl Ze rfl rfl) rfl rfl (Va (Qi rfl YX rfl (hp.cell (k := 6) rfl)) rfl rfl (Va (Zw rfl rfl rfl) rfl rfl (Ni ?_)))))))
 refine hK1 ?_
 refine WC.cond rfl (fun c2 => ?_) (fun c2 => ?_)
 .
  replace c2 := dT c2
  refine Rg (Pu rfl (Pu rfl (Pu rfl (Va (QZ rfl rfl) rfl rfl (Va (Qn (o1 := 0) rfl ZA rfl rfl) rfl rfl (Va (Qn (o1 := 0) rfl ZR rfl rfl) rfl rfl (Va (Qg (cs := [s1, s2, .int .i64 d.Qd, .bool d.Qc]) rfl Qf rfl (hp.part 0 4) rfl) rfl rfl ?_)))))))
  refine Ge (QQ rfl Tryd.func65 rfl rfl rfl (QeB d.Qb d.Qa d.Qd d.Qc _ _ w _ hL h1 h2 hL hfu)) rfl rfl ?_
  rintro _ W12 ⟨⟨u7, u8, rfl, j9, j10⟩, b11⟩
  replace hp := hp.below b11
  replace hB := Vg.thenB hB b11
  refine Pu rfl (Pu rfl (Pu rfl (Va (QZ rfl rfl) rfl rfl (Va (Qn (o1 := 0) rfl ZA rfl rfl) rfl rfl (Va (Qn (o1 := 0) rfl ZR rfl rfl) rfl rfl ?_)))))
  refine WL.do (Qh (cs' := [u7, u8, .int .i64 ((Xz d.Qb d.Qa d.Qd d.Qc).Qd), .bool ((Xz d.Qb d.Qa d.Qd d.Qc).Qc), .int .i64 fr, .int .i64 sz, .int .i64 d.err]) (vs := [u7, u8, .int .i64 ((Xz d.Qb d.Qa d.Qd d.Qc).Qd), .bool ((Xz d.Qb d.Qa d.Qd d.Qc).Qc)]) rfl Qj rfl rfl rfl (oC j9.one (oC j10.one (oC rfl (oC rfl Qk)))) hp rfl (nB rfl) rfl) rfl ?_
  rintro _ W13 ⟨k15, o14⟩
  clear hp
  replace j9 := j9.only o14 hPL
  replace j10 := j10.only o14 hPL
  replace hB := Vg.only hB o14 (.inl rfl)
  refine Va (QZ rfl rfl) rfl rfl (Va (Qn (o1 := 6) rfl Ze rfl rfl) rfl rfl ?_)
  refine WL.do (Qh (cs' := [u7, u8, .int .i64 ((Xz d.Qb d.Qa d.Qd d.Qc).Qd), .bool ((Xz d.Qb d.Qa d.Qd d.Qc).Qc), .int .i64 fr, .int .i64 sz, .int .i64 ((Xz d.Qb d.Qa d.Qd d.Qc).err)]) (vs := [.int .i64 ((Xz d.Qb d.Qa d.Qd d.Qc).err)]) rfl JU rfl rfl rfl (oC rfl Qk) k15 rfl (nB rfl) rfl) rfl ?_
  rintro _ W16 ⟨k18, o17⟩
  clear k15
  replace j9 := j9.only o17 hPL
  replace j10 := j10.only o17 hPL
  replace hB := Vg.only hB o17 (.inl rfl)
  refine Ni ?_
  intro a_ ha_
  exact hE (Kk rfl  ⟨rfl, u7, u8, by rw [FO (by first | assumption | omega | simp_all)]; exact k18, by rw [FO (by first | assumption | omega | simp_all)]; exact (j9.less (fun x hx => hx)), by rw [FO (by first | assumption | omega | simp_all)]; exact (j10.less (fun x hx => hx))⟩ hB ha_)
 .
  replace c2 := dF c2
  refine WC.skip ?_
  intro a_ ha_
  exact hE (Kk rfl  ⟨rfl, s1, s2, by rw [Gt (by first | assumption | omega | simp_all)]; exact hp, by rw [Gt (by first | assumption | omega | simp_all)]; exact (h1.less (fun x hx => hx)), by rw [Gt (by first | assumption | omega | simp_all)]; exact (h2.less (fun x hx => hx))⟩ hB ha_)

def Xx (was d : DO) : DO := if ¬ d.err = 0 /\ ¬ d.err = 9 then ⟨was.Qb, was.Qa, was.Qd, was.Qc, d.err⟩ else d
theorem Dm {was d : DO} (h : ¬ d.err = 0 /\ ¬ d.err = 9) : Xx was d = ⟨was.Qb, was.Qa, was.Qd, was.Qc, d.err⟩ := by unfold Xx; rw [if_pos h]
theorem FE {was d : DO} (h : ¬ (¬ d.err = 0 /\ ¬ d.err = 9)) : Xx was d = d := by unfold Xx; rw [if_neg h]
set_option maxHeartbeats 1000000 in
theorem Qc3 (was d : DO) (fr sz : Int) (P : Nat) (w1 w2 s1 s2 : Value) (w : World) (L : List Nat) (hL : LL L w) (h1 : QD 128 L w s1 (d.Qb.map Qr)) (h2 : QD 129 L w s2 (d.Qa.map QG)) (k1 : QD 128 L w w1 (was.Qb.map Qr)) (k2 : QD 129 L w w2 (was.Qa.map QG))  (hp : Xc w P (wrC s1 s2 d fr sz)) : CV Tryd.prog 44 [.pointer (some ⟨P, 0, none⟩), .agg #[w1, w2, .int .i64 was.Qd, .bool was.Qc]] w fun v W => ∃ t1 t2, v = .tuple #[.agg #[t1, t2, .int .i64 (Xx was d).Qd, .bool (Xx was d).Qc], .int .i64 (Xx was d).err] /\ QD 128 L W t1 ((Xx was d).Qb.map Qr) /\ QD 129 L W t2 ((Xx was d).Qa.map QG) := by
 refine QN (N := 32) (f := [(0, .pointer (some ⟨P, 0, none⟩)), (1, .agg #[w1, w2, .int .i64 was.Qd, .bool was.Qc])]) Tryd.func44 rfl rfl rfl rfl fun Q hQ hE => ?_
 have hB := Below.refl w.heap.size w
 refine Sq fun K1 hK1 => (Rg ?_)
 refine Ge (Xa rfl rfl rfl) rfl rfl ?_
 rintro _ W2 ⟨rfl, k3, b4, z5⟩
 have l7 := hB.size
 replace h1 := h1.more b4 (Nat.le_refl _)
 replace h2 := h2.more b4 (Nat.le_refl _)
 replace k1 := k1.more b4 (Nat.le_refl _)
 replace k2 := k2.more b4 (Nat.le_refl _)
 replace hp := hp.below b4
 replace hB := Qe hB b4
 replace hL := LL.more hL z5
 refine Ge (Qu rfl QV rfl) rfl rfl ?_
 rintro _ W8 ⟨rfl, k9, b10, z11⟩
 have n12 : P ≠ W2.heap.size := Nat.ne_of_lt hp.lt
 have n13 : w.heap.size ≠ W2.heap.size := Nat.ne_of_lt k3.lt
 have l14 := hB.size
 replace h1 := h1.more b10 (Nat.le_refl _)
 replace h2 := h2.more b10 (Nat.le_refl _)
 replace k1 := k1.more b10 (Nat.le_refl _)
 replace k2 := k2.more b10 (Nat.le_refl _)
 replace hp := hp.below b10
 replace k3 := k3.below b10
 replace hB := Qe hB b10
 replace hL := LL.more hL z11
 refine Pu rfl (Ni (hK1 (Sq fun K15 hK15 => (Sq fun K16 hK16 => (Rg (Pu rfl (Va (QZ rfl rfl) rfl rfl ?_)))))))
 refine Va (Qn (o1 := 6) rfl Ze rfl rfl) rfl rfl (Va (Qi rfl YX rfl (hp.cell (k := 6) rfl)) rfl rfl (Va (Xl rfl rfl rfl) rfl rfl (Pu rfl ?_)))
 refine WL.split 11 rfl (fun g17 => ?_) (fun g17 => ?_)
 .
  replace g17 := Q4 g17
  replace g17 := dF g17
  refine Pu rfl (Va (QZ rfl rfl) rfl rfl (Va (Qn (o1 := 6) rfl Ze rfl rfl) rfl rfl (Va (Qi rfl YX rfl (hp.cell (k := 6) rfl)) rfl rfl (Va (Xl rfl rfl rfl) rfl rfl (Pu rfl (Ni (hK16 ?_)))))))
  refine WC.cond rfl (fun c18 => ?_) (fun c18 => ?_)
  .
   replace c18 := Q4 c18
   replace c18 := dF c18
   refine Sq fun K19 hK19 => ?_
   refine WC.drawC 6 [(5, W2.heap.size, [.slice none 0 0, .slice none 0 0, .int .i64 0, .bool false], fun cs_ _ => cs_ = [w1, w2, .int .i64 was.Qd, .bool was.Qc])] [(some 18, .is (.agg #[w1, w2, .int .i64 was.Qd, .bool was.Qc])), (some 19, .is (.pointer (some ⟨P, 0, none⟩))), (some 20, .is (.pointer (some ⟨P, 0, none⟩))), (some 21, .is (.pointer (some ⟨P, 6, none⟩))), (some 22, .is (.int .i64 d.err)), (none, .by fun _ _ => True)] [[], [], [1], [2], [3], [0, 0]] ⟨fun _ _ _ _ h => h, trivial⟩ (mA ⟨fun _ _ _ _ h => h, trivial⟩) ⟨fun x hx => (by cases hx), trivial⟩ (Xo (mA ⟨_, rfl⟩)) (mA k9) ?_ ?_
   .
    refine Ql.cons rfl (fun Wd hd hbs_ => ?_) ?_
    .
     have k3 := k3.chgM hd (by simp only [List.map_cons, List.map_nil, List.mem_cons, List.not_mem_nil, or_false, not_or]; exact n13)
     exact Dd (Qg rfl Qf rfl k3.range rfl) rfl
    refine Ql.cons rfl (fun Wd hd hbs_ => ?_) ?_
    .
     exact Dd (Qt rfl rfl) rfl
    refine Ql.cons rfl (fun Wd hd hbs_ => ?_) ?_
    .
     exact Dd (QZ rfl rfl) rfl
    refine Ql.cons rfl (fun Wd hd hbs_ => ?_) ?_
    .
     exact Dd (Qn (o1 := 6) rfl Ze rfl rfl) rfl
    refine Ql.cons rfl (fun Wd hd hbs_ => ?_) ?_
    .
     have hp := hp.chgM hd (by simp only [List.map_cons, List.map_nil, List.mem_cons, List.not_mem_nil, or_false, not_or]; exact n12)
     exact Dd (Qi rfl YX rfl (hp.cell (k := 6) rfl)) rfl
    refine Ql.hit rfl (fun Wd hd hb_ => ?_) ?_
    .
     have k1 := k1.chgM hd (mA (.head _))
     have k2 := k2.chgM hd (mA (.head _))
     exact (Qx (vs := [w1, w2, .int .i64 was.Qd, .bool was.Qc]) rfl Qj rfl rfl rfl (oC k1.one (oC k2.one (oC rfl (oC rfl Qk)))) hb_ rfl rfl).mono (fun _ W' h => ⟨h.2, Xj.is h.1, trivial⟩)
    exact trivial
   .
    intro W20 hd hq_
    replace h1 := h1.chgM hd (mA (.head _))
    replace h2 := h2.chgM hd (mA (.head _))
    replace k1 := k1.chgM hd (mA (.head _))
    replace k2 := k2.chgM hd (mA (.head _))
    replace hp := hp.chgM hd (by simp only [List.map_cons, List.map_nil, List.mem_cons, List.not_mem_nil, or_false, not_or]; exact n12)
    replace k3 := k3.chgM hd (by simp only [List.map_cons, List.map_nil, List.mem_cons, List.not_mem_nil, or_false, not_or]; exact n13)
    have k21 := hq_ _ (.head _)
    replace k21 := Xj.blk k21
    replace hB := hd.toBelow hB (mA l14)
    replace hL := hL.chgM hd
    intro _ _
    refine Pu rfl (Ni (hK19 ?_))
    exact WC.ret fun a_ ha_ => hQ (QO rfl (.agg rfl Qf k21.range rfl) (.tmp rfl) (by first | (rw [Dm (by first | omega | simp_all)]; exact ⟨_, _, rfl, (k1.less (fun x hx => (.tail _ (.tail _ hx)))), (k2.less (fun x hx => (.tail _ (.tail _ hx))))⟩) | (rw [FE (by first | omega | simp_all)]; exact ⟨_, _, rfl, (k1.less (fun x hx => (.tail _ (.tail _ hx)))), (k2.less (fun x hx => (.tail _ (.tail _ hx))))⟩)) hB ha_)
  .
   replace c18 := Q2 c18
   replace c18 := dT c18
   refine WC.skip (hK15 (Sq fun K22 hK22 => ?_))
   refine WC.drawC 10 [(9, W2.heap.size, [.slice none 0 0, .slice none 0 0, .int .i64 0, .bool false], fun cs_ _ => cs_ = [s1, s2, .int .i64 d.Qd, .bool d.Qc])] [(some 23, .is (.pointer (some ⟨P, 0, none⟩))), (some 24, .is (.pointer (some ⟨P, 0, none⟩))), (some 25, .is (.pointer (some ⟨P, 0, none⟩))), (some 26, .is (.pointer (some ⟨P, 0, none⟩))), (some 27, .is (.agg #[s1, s2, .int .i64 d.Qd, .bool d.Qc])), (some 28, .is (.pointer (some ⟨P, 0, none⟩))), (some 29, .is (.pointer (some ⟨P, 0, none⟩))), (some 30, .is (.pointer (some ⟨P, 6, none⟩))), (some 31, .is (.int .i64 d.err)), (none, .by fun _ _ => True)] [[], [0], [1], [2], [3], [], [5], [6], [7], [4, 0, 1, 2, 3, 4]] ⟨fun _ _ _ _ h => h, trivial⟩ (mA ⟨fun _ _ _ _ h => h, trivial⟩) ⟨fun x hx => (by cases hx), trivial⟩ (Xo (mA ⟨_, rfl⟩)) (mA k9) ?_ ?_
   .
    refine Ql.cons rfl (fun Wd hd hbs_ => ?_) ?_
    .
     exact Dd (Qt rfl rfl) rfl
    refine Ql.cons rfl (fun Wd hd hbs_ => ?_) ?_
    .
     exact Dd (QZ rfl rfl) rfl
    refine Ql.cons rfl (fun Wd hd hbs_ => ?_) ?_
    .
     exact Dd (Qn (o1 := 0) rfl ZA rfl rfl) rfl
    refine Ql.cons rfl (fun Wd hd hbs_ => ?_) ?_
    .
     exact Dd (Qn (o1 := 0) rfl ZR rfl rfl) rfl
    refine Ql.cons rfl (fun Wd hd hbs_ => ?_) ?_
    .
     have hp := hp.chgM hd (by simp only [List.map_cons, List.map_nil, List.mem_cons, List.not_mem_nil, or_false, not_or]; exact n12)
     exact Dd (Qg (cs := [s1, s2, .int .i64 d.Qd, .bool d.Qc]) rfl Qf rfl (hp.part 0 4) rfl) rfl
    refine Ql.cons rfl (fun Wd hd hbs_ => ?_) ?_
    .
     exact Dd (Qt rfl rfl) rfl
    refine Ql.cons rfl (fun Wd hd hbs_ => ?_) ?_
    .
     exact Dd (QZ rfl rfl) rfl
    refine Ql.cons rfl (fun Wd hd hbs_ => ?_) ?_
    .
     exact Dd (Qn (o1 := 6) rfl Ze rfl rfl) rfl
    refine Ql.cons rfl (fun Wd hd hbs_ => ?_) ?_
    .
     have hp := hp.chgM hd (by simp only [List.map_cons, List.map_nil, List.mem_cons, List.not_mem_nil, or_false, not_or]; exact n12)
     exact Dd (Qi rfl YX rfl (hp.cell (k := 6) rfl)) rfl
    refine Ql.hit rfl (fun Wd hd hb_ => ?_) ?_
    .
     have h1 := h1.chgM hd (mA (.head _))
     have h2 := h2.chgM hd (mA (.head _))
     exact (Qx (vs := [s1, s2, .int .i64 d.Qd, .bool d.Qc]) rfl Qj rfl rfl rfl (oC h1.one (oC h2.one (oC rfl (oC rfl Qk)))) hb_ rfl rfl).mono (fun _ W' h => ⟨h.2, Xj.is h.1, trivial⟩)
    exact trivial
   .
    intro W23 hd hq_
    replace h1 := h1.chgM hd (mA (.head _))
    replace h2 := h2.chgM hd (mA (.head _))
    replace k1 := k1.chgM hd (mA (.head _))
    replace k2 := k2.chgM hd (mA (.head _))
    replace hp := hp.chgM hd (by simp only [List.map_cons, List.map_nil, List.mem_cons, List.not_mem_nil, or_false, not_or]; exact n12)
    replace k3 := k3.chgM hd (by simp only [List.map_cons, List.map_nil, List.mem_cons, List.not_mem_nil, or_false, not_or]; exact n13)
    have k24 := hq_ _ (.head _)
    replace k24 := Xj.blk k24
    replace hB := hd.toBelow hB (mA l14)
    replace hL := hL.chgM hd
    intro _ _
    refine Pu rfl (Ni (hK22 ?_))
    exact WC.ret fun a_ ha_ => hQ (QO rfl (.agg rfl Qf k24.range rfl) (.tmp rfl) (by first | (rw [Dm (by first | omega | simp_all)]; exact ⟨_, _, rfl, (h1.less (fun x hx => (.tail _ (.tail _ hx)))), (h2.less (fun x hx => (.tail _ (.tail _ hx))))⟩) | (rw [FE (by first | omega | simp_all)]; exact ⟨_, _, rfl, (h1.less (fun x hx => (.tail _ (.tail _ hx)))), (h2.less (fun x hx => (.tail _ (.tail _ hx))))⟩)) hB ha_)
 .
  replace g17 := Q2 g17
  replace g17 := dT g17
  refine Of rfl (Of rfl (Of rfl (Of rfl (Of rfl (Pu rfl (Ni (hK16 ?_)))))))
  refine WC.condF rfl (WC.skip (hK15 (Sq fun K25 hK25 => ?_)))
  refine WC.drawC 10 [(9, W2.heap.size, [.slice none 0 0, .slice none 0 0, .int .i64 0, .bool false], fun cs_ _ => cs_ = [s1, s2, .int .i64 d.Qd, .bool d.Qc])] [(some 23, .is (.pointer (some ⟨P, 0, none⟩))), (some 24, .is (.pointer (some ⟨P, 0, none⟩))), (some 25, .is (.pointer (some ⟨P, 0, none⟩))), (some 26, .is (.pointer (some ⟨P, 0, none⟩))), (some 27, .is (.agg #[s1, s2, .int .i64 d.Qd, .bool d.Qc])), (some 28, .is (.pointer (some ⟨P, 0, none⟩))), (some 29, .is (.pointer (some ⟨P, 0, none⟩))), (some 30, .is (.pointer (some ⟨P, 6, none⟩))), (some 31, .is (.int .i64 d.err)), (none, .by fun _ _ => True)] [[], [0], [1], [2], [3], [], [5], [6], [7], [4, 0, 1, 2, 3, 4]] ⟨fun _ _ _ _ h => h, trivial⟩ (mA ⟨fun _ _ _ _ h => h, trivial⟩) ⟨fun x hx => (by cases hx), trivial⟩ (Xo (mA ⟨_, rfl⟩)) (mA k9) ?_ ?_
  .
   refine Ql.cons rfl (fun Wd hd hbs_ => ?_) ?_
   .
    exact Dd (Qt rfl rfl) rfl
   refine Ql.cons rfl (fun Wd hd hbs_ => ?_) ?_
   .
    exact Dd (QZ rfl rfl) rfl
   refine Ql.cons rfl (fun Wd hd hbs_ => ?_) ?_
   .
    exact Dd (Qn (o1 := 0) rfl ZA rfl rfl) rfl
   refine Ql.cons rfl (fun Wd hd hbs_ => ?_) ?_
   .
    exact Dd (Qn (o1 := 0) rfl ZR rfl rfl) rfl
   refine Ql.cons rfl (fun Wd hd hbs_ => ?_) ?_
   .
    have hp := hp.chgM hd (by simp only [List.map_cons, List.map_nil, List.mem_cons, List.not_mem_nil, or_false, not_or]; exact n12)
    exact Dd (Qg (cs := [s1, s2, .int .i64 d.Qd, .bool d.Qc]) rfl Qf rfl (hp.part 0 4) rfl) rfl
   refine Ql.cons rfl (fun Wd hd hbs_ => ?_) ?_
   .
    exact Dd (Qt rfl rfl) rfl
   refine Ql.cons rfl (fun Wd hd hbs_ => ?_) ?_
   .
    exact Dd (QZ rfl rfl) rfl
   refine Ql.cons rfl (fun Wd hd hbs_ => ?_) ?_
   .
    exact Dd (Qn (o1 := 6) rfl Ze rfl rfl) rfl
   refine Ql.cons rfl (fun Wd hd hbs_ => ?_) ?_
   .
    have hp := hp.chgM hd (by simp only [List.map_cons, List.map_nil, List.mem_cons, List.not_mem_nil, or_false, not_or]; exact n12)
    exact Dd (Qi rfl YX rfl (hp.cell (k := 6) rfl)) rfl
   refine Ql.hit rfl (fun Wd hd hb_ => ?_) ?_
   .
    have h1 := h1.chgM hd (mA (.head _))
    have h2 := h2.chgM hd (mA (.head _))
    exact (Qx (vs := [s1, s2, .int .i64 d.Qd, .bool d.Qc]) rfl Qj rfl rfl rfl (oC h1.one (oC h2.one (oC rfl (oC rfl Qk)))) hb_ rfl rfl).mono (fun _ W' h => ⟨h.2, Xj.is h.1, trivial⟩)
   exact trivial
  .
   intro W26 hd hq_
   replace h1 := h1.chgM hd (mA (.head _))
   replace h2 := h2.chgM hd (mA (.head _))
   replace k1 := k1.chgM hd (mA (.head _))
   replace k2 := k2.chgM hd (mA (.head _))
   replace hp := hp.chgM hd (by simp only [List.map_cons, List.map_nil, List.mem_cons, List.not_mem_nil, or_false, not_or]; exact n12)
   replace k3 := k3.chgM hd (by simp only [List.map_cons, List.map_nil, List.mem_cons, List.not_mem_nil, or_false, not_or]; exact n13)
   have k27 := hq_ _ (.head _)
   replace k27 := Xj.blk k27
   replace hB := hd.toBelow hB (mA l14)
   replace hL := hL.chgM hd
   intro _ _
   refine Pu rfl (Ni (hK25 ?_))
   exact WC.ret fun a_ ha_ => hQ (QO rfl (.agg rfl Qf k27.range rfl) (.tmp rfl) (by first | (rw [Dm (by first | omega | simp_all)]; exact ⟨_, _, rfl, (h1.less (fun x hx => (.tail _ (.tail _ hx)))), (h2.less (fun x hx => (.tail _ (.tail _ hx))))⟩) | (rw [FE (by first | omega | simp_all)]; exact ⟨_, _, rfl, (h1.less (fun x hx => (.tail _ (.tail _ hx)))), (h2.less (fun x hx => (.tail _ (.tail _ hx))))⟩)) hB ha_)

section
variable {P : Program} {N : Nat} {Q : Exit -> Act -> World -> Prop} {f : Fl} {w : World}
theorem WC.loop4 {α β γ δ : Type} {c : Code} (fr : α -> β -> γ -> δ -> Fl) (I : α -> β -> γ -> δ -> World -> Prop) (μ : α -> β -> γ -> δ -> Nat) (a0 : α) (b0 : β) (c0 : γ) (d0 : δ) (hs : Sub (fr a0 b0 c0 d0) f) (h0 : I a0 b0 c0 d0 w)
  (round : ∀ (K : Act -> World -> Prop) a b c' d w, I a b c' d w -> (∀ {f' w'} (a' : α) (b' : β) (c'' : γ) (d' : δ), I a' b' c'' d' w' -> μ a' b' c'' d' < μ a b c' d -> Sub (fr a' b' c'' d') f' -> ∀ x, Fr N x f' -> K x w') -> WC P N c (Exit.then K Q) (fr a b c' d) w) : WC P N (.loop c) Q f w :=
 WC.loop (σ := α × β × γ × δ) (fun s => fr s.1 s.2.1 s.2.2.1 s.2.2.2) (fun s => I s.1 s.2.1 s.2.2.1 s.2.2.2) (fun s => μ s.1 s.2.1 s.2.2.1 s.2.2.2) (a0, b0, c0, d0) hs h0 fun K s w hI hK => round K s.1 s.2.1 s.2.2.1 s.2.2.2 w hI fun a' b' c' d' h1 h2 h3 => hK (a', b', c', d') h1 h2 h3
end
abbrev PV := Pg × Value
abbrev Yo (q : PV) : List Value := [.int .i64 q.1.gen, .int .i64 q.1.idx, .int .i64 q.1.mks, q.2]
def YE (L : List Nat) (w : World) (qs : List PV) : Prop := ∀ q ∈ qs, QD 1 L w q.2 (Vw q.1.dat)
theorem YE.below {L : List Nat} {w w' : World} {qs : List PV} (h : YE L w qs) (hb : Below w.heap.size w w') : YE L w' qs := fun q hq => (h q hq).below hb
theorem YE.more {L : List Nat} {w w' : World} {qs : List PV} (h : YE L w qs) (hb : Below w.heap.size w w') {B : Nat} (hB : w.heap.size <= B) : YE (B :: L) w' qs := fun q hq => (h q hq).more hb hB
theorem YE.less {L L' : List Nat} {w : World} {qs : List PV} (h : YE L w qs) (hl : ∀ x, x ∈ L' -> x ∈ L) : YE L' w qs := fun q hq => (h q hq).less hl
theorem YE.only {L : List Nat} {w w' : World} {qs : List PV} (h : YE L w qs) {B : Nat} (ho : Yi B w w') (hB : B ∈ L) : YE L w' qs := fun q hq => (h q hq).only ho hB
theorem YE.chgL {L : List Nat} {w w' : World} {qs : List PV} (h : YE L w qs) {B : Nat} (g : Vg B w w') (hB : B ∈ L) : YE L w' qs := fun q hq => (h q hq).chgL g hB
def Jy (rec : List Int) (k : Nat) : List Int := (rec.drop (100 * k)).take 100
def pgL (gen fr : Int) (rec : List Int) (i : Nat) : List Pg := (List.range i).map fun (k : Nat) => ⟨gen, fr + (k : Int), 0, Jy rec k⟩
def Z2 (rec : List Int) : Nat := if rec.length = 0 then 1 else (rec.length + 99) / 100
def Xw (gen fr : Int) (rec : List Int) : List Pg := (List.range (Z2 rec)).map fun (k : Nat) => ⟨gen, fr + (k : Int), (if k = 0 then 1 else 0) + (if k + 1 = Z2 rec then 2 else 0), Jy rec k⟩
theorem QdN (gen fr : Int) (rec : List Int) (i : Nat) : (pgL gen fr rec i).length = i := by unfold pgL; simp
theorem DS (gen fr : Int) (rec : List Int) (i : Nat) : pgL gen fr rec (i + 1) = pgL gen fr rec i ++ [⟨gen, fr + (i : Int), 0, Jy rec i⟩] := by unfold pgL; rw [List.range_succ, List.map_append]; rfl
theorem Qag {rec : List Int} {i n : Nat} (hn : n = min (rec.drop (100 * i)).length 100) : (rec.drop (100 * i)).take n = Jy rec i := by
 unfold Jy
 subst hn
 rcases Nat.le_total (rec.drop (100 * i)).length 100 with h | h
 . rw [Nat.min_eq_left h, List.take_of_length_le (Nat.le_refl _), List.take_of_length_le h]
 . rw [Nat.min_eq_right h]
theorem Qah {rec : List Int} {i n : Nat} (hn : n = min (rec.drop (100 * i)).length 100) : (rec.drop (100 * i)).drop n = rec.drop (100 * (i + 1)) := by
  subst hn
  rcases Nat.le_total (rec.drop (100 * i)).length 100 with h | h
  . rw [Nat.min_eq_left h, List.drop_of_length_le (Nat.le_refl _)]
    rw [List.length_drop] at h
    rw [List.drop_of_length_le (by omega)]
  . rw [Nat.min_eq_right h, List.drop_drop]; congr 1
theorem FF (rec : List Int) (k : Nat) : (Jy rec k).length <= 100 := by unfold Jy; rw [List.length_take]; omega
theorem KL {rec : List Int} (h : Z0 rec) (k : Nat) : Z0 (Jy rec k) := fun x hx => h x (List.mem_of_mem_drop (List.mem_of_mem_take hx))
theorem QeT {rec : List Int} {i : Nat} (h1 : 1 <= i) (h2 : rec.length <= 100 * i) (h3 : 100 * i < rec.length + 100 \/ i = 1) : i = Z2 rec := by
 unfold Z2
 split
 . omega
 . omega
def Ff (q : PV) (m : Int) : PV := (⟨q.1.gen, q.1.idx, m, q.1.dat⟩, q.2)
theorem QaT {gen fr : Int} {rec : List Int} {i : Nat} {ps : List Pg} {a b : Pg} (h1 : 1 <= i) (hi : i = Z2 rec) (hp : ps = pgL gen fr rec i) (ha : ps[0]? = some a) (hb : (ps.set 0 ⟨a.gen, a.idx, 1, a.dat⟩)[i - 1]? = some b) : (ps.set 0 ⟨a.gen, a.idx, 1, a.dat⟩).set (i - 1) ⟨b.gen, b.idx, b.mks + 2, b.dat⟩ = Xw gen fr rec := by
  have hl : ps.length = i := by rw [hp, QdN]
  have hat : ∀ k, k < i -> ps[k]? = some ⟨gen, fr + (k : Int), 0, Jy rec k⟩ := fun k hk => by rw [hp]; unfold pgL; simp [hk]
  rw [hat 0 (by omega)] at ha
  cases ha
  apply List.ext_getElem?
  intro k
  unfold Xw
  rw [<- hi]
  by_cases hk : k < i
  . rw [List.getElem?_map, List.getElem?_range hk, Option.map_some]
    by_cases hk1 : k = i - 1
    . subst hk1
      rw [List.getElem?_set_self (by rw [List.length_set]; omega)]
      by_cases h0 : i - 1 = 0
      . rw [h0, List.getElem?_set_self (by omega)] at hb
        cases hb
        have : i = 1 := by omega
        subst this
        rfl
      . rw [List.getElem?_set_ne (by omega), hat (i - 1) (by omega)] at hb
        cases hb
        rw [if_neg h0, if_pos (by omega)]
    . rw [List.getElem?_set_ne (by omega)]
      by_cases h0 : k = 0
      . subst h0
        rw [List.getElem?_set_self (by omega), if_pos rfl, if_neg (by omega)]
        rfl
      . rw [List.getElem?_set_ne (by omega), hat k hk, if_neg h0, if_neg (by omega)]
        rfl
  . rw [List.getElem?_eq_none (by rw [List.length_set, List.length_set]; omega), List.getElem?_eq_none (by simp; omega)]
theorem QaS {gen fr : Int} {rec : List Int} {i : Nat} {qs : List PV} {q0 q1 : PV} (h1 : 1 <= i) (hi : i = Z2 rec) (hp : qs.map Prod.fst = pgL gen fr rec i) (h0 : qs[0]? = some q0) (h2 : (qs.set 0 (Ff q0 1))[i - 1]? = some q1) : ((qs.set 0 (Ff q0 1)).set (i - 1) (Ff q1 (q1.1.mks + 2))).map Prod.fst = Xw gen fr rec := by
 rw [List.map_set, List.map_set]
 have e := congrArg (fun x => x.map Prod.fst) h2
 rw [<- List.getElem?_map, List.map_set] at e
 exact QaT (a := q0.1) (b := q1.1) h1 hi hp (by rw [List.getElem?_map, h0]; rfl) e
theorem Ee {L : List Nat} {w : World} {qs : List PV} {k : Nat} {q : PV} {m : Int} (h : YE L w qs) (hq : qs[k]? = some q) (j : Nat) : YE L w (qs.set j (Ff q m)) := fun x hx => by
 rcases List.mem_or_eq_of_mem_set hx with hx | rfl
 . exact h x hx
 . exact h q (List.mem_of_getElem? hq)
theorem Qer {gen fr : Int} {rec : List Int} {i k : Nat} {qs : List PV} {q : PV} (hp : qs.map Prod.fst = pgL gen fr rec i) (h : qs[k]? = some q) : q.1.mks = 0 := by
 have e : (qs.map Prod.fst)[k]? = some q.1 := by rw [List.getElem?_map, h]; rfl
 rw [hp] at e
 unfold pgL at e
 rw [List.getElem?_map] at e
 cases hr : (List.range i)[k]? with
 | none => rw [hr] at e; cases e
 | some z => rw [hr, Option.map_some] at e; rw [<- Option.some.inj e]
theorem Zv.more {s base : Nat} {rs : List (List Value)} {u : Value} {w w' : World} (h : Zv s base rs u w) (hb : Below w.heap.size w w') {B : Nat} (_ : w.heap.size <= B) : Zv s base rs u w' := h.below hb
theorem Qfq {gen fr : Int} {rec : List Int} {i k : Nat} {qs : List PV} {q q0 : PV} (hp : qs.map Prod.fst = pgL gen fr rec i) (h : (qs.set 0 (Ff q0 1))[k]? = some q) : q.1.mks = 0 \/ q.1.mks = 1 := by
  rcases List.mem_or_eq_of_mem_set (List.mem_of_getElem? h) with hx | rfl
  . obtain ⟨j, hj⟩ := List.getElem?_of_mem hx
    exact .inl (Qer hp hj)
  . exact .inr rfl
section
variable {P : Program} {ops : Array Oper} {o : Oper} {N : Nat} {f : Fl} {w : World}
theorem FC {t s base : Nat} {x : Operand} {v : Value} {rs : List (List Value)} (ho : o.op = .call { callee := .builtin .len, args := #[x], argTypes := #[t] }) (ht : X3 P t s = true) (hx : ev f x = some v) (hr : Zv s base rs v w) (hw : QP ops o f = some true := by rfl) : DV P ops o N f w (.int .i64 (rs.length : Int)) := by
  rcases hr with ⟨rfl, rfl, _⟩ | ⟨B, _, hO⟩
  . obtain ⟨e, hu, _⟩ := X6 ht
    exact Hd ho hu hx hw
  . exact Qaa ho ht hx hO hw
end
set_option maxHeartbeats 1000000 in
theorem DT (gen fr : Int) (rec : List Int) (dv : Value) (w : World) (L : List Nat) (hL : LL L w)   (hL0 : LL L w) (h1 : QD 1 L w dv (Vw rec)) (hfr : 0 <= fr /\ fr <= 100000) (hrl : rec.length <= 1000000) : CV Tryd.prog 41 [.int .i64 gen, .int .i64 fr, dv] w fun v W => ∃ qs : List PV, QD 4 L W v (qs.map Yo) /\ qs.map Prod.fst = Xw gen fr rec /\ YE L W qs := by
 refine QN (N := 53) (f := [(0, .int .i64 gen), (1, .int .i64 fr), (2, dv)]) Tryd.func41 rfl rfl rfl rfl fun Q hQ hE => ?_
 have hB := Below.refl w.heap.size w
 refine Sq fun K1 hK1 => (Rg (Pu rfl (Ni (hK1 (Sq fun K2 hK2 => (Rg (Pu rfl ?_)))))))
 refine Ni (hK2 (Sq fun K3 hK3 => (WC.block ?_)))
 have h5 : Zv 4 w.heap.size (([] : List PV).map Yo) (.slice none 0 0) w := .inl ⟨rfl, rfl, by decide⟩
 have hql : ([] : List PV).length = 0 := rfl
 refine WC.loop4 (fun (i : Nat) (qs : List PV) (lv : Value) (rv : Value) => [(0, .int .i64 gen), (1, .int .i64 fr), (6, .slice none 0 0), (7, lv), (2, rv)]) (fun (i : Nat) (qs : List PV) (lv : Value) (rv : Value) W => qs.map Prod.fst = pgL gen fr rec i /\ qs.length = i /\ (100 * i < rec.length + 100 \/ i = 1) /\ i <= rec.length + 1 /\ QD 1 L w rv (Vw (rec.drop (100 * i))) /\ YE L w qs /\ Below w.heap.size w W /\ LL (L) W /\ Zv 4 w.heap.size (qs.map Yo) lv W) (fun (i : Nat) (qs : List PV) (lv : Value) (rv : Value) => (rec.length + 200) - 100 * i) 0 ([] : List PV) (.slice none 0 0) dv (by repeat first | exact trivial | refine aR ?_ | refine aI (by omega) ?_) ⟨rfl, rfl, (by omega), (by omega), h1, (fun q hq => by cases hq), hB, hL, h5⟩ ?_
 clear h5 hB hL
 rintro K4 i qs lv rv W5 ⟨hqs, hql, hi, hi2, h1, hrq, hB, hL, h5⟩ hK4
 refine Sq fun K6 hK6 => (Sq fun K7 hK7 => ?_)
 have hld := List.length_drop (i := 100 * i) (l := rec)
 refine Rg (Pu rfl (Va (ZX (FC rfl X7 rfl h5) (show _ = Value.int .i64 (i : Int) by rw [List.length_map, hql])) rfl rfl (Va (Zw rfl rfl rfl) rfl rfl (Pu rfl ?_))))
 refine WL.split 12 rfl (fun g8 => ?_) (fun g8 => ?_)
 .
  replace g8 := dT g8
  refine Of rfl (Of rfl (Of rfl (Pu rfl (Ni (hK7 (WC.condT rfl (WC.skip ?_)))))))
  refine hK6 (WC.block (Sq fun K9 hK9 => (Rg (Pu rfl (Va (QT rfl QH rfl (h1.below hB)) rfl rfl ?_)))))
  obtain ⟨n, hn⟩ : ∃ n : Nat, n = min (rec.drop (100 * i)).length 100 := ⟨_, rfl⟩
  have hnl : n <= (rec.drop (100 * i)).length := by rw [hn]; exact Nat.min_le_left _ _
  have hnm : (n : Int) = if (100 : Int) < ((rec.drop (100 * i)).length : Int) then 100 else ((rec.drop (100 * i)).length : Int) := by rcases Nat.le_total (rec.drop (100 * i)).length 100 with h_ | h_; (rw [hn, Nat.min_eq_left h_, if_neg (by omega)]); (rw [hn, Nat.min_eq_right h_]; split <;> omega)
  refine Va (ZX (Fz rfl rfl rfl) (congrArg (Value.int .i64) hnm.symm)) rfl rfl (Pu rfl (Ni (hK9 (Sq fun K10 hK10 => (Rg (Pu rfl (Pu rfl ?_)))))))
  refine Pu rfl (Pu rfl (Va (ZX (FC rfl X7 rfl h5) (show _ = Value.int .i64 (i : Int) by rw [List.length_map, hql])) rfl rfl (Va (QR (r := fr + (i : Int)) rfl rfl rfl (Qm (by omega))) rfl rfl (Pu rfl (Pu rfl ?_)))))
  refine Ge (Fw (w0 := w) n rfl QH rfl h1 rfl rfl hnl) rfl rfl ?_
  rintro u11 _ ⟨rfl, p12⟩
  rw [Qag hn] at p12
  refine Va (QS rfl rfl (Xi (cs := [.int .i64 gen, .int .i64 (fr + (i : Int)), .int .i64 0, u11]) (by kernel_rfl) (oC rfl (oC rfl (oC rfl (oC p12.one Qk)))))) rfl rfl ?_
  refine Ge (ZP (r := [.int .i64 gen, .int .i64 (fr + (i : Int)), .int .i64 0, u11]) rfl JW (by decide) (by decide) rfl rfl rfl) rfl rfl ?_
  rintro u17 W13 ⟨k14, b15, z16⟩
  have l18 := hB.size
  replace h5 := h5.more b15 (Nat.le_refl _)
  replace hB := Qe hB b15
  replace hL := LL.more hL z16
  refine Ge (V6 (base := w.heap.size) (news := [Yo ((⟨gen, fr + (i : Int), 0, Jy rec i⟩, u11) : PV)]) rfl JW rfl rfl h5 (k14.rd (L := []) (by simp)) (fun r hr u hu => by rw [List.mem_singleton.1 hr] at hu; exact oC rfl (oC rfl (oC rfl (oC p12.one Qk))) u hu) (by rw [List.length_map, hql]; simp [maxLen]; omega) (by rw [List.length_map, hql]; simp; omega) hB.size) rfl rfl ?_
  rintro u19 W20 ⟨h6, b21⟩
  replace h6 : Zv 4 w.heap.size ((qs ++ [((⟨gen, fr + (i : Int), 0, Jy rec i⟩, u11) : PV)]).map Yo) u19 W20 := by rw [List.map_append]; exact h6
  replace hB := hB.trans b21
  replace hL0 := hL0
  replace hL := LL.below hL0 hB
  refine Pu rfl (Ni (hK10 (Rg (Pu rfl (Pu rfl ?_)))))
  refine Ge (Fv (w0 := w) n rfl QH rfl h1 rfl rfl hnl) rfl rfl ?_
  rintro u22 _ ⟨rfl, p23⟩
  rw [Qah hn] at p23
  refine Pu rfl (Ni ?_)
  exact hK4 (i + 1) (qs ++ [((⟨gen, fr + (i : Int), 0, Jy rec i⟩, u11) : PV)]) u19 u22 ⟨(by rw [List.map_append, hqs, DS]; rfl), (by rw [List.length_append, hql]; rfl), (by omega), (by omega), p23, (fun q hq => by rcases List.mem_append.1 hq with h_ | h_; exact hrq q h_; rw [List.mem_singleton.1 h_]; exact p12), hB, hL, h6⟩ (by omega) (by repeat first | exact trivial | refine aR ?_ | refine aI (by omega) ?_)
 .
  replace g8 := dF g8
  refine Pu rfl (Va (QT rfl QH rfl (h1.below hB)) rfl rfl (Va (XL rfl rfl rfl) rfl rfl (Pu rfl (Ni (hK7 ?_)))))
  refine WC.cond rfl (fun c24 => ?_) (fun c24 => ?_)
  .
   replace c24 := dT c24
   refine WC.skip (hK6 (WC.block (Sq fun K25 hK25 => (Rg (Pu rfl (Va (QT rfl QH rfl (h1.below hB)) rfl rfl ?_))))))
   obtain ⟨n, hn⟩ : ∃ n : Nat, n = min (rec.drop (100 * i)).length 100 := ⟨_, rfl⟩
   have hnl : n <= (rec.drop (100 * i)).length := by rw [hn]; exact Nat.min_le_left _ _
   have hnm : (n : Int) = if (100 : Int) < ((rec.drop (100 * i)).length : Int) then 100 else ((rec.drop (100 * i)).length : Int) := by rcases Nat.le_total (rec.drop (100 * i)).length 100 with h_ | h_; (rw [hn, Nat.min_eq_left h_, if_neg (by omega)]); (rw [hn, Nat.min_eq_right h_]; split <;> omega)
   refine Va (ZX (Fz rfl rfl rfl) (congrArg (Value.int .i64) hnm.symm)) rfl rfl (Pu rfl (Ni (hK25 (Sq fun K26 hK26 => (Rg (Pu rfl (Pu rfl ?_)))))))
   refine Pu rfl (Pu rfl (Va (ZX (FC rfl X7 rfl h5) (show _ = Value.int .i64 (i : Int) by rw [List.length_map, hql])) rfl rfl (Va (QR (r := fr + (i : Int)) rfl rfl rfl (Qm (by omega))) rfl rfl (Pu rfl (Pu rfl ?_)))))
   refine Ge (Fw (w0 := w) n rfl QH rfl h1 rfl rfl hnl) rfl rfl ?_
   rintro u27 _ ⟨rfl, p28⟩
   rw [Qag hn] at p28
   refine Va (QS rfl rfl (Xi (cs := [.int .i64 gen, .int .i64 (fr + (i : Int)), .int .i64 0, u27]) (by kernel_rfl) (oC rfl (oC rfl (oC rfl (oC p28.one Qk)))))) rfl rfl ?_
   refine Ge (ZP (r := [.int .i64 gen, .int .i64 (fr + (i : Int)), .int .i64 0, u27]) rfl JW (by decide) (by decide) rfl rfl rfl) rfl rfl ?_
   rintro u33 W29 ⟨k30, b31, z32⟩
   have l34 := hB.size
   replace h5 := h5.more b31 (Nat.le_refl _)
   replace hB := Qe hB b31
   replace hL := LL.more hL z32
   refine Ge (V6 (base := w.heap.size) (news := [Yo ((⟨gen, fr + (i : Int), 0, Jy rec i⟩, u27) : PV)]) rfl JW rfl rfl h5 (k30.rd (L := []) (by simp)) (fun r hr u hu => by rw [List.mem_singleton.1 hr] at hu; exact oC rfl (oC rfl (oC rfl (oC p28.one Qk))) u hu) (by rw [List.length_map, hql]; simp [maxLen]; omega) (by rw [List.length_map, hql]; simp; omega) hB.size) rfl rfl ?_
   rintro u35 W36 ⟨h6, b37⟩
   replace h6 : Zv 4 w.heap.size ((qs ++ [((⟨gen, fr + (i : Int), 0, Jy rec i⟩, u27) : PV)]).map Yo) u35 W36 := by rw [List.map_append]; exact h6
   replace hB := hB.trans b37
   replace hL0 := hL0
   replace hL := LL.below hL0 hB
   refine Pu rfl (Ni (hK26 (Rg (Pu rfl (Pu rfl ?_)))))
   refine Ge (Fv (w0 := w) n rfl QH rfl h1 rfl rfl hnl) rfl rfl ?_
   rintro u38 _ ⟨rfl, p39⟩
   rw [Qah hn] at p39
   refine Pu rfl (Ni ?_)
   exact hK4 (i + 1) (qs ++ [((⟨gen, fr + (i : Int), 0, Jy rec i⟩, u27) : PV)]) u35 u38 ⟨(by rw [List.map_append, hqs, DS]; rfl), (by rw [List.length_append, hql]; rfl), (by omega), (by omega), p39, (fun q hq => by rcases List.mem_append.1 hq with h_ | h_; exact hrq q h_; rw [List.mem_singleton.1 h_]; exact p28), hB, hL, h6⟩ (by omega) (by repeat first | exact trivial | refine aR ?_ | refine aI (by omega) ?_)
  .
   replace c24 := dF c24
   refine WC.exit ?_
   refine hK3 (Sq fun K40 hK40 => ?_)
   have hi1 : 1 <= i := by first | omega | (simp_all; omega)
   have hi3 : rec.length <= 100 * i := by first | omega | (simp_all; omega)
   rcases h5 with ⟨_, e5, _⟩ | ⟨D, hD1, hD2⟩
   . have e6 := congrArg List.length e5; rw [List.length_map, hql, List.length_nil] at e6; omega
   have hnp := QeT hi1 hi3 hi
   replace hL : LL (D :: L) W5 := LL.cons hL hD2.lt
   obtain ⟨q0, hq0⟩ : ∃ q, qs[0]? = some q := ⟨_, List.getElem?_eq_getElem (by omega)⟩
   have hm0 := Qer hqs hq0
   refine Rg (Pu rfl (Va (UC (o1 := 0 * 4) (0) rfl X7 rfl rfl hD2 (by omega) (by rw [List.length_map, hql]; omega) rfl) rfl rfl (Va (Qn (o1 := 0 * 4 + 2) rfl Zz rfl rfl) rfl rfl (Va (HX (k := 0) (j := 2) (r := Yo q0) rfl Qv rfl hD2 rfl (XG (enc := Yo) hq0) rfl) rfl rfl (Va (Jn (r := 1) rfl rfl rfl (by rw [hm0]; decide)) rfl rfl (Va (UC (o1 := 0 * 4) (0) rfl X7 rfl rfl hD2 (by omega) (by rw [List.length_map, hql]; omega) rfl) rfl rfl (Va (Qn (o1 := 0 * 4 + 2) rfl Zz rfl rfl) rfl rfl ?_)))))))
   refine WL.do (Ha (k := 0) (j := 2) (r := Yo q0) rfl ZO rfl rfl rfl hD2 rfl (XG (enc := Yo) hq0) (by decide)) rfl ?_
   rintro _ W41 ⟨k43, o42⟩
   clear hD2
   replace hB := o42.below hB hD1
   replace k43 : Y5 4 W41 lv ((qs.set 0 (Ff q0 1)).map Yo) D := by rw [List.map_set]; exact k43
   refine Ni (hK40 (Sq fun K44 hK44 => ?_))
   obtain ⟨q1, hq1⟩ : ∃ q, (qs.set 0 (Ff q0 1))[i - 1]? = some q := ⟨_, List.getElem?_eq_getElem (by rw [List.length_set]; omega)⟩
   have hm1 := Qfq hqs hq1
   refine Rg (Pu rfl (Pu rfl (Va (ZX (Qaa rfl X7 rfl k43) (show _ = Value.int .i64 (i : Int) by rw [List.length_map, List.length_set, hql])) rfl rfl (Va (Zm (r := (i : Int) - 1) rfl rfl rfl (Qm (by omega))) rfl rfl (Va (UC (o1 := (i - 1) * 4) ((i - 1)) rfl X7 rfl rfl k43 (by omega) (by rw [List.length_map, List.length_set, hql]; omega) rfl) rfl rfl (Va (Qn (o1 := (i - 1) * 4 + 2) rfl Zz rfl rfl) rfl rfl (Va (HX (k := (i - 1)) (j := 2) (r := Yo q1) rfl Qv rfl k43 rfl (XG (enc := Yo) hq1) rfl) rfl rfl ?_)))))))
   refine Va (Jn (r := q1.1.mks + 2) rfl rfl rfl (by rcases hm1 with h_ | h_ <;> rw [h_] <;> decide)) rfl rfl (Va (UC (o1 := (i - 1) * 4) ((i - 1)) rfl X7 rfl rfl k43 (by omega) (by rw [List.length_map, List.length_set, hql]; omega) rfl) rfl rfl (Va (Qn (o1 := (i - 1) * 4 + 2) rfl Zz rfl rfl) rfl rfl ?_))
   refine WL.do (Ha (k := (i - 1)) (j := 2) (r := Yo q1) rfl ZO rfl rfl rfl k43 rfl (XG (enc := Yo) hq1) (by decide)) rfl ?_
   rintro _ W45 ⟨k47, o46⟩
   clear k43
   replace hB := o46.below hB hD1
   replace k47 : Y5 4 W45 lv (((qs.set 0 (Ff q0 1)).set (i - 1) (Ff q1 (q1.1.mks + 2))).map Yo) D := by rw [List.map_set]; exact k47
   refine Ni (hK44 (Sq fun K48 hK48 => (Rg (Pu rfl (Pu rfl (Ni (hK48 ?_)))))))
   exact WC.ret fun a_ ha_ => hQ (QI rfl (.tmp rfl) ⟨_, k47.notin hL0 hD1, QaS hi1 hnp hqs hq0 hq1, (Ee (Ee hrq hq0 0) hq1 (i - 1)).below hB⟩ hB ha_)

section
variable {P : Program} {ops : Array Oper} {o : Oper} {N : Nat} {f : Fl} {w : World}
theorem Qe9 {t s bytes base : Nat} {x y : Operand} {u v2 : Value} {rs news : List (List Value)} {L : List Nat} {Cs : List (Nat × List Value)} (ho : o.op = .call { callee := .builtin .append, args := #[x, y], argTypes := #[t, t] }) (ht : Hq P t s bytes = true) (hx : ev f x = some u) (hy : ev f y = some v2)
    (h : Zv s base rs u w) (h2 : QD s L w v2 news) (h1 : ∀ r ∈ news, ∀ u ∈ r, u.oneCell' = true) (hm : rs.length + news.length <= maxLen) (hby : (rs.length + news.length) * bytes <= 140737488355328) (hb : base <= w.heap.size) (hC : ∀ c ∈ Cs, Xc w c.1 c.2 /\ ∀ D, Y5 s w u rs D -> c.1 ≠ D) (hw : QP ops o f = some true := by rfl) : DR P ops o N f w fun u' W => Zv s base (rs ++ news) u' W /\ Below base w W /\ ∀ c ∈ Cs, Xc W c.1 c.2 := fun a ha => by
  rcases h with ⟨rfl, rfl, h0⟩ | ⟨B, hB, hO⟩
  . by_cases hn : news = []
    . subst hn
      obtain ⟨e, q, Z, hu, hi, hz, rfl, rfl, hzs⟩ := Y1 ht
      have hx := ha.ev hx
      have hy := ha.ev hy
      obtain ⟨_, hl2, a2, cap2, rfl, hd1, hd2, hd3, hd4⟩ := h2
      have hr0 : (Builtin.append_ #[t, t] o.type #[.slice none 0 0, .slice a2 0 cap2]).run P w = .ok (.slice none 0 0) w := by
        cases a2 with
        | none => simp [Builtin.append_, run_underlying hu, sizeOf, typeInfo, hi, Builtin.lenOf, Builtin.firstCells, storeCells]
        | some a2 => simp [Builtin.append_, run_underlying hu, sizeOf, typeInfo, hi, Builtin.lenOf, Builtin.firstCells, loadCells, loadCellsFrom, storeCells]
      refine QK.of_wp (Qw ha hw) fun K hK => ?_
      unfold Oper.wp execOp
      simp only [List.length_nil] at hy
      simp only [ho, resolve, invoke, builtin, Sem.run_bind, Sem.run_pure, Result.andThen_ok, List.map_toArray, List.map_cons, List.map_nil, hx, hy, hr0]
      exact hK _ _ ⟨.inl ⟨rfl, rfl, h0⟩, Below.refl _ _, fun c hc => (hC c hc).1⟩
    . refine QK.mono (JM (rs := []) ho ht hx hy (QD.nil (L := L) h0) h2 hn hm hby hw a ha) fun v W ⟨k1, k2, k3⟩ => ⟨.inr ⟨_, hb, k1⟩, k2.mono hb, fun c hc => (hC c hc).1.below k2⟩
  . exact QK.mono (Vx ho ht hx hy hO h2 h1 hm hby hw a ha) fun v W ⟨B', k1, k2⟩ => ⟨.inr ⟨B', k2.le hB hb, k1⟩, k2.from_base hB hb, fun c hc => (hC c hc).1.grow k2 ((hC c hc).2 B hO)⟩
theorem Ym {t s s' : Nat} {L : List Nat} {x : Operand} {v : Value} {rs : List (List Value)} {w0 : World} (ho : o.op = .call { callee := .builtin .len, args := #[x], argTypes := #[t] }) (ht : X3 P t s' = true) (hx : ev f x = some v) (hr : QD s L w0 v rs) (hw : QP ops o f = some true := by rfl) : DV P ops o N f w (.int .i64 (rs.length : Int)) := by
 obtain ⟨_, _, a, cap, rfl, _⟩ := hr
 obtain ⟨e, hu, _⟩ := X6 ht
 exact Hd ho hu hx hw
end
theorem Vg.trB {B : Nat} {w W W' : World} (h : Vg B w W) (b : Below w.heap.size W W') : Vg B w W' :=
 ⟨by rw [b.os, h.os], by rw [b.tape, h.tape], by rw [b.output, h.output], Nat.le_trans h.size b.size, fun k hk hn => by rw [b.block k hk, h.block k hk hn]⟩
theorem Xc.belowB {w w' : World} {B n : Nat} {cs : List Value} (h : Xc w B cs) (b : Below n w w') (hB : B < n) : Xc w' B cs := by
 obtain ⟨t, h'⟩ := h
 exact ⟨t, by rw [b.block B hB]; exact h'⟩
abbrev b1 (m : Int) : Bool := !decide (bits BinOp.and .i64 m 1 = 0)
abbrev b2 (m : Int) : Bool := !decide (bits BinOp.and .i64 m 2 = 0)
def YT (pg : Nat -> Option Pg) (sz st : Nat) (gen : Int) : Nat -> Nat -> List Int -> Option (List Int × Nat)
 | 0, _, _ => none
 | f + 1, k, out => if k < sz then (match pg k with
   | none => none
   | some p => if ¬ p.gen = gen \/ ¬ b1 p.mks = decide (k = st) then none
    else if b2 p.mks = true then (if st < k /\ p.dat.length = 0 then none else some (out ++ p.dat, k + 1))
    else if ¬ p.dat.length = 100 then none else YT pg sz st gen f (k + 1) (out ++ p.dat)) else none
def Uf (pg : Nat -> Option Pg) (sz st : Nat) (gen : Int) : Option (List Int × Nat) := YT pg sz st gen (sz - st + 1) st []
section
variable {pg : Nat -> Option Pg} {sz st n k : Nat} {gen : Int} {out : List Int} {p : Pg}
theorem Ec (h : ¬ k < sz) : YT pg sz st gen (n + 1) k out = none := by rw [YT, if_neg h]
theorem Qb3 (h : k < sz) (hp : pg k = none) : YT pg sz st gen (n + 1) k out = none := by rw [YT, if_pos h, hp]
theorem Qb5 (h : k < sz) (hp : pg k = some p) (hg : ¬ p.gen = gen \/ ¬ b1 p.mks = decide (k = st)) : YT pg sz st gen (n + 1) k out = none := by rw [YT, if_pos h, hp]; dsimp only; rw [if_pos hg]
theorem E2 (h : k < sz) (hp : pg k = some p) (hg : ¬ (¬ p.gen = gen \/ ¬ b1 p.mks = decide (k = st))) (h2 : b2 p.mks = true) (h3 : ¬ (st < k /\ p.dat.length = 0)) : YT pg sz st gen (n + 1) k out = some (out ++ p.dat, k + 1) := by rw [YT, if_pos h, hp]; dsimp only; rw [if_neg hg, if_pos h2, if_neg h3]
theorem QeJ (h : k < sz) (hp : pg k = some p) (hg : ¬ (¬ p.gen = gen \/ ¬ b1 p.mks = decide (k = st))) (h2 : b2 p.mks = true) (h3 : st < k /\ p.dat.length = 0) : YT pg sz st gen (n + 1) k out = none := by rw [YT, if_pos h, hp]; dsimp only; rw [if_neg hg, if_pos h2, if_pos h3]
theorem QeI (h : k < sz) (hp : pg k = some p) (hg : ¬ (¬ p.gen = gen \/ ¬ b1 p.mks = decide (k = st))) (h2 : ¬ b2 p.mks = true) (h3 : ¬ p.dat.length = 100) : YT pg sz st gen (n + 1) k out = none := by rw [YT, if_pos h, hp]; dsimp only; rw [if_neg hg, if_neg h2, if_pos h3]
theorem Qb6 (h : k < sz) (hp : pg k = some p) (hg : ¬ (¬ p.gen = gen \/ ¬ b1 p.mks = decide (k = st))) (h2 : ¬ b2 p.mks = true) (h3 : p.dat.length = 100) : YT pg sz st gen (n + 1) k out = YT pg sz st gen n (k + 1) (out ++ p.dat) := by rw [YT, if_pos h, hp]; dsimp only; rw [if_neg hg, if_neg h2, if_neg (fun q => q h3)]
end
abbrev HJ (Qb : List (List Int)) (Qa : List (Int × List Int)) (Qc : Bool) (fr : Int) (k : Nat) : Option Pg := UK Qb Qa Qc (fr + (k : Int)) (k : Int)
theorem Zv.ltD {s base : Nat} {rs rs' : List (List Value)} {u : Value} {w w' : World} {D : Nat} (h : Zv s base rs u w) (hD : Y5 s w' u rs' D) : D < w.heap.size := by
  obtain ⟨_, _, cap, sp, e, _⟩ := hD
  rcases h with ⟨rfl, _, _⟩ | ⟨B, _, hO⟩
  . cases e
  . have hlt := hO.lt
    obtain ⟨_, _, cap', sp', e', _⟩ := hO
    rw [e'] at e
    injection e with e1
    injection e1 with e2
    injection e2 with e3
    omega
theorem Zv.otherC {s base : Nat} {rs : List (List Value)} {u : Value} {w w' : World} {C : Nat} (h : Zv s base rs u w) (ho : Yi C w w') (hn : ∀ D, Y5 s w u rs D -> D ≠ C) : Zv s base rs u w' := by
 rcases h with h | ⟨B, hB, hO⟩
 . exact .inl h
 . exact .inr ⟨B, hB, hO.other ho (hn B hO)⟩
theorem DN {b : Bool} {g z : Prop} [Decidable g] [Decidable z] {k st : Nat} (hb : b = !decide g) : (b || !decide ((!decide z) = decide ((k : Int) = (st : Int)))) = true ↔ (¬ g \/ ¬ (!decide z) = decide (k = st)) := by
 have e : ((k : Int) = (st : Int)) ↔ k = st := by omega
 subst hb
 by_cases h1 : g <;> by_cases h2 : z <;> by_cases h3 : k = st <;> simp [h1, h2, h3, e]
theorem QdJ {b : Bool} {g z : Prop} [Decidable g] [Decidable z] {k st : Nat} (hb : b = !decide g) (h : (b || !decide ((!decide z) = decide ((k : Int) = (st : Int)))) = true) : ¬ g \/ ¬ (!decide z) = decide (k = st) := (DN hb).1 h
theorem QeH {b : Bool} {g z : Prop} [Decidable g] [Decidable z] {k st : Nat} (hb : b = !decide g) (h : (b || !decide ((!decide z) = decide ((k : Int) = (st : Int)))) = false) : ¬ (¬ g \/ ¬ (!decide z) = decide (k = st)) := fun q => by
 rw [(DN hb).2 q] at h; cases h
theorem Zv.geD {s base : Nat} {rs rs' : List (List Value)} {u : Value} {w w' : World} {D : Nat} (h : Zv s base rs u w) (hD : Y5 s w' u rs' D) : base <= D := by
  obtain ⟨_, _, cap, sp, e, _⟩ := hD
  rcases h with ⟨rfl, _, _⟩ | ⟨B, hB, hO⟩
  . cases e
  . obtain ⟨_, _, cap', sp', e', _⟩ := hO
    rw [e'] at e
    injection e with e1
    injection e1 with e2
    injection e2 with e3
    omega
set_option maxHeartbeats 1000000 in
theorem Qfi (Qb : List (List Int)) (Qa : List (Int × List Int)) (Qd : Int) (Qc : Bool) (s1 s2 : Value) (fr gen : Int) (sz st : Nat) (P : Nat) (w : World) (L : List Nat) (hL : LL L w) (hPL : P ∈ L) (hp : Xc w P [s1, s2, .int .i64 Qd, .bool Qc, .int .i64 fr, .int .i64 (sz : Int), .int .i64 gen, .int .i64 (st : Int)])  (h1 : QD 128 L w s1 (Qb.map Qr)) (h2 : QD 129 L w s2 (Qa.map QG)) (hPlt : P < w.heap.size) (hfr : 0 <= fr /\ fr <= 100000) (hsz : sz <= 2048) (hst : st <= 100000) (hbd : YL Qb Qa) (tabC : ∀ {W}, Vg P w W -> ZM W) : CW Tryd.prog 62 [.pointer (some ⟨P, 0, none⟩)] w P fun v W => (∃ (out : List Int) (k' : Nat) (dv : Value), v = .tuple #[dv, .bool true] /\ Uf (HJ Qb Qa Qc fr) sz st gen = some (out, k') /\ Zv 1 w.heap.size (Vw out) dv W /\ Xc W P [s1, s2, .int .i64 Qd, .bool Qc, .int .i64 fr, .int .i64 (sz : Int), .int .i64 gen, .int .i64 (k' : Int)] /\ Z0 out /\ st < k' /\ k' <= sz /\ out.length <= 100 * (k' - st)) \/ (v = .tuple #[.slice none 0 0, .bool false] /\ Uf (HJ Qb Qa Qc fr) sz st gen = none /\ Xc W P [s1, s2, .int .i64 Qd, .bool Qc, .int .i64 fr, .int .i64 (sz : Int), .int .i64 gen, .int .i64 (st : Int)]) := by
 refine Kl (N := 84) (f := [(0, .pointer (some ⟨P, 0, none⟩))]) Tryd.func62 rfl rfl rfl rfl fun Q hQ hE => ?_
 have hB := Vg.refl P w
 have hL0 := hL
 refine Sq fun K1 hK1 => (Rg (Pu rfl (Pu rfl (Ni (hK1 (Sq fun K2 hK2 => (Rg ?_)))))))
 refine Ge (Gh rfl X2 (by decide)) rfl rfl ?_
 rintro u7 W3 ⟨k4, b5, z6⟩
 have h5 : Zv 1 w.heap.size (Vw []) u7 W3 := .inr ⟨_, hB.size, k4⟩
 replace hp := hp.below b5
 replace hB := Vg.thenB hB b5
 replace hL := LL.below hL b5
 refine Pu rfl (Ni (hK2 (Sq fun K8 hK8 => (Sq fun K9 hK9 => (Rg (Pu rfl (Va (QZ rfl rfl) rfl rfl ?_)))))))
 refine Va (Qn (o1 := 7) rfl ZF rfl rfl) rfl rfl (Va (Qi rfl Qv rfl (hp.cell (k := 7) rfl)) rfl rfl (Pu rfl (Ni (hK9 (WC.block ?_)))))
 have hrv : Uf (HJ Qb Qa Qc fr) sz st gen = YT (HJ Qb Qa Qc fr) sz st gen ((sz - st) + 1) st [] := rfl
 refine WC.loop3 (fun (k : Nat) (out : List Int) (lv : Value) => [(0, .pointer (some ⟨P, 0, none⟩)), (2, .slice none 0 0), (3, .bool false), (5, .int .i64 (k : Int)), (4, lv)]) (fun (k : Nat) (out : List Int) (lv : Value) W => st <= k /\ Uf (HJ Qb Qa Qc fr) sz st gen = YT (HJ Qb Qa Qc fr) sz st gen (sz - k + 1) k out /\ out.length <= 100 * (k - st) /\ Z0 out /\ Vg P w W /\ LL (L) W /\ Zv 1 w.heap.size (Vw out) lv W /\ Xc W P [s1, s2, .int .i64 Qd, .bool Qc, .int .i64 fr, .int .i64 (sz : Int), .int .i64 gen, .int .i64 (st : Int)]) (fun (k : Nat) (out : List Int) (lv : Value) => sz - k) st ([] : List Int) u7 (by repeat first | exact trivial | refine aR ?_ | refine aI (by omega) ?_) ⟨(Nat.le_refl _), rfl, (by simp), (fun x hx => by cases hx), hB, hL, h5, hp⟩ ?_
 clear h5 hp hB hL
 rintro K10 k out lv W11 ⟨hk, hv, hol, hob, hB, hL, h5, hp⟩ hK10
 refine Sq fun K12 hK12 => (Sq fun K13 hK13 => (Rg (Pu rfl (Pu rfl (Va (QZ rfl rfl) rfl rfl (Va (Qn (o1 := 0) rfl UR rfl rfl) rfl rfl (Va (Qn (o1 := 5) rfl V4 rfl rfl) rfl rfl ?_)))))))
 refine Va (Qi rfl Qv rfl (hp.cell (k := 5) rfl)) rfl rfl (Va (Xe rfl rfl rfl) rfl rfl (Ni (hK13 ?_)))
 refine WC.cond rfl (fun c14 => ?_) (fun c14 => ?_)
 .
  replace c14 := dT c14
  refine WC.skip (hK12 (Sq fun K15 hK15 => (WC.block (Sq fun K16 hK16 => ?_))))
  have h5i := h5
  refine Rg (Pu rfl (Va (QZ rfl rfl) rfl rfl (Va (Qn (o1 := 0) rfl UR rfl rfl) rfl rfl (Pu rfl ?_))))
  refine Ge (QQ rfl Tryd.func60 rfl rfl rfl (Qck Qb Qa Qd Qc s1 s2 fr (sz : Int) (k : Int) P [.int .i64 gen, .int .i64 (st : Int)] W11 [] (LL.nil _) ((h1.chgL hB hPL).less (fun x hx => by cases hx)) ((h2.chgL hB hPL).less (fun x hx => by cases hx)) hp hfr (by omega) hbd (tabC hB))) rfl rfl ?_
  rintro _ W18 ⟨⟨p, dv, ub, rfl, hdv, hun, hpy, hpl⟩, b17⟩
  replace h5 := h5.below b17
  replace hp := hp.below b17
  replace hB := Vg.thenB hB b17
  replace hL := LL.below hL b17
  refine Pu rfl (Pu rfl (Pu rfl ?_))
  have hlt6 : ∀ {w_ : World} {rs_ : List (List Value)} {D : Nat}, Y5 1 w_ lv rs_ D -> D ≠ W18.heap.size := fun hD => Nat.ne_of_lt (h5.ltD hD)
  refine Ge (Qu rfl ZQ rfl) rfl rfl ?_
  rintro _ W19 ⟨rfl, k20, b21, z22⟩
  have n23 : P ≠ W18.heap.size := Nat.ne_of_lt hp.lt
  have l24 := hB.size
  replace h5 := h5.more b21 (Nat.le_refl _)
  replace hdv := hdv.more b21 (Nat.le_refl _)
  replace hp := hp.below b21
  replace hB := Vg.thenB hB b21
  replace hL := LL.more hL z22
  refine WL.do (Qh (cs' := [.int .i64 p.gen, .int .i64 p.idx, .int .i64 p.mks, dv]) (vs := [.int .i64 p.gen, .int .i64 p.idx, .int .i64 p.mks, dv]) rfl Xu rfl rfl rfl (oC rfl (oC rfl (oC rfl (oC hdv.one Qk)))) k20 rfl (nB rfl) rfl) rfl ?_
  rintro _ W25 ⟨k27, o26⟩
  replace hp := hp.other o26 n23
  clear k20
  replace hdv := hdv.only o26 (.head _)
  replace hB := Vg.only hB o26 (.inr l24)
  replace hL := LL.only hL o26
  replace h5 := h5.otherC o26 (fun D hD => hlt6 hD)
  refine Pu rfl (Ni (hK16 (Sq fun K28 hK28 => (Sq fun K29 hK29 => ?_))))
  cases ub
  .
   refine dM 24 [(some 30, .is (.bool false)), (some 31, .is (.bool true)), (some 32, .is (.bool true)), (some 33, .is (undef)), (some 34, .is (undef)), (some 35, .is (undef)), (some 36, .is (undef)), (some 37, .is (undef)), (some 38, .is (undef)), (some 39, .is (undef)), (some 40, .is (.bool true)), (some 41, .is (.bool true)), (some 42, .is (undef)), (some 43, .is (undef)), (some 44, .is (undef)), (some 45, .is (undef)), (some 46, .is (undef)), (some 47, .is (undef)), (some 48, .is (undef)), (some 49, .is (undef)), (some 50, .is (undef)), (some 51, .is (undef)), (some 52, .is (undef)), (some 53, .is (.bool true))] [[], [0], [1], [2], [3, 2], [2], [5, 2], [6, 2], [7, 2], [4, 8, 2], [2, 9], [10, 2], [11], [12, 11], [13, 11], [14, 11], [11], [11], [17, 11], [18, 11], [19, 11], [16, 20, 11], [15, 21, 11], [11, 22]] (by exact trivial) ?_ ?_
   .
    refine Dc (fun Wd hd => ?_) ?_
    .
     exact Dd (Qt rfl rfl) rfl
    refine Dc (fun Wd hd => ?_) ?_
    .
     exact Dd (XU rfl rfl) rfl
    refine Dc (fun Wd hd => ?_) ?_
    .
     exact Dd (Qt rfl rfl) rfl
    refine Dc (fun Wd hd => ?_) ?_
    .
     exact Dd (Xb rfl) rfl
    refine Dc (fun Wd hd => ?_) ?_
    .
     exact Dd (Xb rfl) rfl
    refine Dc (fun Wd hd => ?_) ?_
    .
     exact Dd (Xb rfl) rfl
    refine Dc (fun Wd hd => ?_) ?_
    .
     exact Dd (Xb rfl) rfl
    refine Dc (fun Wd hd => ?_) ?_
    .
     exact Dd (Xb rfl) rfl
    refine Dc (fun Wd hd => ?_) ?_
    .
     exact Dd (Xb rfl) rfl
    refine Dc (fun Wd hd => ?_) ?_
    .
     exact Dd (Xb rfl) rfl
    refine Dc (fun Wd hd => ?_) ?_
    .
     exact Dd (ZT rfl rfl rfl) rfl
    refine Dc (fun Wd hd => ?_) ?_
    .
     exact Dd (Qt rfl rfl) rfl
    refine Dc (fun Wd hd => ?_) ?_
    .
     exact Dd (Xb rfl) rfl
    refine Dc (fun Wd hd => ?_) ?_
    .
     exact Dd (Xb rfl) rfl
    refine Dc (fun Wd hd => ?_) ?_
    .
     exact Dd (Xb rfl) rfl
    refine Dc (fun Wd hd => ?_) ?_
    .
     exact Dd (Xb rfl) rfl
    refine Dc (fun Wd hd => ?_) ?_
    .
     exact Dd (Xb rfl) rfl
    refine Dc (fun Wd hd => ?_) ?_
    .
     exact Dd (Xb rfl) rfl
    refine Dc (fun Wd hd => ?_) ?_
    .
     exact Dd (Xb rfl) rfl
    refine Dc (fun Wd hd => ?_) ?_
    .
     exact Dd (Xb rfl) rfl
    refine Dc (fun Wd hd => ?_) ?_
    .
     exact Dd (Xb rfl) rfl
    refine Dc (fun Wd hd => ?_) ?_
    .
     exact Dd (Xb rfl) rfl
    refine Dc (fun Wd hd => ?_) ?_
    .
     exact Dd (Xb rfl) rfl
    refine Dc (fun Wd hd => ?_) ?_
    .
     exact Dd (ZT rfl rfl rfl) rfl
    exact trivial
   .
    intro W30 b31
    replace hp := hp.below b31
    replace hB := Vg.thenB hB b31
    refine Ni (hK29 (WC.condT rfl (Sq fun K32 hK32 => (Rg (Pu rfl (Pu rfl (Ni ?_)))))))
    refine hK32 ?_
    exact WC.ret fun a_ ha_ => hQ (UD rfl (.tmp rfl) (.tmp rfl) (.inr ⟨rfl, hv.trans (Qb3 (by omega) (hun.2 rfl)), hp⟩) hB ha_)
  .
   have hpk := hun.1 rfl
   obtain ⟨b33, hb33⟩ : ∃ b, b = (!(decide (p.gen = gen))) := ⟨_, rfl⟩
   refine dM 24 [(some 30, .is (.bool true)), (some 31, .is (.bool false)), (some 32, .is (.bool false)), (some 33, .is (.pointer (some ⟨W18.heap.size, 0, none⟩))), (some 34, .is (.int .i64 p.gen)), (some 35, .is (.pointer (some ⟨P, 0, none⟩))), (some 36, .is (.pointer (some ⟨P, 0, none⟩))), (some 37, .is (.pointer (some ⟨P, 6, none⟩))), (some 38, .is (.int .i64 gen)), (some 39, .is (.bool (!(decide (p.gen = gen))))), (some 40, .is (.bool (!(decide (p.gen = gen))))), (some 41, .is (.bool b33)), (some 42, .is (bif b33 then undef else .pointer (some ⟨W18.heap.size, 2, none⟩))), (some 43, .is (bif b33 then undef else .int .i64 p.mks)), (some 44, .is (bif b33 then undef else .int .i64 (bits BinOp.and .i64 p.mks 1))), (some 45, .is (bif b33 then undef else .bool (!(decide (bits BinOp.and .i64 p.mks 1 = 0))))), (some 46, .is (bif b33 then undef else .int .i64 (k : Int))), (some 47, .is (bif b33 then undef else .pointer (some ⟨P, 0, none⟩))), (some 48, .is (bif b33 then undef else .pointer (some ⟨P, 0, none⟩))), (some 49, .is (bif b33 then undef else .pointer (some ⟨P, 7, none⟩))), (some 50, .is (bif b33 then undef else .int .i64 (st : Int))), (some 51, .is (bif b33 then undef else .bool (decide ((k : Int) = (st : Int))))), (some 52, .is (bif b33 then undef else .bool (!(decide ((!(decide (bits BinOp.and .i64 p.mks 1 = 0))) = (decide ((k : Int) = (st : Int)))))))), (some 53, .is (.bool (b33 || (!(decide ((!(decide (bits BinOp.and .i64 p.mks 1 = 0))) = (decide ((k : Int) = (st : Int)))))))))] [[], [0], [1], [2], [3, 2], [2], [5, 2], [6, 2], [7, 2], [4, 8, 2], [2, 9], [10, 2], [11], [12, 11], [13, 11], [14, 11], [11], [11], [17, 11], [18, 11], [19, 11], [16, 20, 11], [15, 21, 11], [11, 22]] (by exact trivial) ?_ ?_
   .
    refine Dc (fun Wd hd => ?_) ?_
    .
     exact Dd (Qt rfl rfl) rfl
    refine Dc (fun Wd hd => ?_) ?_
    .
     exact Dd (XU rfl rfl) rfl
    refine Dc (fun Wd hd => ?_) ?_
    .
     exact Dd (Qt rfl rfl) rfl
    refine Dc (fun Wd hd => ?_) ?_
    .
     exact Dd (Qn (o1 := 0) rfl Yu rfl rfl) rfl
    refine Dc (fun Wd hd => ?_) ?_
    .
     have k27 := k27.below hd
     exact Dd (Qi rfl Qv rfl (k27.cell (k := 0) rfl)) rfl
    refine Dc (fun Wd hd => ?_) ?_
    .
     exact Dd (Qt rfl rfl) rfl
    refine Dc (fun Wd hd => ?_) ?_
    .
     exact Dd (QZ rfl rfl) rfl
    refine Dc (fun Wd hd => ?_) ?_
    .
     exact Dd (Qn (o1 := 6) rfl Gz rfl rfl) rfl
    refine Dc (fun Wd hd => ?_) ?_
    .
     have hp := hp.below hd
     exact Dd (Qi rfl Qv rfl (hp.cell (k := 6) rfl)) rfl
    refine Dc (fun Wd hd => ?_) ?_
    .
     exact Dd (Xl rfl rfl rfl) rfl
    refine Dc (fun Wd hd => ?_) ?_
    .
     exact Dd (ZT rfl rfl rfl) rfl
    refine Dc (fun Wd hd => ?_) ?_
    .
     exact DV.dr (Qt rfl rfl) ⟨Below.refl _ _, by rw [hb33]; rfl⟩
    refine Dc (fun Wd hd => ?_) ?_
    .
     cases b33
     .
      exact Dd (Qn (o1 := 2) rfl Zz rfl rfl) rfl
     .
      exact Dd (Xb rfl) rfl
    refine Dc (fun Wd hd => ?_) ?_
    .
     cases b33
     .
      have k27 := k27.below hd
      exact Dd (Qi rfl Qv rfl (k27.cell (k := 2) rfl)) rfl
     .
      exact Dd (Xb rfl) rfl
    refine Dc (fun Wd hd => ?_) ?_
    .
     cases b33
     .
      exact Dd (VP (r := bits BinOp.and .i64 p.mks 1) rfl rfl rfl rfl) rfl
     .
      exact Dd (Xb rfl) rfl
    refine Dc (fun Wd hd => ?_) ?_
    .
     cases b33
     .
      exact Dd (Xl rfl rfl rfl) rfl
     .
      exact Dd (Xb rfl) rfl
    refine Dc (fun Wd hd => ?_) ?_
    .
     cases b33
     .
      exact Dd (Qt rfl rfl) rfl
     .
      exact Dd (Xb rfl) rfl
    refine Dc (fun Wd hd => ?_) ?_
    .
     cases b33
     .
      exact Dd (Qt rfl rfl) rfl
     .
      exact Dd (Xb rfl) rfl
    refine Dc (fun Wd hd => ?_) ?_
    .
     cases b33
     .
      exact Dd (QZ rfl rfl) rfl
     .
      exact Dd (Xb rfl) rfl
    refine Dc (fun Wd hd => ?_) ?_
    .
     cases b33
     .
      exact Dd (Qn (o1 := 7) rfl ZF rfl rfl) rfl
     .
      exact Dd (Xb rfl) rfl
    refine Dc (fun Wd hd => ?_) ?_
    .
     cases b33
     .
      have hp := hp.below hd
      exact Dd (Qi rfl Qv rfl (hp.cell (k := 7) rfl)) rfl
     .
      exact Dd (Xb rfl) rfl
    refine Dc (fun Wd hd => ?_) ?_
    .
     cases b33
     .
      exact Dd (Zw rfl rfl rfl) rfl
     .
      exact Dd (Xb rfl) rfl
    refine Dc (fun Wd hd => ?_) ?_
    .
     cases b33
     .
      exact Dd (D7 rfl Tryd.underlying4 rfl rfl) rfl
     .
      exact Dd (Xb rfl) rfl
    refine Dc (fun Wd hd => ?_) ?_
    .
     cases b33
     .
      exact Dd (ZT rfl rfl rfl) rfl
     .
      exact Dd (ZT rfl rfl rfl) rfl
    exact trivial
   .
    intro W34 b35
    replace hdv := hdv.below b35
    replace h5 := h5.below b35
    replace hp := hp.below b35
    replace k27 := k27.below b35
    replace hB := Vg.thenB hB b35
    replace hL := LL.below hL b35
    refine Ni (hK29 ?_)
    refine WC.cond rfl (fun c36 => ?_) (fun c36 => ?_)
    .
     refine Sq fun K37 hK37 => (Rg (Pu rfl (Pu rfl (Ni (hK37 ?_)))))
     exact WC.ret fun a_ ha_ => hQ (UD rfl (.tmp rfl) (.tmp rfl) (.inr ⟨rfl, hv.trans (Qb5 (by omega) hpk (QdJ (by assumption) (by assumption))), hp⟩) hB ha_)
    .
     obtain ⟨g38, g39⟩ := Qaj c36
     replace g38 := ZY g38
     replace g39 := Q2 g39
     replace g39 := dT g39
     refine WC.skip (hK28 (Sq fun K40 hK40 => ?_))
     have hgg : ¬ (¬ p.gen = gen \/ ¬ b1 p.mks = decide (k = st)) := QeH (by assumption) (by assumption)
     refine Rg (Pu rfl (Va (Qn (o1 := 3) rfl Zy rfl rfl) rfl rfl (Va (Qi rfl XR rfl (k27.cell (k := 3) rfl)) rfl rfl ?_)))
     refine Ge (Qe9 (base := w.heap.size) (news := Vw p.dat) (Cs := [(W18.heap.size, Yo (p, dv))]) rfl X2 rfl rfl h5 hdv (fun r hr u hu => by obtain ⟨x, _, rfl⟩ := List.mem_map.1 hr; rw [List.mem_singleton.1 hu]; rfl) (by rw [List.length_map, List.length_map]; simp [maxLen]; omega) (by rw [List.length_map, List.length_map]; omega) hB.size (fun c hc => by rw [List.mem_singleton.1 hc]; exact ⟨k27, fun D hD => (hlt6 hD).symm⟩)) rfl rfl ?_
     rintro u41 W42 ⟨h6, b43, hk44⟩
     replace h6 : Zv 1 w.heap.size (Vw (out ++ p.dat)) u41 W42 := by unfold Vw; rw [List.map_append]; exact h6
     replace k27 := hk44 _ (.head _)
     replace hp := Xc.belowB hp b43 hPlt
     replace hB := Vg.trB hB b43
     replace hL := hL0.chg hB
     refine Pu rfl (Ni (hK40 (Sq fun K45 hK45 => (Sq fun K46 hK46 => (Rg (Va (Qn (o1 := 2) rfl Zz rfl rfl) rfl rfl (Va (Qi rfl Qv rfl (k27.cell (k := 2) rfl)) rfl rfl ?_)))))))
     refine Va (VP (r := bits BinOp.and .i64 p.mks 2) rfl rfl rfl rfl) rfl rfl (Va (Xl rfl rfl rfl) rfl rfl (Ni (hK46 ?_)))
     refine WC.cond rfl (fun c47 => ?_) (fun c47 => ?_)
     .
      replace c47 := Q4 c47
      replace c47 := dF c47
      refine Sq fun K48 hK48 => (Sq fun K49 hK49 => (Rg (Pu rfl (Pu rfl (Va (QZ rfl rfl) rfl rfl (Va (Qn (o1 := 7) rfl ZF rfl rfl) rfl rfl (Va (Qi rfl Qv rfl (hp.cell (k := 7) rfl)) rfl rfl ?_)))))))
      refine Va (XL rfl rfl rfl) rfl rfl (Pu rfl ?_)
      refine WL.split 68 rfl (fun g50 => ?_) (fun g50 => ?_)
      .
       replace g50 := dT g50
       refine Va (Qn (o1 := 3) rfl Zy rfl rfl) rfl rfl (Va (Qi rfl XR rfl (k27.cell (k := 3) rfl)) rfl rfl (Va (ZX (Ym rfl QH rfl hdv) (show _ = Value.int .i64 (p.dat.length : Int) by rw [List.length_map])) rfl rfl (Va (Zw rfl rfl rfl) rfl rfl (Pu rfl (Ni (hK49 ?_))))))
       refine WC.cond rfl (fun c51 => ?_) (fun c51 => ?_)
       .
        replace c51 := dT c51
        refine Sq fun K52 hK52 => (Rg (Pu rfl (Pu rfl (Ni (hK52 ?_)))))
        exact WC.ret fun a_ ha_ => hQ (UD rfl (.tmp rfl) (.tmp rfl) (.inr ⟨rfl, hv.trans (QeJ (by omega) hpk hgg (by first | assumption | simp_all) (by first | omega | (constructor <;> omega) | simp_all)), hp⟩) hB ha_)
       .
        replace c51 := dF c51
        refine WC.skip (hK48 (Sq fun K53 hK53 => (Rg (Pu rfl (Pu rfl (Va (QR (r := (k : Int) + 1) rfl rfl rfl (Qm (by omega))) rfl rfl (Va (QZ rfl rfl) rfl rfl ?_)))))))
        refine Va (Qn (o1 := 7) rfl ZF rfl rfl) rfl rfl ?_
        refine WL.do (Qh (cs' := [s1, s2, .int .i64 Qd, .bool Qc, .int .i64 fr, .int .i64 (sz : Int), .int .i64 gen, .int .i64 ((k : Int) + 1)]) (vs := [.int .i64 ((k : Int) + 1)]) rfl ZO rfl rfl rfl (oC rfl Qk) hp rfl (nB rfl) rfl) rfl ?_
        rintro _ W54 ⟨k56, o55⟩
        clear hp
        replace hB := Vg.only hB o55 (.inl rfl)
        replace h6 := h6.otherC o55 (fun D hD => by have := h6.geD hD; omega)
        refine Ni (hK53 (Sq fun K57 hK57 => (Rg (Pu rfl (Pu rfl (Pu rfl (Ni ?_)))))))
        refine hK57 ?_
        exact WC.ret fun a_ ha_ => hQ (UD rfl (.tmp rfl) (.tmp rfl) (.inl ⟨out ++ p.dat, k + 1, _, rfl, hv.trans (E2 (by omega) hpk hgg (by first | assumption | simp_all) (by first | omega | simp_all)), h6, k56, (fun x hx => by rcases List.mem_append.1 hx with h_ | h_; exact hob x h_; exact hpy x h_), by omega, by omega, by rw [List.length_append]; omega⟩) hB ha_)
      .
       replace g50 := dF g50
       refine Of rfl (Of rfl (Of rfl (Of rfl (Pu rfl (Ni (hK49 (WC.condF rfl ?_)))))))
       refine WC.skip (hK48 (Sq fun K58 hK58 => (Rg (Pu rfl (Pu rfl (Va (QR (r := (k : Int) + 1) rfl rfl rfl (Qm (by omega))) rfl rfl (Va (QZ rfl rfl) rfl rfl ?_)))))))
       refine Va (Qn (o1 := 7) rfl ZF rfl rfl) rfl rfl ?_
       refine WL.do (Qh (cs' := [s1, s2, .int .i64 Qd, .bool Qc, .int .i64 fr, .int .i64 (sz : Int), .int .i64 gen, .int .i64 ((k : Int) + 1)]) (vs := [.int .i64 ((k : Int) + 1)]) rfl ZO rfl rfl rfl (oC rfl Qk) hp rfl (nB rfl) rfl) rfl ?_
       rintro _ W59 ⟨k61, o60⟩
       clear hp
       replace hB := Vg.only hB o60 (.inl rfl)
       replace h6 := h6.otherC o60 (fun D hD => by have := h6.geD hD; omega)
       refine Ni (hK58 (Sq fun K62 hK62 => (Rg (Pu rfl (Pu rfl (Pu rfl (Ni ?_)))))))
       refine hK62 ?_
       exact WC.ret fun a_ ha_ => hQ (UD rfl (.tmp rfl) (.tmp rfl) (.inl ⟨out ++ p.dat, k + 1, _, rfl, hv.trans (E2 (by omega) hpk hgg (by first | assumption | simp_all) (by first | omega | simp_all)), h6, k61, (fun x hx => by rcases List.mem_append.1 hx with h_ | h_; exact hob x h_; exact hpy x h_), by omega, by omega, by rw [List.length_append]; omega⟩) hB ha_)
     .
      replace c47 := Q2 c47
      replace c47 := dT c47
      refine WC.skip (hK45 (Sq fun K63 hK63 => (Rg (Va (Qn (o1 := 3) rfl Zy rfl rfl) rfl rfl (Va (Qi rfl XR rfl (k27.cell (k := 3) rfl)) rfl rfl (Va (ZX (Ym rfl QH rfl hdv) (show _ = Value.int .i64 (p.dat.length : Int) by rw [List.length_map])) rfl rfl (Va (Xl rfl rfl rfl) rfl rfl ?_)))))))
      refine Ni (hK63 ?_)
      refine WC.cond rfl (fun c64 => ?_) (fun c64 => ?_)
      .
       replace c64 := Q4 c64
       replace c64 := dF c64
       refine Sq fun K65 hK65 => (Rg (Pu rfl (Pu rfl (Ni (hK65 ?_)))))
       exact WC.ret fun a_ ha_ => hQ (UD rfl (.tmp rfl) (.tmp rfl) (.inr ⟨rfl, hv.trans (QeI (by omega) hpk hgg (by first | assumption | simp_all) (by first | omega | simp_all)), hp⟩) hB ha_)
      .
       replace c64 := Q2 c64
       replace c64 := dT c64
       refine WC.skip (hK15 (Rg (Pu rfl (Va (QR (r := (k : Int) + 1) rfl rfl rfl (Qm (by omega))) rfl rfl (Pu rfl (Ni ?_))))))
       exact hK10 (k + 1) (out ++ p.dat) u41 ⟨(by omega), (hv.trans (by rw [show sz - k + 1 = (sz - (k + 1) + 1) + 1 by omega]; exact Qb6 (by omega) hpk hgg (by first | assumption | simp_all) (by first | omega | simp_all))), (by rw [List.length_append]; omega), (fun x hx => by rcases List.mem_append.1 hx with h_ | h_; exact hob x h_; exact hpy x h_), hB, hL, h6, hp⟩ (by omega) (by repeat first | exact trivial | refine aR ?_ | refine aI (by omega) ?_)
 .
  replace c14 := dF c14
  refine WC.exit ?_
  refine hK8 (Sq fun K66 hK66 => (Rg (Pu rfl (Pu rfl (Ni (hK66 ?_))))))
  exact WC.ret fun a_ ha_ => hQ (UD rfl (.tmp rfl) (.tmp rfl) (.inr ⟨rfl, hv.trans (Ec (by omega)), hp⟩) hB ha_)

end Go.Proofs.YtfachlmgdlnpoaaDoor
