/- The rounds of sha: all. -/
import Derived.Test.YtohnicmacmkapaaDoorShaF
import Derived.Test.YtohnicmacmkapaaDoorLaws
namespace Go.Proofs.YtohnicmacmkapaaDoor
open Go.RowKit
set_option linter.unusedVariables false
set_option maxRecDepth 8000

theorem bytes_app' {a b : List Int} (ha : ∀ x ∈ a, 0 ≤ x ∧ x ≤ 255) (hb : ∀ x ∈ b, 0 ≤ x ∧ x ≤ 255) : Bytes (a ++ b) := fun x hx => (List.mem_append.1 hx).elim (ha x) (hb x)
/-- A slice of slices of bytes. -/
def RdP (w : World) (v : Value) (ps : List (Value × List Int)) : Prop :=
  ∃ a cap, v = .slice a ps.length cap ∧ (ps.length ≤ cap ∧ cap ≤ maxLen) ∧ (∀ k (hk : k < ps.length), ∃ x o, a = some ⟨x, o, none⟩ ∧ w.cell? ⟨x, o + k, none⟩ = some (ps[k]'hk).1) ∧ ∀ p ∈ ps, RdI .u8 w p.1 p.2 ∧ Bytes p.2
/-- All bytes of so many parts. -/
def cat (ps : List (Value × List Int)) : List Int := (ps.map (·.2)).flatten
theorem cat_take_succ {ps : List (Value × List Int)} {i : Nat} (h : i < ps.length) : cat (ps.take (i + 1)) = cat (ps.take i) ++ (ps[i]'h).2 := by
  have e : ps.take (i + 1) = ps.take i ++ [ps[i]'h] := by rw [List.take_add_one, List.getElem?_eq_getElem h]; rfl
  rw [e]
  unfold cat
  rw [List.map_append, List.flatten_append]
  simp only [List.map_cons, List.map_nil, List.flatten_cons, List.flatten_nil, List.append_nil]
theorem cat_take_len (ps : List (Value × List Int)) (i : Nat) : (cat (ps.take i)).length ≤ (cat ps).length := by
  have h : cat ps = cat (ps.take i) ++ cat (ps.drop i) := by
    rw [cat, cat, cat, ← List.flatten_append, ← List.map_append, List.take_append_drop]
  rw [h, List.length_append]
  omega
theorem cat_bytes {ps : List (Value × List Int)} (h : ∀ p ∈ ps, Bytes p.2) : Bytes (cat ps) := fun x hx => by
  obtain ⟨l, hl, hxl⟩ := List.mem_flatten.1 hx
  obtain ⟨p, hp, rfl⟩ := List.mem_map.1 hl
  exact h p hp x hxl
theorem own_zero {w : World} {base e n g cap : Nat} {xs : List Value} (h : w.ownsRow base e 1 (.slice (some ⟨g, 0, none⟩) n cap) n xs) : w.ownsRow base e 1 (.slice (some ⟨g, 0, none⟩) 0 cap) 0 [] := by
  obtain ⟨-, h2⟩ := h
  rcases h2 with ⟨h3, -⟩ | ⟨g', cap', cur, e', hb, hh, hn, hm, hs, ht⟩
  · cases h3
  · cases e'
    exact ⟨rfl, .inr ⟨g, cap, cur, rfl, hb, hh, Nat.zero_le _, hm, hs, by simp⟩⟩
theorem grown_on {a b c : World} {B g : Nat} (h : a.grownBy b (some B)) (k : b.grownBy c (some g)) (hg : a.heap.size ≤ g) : a.grownBy c (some B) :=
  ⟨k.os.trans h.os, k.tape.trans h.tape, k.output.trans h.output, Nat.le_trans h.size k.size, fun i hi hne => (k.block i (Nat.lt_of_lt_of_le hi h.size) (by simp; omega)).trans (h.block i hi hne)⟩
theorem RdI.cut {w : World} {x o n c cap : Nat} {zs : List Int} (h : RdI .u8 w (.slice (some ⟨x, o, none⟩) n cap) zs) (hc : c ≤ zs.length) (q : Option Addr) (hq : c = cap ∨ q = some ⟨x, o + c, none⟩) (hq2 : c = cap → ∃ y, q = some y) : RdI .u8 w (.slice q (n - c) (cap - c)) (zs.drop c) := by
  obtain ⟨a, cap', e, h1, h2, h3, h4⟩ := h
  cases e
  refine ⟨q, cap - c, by simp, by simp; omega, by omega, fun k hk => ?_, fun e => ?_⟩
  · have hk' : c + k < zs.length := by simp at hk; omega
    obtain ⟨x', o', e', hc'⟩ := h3 (c + k) hk'
    cases e'
    rcases hq with rfl | rfl
    · omega
    · exact ⟨x, o + c, rfl, by rw [Nat.add_assoc, hc', at0_drop]⟩
  · subst e
    rcases hq with hq | hq
    · omega
    · cases hq
theorem absorb64_app (st D E : List Int) : ∀ k, k * 128 ≤ D.length → absorb64 st (D ++ E) k = absorb64 st D k
  | 0, _ => rfl
  | k + 1, h => by
    show take64 (absorb64 st (D ++ E) k) (((D ++ E).drop (k * 128)).take 128) = take64 (absorb64 st D k) ((D.drop (k * 128)).take 128)
    rw [absorb64_app st D E k (by omega), List.drop_append_of_le_length (by omega), List.take_append_of_le_length (by simp; omega)]
/-- The state and what is held behind so many bytes. -/
def fed64 (st D : List Int) : List Int := absorb64 st D (D.length / 128)
def held64 (D : List Int) : List Int := D.drop (D.length / 128 * 128)
theorem held64_len (D : List Int) : (held64 D).length = D.length % 128 := by simp [held64]; omega
theorem feed64_low (st D E : List Int) (h : D.length % 128 + E.length < 128) : fed64 st (D ++ E) = fed64 st D ∧ held64 (D ++ E) = held64 D ++ E := by
  have e : (D ++ E).length / 128 = D.length / 128 := by rw [List.length_append]; omega
  unfold fed64 held64
  rw [e]
  exact ⟨absorb64_app st D E _ (by omega), List.drop_append_of_le_length (by omega)⟩
theorem feed64_full (st D E : List Int) (h : D.length % 128 + E.length = 128) : fed64 st (D ++ E) = take64 (fed64 st D) (held64 D ++ E) ∧ held64 (D ++ E) = [] := by
  have e : (D ++ E).length / 128 = D.length / 128 + 1 := by rw [List.length_append]; omega
  unfold fed64 held64
  rw [e]
  constructor
  · show take64 (absorb64 st (D ++ E) (D.length / 128)) (((D ++ E).drop (D.length / 128 * 128)).take 128) = _
    rw [absorb64_app st D E _ (by omega), List.drop_append_of_le_length (by omega), List.take_of_length_le (by simp; omega)]
  · rw [List.drop_eq_nil_iff, List.length_append]; omega
theorem infoB64 : ∃ i, Tryd.prog.info? 5 = some i ∧ i.zero = some (.int .u8 0) ∧ i.size = 1 ∧ i.bytes = 1 := by
  have h : (Tryd.prog.info? 5).map (fun i => (i.zero, i.size, i.bytes)) = some (some (.int .u8 0), 1, 1) := by kernel_rfl
  obtain ⟨i, hi, hz⟩ := Option.map_eq_some_iff.1 h
  simp only [Prod.mk.injEq] at hz
  exact ⟨i, hi, hz.1, hz.2.1, hz.2.2⟩
set_option maxHeartbeats 4000000 in
theorem all64_v (w0 w : World) (hb0 : Below w0.heap.size w0 w) (B : Nat) (st : List Int) (hr : RS64 w B st) (hBn : w0.heap.size ≤ B) (hT : TabS w0) (v : Value) (ps : List (Value × List Int)) (hp : RdP w0 v ps) (hlen : (cat ps).length < 1099511627776) :
    Calls Tryd.prog 33 #[.pointer (some ⟨B, 0, none⟩), v] w fun e w' => (∃ v, e = .returned v) ∧ RS64 w' B (absorb64 (fed64 st (cat ps)) (padS (padB64 (held64 (cat ps)) ((cat ps).length % 128)) ((cat ps).length : Int) 8) (padN64 ((cat ps).length % 128) / 128)) ∧ w.grownBy w' (some B) := by
  obtain ⟨j0, hj, hy0, hy1, hy2⟩ := infoB64
  obtain ⟨a, cap, rfl, ⟨hpc, hcm⟩, hcell, hrd⟩ := hp
  have hpl : (ps.length : Int) ≤ 9223372036854775807 := by unfold maxLen at hcm; omega
  clear hpc hcm
  have hB := hr.lt
  have hwd := hr.width
  have hs0 := hb0.size
  replace hcell := Lib.hid hcell
  replace hrd := Lib.hid hrd
  have HBS := fun W => blockSize_v 64 W (by omega)
  go_enter Tryd.func33, Tryd.ntmps33
  go_wp2_with (first
    | (go_at_call 35; (with_reducible refine (HBS _).mono ?_); rintro e w9 ⟨rfl, rfl⟩)
    | (with_reducible refine at_n 16 ?_; refine wpList_make_own _ rfl _ _ 25 rfl w9.heap.size 5 j0 (.int .u8 0) 1 Tryd.underlying25 hj hy0 hy1 .i64 .i64 128 128 rfl rfl (by omega) (by rw [hy2]; omega) (by unfold maxLen; omega) (Nat.le_refl _) ?_; intro w1 hown1 hgr1))
  have hg1 : w9.grownBy w1 (some B) := ⟨hgr1.os, hgr1.tape, hgr1.output, hgr1.size, fun k hk _ => hgr1.block k hk (by simp)⟩
  have hr1 : RS64 w1 B st := hr.but hgr1 (by simp)
  clear hgr1 hwd
  go_loopw [5, 6, 19] (fun v5 v6 v19 wr => ∃ (i : Nat), i ≤ ps.length ∧ v19 = .int .i64 i ∧ v6 = .int .i64 ((cat (ps.take i)).length : Nat) ∧ v5 = .slice (some ⟨w9.heap.size, 0, none⟩) ((cat (ps.take i)).length % 128) 128 ∧ RS64 wr B (fed64 st (cat (ps.take i))) ∧ wr.ownsRow w9.heap.size 5 1 (.slice (some ⟨w9.heap.size, 0, none⟩) ((cat (ps.take i)).length % 128) 128) ((cat (ps.take i)).length % 128) ((held64 (cat (ps.take i))).map (Value.int .u8)) ∧ w9.grownBy wr (some B)) (fun _ _ i _ => ps.length - (intOf i).toNat)
  case atStart =>
    have z0 : cat (ps.take 0) = [] := by rw [List.take_zero]; rfl
    have z1 : fed64 st [] = st := by simp [fed64, absorb64]
    have z2 : held64 [] = [] := by simp [held64]
    refine ⟨0, by omega, rfl, by rw [z0]; rfl, by rw [z0]; rfl, by rw [z0, z1]; exact hr1, by rw [z0, z2]; exact hown1, hg1⟩
  case round =>
    clear hr1 hown1 hg1
    obtain ⟨i, hi, rfl, rfl, rfl, hr1, hown1, hg1⟩ := hrel
    have hB1 : Below w0.heap.size w0 wr := hb0.grown hg1 hs0 (fun k hk => by cases hk; exact hBn)
    by_cases hlt : i < ps.length
    · obtain ⟨x, o, rfl, hc⟩ := hcell.out i hlt
      obtain ⟨hrp, hbz⟩ := hrd.out _ (List.getElem_mem hlt)
      have hct := cat_take_succ hlt
      have hle := cat_take_len ps (i + 1)
      rw [hct, List.length_append] at hle
      have hltI : (i : Int) < (ps.length : Int) := by omega
      have hltH := Lib.hid hlt
      have hbD : RowKit.Hid (Bytes (cat (ps.take i))) := Lib.hid (cat_bytes fun p hp => (hrd.out p (List.mem_of_mem_take hp)).2)
      generalize (ps[i]'hlt).2 = zs at *
      generalize (ps[i]'hlt).1 = pv at *
      generalize hD : cat (ps.take i) = D at *
      replace hct := Lib.hid hct
      replace hD := Lib.hid hD
      replace hc : wr.cell? ⟨x, o + i, none⟩ = some pv := by rw [hB1.cell (World.block_lt_of_cell? w0 _ hc)]; exact hc
      obtain ⟨ap, capp, rfl, hp1, hp2, hp3, hp4⟩ := hrp
      have hrp : RdI .u8 w0 (.slice ap zs.length capp) zs := ⟨ap, capp, rfl, hp1, hp2, hp3, hp4⟩
      replace hp3 := Lib.hid hp3
      replace hrp := Lib.hid hrp
      have hDn : ((D.length : Nat) : Int) < 1099511627776 := by omega
      have hzn : ((zs.length : Nat) : Int) < 1099511627776 := by omega
      have hDl : (D.length : Int) + (zs.length : Int) < 1099511627776 := by omega
      clear hp4 hle
      go_wp2
      go_loopw [5, 8] (fun v5 v8 wq => ∃ (E rest : List Int), zs = E ++ rest ∧ RdI .u8 w0 v8 rest ∧ v5 = .slice (some ⟨w9.heap.size, 0, none⟩) ((D ++ E).length % 128) 128 ∧ RS64 wq B (fed64 st (D ++ E)) ∧ wq.ownsRow w9.heap.size 5 1 (.slice (some ⟨w9.heap.size, 0, none⟩) ((D ++ E).length % 128) 128) ((D ++ E).length % 128) ((held64 (D ++ E)).map (Value.int .u8)) ∧ w9.grownBy wq (some B)) (fun _ v8 _ => match v8 with | .slice _ n _ => n | _ => 0)
      case atStart => exact ⟨[], zs, rfl, hrp.out, by rw [List.append_nil], by rw [List.append_nil]; exact hr1, by rw [List.append_nil]; exact hown1, hg1⟩
      case round =>
        clear hr1 hown1 hg1 hB1 hc
        obtain ⟨E, rest, hz, hrq, rfl, hr1, hown1, hg1⟩ := hrel
        have hB1 := hb0.grown hg1 hs0 (fun k hk => by cases hk; exact hBn)
        have hzl : zs.length = E.length + rest.length := by rw [hz, List.length_append]
        have hFl : (D ++ E).length = D.length + E.length := List.length_append
        have hbF' : Bytes (D ++ E) := fun x hx => by
          rcases List.mem_append.1 hx with h | h
          · exact hbD.out x h
          · exact hbz x (by rw [hz]; simp [h])
        have hbr : Bytes rest := fun x hx => hbz x (by rw [hz]; simp [hx])
        obtain ⟨aq, capq, rfl, q1, q2, q3, q4⟩ := hrq
        have hrq : RdI .u8 w0 (.slice aq rest.length capq) rest := ⟨aq, capq, rfl, q1, q2, q3, q4⟩
        replace hrq := Lib.hid hrq
        replace q3 := Lib.hid q3
        by_cases hr0 : 0 < rest.length
        · obtain ⟨y, oy, rfl, -⟩ := q3.out 0 hr0
          have hn := Nat.mod_lt (D ++ E).length (show 0 < 128 by decide)
          have hhl := held64_len (D ++ E)
          have hrI : (0 : Int) < (rest.length : Int) := by omega
          replace hz := Lib.hid hz
          replace hzl := Lib.hid hzl
          replace hFl := Lib.hid hFl
          generalize hF : D ++ E = F at *
          have hbF := Lib.hid hbF'
          clear hbF'
          replace hF := Lib.hid hF
          generalize hnn : F.length % 128 = n at *
          replace hnn := Lib.hid hnn
          obtain ⟨c, hcd⟩ : ∃ c, c = if n + rest.length < 128 then rest.length else 128 - n := ⟨_, rfl⟩
          have hc0 : 0 < c ∧ c ≤ rest.length ∧ n + c ≤ 128 ∧ (n + c < 128 → c = rest.length) := by split at hcd <;> omega
          have hmin : min ((128 : Int) - (n : Int)) (rest.length : Int) = (c : Int) := by split at hcd <;> omega
          obtain ⟨hc1, hc2, hc3, hc4⟩ := hc0
          have hcI : (c : Int) ≤ (rest.length : Int) := by omega
          have hcI0 : (0 : Int) ≤ (c : Int) := by omega
          have hnw : ((rest.take c).map (Value.int .u8)).length = c * 1 := by simp [hc2]
          have hcw : ∀ j u, ((rest.take c).map (Value.int .u8))[j]? = some u → wr.cell? ((⟨y, oy, none⟩ : Addr).add j) = some u := fun j u hj => by
            have hjc : j < c := by
              have := (List.getElem?_eq_some_iff.1 hj).1
              rw [hnw] at this
              omega
            obtain ⟨y', oy', e, hcy⟩ := q3.out j (by omega)
            cases e
            rw [Addr.add_lit, hB1.cell (World.block_lt_of_cell? w0 _ hcy), hcy, ← hj]
            simp [hjc, at0, show j < rest.length by omega]
          have hone : ∀ u ∈ (rest.take c).map (Value.int .u8), u.oneCell' = true := by
            intro u hu
            obtain ⟨z, -, rfl⟩ := List.mem_map.1 hu
            rfl
          replace hnw := Lib.hid hnw
          replace hcw := Lib.hid hcw
          replace hone := Lib.hid hone
          replace hcd := Lib.hid hcd
          replace hc4 := Lib.hid hc4
          clear q4 hzn hDn hDl
          have hG : D ++ (E ++ rest.take c) = F ++ rest.take c := by rw [← List.append_assoc, hF.out]
          have hzc : zs = (E ++ rest.take c) ++ rest.drop c := by rw [List.append_assoc, List.take_append_drop]; exact hz.out
          have hXl : (rest.take c).length = c := by simp [hc2]
          have hBB : B ≠ w9.heap.size := by omega
          have hgB2 : ∀ w2, wr.grownBy w2 (some w9.heap.size) → w9.grownBy w2 (some B) := fun w2 hg2 => grown_on hg1 hg2 (Nat.le_refl _)
          have hTt := hT.lt
          have hTsq : 0 ≠ B := by omega
          have hTcu : 3 ≠ B := by omega
          have hcut : RdI .u8 w0 (.slice (if capq = c then some ⟨y, oy, none⟩ else some ⟨y, oy + c, none⟩) (rest.length - c) (capq - c)) (rest.drop c) := by
            by_cases e : capq = c
            · rw [if_pos e]; exact RdI.cut hrq.out hc2 (some ⟨y, oy, none⟩) (.inl e.symm) (fun _ => ⟨_, rfl⟩)
            · rw [if_neg e]; exact RdI.cut hrq.out hc2 (some ⟨y, oy + c, none⟩) (.inr rfl) (fun _ => ⟨_, rfl⟩)
          replace hG := Lib.hid hG
          replace hzc := Lib.hid hzc
          replace hXl := Lib.hid hXl
          replace hgB2 := Lib.hid hgB2
          replace hcut := Lib.hid hcut
          clear hz
          by_cases hful : n + c = 128
          · have hfI : ((n : Nat) : Int) + ((c : Nat) : Int) = 128 := by omega
            have hff := feed64_full st F (rest.take c) (by rw [hnn.out, hXl.out, hful])
            have hvl : (held64 F ++ rest.take c).length = 128 := by rw [List.length_append, hhl, hXl.out, hful]
            have hGl : (F ++ rest.take c).length % 128 = 0 := by rw [List.length_append, hXl.out]; have := hnn.out; omega
            have hvb : Bytes (held64 F ++ rest.take c) := bytes_app' (fun x hx => ?hb1) (fun x hx => hbr x (List.mem_of_mem_take hx))
            case hb1 => exact hbF.out x (List.mem_of_mem_drop hx)
            obtain ⟨hff1, hff2⟩ := hff
            replace hff1 := Lib.hid hff1
            replace hff2 := Lib.hid hff2
            replace hvb := Lib.hid hvb
            replace hGl := Lib.hid hGl
            replace hvl := Lib.hid hvl
            go_wp2_with (first
              | (with_reducible refine at_n 41 ?_; refine wpList_append_fits _ rfl _ _ 25 rfl w9.heap.size 5 j0 1 Tryd.underlying25 hj hy1 w9.heap.size n 128 _ rfl hown1 ⟨y, oy, none⟩ c capq _ rfl hnw.out hcw.out hone.out hc3 ?_; intro w2 hown2 hg2; rw [hful, ← List.map_append] at hown2; have hr2 := hr1.but hg2 (by simpa using hBB); have hgg2 := hgB2.out _ hg2; have hT2 : TabS w2 := hT.below (hb0.grown hgg2 hs0 (fun k hk => by cases hk; exact hBn)); have hv2 := RdI.of_own hown2; have HT := take64_v w2 B _ hr2 hT2 hTsq hTcu _ _ hv2 hvb.out hvl.out)
              | (go_at_call 43; (with_reducible refine HT.mono ?_); rintro e w3 ⟨⟨v9, rfl⟩, hr3, hg3⟩; have hown3 := own_zero (hown2.kept hg3 (.inr (by simpa [Value.ownBlock] using fun e => hBB e.symm))); have hgg3 := grown_then hgg2 hg3))
            refine ⟨⟨E ++ rest.take c, rest.drop c, hzc.out, hcut.out, by rw [hG.out, hGl.out], ?_, ?_, hgg3⟩, by show rest.length - c < rest.length; omega⟩
            · rw [hG.out, hff1.out]; exact hr3
            · rw [hG.out, hff2.out, hGl.out]; exact hown3
          · have hneI : ¬ (((n : Nat) : Int) + ((c : Nat) : Int) = 128) := by omega
            have hff := feed64_low st F (rest.take c) (by rw [hnn.out, hXl.out]; omega)
            have hGl : (F ++ rest.take c).length % 128 = n + c := by rw [List.length_append, hXl.out]; have := hnn.out; omega
            obtain ⟨hff1, hff2⟩ := hff
            replace hff1 := Lib.hid hff1
            replace hff2 := Lib.hid hff2
            replace hGl := Lib.hid hGl
            go_wp2_with (first
              | (with_reducible refine at_n 41 ?_; refine wpList_append_fits _ rfl _ _ 25 rfl w9.heap.size 5 j0 1 Tryd.underlying25 hj hy1 w9.heap.size n 128 _ rfl hown1 ⟨y, oy, none⟩ c capq _ rfl hnw.out hcw.out hone.out hc3 ?_; intro w2 hown2 hg2; rw [← List.map_append] at hown2; have hr2 := hr1.but hg2 (by simpa using hBB); have hgg2 := hgB2.out _ hg2))
            refine ⟨⟨E ++ rest.take c, rest.drop c, hzc.out, hcut.out, by rw [hG.out, hGl.out], ?_, ?_, hgg2⟩, by show rest.length - c < rest.length; omega⟩
            · rw [hG.out, hff1.out]; exact hr2
            · rw [hG.out, hff2.out, hGl.out]; exact hown2
        · have hre : rest = [] := List.length_eq_zero_iff.1 (by omega)
          subst hre
          rw [List.append_nil] at hz
          subst hz
          clear hrq q3
          go_wp2
          have hlt2 := hltH.out
          refine ⟨⟨i + 1, by omega, by go_num, ?_, by rw [hct.out], by rw [hct.out]; exact hr1, by rw [hct.out]; exact hown1, hg1⟩, by simp only [intOf]; omega⟩
          rw [hct.out, List.length_append, Int.natCast_add]
    · obtain rfl : i = ps.length := by omega
      rw [List.take_length] at hr1 hown1
      rw [List.take_length]
      generalize hD : cat ps = D at *
      have hhl := held64_len D
      have hbD : Bytes (held64 D) := fun x hx => by
        have := cat_bytes fun p hp => (hrd.out p hp).2
        rw [hD] at this
        exact this x (List.mem_of_mem_drop hx)
      have hT1 : TabS wr := hT.below hB1
      have hTt := hT.lt
      have hmod : D.length % 128 < 128 := Nat.mod_lt _ (by decide)
      have hcl : ∀ q, q < D.length % 128 → wr.cell? ⟨w9.heap.size, q, none⟩ = some (.int .u8 (at0 (held64 D) q)) := fun q hq => by
        have h := RdI.of_own hown1
        obtain ⟨a', cap', e', h1, h2, h3, -⟩ := h
        obtain ⟨x', o', e2, hc2⟩ := h3 q (by rw [hhl]; exact hq)
        simp only [Value.slice.injEq] at e'
        obtain ⟨ea, -, -⟩ := e'
        rw [← ea] at e2
        cases e2
        rwa [Nat.zero_add] at hc2
      have HL := last64_v wr B _ hr1 hT1 (by omega) (by omega) w9.heap.size (held64 D) (D.length % 128) hcl hhl hmod hbD (D.length : Int) (by omega) (by omega)
      clear hcl hown1
      go_wp2_with (first
        | (go_at_call 44; (with_reducible refine HL.mono ?_); rintro e w3 ⟨⟨v9, rfl⟩, hr3, hg3⟩))
      refine bodyPost_end (results_none rfl _ _ _) rfl ?_
      rw [hD]
      exact ⟨⟨_, rfl⟩, hr3, grown_then hg1 hg3⟩
theorem absorb32_app (st D E : List Int) : ∀ k, k * 64 ≤ D.length → absorb32 st (D ++ E) k = absorb32 st D k
  | 0, _ => rfl
  | k + 1, h => by
    show take32 (absorb32 st (D ++ E) k) (((D ++ E).drop (k * 64)).take 64) = take32 (absorb32 st D k) ((D.drop (k * 64)).take 64)
    rw [absorb32_app st D E k (by omega), List.drop_append_of_le_length (by omega), List.take_append_of_le_length (by simp; omega)]
/-- The state and what is held behind so many bytes. -/
def fed32 (st D : List Int) : List Int := absorb32 st D (D.length / 64)
def held32 (D : List Int) : List Int := D.drop (D.length / 64 * 64)
theorem held32_len (D : List Int) : (held32 D).length = D.length % 64 := by simp [held32]; omega
theorem feed32_low (st D E : List Int) (h : D.length % 64 + E.length < 64) : fed32 st (D ++ E) = fed32 st D ∧ held32 (D ++ E) = held32 D ++ E := by
  have e : (D ++ E).length / 64 = D.length / 64 := by rw [List.length_append]; omega
  unfold fed32 held32
  rw [e]
  exact ⟨absorb32_app st D E _ (by omega), List.drop_append_of_le_length (by omega)⟩
theorem feed32_full (st D E : List Int) (h : D.length % 64 + E.length = 64) : fed32 st (D ++ E) = take32 (fed32 st D) (held32 D ++ E) ∧ held32 (D ++ E) = [] := by
  have e : (D ++ E).length / 64 = D.length / 64 + 1 := by rw [List.length_append]; omega
  unfold fed32 held32
  rw [e]
  constructor
  · show take32 (absorb32 st (D ++ E) (D.length / 64)) (((D ++ E).drop (D.length / 64 * 64)).take 64) = _
    rw [absorb32_app st D E _ (by omega), List.drop_append_of_le_length (by omega), List.take_of_length_le (by simp; omega)]
  · rw [List.drop_eq_nil_iff, List.length_append]; omega
theorem infoB32 : ∃ i, Tryd.prog.info? 5 = some i ∧ i.zero = some (.int .u8 0) ∧ i.size = 1 ∧ i.bytes = 1 := by
  have h : (Tryd.prog.info? 5).map (fun i => (i.zero, i.size, i.bytes)) = some (some (.int .u8 0), 1, 1) := by kernel_rfl
  obtain ⟨i, hi, hz⟩ := Option.map_eq_some_iff.1 h
  simp only [Prod.mk.injEq] at hz
  exact ⟨i, hi, hz.1, hz.2.1, hz.2.2⟩
set_option maxHeartbeats 4000000 in
theorem all32_v (w0 w : World) (hb0 : Below w0.heap.size w0 w) (B : Nat) (st : List Int) (hr : RS32 w B st) (hBn : w0.heap.size ≤ B) (hT : TabS w0) (v : Value) (ps : List (Value × List Int)) (hp : RdP w0 v ps) (hlen : (cat ps).length < 1099511627776) :
    Calls Tryd.prog 24 #[.pointer (some ⟨B, 0, none⟩), v] w fun e w' => (∃ v, e = .returned v) ∧ RS32 w' B (absorb32 (fed32 st (cat ps)) (padS (padB32 (held32 (cat ps)) ((cat ps).length % 64)) ((cat ps).length : Int) 8) (padN32 ((cat ps).length % 64) / 64)) ∧ w.grownBy w' (some B) := by
  obtain ⟨j0, hj, hy0, hy1, hy2⟩ := infoB32
  obtain ⟨a, cap, rfl, ⟨hpc, hcm⟩, hcell, hrd⟩ := hp
  have hpl : (ps.length : Int) ≤ 9223372036854775807 := by unfold maxLen at hcm; omega
  clear hpc hcm
  have hB := hr.lt
  have hwd := hr.width
  have hs0 := hb0.size
  replace hcell := Lib.hid hcell
  replace hrd := Lib.hid hrd
  have HBS := fun W => blockSize_v 32 W (by omega)
  go_enter Tryd.func24, Tryd.ntmps24
  go_wp2_with (first
    | (go_at_call 35; (with_reducible refine (HBS _).mono ?_); rintro e w9 ⟨rfl, rfl⟩)
    | (with_reducible refine at_n 16 ?_; refine wpList_make_own _ rfl _ _ 25 rfl w9.heap.size 5 j0 (.int .u8 0) 1 Tryd.underlying25 hj hy0 hy1 .i64 .i64 64 64 rfl rfl (by omega) (by rw [hy2]; omega) (by unfold maxLen; omega) (Nat.le_refl _) ?_; intro w1 hown1 hgr1))
  have hg1 : w9.grownBy w1 (some B) := ⟨hgr1.os, hgr1.tape, hgr1.output, hgr1.size, fun k hk _ => hgr1.block k hk (by simp)⟩
  have hr1 : RS32 w1 B st := hr.but hgr1 (by simp)
  clear hgr1 hwd
  go_loopw [5, 6, 19] (fun v5 v6 v19 wr => ∃ (i : Nat), i ≤ ps.length ∧ v19 = .int .i64 i ∧ v6 = .int .i64 ((cat (ps.take i)).length : Nat) ∧ v5 = .slice (some ⟨w9.heap.size, 0, none⟩) ((cat (ps.take i)).length % 64) 64 ∧ RS32 wr B (fed32 st (cat (ps.take i))) ∧ wr.ownsRow w9.heap.size 5 1 (.slice (some ⟨w9.heap.size, 0, none⟩) ((cat (ps.take i)).length % 64) 64) ((cat (ps.take i)).length % 64) ((held32 (cat (ps.take i))).map (Value.int .u8)) ∧ w9.grownBy wr (some B)) (fun _ _ i _ => ps.length - (intOf i).toNat)
  case atStart =>
    have z0 : cat (ps.take 0) = [] := by rw [List.take_zero]; rfl
    have z1 : fed32 st [] = st := by simp [fed32, absorb32]
    have z2 : held32 [] = [] := by simp [held32]
    refine ⟨0, by omega, rfl, by rw [z0]; rfl, by rw [z0]; rfl, by rw [z0, z1]; exact hr1, by rw [z0, z2]; exact hown1, hg1⟩
  case round =>
    clear hr1 hown1 hg1
    obtain ⟨i, hi, rfl, rfl, rfl, hr1, hown1, hg1⟩ := hrel
    have hB1 : Below w0.heap.size w0 wr := hb0.grown hg1 hs0 (fun k hk => by cases hk; exact hBn)
    by_cases hlt : i < ps.length
    · obtain ⟨x, o, rfl, hc⟩ := hcell.out i hlt
      obtain ⟨hrp, hbz⟩ := hrd.out _ (List.getElem_mem hlt)
      have hct := cat_take_succ hlt
      have hle := cat_take_len ps (i + 1)
      rw [hct, List.length_append] at hle
      have hltI : (i : Int) < (ps.length : Int) := by omega
      have hltH := Lib.hid hlt
      have hbD : RowKit.Hid (Bytes (cat (ps.take i))) := Lib.hid (cat_bytes fun p hp => (hrd.out p (List.mem_of_mem_take hp)).2)
      generalize (ps[i]'hlt).2 = zs at *
      generalize (ps[i]'hlt).1 = pv at *
      generalize hD : cat (ps.take i) = D at *
      replace hct := Lib.hid hct
      replace hD := Lib.hid hD
      replace hc : wr.cell? ⟨x, o + i, none⟩ = some pv := by rw [hB1.cell (World.block_lt_of_cell? w0 _ hc)]; exact hc
      obtain ⟨ap, capp, rfl, hp1, hp2, hp3, hp4⟩ := hrp
      have hrp : RdI .u8 w0 (.slice ap zs.length capp) zs := ⟨ap, capp, rfl, hp1, hp2, hp3, hp4⟩
      replace hp3 := Lib.hid hp3
      replace hrp := Lib.hid hrp
      have hDn : ((D.length : Nat) : Int) < 1099511627776 := by omega
      have hzn : ((zs.length : Nat) : Int) < 1099511627776 := by omega
      have hDl : (D.length : Int) + (zs.length : Int) < 1099511627776 := by omega
      clear hp4 hle
      go_wp2
      go_loopw [5, 8] (fun v5 v8 wq => ∃ (E rest : List Int), zs = E ++ rest ∧ RdI .u8 w0 v8 rest ∧ v5 = .slice (some ⟨w9.heap.size, 0, none⟩) ((D ++ E).length % 64) 64 ∧ RS32 wq B (fed32 st (D ++ E)) ∧ wq.ownsRow w9.heap.size 5 1 (.slice (some ⟨w9.heap.size, 0, none⟩) ((D ++ E).length % 64) 64) ((D ++ E).length % 64) ((held32 (D ++ E)).map (Value.int .u8)) ∧ w9.grownBy wq (some B)) (fun _ v8 _ => match v8 with | .slice _ n _ => n | _ => 0)
      case atStart => exact ⟨[], zs, rfl, hrp.out, by rw [List.append_nil], by rw [List.append_nil]; exact hr1, by rw [List.append_nil]; exact hown1, hg1⟩
      case round =>
        clear hr1 hown1 hg1 hB1 hc
        obtain ⟨E, rest, hz, hrq, rfl, hr1, hown1, hg1⟩ := hrel
        have hB1 := hb0.grown hg1 hs0 (fun k hk => by cases hk; exact hBn)
        have hzl : zs.length = E.length + rest.length := by rw [hz, List.length_append]
        have hFl : (D ++ E).length = D.length + E.length := List.length_append
        have hbF' : Bytes (D ++ E) := fun x hx => by
          rcases List.mem_append.1 hx with h | h
          · exact hbD.out x h
          · exact hbz x (by rw [hz]; simp [h])
        have hbr : Bytes rest := fun x hx => hbz x (by rw [hz]; simp [hx])
        obtain ⟨aq, capq, rfl, q1, q2, q3, q4⟩ := hrq
        have hrq : RdI .u8 w0 (.slice aq rest.length capq) rest := ⟨aq, capq, rfl, q1, q2, q3, q4⟩
        replace hrq := Lib.hid hrq
        replace q3 := Lib.hid q3
        by_cases hr0 : 0 < rest.length
        · obtain ⟨y, oy, rfl, -⟩ := q3.out 0 hr0
          have hn := Nat.mod_lt (D ++ E).length (show 0 < 64 by decide)
          have hhl := held32_len (D ++ E)
          have hrI : (0 : Int) < (rest.length : Int) := by omega
          replace hz := Lib.hid hz
          replace hzl := Lib.hid hzl
          replace hFl := Lib.hid hFl
          generalize hF : D ++ E = F at *
          have hbF := Lib.hid hbF'
          clear hbF'
          replace hF := Lib.hid hF
          generalize hnn : F.length % 64 = n at *
          replace hnn := Lib.hid hnn
          obtain ⟨c, hcd⟩ : ∃ c, c = if n + rest.length < 64 then rest.length else 64 - n := ⟨_, rfl⟩
          have hc0 : 0 < c ∧ c ≤ rest.length ∧ n + c ≤ 64 ∧ (n + c < 64 → c = rest.length) := by split at hcd <;> omega
          have hmin : min ((64 : Int) - (n : Int)) (rest.length : Int) = (c : Int) := by split at hcd <;> omega
          obtain ⟨hc1, hc2, hc3, hc4⟩ := hc0
          have hcI : (c : Int) ≤ (rest.length : Int) := by omega
          have hcI0 : (0 : Int) ≤ (c : Int) := by omega
          have hnw : ((rest.take c).map (Value.int .u8)).length = c * 1 := by simp [hc2]
          have hcw : ∀ j u, ((rest.take c).map (Value.int .u8))[j]? = some u → wr.cell? ((⟨y, oy, none⟩ : Addr).add j) = some u := fun j u hj => by
            have hjc : j < c := by
              have := (List.getElem?_eq_some_iff.1 hj).1
              rw [hnw] at this
              omega
            obtain ⟨y', oy', e, hcy⟩ := q3.out j (by omega)
            cases e
            rw [Addr.add_lit, hB1.cell (World.block_lt_of_cell? w0 _ hcy), hcy, ← hj]
            simp [hjc, at0, show j < rest.length by omega]
          have hone : ∀ u ∈ (rest.take c).map (Value.int .u8), u.oneCell' = true := by
            intro u hu
            obtain ⟨z, -, rfl⟩ := List.mem_map.1 hu
            rfl
          replace hnw := Lib.hid hnw
          replace hcw := Lib.hid hcw
          replace hone := Lib.hid hone
          replace hcd := Lib.hid hcd
          replace hc4 := Lib.hid hc4
          clear q4 hzn hDn hDl
          have hG : D ++ (E ++ rest.take c) = F ++ rest.take c := by rw [← List.append_assoc, hF.out]
          have hzc : zs = (E ++ rest.take c) ++ rest.drop c := by rw [List.append_assoc, List.take_append_drop]; exact hz.out
          have hXl : (rest.take c).length = c := by simp [hc2]
          have hBB : B ≠ w9.heap.size := by omega
          have hgB2 : ∀ w2, wr.grownBy w2 (some w9.heap.size) → w9.grownBy w2 (some B) := fun w2 hg2 => grown_on hg1 hg2 (Nat.le_refl _)
          have hTt := hT.lt
          have hTsq : 0 ≠ B := by omega
          have hTcu : 3 ≠ B := by omega
          have hcut : RdI .u8 w0 (.slice (if capq = c then some ⟨y, oy, none⟩ else some ⟨y, oy + c, none⟩) (rest.length - c) (capq - c)) (rest.drop c) := by
            by_cases e : capq = c
            · rw [if_pos e]; exact RdI.cut hrq.out hc2 (some ⟨y, oy, none⟩) (.inl e.symm) (fun _ => ⟨_, rfl⟩)
            · rw [if_neg e]; exact RdI.cut hrq.out hc2 (some ⟨y, oy + c, none⟩) (.inr rfl) (fun _ => ⟨_, rfl⟩)
          replace hG := Lib.hid hG
          replace hzc := Lib.hid hzc
          replace hXl := Lib.hid hXl
          replace hgB2 := Lib.hid hgB2
          replace hcut := Lib.hid hcut
          clear hz
          by_cases hful : n + c = 64
          · have hfI : ((n : Nat) : Int) + ((c : Nat) : Int) = 64 := by omega
            have hff := feed32_full st F (rest.take c) (by rw [hnn.out, hXl.out, hful])
            have hvl : (held32 F ++ rest.take c).length = 64 := by rw [List.length_append, hhl, hXl.out, hful]
            have hGl : (F ++ rest.take c).length % 64 = 0 := by rw [List.length_append, hXl.out]; have := hnn.out; omega
            have hvb : Bytes (held32 F ++ rest.take c) := bytes_app' (fun x hx => ?hb1) (fun x hx => hbr x (List.mem_of_mem_take hx))
            case hb1 => exact hbF.out x (List.mem_of_mem_drop hx)
            obtain ⟨hff1, hff2⟩ := hff
            replace hff1 := Lib.hid hff1
            replace hff2 := Lib.hid hff2
            replace hvb := Lib.hid hvb
            replace hGl := Lib.hid hGl
            replace hvl := Lib.hid hvl
            go_wp2_with (first
              | (with_reducible refine at_n 41 ?_; refine wpList_append_fits _ rfl _ _ 25 rfl w9.heap.size 5 j0 1 Tryd.underlying25 hj hy1 w9.heap.size n 64 _ rfl hown1 ⟨y, oy, none⟩ c capq _ rfl hnw.out hcw.out hone.out hc3 ?_; intro w2 hown2 hg2; rw [hful, ← List.map_append] at hown2; have hr2 := hr1.but hg2 (by simpa using hBB); have hgg2 := hgB2.out _ hg2; have hT2 : TabS w2 := hT.below (hb0.grown hgg2 hs0 (fun k hk => by cases hk; exact hBn)); have hv2 := RdI.of_own hown2; have HT := take32_v w2 B _ hr2 hT2 hTsq hTcu _ _ hv2 hvb.out hvl.out)
              | (go_at_call 38; (with_reducible refine HT.mono ?_); rintro e w3 ⟨⟨v9, rfl⟩, hr3, hg3⟩; have hown3 := own_zero (hown2.kept hg3 (.inr (by simpa [Value.ownBlock] using fun e => hBB e.symm))); have hgg3 := grown_then hgg2 hg3))
            refine ⟨⟨E ++ rest.take c, rest.drop c, hzc.out, hcut.out, by rw [hG.out, hGl.out], ?_, ?_, hgg3⟩, by show rest.length - c < rest.length; omega⟩
            · rw [hG.out, hff1.out]; exact hr3
            · rw [hG.out, hff2.out, hGl.out]; exact hown3
          · have hneI : ¬ (((n : Nat) : Int) + ((c : Nat) : Int) = 64) := by omega
            have hff := feed32_low st F (rest.take c) (by rw [hnn.out, hXl.out]; omega)
            have hGl : (F ++ rest.take c).length % 64 = n + c := by rw [List.length_append, hXl.out]; have := hnn.out; omega
            obtain ⟨hff1, hff2⟩ := hff
            replace hff1 := Lib.hid hff1
            replace hff2 := Lib.hid hff2
            replace hGl := Lib.hid hGl
            go_wp2_with (first
              | (with_reducible refine at_n 41 ?_; refine wpList_append_fits _ rfl _ _ 25 rfl w9.heap.size 5 j0 1 Tryd.underlying25 hj hy1 w9.heap.size n 64 _ rfl hown1 ⟨y, oy, none⟩ c capq _ rfl hnw.out hcw.out hone.out hc3 ?_; intro w2 hown2 hg2; rw [← List.map_append] at hown2; have hr2 := hr1.but hg2 (by simpa using hBB); have hgg2 := hgB2.out _ hg2))
            refine ⟨⟨E ++ rest.take c, rest.drop c, hzc.out, hcut.out, by rw [hG.out, hGl.out], ?_, ?_, hgg2⟩, by show rest.length - c < rest.length; omega⟩
            · rw [hG.out, hff1.out]; exact hr2
            · rw [hG.out, hff2.out, hGl.out]; exact hown2
        · have hre : rest = [] := List.length_eq_zero_iff.1 (by omega)
          subst hre
          rw [List.append_nil] at hz
          subst hz
          clear hrq q3
          go_wp2
          have hlt2 := hltH.out
          refine ⟨⟨i + 1, by omega, by go_num, ?_, by rw [hct.out], by rw [hct.out]; exact hr1, by rw [hct.out]; exact hown1, hg1⟩, by simp only [intOf]; omega⟩
          rw [hct.out, List.length_append, Int.natCast_add]
    · obtain rfl : i = ps.length := by omega
      rw [List.take_length] at hr1 hown1
      rw [List.take_length]
      generalize hD : cat ps = D at *
      have hhl := held32_len D
      have hbD : Bytes (held32 D) := fun x hx => by
        have := cat_bytes fun p hp => (hrd.out p hp).2
        rw [hD] at this
        exact this x (List.mem_of_mem_drop hx)
      have hT1 : TabS wr := hT.below hB1
      have hTt := hT.lt
      have hmod : D.length % 64 < 64 := Nat.mod_lt _ (by decide)
      have hcl : ∀ q, q < D.length % 64 → wr.cell? ⟨w9.heap.size, q, none⟩ = some (.int .u8 (at0 (held32 D) q)) := fun q hq => by
        have h := RdI.of_own hown1
        obtain ⟨a', cap', e', h1, h2, h3, -⟩ := h
        obtain ⟨x', o', e2, hc2⟩ := h3 q (by rw [hhl]; exact hq)
        simp only [Value.slice.injEq] at e'
        obtain ⟨ea, -, -⟩ := e'
        rw [← ea] at e2
        cases e2
        rwa [Nat.zero_add] at hc2
      have HL := last32_v wr B _ hr1 hT1 (by omega) (by omega) w9.heap.size (held32 D) (D.length % 64) hcl hhl hmod hbD (D.length : Int) (by omega) (by omega)
      clear hcl hown1
      go_wp2_with (first
        | (go_at_call 39; (with_reducible refine HL.mono ?_); rintro e w3 ⟨⟨v9, rfl⟩, hr3, hg3⟩))
      refine bodyPost_end (results_none rfl _ _ _) rfl ?_
      rw [hD]
      exact ⟨⟨_, rfl⟩, hr3, grown_then hg1 hg3⟩
end Go.Proofs.YtohnicmacmkapaaDoor
