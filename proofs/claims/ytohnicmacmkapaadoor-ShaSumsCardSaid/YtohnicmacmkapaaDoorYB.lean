/- The rounds of sha: all. The sums of sha. Plain words: what the reference of sha reckons, in the words of the program. The reference of sha: cut, turn, mix. Straight code on a frame that no text spells out: what each operation yields, and how it is put. No program stands here. Straight code on frames, further: memory, calls, loops. No program stands here. Plain words: the words of a block, byte by byte; the reference's tables. The digits of bytes, by the program. The reference: Padded, Hex. Walks over frames that are lists: what a slot holds is looked up by computation; each operation is one step, in code whose order is fixed and in code whose order is drawn. No program stands here. Code over frames that are lists; regions whose order is drawn. No program stands here. Memory: blocks of the call's own; slices whose elements are rows of cells, read off the call's own blocks; the operations that touch memory. No program stands here. Contracts over walks: what a call gives, and that it writes to no memory that was there; results; loops. No program stands here. A region whose order is drawn, of which the last operations wait for all that is ahead of them: those are walked one by one. No program stands here. -/
import Derived.Laws.MakeOwn
import Derived.Deep.AppendLies
import Derived.Deep.RegionLaw
import Derived.Deep.LoopGhost
import Derived.Deep.MidRow
import Derived.Test.YtohnicmacmkapaaDoorYA
namespace Go.Proofs.YtohnicmacmkapaaDoor
open Go.RowKit
set_option linter.unusedVariables false
set_option maxRecDepth 8000

theorem bytes_app' {a b : List Int} (ha : ∀ x ∈ a, 0 ≤ x ∧ x ≤ 255) (hb : ∀ x ∈ b, 0 ≤ x ∧ x ≤ 255) : Bytes (a ++ b) := fun x hx => (List.mem_append.1 hx).elim (ha x) (hb x)
/-- A slice of slices of bytes. -/
def RdP (w : World) (v : Value) (ps : List (Value × List Int)) : Prop :=
  ∃ a cap, v = .slice a ps.length cap ∧ (ps.length ≤ cap ∧ cap ≤ maxLen) ∧ (∀ k (hk : k < ps.length), ∃ x o, a = some ⟨x, o, none⟩ ∧ w.cell? ⟨x, o + k, none⟩ = some (ps[k]'hk).1) ∧ ∀ p ∈ ps, RdI .u8 w p.1 p.2 ∧ Bytes p.2
/-- All bytes of so many parts. -/
def cat (ps : List (Value × List Int)) : List Int := (ps.map (·.2)).flatten
theorem cat_take_succ {ps : List (Value × List Int)} {i : Nat} (h : i < ps.length) : cat (ps.take (i + 1)) = cat (ps.take i) ++ (ps[i]'h).2 := by
  have e : ps.take (i + 1) = ps.take i ++ [ps[i]'h] := by rw [List.take_add_one, List.getElem?_eq_getElem h]; rfl
  rw [e]
  unfold cat
  rw [List.map_append, List.flatten_append]
  simp only [List.map_cons, List.map_nil, List.flatten_cons, List.flatten_nil, List.append_nil]
theorem cat_take_len (ps : List (Value × List Int)) (i : Nat) : (cat (ps.take i)).length ≤ (cat ps).length := by
  have h : cat ps = cat (ps.take i) ++ cat (ps.drop i) := by
    rw [cat, cat, cat, ← List.flatten_append, ← List.map_append, List.take_append_drop]
  rw [h, List.length_append]
  omega
theorem cat_bytes {ps : List (Value × List Int)} (h : ∀ p ∈ ps, Bytes p.2) : Bytes (cat ps) := fun x hx => by
  obtain ⟨l, hl, hxl⟩ := List.mem_flatten.1 hx
  obtain ⟨p, hp, rfl⟩ := List.mem_map.1 hl
  exact h p hp x hxl
theorem own_zero {w : World} {base e n g cap : Nat} {xs : List Value} (h : w.ownsRow base e 1 (.slice (some ⟨g, 0, none⟩) n cap) n xs) : w.ownsRow base e 1 (.slice (some ⟨g, 0, none⟩) 0 cap) 0 [] := by
  obtain ⟨-, h2⟩ := h
  rcases h2 with ⟨h3, -⟩ | ⟨g', cap', cur, e', hb, hh, hn, hm, hs, ht⟩
  · cases h3
  · cases e'
    exact ⟨rfl, .inr ⟨g, cap, cur, rfl, hb, hh, Nat.zero_le _, hm, hs, by simp⟩⟩
theorem grown_on {a b c : World} {B g : Nat} (h : a.grownBy b (some B)) (k : b.grownBy c (some g)) (hg : a.heap.size ≤ g) : a.grownBy c (some B) :=
  ⟨k.os.trans h.os, k.tape.trans h.tape, k.output.trans h.output, Nat.le_trans h.size k.size, fun i hi hne => (k.block i (Nat.lt_of_lt_of_le hi h.size) (by simp; omega)).trans (h.block i hi hne)⟩
theorem RdI.cut {w : World} {x o n c cap : Nat} {zs : List Int} (h : RdI .u8 w (.slice (some ⟨x, o, none⟩) n cap) zs) (hc : c ≤ zs.length) (q : Option Addr) (hq : c = cap ∨ q = some ⟨x, o + c, none⟩) (hq2 : c = cap → ∃ y, q = some y) : RdI .u8 w (.slice q (n - c) (cap - c)) (zs.drop c) := by
  obtain ⟨a, cap', e, h1, h2, h3, h4⟩ := h
  cases e
  refine ⟨q, cap - c, by simp, by simp; omega, by omega, fun k hk => ?_, fun e => ?_⟩
  · have hk' : c + k < zs.length := by simp at hk; omega
    obtain ⟨x', o', e', hc'⟩ := h3 (c + k) hk'
    cases e'
    rcases hq with rfl | rfl
    · omega
    · exact ⟨x, o + c, rfl, by rw [Nat.add_assoc, hc', at0_drop]⟩
  · subst e
    rcases hq with hq | hq
    · omega
    · cases hq
theorem absorb64_app (st D E : List Int) : ∀ k, k * 128 ≤ D.length → absorb64 st (D ++ E) k = absorb64 st D k
  | 0, _ => rfl
  | k + 1, h => by
    show take64 (absorb64 st (D ++ E) k) (((D ++ E).drop (k * 128)).take 128) = take64 (absorb64 st D k) ((D.drop (k * 128)).take 128)
    rw [absorb64_app st D E k (by omega), List.drop_append_of_le_length (by omega), List.take_append_of_le_length (by simp; omega)]
/-- The state and what is held behind so many bytes. -/
def fed64 (st D : List Int) : List Int := absorb64 st D (D.length / 128)
def held64 (D : List Int) : List Int := D.drop (D.length / 128 * 128)
theorem held64_len (D : List Int) : (held64 D).length = D.length % 128 := by simp [held64]; omega
theorem feed64_low (st D E : List Int) (h : D.length % 128 + E.length < 128) : fed64 st (D ++ E) = fed64 st D ∧ held64 (D ++ E) = held64 D ++ E := by
  have e : (D ++ E).length / 128 = D.length / 128 := by rw [List.length_append]; omega
  unfold fed64 held64
  rw [e]
  exact ⟨absorb64_app st D E _ (by omega), List.drop_append_of_le_length (by omega)⟩
theorem feed64_full (st D E : List Int) (h : D.length % 128 + E.length = 128) : fed64 st (D ++ E) = take64 (fed64 st D) (held64 D ++ E) ∧ held64 (D ++ E) = [] := by
  have e : (D ++ E).length / 128 = D.length / 128 + 1 := by rw [List.length_append]; omega
  unfold fed64 held64
  rw [e]
  constructor
  · show take64 (absorb64 st (D ++ E) (D.length / 128)) (((D ++ E).drop (D.length / 128 * 128)).take 128) = _
    rw [absorb64_app st D E _ (by omega), List.drop_append_of_le_length (by omega), List.take_of_length_le (by simp; omega)]
  · rw [List.drop_eq_nil_iff, List.length_append]; omega
theorem infoB64 : ∃ i, Tryd.prog.info? 5 = some i ∧ i.zero = some (.int .u8 0) ∧ i.size = 1 ∧ i.bytes = 1 := by
  have h : (Tryd.prog.info? 5).map (fun i => (i.zero, i.size, i.bytes)) = some (some (.int .u8 0), 1, 1) := by kernel_rfl
  obtain ⟨i, hi, hz⟩ := Option.map_eq_some_iff.1 h
  simp only [Prod.mk.injEq] at hz
  exact ⟨i, hi, hz.1, hz.2.1, hz.2.2⟩
set_option maxHeartbeats 4000000 in
theorem all64_v (w0 w : World) (hb0 : Below w0.heap.size w0 w) (B : Nat) (st : List Int) (hr : RS64 w B st) (hBn : w0.heap.size ≤ B) (hT : TabS w0) (v : Value) (ps : List (Value × List Int)) (hp : RdP w0 v ps) (hlen : (cat ps).length < 1099511627776) :
    Calls Tryd.prog 33 #[.pointer (some ⟨B, 0, none⟩), v] w fun e w' => (∃ v, e = .returned v) ∧ RS64 w' B (absorb64 (fed64 st (cat ps)) (padS (padB64 (held64 (cat ps)) ((cat ps).length % 128)) ((cat ps).length : Int) 8) (padN64 ((cat ps).length % 128) / 128)) ∧ w.grownBy w' (some B) := by
  obtain ⟨j0, hj, hy0, hy1, hy2⟩ := infoB64
  obtain ⟨a, cap, rfl, ⟨hpc, hcm⟩, hcell, hrd⟩ := hp
  have hpl : (ps.length : Int) ≤ 9223372036854775807 := by unfold maxLen at hcm; omega
  clear hpc hcm
  have hB := hr.lt
  have hwd := hr.width
  have hs0 := hb0.size
  replace hcell := Lib.hid hcell
  replace hrd := Lib.hid hrd
  have HBS := fun W => blockSize_v 64 W (by omega)
  go_enter Tryd.func33, Tryd.ntmps33
  go_wp2_with (first
    | (go_at_call 35; (with_reducible refine (HBS _).mono ?_); rintro e w9 ⟨rfl, rfl⟩)
    | (with_reducible refine at_n 16 ?_; refine wpList_make_own _ rfl _ _ 25 rfl w9.heap.size 5 j0 (.int .u8 0) 1 Tryd.underlying25 hj hy0 hy1 .i64 .i64 128 128 rfl rfl (by omega) (by rw [hy2]; omega) (by unfold maxLen; omega) (Nat.le_refl _) ?_; intro w1 hown1 hgr1))
  have hg1 : w9.grownBy w1 (some B) := ⟨hgr1.os, hgr1.tape, hgr1.output, hgr1.size, fun k hk _ => hgr1.block k hk (by simp)⟩
  have hr1 : RS64 w1 B st := hr.but hgr1 (by simp)
  clear hgr1 hwd
  go_loopw [5, 6, 19] (fun v5 v6 v19 wr => ∃ (i : Nat), i ≤ ps.length ∧ v19 = .int .i64 i ∧ v6 = .int .i64 ((cat (ps.take i)).length : Nat) ∧ v5 = .slice (some ⟨w9.heap.size, 0, none⟩) ((cat (ps.take i)).length % 128) 128 ∧ RS64 wr B (fed64 st (cat (ps.take i))) ∧ wr.ownsRow w9.heap.size 5 1 (.slice (some ⟨w9.heap.size, 0, none⟩) ((cat (ps.take i)).length % 128) 128) ((cat (ps.take i)).length % 128) ((held64 (cat (ps.take i))).map (Value.int .u8)) ∧ w9.grownBy wr (some B)) (fun _ _ i _ => ps.length - (intOf i).toNat)
  case atStart =>
    have z0 : cat (ps.take 0) = [] := by rw [List.take_zero]; rfl
    have z1 : fed64 st [] = st := by simp [fed64, absorb64]
    have z2 : held64 [] = [] := by simp [held64]
    refine ⟨0, by omega, rfl, by rw [z0]; rfl, by rw [z0]; rfl, by rw [z0, z1]; exact hr1, by rw [z0, z2]; exact hown1, hg1⟩
  case round =>
    clear hr1 hown1 hg1
    obtain ⟨i, hi, rfl, rfl, rfl, hr1, hown1, hg1⟩ := hrel
    have hB1 : Below w0.heap.size w0 wr := hb0.grown hg1 hs0 (fun k hk => by cases hk; exact hBn)
    by_cases hlt : i < ps.length
    · obtain ⟨x, o, rfl, hc⟩ := hcell.out i hlt
      obtain ⟨hrp, hbz⟩ := hrd.out _ (List.getElem_mem hlt)
      have hct := cat_take_succ hlt
      have hle := cat_take_len ps (i + 1)
      rw [hct, List.length_append] at hle
      have hltI : (i : Int) < (ps.length : Int) := by omega
      have hltH := Lib.hid hlt
      have hbD : RowKit.Hid (Bytes (cat (ps.take i))) := Lib.hid (cat_bytes fun p hp => (hrd.out p (List.mem_of_mem_take hp)).2)
      generalize (ps[i]'hlt).2 = zs at *
      generalize (ps[i]'hlt).1 = pv at *
      generalize hD : cat (ps.take i) = D at *
      replace hct := Lib.hid hct
      replace hD := Lib.hid hD
      replace hc : wr.cell? ⟨x, o + i, none⟩ = some pv := by rw [hB1.cell (World.block_lt_of_cell? w0 _ hc)]; exact hc
      obtain ⟨ap, capp, rfl, hp1, hp2, hp3, hp4⟩ := hrp
      have hrp : RdI .u8 w0 (.slice ap zs.length capp) zs := ⟨ap, capp, rfl, hp1, hp2, hp3, hp4⟩
      replace hp3 := Lib.hid hp3
      replace hrp := Lib.hid hrp
      have hDn : ((D.length : Nat) : Int) < 1099511627776 := by omega
      have hzn : ((zs.length : Nat) : Int) < 1099511627776 := by omega
      have hDl : (D.length : Int) + (zs.length : Int) < 1099511627776 := by omega
      clear hp4 hle
      go_wp2
      go_loopw [5, 8] (fun v5 v8 wq => ∃ (E rest : List Int), zs = E ++ rest ∧ RdI .u8 w0 v8 rest ∧ v5 = .slice (some ⟨w9.heap.size, 0, none⟩) ((D ++ E).length % 128) 128 ∧ RS64 wq B (fed64 st (D ++ E)) ∧ wq.ownsRow w9.heap.size 5 1 (.slice (some ⟨w9.heap.size, 0, none⟩) ((D ++ E).length % 128) 128) ((D ++ E).length % 128) ((held64 (D ++ E)).map (Value.int .u8)) ∧ w9.grownBy wq (some B)) (fun _ v8 _ => match v8 with | .slice _ n _ => n | _ => 0)
      case atStart => exact ⟨[], zs, rfl, hrp.out, by rw [List.append_nil], by rw [List.append_nil]; exact hr1, by rw [List.append_nil]; exact hown1, hg1⟩
      case round =>
        clear hr1 hown1 hg1 hB1 hc
        obtain ⟨E, rest, hz, hrq, rfl, hr1, hown1, hg1⟩ := hrel
        have hB1 := hb0.grown hg1 hs0 (fun k hk => by cases hk; exact hBn)
        have hzl : zs.length = E.length + rest.length := by rw [hz, List.length_append]
        have hFl : (D ++ E).length = D.length + E.length := List.length_append
        have hbF' : Bytes (D ++ E) := fun x hx => by
          rcases List.mem_append.1 hx with h | h
          · exact hbD.out x h
          · exact hbz x (by rw [hz]; simp [h])
        have hbr : Bytes rest := fun x hx => hbz x (by rw [hz]; simp [hx])
        obtain ⟨aq, capq, rfl, q1, q2, q3, q4⟩ := hrq
        have hrq : RdI .u8 w0 (.slice aq rest.length capq) rest := ⟨aq, capq, rfl, q1, q2, q3, q4⟩
        replace hrq := Lib.hid hrq
        replace q3 := Lib.hid q3
        by_cases hr0 : 0 < rest.length
        · obtain ⟨y, oy, rfl, -⟩ := q3.out 0 hr0
          have hn := Nat.mod_lt (D ++ E).length (show 0 < 128 by decide)
          have hhl := held64_len (D ++ E)
          have hrI : (0 : Int) < (rest.length : Int) := by omega
          replace hz := Lib.hid hz
          replace hzl := Lib.hid hzl
          replace hFl := Lib.hid hFl
          generalize hF : D ++ E = F at *
          have hbF := Lib.hid hbF'
          clear hbF'
          replace hF := Lib.hid hF
          generalize hnn : F.length % 128 = n at *
          replace hnn := Lib.hid hnn
          obtain ⟨c, hcd⟩ : ∃ c, c = if n + rest.length < 128 then rest.length else 128 - n := ⟨_, rfl⟩
          have hc0 : 0 < c ∧ c ≤ rest.length ∧ n + c ≤ 128 ∧ (n + c < 128 → c = rest.length) := by split at hcd <;> omega
          have hmin : min ((128 : Int) - (n : Int)) (rest.length : Int) = (c : Int) := by split at hcd <;> omega
          obtain ⟨hc1, hc2, hc3, hc4⟩ := hc0
          have hcI : (c : Int) ≤ (rest.length : Int) := by omega
          have hcI0 : (0 : Int) ≤ (c : Int) := by omega
          have hnw : ((rest.take c).map (Value.int .u8)).length = c * 1 := by simp [hc2]
          have hcw : ∀ j u, ((rest.take c).map (Value.int .u8))[j]? = some u → wr.cell? ((⟨y, oy, none⟩ : Addr).add j) = some u := fun j u hj => by
            have hjc : j < c := by
              have := (List.getElem?_eq_some_iff.1 hj).1
              rw [hnw] at this
              omega
            obtain ⟨y', oy', e, hcy⟩ := q3.out j (by omega)
            cases e
            rw [Addr.add_lit, hB1.cell (World.block_lt_of_cell? w0 _ hcy), hcy, ← hj]
            simp [hjc, at0, show j < rest.length by omega]
          have hone : ∀ u ∈ (rest.take c).map (Value.int .u8), u.oneCell' = true := by
            intro u hu
            obtain ⟨z, -, rfl⟩ := List.mem_map.1 hu
            rfl
          replace hnw := Lib.hid hnw
          replace hcw := Lib.hid hcw
          replace hone := Lib.hid hone
          replace hcd := Lib.hid hcd
          replace hc4 := Lib.hid hc4
          clear q4 hzn hDn hDl
          have hG : D ++ (E ++ rest.take c) = F ++ rest.take c := by rw [← List.append_assoc, hF.out]
          have hzc : zs = (E ++ rest.take c) ++ rest.drop c := by rw [List.append_assoc, List.take_append_drop]; exact hz.out
          have hXl : (rest.take c).length = c := by simp [hc2]
          have hBB : B ≠ w9.heap.size := by omega
          have hgB2 : ∀ w2, wr.grownBy w2 (some w9.heap.size) → w9.grownBy w2 (some B) := fun w2 hg2 => grown_on hg1 hg2 (Nat.le_refl _)
          have hTt := hT.lt
          have hTsq : 0 ≠ B := by omega
          have hTcu : 3 ≠ B := by omega
          have hcut : RdI .u8 w0 (.slice (if capq = c then some ⟨y, oy, none⟩ else some ⟨y, oy + c, none⟩) (rest.length - c) (capq - c)) (rest.drop c) := by
            by_cases e : capq = c
            · rw [if_pos e]; exact RdI.cut hrq.out hc2 (some ⟨y, oy, none⟩) (.inl e.symm) (fun _ => ⟨_, rfl⟩)
            · rw [if_neg e]; exact RdI.cut hrq.out hc2 (some ⟨y, oy + c, none⟩) (.inr rfl) (fun _ => ⟨_, rfl⟩)
          replace hG := Lib.hid hG
          replace hzc := Lib.hid hzc
          replace hXl := Lib.hid hXl
          replace hgB2 := Lib.hid hgB2
          replace hcut := Lib.hid hcut
          clear hz
          by_cases hful : n + c = 128
          · have hfI : ((n : Nat) : Int) + ((c : Nat) : Int) = 128 := by omega
            have hff := feed64_full st F (rest.take c) (by rw [hnn.out, hXl.out, hful])
            have hvl : (held64 F ++ rest.take c).length = 128 := by rw [List.length_append, hhl, hXl.out, hful]
            have hGl : (F ++ rest.take c).length % 128 = 0 := by rw [List.length_append, hXl.out]; have := hnn.out; omega
            have hvb : Bytes (held64 F ++ rest.take c) := bytes_app' (fun x hx => ?hb1) (fun x hx => hbr x (List.mem_of_mem_take hx))
            case hb1 => exact hbF.out x (List.mem_of_mem_drop hx)
            obtain ⟨hff1, hff2⟩ := hff
            replace hff1 := Lib.hid hff1
            replace hff2 := Lib.hid hff2
            replace hvb := Lib.hid hvb
            replace hGl := Lib.hid hGl
            replace hvl := Lib.hid hvl
            go_wp2_with (first
              | (with_reducible refine at_n 41 ?_; refine wpList_append_fits _ rfl _ _ 25 rfl w9.heap.size 5 j0 1 Tryd.underlying25 hj hy1 w9.heap.size n 128 _ rfl hown1 ⟨y, oy, none⟩ c capq _ rfl hnw.out hcw.out hone.out hc3 ?_; intro w2 hown2 hg2; rw [hful, ← List.map_append] at hown2; have hr2 := hr1.but hg2 (by simpa using hBB); have hgg2 := hgB2.out _ hg2; have hT2 : TabS w2 := hT.below (hb0.grown hgg2 hs0 (fun k hk => by cases hk; exact hBn)); have hv2 := RdI.of_own hown2; have HT := take64_v w2 B _ hr2 hT2 hTsq hTcu _ _ hv2 hvb.out hvl.out)
              | (go_at_call 43; (with_reducible refine HT.mono ?_); rintro e w3 ⟨⟨v9, rfl⟩, hr3, hg3⟩; have hown3 := own_zero (hown2.kept hg3 (.inr (by simpa [Value.ownBlock] using fun e => hBB e.symm))); have hgg3 := grown_then hgg2 hg3))
            refine ⟨⟨E ++ rest.take c, rest.drop c, hzc.out, hcut.out, by rw [hG.out, hGl.out], ?_, ?_, hgg3⟩, by show rest.length - c < rest.length; omega⟩
            · rw [hG.out, hff1.out]; exact hr3
            · rw [hG.out, hff2.out, hGl.out]; exact hown3
          · have hneI : ¬ (((n : Nat) : Int) + ((c : Nat) : Int) = 128) := by omega
            have hff := feed64_low st F (rest.take c) (by rw [hnn.out, hXl.out]; omega)
            have hGl : (F ++ rest.take c).length % 128 = n + c := by rw [List.length_append, hXl.out]; have := hnn.out; omega
            obtain ⟨hff1, hff2⟩ := hff
            replace hff1 := Lib.hid hff1
            replace hff2 := Lib.hid hff2
            replace hGl := Lib.hid hGl
            go_wp2_with (first
              | (with_reducible refine at_n 41 ?_; refine wpList_append_fits _ rfl _ _ 25 rfl w9.heap.size 5 j0 1 Tryd.underlying25 hj hy1 w9.heap.size n 128 _ rfl hown1 ⟨y, oy, none⟩ c capq _ rfl hnw.out hcw.out hone.out hc3 ?_; intro w2 hown2 hg2; rw [← List.map_append] at hown2; have hr2 := hr1.but hg2 (by simpa using hBB); have hgg2 := hgB2.out _ hg2))
            refine ⟨⟨E ++ rest.take c, rest.drop c, hzc.out, hcut.out, by rw [hG.out, hGl.out], ?_, ?_, hgg2⟩, by show rest.length - c < rest.length; omega⟩
            · rw [hG.out, hff1.out]; exact hr2
            · rw [hG.out, hff2.out, hGl.out]; exact hown2
        · have hre : rest = [] := List.length_eq_zero_iff.1 (by omega)
          subst hre
          rw [List.append_nil] at hz
          subst hz
          clear hrq q3
          go_wp2
          have hlt2 := hltH.out
          refine ⟨⟨i + 1, by omega, by go_num, ?_, by rw [hct.out], by rw [hct.out]; exact hr1, by rw [hct.out]; exact hown1, hg1⟩, by simp only [intOf]; omega⟩
          rw [hct.out, List.length_append, Int.natCast_add]
    · obtain rfl : i = ps.length := by omega
      rw [List.take_length] at hr1 hown1
      rw [List.take_length]
      generalize hD : cat ps = D at *
      have hhl := held64_len D
      have hbD : Bytes (held64 D) := fun x hx => by
        have := cat_bytes fun p hp => (hrd.out p hp).2
        rw [hD] at this
        exact this x (List.mem_of_mem_drop hx)
      have hT1 : TabS wr := hT.below hB1
      have hTt := hT.lt
      have hmod : D.length % 128 < 128 := Nat.mod_lt _ (by decide)
      have hcl : ∀ q, q < D.length % 128 → wr.cell? ⟨w9.heap.size, q, none⟩ = some (.int .u8 (at0 (held64 D) q)) := fun q hq => by
        have h := RdI.of_own hown1
        obtain ⟨a', cap', e', h1, h2, h3, -⟩ := h
        obtain ⟨x', o', e2, hc2⟩ := h3 q (by rw [hhl]; exact hq)
        simp only [Value.slice.injEq] at e'
        obtain ⟨ea, -, -⟩ := e'
        rw [← ea] at e2
        cases e2
        rwa [Nat.zero_add] at hc2
      have HL := last64_v wr B _ hr1 hT1 (by omega) (by omega) w9.heap.size (held64 D) (D.length % 128) hcl hhl hmod hbD (D.length : Int) (by omega) (by omega)
      clear hcl hown1
      go_wp2_with (first
        | (go_at_call 44; (with_reducible refine HL.mono ?_); rintro e w3 ⟨⟨v9, rfl⟩, hr3, hg3⟩))
      refine bodyPost_end (results_none rfl _ _ _) rfl ?_
      rw [hD]
      exact ⟨⟨_, rfl⟩, hr3, grown_then hg1 hg3⟩
theorem absorb32_app (st D E : List Int) : ∀ k, k * 64 ≤ D.length → absorb32 st (D ++ E) k = absorb32 st D k
  | 0, _ => rfl
  | k + 1, h => by
    show take32 (absorb32 st (D ++ E) k) (((D ++ E).drop (k * 64)).take 64) = take32 (absorb32 st D k) ((D.drop (k * 64)).take 64)
    rw [absorb32_app st D E k (by omega), List.drop_append_of_le_length (by omega), List.take_append_of_le_length (by simp; omega)]
/-- The state and what is held behind so many bytes. -/
def fed32 (st D : List Int) : List Int := absorb32 st D (D.length / 64)
def held32 (D : List Int) : List Int := D.drop (D.length / 64 * 64)
theorem held32_len (D : List Int) : (held32 D).length = D.length % 64 := by simp [held32]; omega
theorem feed32_low (st D E : List Int) (h : D.length % 64 + E.length < 64) : fed32 st (D ++ E) = fed32 st D ∧ held32 (D ++ E) = held32 D ++ E := by
  have e : (D ++ E).length / 64 = D.length / 64 := by rw [List.length_append]; omega
  unfold fed32 held32
  rw [e]
  exact ⟨absorb32_app st D E _ (by omega), List.drop_append_of_le_length (by omega)⟩
theorem feed32_full (st D E : List Int) (h : D.length % 64 + E.length = 64) : fed32 st (D ++ E) = take32 (fed32 st D) (held32 D ++ E) ∧ held32 (D ++ E) = [] := by
  have e : (D ++ E).length / 64 = D.length / 64 + 1 := by rw [List.length_append]; omega
  unfold fed32 held32
  rw [e]
  constructor
  · show take32 (absorb32 st (D ++ E) (D.length / 64)) (((D ++ E).drop (D.length / 64 * 64)).take 64) = _
    rw [absorb32_app st D E _ (by omega), List.drop_append_of_le_length (by omega), List.take_of_length_le (by simp; omega)]
  · rw [List.drop_eq_nil_iff, List.length_append]; omega
theorem infoB32 : ∃ i, Tryd.prog.info? 5 = some i ∧ i.zero = some (.int .u8 0) ∧ i.size = 1 ∧ i.bytes = 1 := by
  have h : (Tryd.prog.info? 5).map (fun i => (i.zero, i.size, i.bytes)) = some (some (.int .u8 0), 1, 1) := by kernel_rfl
  obtain ⟨i, hi, hz⟩ := Option.map_eq_some_iff.1 h
  simp only [Prod.mk.injEq] at hz
  exact ⟨i, hi, hz.1, hz.2.1, hz.2.2⟩
set_option maxHeartbeats 4000000 in
theorem all32_v (w0 w : World) (hb0 : Below w0.heap.size w0 w) (B : Nat) (st : List Int) (hr : RS32 w B st) (hBn : w0.heap.size ≤ B) (hT : TabS w0) (v : Value) (ps : List (Value × List Int)) (hp : RdP w0 v ps) (hlen : (cat ps).length < 1099511627776) :
    Calls Tryd.prog 24 #[.pointer (some ⟨B, 0, none⟩), v] w fun e w' => (∃ v, e = .returned v) ∧ RS32 w' B (absorb32 (fed32 st (cat ps)) (padS (padB32 (held32 (cat ps)) ((cat ps).length % 64)) ((cat ps).length : Int) 8) (padN32 ((cat ps).length % 64) / 64)) ∧ w.grownBy w' (some B) := by
  obtain ⟨j0, hj, hy0, hy1, hy2⟩ := infoB32
  obtain ⟨a, cap, rfl, ⟨hpc, hcm⟩, hcell, hrd⟩ := hp
  have hpl : (ps.length : Int) ≤ 9223372036854775807 := by unfold maxLen at hcm; omega
  clear hpc hcm
  have hB := hr.lt
  have hwd := hr.width
  have hs0 := hb0.size
  replace hcell := Lib.hid hcell
  replace hrd := Lib.hid hrd
  have HBS := fun W => blockSize_v 32 W (by omega)
  go_enter Tryd.func24, Tryd.ntmps24
  go_wp2_with (first
    | (go_at_call 35; (with_reducible refine (HBS _).mono ?_); rintro e w9 ⟨rfl, rfl⟩)
    | (with_reducible refine at_n 16 ?_; refine wpList_make_own _ rfl _ _ 25 rfl w9.heap.size 5 j0 (.int .u8 0) 1 Tryd.underlying25 hj hy0 hy1 .i64 .i64 64 64 rfl rfl (by omega) (by rw [hy2]; omega) (by unfold maxLen; omega) (Nat.le_refl _) ?_; intro w1 hown1 hgr1))
  have hg1 : w9.grownBy w1 (some B) := ⟨hgr1.os, hgr1.tape, hgr1.output, hgr1.size, fun k hk _ => hgr1.block k hk (by simp)⟩
  have hr1 : RS32 w1 B st := hr.but hgr1 (by simp)
  clear hgr1 hwd
  go_loopw [5, 6, 19] (fun v5 v6 v19 wr => ∃ (i : Nat), i ≤ ps.length ∧ v19 = .int .i64 i ∧ v6 = .int .i64 ((cat (ps.take i)).length : Nat) ∧ v5 = .slice (some ⟨w9.heap.size, 0, none⟩) ((cat (ps.take i)).length % 64) 64 ∧ RS32 wr B (fed32 st (cat (ps.take i))) ∧ wr.ownsRow w9.heap.size 5 1 (.slice (some ⟨w9.heap.size, 0, none⟩) ((cat (ps.take i)).length % 64) 64) ((cat (ps.take i)).length % 64) ((held32 (cat (ps.take i))).map (Value.int .u8)) ∧ w9.grownBy wr (some B)) (fun _ _ i _ => ps.length - (intOf i).toNat)
  case atStart =>
    have z0 : cat (ps.take 0) = [] := by rw [List.take_zero]; rfl
    have z1 : fed32 st [] = st := by simp [fed32, absorb32]
    have z2 : held32 [] = [] := by simp [held32]
    refine ⟨0, by omega, rfl, by rw [z0]; rfl, by rw [z0]; rfl, by rw [z0, z1]; exact hr1, by rw [z0, z2]; exact hown1, hg1⟩
  case round =>
    clear hr1 hown1 hg1
    obtain ⟨i, hi, rfl, rfl, rfl, hr1, hown1, hg1⟩ := hrel
    have hB1 : Below w0.heap.size w0 wr := hb0.grown hg1 hs0 (fun k hk => by cases hk; exact hBn)
    by_cases hlt : i < ps.length
    · obtain ⟨x, o, rfl, hc⟩ := hcell.out i hlt
      obtain ⟨hrp, hbz⟩ := hrd.out _ (List.getElem_mem hlt)
      have hct := cat_take_succ hlt
      have hle := cat_take_len ps (i + 1)
      rw [hct, List.length_append] at hle
      have hltI : (i : Int) < (ps.length : Int) := by omega
      have hltH := Lib.hid hlt
      have hbD : RowKit.Hid (Bytes (cat (ps.take i))) := Lib.hid (cat_bytes fun p hp => (hrd.out p (List.mem_of_mem_take hp)).2)
      generalize (ps[i]'hlt).2 = zs at *
      generalize (ps[i]'hlt).1 = pv at *
      generalize hD : cat (ps.take i) = D at *
      replace hct := Lib.hid hct
      replace hD := Lib.hid hD
      replace hc : wr.cell? ⟨x, o + i, none⟩ = some pv := by rw [hB1.cell (World.block_lt_of_cell? w0 _ hc)]; exact hc
      obtain ⟨ap, capp, rfl, hp1, hp2, hp3, hp4⟩ := hrp
      have hrp : RdI .u8 w0 (.slice ap zs.length capp) zs := ⟨ap, capp, rfl, hp1, hp2, hp3, hp4⟩
      replace hp3 := Lib.hid hp3
      replace hrp := Lib.hid hrp
      have hDn : ((D.length : Nat) : Int) < 1099511627776 := by omega
      have hzn : ((zs.length : Nat) : Int) < 1099511627776 := by omega
      have hDl : (D.length : Int) + (zs.length : Int) < 1099511627776 := by omega
      clear hp4 hle
      go_wp2
      go_loopw [5, 8] (fun v5 v8 wq => ∃ (E rest : List Int), zs = E ++ rest ∧ RdI .u8 w0 v8 rest ∧ v5 = .slice (some ⟨w9.heap.size, 0, none⟩) ((D ++ E).length % 64) 64 ∧ RS32 wq B (fed32 st (D ++ E)) ∧ wq.ownsRow w9.heap.size 5 1 (.slice (some ⟨w9.heap.size, 0, none⟩) ((D ++ E).length % 64) 64) ((D ++ E).length % 64) ((held32 (D ++ E)).map (Value.int .u8)) ∧ w9.grownBy wq (some B)) (fun _ v8 _ => match v8 with | .slice _ n _ => n | _ => 0)
      case atStart => exact ⟨[], zs, rfl, hrp.out, by rw [List.append_nil], by rw [List.append_nil]; exact hr1, by rw [List.append_nil]; exact hown1, hg1⟩
      case round =>
        clear hr1 hown1 hg1 hB1 hc
        obtain ⟨E, rest, hz, hrq, rfl, hr1, hown1, hg1⟩ := hrel
        have hB1 := hb0.grown hg1 hs0 (fun k hk => by cases hk; exact hBn)
        have hzl : zs.length = E.length + rest.length := by rw [hz, List.length_append]
        have hFl : (D ++ E).length = D.length + E.length := List.length_append
        have hbF' : Bytes (D ++ E) := fun x hx => by
          rcases List.mem_append.1 hx with h | h
          · exact hbD.out x h
          · exact hbz x (by rw [hz]; simp [h])
        have hbr : Bytes rest := fun x hx => hbz x (by rw [hz]; simp [hx])
        obtain ⟨aq, capq, rfl, q1, q2, q3, q4⟩ := hrq
        have hrq : RdI .u8 w0 (.slice aq rest.length capq) rest := ⟨aq, capq, rfl, q1, q2, q3, q4⟩
        replace hrq := Lib.hid hrq
        replace q3 := Lib.hid q3
        by_cases hr0 : 0 < rest.length
        · obtain ⟨y, oy, rfl, -⟩ := q3.out 0 hr0
          have hn := Nat.mod_lt (D ++ E).length (show 0 < 64 by decide)
          have hhl := held32_len (D ++ E)
          have hrI : (0 : Int) < (rest.length : Int) := by omega
          replace hz := Lib.hid hz
          replace hzl := Lib.hid hzl
          replace hFl := Lib.hid hFl
          generalize hF : D ++ E = F at *
          have hbF := Lib.hid hbF'
          clear hbF'
          replace hF := Lib.hid hF
          generalize hnn : F.length % 64 = n at *
          replace hnn := Lib.hid hnn
          obtain ⟨c, hcd⟩ : ∃ c, c = if n + rest.length < 64 then rest.length else 64 - n := ⟨_, rfl⟩
          have hc0 : 0 < c ∧ c ≤ rest.length ∧ n + c ≤ 64 ∧ (n + c < 64 → c = rest.length) := by split at hcd <;> omega
          have hmin : min ((64 : Int) - (n : Int)) (rest.length : Int) = (c : Int) := by split at hcd <;> omega
          obtain ⟨hc1, hc2, hc3, hc4⟩ := hc0
          have hcI : (c : Int) ≤ (rest.length : Int) := by omega
          have hcI0 : (0 : Int) ≤ (c : Int) := by omega
          have hnw : ((rest.take c).map (Value.int .u8)).length = c * 1 := by simp [hc2]
          have hcw : ∀ j u, ((rest.take c).map (Value.int .u8))[j]? = some u → wr.cell? ((⟨y, oy, none⟩ : Addr).add j) = some u := fun j u hj => by
            have hjc : j < c := by
              have := (List.getElem?_eq_some_iff.1 hj).1
              rw [hnw] at this
              omega
            obtain ⟨y', oy', e, hcy⟩ := q3.out j (by omega)
            cases e
            rw [Addr.add_lit, hB1.cell (World.block_lt_of_cell? w0 _ hcy), hcy, ← hj]
            simp [hjc, at0, show j < rest.length by omega]
          have hone : ∀ u ∈ (rest.take c).map (Value.int .u8), u.oneCell' = true := by
            intro u hu
            obtain ⟨z, -, rfl⟩ := List.mem_map.1 hu
            rfl
          replace hnw := Lib.hid hnw
          replace hcw := Lib.hid hcw
          replace hone := Lib.hid hone
          replace hcd := Lib.hid hcd
          replace hc4 := Lib.hid hc4
          clear q4 hzn hDn hDl
          have hG : D ++ (E ++ rest.take c) = F ++ rest.take c := by rw [← List.append_assoc, hF.out]
          have hzc : zs = (E ++ rest.take c) ++ rest.drop c := by rw [List.append_assoc, List.take_append_drop]; exact hz.out
          have hXl : (rest.take c).length = c := by simp [hc2]
          have hBB : B ≠ w9.heap.size := by omega
          have hgB2 : ∀ w2, wr.grownBy w2 (some w9.heap.size) → w9.grownBy w2 (some B) := fun w2 hg2 => grown_on hg1 hg2 (Nat.le_refl _)
          have hTt := hT.lt
          have hTsq : 0 ≠ B := by omega
          have hTcu : 3 ≠ B := by omega
          have hcut : RdI .u8 w0 (.slice (if capq = c then some ⟨y, oy, none⟩ else some ⟨y, oy + c, none⟩) (rest.length - c) (capq - c)) (rest.drop c) := by
            by_cases e : capq = c
            · rw [if_pos e]; exact RdI.cut hrq.out hc2 (some ⟨y, oy, none⟩) (.inl e.symm) (fun _ => ⟨_, rfl⟩)
            · rw [if_neg e]; exact RdI.cut hrq.out hc2 (some ⟨y, oy + c, none⟩) (.inr rfl) (fun _ => ⟨_, rfl⟩)
          replace hG := Lib.hid hG
          replace hzc := Lib.hid hzc
          replace hXl := Lib.hid hXl
          replace hgB2 := Lib.hid hgB2
          replace hcut := Lib.hid hcut
          clear hz
          by_cases hful : n + c = 64
          · have hfI : ((n : Nat) : Int) + ((c : Nat) : Int) = 64 := by omega
            have hff := feed32_full st F (rest.take c) (by rw [hnn.out, hXl.out, hful])
            have hvl : (held32 F ++ rest.take c).length = 64 := by rw [List.length_append, hhl, hXl.out, hful]
            have hGl : (F ++ rest.take c).length % 64 = 0 := by rw [List.length_append, hXl.out]; have := hnn.out; omega
            have hvb : Bytes (held32 F ++ rest.take c) := bytes_app' (fun x hx => ?hb1) (fun x hx => hbr x (List.mem_of_mem_take hx))
            case hb1 => exact hbF.out x (List.mem_of_mem_drop hx)
            obtain ⟨hff1, hff2⟩ := hff
            replace hff1 := Lib.hid hff1
            replace hff2 := Lib.hid hff2
            replace hvb := Lib.hid hvb
            replace hGl := Lib.hid hGl
            replace hvl := Lib.hid hvl
            go_wp2_with (first
              | (with_reducible refine at_n 41 ?_; refine wpList_append_fits _ rfl _ _ 25 rfl w9.heap.size 5 j0 1 Tryd.underlying25 hj hy1 w9.heap.size n 64 _ rfl hown1 ⟨y, oy, none⟩ c capq _ rfl hnw.out hcw.out hone.out hc3 ?_; intro w2 hown2 hg2; rw [hful, ← List.map_append] at hown2; have hr2 := hr1.but hg2 (by simpa using hBB); have hgg2 := hgB2.out _ hg2; have hT2 : TabS w2 := hT.below (hb0.grown hgg2 hs0 (fun k hk => by cases hk; exact hBn)); have hv2 := RdI.of_own hown2; have HT := take32_v w2 B _ hr2 hT2 hTsq hTcu _ _ hv2 hvb.out hvl.out)
              | (go_at_call 38; (with_reducible refine HT.mono ?_); rintro e w3 ⟨⟨v9, rfl⟩, hr3, hg3⟩; have hown3 := own_zero (hown2.kept hg3 (.inr (by simpa [Value.ownBlock] using fun e => hBB e.symm))); have hgg3 := grown_then hgg2 hg3))
            refine ⟨⟨E ++ rest.take c, rest.drop c, hzc.out, hcut.out, by rw [hG.out, hGl.out], ?_, ?_, hgg3⟩, by show rest.length - c < rest.length; omega⟩
            · rw [hG.out, hff1.out]; exact hr3
            · rw [hG.out, hff2.out, hGl.out]; exact hown3
          · have hneI : ¬ (((n : Nat) : Int) + ((c : Nat) : Int) = 64) := by omega
            have hff := feed32_low st F (rest.take c) (by rw [hnn.out, hXl.out]; omega)
            have hGl : (F ++ rest.take c).length % 64 = n + c := by rw [List.length_append, hXl.out]; have := hnn.out; omega
            obtain ⟨hff1, hff2⟩ := hff
            replace hff1 := Lib.hid hff1
            replace hff2 := Lib.hid hff2
            replace hGl := Lib.hid hGl
            go_wp2_with (first
              | (with_reducible refine at_n 41 ?_; refine wpList_append_fits _ rfl _ _ 25 rfl w9.heap.size 5 j0 1 Tryd.underlying25 hj hy1 w9.heap.size n 64 _ rfl hown1 ⟨y, oy, none⟩ c capq _ rfl hnw.out hcw.out hone.out hc3 ?_; intro w2 hown2 hg2; rw [← List.map_append] at hown2; have hr2 := hr1.but hg2 (by simpa using hBB); have hgg2 := hgB2.out _ hg2))
            refine ⟨⟨E ++ rest.take c, rest.drop c, hzc.out, hcut.out, by rw [hG.out, hGl.out], ?_, ?_, hgg2⟩, by show rest.length - c < rest.length; omega⟩
            · rw [hG.out, hff1.out]; exact hr2
            · rw [hG.out, hff2.out, hGl.out]; exact hown2
        · have hre : rest = [] := List.length_eq_zero_iff.1 (by omega)
          subst hre
          rw [List.append_nil] at hz
          subst hz
          clear hrq q3
          go_wp2
          have hlt2 := hltH.out
          refine ⟨⟨i + 1, by omega, by go_num, ?_, by rw [hct.out], by rw [hct.out]; exact hr1, by rw [hct.out]; exact hown1, hg1⟩, by simp only [intOf]; omega⟩
          rw [hct.out, List.length_append, Int.natCast_add]
    · obtain rfl : i = ps.length := by omega
      rw [List.take_length] at hr1 hown1
      rw [List.take_length]
      generalize hD : cat ps = D at *
      have hhl := held32_len D
      have hbD : Bytes (held32 D) := fun x hx => by
        have := cat_bytes fun p hp => (hrd.out p hp).2
        rw [hD] at this
        exact this x (List.mem_of_mem_drop hx)
      have hT1 : TabS wr := hT.below hB1
      have hTt := hT.lt
      have hmod : D.length % 64 < 64 := Nat.mod_lt _ (by decide)
      have hcl : ∀ q, q < D.length % 64 → wr.cell? ⟨w9.heap.size, q, none⟩ = some (.int .u8 (at0 (held32 D) q)) := fun q hq => by
        have h := RdI.of_own hown1
        obtain ⟨a', cap', e', h1, h2, h3, -⟩ := h
        obtain ⟨x', o', e2, hc2⟩ := h3 q (by rw [hhl]; exact hq)
        simp only [Value.slice.injEq] at e'
        obtain ⟨ea, -, -⟩ := e'
        rw [← ea] at e2
        cases e2
        rwa [Nat.zero_add] at hc2
      have HL := last32_v wr B _ hr1 hT1 (by omega) (by omega) w9.heap.size (held32 D) (D.length % 64) hcl hhl hmod hbD (D.length : Int) (by omega) (by omega)
      clear hcl hown1
      go_wp2_with (first
        | (go_at_call 39; (with_reducible refine HL.mono ?_); rintro e w3 ⟨⟨v9, rfl⟩, hr3, hg3⟩))
      refine bodyPost_end (results_none rfl _ _ _) rfl ?_
      rw [hD]
      exact ⟨⟨_, rfl⟩, hr3, grown_then hg1 hg3⟩
end Go.Proofs.YtohnicmacmkapaaDoor
namespace Go.Proofs.YtohnicmacmkapaaDoor
open Go.RowKit
set_option linter.unusedVariables false
set_option maxRecDepth 8000

theorem wp_named {P : Program} {ops : Array Oper} {Q : Exit → Act → World → Prop} {l : List Oper} {a : Act} {w : World} (h : ∀ W, W = w → wpList P ops Q l a W) : wpList P ops Q l a w := h w rfl
/-- The sum of bytes. -/
def sum64 (D : List Int) : List Int := tell64 (absorb64 (fed64 begin64 D) (padS (padB64 (held64 D) (D.length % 128)) (D.length : Int) 8) (padN64 (D.length % 128) / 128))
theorem zero_b64 : (Tryd.prog.info? 30).bind (·.zero) = some (.agg (Array.replicate 64 (Value.int .u8 0))) := by kernel_rfl
theorem info_b64 : (Tryd.prog.info? 30).map (·.size) = some 64 := by kernel_rfl
theorem und_b64 : Tryd.prog.underlying 30 = some (.array 64 5) := by kernel_rfl
theorem zero_in64 : ∀ x ∈ List.replicate 8 (0 : Int), In64 x := fun x hx => by
  obtain ⟨-, rfl⟩ := List.mem_replicate.1 hx
  unfold In64; omega
theorem rs_new64 {w : World} {B : Nat} {cur : Array Value} {t : TypeId} (h : w.heap[B]? = some (.cells cur t (0, 0))) : RS64 (w.setRow B #[.int .i64 64, .int .i64 80, .int .u64 0, .int .u64 0, .int .u64 0, .int .u64 0, .int .u64 0, .int .u64 0, .int .u64 0, .int .u64 0, .func (.func 27) #[] #[], .func (.func 29) #[] #[], .func (.func 30) #[] #[], .func (.func 31) #[] #[]]) B (List.replicate 8 0) :=
  ⟨rfl, zero_in64, t, setRow_heap _ _ _ _ _ _ h⟩
set_option maxHeartbeats 4000000 in
theorem sum64_v (w : World) (hT : TabS w) (v : Value) (ps : List (Value × List Int)) (hp : RdP w v ps) (hlen : (cat ps).length < 1099511627776) :
    Calls Tryd.prog 12 #[v] w fun e w' => e = .returned (aggI .u8 (sum64 (cat ps))) ∧ Below w.heap.size w w' := by
  go_enter Tryd.func12, Tryd.ntmps12
  have hTt := hT.lt
  go_wp2_with (first
    | (with_reducible refine at_n 2 ?_; refine wpList_allocI rfl 30 rfl .u8 64 zero_b64 ?_; intro w1 A1 s1 b1)
    | (with_reducible refine at_op (o := ⟨_, .store 54 _ _, _, _, _, _⟩) ?_; refine wpList_store_row rfl 54 _ _ rfl w1.heap.size _ rfl rfl 54 _ (heap_alloc_new _ _) (by kernel_rfl) (by simp) (by simp [Value.oneCell']) ?_; refine wp_named fun w3 hw3 => ?_; have hr3 : RS64 w3 w1.heap.size (List.replicate 8 0) := (by rw [hw3]; exact rs_new64 (heap_alloc_new _ _)); have b3 : Below w1.heap.size w1 w3 := (by rw [hw3]; exact below_row ((Below.refl _ _).alloc (Nat.le_refl _) _) (Nat.le_refl _) _); clear hw3; have bb3 := below_then b1 b3; have hT3 := hT.below bb3; replace A1 := A1.below b3; have s3 := hr3.lt)
    | (go_at_call 32; (with_reducible refine (begin64_v w3 w1.heap.size _ hr3 hT3 (by omega) (by omega)).mono ?_); rintro e w4 ⟨⟨v4, rfl⟩, hr4, hg4⟩; have bb4 : Below w.heap.size w w4 := bb3.grown hg4 bb3.size (fun k hk => by cases hk; exact b1.size); replace A1 := arr_but A1 hg4 (by simp; omega))
    | (go_at_call 33; (with_reducible refine (all64_v w w4 bb4 w1.heap.size _ hr4 b1.size hT v ps hp hlen).mono ?_); rintro e w5 ⟨⟨v5, rfl⟩, hr5, hg5⟩; have bb5 : Below w.heap.size w w5 := bb4.grown hg5 bb4.size (fun k hk => by cases hk; exact b1.size); replace A1 := arr_but A1 hg5 (by simp; omega))
    | (with_reducible refine at_n 4 ?_; refine wpList_allocI rfl 30 rfl .u8 64 zero_b64 ?_; intro w6 A6 s6 b6; have bb6 := below_then bb5 b6; replace A1 := A1.below b6; have hr6 := hr5.below b6; have hz6 := A1.lt; have hz7 := hr5.lt; have hz8 := b1.size; have hz9 := bb5.size)
    | (go_at_call 34; (with_reducible refine (tell64_v w6 w1.heap.size w5.heap.size _ _ hr6 A6 (by simp) (by omega)).mono ?_); rintro e w7 ⟨⟨v7, rfl⟩, A7, hg7⟩; have bb7 : Below w.heap.size w w7 := bb6.grown hg7 bb6.size (fun k hk => by cases hk; exact bb5.size); replace A1 := arr_but A1 hg7 (by simp; omega))
    | (with_reducible refine at_n 11 ?_; refine wpList_loadI rfl 30 _ rfl 64 5 und_b64 info_b64 w5.heap.size rfl .u8 _ A7 (by simp [tell64]) ?_)
    | (with_reducible refine at_op (o := ⟨_, .store 30 _ _, _, _, _, _⟩) ?_; refine wpList_storeI rfl 30 _ _ rfl 64 info_b64 w.heap.size rfl .u8 _ _ rfl A1 (by simp) (by simp [tell64]) ?_; intro A9))
  refine bodyPost_ret (results_cellI rfl _ 64 5 und_b64 info_b64 w.heap.size rfl .u8 _ A9 (by simp [tell64])) rfl ?_
  exact ⟨rfl, below_row bb7 (Nat.le_refl _) _⟩
/-- The sum of bytes. -/
def sum32 (D : List Int) : List Int := tell32 (absorb32 (fed32 begin32 D) (padS (padB32 (held32 D) (D.length % 64)) (D.length : Int) 8) (padN32 (D.length % 64) / 64))
theorem zero_b32 : (Tryd.prog.info? 27).bind (·.zero) = some (.agg (Array.replicate 32 (Value.int .u8 0))) := by kernel_rfl
theorem info_b32 : (Tryd.prog.info? 27).map (·.size) = some 32 := by kernel_rfl
theorem und_b32 : Tryd.prog.underlying 27 = some (.array 32 5) := by kernel_rfl
theorem zero_in32 : ∀ x ∈ List.replicate 8 (0 : Int), In32 x := fun x hx => by
  obtain ⟨-, rfl⟩ := List.mem_replicate.1 hx
  unfold In32; omega
theorem rs_new32 {w : World} {B : Nat} {cur : Array Value} {t : TypeId} (h : w.heap[B]? = some (.cells cur t (0, 0))) : RS32 (w.setRow B #[.int .i64 32, .int .i64 64, .int .u32 0, .int .u32 0, .int .u32 0, .int .u32 0, .int .u32 0, .int .u32 0, .int .u32 0, .int .u32 0, .func (.func 18) #[] #[], .func (.func 20) #[] #[], .func (.func 21) #[] #[], .func (.func 22) #[] #[]]) B (List.replicate 8 0) :=
  ⟨rfl, zero_in32, t, setRow_heap _ _ _ _ _ _ h⟩
set_option maxHeartbeats 4000000 in
theorem sum32_v (w : World) (hT : TabS w) (v : Value) (ps : List (Value × List Int)) (hp : RdP w v ps) (hlen : (cat ps).length < 1099511627776) :
    Calls Tryd.prog 10 #[v] w fun e w' => e = .returned (aggI .u8 (sum32 (cat ps))) ∧ Below w.heap.size w w' := by
  go_enter Tryd.func10, Tryd.ntmps10
  have hTt := hT.lt
  go_wp2_with (first
    | (with_reducible refine at_n 2 ?_; refine wpList_allocI rfl 27 rfl .u8 32 zero_b32 ?_; intro w1 A1 s1 b1)
    | (with_reducible refine at_op (o := ⟨_, .store 45 _ _, _, _, _, _⟩) ?_; refine wpList_store_row rfl 45 _ _ rfl w1.heap.size _ rfl rfl 45 _ (heap_alloc_new _ _) (by kernel_rfl) (by simp) (by simp [Value.oneCell']) ?_; refine wp_named fun w3 hw3 => ?_; have hr3 : RS32 w3 w1.heap.size (List.replicate 8 0) := (by rw [hw3]; exact rs_new32 (heap_alloc_new _ _)); have b3 : Below w1.heap.size w1 w3 := (by rw [hw3]; exact below_row ((Below.refl _ _).alloc (Nat.le_refl _) _) (Nat.le_refl _) _); clear hw3; have bb3 := below_then b1 b3; have hT3 := hT.below bb3; replace A1 := A1.below b3; have s3 := hr3.lt)
    | (go_at_call 23; (with_reducible refine (begin32_v w3 w1.heap.size _ hr3 hT3 (by omega) (by omega)).mono ?_); rintro e w4 ⟨⟨v4, rfl⟩, hr4, hg4⟩; have bb4 : Below w.heap.size w w4 := bb3.grown hg4 bb3.size (fun k hk => by cases hk; exact b1.size); replace A1 := arr_but A1 hg4 (by simp; omega))
    | (go_at_call 24; (with_reducible refine (all32_v w w4 bb4 w1.heap.size _ hr4 b1.size hT v ps hp hlen).mono ?_); rintro e w5 ⟨⟨v5, rfl⟩, hr5, hg5⟩; have bb5 : Below w.heap.size w w5 := bb4.grown hg5 bb4.size (fun k hk => by cases hk; exact b1.size); replace A1 := arr_but A1 hg5 (by simp; omega))
    | (with_reducible refine at_n 4 ?_; refine wpList_allocI rfl 27 rfl .u8 32 zero_b32 ?_; intro w6 A6 s6 b6; have bb6 := below_then bb5 b6; replace A1 := A1.below b6; have hr6 := hr5.below b6; have hz6 := A1.lt; have hz7 := hr5.lt; have hz8 := b1.size; have hz9 := bb5.size)
    | (go_at_call 25; (with_reducible refine (tell32_v w6 w1.heap.size w5.heap.size _ _ hr6 A6 (by simp) (by omega)).mono ?_); rintro e w7 ⟨⟨v7, rfl⟩, A7, hg7⟩; have bb7 : Below w.heap.size w w7 := bb6.grown hg7 bb6.size (fun k hk => by cases hk; exact bb5.size); replace A1 := arr_but A1 hg7 (by simp; omega))
    | (with_reducible refine at_n 11 ?_; refine wpList_loadI rfl 27 _ rfl 32 5 und_b32 info_b32 w5.heap.size rfl .u8 _ A7 (by simp [tell32]) ?_)
    | (with_reducible refine at_op (o := ⟨_, .store 27 _ _, _, _, _, _⟩) ?_; refine wpList_storeI rfl 27 _ _ rfl 32 info_b32 w.heap.size rfl .u8 _ _ rfl A1 (by simp) (by simp [tell32]) ?_; intro A9))
  refine bodyPost_ret (results_cellI rfl _ 32 5 und_b32 info_b32 w.heap.size rfl .u8 _ A9 (by simp [tell32])) rfl ?_
  exact ⟨rfl, below_row bb7 (Nat.le_refl _) _⟩
end Go.Proofs.YtohnicmacmkapaaDoor
namespace Go.Proofs.YtohnicmacmkapaaDoor
open Go.RowKit
set_option linter.unusedVariables false
set_option maxRecDepth 8000

theorem or_comm64 {a b : Int} (ha : In64 a) (hb : In64 b) : bits BinOp.or .u64 a b = bits BinOp.or .u64 b a := by
  obtain ⟨a, rfl⟩ := Int.eq_ofNat_of_zero_le ha.1
  obtain ⟨b, rfl⟩ := Int.eq_ofNat_of_zero_le hb.1
  have h1 := ha.2
  have h2 := hb.2
  rw [u64_or_nat a b (by omega) (by omega), u64_or_nat b a (by omega) (by omega), Nat.or_comm]
theorem pow_cast (n : Nat) : (2 : Int) ^ n = ((2 ^ n : Nat) : Int) := by simp
theorem turn64_eq (x n : Int) (hx : In64 x) (h0 : 0 < n) (h1 : n < 64) : bits BinOp.or .u64 (x / 2 ^ n.toNat) (x * 2 ^ (64 - n).toNat % 18446744073709551616) = rot64 x (64 - n) := by
  unfold rot64
  rw [show (64 - (64 - n)).toNat = n.toNat by omega]
  refine or_comm64 ⟨?_, ?_⟩ ⟨?_, ?_⟩
  · exact Int.ediv_nonneg hx.1 (by rw [pow_cast]; exact Int.natCast_nonneg _)
  · exact Int.lt_of_le_of_lt (Int.ediv_le_self _ hx.1) hx.2
  · omega
  · omega
theorem turn32_eq (x n : Int) (hx : In32 x) (h0 : 0 < n) (h1 : n < 32) : bits BinOp.or .u64 (x / 2 ^ n.toNat) (x * 2 ^ (32 - n).toNat % 18446744073709551616) % 4294967296 = rot32 x (32 - n) := by
  unfold rot32
  rw [show (32 - (32 - n)).toNat = n.toNat by omega]
  obtain ⟨a, rfl⟩ := Int.eq_ofNat_of_zero_le hx.1
  have h2 := hx.2
  generalize n.toNat = i at *
  generalize (32 - n).toNat = j at *
  have ha : a < 4294967296 := by omega
  have hd : a / 2 ^ i ≤ a := Nat.div_le_self _ _
  have e1 : (a : Int) / 2 ^ i = ((a / 2 ^ i : Nat) : Int) := by rw [pow_cast]; exact (Int.natCast_ediv a (2 ^ i)).symm
  have e2 : (a : Int) * 2 ^ j % 18446744073709551616 = ((a * 2 ^ j % 18446744073709551616 : Nat) : Int) := by rw [pow_cast]; omega
  have e3 : (a : Int) * 2 ^ j % 4294967296 = ((a * 2 ^ j % 4294967296 : Nat) : Int) := by rw [pow_cast]; omega
  rw [e1, e2, e3, u64_or_nat _ _ (by omega) (by omega), u32_or_nat _ _ (by omega) (by omega)]
  have e4 : (a / 2 ^ i ||| a * 2 ^ j % 18446744073709551616) % 4294967296 = a * 2 ^ j % 4294967296 ||| a / 2 ^ i := by
    rw [show (4294967296 : Nat) = 2 ^ 32 from rfl, Nat.or_mod_two_pow, Nat.or_comm, Nat.mod_eq_of_lt (a := a / 2 ^ i) (by omega)]
    congr 1
    omega
  rw [← e4]
  omega
theorem xor_32 {a b : Int} (ha : In32 a) (hb : In32 b) : bits BinOp.xor .u64 a b = bits BinOp.xor .u32 a b := by
  obtain ⟨a, rfl⟩ := Int.eq_ofNat_of_zero_le ha.1
  obtain ⟨b, rfl⟩ := Int.eq_ofNat_of_zero_le hb.1
  have h1 := ha.2
  have h2 := hb.2
  rw [u64_xor_nat a b (by omega) (by omega), u32_xor_nat a b (by omega) (by omega)]
theorem and_32 {a b : Int} (ha : In32 a) (hb : In32 b) : bits BinOp.and .u64 a b = bits BinOp.and .u32 a b := by
  obtain ⟨a, rfl⟩ := Int.eq_ofNat_of_zero_le ha.1
  obtain ⟨b, rfl⟩ := Int.eq_ofNat_of_zero_le hb.1
  have h1 := ha.2
  have h2 := hb.2
  rw [u64_and_nat a b (by omega) (by omega), u32_and_nat a b (by omega) (by omega)]
theorem ones_and (e g : Nat) (hg : g < 4294967296) : (18446744073709551615 ^^^ e) &&& g = (4294967295 ^^^ e) &&& g := by
  apply Nat.eq_of_testBit_eq
  intro i
  simp only [Nat.testBit_and, Nat.testBit_xor]
  by_cases hi : i < 32
  · have h1 : Nat.testBit 18446744073709551615 i = true := by
      rw [show 18446744073709551615 = 2 ^ 64 - 1 from rfl, Nat.testBit_two_pow_sub_one]; simp; omega
    have h2 : Nat.testBit 4294967295 i = true := by
      rw [show 4294967295 = 2 ^ 32 - 1 from rfl, Nat.testBit_two_pow_sub_one]; simp; omega
    rw [h1, h2]
  · have h3 : Nat.testBit g i = false := Nat.testBit_lt_two_pow (Nat.lt_of_lt_of_le hg (by rw [show (4294967296 : Nat) = 2 ^ 32 from rfl]; exact Nat.pow_le_pow_right (by decide) (by omega)))
    rw [h3]; simp
theorem notand_32 {e g : Int} (he : In32 e) (hg : In32 g) : bits BinOp.and .u64 (not64 e) g = bits BinOp.and .u32 (not32 e) g := by
  obtain ⟨a, rfl⟩ := Int.eq_ofNat_of_zero_le he.1
  obtain ⟨b, rfl⟩ := Int.eq_ofNat_of_zero_le hg.1
  have h1 := he.2
  have h2 := hg.2
  have e1 : not64 (a : Int) = ((18446744073709551615 ^^^ a : Nat) : Int) := u64_xor_nat 18446744073709551615 a (by omega) (by omega)
  have e2 : not32 (a : Int) = ((4294967295 ^^^ a : Nat) : Int) := u32_xor_nat 4294967295 a (by omega) (by omega)
  have b1 : 18446744073709551615 ^^^ a < 2 ^ 64 := Nat.xor_lt_two_pow (by omega) (by omega)
  have b2 : 4294967295 ^^^ a < 2 ^ 32 := Nat.xor_lt_two_pow (by omega) (by omega)
  rw [e1, e2, u64_and_nat _ b (by omega) (by omega), u32_and_nat _ b (by omega) (by omega), ones_and a b (by omega)]
/-- What is laid behind so many bytes: one bit, k bytes in all, the number of bits. -/
def lensL (n : Nat) : List Int := (List.range 8).map fun j => (n : Int) * 8 / 2 ^ (8 * (7 - j)) % 256
theorem lensL_len (n : Nat) : (lensL n).length = 8 := rfl
theorem lensL_at (n j : Nat) (h : j < 8) : at0 (lensL n) j = (n : Int) * 8 / 2 ^ (8 * (7 - j)) % 256 := by simp [lensL, at0, h]
def tailZ (k n : Nat) : List Int := 128 :: (List.replicate (k - 9) 0 ++ lensL n)
theorem tailZ_len (k n : Nat) (h : 9 ≤ k) : (tailZ k n).length = k := by simp [tailZ, lensL_len]; omega
theorem tailZ_bytes (k n : Nat) : Bytes (tailZ k n) := by
  intro x hx
  rcases List.mem_cons.1 hx with rfl | hx
  · decide
  · rcases List.mem_append.1 hx with hx | hx
    · obtain ⟨-, rfl⟩ := List.mem_replicate.1 hx; decide
    · obtain ⟨j, -, rfl⟩ := List.mem_map.1 hx; omega
theorem at0_app (a b : List Int) (j : Nat) : at0 (a ++ b) j = if j < a.length then at0 a j else at0 b (j - a.length) := by
  unfold at0
  by_cases h : j < a.length
  · rw [if_pos h, List.getElem?_append_left h]
  · rw [if_neg h, List.getElem?_append_right (by omega)]
theorem at0_rep0 (n j : Nat) : at0 (List.replicate n 0) j = 0 := by
  unfold at0
  rw [List.getElem?_replicate]
  split <;> rfl
theorem tailZ_at (k n j : Nat) (h : 9 ≤ k) : at0 (tailZ k n) j = if j = 0 then 128 else if k ≤ j then 0 else if k ≤ j + 8 then (n : Int) * 8 / 2 ^ (8 * (k - 1 - j)) % 256 else 0 := by
  unfold tailZ
  cases j with
  | zero => rfl
  | succ j =>
    rw [at0_cons_succ, at0_app, List.length_replicate, if_neg (by omega : ¬ j + 1 = 0)]
    by_cases h1 : j < k - 9
    · rw [if_pos h1, at0_rep0, if_neg (by omega), if_neg (by omega)]
    · rw [if_neg h1]
      by_cases h2 : k ≤ j + 1
      · rw [if_pos h2]
        have : ¬ j - (k - 9) < (lensL n).length := by rw [lensL_len]; omega
        unfold at0
        rw [List.getElem?_eq_none (by omega)]; rfl
      · rw [if_neg h2, if_pos (by omega), lensL_at n _ (by omega), show 7 - (j - (k - 9)) = k - 1 - (j + 1) by omega]
theorem padS_at (p : List Int) (tot : Int) (j : Nat) (hj : j < p.length) : ∀ k, k ≤ p.length → at0 (padS p tot k) j = if p.length ≤ j + k then tot * 8 / 2 ^ (8 * (p.length - 1 - j)) % 256 else at0 p j
  | 0, _ => by rw [if_neg (by omega)]; rfl
  | k + 1, h => by
    show at0 ((padS p tot k).set (p.length - 1 - k) _) j = _
    rw [at0_set _ _ _ _ (by rw [padS_len]; omega), padS_at p tot j hj k (by omega)]
    by_cases e : j = p.length - 1 - k
    · rw [if_pos e, if_pos (by omega), show p.length - 1 - j = k by omega]
    · rw [if_neg e]
      by_cases h2 : p.length ≤ j + k
      · rw [if_pos h2, if_pos (by omega)]
      · rw [if_neg h2, if_neg (by omega)]
theorem padB32_at (hl : List Int) (n : Nat) (hn : n < 64) (hh : hl.length = n) (j : Nat) : at0 (padB32 hl n) j = if j = n then 128 else if j < n then at0 hl j else 0 := by
  have hp := padN32_le n hn
  unfold padB32
  rw [at0_set _ _ _ _ (by simp [hh]; omega)]
  by_cases e : j = n
  · rw [if_pos e, if_pos e]
  · rw [if_neg e, if_neg e, at0_app, List.take_of_length_le (by omega), hh]
    by_cases h : j < n
    · rw [if_pos h, if_pos h]
    · rw [if_neg h, if_neg h, at0_rep0]
theorem padN32_split (n : Nat) : padN32 n = n / 64 * 64 + padN32 (n % 64) := by unfold padN32; omega
theorem pad_same32 (D : List Int) : padS (padB32 (held32 D) (D.length % 64)) (D.length : Int) 8 = held32 D ++ tailZ (padN32 D.length - D.length) D.length := by
  have hm : D.length % 64 < 64 := Nat.mod_lt _ (by decide)
  have hh := held32_len D
  have hp := padN32_le (D.length % 64) hm
  have hs := padN32_split D.length
  have hl := padB32_len (held32 D) (D.length % 64) hm hh
  have hk : padN32 D.length - D.length = padN32 (D.length % 64) - D.length % 64 := by omega
  have hb := padB32_at (held32 D) (D.length % 64) hm hh
  rw [hk]
  clear hs hk
  generalize padN32 (D.length % 64) = N at *
  generalize D.length % 64 = n at *
  refine eq_of_all ?_ fun j hj => ?_
  · rw [padS_len, List.length_append, tailZ_len _ _ (by omega), hh, hl]; omega
  · rw [padS_len, hl] at hj
    rw [padS_at _ _ _ (by rw [hl]; exact hj) 8 (by rw [hl]; omega), hl, hb j, at0_app, hh, tailZ_at _ _ _ (by omega)]
    by_cases h1 : j < n
    · rw [if_neg (by omega : ¬ N ≤ j + 8), if_neg (by omega : ¬ j = n), if_pos h1, if_pos h1]
    · rw [if_neg h1, if_neg h1]
      by_cases h2 : j = n
      · rw [if_neg (by omega : ¬ N ≤ j + 8), if_pos h2, if_pos (by omega : j - n = 0)]
      · rw [if_neg h2, if_neg (by omega : ¬ j - n = 0), if_neg (by omega : ¬ N - n ≤ j - n)]
        by_cases h3 : N ≤ j + 8
        · rw [if_pos h3, if_pos (by omega), show N - n - 1 - (j - n) = N - 1 - j by omega]
        · rw [if_neg h3, if_neg (by omega)]
theorem absorb32_split (st Z : List Int) (q : Nat) : ∀ j, absorb32 st Z (q + j) = absorb32 (absorb32 st Z q) (Z.drop (q * 64)) j
  | 0 => rfl
  | j + 1 => by
    show take32 (absorb32 st Z (q + j)) ((Z.drop ((q + j) * 64)).take 64) = take32 (absorb32 (absorb32 st Z q) (Z.drop (q * 64)) j) (((Z.drop (q * 64)).drop (j * 64)).take 64)
    rw [absorb32_split st Z q j, List.drop_drop, show (q + j) * 64 = q * 64 + j * 64 by omega]
/-- The bytes with what is padded. -/
def full32 (D : List Int) : List Int := D ++ tailZ (padN32 D.length - D.length) D.length
theorem full32_len (D : List Int) : (full32 D).length = padN32 D.length := by
  have : D.length + 8 < padN32 D.length := by unfold padN32; omega
  rw [full32, List.length_append, tailZ_len _ _ (by omega)]
  omega
theorem sum32_full (D : List Int) : sum32 D = tell32 (absorb32 begin32 (full32 D) (padN32 D.length / 64)) := by
  have hs := padN32_split D.length
  have hp := padN32_le (D.length % 64) (Nat.mod_lt _ (by decide))
  have e : padN32 D.length / 64 = D.length / 64 + padN32 (D.length % 64) / 64 := by omega
  unfold sum32
  rw [pad_same32, e, absorb32_split]
  unfold full32
  rw [absorb32_app _ _ _ _ (Nat.div_mul_le_self _ _), List.drop_append_of_le_length (Nat.div_mul_le_self _ _)]
  rfl
theorem padB64_at (hl : List Int) (n : Nat) (hn : n < 128) (hh : hl.length = n) (j : Nat) : at0 (padB64 hl n) j = if j = n then 128 else if j < n then at0 hl j else 0 := by
  have hp := padN64_le n hn
  unfold padB64
  rw [at0_set _ _ _ _ (by simp [hh]; omega)]
  by_cases e : j = n
  · rw [if_pos e, if_pos e]
  · rw [if_neg e, if_neg e, at0_app, List.take_of_length_le (by omega), hh]
    by_cases h : j < n
    · rw [if_pos h, if_pos h]
    · rw [if_neg h, if_neg h, at0_rep0]
theorem padN64_split (n : Nat) : padN64 n = n / 128 * 128 + padN64 (n % 128) := by unfold padN64; omega
theorem pad_same64 (D : List Int) : padS (padB64 (held64 D) (D.length % 128)) (D.length : Int) 8 = held64 D ++ tailZ (padN64 D.length - D.length) D.length := by
  have hm : D.length % 128 < 128 := Nat.mod_lt _ (by decide)
  have hh := held64_len D
  have hp := padN64_le (D.length % 128) hm
  have hs := padN64_split D.length
  have hl := padB64_len (held64 D) (D.length % 128) hm hh
  have hk : padN64 D.length - D.length = padN64 (D.length % 128) - D.length % 128 := by omega
  have hb := padB64_at (held64 D) (D.length % 128) hm hh
  rw [hk]
  clear hs hk
  generalize padN64 (D.length % 128) = N at *
  generalize D.length % 128 = n at *
  refine eq_of_all ?_ fun j hj => ?_
  · rw [padS_len, List.length_append, tailZ_len _ _ (by omega), hh, hl]; omega
  · rw [padS_len, hl] at hj
    rw [padS_at _ _ _ (by rw [hl]; exact hj) 8 (by rw [hl]; omega), hl, hb j, at0_app, hh, tailZ_at _ _ _ (by omega)]
    by_cases h1 : j < n
    · rw [if_neg (by omega : ¬ N ≤ j + 8), if_neg (by omega : ¬ j = n), if_pos h1, if_pos h1]
    · rw [if_neg h1, if_neg h1]
      by_cases h2 : j = n
      · rw [if_neg (by omega : ¬ N ≤ j + 8), if_pos h2, if_pos (by omega : j - n = 0)]
      · rw [if_neg h2, if_neg (by omega : ¬ j - n = 0), if_neg (by omega : ¬ N - n ≤ j - n)]
        by_cases h3 : N ≤ j + 8
        · rw [if_pos h3, if_pos (by omega), show N - n - 1 - (j - n) = N - 1 - j by omega]
        · rw [if_neg h3, if_neg (by omega)]
theorem absorb64_split (st Z : List Int) (q : Nat) : ∀ j, absorb64 st Z (q + j) = absorb64 (absorb64 st Z q) (Z.drop (q * 128)) j
  | 0 => rfl
  | j + 1 => by
    show take64 (absorb64 st Z (q + j)) ((Z.drop ((q + j) * 128)).take 128) = take64 (absorb64 (absorb64 st Z q) (Z.drop (q * 128)) j) (((Z.drop (q * 128)).drop (j * 128)).take 128)
    rw [absorb64_split st Z q j, List.drop_drop, show (q + j) * 128 = q * 128 + j * 128 by omega]
/-- The bytes with what is padded. -/
def full64 (D : List Int) : List Int := D ++ tailZ (padN64 D.length - D.length) D.length
theorem full64_len (D : List Int) : (full64 D).length = padN64 D.length := by
  have : D.length + 16 < padN64 D.length := by unfold padN64; omega
  rw [full64, List.length_append, tailZ_len _ _ (by omega)]
  omega
theorem sum64_full (D : List Int) : sum64 D = tell64 (absorb64 begin64 (full64 D) (padN64 D.length / 128)) := by
  have hs := padN64_split D.length
  have hp := padN64_le (D.length % 128) (Nat.mod_lt _ (by decide))
  have e : padN64 D.length / 128 = D.length / 128 + padN64 (D.length % 128) / 128 := by omega
  unfold sum64
  rw [pad_same64, e, absorb64_split]
  unfold full64
  rw [absorb64_app _ _ _ _ (Nat.div_mul_le_self _ _), List.drop_append_of_le_length (Nat.div_mul_le_self _ _)]
  rfl
end Go.Proofs.YtohnicmacmkapaaDoor
namespace Go.Proofs.YtohnicmacmkapaaDoor
open Go.RowKit
set_option linter.unusedVariables false
set_option maxRecDepth 8000

theorem ref_cut32_v (x : Int) (w : World) (hx : In64 x) : Calls Tryd.prog 40 #[.int .u64 x, .int .i64 32] w fun e w' => e = .returned (.int .u64 (x % 4294967296)) ∧ w' = w := by
  obtain ⟨h0, h1⟩ := hx
  go_enter Tryd.func40, Tryd.ntmps40
  go_wp2
  go_ret
  exact ⟨rfl, rfl⟩
theorem ref_cut64_v (x : Int) (w : World) (hx : In64 x) : Calls Tryd.prog 40 #[.int .u64 x, .int .i64 64] w fun e w' => e = .returned (.int .u64 x) ∧ w' = w := by
  obtain ⟨h0, h1⟩ := hx
  go_enter Tryd.func40, Tryd.ntmps40
  go_wp2
  go_ret
  exact ⟨rfl, rfl⟩
theorem in32_64 {x : Int} (h : In32 x) : In64 x := by unfold In32 at h; unfold In64; omega
def mixv32 (x a b c : Int) (sh : Bool) : Int := bits BinOp.xor .u32 (bits BinOp.xor .u32 (rot32 x (32 - a)) (rot32 x (32 - b))) (if sh then x / 2 ^ c.toNat else rot32 x (32 - c))
def mixv64 (x a b c : Int) (sh : Bool) : Int := bits BinOp.xor .u64 (bits BinOp.xor .u64 (rot64 x (64 - a)) (rot64 x (64 - b))) (if sh then x / 2 ^ c.toNat else rot64 x (64 - c))
theorem rot32_in (x s : Int) : In32 (rot32 x s) := bits_in32 _ _ _
theorem rot64_in (x s : Int) : In64 (rot64 x s) := bits_in64 _ _ _
theorem mixv32_in (x a b c : Int) (sh : Bool) : In32 (mixv32 x a b c sh) := bits_in32 _ _ _
theorem mixv64_in (x a b c : Int) (sh : Bool) : In64 (mixv64 x a b c sh) := bits_in64 _ _ _
theorem mix_A32 (x : Int) : mixv32 x 2 13 22 false = bigA32 x := rfl
theorem mix_B32 (x : Int) : mixv32 x 6 11 25 false = bigB32 x := rfl
theorem mix_a32 (x : Int) : mixv32 x 7 18 3 true = lowA32 x := rfl
theorem mix_b32 (x : Int) : mixv32 x 17 19 10 true = lowB32 x := rfl
theorem mix_A64 (x : Int) : mixv64 x 28 34 39 false = bigA64 x := rfl
theorem mix_B64 (x : Int) : mixv64 x 14 18 41 false = bigB64 x := rfl
theorem mix_a64 (x : Int) : mixv64 x 1 8 7 true = lowA64 x := rfl
theorem mix_b64 (x : Int) : mixv64 x 19 61 6 true = lowB64 x := rfl
theorem und_i3 : Tryd.prog.underlying 59 = some (.array 3 3) := by kernel_rfl
theorem info_i3 : (Tryd.prog.info? 59).map (·.size) = some 3 := by kernel_rfl
theorem shr_in {x : Int} (n : Nat) (h : In64 x) : In64 (x / 2 ^ n) := ⟨Int.ediv_nonneg h.1 (by rw [pow_cast]; exact Int.natCast_nonneg _), Int.lt_of_le_of_lt (Int.ediv_le_self _ h.1) h.2⟩
theorem shr_in32 {x : Int} (n : Nat) (h : In32 x) : In32 (x / 2 ^ n) := ⟨Int.ediv_nonneg h.1 (by rw [pow_cast]; exact Int.natCast_nonneg _), Int.lt_of_le_of_lt (Int.ediv_le_self _ h.1) h.2⟩
theorem ref_turn32_v (x n : Int) (w : World) (hx : In32 x) (h0 : 0 < n) (h1 : n < 32) : Calls Tryd.prog 46 #[.int .u64 x, .int .i64 n, .int .i64 32] w fun e w' => e = .returned (.int .u64 (rot32 x (32 - n))) ∧ w' = w := by
  have hq := turn32_eq x n hx h0 h1
  rw [← wrap_u64_eq] at hq
  have hc := fun W => ref_cut32_v (bits BinOp.or .u64 (x / 2 ^ n.toNat) (IntKind.u64.wrap (x * 2 ^ (32 - n).toNat))) W (bits_in64 _ _ _)
  simp only [hq] at hc
  replace hc := Lib.hid hc
  clear hq
  obtain ⟨x0, x1⟩ := hx
  go_enter Tryd.func46, Tryd.ntmps46
  go_wp2_with (first
    | (go_at_call 40; (with_reducible refine (hc.out _).mono ?_); rintro e w1 ⟨rfl, rfl⟩))
  go_ret
  exact ⟨rfl, rfl⟩
set_option maxHeartbeats 1000000 in
theorem ref_mixfalse32_v (x a b c : Int) (w : World) (hx : In32 x) (ha : 0 < a ∧ a < 32) (hb : 0 < b ∧ b < 32) (hc : 0 < c ∧ c < 32) : Calls Tryd.prog 41 #[.int .u64 x, aggI .i64 [a, b, c], .bool false, .int .i64 32] w fun e w' => e = .returned (.int .u64 (mixv32 x a b c false)) ∧ Below w.heap.size w w' := by
  have hA := fun W => ref_turn32_v x a W hx ha.1 ha.2
  have hB := fun W => ref_turn32_v x b W hx hb.1 hb.2
  have hC := fun W => ref_turn32_v x c W hx hc.1 hc.2
  have mx : mixv32 x a b c false = bits BinOp.xor .u32 (bits BinOp.xor .u32 (rot32 x (32 - a)) (rot32 x (32 - b))) (rot32 x (32 - c)) := rfl
  have i1 := rot32_in x (32 - a)
  have i2 := rot32_in x (32 - b)
  have i3 := rot32_in x (32 - c)
  have i4 := shr_in32 c.toNat hx
  have j1 := xor_32 i1 i2
  have j2 := xor_32 (bits_in32 BinOp.xor (rot32 x (32 - a)) (rot32 x (32 - b))) i3
  have j3 : In64 (bits BinOp.xor .u32 (rot32 x (32 - a)) (rot32 x (32 - b))) := in32_64 (bits_in32 _ _ _)
  generalize mixv32 x a b c false = m at *
  generalize rot32 x (32 - a) = ra at *
  generalize rot32 x (32 - b) = rb at *
  generalize rot32 x (32 - c) = rc at *
  replace hA := Lib.hid hA
  replace hB := Lib.hid hB
  replace hC := Lib.hid hC
  obtain ⟨x0, x1⟩ := hx
  obtain ⟨a0, a1⟩ := ha
  obtain ⟨b0, b1⟩ := hb
  obtain ⟨c0, c1⟩ := hc
  have mx' := Lib.hid mx
  clear mx
  have mx2 : RowKit.Hid (bits BinOp.xor .u64 (bits BinOp.xor .u64 ra rb) (rc) = m) := Lib.hid (by rw [j1, j2, mx'.out])
  clear j1 j2 j3
  clear i1 i2 i3 i4
  go_enter Tryd.func41, Tryd.ntmps41
  go_wp2_with (first
    | ((with_reducible (refine at_n 5 ?_; refine wpList_boxI rfl 59 _ rfl .i64 [a, b, c] rfl ?_)); (intro w1 A1 s1 b1; have ka : w1.cell? ⟨w.heap.size, 0, none⟩ = some (.int .i64 a) := A1.cell (k := 0) (by simp); have kb : w1.cell? ⟨w.heap.size, 1, none⟩ = some (.int .i64 b) := A1.cell (k := 1) (by simp); have kc : w1.cell? ⟨w.heap.size, 2, none⟩ = some (.int .i64 c) := A1.cell (k := 2) (by simp)))
    | (go_at_call 46; (with_reducible refine (hC.out _).mono ?_); rintro e w2 ⟨rfl, rfl⟩))
  go_quiet ((go_at_call 46; first | (with_reducible exact Calls.quiet_of_same (hA.out _)) | (with_reducible exact Calls.quiet_of_same (hB.out _))))
  go_wp2
  go_ret
  exact ⟨congrArg (fun t => Ending.returned (.int .u64 t)) mx2.out, below_drewN b1 _⟩
set_option maxHeartbeats 1000000 in
theorem ref_mixtrue32_v (x a b c : Int) (w : World) (hx : In32 x) (ha : 0 < a ∧ a < 32) (hb : 0 < b ∧ b < 32) (hc : 0 < c ∧ c < 32) : Calls Tryd.prog 41 #[.int .u64 x, aggI .i64 [a, b, c], .bool true, .int .i64 32] w fun e w' => e = .returned (.int .u64 (mixv32 x a b c true)) ∧ Below w.heap.size w w' := by
  have hA := fun W => ref_turn32_v x a W hx ha.1 ha.2
  have hB := fun W => ref_turn32_v x b W hx hb.1 hb.2
  have hC := fun W => ref_turn32_v x c W hx hc.1 hc.2
  have mx : mixv32 x a b c true = bits BinOp.xor .u32 (bits BinOp.xor .u32 (rot32 x (32 - a)) (rot32 x (32 - b))) (x / 2 ^ c.toNat) := rfl
  have i1 := rot32_in x (32 - a)
  have i2 := rot32_in x (32 - b)
  have i3 := rot32_in x (32 - c)
  have i4 := shr_in32 c.toNat hx
  have j1 := xor_32 i1 i2
  have j2 := xor_32 (bits_in32 BinOp.xor (rot32 x (32 - a)) (rot32 x (32 - b))) i4
  have j3 : In64 (bits BinOp.xor .u32 (rot32 x (32 - a)) (rot32 x (32 - b))) := in32_64 (bits_in32 _ _ _)
  generalize mixv32 x a b c true = m at *
  generalize rot32 x (32 - a) = ra at *
  generalize rot32 x (32 - b) = rb at *
  generalize rot32 x (32 - c) = rc at *
  replace hA := Lib.hid hA
  replace hB := Lib.hid hB
  replace hC := Lib.hid hC
  obtain ⟨x0, x1⟩ := hx
  obtain ⟨a0, a1⟩ := ha
  obtain ⟨b0, b1⟩ := hb
  obtain ⟨c0, c1⟩ := hc
  have mx' := Lib.hid mx
  clear mx
  have mx2 : RowKit.Hid (bits BinOp.xor .u64 (bits BinOp.xor .u64 ra rb) (x / 2 ^ c.toNat) = m) := Lib.hid (by rw [j1, j2, mx'.out])
  clear j1 j2 j3
  clear i1 i2 i3 i4
  go_enter Tryd.func41, Tryd.ntmps41
  go_wp2_with (first
    | ((with_reducible (refine at_n 5 ?_; refine wpList_boxI rfl 59 _ rfl .i64 [a, b, c] rfl ?_)); (intro w1 A1 s1 b1; have ka : w1.cell? ⟨w.heap.size, 0, none⟩ = some (.int .i64 a) := A1.cell (k := 0) (by simp); have kb : w1.cell? ⟨w.heap.size, 1, none⟩ = some (.int .i64 b) := A1.cell (k := 1) (by simp); have kc : w1.cell? ⟨w.heap.size, 2, none⟩ = some (.int .i64 c) := A1.cell (k := 2) (by simp)))
    | (go_at_call 46; (with_reducible refine (hC.out _).mono ?_); rintro e w2 ⟨rfl, rfl⟩))
  go_quiet ((go_at_call 46; first | (with_reducible exact Calls.quiet_of_same (hA.out _)) | (with_reducible exact Calls.quiet_of_same (hB.out _))))
  go_wp2
  go_ret
  exact ⟨congrArg (fun t => Ending.returned (.int .u64 t)) mx2.out, below_drewN b1 _⟩
theorem ref_turn64_v (x n : Int) (w : World) (hx : In64 x) (h0 : 0 < n) (h1 : n < 64) : Calls Tryd.prog 46 #[.int .u64 x, .int .i64 n, .int .i64 64] w fun e w' => e = .returned (.int .u64 (rot64 x (64 - n))) ∧ w' = w := by
  have hq := turn64_eq x n hx h0 h1
  rw [← wrap_u64_eq] at hq
  have hc := fun W => ref_cut64_v (bits BinOp.or .u64 (x / 2 ^ n.toNat) (IntKind.u64.wrap (x * 2 ^ (64 - n).toNat))) W (bits_in64 _ _ _)
  have hq2 := Lib.hid hq
  replace hc := Lib.hid hc
  clear hq
  obtain ⟨x0, x1⟩ := hx
  go_enter Tryd.func46, Tryd.ntmps46
  go_wp2_with (first
    | (go_at_call 40; (with_reducible refine (hc.out _).mono ?_); rintro e w1 ⟨rfl, rfl⟩))
  go_ret
  exact ⟨congrArg (fun t => Ending.returned (.int .u64 t)) hq2.out, rfl⟩
set_option maxHeartbeats 1000000 in
theorem ref_mixfalse64_v (x a b c : Int) (w : World) (hx : In64 x) (ha : 0 < a ∧ a < 64) (hb : 0 < b ∧ b < 64) (hc : 0 < c ∧ c < 64) : Calls Tryd.prog 41 #[.int .u64 x, aggI .i64 [a, b, c], .bool false, .int .i64 64] w fun e w' => e = .returned (.int .u64 (mixv64 x a b c false)) ∧ Below w.heap.size w w' := by
  have hA := fun W => ref_turn64_v x a W hx ha.1 ha.2
  have hB := fun W => ref_turn64_v x b W hx hb.1 hb.2
  have hC := fun W => ref_turn64_v x c W hx hc.1 hc.2
  have mx : mixv64 x a b c false = bits BinOp.xor .u64 (bits BinOp.xor .u64 (rot64 x (64 - a)) (rot64 x (64 - b))) (rot64 x (64 - c)) := rfl
  have i1 := rot64_in x (64 - a)
  have i2 := rot64_in x (64 - b)
  have i3 := rot64_in x (64 - c)
  have i4 := shr_in c.toNat hx
  generalize mixv64 x a b c false = m at *
  generalize rot64 x (64 - a) = ra at *
  generalize rot64 x (64 - b) = rb at *
  generalize rot64 x (64 - c) = rc at *
  replace hA := Lib.hid hA
  replace hB := Lib.hid hB
  replace hC := Lib.hid hC
  obtain ⟨x0, x1⟩ := hx
  obtain ⟨a0, a1⟩ := ha
  obtain ⟨b0, b1⟩ := hb
  obtain ⟨c0, c1⟩ := hc
  have mx' := Lib.hid mx
  clear mx
  have mx2 : RowKit.Hid (bits BinOp.xor .u64 (bits BinOp.xor .u64 ra rb) (rc) = m) := Lib.hid (by rw [mx'.out])
  clear i1 i2 i3 i4
  go_enter Tryd.func41, Tryd.ntmps41
  go_wp2_with (first
    | ((with_reducible (refine at_n 5 ?_; refine wpList_boxI rfl 59 _ rfl .i64 [a, b, c] rfl ?_)); (intro w1 A1 s1 b1; have ka : w1.cell? ⟨w.heap.size, 0, none⟩ = some (.int .i64 a) := A1.cell (k := 0) (by simp); have kb : w1.cell? ⟨w.heap.size, 1, none⟩ = some (.int .i64 b) := A1.cell (k := 1) (by simp); have kc : w1.cell? ⟨w.heap.size, 2, none⟩ = some (.int .i64 c) := A1.cell (k := 2) (by simp)))
    | (go_at_call 46; (with_reducible refine (hC.out _).mono ?_); rintro e w2 ⟨rfl, rfl⟩))
  go_quiet ((go_at_call 46; first | (with_reducible exact Calls.quiet_of_same (hA.out _)) | (with_reducible exact Calls.quiet_of_same (hB.out _))))
  go_wp2
  go_ret
  exact ⟨congrArg (fun t => Ending.returned (.int .u64 t)) mx2.out, below_drewN b1 _⟩
set_option maxHeartbeats 1000000 in
theorem ref_mixtrue64_v (x a b c : Int) (w : World) (hx : In64 x) (ha : 0 < a ∧ a < 64) (hb : 0 < b ∧ b < 64) (hc : 0 < c ∧ c < 64) : Calls Tryd.prog 41 #[.int .u64 x, aggI .i64 [a, b, c], .bool true, .int .i64 64] w fun e w' => e = .returned (.int .u64 (mixv64 x a b c true)) ∧ Below w.heap.size w w' := by
  have hA := fun W => ref_turn64_v x a W hx ha.1 ha.2
  have hB := fun W => ref_turn64_v x b W hx hb.1 hb.2
  have hC := fun W => ref_turn64_v x c W hx hc.1 hc.2
  have mx : mixv64 x a b c true = bits BinOp.xor .u64 (bits BinOp.xor .u64 (rot64 x (64 - a)) (rot64 x (64 - b))) (x / 2 ^ c.toNat) := rfl
  have i1 := rot64_in x (64 - a)
  have i2 := rot64_in x (64 - b)
  have i3 := rot64_in x (64 - c)
  have i4 := shr_in c.toNat hx
  generalize mixv64 x a b c true = m at *
  generalize rot64 x (64 - a) = ra at *
  generalize rot64 x (64 - b) = rb at *
  generalize rot64 x (64 - c) = rc at *
  replace hA := Lib.hid hA
  replace hB := Lib.hid hB
  replace hC := Lib.hid hC
  obtain ⟨x0, x1⟩ := hx
  obtain ⟨a0, a1⟩ := ha
  obtain ⟨b0, b1⟩ := hb
  obtain ⟨c0, c1⟩ := hc
  have mx' := Lib.hid mx
  clear mx
  have mx2 : RowKit.Hid (bits BinOp.xor .u64 (bits BinOp.xor .u64 ra rb) (x / 2 ^ c.toNat) = m) := Lib.hid (by rw [mx'.out])
  clear i1 i2 i3 i4
  go_enter Tryd.func41, Tryd.ntmps41
  go_wp2_with (first
    | ((with_reducible (refine at_n 5 ?_; refine wpList_boxI rfl 59 _ rfl .i64 [a, b, c] rfl ?_)); (intro w1 A1 s1 b1; have ka : w1.cell? ⟨w.heap.size, 0, none⟩ = some (.int .i64 a) := A1.cell (k := 0) (by simp); have kb : w1.cell? ⟨w.heap.size, 1, none⟩ = some (.int .i64 b) := A1.cell (k := 1) (by simp); have kc : w1.cell? ⟨w.heap.size, 2, none⟩ = some (.int .i64 c) := A1.cell (k := 2) (by simp)))
    | (go_at_call 46; (with_reducible refine (hC.out _).mono ?_); rintro e w2 ⟨rfl, rfl⟩))
  go_quiet ((go_at_call 46; first | (with_reducible exact Calls.quiet_of_same (hA.out _)) | (with_reducible exact Calls.quiet_of_same (hB.out _))))
  go_wp2
  go_ret
  exact ⟨congrArg (fun t => Ending.returned (.int .u64 t)) mx2.out, below_drewN b1 _⟩
end Go.Proofs.YtohnicmacmkapaaDoor
namespace Go.Proofs.YtohnicmacmkapaaDoor
open Go.RowKit
set_option linter.unusedVariables false
set_option linter.unusedSimpArgs false

/-- A frame of so many slots, nothing deferred. -/
def Fm (n : Nat) (a : Act) : Prop := a.tmps.size = n ∧ a.defers = []
/-- What the other slots hold stays. -/
def Kept (a a' : Act) (d : Nat) : Prop := ∀ t u, decide (t = d) = false → a.eval (.tmp t) = u → a'.eval (.tmp t) = u
theorem eval_tmps (a : Act) (t : Nat) : a.eval (.tmp t) = a.tmps[t]?.getD undef := by simp [Act.eval, Array.getD_eq_getD_getElem?]
theorem Fm.put {n : Nat} {a : Act} (h : Fm n a) (d : Option Tmp) (v : Value) : Fm n (a.put d v) := ⟨by rw [put_size]; exact h.1, by rw [put_defers]; exact h.2⟩
theorem Fm.putL {n : Nat} {ds : List (Option Tmp)} {f : Nat → Value} : ∀ {l : List Nat} {a : Act}, Fm n a → Fm n (putL ds f l a)
  | [], a, h => h
  | j :: l, a, h => Fm.putL (l := l) (h.put _ _)
theorem put_here {n d : Nat} {a : Act} (h : Fm n a) (hd : decide (d < n) = true) (v : Value) : (a.put (some d) v).eval (.tmp d) = v := by
  rw [eval_tmps, put_get, if_pos ⟨rfl, by rw [h.1]; exact of_decide_eq_true hd⟩]
  rfl
theorem put_kept {a : Act} {d : Nat} (v : Value) : Kept a (a.put (some d) v) d := fun t u ht hu => by
  rw [eval_tmps, put_get, if_neg (fun h => by have := of_decide_eq_false ht; cases h.1; exact this rfl), ← eval_tmps, hu]

section
variable {P : Program} {ops : Array Oper} {o : Oper} {a : Act} {w : World} {R : Value → World → Prop} {rest : List Oper} {Q : Exit → Act → World → Prop} {n : Nat}

theorem sq_put {d : Nat} (hf : Fm n a) (ho : o.dst = some d) (hd : decide (d < n) = true) (hdo : Does P ops o a w R)
    (h : ∀ v w' a', R v w' → Fm n a' → a'.eval (.tmp d) = v → Kept a a' d → wpList P ops Q rest a' w') : wpList P ops Q (o :: rest) a w :=
  wpList_does hdo fun v w' hR => by rw [ho]; exact h v w' _ hR (hf.put _ _) (put_here hf hd v) (put_kept v)
theorem sq_val {d : Nat} {v : Value} (hf : Fm n a) (ho : o.dst = some d) (hd : decide (d < n) = true) (hdo : ∀ R : Value → World → Prop, R v w → Does P ops o a w R)
    (h : ∀ a', Fm n a' → a'.eval (.tmp d) = v → Kept a a' d → wpList P ops Q rest a' w) : wpList P ops Q (o :: rest) a w :=
  sq_put hf ho hd (hdo (fun v' w' => v' = v ∧ w' = w) ⟨rfl, rfl⟩) fun v' w' a' hR hf' hv hk => by obtain ⟨rfl, rfl⟩ := hR; exact h a' hf' hv hk
theorem sq_do (ho : o.dst = none) (hdo : Does P ops o a w R) (h : ∀ v w', R v w' → wpList P ops Q rest a w') : wpList P ops Q (o :: rest) a w :=
  wpList_does hdo fun v w' hR => by rw [ho]; exact h v w' hR
theorem unwanted_of {g t : Nat} {b c : Bool} (hg : o.guard = some (g, b)) (hd : dstAt ops g = some t) (hv : a.eval (.tmp t) = .bool c) (hbc : (c == b) = false) : Region.wanted o (yielded ops a.tmps) = false := by
  have h : a.tmps[t]? = some (.bool c) := by
    rw [eval_tmps] at hv
    cases hq : a.tmps[t]? with
    | none => rw [hq] at hv; simp [undef] at hv
    | some x => rw [hq] at hv; simp at hv; rw [hv]
  have hy : yielded ops a.tmps g = some c := by
    unfold dstAt at hd
    unfold yielded
    rw [hd]
    simp [h]
  unfold Region.wanted
  rw [hg]
  simp only [hy]
  cases b <;> cases c <;> simp_all
theorem sq_off {d : Nat} (hf : Fm n a) (ho : o.dst = some d) (hw : Region.wanted o (yielded ops a.tmps) = false)
    (h : ∀ a', Fm n a' → Kept a a' d → wpList P ops Q rest a' w) : wpList P ops Q (o :: rest) a w :=
  wpList_does (Does.off (R := fun v w' => w' = w) hw rfl) fun v w' hR => by rw [ho, hR]; exact h _ (hf.put _ _) (put_kept v)
theorem sq_offn (ho : o.dst = none) (hw : Region.wanted o (yielded ops a.tmps) = false) (h : wpList P ops Q rest a w) : wpList P ops Q (o :: rest) a w :=
  wpList_does (Does.off (R := fun v w' => w' = w) hw rfl) fun v w' hR => by rw [ho, hR]; exact h

theorem Does.move (hw : Region.wanted o (yielded ops a.tmps) = true) {x : Operand} (ho : o.op = .move x) {v : Value} (hx : a.eval x = v) (hR : R v w) : Does P ops o a w R :=
  Does.pure hw v (by unfold execOp; simp only [ho, hx]; rfl) hR
theorem Does.assign (hw : Region.wanted o (yielded ops a.tmps) = true) {x : Operand} (ho : o.op = .assign x) {v : Value} (hx : a.eval x = v) (hR : R v w) : Does P ops o a w R :=
  Does.pure hw v (by unfold execOp; simp only [ho, hx]; rfl) hR
theorem Does.pick (hw : Region.wanted o (yielded ops a.tmps) = true) {c x y : Operand} (ho : o.op = .pick c x y) {b : Bool} (hc : a.eval c = .bool b) {v : Value} (hv : (if b then a.eval x else a.eval y) = v) (hR : R v w) : Does P ops o a w R :=
  Does.pure hw v (by unfold execOp; simp only [ho, hc, asBool, Sem.run_bind, Sem.run_pure, Result.andThen_ok]; rw [← hv]) hR
theorem Does.not (hw : Region.wanted o (yielded ops a.tmps) = true) {t : TypeId} {x : Operand} (ho : o.op = .unOp .not t x) {b : Bool} (hx : a.eval x = .bool b) {c : Bool} (hc : (!b) = c) (hR : R (.bool c) w) : Does P ops o a w R :=
  Does.pure hw _ (by unfold execOp; simp only [ho, hx]; simp [Op.unary, hc]) hR
theorem Does.add (hw : Region.wanted o (yielded ops a.tmps) = true) {t t' : TypeId} {x y : Operand} (ho : o.op = .binOp .add t x y t') {K : IntKind} {m n : Int} (hx : a.eval x = .int K m) (hy : a.eval y = .int K n) {r : Int} (hr : K.wrap (m + n) = r) (hR : R (.int K r) w) : Does P ops o a w R :=
  Does.pure hw _ (by unfold execOp; simp only [ho, hx, hy, eqGuard, Sem.run_bind, Sem.run_pure, Result.andThen_ok]; simp [binOp, Op.intArith, hr]) hR
theorem Does.sub (hw : Region.wanted o (yielded ops a.tmps) = true) {t t' : TypeId} {x y : Operand} (ho : o.op = .binOp .sub t x y t') {K : IntKind} {m n : Int} (hx : a.eval x = .int K m) (hy : a.eval y = .int K n) {r : Int} (hr : K.wrap (m - n) = r) (hR : R (.int K r) w) : Does P ops o a w R :=
  Does.pure hw _ (by unfold execOp; simp only [ho, hx, hy, eqGuard, Sem.run_bind, Sem.run_pure, Result.andThen_ok]; simp [binOp, Op.intArith, hr]) hR
theorem Does.mul (hw : Region.wanted o (yielded ops a.tmps) = true) {t t' : TypeId} {x y : Operand} (ho : o.op = .binOp .mul t x y t') {K : IntKind} {m n : Int} (hx : a.eval x = .int K m) (hy : a.eval y = .int K n) {r : Int} (hr : K.wrap (m * n) = r) (hR : R (.int K r) w) : Does P ops o a w R :=
  Does.pure hw _ (by unfold execOp; simp only [ho, hx, hy, eqGuard, Sem.run_bind, Sem.run_pure, Result.andThen_ok]; simp [binOp, Op.intArith, hr]) hR
theorem Does.quo (hw : Region.wanted o (yielded ops a.tmps) = true) {t t' : TypeId} {x y : Operand} (ho : o.op = .binOp .quo t x y t') {K : IntKind} {m n : Int} (hx : a.eval x = .int K m) (hy : a.eval y = .int K n) (hn : n ≠ 0) {r : Int} (hr : K.wrap (m.tdiv n) = r) (hR : R (.int K r) w) : Does P ops o a w R :=
  Does.pure hw _ (by unfold execOp; simp only [ho, hx, hy, eqGuard, Sem.run_bind, Sem.run_pure, Result.andThen_ok]; simp [binOp, Op.intDiv, hn, hr]) hR
theorem Does.rem (hw : Region.wanted o (yielded ops a.tmps) = true) {t t' : TypeId} {x y : Operand} (ho : o.op = .binOp .rem t x y t') {K : IntKind} {m n : Int} (hx : a.eval x = .int K m) (hy : a.eval y = .int K n) (hn : n ≠ 0) {r : Int} (hr : m.tmod n = r) (hR : R (.int K r) w) : Does P ops o a w R :=
  Does.pure hw _ (by unfold execOp; simp only [ho, hx, hy, eqGuard, Sem.run_bind, Sem.run_pure, Result.andThen_ok]; simp [binOp, Op.intDiv, hn, hr]) hR
theorem Does.and (hw : Region.wanted o (yielded ops a.tmps) = true) {t t' : TypeId} {x y : Operand} (ho : o.op = .binOp .and t x y t') {K : IntKind} {m n : Int} (hx : a.eval x = .int K m) (hy : a.eval y = .int K n) {r : Int} (hr : bits .and K m n = r) (hR : R (.int K r) w) : Does P ops o a w R :=
  Does.pure hw _ (by unfold execOp; simp only [ho, hx, hy, eqGuard, Sem.run_bind, Sem.run_pure, Result.andThen_ok]; simp [binOp, Op.intBits, ← hr, bits]) hR
theorem Does.or (hw : Region.wanted o (yielded ops a.tmps) = true) {t t' : TypeId} {x y : Operand} (ho : o.op = .binOp .or t x y t') {K : IntKind} {m n : Int} (hx : a.eval x = .int K m) (hy : a.eval y = .int K n) {r : Int} (hr : bits .or K m n = r) (hR : R (.int K r) w) : Does P ops o a w R :=
  Does.pure hw _ (by unfold execOp; simp only [ho, hx, hy, eqGuard, Sem.run_bind, Sem.run_pure, Result.andThen_ok]; simp [binOp, Op.intBits, ← hr, bits]) hR
theorem Does.xor (hw : Region.wanted o (yielded ops a.tmps) = true) {t t' : TypeId} {x y : Operand} (ho : o.op = .binOp .xor t x y t') {K : IntKind} {m n : Int} (hx : a.eval x = .int K m) (hy : a.eval y = .int K n) {r : Int} (hr : bits .xor K m n = r) (hR : R (.int K r) w) : Does P ops o a w R :=
  Does.pure hw _ (by unfold execOp; simp only [ho, hx, hy, eqGuard, Sem.run_bind, Sem.run_pure, Result.andThen_ok]; simp [binOp, Op.intBits, ← hr, bits]) hR
theorem Does.lss (hw : Region.wanted o (yielded ops a.tmps) = true) {t t' : TypeId} {x y : Operand} (ho : o.op = .binOp .lss t x y t') {K : IntKind} {m n : Int} (hx : a.eval x = .int K m) (hy : a.eval y = .int K n) {b : Bool} (hb : decide (m < n) = b) (hR : R (.bool b) w) : Does P ops o a w R :=
  Does.pure hw _ (by unfold execOp; simp only [ho, hx, hy, eqGuard, Sem.run_bind, Sem.run_pure, Result.andThen_ok]; simp [binOp, Op.intCmp, ← hb]) hR
theorem Does.leq (hw : Region.wanted o (yielded ops a.tmps) = true) {t t' : TypeId} {x y : Operand} (ho : o.op = .binOp .leq t x y t') {K : IntKind} {m n : Int} (hx : a.eval x = .int K m) (hy : a.eval y = .int K n) {b : Bool} (hb : decide (m ≤ n) = b) (hR : R (.bool b) w) : Does P ops o a w R :=
  Does.pure hw _ (by unfold execOp; simp only [ho, hx, hy, eqGuard, Sem.run_bind, Sem.run_pure, Result.andThen_ok]; simp [binOp, Op.intCmp, ← hb]) hR
theorem Does.gtr (hw : Region.wanted o (yielded ops a.tmps) = true) {t t' : TypeId} {x y : Operand} (ho : o.op = .binOp .gtr t x y t') {K : IntKind} {m n : Int} (hx : a.eval x = .int K m) (hy : a.eval y = .int K n) {b : Bool} (hb : decide (m > n) = b) (hR : R (.bool b) w) : Does P ops o a w R :=
  Does.pure hw _ (by unfold execOp; simp only [ho, hx, hy, eqGuard, Sem.run_bind, Sem.run_pure, Result.andThen_ok]; simp [binOp, Op.intCmp, ← hb]) hR
theorem Does.geq (hw : Region.wanted o (yielded ops a.tmps) = true) {t t' : TypeId} {x y : Operand} (ho : o.op = .binOp .geq t x y t') {K : IntKind} {m n : Int} (hx : a.eval x = .int K m) (hy : a.eval y = .int K n) {b : Bool} (hb : decide (m ≥ n) = b) (hR : R (.bool b) w) : Does P ops o a w R :=
  Does.pure hw _ (by unfold execOp; simp only [ho, hx, hy, eqGuard, Sem.run_bind, Sem.run_pure, Result.andThen_ok]; simp [binOp, Op.intCmp, ← hb]) hR
theorem Does.eqlN (hw : Region.wanted o (yielded ops a.tmps) = true) {t t' : TypeId} {x y : Operand} (ho : o.op = .binOp .eql t x y t') {K : IntKind} {m n : Int} (hx : a.eval x = .int K m) (hy : a.eval y = .int K n) {b : Bool} (hb : (m == n) = b) (hR : R (.bool b) w) : Does P ops o a w R :=
  Does.pure hw _ (by unfold execOp; simp only [ho, hx, hy, eqGuard, Sem.run_bind, Sem.run_pure, Result.andThen_ok]; simp [binOp, Op.intCmp, ← hb]) hR
theorem Does.neqN (hw : Region.wanted o (yielded ops a.tmps) = true) {t t' : TypeId} {x y : Operand} (ho : o.op = .binOp .neq t x y t') {K : IntKind} {m n : Int} (hx : a.eval x = .int K m) (hy : a.eval y = .int K n) {b : Bool} (hb : (m != n) = b) (hR : R (.bool b) w) : Does P ops o a w R :=
  Does.pure hw _ (by unfold execOp; simp only [ho, hx, hy, eqGuard, Sem.run_bind, Sem.run_pure, Result.andThen_ok]; simp [binOp, Op.intCmp, ← hb]) hR
theorem Does.shl (hw : Region.wanted o (yielded ops a.tmps) = true) {t t' : TypeId} {x y : Operand} (ho : o.op = .binOp .shl t x y t') {K K2 : IntKind} {m n : Int} (hx : a.eval x = .int K m) (hy : a.eval y = .int K2 n) (hn : 0 ≤ n) (hn2 : n ≤ K.bits) {r : Int} (hr : K.wrap (m * 2 ^ n.toNat) = r) (hR : R (.int K r) w) : Does P ops o a w R := by
  have e1 : min n.toNat K.bits = n.toNat := Nat.min_eq_left (by omega)
  have e2 : ¬ n < 0 := by omega
  exact Does.pure hw _ (by unfold execOp; simp only [ho, hx, hy, eqGuard, Sem.run_bind, Sem.run_pure, Result.andThen_ok]; simp [binOp, Op.shift, e1, e2, hr]) hR
theorem Does.shr (hw : Region.wanted o (yielded ops a.tmps) = true) {t t' : TypeId} {x y : Operand} (ho : o.op = .binOp .shr t x y t') {K K2 : IntKind} {m n : Int} (hx : a.eval x = .int K m) (hy : a.eval y = .int K2 n) (hn : 0 ≤ n) (hn2 : n ≤ K.bits) {r : Int} (hr : m / 2 ^ n.toNat = r) (hR : R (.int K r) w) : Does P ops o a w R := by
  have e1 : min n.toNat K.bits = n.toNat := Nat.min_eq_left (by omega)
  have e2 : ¬ n < 0 := by omega
  have e3 : m.fdiv (2 ^ n.toNat) = m / 2 ^ n.toNat := Int.fdiv_eq_ediv_of_nonneg _ (by rw [show (2 : Int) ^ n.toNat = ((2 ^ n.toNat : Nat) : Int) by simp]; exact Int.natCast_nonneg _)
  exact Does.pure hw _ (by unfold execOp; simp only [ho, hx, hy, eqGuard, Sem.run_bind, Sem.run_pure, Result.andThen_ok]; simp [binOp, Op.shift, e1, e2, e3, hr]) hR
theorem Does.conv (hw : Region.wanted o (yielded ops a.tmps) = true) {s d : TypeId} {x : Operand} (ho : o.op = .convert s d x) {K K' : IntKind} {ts : TypeDesc} (hs : P.underlying s = some ts) (hd : P.underlying d = some (.int K')) {m : Int} (hx : a.eval x = .int K m) {r : Int} (hr : K'.wrap m = r) (hR : R (.int K' r) w) : Does P ops o a w R :=
  Does.pure hw _ (by unfold execOp; simp only [ho, hx, convert, Sem.run_bind, run_underlying hs, run_underlying hd, Result.andThen_ok]; simp [Conv.intToInt, hr]) hR
theorem Does.lenS (hw : Region.wanted o (yielded ops a.tmps) = true) {t : TypeId} {x : Operand} (ho : o.op = .call { callee := .builtin .len, args := #[x], argTypes := #[t] }) {e : TypeId} (ht : P.underlying t = some (.slice e)) {p : Option Addr} {l c : Nat} (hx : a.eval x = .slice p l c) (hR : R (.int .i64 (l : Int)) w) : Does P ops o a w R :=
  Does.pure hw _ (by unfold execOp; simp only [ho, resolve, invoke, builtin, Sem.run_bind, Sem.run_pure, Result.andThen_ok, List.map_toArray, List.map_cons, List.map_nil, hx]; simp [Builtin.len_, run_underlying ht, goInt]) hR
end
theorem then_normal {next : Act → World → Prop} {Q : Exit → Act → World → Prop} {a : Act} {w : World} (h : next a w) : Exit.then next Q .normal a w := h
theorem eval_c (a : Act) (v : Value) : a.eval (.const v) = v := rfl
theorem wrap64_id {x : Int} (h : -9223372036854775808 ≤ x ∧ x ≤ 9223372036854775807) : IntKind.i64.wrap x = x := by
  simp [IntKind.wrap, IntKind.bits, IntKind.signed]
  omega
theorem wrapu64_id {x : Int} (h : 0 ≤ x ∧ x < 18446744073709551616) : IntKind.u64.wrap x = x := by
  rw [IntKind.wrap_u64]; omega
theorem wrapu8_id {x : Int} (h : 0 ≤ x ∧ x < 256) : IntKind.u8.wrap x = x := by
  rw [IntKind.wrap_u8']; omega
end Go.Proofs.YtohnicmacmkapaaDoor
namespace Go.Proofs.YtohnicmacmkapaaDoor
open Go.RowKit
set_option linter.unusedVariables false
set_option linter.unusedSimpArgs false

section
variable {P : Program} {ops : Array Oper} {o : Oper} {a : Act} {w : World} {R : Value → World → Prop} {rest : List Oper} {Q : Exit → Act → World → Prop} {n : Nat}
/-- One cell, loaded. -/
theorem Does.loadV (hw : Region.wanted o (yielded ops a.tmps) = true) {ty : TypeId} {x : Operand} (ho : o.op = .load ty x) {d : TypeDesc} (hu : P.underlying ty = some d) (hd : (match d with | .struct _ | .array _ _ => true | _ => false) = false)
    {p : Addr} (hx : a.eval x = .pointer (some p)) {v : Value} (hc : w.cell? p = some v) (hR : R v w) : Does P ops o a w R := by
  refine Does.pure hw _ ?_ hR
  have hagg : (isAgg ty).run P w = .ok false w := by
    unfold isAgg
    rw [Sem.run_bind, run_underlying hu w]
    cases d <;> simp_all
  unfold execOp
  simp [ho, hx, Sem.run_bind, Instr.loadAt, Instr.sureAddr, loadVar, hagg, hc]
/-- One cell, stored. -/
theorem Does.storeV (hw : Region.wanted o (yielded ops a.tmps) = true) {ty : TypeId} {x y : Operand} (ho : o.op = .store ty x y) (hi : (P.info? ty).map (·.size) = some 1)
    {p : Addr} (hx : a.eval x = .pointer (some p)) {v u : Value} (hy : a.eval y = v) (hc : w.cell? p = some u) (hf : w.frozen? p = false) (h1 : v.oneCell' = true) (hR : R undef (w.setCell p v)) : Does P ops o a w R :=
  Does.of_wp hw fun Kq hK => by
    cases hq : P.info? ty with
    | none => rw [hq] at hi; cases hi
    | some q =>
      have hs : q.size = 1 := by simpa [hq] using hi
      have hcs : v.cells = #[v] := by cases v <;> simp_all [Value.cells, Value.oneCell']
      unfold Oper.wp execOp
      have e : Addr.add p 0 = p := by cases p; simp [Addr.add]
      simp [ho, hx, hy, Sem.run_bind, Instr.storeAt, Instr.sureAddr, storeVar, sizeOf, typeInfo, hq, hs, hcs, storeCells, e]
      rw [run_store P w p v _ h1]
      simp only [hc, hf]
      exact hK _ _ hR
/-- One element of an array, stored. -/
theorem Does.storeE (hw : Region.wanted o (yielded ops a.tmps) = true) {ty : TypeId} {x y : Operand} (ho : o.op = .store ty x y) (hi : (P.info? ty).map (·.size) = some 1)
    {B k : Nat} (hx : a.eval x = .pointer (some ⟨B, k, none⟩)) {K : IntKind} {v : Int} (hy : a.eval y = .int K v) {zs : List Int} (hz : Arr K w B zs) (hk : k < zs.length)
    (hR : Arr K (w.setCell ⟨B, k, none⟩ (.int K v)) B (zs.set k v) → R undef (w.setCell ⟨B, k, none⟩ (.int K v))) : Does P ops o a w R :=
  Does.storeV hw ho hi hx hy (hz.cell hk) (hz.free hk) rfl (hR (hz.set k v))
end
/-- A loop: what holds at its head, and what gets less. -/
theorem inBlock_normal {id : Nat} {Q : Exit → Act → World → Prop} {a : Act} {w : World} (h : Q .normal a w) : Exit.inBlock id Q .normal a w := h
theorem inBlock_exit {id : Nat} {Q : Exit → Act → World → Prop} {a : Act} {w : World} (h : Q .normal a w) : Exit.inBlock id Q (.exit id) a w := by
  simp only [Exit.inBlock, if_true]; exact h
theorem calls_of_fm {P : Program} {f : FuncId} {fn : Func} {args : Array Value} {body : Code} {w : World} {R : Ending → World → Prop} {N : Nat} (hf : P.funcs[f]? = some fn) (hb : fn.body = some body) (hn : fn.ntmps = N) (hN : decide (args.size ≤ N) = true)
    (h : ∀ a, Fm N a → (∀ t v, args[t]? = some v → a.eval (.tmp t) = v) → body.wp P (bodyPost P fn R) a w) : Calls P f args w R := by
  refine calls_of_wp hf hb ?_
  refine h _ ⟨?_, rfl⟩ fun t v hv => ?_
  · have := of_decide_eq_true hN
    simp [hn]
    omega
  · have ht := (Array.getElem?_eq_some_iff.1 hv).1
    rw [eval_tmps]
    have he := Array.getElem?_eq_getElem ht
    rw [he] at hv
    simp [Array.getElem?_append, ht]
    exact Option.some.inj hv
theorem wp_loop_k {P : Program} {c : Code} {Q : Exit → Act → World → Prop} {a : Act} {w : World} (I : Act → World → Prop) (μ : Act → World → Nat) (h0 : I a w)
    (round : ∀ (K : Act → World → Prop) (a : Act) (w : World), I a w → (∀ a' w', I a' w' → μ a' w' < μ a w → K a' w') → c.wp P (Exit.then K Q) a w) : (Code.loop c).wp P Q a w :=
  wp_loop I μ h0 fun a w hI => round _ a w hI fun a' w' h1 h2 => ⟨h1, h2⟩
theorem beqI_yes {m n : Int} (h : m = n) : (m == n) = true := by simpa using h
theorem beqI_no {m n : Int} (h : m ≠ n) : (m == n) = false := by simpa using h
theorem bneI_yes {m n : Int} (h : m ≠ n) : (m != n) = true := by simpa using h
theorem bneI_no {m n : Int} (h : m = n) : (m != n) = false := by simpa using h
theorem wpList_gen {P : Program} {ops : Array Oper} {rest : List Oper} {Q : Exit → Act → World → Prop} {a : Act} {w : World} {n d : Nat} {v : Value} (hf : Fm n a) (hd : decide (d < n) = true)
    (h : ∀ a', Fm n a' → a'.eval (.tmp d) = v → Kept a a' d → wpList P ops Q rest a' w) : wpList P ops Q rest (a.put (some d) v) w := h _ (hf.put _ _) (put_here hf hd v) (put_kept v)
end Go.Proofs.YtohnicmacmkapaaDoor
namespace Go.Proofs.YtohnicmacmkapaaDoor
open Go.RowKit
set_option linter.unusedVariables false
set_option maxRecDepth 8000

/-- What the tables of the reference hold. -/
structure TabR (w : World) : Prop where
  be : ∀ k, k < 8 → w.cell? ⟨1, k, none⟩ = some (.int .u64 (at0 squaresL k))
  ro : ∀ k, k < 80 → w.cell? ⟨2, k, none⟩ = some (.int .u64 (at0 cubesL k))
theorem TabR.lt {w : World} (h : TabR w) : 1 < w.heap.size ∧ 2 < w.heap.size := ⟨World.block_lt_of_cell? w _ (h.be 0 (by decide)), World.block_lt_of_cell? w _ (h.ro 0 (by decide))⟩
theorem TabR.below {w w' : World} (h : TabR w) (hb : Below w.heap.size w w') : TabR w' :=
  ⟨fun k hk => by rw [hb.cell h.lt.1]; exact h.be k hk, fun k hk => by rw [hb.cell h.lt.2]; exact h.ro k hk⟩
theorem Does.unXor {P : Program} {ops : Array Oper} {o : Oper} {a : Act} {w : World} {R : Value → World → Prop} (hw : Region.wanted o (yielded ops a.tmps) = true) {t : TypeId} {x : Operand} (ho : o.op = .unOp .xor t x) {m : Int} (hx : a.eval x = .int .u64 m) (hR : R (.int .u64 (not64 m)) w) : Does P ops o a w R :=
  Does.pure hw _ (by unfold execOp; simp only [ho, hx]; simp [Op.unary, Op.intBits, not64, bits, IntKind.signed]) hR
theorem sum5_64 (a b c d e : Int) : IntKind.u64.wrap (IntKind.u64.wrap (IntKind.u64.wrap (IntKind.u64.wrap (a + b) + c) + d) + e) = (a + b + c + d + e) % 18446744073709551616 := by
  simp only [wrap_u64_eq]; omega
theorem sum4_64 (a b c d : Int) : IntKind.u64.wrap (IntKind.u64.wrap (IntKind.u64.wrap (a + b) + c) + d) = (a + b + c + d) % 18446744073709551616 := by
  simp only [wrap_u64_eq]; omega
/-- The words of a block behind so many bytes. -/
def part32 (zs : List Int) (i : Nat) : List Int := (List.range 80).map fun j => beF (((zs.drop (j * 4)).take 4).take (i - j * 4))
theorem part32_len (zs : List Int) (i : Nat) : (part32 zs i).length = 80 := by simp [part32]
theorem part32_at (zs : List Int) (i j : Nat) (hj : j < 80) : at0 (part32 zs i) j = beF (((zs.drop (j * 4)).take 4).take (i - j * 4)) := by simp [part32, at0, hj]
theorem part32_zero (zs : List Int) : part32 zs 0 = List.replicate 80 0 := by
  refine eq_of_all (by simp [part32]) fun j hj => ?_
  rw [part32_len] at hj
  rw [part32_at _ _ _ hj, Nat.zero_sub, List.take_zero, at0_rep]
  rfl
theorem part32_step (zs : List Int) (hl : zs.length = 64) (i : Nat) (hi : i < 64) : (part32 zs i).set (i / 4) (at0 (part32 zs i) (i / 4) * 256 + at0 zs i) = part32 zs (i + 1) := by
  have hq : i / 4 < 80 := by omega
  refine eq_of_all (by simp [part32]) fun j hj => ?_
  rw [List.length_set, part32_len] at hj
  rw [at0_set _ _ _ _ (by rw [part32_len]; exact hq), part32_at _ (i + 1) j hj]
  by_cases e : j = i / 4
  · subst e
    rw [if_pos rfl, part32_at _ _ _ hq, show i + 1 - i / 4 * 4 = (i - i / 4 * 4) + 1 by omega, take_snoc _ (i - i / 4 * 4) (by simp; omega), beF_snoc]
    congr 1
    unfold at0
    rw [List.getElem?_take, if_pos (by omega), List.getElem?_drop, show i / 4 * 4 + (i - i / 4 * 4) = i by omega]
  · rw [if_neg e, part32_at _ _ _ hj]
    by_cases h : j < i / 4
    · rw [List.take_of_length_le (l := (zs.drop (j * 4)).take 4) (i := i - j * 4) (by simp; omega), List.take_of_length_le (l := (zs.drop (j * 4)).take 4) (i := i + 1 - j * 4) (by simp; omega)]
    · rw [show i - j * 4 = 0 by omega, show i + 1 - j * 4 = 0 by omega]
theorem part32_all (zs : List Int) (hl : zs.length = 64) : part32 zs 64 = sched32 zs 0 := by
  refine eq_of_all (by rw [part32_len, sched32_len]) fun j hj => ?_
  rw [part32_len] at hj
  rw [part32_at _ _ _ hj]
  unfold sched32
  rw [at0_app]
  by_cases h : j < 16
  · rw [if_pos (by simpa using h), List.take_of_length_le (by simp; omega)]
    simp [at0, h, word32]
  · rw [if_neg (by simpa using h), at0_rep, List.drop_eq_nil_of_le (by omega)]
    simp [beF]
theorem part32_lt {zs : List Int} (hb : Bytes zs) (hl : zs.length = 64) (i : Nat) (hi : i < 64) : 0 ≤ at0 (part32 zs i) (i / 4) ∧ at0 (part32 zs i) (i / 4) < 16777216 := by
  have hq : i / 4 < 80 := by omega
  rw [part32_at _ _ _ hq]
  have h := beF_lt (i - i / 4 * 4) (((zs.drop (i / 4 * 4)).take 4).take (i - i / 4 * 4)) (by simp; omega) (fun x hx => hb x (List.mem_of_mem_drop (List.mem_of_mem_take (List.mem_of_mem_take hx))))
  have h2 : (256 : Int) ^ (i - i / 4 * 4) ≤ 16777216 := by
    have h3 : i - i / 4 * 4 ≤ 3 := by omega
    have h4 : (256 : Nat) ^ (i - i / 4 * 4) ≤ 256 ^ 3 := Nat.pow_le_pow_right (by decide) h3
    have h5 : ((256 ^ (i - i / 4 * 4) : Nat) : Int) ≤ ((256 ^ 3 : Nat) : Int) := by exact_mod_cast h4
    rw [Int.natCast_pow, Int.natCast_pow] at h5
    simpa using h5
  omega
/-- The words of a block behind so many bytes. -/
def part64 (zs : List Int) (i : Nat) : List Int := (List.range 80).map fun j => beF (((zs.drop (j * 8)).take 8).take (i - j * 8))
theorem part64_len (zs : List Int) (i : Nat) : (part64 zs i).length = 80 := by simp [part64]
theorem part64_at (zs : List Int) (i j : Nat) (hj : j < 80) : at0 (part64 zs i) j = beF (((zs.drop (j * 8)).take 8).take (i - j * 8)) := by simp [part64, at0, hj]
theorem part64_zero (zs : List Int) : part64 zs 0 = List.replicate 80 0 := by
  refine eq_of_all (by simp [part64]) fun j hj => ?_
  rw [part64_len] at hj
  rw [part64_at _ _ _ hj, Nat.zero_sub, List.take_zero, at0_rep]
  rfl
theorem part64_step (zs : List Int) (hl : zs.length = 128) (i : Nat) (hi : i < 128) : (part64 zs i).set (i / 8) (at0 (part64 zs i) (i / 8) * 256 + at0 zs i) = part64 zs (i + 1) := by
  have hq : i / 8 < 80 := by omega
  refine eq_of_all (by simp [part64]) fun j hj => ?_
  rw [List.length_set, part64_len] at hj
  rw [at0_set _ _ _ _ (by rw [part64_len]; exact hq), part64_at _ (i + 1) j hj]
  by_cases e : j = i / 8
  · subst e
    rw [if_pos rfl, part64_at _ _ _ hq, show i + 1 - i / 8 * 8 = (i - i / 8 * 8) + 1 by omega, take_snoc _ (i - i / 8 * 8) (by simp; omega), beF_snoc]
    congr 1
    unfold at0
    rw [List.getElem?_take, if_pos (by omega), List.getElem?_drop, show i / 8 * 8 + (i - i / 8 * 8) = i by omega]
  · rw [if_neg e, part64_at _ _ _ hj]
    by_cases h : j < i / 8
    · rw [List.take_of_length_le (l := (zs.drop (j * 8)).take 8) (i := i - j * 8) (by simp; omega), List.take_of_length_le (l := (zs.drop (j * 8)).take 8) (i := i + 1 - j * 8) (by simp; omega)]
    · rw [show i - j * 8 = 0 by omega, show i + 1 - j * 8 = 0 by omega]
theorem part64_all (zs : List Int) (hl : zs.length = 128) : part64 zs 128 = sched64 zs 0 := by
  refine eq_of_all (by rw [part64_len, sched64_len]) fun j hj => ?_
  rw [part64_len] at hj
  rw [part64_at _ _ _ hj]
  unfold sched64
  rw [at0_app]
  by_cases h : j < 16
  · rw [if_pos (by simpa using h), List.take_of_length_le (by simp; omega)]
    simp [at0, h, word64]
  · rw [if_neg (by simpa using h), at0_rep, List.drop_eq_nil_of_le (by omega)]
    simp [beF]
theorem part64_lt {zs : List Int} (hb : Bytes zs) (hl : zs.length = 128) (i : Nat) (hi : i < 128) : 0 ≤ at0 (part64 zs i) (i / 8) ∧ at0 (part64 zs i) (i / 8) < 72057594037927936 := by
  have hq : i / 8 < 80 := by omega
  rw [part64_at _ _ _ hq]
  have h := beF_lt (i - i / 8 * 8) (((zs.drop (i / 8 * 8)).take 8).take (i - i / 8 * 8)) (by simp; omega) (fun x hx => hb x (List.mem_of_mem_drop (List.mem_of_mem_take (List.mem_of_mem_take hx))))
  have h2 : (256 : Int) ^ (i - i / 8 * 8) ≤ 72057594037927936 := by
    have h3 : i - i / 8 * 8 ≤ 7 := by omega
    have h4 : (256 : Nat) ^ (i - i / 8 * 8) ≤ 256 ^ 7 := Nat.pow_le_pow_right (by decide) h3
    have h5 : ((256 ^ (i - i / 8 * 8) : Nat) : Int) ≤ ((256 ^ 7 : Nat) : Int) := by exact_mod_cast h4
    rw [Int.natCast_pow, Int.natCast_pow] at h5
    simpa using h5
  omega
end Go.Proofs.YtohnicmacmkapaaDoor
namespace Go.Proofs.YtohnicmacmkapaaDoor
open Go.RowKit
set_option linter.unusedVariables false
set_option maxRecDepth 8000

theorem idx_strK {P : Program} (t : TypeId) (ht : P.underlying t = some .string) (L : ByteArray) (K : IntKind) (e : Int) (h0 : 0 ≤ e) (h1 : e < L.size) (w : World) :
    (Instr.index t (.string L) (.int K e)).run P w = .ok (.int .u8 (at0 (sb L) e.toNat)) w := by
  obtain ⟨k, rfl⟩ := Int.eq_ofNat_of_zero_le h0
  have hk : k < L.size := by omega
  rw [Int.toNat_natCast, at0_sb L k hk]
  simp [Instr.index, run_underlying ht, asIntOf, hk]
/-- The digits. -/
def hexS : ByteArray := ⟨#[48, 49, 50, 51, 52, 53, 54, 55, 56, 57, 97, 98, 99, 100, 101, 102]⟩
def hexL (zs : List Int) : List Int := zs.flatMap fun c => [at0 (sb hexS) (c / 16).toNat, at0 (sb hexS) (c % 16).toNat]
theorem hexL_len : ∀ zs, (hexL zs).length = 2 * zs.length
  | [] => rfl
  | c :: zs => by
    have := hexL_len zs
    simp only [hexL, List.flatMap_cons, List.length_append, List.length_cons, List.length_nil] at this ⊢
    omega
theorem hexL_snoc (zs : List Int) (c : Int) : hexL (zs ++ [c]) = hexL zs ++ [at0 (sb hexS) (c / 16).toNat, at0 (sb hexS) (c % 16).toNat] := by simp [hexL]
theorem u8_shr4 {c : Int} (h : 0 ≤ c ∧ c ≤ 255) : 0 ≤ c / 16 ∧ c / 16 < 16 := by omega
theorem u8_and15' {c : Int} (h : 0 ≤ c ∧ c ≤ 255) : bits BinOp.and IntKind.u8 c 15 = c % 16 := by
  have : ∀ n : Nat, n < 256 → bits BinOp.and IntKind.u8 (n : Int) 15 = (n : Int) % 16 := by decide +kernel
  have h2 := this c.toNat (by omega)
  rwa [Int.toNat_of_nonneg h.1] at h2
theorem dig_in (k : Int) (h : 0 ≤ k ∧ k < 16) : 0 ≤ at0 (sb hexS) k.toNat ∧ at0 (sb hexS) k.toNat ≤ 255 := by
  have h2 : ∀ n : Nat, n < 16 → 0 ≤ at0 (sb hexS) n ∧ at0 (sb hexS) n ≤ 255 := by decide +kernel
  exact h2 k.toNat (by omega)
theorem own_ad {w : World} {base e size : Nat} {v : Value} {n : Nat} {xs : List Value} (h : w.ownsRow base e size v n xs) (o : Obj) : (w.alloc o).drew.ownsRow base e size v n xs := h.alloc o
theorem new_two (w : World) (a b : Value) (t : TypeId) : ∀ j u, ([a, b] : List Value)[j]? = some u → (w.alloc (.cells #[a, b] t)).drew.cell? ((⟨w.heap.size, 0, none⟩ : Addr).add j) = some u := by
  intro j u h
  have hh : (w.alloc (.cells #[a, b] t)).drew.heap[w.heap.size]? = some (.cells #[a, b] t) := heap_alloc_new w _
  rw [Addr.add_lit]
  simp only [World.cell?, hh, Nat.zero_add]
  rcases j with _ | _ | j
  · simpa using h
  · simpa using h
  · simp at h
theorem own_ge {w : World} {base e size : Nat} {v : Value} {n : Nat} {xs : List Value} (h : w.ownsRow base e size v n xs) : ∀ j, v.ownBlock = some j → base ≤ j := by
  intro j hj
  obtain ⟨-, h2⟩ := h
  rcases h2 with ⟨rfl, -⟩ | ⟨g, cap, cur, rfl, hb, -⟩
  · cases hj
  · cases hj; exact hb
theorem one_two (a b : Int) : ∀ u ∈ ([.int .u8 a, .int .u8 b] : List Value), u.oneCell' = true := by
  intro u hu
  simp only [List.mem_cons, List.not_mem_nil, or_false] at hu
  rcases hu with rfl | rfl <;> rfl
theorem hex_v (v : Value) (zs : List Int) (w : World) (hv : RdI .u8 w v zs) (hb : Bytes zs) (hlen : zs.length ≤ 1000000) :
    Calls Tryd.prog 16 #[v] w fun e w' => e = .returned (.string (strOfNums (hexL zs))) ∧ Below w.heap.size w w' := by
  obtain ⟨j0, hj, hy0, hy1, hy2⟩ := infoB32
  obtain ⟨a, ca, rfl, hla, hma, ha, -⟩ := hv
  replace ha := Lib.hid ha
  have hS : hexS.size = 16 := rfl
  go_enter Tryd.func16, Tryd.ntmps16
  go_wp2_with (first
    | (with_reducible refine at_n 9 ?_; refine wpList_make_own _ rfl _ _ 25 rfl w.heap.size 5 j0 (.int .u8 0) 1 Tryd.underlying25 hj hy0 hy1 .i64 .i64 (2 * (zs.length : Int)) (2 * zs.length) rfl rfl (by omega) (by rw [hy2]; omega) (by unfold maxLen; omega) (Nat.le_refl _) ?_; intro w1 hown1 hgr1))
  have hb1 : Below w.heap.size w w1 := (Below.refl _ _).grown hgr1 (Nat.le_refl _) (fun k hk => by cases hk)
  clear hgr1
  rw [show (⟨#[48, 49, 50, 51, 52, 53, 54, 55, 56, 57, 97, 98, 99, 100, 101, 102]⟩ : ByteArray) = hexS from rfl]
  have hdig := dig_in
  have hidx := fun K e h0 h1 W => idx_strK (P := Tryd.prog) 9 Tryd.underlying9 hexS K e h0 h1 W
  have hsn := hexL_snoc
  have hhl := hexL_len
  replace hsn := Lib.hid hsn
  replace hhl := Lib.hid hhl
  replace hidx := Lib.hid hidx
  replace hdig := Lib.hid hdig
  go_loopw [3, 12] (fun v3 i wr => ∃ (k : Nat), k ≤ zs.length ∧ i = .int .i64 k ∧ wr.ownsRow w.heap.size 5 1 v3 (2 * k) ((hexL (zs.take k)).map (Value.int .u8)) ∧ Below w.heap.size w wr) (fun _ i _ => zs.length - (intOf i).toNat)
  case atStart => exact ⟨0, by omega, rfl, by rw [List.take_zero]; exact hown1, hb1⟩
  case round =>
    clear hown1 hb1
    obtain ⟨k, hk, rfl, hown, hbel⟩ := hrel
    by_cases hlt : k < zs.length
    · obtain ⟨x, o, rfl, hc0⟩ := ha.out k hlt
      have hc := (hbel.cell (p := ⟨x, o + k, none⟩) (World.block_lt_of_cell? w _ hc0)).trans hc0
      clear hc0
      have htk := take_snoc zs k hlt
      have hcb := hb.at k
      generalize at0 zs k = c at *
      obtain ⟨c0, c1⟩ := hcb
      have i1 := fun W => hidx.out .u8 (c / 16) (by omega) (by rw [hS]; omega) W
      have i2 := fun W => hidx.out .u8 (c % 16) (by omega) (by rw [hS]; omega) W
      have e15 := u8_and15' ⟨c0, c1⟩
      obtain ⟨d0, d1⟩ := hdig.out (c / 16) (by omega)
      obtain ⟨d2, d3⟩ := hdig.out (c % 16) (by omega)
      replace htk := Lib.hid htk
      have hsn2 := hsn.out (zs.take k) c
      generalize at0 (sb hexS) (c / 16).toNat = x1 at *
      generalize at0 (sb hexS) (c % 16).toNat = x2 at *
      replace hsn2 := Lib.hid hsn2
      have hkI : (k : Int) < (zs.length : Int) := by omega
      generalize hLs : hexS = LS at *
      replace hLs := Lib.hid hLs
      go_wp2
      have hb2 := Lib.hid ((hbel.alloc hbel.size (.cells #[.int .u8 x1, .int .u8 x2] 5)).drew)
      have hs2 := Lib.hid hb2.out.size
      go_region_law (refine step_append_lies _ rfl _ _ _ rfl w.heap.size 5 j0 (.int .u8 0) 1 1 Tryd.underlying25 hj hy0 hy1 hy2 rfl (by decide) _ (2 * k) _ rfl (hown.alloc _) ⟨wr.heap.size, 0, none⟩ 2 2 [.int .u8 x1, .int .u8 x2] rfl rfl (new_two wr _ _ _) (one_two _ _) (by decide) (by unfold maxLen; omega) (by omega) (by show w.heap.size ≤ ((wr.alloc _).drew).heap.size; exact (hbel.alloc hbel.size _).size) _ rfl ?_; intro g cap w2 hown2 hg2 hat2 hlt2)
      all_goals
        have hb3 : Below w.heap.size w w2 := hb2.out.grown hg2 hs2.out (own_ge hown)
        go_wp2
        refine ⟨⟨k + 1, by omega, by go_num, ?_, hb3⟩, by simp only [intOf]; omega⟩
        rw [htk.out, hsn2.out, List.map_append, show 2 * (k + 1) = 2 * k + 2 by omega]
        exact hown2
    · obtain rfl : k = zs.length := by omega
      rw [List.take_length] at hown
      have hrd := RdI.of_own hown
      have hcv := run_conv_bs (P := Tryd.prog) (w := wr) 25 9 5 Tryd.underlying25 Tryd.underlying9 Tryd.underlying5 _ _ hrd
      clear hown
      go_wp2
      go_ret
      exact ⟨rfl, hbel⟩
end Go.Proofs.YtohnicmacmkapaaDoor
namespace Go.Proofs.YtohnicmacmkapaaDoor
open Go.RowKit
set_option linter.unusedVariables false
set_option maxRecDepth 8000

theorem ref_padded_v (n wd : Int) (w : World) (hn : -9223372036854775808 ≤ n ∧ n ≤ 9223372036854775807) (hw : -9223372036854775808 ≤ wd ∧ wd ≤ 9223372036854775807) :
    Calls Tryd.prog 15 #[.int .i64 n, .int .i64 wd] w fun e w' => e = .returned (.int .i64 (padded n wd)) ∧ w' = w := by
  by_cases h : n < 0 ∨ 1099511627776 < n ∨ (wd ≠ 32 ∧ wd ≠ 64)
  · rw [show padded n wd = 0 from if_pos h]
    by_cases h1 : n < 0
    · have d1 : decide (n < 0) = true := decide_eq_true h1
      go_enter Tryd.func15, Tryd.ntmps15
      go_wp2
      go_ret
      exact ⟨rfl, rfl⟩
    · by_cases h2 : 1099511627776 < n
      · go_enter Tryd.func15, Tryd.ntmps15
        go_wp2
        go_ret
        exact ⟨rfl, rfl⟩
      · have h3 : wd ≠ 32 ∧ wd ≠ 64 := by omega
        obtain ⟨h4, h5⟩ := h3
        have b4 : (wd != 32) = true := by simpa using h4
        have b5 : (wd != 64) = true := by simpa using h5
        clear h h4 h5
        go_enter Tryd.func15, Tryd.ntmps15
        go_wp2
        go_ret
        exact ⟨rfl, rfl⟩
  · have h6 : wd = 32 ∨ wd = 64 := by omega
    have h7 : ¬ n < 0 := by omega
    have h8 : ¬ 1099511627776 < n := by omega
    rw [show padded n wd = (n + 1 + wd / 4 + 2 * wd - 1) / (2 * wd) * (2 * wd) from if_neg h]
    clear h
    rcases h6 with rfl | rfl
    all_goals
      go_enter Tryd.func15, Tryd.ntmps15
      go_wp2
      go_ret
      exact ⟨rfl, rfl⟩
theorem run_cutK {P : Program} (K1 K2 : IntKind) (t : TypeId) (ht : P.underlying t = some .string) (L : ByteArray) (lo hi : Int) (h0 : 0 ≤ lo) (h1 : lo ≤ hi) (h2 : hi ≤ L.size) (w : World) :
    (Instr.sliceAt t (.string L) (some (.int K1 lo)) (some (.int K2 hi)) none).run P w = .ok (.string (L.extract lo.toNat hi.toNat)) w := by
  obtain ⟨a, rfl⟩ := Int.eq_ofNat_of_zero_le h0
  obtain ⟨b, rfl⟩ := Int.eq_ofNat_of_zero_le (Int.le_trans h0 h1)
  have e1 : a ≤ b := by omega
  have e2 : b ≤ L.size := by omega
  rw [run_sliceAt_string w t _ _ _ _ ht]
  simp [Instr.slice, run_underlying ht, Instr.sliceBounds, run_sliceBound, *]
theorem hex_cut {P : Program} (t : TypeId) (ht : P.underlying t = some .string) (d : Int) (h0 : 0 ≤ d) (h1 : d < 16) (w : World) :
    (Instr.sliceAt t (.string hexS) (some (.int .u8 d)) (some (.int .u8 (d + 1))) none).run P w = .ok (.string (strOfNums [at0 (sb hexS) d.toNat])) w := by
  have e3 : ∀ n : Nat, n < 16 → hexS.extract n (n + 1) = strOfNums [at0 (sb hexS) n] := by decide +kernel
  rw [run_cutK .u8 .u8 t ht hexS d (d + 1) h0 (by omega) (by show d + 1 ≤ (16 : Int); omega) w, show (d + 1).toNat = d.toNat + 1 by omega, e3 d.toNat (by omega)]
theorem wrap_u8J (x : Int) : IntKind.u8.wrap x = x % 256 := by simp [IntKind.wrap, IntKind.bits, IntKind.signed]
theorem strOfNums_app2 (a b : List Int) : strOfNums (a ++ b) = strOfNums a ++ strOfNums b := by
  apply ByteArray.ext
  simp [strOfNums, List.map_append]
theorem hex_step (zs : List Int) (k : Nat) (h : k < zs.length) : strOfNums (hexL (zs.take k)) ++ strOfNums [at0 (sb hexS) (at0 zs k / 16).toNat] ++ strOfNums [at0 (sb hexS) (at0 zs k % 16).toNat] = strOfNums (hexL (zs.take (k + 1))) := by
  rw [take_snoc zs k h, hexL_snoc, ← strOfNums_app2, ← strOfNums_app2]
  simp
theorem ref_hex_v (v : Value) (zs : List Int) (w : World) (hv : RdI .u8 w v zs) (hb : Bytes zs) (hlen : zs.length ≤ 1000000) :
    Calls Tryd.prog 17 #[v] w fun e w' => e = .returned (.string (strOfNums (hexL zs))) ∧ Below w.heap.size w w' := by
  obtain ⟨a, ca, rfl, hla, hma, ha, -⟩ := hv
  unfold maxLen at hma
  have HA := Lib.hid ha; clear ha
  go_enter Tryd.func17, Tryd.ntmps17
  go_wp2
  go_loopw [3, 4] (fun s i wr => ∃ k : Nat, k ≤ zs.length ∧ s = .string (strOfNums (hexL (zs.take k))) ∧ i = .int .i64 k ∧ Below w.heap.size w wr) (fun _ i _ => zs.length - (intOf i).toNat)
  case atStart => exact ⟨0, Nat.zero_le _, rfl, rfl, Below.refl _ _⟩
  case round =>
    obtain ⟨k, hk, rfl, rfl, hbel⟩ := hrel
    by_cases hlt : k < zs.length
    · obtain ⟨x, o, rfl, hc0⟩ := HA.out k hlt
      have hc := (hbel.cell (p := ⟨x, o + k, none⟩) (World.block_lt_of_cell? w _ hc0)).trans hc0
      clear hc0
      clear HA
      obtain ⟨c0, c1⟩ := hb.at k
      have hst := Lib.hid (hex_step zs k hlt)
      have hsz : (strOfNums (hexL (zs.take k))).size ≤ 2000000 := by rw [strOfNums_size, hexL_len, List.length_take]; omega
      generalize at0 zs k = c at *
      generalize strOfNums (hexL (zs.take k)) = S0 at *
      have d1 : c.tdiv 16 = c / 16 := Int.tdiv_eq_ediv_of_nonneg c0
      have d2 : c.tmod 16 = c % 16 := Int.tmod_eq_emod_of_nonneg c0
      have s1 := hex_cut (P := Tryd.prog) 9 Tryd.underlying9 (c / 16) (by omega) (by omega)
      have s2 := hex_cut (P := Tryd.prog) 9 Tryd.underlying9 (c % 16) (by omega) (by omega)
      have t1 : (strOfNums [at0 (sb hexS) (c / 16).toNat]).size = 1 := by rw [strOfNums_size]; rfl
      have t2 : (strOfNums [at0 (sb hexS) (c % 16).toNat]).size = 1 := by rw [strOfNums_size]; rfl
      generalize strOfNums [at0 (sb hexS) (c / 16).toNat] = g1 at *
      generalize strOfNums [at0 (sb hexS) (c % 16).toNat] = g2 at *
      have q1 : 0 ≤ c / 16 ∧ c / 16 < 16 := by omega
      have q2 : 0 ≤ c % 16 ∧ c % 16 < 16 := by omega
      generalize c / 16 = m1 at *
      generalize c % 16 = m2 at *
      have w1 : IntKind.u8.wrap (m1 + 1) = m1 + 1 := by rw [wrap_u8J]; omega
      have w2 : IntKind.u8.wrap (m2 + 1) = m2 + 1 := by rw [wrap_u8J]; omega
      unfold hexS at s1 s2
      go_wp2
      go_quiet (fail)
      go_wp2
      refine ⟨⟨k + 1, by omega, congrArg Value.string hst.out, by go_num, below_drewN hbel _⟩, by simp only [intOf]; omega⟩
    · obtain rfl : k = zs.length := by omega
      rw [List.take_length]
      clear HA
      go_wp2
      go_ret
      exact ⟨rfl, hbel⟩
end Go.Proofs.YtohnicmacmkapaaDoor
namespace Go.Proofs.YtohnicmacmkapaaDoor
open Go.RowKit
set_option linter.unusedVariables false
set_option linter.unusedSimpArgs false

abbrev Fl := List (Nat × Value)
def look : Fl → Nat → Option Value
  | [], _ => none
  | (k, v) :: l, t => match Nat.beq k t with
    | true => some v
    | false => look l t
def ev (f : Fl) : Operand → Option Value
  | .tmp t => look f t
  | .const v => some v
  | .global g => some (.pointer (some ⟨g, 0, none⟩))
  | .func g => some (.func (.func g) #[] #[])
def evl (f : Fl) : List Operand → Option (List Value)
  | [] => some []
  | x :: l => match ev f x with
    | none => none
    | some v => match evl f l with
      | none => none
      | some vs => some (v :: vs)
/-- A frame that holds what the list says. -/
def Fr (N : Nat) (a : Act) (f : Fl) : Prop := Fm N a ∧ ∀ t v, look f t = some v → a.eval (.tmp t) = v
def Sub : Fl → Fl → Prop
  | [], _ => True
  | (t, v) :: l, f => look f t = some v ∧ Sub l f
theorem Fr.ev {N : Nat} {a : Act} {f : Fl} {x : Operand} {v : Value} (h : Fr N a f) (hx : ev f x = some v) : a.eval x = v := by
  cases x with
  | tmp t => exact h.2 t v hx
  | const u => simpa [Go.Proofs.YtohnicmacmkapaaDoor.ev, Act.eval] using hx
  | global g => simpa [Go.Proofs.YtohnicmacmkapaaDoor.ev, Act.eval] using hx
  | func g => simpa [Go.Proofs.YtohnicmacmkapaaDoor.ev, Act.eval] using hx
theorem Fr.evl {N : Nat} {a : Act} {f : Fl} (h : Fr N a f) : ∀ {xs : List Operand} {vs : List Value}, evl f xs = some vs → xs.map a.eval = vs
  | [], vs, hx => by simpa [Go.Proofs.YtohnicmacmkapaaDoor.evl] using hx
  | x :: l, vs, hx => by
    unfold Go.Proofs.YtohnicmacmkapaaDoor.evl at hx
    cases h1 : Go.Proofs.YtohnicmacmkapaaDoor.ev f x with
    | none => rw [h1] at hx; cases hx
    | some v =>
      cases h2 : Go.Proofs.YtohnicmacmkapaaDoor.evl f l with
      | none => rw [h1, h2] at hx; cases hx
      | some us =>
        rw [h1, h2] at hx
        cases hx
        rw [List.map_cons, h.ev h1, Fr.evl h h2]
theorem look_sub : ∀ {f' f : Fl}, Sub f' f → ∀ {t v}, look f' t = some v → look f t = some v
  | [], _, _, t, v, h => by cases h
  | (k, u) :: l, f, hs, t, v, h => by
    unfold look at h
    cases hk : Nat.beq k t with
    | true =>
      rw [hk] at h
      cases h
      have : k = t := Nat.eq_of_beq_eq_true hk
      subst this
      exact hs.1
    | false =>
      rw [hk] at h
      exact look_sub hs.2 h
theorem Fr.sub {N : Nat} {a : Act} {f f' : Fl} (h : Fr N a f) (hs : Sub f' f) : Fr N a f' := ⟨h.1, fun t v hv => h.2 t v (look_sub hs hv)⟩
theorem Fr.put {N : Nat} {a : Act} {f : Fl} (h : Fr N a f) {d : Nat} (hd : decide (d < N) = true) (v : Value) : Fr N (a.put (some d) v) ((d, v) :: f) := by
  refine ⟨h.1.put _ _, fun t u hu => ?_⟩
  unfold look at hu
  cases hk : Nat.beq d t with
  | true =>
    rw [hk] at hu
    cases hu
    have : d = t := Nat.eq_of_beq_eq_true hk
    subst this
    exact put_here h.1 hd v
  | false =>
    rw [hk] at hu
    exact put_kept v t u (by simpa using (fun e : t = d => Nat.ne_of_beq_eq_false hk e.symm)) (h.2 t u hu)
theorem Fr.putn {N : Nat} {a : Act} {f : Fl} (h : Fr N a f) (v : Value) : Fr N (a.put none v) f := h

def wantF (ops : Array Oper) (o : Oper) (f : Fl) : Option Bool := match o.guard with
  | none => some true
  | some (g, b) => match dstAt ops g with
    | none => none
    | some t => match look f t with
      | some (.bool c) => some (c == b)
      | some _ => some false
      | none => none
theorem unwanted_nb {ops : Array Oper} {o : Oper} {a : Act} {g t : Nat} {b : Bool} {v : Value} (hg : o.guard = some (g, b)) (hd : dstAt ops g = some t) (hv : a.eval (.tmp t) = v) (hnb : ∀ c, v ≠ .bool c) : Region.wanted o (yielded ops a.tmps) = false := by
  have hy : yielded ops a.tmps g = none := by
    unfold dstAt at hd
    unfold yielded
    rw [hd]
    rw [eval_tmps] at hv
    cases hq : a.tmps[t]? with
    | none => simp [hq]
    | some x =>
      rw [hq] at hv
      simp only [Option.getD_some] at hv
      subst hv
      cases x <;> simp_all
  unfold Region.wanted
  rw [hg]
  simp [hy]
theorem wantF_of {ops : Array Oper} {o : Oper} {f : Fl} {N : Nat} {a : Act} (h : Fr N a f) {b : Bool} (hw : wantF ops o f = some b) : Region.wanted o (yielded ops a.tmps) = b := by
  unfold wantF at hw
  cases hg : o.guard with
  | none => rw [hg] at hw; cases hw; unfold Region.wanted; rw [hg]
  | some p =>
    obtain ⟨g, c⟩ := p
    rw [hg] at hw
    simp only at hw
    cases hd : dstAt ops g with
    | none => rw [hd] at hw; cases hw
    | some t =>
      rw [hd] at hw
      simp only at hw
      split at hw
      · rename_i c' hl
        cases hw
        have hv := h.2 t _ hl
        cases hcc : (c' == c) with
        | true => have : c' = c := by simpa using hcc
                  subst this; exact wanted_of hg hd hv
        | false => exact unwanted_of hg hd hv hcc
      · rename_i v hnb hl
        cases hw
        exact unwanted_nb hg hd (h.2 t _ hl) (fun c e => hnb c e)
      · cases hw

/-- One operation, over a frame that is a list. -/
def DR (P : Program) (ops : Array Oper) (o : Oper) (N : Nat) (f : Fl) (w : World) (R : Value → World → Prop) : Prop := ∀ a, Fr N a f → Does P ops o a w R
/-- One that yields this value and leaves the world alone. -/
def DV (P : Program) (ops : Array Oper) (o : Oper) (N : Nat) (f : Fl) (w : World) (v : Value) : Prop := DR P ops o N f w fun v' w' => v' = v ∧ w' = w
def WL (P : Program) (ops : Array Oper) (Q : Exit → Act → World → Prop) (N : Nat) (l : List Oper) (f : Fl) (w : World) : Prop := ∀ a, Fr N a f → wpList P ops Q l a w
def WC (P : Program) (N : Nat) (c : Code) (Q : Exit → Act → World → Prop) (f : Fl) (w : World) : Prop := ∀ a, Fr N a f → c.wp P Q a w

section
variable {P : Program} {ops : Array Oper} {o : Oper} {N : Nat} {f : Fl} {w : World} {R : Value → World → Prop} {rest : List Oper} {Q : Exit → Act → World → Prop}

theorem DR.mono {R' : Value → World → Prop} (h : DR P ops o N f w R) (hr : ∀ v w', R v w' → R' v w') : DR P ops o N f w R' := fun a ha => (h a ha).mono hr
theorem DV.dr {v : Value} (h : DV P ops o N f w v) (hr : R v w) : DR P ops o N f w R := DR.mono h fun v' w' e => by obtain ⟨rfl, rfl⟩ := e; exact hr
theorem WL.val {d : Nat} {v : Value} (hd : DV P ops o N f w v) (ho : o.dst = some d) (hN : decide (d < N) = true) (k : WL P ops Q N rest ((d, v) :: f) w) : WL P ops Q N (o :: rest) f w := fun a ha =>
  wpList_does (hd a ha) fun v' w' e => by obtain ⟨rfl, rfl⟩ := e; rw [ho]; exact k _ (ha.put hN _)
theorem WL.get {d : Nat} (hd : DR P ops o N f w R) (ho : o.dst = some d) (hN : decide (d < N) = true) (k : ∀ v w', R v w' → WL P ops Q N rest ((d, v) :: f) w') : WL P ops Q N (o :: rest) f w := fun a ha =>
  wpList_does (hd a ha) fun v' w' e => by rw [ho]; exact k v' w' e _ (ha.put hN _)
theorem WL.do (hd : DR P ops o N f w R) (ho : o.dst = none) (k : ∀ v w', R v w' → WL P ops Q N rest f w') : WL P ops Q N (o :: rest) f w := fun a ha =>
  wpList_does (hd a ha) fun v' w' e => by rw [ho]; exact k v' w' e _ ha
theorem WL.off {d : Nat} (hw : wantF ops o f = some false) (ho : o.dst = some d) (hN : decide (d < N) = true) (k : WL P ops Q N rest ((d, undef) :: f) w) : WL P ops Q N (o :: rest) f w := fun a ha =>
  wpList_does (Does.off (R := fun v' w' => v' = undef ∧ w' = w) (wantF_of ha hw) ⟨rfl, rfl⟩) fun v' w' e => by obtain ⟨rfl, rfl⟩ := e; rw [ho]; exact k _ (ha.put hN _)
theorem WL.offn (hw : wantF ops o f = some false) (ho : o.dst = none) (k : WL P ops Q N rest f w) : WL P ops Q N (o :: rest) f w := fun a ha =>
  wpList_does (Does.off (R := fun v' w' => w' = w) (wantF_of ha hw) rfl) fun v' w' e => by rw [ho, e]; exact k _ ha
theorem WL.nil (h : ∀ a, Fr N a f → Q .normal a w) : WL P ops Q N [] f w := fun a ha => wpList_nil (h a ha)
/-- A slot that holds a bool: both ways. -/
theorem WL.split {l : List Oper} (t : Nat) {b : Bool} (hl : look f t = some (.bool b)) (ht : b = true → WL P ops Q N l ((t, .bool true) :: f) w) (hf : b = false → WL P ops Q N l ((t, .bool false) :: f) w) : WL P ops Q N l f w := fun a ha => by
  have key : ∀ c, b = c → Fr N a ((t, .bool c) :: f) := fun c hc => ⟨ha.1, fun t' v hv => by
    unfold look at hv
    cases hk : Nat.beq t t' with
    | true => rw [hk] at hv; cases hv; have := Nat.eq_of_beq_eq_true hk; subst this; subst hc; exact ha.2 t _ hl
    | false => rw [hk] at hv; exact ha.2 t' v hv⟩
  cases hb : b with
  | true => exact ht hb a (key _ hb)
  | false => exact hf hb a (key _ hb)

theorem beq_dec (m n : Int) : (m == n) = decide (m = n) := by
  by_cases h : m = n
  · simp [h]
  · simp [h]
-- operations that yield, and leave the world alone
theorem dx_move {x : Operand} {v : Value} (ho : o.op = .move x) (hx : ev f x = some v) (hw : wantF ops o f = some true := by rfl) : DV P ops o N f w v := fun a ha => Does.move (wantF_of ha hw) ho (ha.ev hx) ⟨rfl, rfl⟩
theorem dx_assign {x : Operand} {v : Value} (ho : o.op = .assign x) (hx : ev f x = some v) (hw : wantF ops o f = some true := by rfl) : DV P ops o N f w v := fun a ha => Does.assign (wantF_of ha hw) ho (ha.ev hx) ⟨rfl, rfl⟩
theorem dx_pick {c x y : Operand} {b : Bool} {v : Value} (ho : o.op = .pick c x y) (hc : ev f c = some (.bool b)) (hv : (bif b then ev f x else ev f y) = some v) (hw : wantF ops o f = some true := by rfl) : DV P ops o N f w v := fun a ha =>
  Does.pick (wantF_of ha hw) ho (ha.ev hc) (by cases b <;> simp at hv ⊢ <;> exact ha.ev hv) ⟨rfl, rfl⟩
theorem dx_and {c x : Operand} {b d : Bool} (ho : o.op = .pick c x (.const (.bool false))) (hc : ev f c = some (.bool b)) (hx : ev f x = some (.bool d)) (hw : wantF ops o f = some true := by rfl) : DV P ops o N f w (.bool (b && d)) := fun a ha =>
  Does.pick (wantF_of ha hw) ho (ha.ev hc) (by cases b <;> simp [ha.ev hx, eval_c]) ⟨rfl, rfl⟩
theorem dx_or {c y : Operand} {b d : Bool} (ho : o.op = .pick c (.const (.bool true)) y) (hc : ev f c = some (.bool b)) (hy : ev f y = some (.bool d)) (hw : wantF ops o f = some true := by rfl) : DV P ops o N f w (.bool (b || d)) := fun a ha =>
  Does.pick (wantF_of ha hw) ho (ha.ev hc) (by cases b <;> simp [ha.ev hy, eval_c]) ⟨rfl, rfl⟩
theorem dx_not {t : TypeId} {x : Operand} {b : Bool} (ho : o.op = .unOp .not t x) (hx : ev f x = some (.bool b)) (hw : wantF ops o f = some true := by rfl) : DV P ops o N f w (.bool (!b)) := fun a ha =>
  Does.not (wantF_of ha hw) ho (ha.ev hx) rfl ⟨rfl, rfl⟩
theorem dx_add {t t' : TypeId} {x y : Operand} {K : IntKind} {m n r : Int} (ho : o.op = .binOp .add t x y t') (hx : ev f x = some (.int K m)) (hy : ev f y = some (.int K n)) (hr : K.wrap (m + n) = r) (hw : wantF ops o f = some true := by rfl) : DV P ops o N f w (.int K r) := fun a ha =>
  Does.add (wantF_of ha hw) ho (ha.ev hx) (ha.ev hy) hr ⟨rfl, rfl⟩
theorem dx_sub {t t' : TypeId} {x y : Operand} {K : IntKind} {m n r : Int} (ho : o.op = .binOp .sub t x y t') (hx : ev f x = some (.int K m)) (hy : ev f y = some (.int K n)) (hr : K.wrap (m - n) = r) (hw : wantF ops o f = some true := by rfl) : DV P ops o N f w (.int K r) := fun a ha =>
  Does.sub (wantF_of ha hw) ho (ha.ev hx) (ha.ev hy) hr ⟨rfl, rfl⟩
theorem dx_mul {t t' : TypeId} {x y : Operand} {K : IntKind} {m n r : Int} (ho : o.op = .binOp .mul t x y t') (hx : ev f x = some (.int K m)) (hy : ev f y = some (.int K n)) (hr : K.wrap (m * n) = r) (hw : wantF ops o f = some true := by rfl) : DV P ops o N f w (.int K r) := fun a ha =>
  Does.mul (wantF_of ha hw) ho (ha.ev hx) (ha.ev hy) hr ⟨rfl, rfl⟩
theorem dx_quo {t t' : TypeId} {x y : Operand} {K : IntKind} {m n r : Int} (ho : o.op = .binOp .quo t x y t') (hx : ev f x = some (.int K m)) (hy : ev f y = some (.int K n)) (hn : n ≠ 0) (hr : K.wrap (m.tdiv n) = r) (hw : wantF ops o f = some true := by rfl) : DV P ops o N f w (.int K r) := fun a ha =>
  Does.quo (wantF_of ha hw) ho (ha.ev hx) (ha.ev hy) hn hr ⟨rfl, rfl⟩
theorem dx_rem {t t' : TypeId} {x y : Operand} {K : IntKind} {m n r : Int} (ho : o.op = .binOp .rem t x y t') (hx : ev f x = some (.int K m)) (hy : ev f y = some (.int K n)) (hn : n ≠ 0) (hr : m.tmod n = r) (hw : wantF ops o f = some true := by rfl) : DV P ops o N f w (.int K r) := fun a ha =>
  Does.rem (wantF_of ha hw) ho (ha.ev hx) (ha.ev hy) hn hr ⟨rfl, rfl⟩
theorem dx_and_i {t t' : TypeId} {x y : Operand} {K : IntKind} {m n r : Int} (ho : o.op = .binOp .and t x y t') (hx : ev f x = some (.int K m)) (hy : ev f y = some (.int K n)) (hr : bits .and K m n = r) (hw : wantF ops o f = some true := by rfl) : DV P ops o N f w (.int K r) := fun a ha =>
  Does.and (wantF_of ha hw) ho (ha.ev hx) (ha.ev hy) hr ⟨rfl, rfl⟩
theorem dx_or_i {t t' : TypeId} {x y : Operand} {K : IntKind} {m n r : Int} (ho : o.op = .binOp .or t x y t') (hx : ev f x = some (.int K m)) (hy : ev f y = some (.int K n)) (hr : bits .or K m n = r) (hw : wantF ops o f = some true := by rfl) : DV P ops o N f w (.int K r) := fun a ha =>
  Does.or (wantF_of ha hw) ho (ha.ev hx) (ha.ev hy) hr ⟨rfl, rfl⟩
theorem dx_xor_i {t t' : TypeId} {x y : Operand} {K : IntKind} {m n r : Int} (ho : o.op = .binOp .xor t x y t') (hx : ev f x = some (.int K m)) (hy : ev f y = some (.int K n)) (hr : bits .xor K m n = r) (hw : wantF ops o f = some true := by rfl) : DV P ops o N f w (.int K r) := fun a ha =>
  Does.xor (wantF_of ha hw) ho (ha.ev hx) (ha.ev hy) hr ⟨rfl, rfl⟩
theorem dx_lss {t t' : TypeId} {x y : Operand} {K : IntKind} {m n : Int} (ho : o.op = .binOp .lss t x y t') (hx : ev f x = some (.int K m)) (hy : ev f y = some (.int K n)) (hw : wantF ops o f = some true := by rfl) : DV P ops o N f w (.bool (decide (m < n))) := fun a ha =>
  Does.lss (wantF_of ha hw) ho (ha.ev hx) (ha.ev hy) rfl ⟨rfl, rfl⟩
theorem dx_leq {t t' : TypeId} {x y : Operand} {K : IntKind} {m n : Int} (ho : o.op = .binOp .leq t x y t') (hx : ev f x = some (.int K m)) (hy : ev f y = some (.int K n)) (hw : wantF ops o f = some true := by rfl) : DV P ops o N f w (.bool (decide (m ≤ n))) := fun a ha =>
  Does.leq (wantF_of ha hw) ho (ha.ev hx) (ha.ev hy) rfl ⟨rfl, rfl⟩
theorem dx_gtr {t t' : TypeId} {x y : Operand} {K : IntKind} {m n : Int} (ho : o.op = .binOp .gtr t x y t') (hx : ev f x = some (.int K m)) (hy : ev f y = some (.int K n)) (hw : wantF ops o f = some true := by rfl) : DV P ops o N f w (.bool (decide (n < m))) := fun a ha =>
  Does.gtr (wantF_of ha hw) ho (ha.ev hx) (ha.ev hy) rfl ⟨rfl, rfl⟩
theorem dx_geq {t t' : TypeId} {x y : Operand} {K : IntKind} {m n : Int} (ho : o.op = .binOp .geq t x y t') (hx : ev f x = some (.int K m)) (hy : ev f y = some (.int K n)) (hw : wantF ops o f = some true := by rfl) : DV P ops o N f w (.bool (decide (n ≤ m))) := fun a ha =>
  Does.geq (wantF_of ha hw) ho (ha.ev hx) (ha.ev hy) rfl ⟨rfl, rfl⟩
theorem dx_eql {t t' : TypeId} {x y : Operand} {K : IntKind} {m n : Int} (ho : o.op = .binOp .eql t x y t') (hx : ev f x = some (.int K m)) (hy : ev f y = some (.int K n)) (hw : wantF ops o f = some true := by rfl) : DV P ops o N f w (.bool (decide (m = n))) := fun a ha =>
  Does.eqlN (wantF_of ha hw) ho (ha.ev hx) (ha.ev hy) (beq_dec m n) ⟨rfl, rfl⟩
theorem dx_neq {t t' : TypeId} {x y : Operand} {K : IntKind} {m n : Int} (ho : o.op = .binOp .neq t x y t') (hx : ev f x = some (.int K m)) (hy : ev f y = some (.int K n)) (hw : wantF ops o f = some true := by rfl) : DV P ops o N f w (.bool (!decide (m = n))) := fun a ha =>
  Does.neqN (wantF_of ha hw) ho (ha.ev hx) (ha.ev hy) (by rw [bne, beq_dec m n]) ⟨rfl, rfl⟩
theorem dx_conv {s d : TypeId} {x : Operand} {K K' : IntKind} {ts : TypeDesc} {m r : Int} (ho : o.op = .convert s d x) (hs : P.underlying s = some ts) (hd : P.underlying d = some (.int K')) (hx : ev f x = some (.int K m)) (hr : K'.wrap m = r) (hw : wantF ops o f = some true := by rfl) : DV P ops o N f w (.int K' r) := fun a ha =>
  Does.conv (wantF_of ha hw) ho hs hd (ha.ev hx) hr ⟨rfl, rfl⟩
theorem dx_len {t e : TypeId} {x : Operand} {p : Option Addr} {l c : Nat} (ho : o.op = .call { callee := .builtin .len, args := #[x], argTypes := #[t] }) (ht : P.underlying t = some (.slice e)) (hx : ev f x = some (.slice p l c)) (hw : wantF ops o f = some true := by rfl) : DV P ops o N f w (.int .i64 (l : Int)) := fun a ha =>
  Does.lenS (wantF_of ha hw) ho ht (ha.ev hx) ⟨rfl, rfl⟩
theorem dx_lenA {t e : TypeId} {x : Operand} {v : Value} {n : Nat} (ho : o.op = .call { callee := .builtin .len, args := #[x], argTypes := #[t] }) (ht : P.underlying t = some (.array n e)) (hx : ev f x = some v) (hw : wantF ops o f = some true := by rfl) : DV P ops o N f w (.int .i64 (n : Int)) := fun a ha => by
  have hx := ha.ev hx
  exact Does.pure (wantF_of ha hw) _ (by unfold execOp; simp only [ho, resolve, invoke, builtin, Sem.run_bind, Sem.run_pure, Result.andThen_ok, List.map_toArray, List.map_cons, List.map_nil, hx]; simp [Builtin.len_, run_underlying ht, goInt]) ⟨rfl, rfl⟩
theorem dx_lenT {t : TypeId} {x : Operand} {s : ByteArray} (ho : o.op = .call { callee := .builtin .len, args := #[x], argTypes := #[t] }) (ht : P.underlying t = some .string) (hx : ev f x = some (.string s)) (hw : wantF ops o f = some true := by rfl) : DV P ops o N f w (.int .i64 (s.size : Int)) := fun a ha => by
  have hx := ha.ev hx
  exact Does.pure (wantF_of ha hw) _ (by unfold execOp; simp only [ho, resolve, invoke, builtin, Sem.run_bind, Sem.run_pure, Result.andThen_ok, List.map_toArray, List.map_cons, List.map_nil, hx]; simp [Builtin.len_, run_underlying ht, goInt]) ⟨rfl, rfl⟩
theorem dx_extract {x : Operand} {i : Nat} {vs : Array Value} {v : Value} (ho : o.op = .extract x i) (hx : ev f x = some (.tuple vs)) (hv : vs[i]? = some v) (hw : wantF ops o f = some true := by rfl) : DV P ops o N f w v := fun a ha => by
  have hx := ha.ev hx
  exact Does.pure (wantF_of ha hw) _ (by unfold execOp; simp only [ho, hx, Instr.extract, hv, Sem.run_bind, Sem.run_pure, Result.andThen_ok]) ⟨rfl, rfl⟩
theorem dx_func {fn : Fn} {first captured : Array Operand} {cs : List Value} (ho : o.op = .makeFunc fn first captured) (h1 : first = #[]) (hc : evl f captured.toList = some cs) (hw : wantF ops o f = some true := by rfl) : DV P ops o N f w (.func fn #[] cs.toArray) := fun a ha => by
  have hx := ha.evl hc
  exact Does.pure (wantF_of ha hw) _ (by unfold execOp; simp only [ho, h1, Instr.makeFunc, Sem.run_bind, Sem.run_pure, Result.andThen_ok]; rw [← hx]; congr 3 <;> first | (simp; done) | (rw [← Array.toList_map])) ⟨rfl, rfl⟩
-- strings
theorem str_beq (s t : ByteArray) : (s.toList == t.toList) = decide (s = t) := by
  by_cases h : s = t
  · rw [str_eq_yes h, decide_eq_true h]
  · rw [str_eq_no h, decide_eq_false h]
def sless (s t : ByteArray) : Bool := Op.bytesLess s.toList t.toList
theorem dx_eqlT {t t' : TypeId} {x y : Operand} {m n : ByteArray} (ho : o.op = .binOp .eql t x y t') (hx : ev f x = some (.string m)) (hy : ev f y = some (.string n)) (hw : wantF ops o f = some true := by rfl) : DV P ops o N f w (.bool (decide (m = n))) := fun a ha => by
  have hx := ha.ev hx
  have hy := ha.ev hy
  exact Does.pure (wantF_of ha hw) _ (by unfold execOp; simp only [ho, hx, hy, eqGuard, Sem.run_bind, Sem.run_pure, Result.andThen_ok]; simp [binOp, Op.stringOp, str_beq]) ⟨rfl, rfl⟩
theorem dx_neqT {t t' : TypeId} {x y : Operand} {m n : ByteArray} (ho : o.op = .binOp .neq t x y t') (hx : ev f x = some (.string m)) (hy : ev f y = some (.string n)) (hw : wantF ops o f = some true := by rfl) : DV P ops o N f w (.bool (!decide (m = n))) := fun a ha => by
  have hx := ha.ev hx
  have hy := ha.ev hy
  exact Does.pure (wantF_of ha hw) _ (by unfold execOp; simp only [ho, hx, hy, eqGuard, Sem.run_bind, Sem.run_pure, Result.andThen_ok]; simp [binOp, Op.stringOp, str_beq]) ⟨rfl, rfl⟩
theorem dx_lssT {t t' : TypeId} {x y : Operand} {m n : ByteArray} (ho : o.op = .binOp .lss t x y t') (hx : ev f x = some (.string m)) (hy : ev f y = some (.string n)) (hw : wantF ops o f = some true := by rfl) : DV P ops o N f w (.bool (sless m n)) := fun a ha => by
  have hx := ha.ev hx
  have hy := ha.ev hy
  exact Does.pure (wantF_of ha hw) _ (by unfold execOp; simp only [ho, hx, hy, eqGuard, Sem.run_bind, Sem.run_pure, Result.andThen_ok]; simp [binOp, Op.stringOp, sless]) ⟨rfl, rfl⟩
theorem dx_geqT {t t' : TypeId} {x y : Operand} {m n : ByteArray} (ho : o.op = .binOp .geq t x y t') (hx : ev f x = some (.string m)) (hy : ev f y = some (.string n)) (hw : wantF ops o f = some true := by rfl) : DV P ops o N f w (.bool (!sless m n)) := fun a ha => by
  have hx := ha.ev hx
  have hy := ha.ev hy
  exact Does.pure (wantF_of ha hw) _ (by unfold execOp; simp only [ho, hx, hy, eqGuard, Sem.run_bind, Sem.run_pure, Result.andThen_ok]; simp [binOp, Op.stringOp, sless]) ⟨rfl, rfl⟩
theorem dx_gtrT {t t' : TypeId} {x y : Operand} {m n : ByteArray} (ho : o.op = .binOp .gtr t x y t') (hx : ev f x = some (.string m)) (hy : ev f y = some (.string n)) (hw : wantF ops o f = some true := by rfl) : DV P ops o N f w (.bool (!(sless m n || decide (m = n)))) := fun a ha => by
  have hx := ha.ev hx
  have hy := ha.ev hy
  exact Does.pure (wantF_of ha hw) _ (by unfold execOp; simp only [ho, hx, hy, eqGuard, Sem.run_bind, Sem.run_pure, Result.andThen_ok]; simp [binOp, Op.stringOp, sless, str_beq]) ⟨rfl, rfl⟩
theorem dx_addT {t t' : TypeId} {x y : Operand} {m n : ByteArray} (ho : o.op = .binOp .add t x y t') (hx : ev f x = some (.string m)) (hy : ev f y = some (.string n)) (hs : m.size + n.size ≤ 9223372036854775807) (hw : wantF ops o f = some true := by rfl) : DV P ops o N f w (.string (m ++ n)) := fun a ha => by
  have hx := ha.ev hx
  have hy := ha.ev hy
  have hz : ¬ ((m.size + n.size : Nat) : Int) > IntKind.i64.max := by have : IntKind.i64.max = 9223372036854775807 := by decide
                                                                      rw [this]; omega
  exact Does.pure (wantF_of ha hw) _ (by unfold execOp; simp only [ho, hx, hy, eqGuard, Sem.run_bind, Sem.run_pure, Result.andThen_ok]; simp only [binOp, Op.stringOp, if_neg hz]; simp) ⟨rfl, rfl⟩
-- a call
theorem evl_args {a : Act} {xs : List Operand} {vs : List Value} (h : xs.map a.eval = vs) : xs.toArray.map a.eval = vs.toArray := by rw [← h]; simp
theorem dx_call {c : Operand} {F : FuncId} {fn : Func} {xs : List Operand} {ts : Array TypeId} {vs : List Value} {cap : Array Value} (ho : o.op = .call { callee := .value c, args := xs.toArray, argTypes := ts }) (hcv : ev f c = some (.func (.func F) #[] cap)) (hf : P.funcs[F]? = some fn) (hn : (fn.name == "runtime.NumGoroutine") = false) (hb : fn.body.isNone = false)
    (hx : evl f xs = some vs) (hc : Calls P F (vs.toArray ++ cap) w fun e w' => ∃ v, e = .returned v ∧ R v w') (hw : wantF ops o f = some true := by rfl) : DR P ops o N f w R := fun a ha => by
  have he := evl_args (ha.evl hx)
  have hc' := ha.ev hcv
  exact Does.call (wantF_of ha hw) F (vs.toArray ++ cap) (by
    unfold execOp
    simp only [ho, resolve, he, hc', Deferred.ofValue, Sem.run_bind, Sem.run_pure, Result.andThen_ok, invoke]
    simp only [Array.empty_append, callFunc, Sem.run_bind, run_program, Result.andThen_ok, hf, hn, hb]
    rfl) hc
end
end Go.Proofs.YtohnicmacmkapaaDoor
namespace Go.Proofs.YtohnicmacmkapaaDoor
open Go.RowKit
set_option linter.unusedVariables false
set_option linter.unusedSimpArgs false

section
variable {P : Program} {N : Nat} {f : Fl} {w : World} {Q : Exit → Act → World → Prop}
theorem WC.seq {x y : Code} (h : ∀ K : Act → World → Prop, (∀ {f w}, WC P N y Q f w → ∀ a, Fr N a f → K a w) → WC P N x (Exit.then K Q) f w) : WC P N (.seq x y) Q f w := fun a ha =>
  wp_seq_k fun K hK => h K (fun {f w} hy a ha => hK a w (hy a ha)) a ha
theorem WC.skip (h : ∀ a, Fr N a f → Q .normal a w) : WC P N .skip Q f w := fun a ha => wp_skip (h a ha)
theorem WC.exit {id : Nat} (h : ∀ a, Fr N a f → Q (.exit id) a w) : WC P N (.exit id) Q f w := fun a ha => wp_exit (h a ha)
theorem WC.ret (h : ∀ a, Fr N a f → Q .ret a w) : WC P N .ret Q f w := fun a ha => wp_ret (h a ha)
theorem WC.block {id : Nat} {c : Code} (h : WC P N c (Exit.inBlock id Q) f w) : WC P N (.block id c) Q f w := fun a ha => wp_block (h a ha)
theorem WC.region {id : Nat} {l : List Oper} (h : WL P l.toArray Q N l f w) : WC P N (.region id l.toArray false) Q f w := fun a ha => wp_region_lit (h a ha)
theorem WC.cond {c : Operand} {x y : Code} {b : Bool} (hc : ev f c = some (.bool b)) (ht : b = true → WC P N x Q f w) (hf : b = false → WC P N y Q f w) : WC P N (.cond c x y) Q f w := fun a ha =>
  wp_cond_split (ha.ev hc) (fun h => ht h a ha) (fun h => hf h a ha)
theorem WC.condT {c : Operand} {x y : Code} (hc : ev f c = some (.bool true)) (h : WC P N x Q f w) : WC P N (.cond c x y) Q f w := fun a ha => wp_cond_true (ha.ev hc) (h a ha)
theorem WC.condF {c : Operand} {x y : Code} (hc : ev f c = some (.bool false)) (h : WC P N y Q f w) : WC P N (.cond c x y) Q f w := fun a ha => wp_cond_false (ha.ev hc) (h a ha)
theorem WC.sub {c : Code} {f' : Fl} (hs : Sub f' f) (h : WC P N c Q f' w) : WC P N c Q f w := fun a ha => h a (ha.sub hs)
theorem WC.loop {σ : Type} {c : Code} (fr : σ → Fl) (I : σ → World → Prop) (μ : σ → Nat) (s0 : σ) (hs : Sub (fr s0) f) (h0 : I s0 w)
    (round : ∀ (K : Act → World → Prop) s w, I s w → (∀ {f' w'} (s' : σ), I s' w' → μ s' < μ s → Sub (fr s') f' → ∀ a, Fr N a f' → K a w') → WC P N c (Exit.then K Q) (fr s) w) : WC P N (.loop c) Q f w := fun a ha =>
  wp_loop_ghost (fun n a w => ∃ s, μ s = n ∧ I s w ∧ Fr N a (fr s)) (μ s0) ⟨s0, rfl, h0, ha.sub hs⟩ fun n a w hI => by
    obtain ⟨s, rfl, hI, hfr⟩ := hI
    exact round _ s w hI (fun {f' w'} s' hI' hlt hsub a' hf' => ⟨μ s', hlt, s', rfl, hI', hf'.sub hsub⟩) a hfr
theorem WC.loop2 {α β : Type} {c : Code} (fr : α → β → Fl) (I : α → β → World → Prop) (μ : α → β → Nat) (a0 : α) (b0 : β) (hs : Sub (fr a0 b0) f) (h0 : I a0 b0 w)
    (round : ∀ (K : Act → World → Prop) a b w, I a b w → (∀ {f' w'} (a' : α) (b' : β), I a' b' w' → μ a' b' < μ a b → Sub (fr a' b') f' → ∀ x, Fr N x f' → K x w') → WC P N c (Exit.then K Q) (fr a b) w) : WC P N (.loop c) Q f w :=
  WC.loop (σ := α × β) (fun s => fr s.1 s.2) (fun s => I s.1 s.2) (fun s => μ s.1 s.2) (a0, b0) hs h0 fun K s w hI hK => round K s.1 s.2 w hI fun a' b' h1 h2 h3 => hK (a', b') h1 h2 h3
theorem WC.loop3 {α β γ : Type} {c : Code} (fr : α → β → γ → Fl) (I : α → β → γ → World → Prop) (μ : α → β → γ → Nat) (a0 : α) (b0 : β) (c0 : γ) (hs : Sub (fr a0 b0 c0) f) (h0 : I a0 b0 c0 w)
    (round : ∀ (K : Act → World → Prop) a b c' w, I a b c' w → (∀ {f' w'} (a' : α) (b' : β) (c'' : γ), I a' b' c'' w' → μ a' b' c'' < μ a b c' → Sub (fr a' b' c'') f' → ∀ x, Fr N x f' → K x w') → WC P N c (Exit.then K Q) (fr a b c') w) : WC P N (.loop c) Q f w :=
  WC.loop (σ := α × β × γ) (fun s => fr s.1 s.2.1 s.2.2) (fun s => I s.1 s.2.1 s.2.2) (fun s => μ s.1 s.2.1 s.2.2) (a0, b0, c0) hs h0 fun K s w hI hK => round K s.1 s.2.1 s.2.2 w hI fun a' b' c' h1 h2 h3 => hK (a', b', c') h1 h2 h3
end
theorem calls_fm {P : Program} {f : FuncId} {fn : Func} {args : Array Value} {body : Code} {w : World} {R : Ending → World → Prop} {N : Nat} (hf : P.funcs[f]? = some fn) (hb : fn.body = some body) (hn : fn.ntmps = N) (hN : decide (args.size ≤ N) = true)
    (h : ∀ a, Fm N a → (∀ t v, args[t]? = some v → a.eval (.tmp t) = v) → body.wp P (bodyPost P fn R) a w) : Calls P f args w R := by
  refine calls_of_wp hf hb ?_
  refine h _ ⟨?_, rfl⟩ fun t v hv => ?_
  · have := of_decide_eq_true hN
    simp [hn]
    omega
  · have ht := (Array.getElem?_eq_some_iff.1 hv).1
    rw [eval_tmps]
    have he := Array.getElem?_eq_getElem ht
    rw [he] at hv
    simp [Array.getElem?_append, ht]
    exact Option.some.inj hv
theorem calls_sx {P : Program} {F : FuncId} {fn : Func} {body : Code} {w : World} {R : Ending → World → Prop} {N : Nat} (vs : List Value) (f : Fl) (hf : P.funcs[F]? = some fn) (hb : fn.body = some body) (hn : fn.ntmps = N) (hN : decide (vs.length ≤ N) = true)
    (hfr : f = (vs.zipIdx.map fun p => (p.2, p.1))) (h : WC P N body (bodyPost P fn R) f w) : Calls P F vs.toArray w R := by
  refine calls_fm hf hb hn (by simpa using hN) fun a hfm harg => h a ⟨hfm, fun t v hv => harg t v ?_⟩
  subst hfr
  have key : ∀ (l : List Value) (k : Nat), look ((l.zipIdx k).map fun p => (p.2, p.1)) t = some v → k ≤ t ∧ l[t - k]? = some v := by
    intro l
    induction l with
    | nil => intro k hk; cases hk
    | cons x l ih =>
      intro k hk
      simp only [List.zipIdx_cons, List.map_cons] at hk
      unfold look at hk
      cases hb : Nat.beq k t with
      | true =>
        rw [hb] at hk
        cases hk
        have := Nat.eq_of_beq_eq_true hb
        subst this
        simp
      | false =>
        rw [hb] at hk
        obtain ⟨h1, h2⟩ := ih (k + 1) hk
        refine ⟨by omega, ?_⟩
        rw [show t - k = (t - (k + 1)) + 1 by omega]
        simpa using h2
  have := (key vs 0 hv).2
  simpa using this
/-- The end of a call: results that are slots. -/
def fin (P : Program) (fn : Func) (R : Ending → World → Prop) (a : Act) (w : World) : Prop := a.defers = [] ∧ ∃ v, (results fn a.tmps).run P w = .ok v w ∧ R (.returned v) w
section
variable {P : Program} {fn : Func} {R : Ending → World → Prop} {N : Nat} {f : Fl} {w : World}
theorem slot_fr {a : Act} {t : Nat} {v : Value} (ha : Fr N a f) (h : look f t = some v) : a.tmps.getD t undef = v := ha.2 t v h
theorem fin0 (h : fn.results = #[]) (hR : R (.returned (.tuple #[])) w) : ∀ a, Fr N a f → fin P fn R a w := fun a ha => ⟨ha.1.2, _, by simp [results, h], hR⟩
theorem fin1 {t0 : Nat} {v0 : Value} (h : fn.results = #[.tmp t0]) (h0 : look f t0 = some v0) (hR : R (.returned v0) w) : ∀ a, Fr N a f → fin P fn R a w := fun a ha => ⟨ha.1.2, _, by simp only [results, h, List.mapM_toArray, List.mapM_cons, List.mapM_nil, slot_fr ha h0]; simp, hR⟩
theorem fin2 {t0 t1 : Nat} {v0 v1 : Value} (h : fn.results = #[.tmp t0, .tmp t1]) (h0 : look f t0 = some v0) (h1 : look f t1 = some v1) (hR : R (.returned (.tuple #[v0, v1])) w) : ∀ a, Fr N a f → fin P fn R a w := fun a ha => ⟨ha.1.2, _, by simp only [results, h, List.mapM_toArray, List.mapM_cons, List.mapM_nil, slot_fr ha h0, slot_fr ha h1]; simp, hR⟩
theorem fin3 {t0 t1 t2 : Nat} {v0 v1 v2 : Value} (h : fn.results = #[.tmp t0, .tmp t1, .tmp t2]) (h0 : look f t0 = some v0) (h1 : look f t1 = some v1) (h2 : look f t2 = some v2) (hR : R (.returned (.tuple #[v0, v1, v2])) w) : ∀ a, Fr N a f → fin P fn R a w := fun a ha => ⟨ha.1.2, _, by simp only [results, h, List.mapM_toArray, List.mapM_cons, List.mapM_nil, slot_fr ha h0, slot_fr ha h1, slot_fr ha h2]; simp, hR⟩
theorem fin4 {t0 t1 t2 t3 : Nat} {v0 v1 v2 v3 : Value} (h : fn.results = #[.tmp t0, .tmp t1, .tmp t2, .tmp t3]) (h0 : look f t0 = some v0) (h1 : look f t1 = some v1) (h2 : look f t2 = some v2) (h3 : look f t3 = some v3) (hR : R (.returned (.tuple #[v0, v1, v2, v3])) w) : ∀ a, Fr N a f → fin P fn R a w := fun a ha => ⟨ha.1.2, _, by simp only [results, h, List.mapM_toArray, List.mapM_cons, List.mapM_nil, slot_fr ha h0, slot_fr ha h1, slot_fr ha h2, slot_fr ha h3]; simp, hR⟩
theorem fin5 {t0 t1 t2 t3 t4 : Nat} {v0 v1 v2 v3 v4 : Value} (h : fn.results = #[.tmp t0, .tmp t1, .tmp t2, .tmp t3, .tmp t4]) (h0 : look f t0 = some v0) (h1 : look f t1 = some v1) (h2 : look f t2 = some v2) (h3 : look f t3 = some v3) (h4 : look f t4 = some v4) (hR : R (.returned (.tuple #[v0, v1, v2, v3, v4])) w) : ∀ a, Fr N a f → fin P fn R a w := fun a ha => ⟨ha.1.2, _, by simp only [results, h, List.mapM_toArray, List.mapM_cons, List.mapM_nil, slot_fr ha h0, slot_fr ha h1, slot_fr ha h2, slot_fr ha h3, slot_fr ha h4]; simp, hR⟩
theorem fin6 {t0 t1 t2 t3 t4 t5 : Nat} {v0 v1 v2 v3 v4 v5 : Value} (h : fn.results = #[.tmp t0, .tmp t1, .tmp t2, .tmp t3, .tmp t4, .tmp t5]) (h0 : look f t0 = some v0) (h1 : look f t1 = some v1) (h2 : look f t2 = some v2) (h3 : look f t3 = some v3) (h4 : look f t4 = some v4) (h5 : look f t5 = some v5) (hR : R (.returned (.tuple #[v0, v1, v2, v3, v4, v5])) w) : ∀ a, Fr N a f → fin P fn R a w := fun a ha => ⟨ha.1.2, _, by simp only [results, h, List.mapM_toArray, List.mapM_cons, List.mapM_nil, slot_fr ha h0, slot_fr ha h1, slot_fr ha h2, slot_fr ha h3, slot_fr ha h4, slot_fr ha h5]; simp, hR⟩
end
/-- What an operation of a drawn region yields: a value, or what it is like. -/
inductive VS where
  | is (v : Value)
  | by (p : Value → World → Prop)
def VS.ok : VS → Value → World → Prop
  | .is v, u, _ => u = v
  | .by p, u, w => p u w
def VS.mono : List (Option Tmp × VS) → Prop
  | [] => True
  | (_, .is _) :: l => VS.mono l
  | (_, .by p) :: l => (∀ u W W', Below W.heap.size W W' → p u W → p u W') ∧ VS.mono l
/-- One step, from the frame with what it waits for. -/
def DStep (P : Program) (ops : Array Oper) (o : Oper) (N : Nat) (W : World) (sd : List (Option Tmp × VS)) (R : Value → World → Prop) : List Nat → Fl → Prop
  | [], f => DR P ops o N f W R
  | j :: l, f => match sd[j]? with
    | some (some d, .is v) => DStep P ops o N W sd R l ((d, v) :: f)
    | some (some d, .by p) => ∀ u, p u W → DStep P ops o N W sd R l ((d, u) :: f)
    | some (none, .by p) => ∀ u, p u W → DStep P ops o N W sd R l f
    | _ => DStep P ops o N W sd R l f
def okAt (sd : List (Option Tmp × VS)) (k : Nat) (v : Value) (w : World) : Prop := match sd[k]? with
  | some (_, s) => s.ok v w
  | none => True
def DSteps (P : Program) (ops : Array Oper) (N : Nat) (w0 : World) (sd : List (Option Tmp × VS)) (dl : List (List Nat)) (f : Fl) : Nat → List Oper → Prop
  | _, [] => True
  | k, o :: l => (∀ W, Below w0.heap.size w0 W → DStep P ops o N W sd (fun v W' => Below W.heap.size W W' ∧ okAt sd k v W') ((dl[k]?).getD []) f) ∧ DSteps P ops N w0 sd dl f (k + 1) l
def DEnd (K : Fl → World → Prop) (W : World) : List (Option Tmp × VS) → Fl → Prop
  | [], f => K f W
  | (some d, .is v) :: l, f => DEnd K W l ((d, v) :: f)
  | (some d, .by p) :: l, f => ∀ u, p u W → DEnd K W l ((d, u) :: f)
  | (none, .by p) :: l, f => ∀ u, p u W → DEnd K W l f
  | (none, .is _) :: l, f => DEnd K W l f
def inN (N : Nat) (sd : List (Option Tmp × VS)) : Bool := sd.all fun p => match p.1 with
  | some d => decide (d < N)
  | none => true
section
variable {P : Program} {ops : Array Oper} {N : Nat} {sd : List (Option Tmp × VS)} {dl : List (List Nat)}
theorem restr_self (g : Nat → Value) (j : Nat) (l : List Nat) : restr g (j :: l) j = g j := by simp [restr]
theorem inN_at (hN : inN N sd = true) {j d : Nat} {s : VS} (h : sd[j]? = some (some d, s)) : decide (d < N) = true := by
  have := List.all_eq_true.1 hN _ (List.mem_of_getElem? h)
  simpa using this
theorem DStep.to {o : Oper} {W : World} {R : Value → World → Prop} (hN : inN N sd = true) {g : Nat → Value} : ∀ (l : List Nat) (f : Fl) (a : Act), DStep P ops o N W sd R l f → Fr N a f → HypL (fun j g w => okAt sd j (g j) w) dl g W l → Does P ops o (putL (sd.map (·.1)) g l a) W R
  | [], f, a, h, ha, _ => h a ha
  | j :: l, f, a, h, ha, hh => by
    obtain ⟨h1, h2⟩ := hh
    simp only [restr_self] at h1
    unfold DStep at h
    unfold putL
    rw [List.getElem?_map]
    cases hs : sd[j]? with
    | none => rw [hs] at h; exact DStep.to hN l f _ h ha h2
    | some p =>
      obtain ⟨d, s⟩ := p
      rw [hs] at h
      unfold okAt at h1
      rw [hs] at h1
      cases d with
      | none =>
        cases s with
        | is v => exact DStep.to hN l f _ h ha h2
        | «by» p => exact DStep.to hN l f _ (h _ h1) ha h2
      | some d =>
        have hd := inN_at hN hs
        cases s with
        | is v => exact DStep.to hN l _ _ h (by have e : g j = v := h1; rw [← e]; exact ha.put hd _) h2
        | «by» p => exact DStep.to hN l _ _ (h _ h1) (ha.put hd _) h2
theorem DEnd.to {K : Fl → World → Prop} {W : World} (hN : inN N sd = true) {Q : Act → World → Prop} (hK : ∀ f, K f W → ∀ a, Fr N a f → Q a W) {g : Nat → Value} : ∀ (l : List (Option Tmp × VS)) (k : Nat) (f : Fl) (a : Act), sd.drop k = l → DEnd K W l f → Fr N a f → HypL (fun j g w => okAt sd j (g j) w) dl g W (List.range' k l.length) → Q (putL (sd.map (·.1)) g (List.range' k l.length) a) W
  | [], k, f, a, _, h, ha, _ => hK f h a ha
  | (d, s) :: l, k, f, a, he, h, ha, hh => by
    have hs : sd[k]? = some (d, s) := by
      have := congrArg List.head? he
      simpa [List.head?_drop] using this
    have ht : sd.drop (k + 1) = l := by rw [← List.drop_drop, he]; rfl
    rw [List.length_cons, List.range'_succ] at hh ⊢
    obtain ⟨h1, h2⟩ := hh
    simp only [restr_self] at h1
    unfold okAt at h1
    rw [hs] at h1
    unfold putL
    rw [List.getElem?_map, hs]
    cases d with
    | none =>
      cases s with
      | is v => exact DEnd.to hN hK l (k + 1) f _ ht h ha h2
      | «by» p => exact DEnd.to hN hK l (k + 1) f _ ht (h _ h1) ha h2
    | some d =>
      have hd := inN_at hN hs
      cases s with
      | is v => exact DEnd.to hN hK l (k + 1) _ _ ht h (by have e : g k = v := h1; rw [← e]; exact ha.put hd _) h2
      | «by» p => exact DEnd.to hN hK l (k + 1) _ _ ht (h _ h1) (ha.put hd _) h2
theorem mono_at : ∀ {sd : List (Option Tmp × VS)}, VS.mono sd → ∀ {j : Nat} {d : Option Tmp} {p : Value → World → Prop}, sd[j]? = some (d, .by p) → ∀ u W W', Below W.heap.size W W' → p u W → p u W'
  | [], _, j, d, p, h => by simp at h
  | (d', .is v) :: l, hm, j, d, p, h => by
    cases j with
    | zero => simp at h
    | succ j => exact mono_at (sd := l) hm (by simpa using h)
  | (d', .by q) :: l, hm, j, d, p, h => by
    cases j with
    | zero =>
      simp only [List.getElem?_cons_zero, Option.some.injEq, Prod.mk.injEq, VS.by.injEq] at h
      rw [← h.2]
      exact hm.1
    | succ j => exact mono_at (sd := l) hm.2 (by simpa using h)
/-- A region whose order is drawn, and that writes to no memory that was there. -/
theorem WC.draw {id : Nat} {f : Fl} {w : World} {Q : Exit → Act → World → Prop} (sd : List (Option Tmp × VS)) (dl : List (List Nat)) (hm : P.follows .mixedOrders = true) (hb : ordB .any ops = true) (hdl : ops.toList.map (depsOf .any) = dl)
    (hds : ops.toList.map (·.dst) = sd.map (·.1)) (hN : inN N sd = true) (hmono : VS.mono sd) (hst : DSteps P ops N w sd dl f 0 ops.toList)
    (hend : ∀ W, Below w.heap.size w W → DEnd (fun f W => ∀ a, Fr N a f → Q .normal a W) W sd f) : WC P N (.region id ops true) Q f w := fun a ha => by
  have hlen : dl.length = sd.length := by rw [← hdl, List.length_map, ← List.length_map (f := (·.dst)), hds, List.length_map]
  refine wp_region_ord dl (sd.map (·.1)) dl.length (fun _ W => Below w.heap.size w W) (fun j g W => okAt sd j (g j) W) (fun _ _ _ => False) hm hb hdl hds (fun _ W W' h h' => h'.trans (h.mono h'.size)) ?_ (fun _ _ _ _ _ _ h => h.elim) (below_draws (Below.refl _ _) 1) ?_ ?_
  · intro j g W W' hB h
    unfold okAt at h ⊢
    cases hs : sd[j]? with
    | none => trivial
    | some p =>
      obtain ⟨d, s⟩ := p
      rw [hs] at h
      cases s with
      | is v => exact h
      | «by» p => exact mono_at hmono hs _ W W' hB h
  · have key : ∀ (l : List Oper) (k : Nat), DSteps P ops N w sd dl f k l → k + l.length ≤ dl.length → StepL P ops (sd.map (·.1)) dl dl.length a (fun _ W => Below w.heap.size w W) (fun j g W => okAt sd j (g j) W) (fun _ _ _ => False) k l := by
      intro l
      induction l with
      | nil => intro k _ _; trivial
      | cons o l ih =>
        intro k hs hk
        rw [List.length_cons] at hk
        refine StepL.other (by simp; omega) (fun b g W _ hG hH => ?_) (ih (k + 1) hs.2 (by omega))
        refine (DStep.to hN _ f a (hs.1 W hG) ha hH).mono fun v W' h => ⟨h.1, ?_⟩
        simp only [restr_self]
        rw [show upd g k v k = v by simp [upd]]
        exact h.2
    refine key _ _ hst ?_
    rw [← hdl]
    simp
  · intro g W hG hH
    rw [hlen, List.range_eq_range'] at hH ⊢
    exact DEnd.to (Q := fun a W => Q .normal a W) hN (fun f h a ha => h a ha) sd 0 f a (by simp) (hend W hG) ha hH
end
end Go.Proofs.YtohnicmacmkapaaDoor
namespace Go.Proofs.YtohnicmacmkapaaDoor
open Go.RowKit
set_option linter.unusedVariables false
set_option linter.unusedSimpArgs false

/-- One block has been written to, and nothing else has changed. -/
structure Only (B : Nat) (w w' : World) : Prop where
  os : w'.os = w.os
  tape : w'.tape = w.tape
  output : w'.output = w.output
  size : w'.heap.size = w.heap.size
  block : ∀ k, k ≠ B → w'.heap[k]? = w.heap[k]?
theorem Only.below {n0 B : Nat} {w0 w w' : World} (h : Only B w w') (hb : Below n0 w0 w) (hB : n0 ≤ B) : Below n0 w0 w' :=
  ⟨by rw [h.os]; exact hb.os, by rw [h.tape]; exact hb.tape, by rw [h.output]; exact hb.output, by rw [h.size]; exact hb.size, fun k hk => by rw [h.block k (by omega)]; exact hb.block k hk⟩
theorem only_setRow (w : World) (B : Nat) (cs : Array Value) : Only B w (w.setRow B cs) := ⟨rfl, rfl, rfl, by simp [World.setRow], fun k hk => setRow_other w B k cs hk⟩
/-- What lies off these blocks has stayed. -/
def Agree (L : List Nat) (w w' : World) : Prop := w.heap.size ≤ w'.heap.size ∧ ∀ k, k ∉ L → k < w.heap.size → w'.heap[k]? = w.heap[k]?
theorem Agree.of_below {L : List Nat} {w w' : World} (h : Below w.heap.size w w') : Agree L w w' := ⟨h.size, fun k _ hk => h.block k hk⟩
theorem Agree.of_only {L : List Nat} {B : Nat} {w w' : World} (h : Only B w w') (hB : B ∈ L) : Agree L w w' := ⟨by rw [h.size]; exact Nat.le_refl _, fun k hk _ => h.block k (fun e => hk (e ▸ hB))⟩
/-- A block of the call's own: it may be written. -/
def Blk (w : World) (B : Nat) (cs : List Value) : Prop := ∃ t, w.heap[B]? = some (.cells cs.toArray t (0, 0))
theorem Blk.lt {w : World} {B : Nat} {cs : List Value} (h : Blk w B cs) : B < w.heap.size := by
  obtain ⟨t, h⟩ := h
  exact (Array.getElem?_eq_some_iff.1 h).1
theorem Blk.below {w w' : World} {B : Nat} {cs : List Value} (h : Blk w B cs) (hb : Below w.heap.size w w') : Blk w' B cs := by
  obtain ⟨t, h'⟩ := h
  exact ⟨t, by rw [hb.block B (Blk.lt ⟨t, h'⟩)]; exact h'⟩
theorem Blk.other {w w' : World} {B C : Nat} {cs : List Value} (h : Blk w B cs) (ho : Only C w w') (hn : B ≠ C) : Blk w' B cs := by
  obtain ⟨t, h'⟩ := h
  exact ⟨t, by rw [ho.block B hn]; exact h'⟩
theorem Blk.range {w : World} {B : Nat} {cs : List Value} (h : Blk w B cs) : w.rangeAt B 0 cs := fun j v hj => by
  obtain ⟨t, h⟩ := h
  simp [World.cell?, h, hj]
theorem Blk.part {w : World} {B : Nat} {cs : List Value} (h : Blk w B cs) (o n : Nat) : w.rangeAt B o ((cs.drop o).take n) := fun j v hj => by
  rw [List.getElem?_take] at hj
  split at hj
  · rw [List.getElem?_drop] at hj
    have := h.range (o + j) v hj
    simpa using this
  · cases hj
theorem Blk.partE {w : World} {B : Nat} {cs cs' : List Value} (h : Blk w B cs) {o n : Nat} (he : (cs.drop o).take n = cs') : w.rangeAt B o cs' := he ▸ h.part o n
theorem Blk.cell {w : World} {B k : Nat} {cs : List Value} {v : Value} (h : Blk w B cs) (hk : cs[k]? = some v) : w.cell? ⟨B, k, none⟩ = some v := by simpa using h.range k v hk
theorem range_agree {w w' : World} {L : List Nat} {X o : Nat} {cs : List Value} (h : w.rangeAt X o cs) (ha : Agree L w w') (hX : X ∉ L) : w'.rangeAt X o cs := fun j v hj => by
  have h1 := h j v hj
  have hlt := World.block_lt_of_cell? w _ h1
  rw [← h1]
  exact World.cell?_of_block (ha.2 X hX hlt)
theorem range_lt {w : World} {X o : Nat} {cs : List Value} (h : w.rangeAt X o cs) (hn : 0 < cs.length) : X < w.heap.size :=
  World.block_lt_of_cell? w _ (h 0 _ (List.getElem?_eq_getElem hn))
theorem range_part {w : World} {X o : Nat} {cs : List Value} (h : w.rangeAt X o cs) (p n : Nat) : w.rangeAt X (o + p) ((cs.drop p).take n) := fun j v hj => by
  rw [List.getElem?_take] at hj
  split at hj
  · rw [List.getElem?_drop] at hj
    rw [Nat.add_assoc]
    exact h (p + j) v hj
  · cases hj
/-- A pointer to these cells, off the call's own blocks. -/
def PtR (L : List Nat) (w : World) (u : Value) (cs : List Value) : Prop := 0 < cs.length ∧ ∃ X o, u = .pointer (some ⟨X, o, none⟩) ∧ X ∉ L ∧ w.rangeAt X o cs
theorem PtR.agree {L : List Nat} {w w' : World} {u : Value} {cs : List Value} (h : PtR L w u cs) (ha : Agree L w w') : PtR L w' u cs := by
  obtain ⟨h0, X, o, h1, h2, h3⟩ := h
  exact ⟨h0, X, o, h1, h2, range_agree h3 ha h2⟩
theorem PtR.below {L : List Nat} {w w' : World} {u : Value} {cs : List Value} (h : PtR L w u cs) (hb : Below w.heap.size w w') : PtR L w' u cs := h.agree (.of_below hb)
theorem PtR.less {L L' : List Nat} {w : World} {u : Value} {cs : List Value} (h : PtR L w u cs) (hl : ∀ x, x ∈ L' → x ∈ L) : PtR L' w u cs := by
  obtain ⟨h0, X, o, h1, h2, h3⟩ := h
  exact ⟨h0, X, o, h1, fun hx => h2 (hl X hx), h3⟩
theorem PtR.only {L : List Nat} {w w' : World} {u : Value} {cs : List Value} (h : PtR L w u cs) {B : Nat} (ho : Only B w w') (hB : B ∈ L) : PtR L w' u cs := h.agree (.of_only ho hB)
theorem PtR.more {L : List Nat} {w w' : World} {u : Value} {cs : List Value} (h : PtR L w u cs) (hb : Below w.heap.size w w') {B : Nat} (hB : w.heap.size ≤ B) : PtR (B :: L) w' u cs := by
  have h := h
  obtain ⟨h0, X, o, h1, h2, h3⟩ := h
  have hlt := range_lt h3 h0
  refine ⟨h0, X, o, h1, ?_, range_agree h3 (.of_below (L := L) hb) h2⟩
  simp only [List.mem_cons, not_or]
  exact ⟨by omega, h2⟩
/-- A slice whose elements are these rows, off the call's own blocks. -/
def RdF (s : Nat) (L : List Nat) (w : World) (v : Value) (rs : List (List Value)) : Prop :=
  0 < s ∧ (∀ r ∈ rs, r.length = s) ∧ ∃ a cap, v = .slice a rs.length cap ∧ rs.length ≤ cap ∧ cap ≤ maxLen ∧ (a = none → cap = 0) ∧ (rs ≠ [] → ∃ X o, a = some ⟨X, o, none⟩ ∧ X ∉ L ∧ w.rangeAt X o rs.flatten)
theorem flat_len {s : Nat} : ∀ {rs : List (List Value)}, (∀ r ∈ rs, r.length = s) → rs.flatten.length = rs.length * s
  | [], _ => by simp
  | r :: rs, h => by
    rw [List.flatten_cons, List.length_append, flat_len (fun r hr => h r (List.mem_cons_of_mem _ hr)), h r (by simp), List.length_cons, Nat.succ_mul, Nat.add_comm]
theorem flat_drop {s : Nat} : ∀ {rs : List (List Value)} (i : Nat), (∀ r ∈ rs, r.length = s) → rs.flatten.drop (i * s) = (rs.drop i).flatten
  | rs, 0, _ => by simp
  | [], i + 1, _ => by simp
  | r :: rs, i + 1, h => by
    have hr := h r (by simp)
    rw [List.flatten_cons, Nat.succ_mul, Nat.add_comm, ← List.drop_drop, ← hr, List.drop_left, hr, flat_drop i (fun r hr => h r (List.mem_cons_of_mem _ hr)), List.drop_succ_cons]
theorem flat_take {s : Nat} : ∀ {rs : List (List Value)} (i : Nat), (∀ r ∈ rs, r.length = s) → rs.flatten.take (i * s) = (rs.take i).flatten
  | rs, 0, _ => by simp
  | [], i + 1, _ => by simp
  | r :: rs, i + 1, h => by
    have hr := h r (by simp)
    rw [List.flatten_cons, Nat.succ_mul, Nat.add_comm, List.take_add, ← hr, List.take_left, List.drop_left, hr, flat_take i (fun r hr => h r (List.mem_cons_of_mem _ hr)), List.take_succ_cons, List.flatten_cons]
theorem flat_row {s : Nat} {rs : List (List Value)} {i : Nat} {r : List Value} (h : ∀ r ∈ rs, r.length = s) (hi : rs[i]? = some r) : (rs.flatten.drop (i * s)).take s = r := by
  obtain ⟨hl, he⟩ := List.getElem?_eq_some_iff.1 hi
  have hr := h r (List.mem_of_getElem? hi)
  rw [flat_drop i h, List.drop_eq_getElem_cons hl, he, List.flatten_cons, ← hr, List.take_left]
theorem RdF.agree {s : Nat} {L : List Nat} {w w' : World} {v : Value} {rs : List (List Value)} (h : RdF s L w v rs) (ha : Agree L w w') : RdF s L w' v rs := by
  obtain ⟨h0, hr, a, cap, h1, h2, h3, h4, h5⟩ := h
  refine ⟨h0, hr, a, cap, h1, h2, h3, h4, fun hn => ?_⟩
  obtain ⟨X, o, e, hX, hc⟩ := h5 hn
  exact ⟨X, o, e, hX, range_agree hc ha hX⟩
theorem RdF.below {s : Nat} {L : List Nat} {w w' : World} {v : Value} {rs : List (List Value)} (h : RdF s L w v rs) (hb : Below w.heap.size w w') : RdF s L w' v rs := h.agree (.of_below hb)
theorem RdF.only {s : Nat} {L : List Nat} {w w' : World} {v : Value} {rs : List (List Value)} (h : RdF s L w v rs) {B : Nat} (ho : Only B w w') (hB : B ∈ L) : RdF s L w' v rs := h.agree (.of_only ho hB)
theorem RdF.more {s : Nat} {L : List Nat} {w w' : World} {v : Value} {rs : List (List Value)} (h : RdF s L w v rs) (hb : Below w.heap.size w w') {B : Nat} (hB : w.heap.size ≤ B) : RdF s (B :: L) w' v rs := by
  obtain ⟨h0, hr, a, cap, h1, h2, h3, h4, h5⟩ := h.below hb
  obtain ⟨_, _, a', cap', h1', _, _, _, h5'⟩ := h
  refine ⟨h0, hr, a, cap, h1, h2, h3, h4, fun hn => ?_⟩
  obtain ⟨X, o, e, hX, hc⟩ := h5 hn
  obtain ⟨X', o', e', hX', hc'⟩ := h5' hn
  refine ⟨X, o, e, ?_, hc⟩
  have hlen : 0 < rs.flatten.length := by
    rw [flat_len hr]
    exact Nat.mul_pos (List.length_pos_iff.2 hn) h0
  have hlt := range_lt hc' hlen
  have : X = X' := by rw [h1] at h1'; simp only [Value.slice.injEq] at h1'; rw [e, e'] at h1'; simp at h1'; exact h1'.1.1
  simp only [List.mem_cons, not_or]
  exact ⟨by omega, hX⟩
theorem RdF.less {s : Nat} {L L' : List Nat} {w : World} {v : Value} {rs : List (List Value)} (h : RdF s L w v rs) (hl : ∀ x, x ∈ L' → x ∈ L) : RdF s L' w v rs := by
  obtain ⟨h0, hr, a, cap, h1, h2, h3, h4, h5⟩ := h
  refine ⟨h0, hr, a, cap, h1, h2, h3, h4, fun hn => ?_⟩
  obtain ⟨X, o, e, hX, hc⟩ := h5 hn
  exact ⟨X, o, e, fun hx => hX (hl X hx), hc⟩
theorem RdF.nil {s : Nat} {L : List Nat} {w : World} (hs : 0 < s) : RdF s L w (.slice none 0 0) [] := ⟨hs, by simp, none, 0, rfl, Nat.le_refl _, by unfold maxLen; omega, fun _ => rfl, fun h => absurd rfl h⟩
theorem RdF.len {s : Nat} {L : List Nat} {w : World} {v : Value} {rs : List (List Value)} (h : RdF s L w v rs) : rs.length ≤ maxLen := by
  obtain ⟨_, _, a, cap, _, h2, h3, _⟩ := h
  omega

theorem oc_nil : ∀ v ∈ ([] : List Value), v.oneCell' = true := fun v h => by cases h
theorem oc_cons {v : Value} {l : List Value} (h : v.oneCell' = true) (t : ∀ u ∈ l, u.oneCell' = true) : ∀ u ∈ v :: l, u.oneCell' = true := fun u hu => by
  cases hu with
  | head => exact h
  | tail _ hu => exact t u hu
theorem oc_one {v : Value} (h : v.oneCell' = true) : v.cells.toList = [v] := by cases v <;> simp_all [Value.cells, Value.oneCell']
theorem oc_app {l l' : List Value} (h : ∀ u ∈ l, u.oneCell' = true) (t : ∀ u ∈ l', u.oneCell' = true) : ∀ u ∈ l ++ l', u.oneCell' = true := fun u hu => by
  rcases List.mem_append.1 hu with h1 | h1
  · exact h u h1
  · exact t u h1
theorem RdF.one {s : Nat} {L : List Nat} {w : World} {v : Value} {rs : List (List Value)} (h : RdF s L w v rs) : v.oneCell' = true := by
  obtain ⟨_, _, a, cap, rfl, _⟩ := h
  rfl
-- what is asked of types, as one test each
def aggB (P : Program) (t n : Nat) : Bool := (match P.underlying t with | some (.struct _) => true | some (.array _ _) => true | _ => false) && (match P.info? t with | some i => i.size == n | none => false)
def oneB (P : Program) (t : Nat) : Bool := (match P.underlying t with | none => false | some (.struct _) => false | some (.array _ _) => false | some _ => true) && (match P.info? t with | some i => i.size == 1 | none => false)
def sizeB (P : Program) (t n : Nat) : Bool := match P.info? t with | some i => i.size == n | none => false
def sliceB (P : Program) (t s : Nat) : Bool := match P.underlying t with | some (.slice e) => sizeB P e s | _ => false
/-- A struct's field lies so many cells behind its beginning. -/
def fldB (P : Program) (s : TypeId) (f off : Nat) : Bool := match P.underlying s with
  | some (.struct fs) => match fs[f]? with
    | some fd => fd.offset == off && (match P.info? fd.type with | some i => i.size != 0 | none => false)
    | none => false
  | _ => false
section
variable {P : Program}
theorem of_sizeB {t n : Nat} (h : sizeB P t n = true) : ∃ i, P.info? t = some i ∧ i.size = n := by
  unfold sizeB at h
  split at h
  · rename_i i hi; exact ⟨i, hi, by simpa using h⟩
  · cases h
theorem of_sizeM {t n : Nat} (h : sizeB P t n = true) : (P.info? t).map (·.size) = some n := by
  obtain ⟨i, hi, hn⟩ := of_sizeB h
  rw [hi, ← hn]; rfl
theorem of_aggB {t n : Nat} (h : aggB P t n = true) : ∃ d, P.underlying t = some d ∧ d.isRow = true ∧ (P.info? t).map (·.size) = some n := by
  unfold aggB at h
  simp only [Bool.and_eq_true] at h
  obtain ⟨h1, h2⟩ := h
  have h3 := of_sizeM (P := P) (t := t) (n := n) h2
  split at h1
  · rename_i fs hu; exact ⟨_, hu, rfl, h3⟩
  · rename_i m e hu; exact ⟨_, hu, rfl, h3⟩
  · cases h1
theorem of_oneB {t : Nat} (h : oneB P t = true) : ∃ d, P.underlying t = some d ∧ (match d with | .struct _ | .array _ _ => true | _ => false) = false ∧ (P.info? t).map (·.size) = some 1 := by
  unfold oneB at h
  simp only [Bool.and_eq_true] at h
  obtain ⟨h1, h2⟩ := h
  have h3 := of_sizeM (P := P) (t := t) (n := 1) h2
  split at h1
  · cases h1
  · cases h1
  · cases h1
  · rename_i d hs ha hu
    exact ⟨_, hu, by cases d <;> simp_all, h3⟩
theorem of_sliceB {t s : Nat} (h : sliceB P t s = true) : ∃ e, P.underlying t = some (.slice e) ∧ (P.info? e).map (·.size) = some s := by
  unfold sliceB at h
  split at h
  · rename_i e hu; exact ⟨e, hu, of_sizeM h⟩
  · cases h
theorem addr_at (b o j : Nat) : (⟨b, o, none⟩ : Addr).add j = ⟨b, o + j, none⟩ := Go.Addr.add_mid b o j
theorem run_fldB {w : World} {s : TypeId} {f off : Nat} (hf : fldB P s f off = true) (B o0 : Nat) : (Instr.fieldAt s (.pointer (some ⟨B, o0, none⟩)) f).run P w = .ok (.pointer (some ⟨B, o0 + off, none⟩)) w := by
  unfold fldB at hf
  cases hu : P.underlying s with
  | none => rw [hu] at hf; cases hf
  | some d =>
    rw [hu] at hf
    cases d <;> simp only [Bool.false_eq_true] at hf
    rename_i fs
    cases hfs : fs[f]? with
    | none => rw [hfs] at hf; cases hf
    | some fd =>
      rw [hfs] at hf
      simp only [Bool.and_eq_true, beq_iff_eq] at hf
      obtain ⟨h1, h2⟩ := hf
      subst h1
      cases hi : P.info? fd.type with
      | none => rw [hi] at h2; cases h2
      | some i =>
        rw [hi] at h2
        have hne : i.size ≠ 0 := by simpa using h2
        simp [Instr.fieldAt, fieldPlace, Instr.sureAddr, Sem.run_bind, run_underlying hu w, hfs, sizeOf, typeInfo, hi, hne, addr_at]
theorem run_idxS {w : World} {t e : TypeId} {n c s : Nat} (hu : P.underlying t = some (.slice e)) (hs : (P.info? e).map (·.size) = some s) (X o0 : Nat) (k : IntKind) (i : Int) (h0 : 0 ≤ i) (h1 : i < n) :
    (Instr.indexAt t (.slice (some ⟨X, o0, none⟩) n c) (.int k i)).run P w = .ok (.pointer (some ⟨X, o0 + i.toNat * s, none⟩)) w := by
  cases hi : P.info? e with
  | none => rw [hi] at hs; cases hs
  | some q =>
    have hq : q.size = s := by simpa [hi] using hs
    simp [Instr.indexAt, asIntOf, Sem.run_bind, run_underlying hu w, h0, h1, sizeOf, typeInfo, hi, hq, addr_at]
theorem run_idxA {w : World} {t e : TypeId} {n s : Nat} (hu : P.underlying t = some (.array n e)) (hs : (P.info? e).map (·.size) = some s) (B o0 : Nat) (k : IntKind) (i : Int) (h0 : 0 ≤ i) (h1 : i < n) :
    (Instr.indexAt t (.pointer (some ⟨B, o0, none⟩)) (.int k i)).run P w = .ok (.pointer (some ⟨B, o0 + i.toNat * s, none⟩)) w := by
  cases hi : P.info? e with
  | none => rw [hi] at hs; cases hs
  | some q =>
    have hq : q.size = s := by simpa [hi] using hs
    simp [Instr.indexAt, asIntOf, Instr.sureAddr, Sem.run_bind, run_underlying hu w, h0, h1, sizeOf, typeInfo, hi, hq, addr_at]
end
section
variable {P : Program} {ops : Array Oper} {o : Oper} {N : Nat} {f : Fl} {w : World}
/-- What a new block of the call's own is. -/
def NewB (w : World) (cs : List Value) (u : Value) (W : World) : Prop := u = .pointer (some ⟨w.heap.size, 0, none⟩) ∧ Blk W w.heap.size cs ∧ Below w.heap.size w W ∧ w.heap.size < W.heap.size
theorem newB_alloc (w : World) (t : TypeId) (V : Value) : NewB w V.cells.toList (.pointer (some ⟨w.heap.size, 0, none⟩)) (w.alloc (.cells V.cells t)) :=
  ⟨rfl, ⟨t, by rw [heap_alloc_new]⟩, (Below.refl _ _).alloc (Nat.le_refl _) _, (Array.getElem?_eq_some_iff.1 (heap_alloc_new w _)).1⟩
theorem dx_box {t : TypeId} {x : Operand} {V : Value} {cs : List Value} (ho : o.op = .box t x) (hx : ev f x = some V) (hc : V.cells.toList = cs) (hw : wantF ops o f = some true := by rfl) : DR P ops o N f w (NewB w cs) := fun a ha => by
  have hx := ha.ev hx
  subst hc
  exact Does.of_wp (wantF_of ha hw) fun K hK => by
    unfold Oper.wp execOp
    simp only [ho, hx, Sem.run_bind, Instr.box, newVar, newRow, run_newObj_alloc, Sem.run_pure, Result.andThen_ok]
    exact hK _ _ (newB_alloc w t V)
theorem dx_alloc {t : TypeId} {Z : Value} {cs : List Value} (ho : o.op = .alloc t) (hz : (P.info? t).bind (·.zero) = some Z) (hc : Z.cells.toList = cs) (hw : wantF ops o f = some true := by rfl) : DR P ops o N f w (NewB w cs) := fun a ha => by
  subst hc
  exact Does.of_wp (wantF_of ha hw) fun K hK => by
    cases hi : P.info? t with
    | none => rw [hi] at hz; cases hz
    | some i =>
      rw [hi] at hz
      have hz' : i.zero = some Z := hz
      have hti : (typeInfo t).run P w = .ok i w := by simp [typeInfo, hi]
      unfold Oper.wp execOp
      simp only [ho, Sem.run_bind, Instr.alloc, zeroValue, hti, hz', newVar, newRow, run_newObj_alloc, Sem.run_pure, Result.andThen_ok]
      exact hK _ _ (newB_alloc w t Z)
theorem dx_fld {t : TypeId} {x : Operand} {k off B o0 o1 : Nat} (ho : o.op = .fieldAddr t x k) (hf : fldB P t k off = true) (hx : ev f x = some (.pointer (some ⟨B, o0, none⟩))) (h1 : o0 + off = o1) (hw : wantF ops o f = some true := by rfl) : DV P ops o N f w (.pointer (some ⟨B, o1, none⟩)) := fun a ha => by
  have hx := ha.ev hx
  exact Does.pure (wantF_of ha hw) _ (by unfold execOp; simp only [ho, hx, Sem.run_bind, run_fldB hf, Result.andThen_ok, h1]; rfl) ⟨rfl, rfl⟩
theorem dx_idxA {t e : TypeId} {x y : Operand} {n s B o0 o1 : Nat} {K : IntKind} {i : Int} (ho : o.op = .indexAddr t x y) (hu : P.underlying t = some (.array n e)) (hs : sizeB P e s = true) (hx : ev f x = some (.pointer (some ⟨B, o0, none⟩))) (hy : ev f y = some (.int K i)) (h0 : 0 ≤ i ∧ i < n) (h1 : o0 + i.toNat * s = o1) (hw : wantF ops o f = some true := by rfl) : DV P ops o N f w (.pointer (some ⟨B, o1, none⟩)) := fun a ha => by
  have hx := ha.ev hx
  have hy := ha.ev hy
  exact Does.pure (wantF_of ha hw) _ (by unfold execOp; simp only [ho, hx, hy, Sem.run_bind, run_idxA hu (of_sizeM hs) B o0 K i h0.1 h0.2, Result.andThen_ok, h1]; rfl) ⟨rfl, rfl⟩
theorem dx_load {t : TypeId} {x : Operand} {B o0 : Nat} {v : Value} (ho : o.op = .load t x) (ht : oneB P t = true) (hx : ev f x = some (.pointer (some ⟨B, o0, none⟩))) (hc : w.cell? ⟨B, o0, none⟩ = some v) (hw : wantF ops o f = some true := by rfl) : DV P ops o N f w v := fun a ha => by
  obtain ⟨d, hu, hd, _⟩ := of_oneB ht
  have hx := ha.ev hx
  have hagg : (isAgg t).run P w = .ok false w := by
    unfold isAgg
    rw [Sem.run_bind, run_underlying hu w]
    cases d <;> simp_all
  exact Does.pure (wantF_of ha hw) v (by unfold execOp; simp [ho, hx, Sem.run_bind, Instr.loadAt, Instr.sureAddr, loadVar, hagg, hc]) ⟨rfl, rfl⟩
theorem dx_loadN {t : TypeId} {x : Operand} {B o0 n : Nat} {cs : List Value} (ho : o.op = .load t x) (ht : aggB P t n = true) (hx : ev f x = some (.pointer (some ⟨B, o0, none⟩))) (hc : w.rangeAt B o0 cs) (hn : cs.length = n) (hw : wantF ops o f = some true := by rfl) : DV P ops o N f w (.agg cs.toArray) := fun a ha => by
  obtain ⟨d, hu, hd, hi⟩ := of_aggB ht
  have hx := ha.ev hx
  exact Does.of_wp (wantF_of ha hw) fun K hK => wp_load_mid t x ho B o0 hx cs d hc hu hd (by rw [hi, hn]) (hK _ _ ⟨rfl, rfl⟩)
theorem dx_store {t : TypeId} {x y : Operand} {B o0 n : Nat} {V : Value} {vs cs cs' : List Value} (ho : o.op = .store t x y) (ht : sizeB P t n = true) (hx : ev f x = some (.pointer (some ⟨B, o0, none⟩))) (hy : ev f y = some V) (hv : V.cells.toList = vs) (h1 : ∀ v ∈ vs, v.oneCell' = true)
    (hb : Blk w B cs) (hn : vs.length = n) (hl : o0 + n ≤ cs.length) (hr : cs.take o0 ++ (vs ++ cs.drop (o0 + n)) = cs') (hw : wantF ops o f = some true := by rfl) : DR P ops o N f w fun _ W => Blk W B cs' ∧ Only B w W := fun a ha => by
  obtain ⟨i, hi, hs⟩ := of_sizeB ht
  have hx := ha.ev hx
  have hy := ha.ev hy
  exact Does.of_wp (wantF_of ha hw) fun K hK => by
    obtain ⟨tt, hb'⟩ := hb
    have hst := run_storeCells_at P B o0 tt vs 0 _ w hb' (by simp; omega) h1
    simp only [Nat.add_zero] at hst
    have hcs : (cs.toArray.toList.take o0 ++ vs ++ cs.toArray.toList.drop (o0 + vs.length)) = cs' := by rw [← hr, hn]; simp
    rw [hcs] at hst
    have hsz : V.cells.size = i.size := by rw [← Array.length_toList, hv, hn, hs]
    unfold Oper.wp execOp
    simp only [ho, hx, hy, Instr.storeAt, Instr.sureAddr, storeVar, sizeOf, typeInfo, Sem.run_bind, Sem.run_pure, Result.andThen_ok, run_program, hi, hsz, hv, ne_eq, not_true_eq_false, if_false, hst]
    exact hK _ _ ⟨⟨tt, setRow_heap w B _ _ tt _ hb'⟩, only_setRow w B _⟩
theorem dx_storeW {t : TypeId} {x y : Operand} {B n : Nat} {V : Value} {vs cs : List Value} (ho : o.op = .store t x y) (ht : sizeB P t n = true) (hx : ev f x = some (.pointer (some ⟨B, 0, none⟩))) (hy : ev f y = some V) (hv : V.cells.toList = vs) (h1 : ∀ v ∈ vs, v.oneCell' = true)
    (hb : Blk w B cs) (hn : vs.length = n) (hl : cs.length = n) (hw : wantF ops o f = some true := by rfl) : DR P ops o N f w fun _ W => Blk W B vs ∧ Only B w W :=
  dx_store (cs' := vs) ho ht hx hy hv h1 hb hn (by omega) (by rw [List.drop_eq_nil_of_le (by omega)]; simp) hw
-- slices of rows
theorem dx_lenF {t s s' : Nat} {L : List Nat} {x : Operand} {v : Value} {rs : List (List Value)} (ho : o.op = .call { callee := .builtin .len, args := #[x], argTypes := #[t] }) (ht : sliceB P t s' = true) (hx : ev f x = some v) (hr : RdF s L w v rs) (hw : wantF ops o f = some true := by rfl) : DV P ops o N f w (.int .i64 (rs.length : Int)) := by
  obtain ⟨_, _, a, cap, rfl, _⟩ := hr
  obtain ⟨e, hu, _⟩ := of_sliceB ht
  exact dx_len ho hu hx hw
theorem dx_idxF {t s : Nat} {L : List Nat} {x y : Operand} {v : Value} {rs : List (List Value)} {K : IntKind} {i : Int} {r : List Value} (k : Nat) (ho : o.op = .indexAddr t x y) (ht : sliceB P t s = true) (hx : ev f x = some v) (hy : ev f y = some (.int K i)) (hr : RdF s L w v rs) (hk : i = (k : Int)) (hi : rs[k]? = some r) (hw : wantF ops o f = some true := by rfl) :
    DR P ops o N f w fun u W => w = W ∧ PtR L w u r := fun a ha => by
  obtain ⟨h0, hl, ad, cap, rfl, h2, h3, h4, h5⟩ := hr
  obtain ⟨e, hu, hs⟩ := of_sliceB ht
  have hx := ha.ev hx
  have hy := ha.ev hy
  subst hk
  have hlt := (List.getElem?_eq_some_iff.1 hi).1
  obtain ⟨X, o0, rfl, hX, hc⟩ := h5 (by intro e; subst e; simp at hlt)
  have hrun := run_idxS (w := w) (n := rs.length) (c := cap) hu hs X o0 K (k : Int) (by omega) (by omega)
  refine Does.pure (wantF_of ha hw) (.pointer (some ⟨X, o0 + k * s, none⟩)) (by unfold execOp; simp only [ho, hx, hy, Sem.run_bind, hrun, Result.andThen_ok]; rfl) ⟨rfl, by rw [hl r (List.mem_of_getElem? hi)]; exact h0, X, _, rfl, hX, ?_⟩
  have := range_part hc (k * s) s
  rw [flat_row hl hi] at this
  simpa using this
theorem dx_fldP {t : TypeId} {x : Operand} {k off : Nat} {L : List Nat} {u : Value} {cs cs' : List Value} (n : Nat) (ho : o.op = .fieldAddr t x k) (hf : fldB P t k off = true) (hx : ev f x = some u) (hp : PtR L w u cs) (hr : (cs.drop off).take n = cs') (hn : 0 < cs'.length) (hw : wantF ops o f = some true := by rfl) : DR P ops o N f w fun u' W => w = W ∧ PtR L w u' cs' := fun a ha => by
  obtain ⟨_, X, o0, rfl, hX, hc⟩ := hp
  have hx := ha.ev hx
  refine Does.pure (wantF_of ha hw) _ (by unfold execOp; simp only [ho, hx, Sem.run_bind, run_fldB hf, Result.andThen_ok]; rfl) ⟨rfl, hn, X, _, rfl, hX, ?_⟩
  have := range_part hc off n
  rwa [hr] at this
theorem dx_loadP {t : TypeId} {x : Operand} {L : List Nat} {u v : Value} (ho : o.op = .load t x) (ht : oneB P t = true) (hx : ev f x = some u) (hp : PtR L w u [v]) (hw : wantF ops o f = some true := by rfl) : DV P ops o N f w v := by
  obtain ⟨_, X, o0, rfl, hX, hc⟩ := hp
  exact dx_load ho ht hx (by simpa using hc 0 v rfl) hw
theorem dx_loadPN {t : TypeId} {x : Operand} {n : Nat} {L : List Nat} {u : Value} {cs : List Value} (ho : o.op = .load t x) (ht : aggB P t n = true) (hx : ev f x = some u) (hp : PtR L w u cs) (hn : cs.length = n) (hw : wantF ops o f = some true := by rfl) : DV P ops o N f w (.agg cs.toArray) := by
  obtain ⟨_, X, o0, rfl, hX, hc⟩ := hp
  exact dx_loadN ho ht hx hc hn hw
theorem dx_build {t : TypeId} {parts : Array (Nat × Operand)} {ps : List (Nat × Value)} {cs : List Value} (ho : o.op = .build t parts) (hp : (evl f (parts.toList.map (·.2))).map (fun vs => (parts.toList.map (·.1)).zip vs) = some ps) (hb : P.built t ps = some cs.toArray) (hw : wantF ops o f = some true := by rfl) : DV P ops o N f w (.agg cs.toArray) := fun a ha => by
  have key : (parts.map fun (i, x) => (i, a.eval x)).toList = ps := by
    cases hq : evl f (parts.toList.map (·.2)) with
    | none => rw [hq] at hp; cases hp
    | some vs =>
      rw [hq] at hp
      have h1 := ha.evl hq
      simp only [Option.map_some, Option.some.injEq] at hp
      rw [← hp, ← h1, Array.toList_map]
      clear hp h1 hq ho
      induction parts.toList with
      | nil => rfl
      | cons p l ih => simp only [List.map_cons, List.zip_cons_cons, List.cons.injEq, true_and]; exact ih
  refine Does.pure (wantF_of ha hw) _ ?_ ⟨rfl, rfl⟩
  unfold execOp
  simp only [ho, Sem.run_bind, run_build w t _ _ (by rw [key]; exact hb), Result.andThen_ok]
  rfl
end
end Go.Proofs.YtohnicmacmkapaaDoor
namespace Go.Proofs.YtohnicmacmkapaaDoor
open Go.RowKit
set_option linter.unusedVariables false
set_option linter.unusedSimpArgs false

/-- The call returns, with this, and leaves the memory that was there. -/
def CV (P : Program) (F : FuncId) (args : List Value) (w : World) (R : Value → World → Prop) : Prop := Calls P F args.toArray w fun e w' => ∃ v, e = .returned v ∧ R v w' ∧ Below w.heap.size w w'
theorem CV.mono {P : Program} {F : FuncId} {args : List Value} {w : World} {R R' : Value → World → Prop} (h : CV P F args w R) (hr : ∀ v w', Below w.heap.size w w' → R v w' → R' v w') : CV P F args w R' :=
  Calls.mono h fun e w' ⟨v, he, hR, hb⟩ => ⟨v, he, hr v w' hb hR, hb⟩
/-- The end of a call. -/
def finV (P : Program) (fn : Func) (R : Value → World → Prop) (w0 : World) (a : Act) (w : World) : Prop := a.defers = [] ∧ ∃ v, (results fn a.tmps).run P w = .ok v w ∧ R v w ∧ Below w0.heap.size w0 w
theorem cv_enter {P : Program} {F : FuncId} {fn : Func} {body : Code} {w : World} {R : Value → World → Prop} {N : Nat} {vs : List Value} (hf : P.funcs[F]? = some fn) (hb : fn.body = some body) (hn : fn.ntmps = N) (hN : decide (vs.length ≤ N) = true) {f : Fl}
    (hfr : (vs.zipIdx.map fun p => (p.2, p.1)) = f) (h : ∀ Q : Exit → Act → World → Prop, (∀ {a W}, finV P fn R w a W → Q .ret a W) → (∀ {a W}, finV P fn R w a W → Q .normal a W) → WC P N body Q f w) : CV P F vs w R :=
  calls_sx vs f hf hb hn hN hfr.symm (h _ (fun {a W} ⟨h1, v, h2, h3, h4⟩ => ⟨h1, v, h2, v, rfl, h3, h4⟩) (fun {a W} ⟨h1, v, h2, h3, h4⟩ => ⟨h1, v, h2, v, rfl, h3, h4⟩))
/-- The call's own blocks lie in the heap. -/
def LL (L : List Nat) (w : World) : Prop := ∀ x ∈ L, x < w.heap.size
theorem LL.nil (w : World) : LL [] w := fun x h => by cases h
theorem LL.more {L : List Nat} {w w' : World} (h : LL L w) (hz : w.heap.size < w'.heap.size) : LL (w.heap.size :: L) w' := fun x hx => by
  cases hx with
  | head => exact hz
  | tail _ hx => have := h x hx; omega
theorem LL.below {L : List Nat} {w w' : World} (h : LL L w) (hb : Below w.heap.size w w') : LL L w' := fun x hx => Nat.lt_of_lt_of_le (h x hx) hb.size
theorem LL.only {L : List Nat} {w w' : World} (h : LL L w) {B : Nat} (ho : Only B w w') : LL L w' := fun x hx => by rw [ho.size]; exact h x hx
theorem LL.less {L L' : List Nat} {w : World} (h : LL L w) (hl : ∀ x, x ∈ L' → x ∈ L) : LL L' w := fun x hx => h x (hl x hx)
theorem LL.tail {L : List Nat} {w : World} {B : Nat} (h : LL (B :: L) w) : LL L w := fun x hx => h x (.tail _ hx)
theorem bnot_t {b : Bool} (h : (!b) = true) : b = false := by cases b <;> simp_all
theorem bnot_f {b : Bool} (h : (!b) = false) : b = true := by cases b <;> simp_all
theorem bvar_f {b : Bool} (h : b = false) : ¬ b = true := by simp [h]
theorem band_t {a b : Bool} (h : (a && b) = true) : a = true ∧ b = true := by cases a <;> simp_all
theorem bor_f {a b : Bool} (h : (a || b) = false) : a = false ∧ b = false := by cases a <;> simp_all
section
variable {P : Program} {ops : Array Oper} {o : Oper} {N : Nat} {f : Fl} {w : World} {R : Value → World → Prop}
theorem dx_cv {F : FuncId} {fn : Func} {xs : List Operand} {ts : Array TypeId} {vs : List Value} (ho : o.op = .call { callee := .value (.func F), args := xs.toArray, argTypes := ts }) (hf : P.funcs[F]? = some fn) (hn : (fn.name == "runtime.NumGoroutine") = false) (hb : fn.body.isNone = false)
    (hx : evl f xs = some vs) (hc : CV P F vs w R) (hw : wantF ops o f = some true := by rfl) : DR P ops o N f w fun v W => R v W ∧ Below w.heap.size w W :=
  dx_call (cap := #[]) ho rfl hf hn hb hx (by rw [Array.append_empty]; exact Calls.mono hc fun e w' ⟨v, he, h⟩ => ⟨v, he, h⟩) hw
theorem dx_cvc {c : Operand} {F : FuncId} {fn : Func} {xs : List Operand} {ts : Array TypeId} {vs cs : List Value} (ho : o.op = .call { callee := .value c, args := xs.toArray, argTypes := ts }) (hcv : ev f c = some (.func (.func F) #[] cs.toArray)) (hf : P.funcs[F]? = some fn) (hn : (fn.name == "runtime.NumGoroutine") = false) (hb : fn.body.isNone = false)
    (hx : evl f xs = some vs) (hc : CV P F (vs ++ cs) w R) (hw : wantF ops o f = some true := by rfl) : DR P ops o N f w fun v W => R v W ∧ Below w.heap.size w W :=
  dx_call ho hcv hf hn hb hx (by rw [List.append_toArray]; exact Calls.mono hc fun e w' ⟨v, he, h⟩ => ⟨v, he, h⟩) hw
/-- A function value: what a call of it gives. -/
def FV (P : Program) (g : Value) (args : List Value) (w : World) (R : Value → World → Prop) : Prop := ∃ F cs fn, g = .func (.func F) #[] cs ∧ P.funcs[F]? = some fn ∧ (fn.name == "runtime.NumGoroutine") = false ∧ fn.body.isNone = false ∧ CV P F (args ++ cs.toList) w R
theorem FV.mono {g : Value} {args : List Value} {R' : Value → World → Prop} (h : FV P g args w R) (hr : ∀ v w', Below w.heap.size w w' → R v w' → R' v w') : FV P g args w R' := by
  obtain ⟨F, cs, fn, h1, h2, h3, h4, h5⟩ := h
  exact ⟨F, cs, fn, h1, h2, h3, h4, h5.mono hr⟩
theorem dx_fv {c : Operand} {g : Value} {xs : List Operand} {ts : Array TypeId} {vs : List Value} (ho : o.op = .call { callee := .value c, args := xs.toArray, argTypes := ts }) (hcv : ev f c = some g)
    (hx : evl f xs = some vs) (hc : FV P g vs w R) (hw : wantF ops o f = some true := by rfl) : DR P ops o N f w fun v W => R v W ∧ Below w.heap.size w W := by
  obtain ⟨F, cs, fn, rfl, hf, hn, hb, hc⟩ := hc
  exact dx_cvc (cs := cs.toList) ho (by simpa using hcv) hf hn hb hx hc hw
theorem fv_of {F : FuncId} {cs : List Value} {fn : Func} {args : List Value} (hf : P.funcs[F]? = some fn) (hn : (fn.name == "runtime.NumGoroutine") = false) (hb : fn.body.isNone = false) (hc : CV P F (args ++ cs) w R) : FV P (.func (.func F) #[] cs.toArray) args w R := ⟨F, cs.toArray, fn, rfl, hf, hn, hb, hc⟩
/-- One result. -/
inductive RV (P : Program) (f : Fl) (w : World) : ResultVar → Value → Prop
  | tmp {t : Tmp} {v : Value} (h : look f t = some v) : RV P f w (.tmp t) v
  | one {t ty B o0 : Nat} {v : Value} (h : look f t = some (.pointer (some ⟨B, o0, none⟩))) (ht : oneB P ty = true) (hc : w.cell? ⟨B, o0, none⟩ = some v) : RV P f w (.cell t ty) v
  | agg {t ty B o0 n : Nat} {cs : List Value} (h : look f t = some (.pointer (some ⟨B, o0, none⟩))) (ht : aggB P ty n = true) (hc : w.rangeAt B o0 cs) (hn : cs.length = n) : RV P f w (.cell t ty) (.agg cs.toArray)
def resOne (tmps : Array Value) : ResultVar → Sem Value
  | .tmp t => pure (tmps.getD t undef)
  | .cell p ty => do loadVar ty (← asAddr (tmps.getD p undef))
theorem results_eq (fn : Func) (tmps : Array Value) : results fn tmps = (do let vs ← fn.results.mapM (resOne tmps); pure (if h : vs.size = 1 then vs[0] else .tuple vs)) := rfl
theorem RV.run {r : ResultVar} {v : Value} (h : RV P f w r v) {a : Act} (ha : Fr N a f) : (resOne a.tmps r).run P w = .ok v w := by
  unfold resOne
  cases h with
  | tmp h => simp only [slot_fr ha h]; rfl
  | @one t ty B o0 v h ht hc =>
    obtain ⟨d, hu, hd, _⟩ := of_oneB ht
    have hagg : (isAgg ty).run P w = .ok false w := by
      unfold isAgg
      rw [Sem.run_bind, run_underlying hu w]
      cases d <;> simp_all
    simp [slot_fr ha h, asAddr, Sem.run_bind, loadVar, hagg, hc]
  | agg h ht hc hn =>
    obtain ⟨d, hu, hd, hi⟩ := of_aggB ht
    simp only [slot_fr ha h, asAddr, Sem.run_bind, Sem.run_pure, Result.andThen_ok]
    exact run_loadVar_mid w _ _ _ _ d hc hu hd (by rw [hi, hn])
variable {fn : Func} {Rr : Ending → World → Prop}
theorem fn0 (h : fn.results = #[]) (hR : Rr (.returned (.tuple #[])) w) {a : Act} (ha : Fr N a f) : fin P fn Rr a w := ⟨ha.1.2, _, by simp [results, h], hR⟩
theorem fn1 {r0 : ResultVar} {v0 : Value} (h : fn.results = #[r0]) (h0 : RV P f w r0 v0) (hR : Rr (.returned v0) w) {a : Act} (ha : Fr N a f) : fin P fn Rr a w := ⟨ha.1.2, _, by
  rw [results_eq, h]
  simp only [List.mapM_toArray, List.mapM_cons, List.mapM_nil, Sem.run_bind, Sem.run_pure, Result.andThen_ok, Sem.run_map]
  have e0 := h0.run ha
  simp only [e0, Result.andThen_ok, Sem.run_bind, Sem.run_pure]
  simp, hR⟩
theorem fn2 {r0 r1 : ResultVar} {v0 v1 : Value} (h : fn.results = #[r0, r1]) (h0 : RV P f w r0 v0) (h1 : RV P f w r1 v1) (hR : Rr (.returned (.tuple #[v0, v1])) w) {a : Act} (ha : Fr N a f) : fin P fn Rr a w := ⟨ha.1.2, _, by
  rw [results_eq, h]
  simp only [List.mapM_toArray, List.mapM_cons, List.mapM_nil, Sem.run_bind, Sem.run_pure, Result.andThen_ok, Sem.run_map]
  have e0 := h0.run ha
  have e1 := h1.run ha
  simp only [e0, e1, Result.andThen_ok, Sem.run_bind, Sem.run_pure]
  simp, hR⟩
theorem fn3 {r0 r1 r2 : ResultVar} {v0 v1 v2 : Value} (h : fn.results = #[r0, r1, r2]) (h0 : RV P f w r0 v0) (h1 : RV P f w r1 v1) (h2 : RV P f w r2 v2) (hR : Rr (.returned (.tuple #[v0, v1, v2])) w) {a : Act} (ha : Fr N a f) : fin P fn Rr a w := ⟨ha.1.2, _, by
  rw [results_eq, h]
  simp only [List.mapM_toArray, List.mapM_cons, List.mapM_nil, Sem.run_bind, Sem.run_pure, Result.andThen_ok, Sem.run_map]
  have e0 := h0.run ha
  have e1 := h1.run ha
  have e2 := h2.run ha
  simp only [e0, e1, e2, Result.andThen_ok, Sem.run_bind, Sem.run_pure]
  simp, hR⟩
theorem fn4 {r0 r1 r2 r3 : ResultVar} {v0 v1 v2 v3 : Value} (h : fn.results = #[r0, r1, r2, r3]) (h0 : RV P f w r0 v0) (h1 : RV P f w r1 v1) (h2 : RV P f w r2 v2) (h3 : RV P f w r3 v3) (hR : Rr (.returned (.tuple #[v0, v1, v2, v3])) w) {a : Act} (ha : Fr N a f) : fin P fn Rr a w := ⟨ha.1.2, _, by
  rw [results_eq, h]
  simp only [List.mapM_toArray, List.mapM_cons, List.mapM_nil, Sem.run_bind, Sem.run_pure, Result.andThen_ok, Sem.run_map]
  have e0 := h0.run ha
  have e1 := h1.run ha
  have e2 := h2.run ha
  have e3 := h3.run ha
  simp only [e0, e1, e2, e3, Result.andThen_ok, Sem.run_bind, Sem.run_pure]
  simp, hR⟩
theorem fn5 {r0 r1 r2 r3 r4 : ResultVar} {v0 v1 v2 v3 v4 : Value} (h : fn.results = #[r0, r1, r2, r3, r4]) (h0 : RV P f w r0 v0) (h1 : RV P f w r1 v1) (h2 : RV P f w r2 v2) (h3 : RV P f w r3 v3) (h4 : RV P f w r4 v4) (hR : Rr (.returned (.tuple #[v0, v1, v2, v3, v4])) w) {a : Act} (ha : Fr N a f) : fin P fn Rr a w := ⟨ha.1.2, _, by
  rw [results_eq, h]
  simp only [List.mapM_toArray, List.mapM_cons, List.mapM_nil, Sem.run_bind, Sem.run_pure, Result.andThen_ok, Sem.run_map]
  have e0 := h0.run ha
  have e1 := h1.run ha
  have e2 := h2.run ha
  have e3 := h3.run ha
  have e4 := h4.run ha
  simp only [e0, e1, e2, e3, e4, Result.andThen_ok, Sem.run_bind, Sem.run_pure]
  simp, hR⟩
theorem cv_ret1 {w0 : World} {r0 : ResultVar} {v0 : Value} (h : fn.results = #[r0]) (h0 : RV P f w r0 v0) (hR : R v0 w) (hb : Below w0.heap.size w0 w) {a : Act} (ha : Fr N a f) : finV P fn R w0 a w := by
  obtain ⟨x, v, hv, v', he, h1, h2⟩ := fn1 (Rr := fun e w' => ∃ v, e = .returned v ∧ R v w' ∧ Below w0.heap.size w0 w') h h0 ⟨_, rfl, hR, hb⟩ ha
  cases he
  exact ⟨x, _, hv, h1, h2⟩
theorem cv_ret2 {w0 : World} {r0 r1 : ResultVar} {v0 v1 : Value} (h : fn.results = #[r0, r1]) (h0 : RV P f w r0 v0) (h1 : RV P f w r1 v1) (hR : R (.tuple #[v0, v1]) w) (hb : Below w0.heap.size w0 w) {a : Act} (ha : Fr N a f) : finV P fn R w0 a w := by
  obtain ⟨x, v, hv, v', he, h1, h2⟩ := fn2 (Rr := fun e w' => ∃ v, e = .returned v ∧ R v w' ∧ Below w0.heap.size w0 w') h h0 h1 ⟨_, rfl, hR, hb⟩ ha
  cases he
  exact ⟨x, _, hv, h1, h2⟩
theorem cv_ret3 {w0 : World} {r0 r1 r2 : ResultVar} {v0 v1 v2 : Value} (h : fn.results = #[r0, r1, r2]) (h0 : RV P f w r0 v0) (h1 : RV P f w r1 v1) (h2 : RV P f w r2 v2) (hR : R (.tuple #[v0, v1, v2]) w) (hb : Below w0.heap.size w0 w) {a : Act} (ha : Fr N a f) : finV P fn R w0 a w := by
  obtain ⟨x, v, hv, v', he, h1, h2⟩ := fn3 (Rr := fun e w' => ∃ v, e = .returned v ∧ R v w' ∧ Below w0.heap.size w0 w') h h0 h1 h2 ⟨_, rfl, hR, hb⟩ ha
  cases he
  exact ⟨x, _, hv, h1, h2⟩
theorem cv_ret4 {w0 : World} {r0 r1 r2 r3 : ResultVar} {v0 v1 v2 v3 : Value} (h : fn.results = #[r0, r1, r2, r3]) (h0 : RV P f w r0 v0) (h1 : RV P f w r1 v1) (h2 : RV P f w r2 v2) (h3 : RV P f w r3 v3) (hR : R (.tuple #[v0, v1, v2, v3]) w) (hb : Below w0.heap.size w0 w) {a : Act} (ha : Fr N a f) : finV P fn R w0 a w := by
  obtain ⟨x, v, hv, v', he, h1, h2⟩ := fn4 (Rr := fun e w' => ∃ v, e = .returned v ∧ R v w' ∧ Below w0.heap.size w0 w') h h0 h1 h2 h3 ⟨_, rfl, hR, hb⟩ ha
  cases he
  exact ⟨x, _, hv, h1, h2⟩
theorem cv_ret5 {w0 : World} {r0 r1 r2 r3 r4 : ResultVar} {v0 v1 v2 v3 v4 : Value} (h : fn.results = #[r0, r1, r2, r3, r4]) (h0 : RV P f w r0 v0) (h1 : RV P f w r1 v1) (h2 : RV P f w r2 v2) (h3 : RV P f w r3 v3) (h4 : RV P f w r4 v4) (hR : R (.tuple #[v0, v1, v2, v3, v4]) w) (hb : Below w0.heap.size w0 w) {a : Act} (ha : Fr N a f) : finV P fn R w0 a w := by
  obtain ⟨x, v, hv, v', he, h1, h2⟩ := fn5 (Rr := fun e w' => ∃ v, e = .returned v ∧ R v w' ∧ Below w0.heap.size w0 w') h h0 h1 h2 h3 h4 ⟨_, rfl, hR, hb⟩ ha
  cases he
  exact ⟨x, _, hv, h1, h2⟩
end
end Go.Proofs.YtohnicmacmkapaaDoor
namespace Go.Proofs.YtohnicmacmkapaaDoor
open Go.RowKit
set_option linter.unusedVariables false
set_option linter.unusedSimpArgs false

theorem Oper.wp_weakenN {P : Program} {o : Oper} {a : Act} {w : World} {K : Act → World → Prop} {Q' Q : Exit → Act → World → Prop} (hq : ∀ e a w, e ≠ .normal → Q' e a w → Q e a w) (h : Oper.wp P o a w K Q') : Oper.wp P o a w K Q := by
  unfold Oper.wp at *
  generalize (execOp a.eval o).run P w = r at *
  cases r with
  | ok n w' =>
    cases n <;> simp only [Oper.upon] at h ⊢ <;>
      first
        | exact h
        | exact Calls.mono h (fun e w'' he => by
            cases e with
            | returned u => exact he
            | panicked c => exact hq _ _ _ (by simp) he
            | outgrown => obtain ⟨x, y, hxy⟩ := he; exact ⟨x, y, hq _ _ _ (by simp) hxy⟩)
  | halt x w' =>
    cases x <;> simp only [Oper.upon] at h ⊢
    case panic u => exact hq _ _ _ (by simp) h
/-- What an operation waits for, through others. -/
def reachB (md : Region.Mode) (ops : Array Oper) : Nat → Nat → Nat → Bool
  | 0, _, _ => false
  | n + 1, k, j => (depsAt md ops k).any fun a => a == j || reachB md ops n a j
/-- The first operation behind the first m waits for all of them; each other one for the one ahead of it; guards look ahead. -/
def tailB (md : Region.Mode) (ops : Array Oper) (m : Nat) : Bool :=
  (List.range ops.size).all fun k => (k < m || (if k = m then (List.range m).all fun j => reachB md ops ops.size k j else (depsAt md ops k).contains (k - 1))) && (match (ops[k]?).bind (·.guard) with | some (g, _) => decide (g < k) | none => true)
section
variable {P : Program} {ops pre : Array Oper} {md : Region.Mode} {Q : Exit → Act → World → Prop} {m : Nat}
theorem tailB_ahead (h : tailB md ops m = true) {k : Nat} (hk : k < ops.size) (hm : m < k) : k - 1 ∈ depsAt md ops k := by
  have := List.all_eq_true.1 h k (List.mem_range.2 hk)
  simp only [Bool.and_eq_true, Bool.or_eq_true, decide_eq_true_eq] at this
  rcases this.1 with h1 | h1
  · omega
  · rw [if_neg (by omega)] at h1
    simpa using h1
theorem tailB_all (h : tailB md ops m = true) (hk : m < ops.size) {j : Nat} (hj : j < m) : reachB md ops ops.size m j = true := by
  have := List.all_eq_true.1 h m (List.mem_range.2 hk)
  simp only [Bool.and_eq_true, Bool.or_eq_true, decide_eq_true_eq] at this
  rcases this.1 with h1 | h1
  · omega
  · simp only [if_true] at h1
    exact List.all_eq_true.1 h1 j (List.mem_range.2 hj)
theorem reachB_listed {p : Nat → Prop} (hcl : ∀ a, p a → ∀ b ∈ depsAt md ops a, p b) : ∀ (n k j : Nat), reachB md ops n k j = true → (∀ a ∈ depsAt md ops k, p a) → p j
  | 0, k, j, h, _ => by simp [reachB] at h
  | n + 1, k, j, h, hd => by
    unfold reachB at h
    obtain ⟨a, ha, hor⟩ := List.any_eq_true.1 h
    simp only [Bool.or_eq_true, beq_iff_eq] at hor
    rcases hor with rfl | h'
    · exact hd a ha
    · exact reachB_listed hcl n a j h' (hcl a (hd a ha))
theorem tailB_guard (h : tailB md ops m = true) {k g : Nat} {o : Oper} {b : Bool} (ho : ops[k]? = some o) (hg : o.guard = some (g, b)) : g < k := by
  have := List.all_eq_true.1 h k (List.mem_range.2 (Array.getElem?_eq_some_iff.1 ho).1)
  simp only [Bool.and_eq_true] at this
  have h2 := this.2
  rw [ho] at h2
  simp only [Option.bind_some, hg, decide_eq_true_eq] at h2
  exact h2
theorem ready_deps {k : Nat} {listed : Array Bool} (h : k ∈ Region.ready md ops listed) : ∀ j ∈ depsAt md ops k, listed.getD j false = true := by
  obtain ⟨h0, o, ho, hd⟩ := mem_ready.1 h
  intro j hj
  rw [depsAt_eq ho] at hj
  obtain ⟨e, he, rfl⟩ := List.mem_map.1 hj
  obtain ⟨he1, he2⟩ := List.mem_filter.1 he
  exact hd e (by simpa using he1) he2
theorem listed_iff {listed : Array Bool} {j : Nat} (hj : j < listed.size) : listed.getD j true = listed.getD j false := by
  simp [Array.getD_eq_getD_getElem?, Array.getElem?_eq_getElem hj]
theorem seq_tail (hb : ordB md ops = true) (ht : tailB md ops m = true) : ∀ (t k : Nat), m ≤ k → k + t = ops.size → ∀ (fuel : Nat), t ≤ fuel → ∀ (listed : Array Bool), listed.size = ops.size → (∀ j, listed.getD j false = decide (j < k)) → ∀ a w, wpOps P ops Q (List.range' k t) a w → wpAny P md ops Q fuel listed a w := by
  intro t
  induction t with
  | zero =>
    intro k hm hk fuel hf listed hsz hl a w h
    have hr : Region.ready md ops listed = [] := by
      rw [List.eq_nil_iff_forall_not_mem]
      intro j hj
      obtain ⟨h0, o, ho, _⟩ := mem_ready.1 hj
      have hjs := (Array.getElem?_eq_some_iff.1 ho).1
      rw [listed_iff (by omega), hl] at h0
      have := of_decide_eq_false h0
      omega
    cases fuel with
    | zero => exact ⟨hr, h⟩
    | succ fuel => exact ⟨fun _ => h, fun i hi => (by rw [hr] at hi; cases hi)⟩
  | succ t ih =>
    intro k hm hk fuel hf listed hsz hl a w h
    cases fuel with
    | zero => omega
    | succ fuel =>
      have hks : k < ops.size := by omega
      have hmem : k ∈ Region.ready md ops listed := by
        refine mem_ready.2 ⟨by rw [listed_iff (by omega), hl]; simp, _, Array.getElem?_eq_getElem hks, fun e he hbd => ?_⟩
        rw [hl]
        have hd := (ordB_deps hb (Array.getElem?_eq_getElem hks)).2.1
        have := hd e.on (List.mem_map.2 ⟨e, List.mem_filter.2 ⟨by simpa using he, hbd⟩, rfl⟩)
        simpa using this
      refine ⟨fun hr => (by rw [hr] at hmem; cases hmem), fun i hi => ?_⟩
      have hik : i = k := by
        obtain ⟨h0, o, ho, _⟩ := mem_ready.1 hi
        have his := (Array.getElem?_eq_some_iff.1 ho).1
        rw [listed_iff (by omega), hl] at h0
        have h1 := of_decide_eq_false h0
        rcases Nat.lt_or_ge k i with h2 | h2
        · have := ready_deps hi (i - 1) (tailB_ahead ht his (by omega))
          rw [hl] at this
          have := of_decide_eq_true this
          omega
        · omega
      subst hik
      rw [List.range'_succ, wpOps_cons] at h
      refine wpOp_mono (fun a' w' h' => ih (i + 1) (by omega) (by omega) fuel (by omega) _ (by simp [hsz]) (fun j => ?_) a' w' h') h
      by_cases e : j = i
      · subst e
        simp [Array.getD_eq_getD_getElem?, hsz, hks]
      · rw [getD_set_ne false (fun h => e h.symm), hl]
        simp only [decide_eq_decide]
        omega
def preQ (P : Program) (ops : Array Oper) (Q : Exit → Act → World → Prop) (m t : Nat) : Exit → Act → World → Prop
  | .normal, a, w => wpOps P ops Q (List.range' m t) a w
  | _, _, _ => False
theorem pre_tail (hb : ordB md ops = true) (hbp : ordB md pre = true) {suf : List Oper} (hops : ops.toList = pre.toList ++ suf) (ht : tailB md ops pre.size = true) : ∀ (fuel : Nat) (listed : Array Bool), listed.size = pre.size → (∀ j, listed.getD j false = true → ∀ k ∈ depsAt md pre j, listed.getD k false = true) → ∀ a w, wpAny P md pre (preQ P ops Q pre.size suf.length) fuel listed a w →
    wpAny P md ops Q (fuel + suf.length) (listed ++ Array.replicate suf.length false) a w := by
  have hsize : ops.size = pre.size + suf.length := by rw [← Array.length_toList, hops]; simp
  have hget : ∀ i, i < pre.size → ops[i]? = pre[i]? := fun i hi => by
    rw [← Array.getElem?_toList, hops, List.getElem?_append_left (by simpa using hi), Array.getElem?_toList]
  have hlist : ∀ (listed : Array Bool), listed.size = pre.size → ∀ j, (listed ++ Array.replicate suf.length false).getD j false = listed.getD j false := fun listed hsz j => by
    rw [Array.getD_eq_getD_getElem?, Array.getD_eq_getD_getElem?]
    rcases Nat.lt_or_ge j listed.size with h | h
    · rw [Array.getElem?_append_left h]
    · rw [Array.getElem?_append_right h, Array.getElem?_eq_none h, Array.getElem?_replicate]
      split <;> rfl
  have done : ∀ (listed : Array Bool), listed.size = pre.size → Region.ready md pre listed = [] → ∀ a w, wpOps P ops Q (List.range' pre.size suf.length) a w → ∀ fuel, suf.length ≤ fuel → wpAny P md ops Q fuel (listed ++ Array.replicate suf.length false) a w := by
    intro listed hsz hr a w h fuel hf
    have hall := all_listed hbp hsz hr
    refine seq_tail hb ht suf.length pre.size (Nat.le_refl _) hsize.symm fuel hf _ (by simp [hsz, hsize]) (fun j => ?_) a w h
    rw [hlist listed hsz]
    by_cases hj : j < pre.size
    · rw [hall j hj]; simp [hj]
    · rw [Array.getD_eq_getD_getElem?, Array.getElem?_eq_none (by omega)]
      simp [hj]
  intro fuel
  induction fuel with
  | zero =>
    intro listed hsz hcl a w h
    exact done listed hsz h.1 a w h.2 _ (by omega)
  | succ fuel ih =>
    intro listed hsz hcl a w h
    by_cases hr : Region.ready md pre listed = []
    · exact done listed hsz hr a w (h.1 hr) _ (by omega)
    · obtain ⟨i0, hi0⟩ := List.exists_mem_of_ne_nil _ hr
      have hun : ∃ j, j < pre.size ∧ listed.getD j false = false := by
        obtain ⟨h0, o, ho, _⟩ := mem_ready.1 hi0
        have hjs := (Array.getElem?_eq_some_iff.1 ho).1
        exact ⟨i0, hjs, by rw [← listed_iff (by omega)]; exact h0⟩
      have hsub : ∀ i, i ∈ Region.ready md ops (listed ++ Array.replicate suf.length false) → i < pre.size ∧ i ∈ Region.ready md pre listed := by
        intro i hi
        obtain ⟨h0, o, ho, hd⟩ := mem_ready.1 hi
        have his := (Array.getElem?_eq_some_iff.1 ho).1
        have hip : i < pre.size := by
          rcases Nat.lt_or_ge i pre.size with h | h
          · exact h
          · exfalso
            have hdeps := ready_deps hi
            simp only [hlist listed hsz] at hdeps
            have hout : ∀ j, listed.getD j false = true → j < pre.size := fun j hj => by
              rcases Nat.lt_or_ge j pre.size with h' | h'
              · exact h'
              · simp [Array.getElem?_eq_none (by omega : listed.size ≤ j)] at hj
            rcases Nat.lt_or_ge pre.size i with h' | h'
            · have := hout _ (hdeps (i - 1) (tailB_ahead ht his h'))
              omega
            · have him : i = pre.size := by omega
              subst him
              obtain ⟨j, hj, hlj⟩ := hun
              have := reachB_listed (p := fun j => listed.getD j false = true) (fun b hb' c hc => hcl b hb' c (by
                have : depsAt md pre b = depsAt md ops b := by unfold depsAt; rw [hget b (hout b hb')]
                rw [this]; exact hc)) _ _ _ (tailB_all ht his hj) hdeps
              rw [hlj] at this
              cases this
        refine ⟨hip, mem_ready.2 ⟨?_, o, by rw [← hget i hip]; exact ho, fun e he hbd => by rw [← hlist listed hsz]; exact hd e he hbd⟩⟩
        rw [listed_iff (by omega)]
        rw [listed_iff (by simp [hsz]; omega), hlist listed hsz] at h0
        exact h0
      have hsup : i0 ∈ Region.ready md ops (listed ++ Array.replicate suf.length false) := by
        obtain ⟨h0, o, ho, hd⟩ := mem_ready.1 hi0
        have hip := (Array.getElem?_eq_some_iff.1 ho).1
        refine mem_ready.2 ⟨?_, o, by rw [hget i0 hip]; exact ho, fun e he hbd => by rw [hlist listed hsz]; exact hd e he hbd⟩
        rw [listed_iff (by simp [hsz]; omega), hlist listed hsz, ← listed_iff (by omega)]
        exact h0
      rw [show fuel + 1 + suf.length = (fuel + suf.length) + 1 by omega]
      refine ⟨fun h' => (by rw [h'] at hsup; cases hsup), fun i hi => ?_⟩
      obtain ⟨hip, hir⟩ := hsub i hi
      have hw := h.2 i hir
      have hset : (listed ++ Array.replicate suf.length false).setIfInBounds i true = listed.setIfInBounds i true ++ Array.replicate suf.length false := by
        rw [Array.setIfInBounds_append, if_pos (by omega)]
      rw [hset]
      have hcl' : ∀ j, (listed.setIfInBounds i true).getD j false = true → ∀ k ∈ depsAt md pre j, (listed.setIfInBounds i true).getD k false = true := by
        have hset' : ∀ j, listed.getD j false = true → (listed.setIfInBounds i true).getD j false = true := fun j hj => by
          by_cases e : j = i
          · subst e
            simp [Array.getD_eq_getD_getElem?, hsz, hip]
          · rw [getD_set_ne false (fun h => e h.symm)]; exact hj
        intro j hj k hk
        by_cases e : j = i
        · subst e
          exact hset' k (ready_deps hir k hk)
        · rw [getD_set_ne false (fun h => e h.symm)] at hj
          exact hset' k (hcl j hj k hk)
      unfold wpOp at hw ⊢
      rw [hget i hip]
      cases ho : pre[i]? with
      | none => simp only [ho] at hw ⊢; exact ih _ (by simp [hsz]) hcl' a w hw
      | some o =>
        simp only [ho] at hw ⊢
        have hwant : Region.wanted o (yielded ops a.tmps) = Region.wanted o (yielded pre a.tmps) := by
          unfold Region.wanted
          cases hg : o.guard with
          | none => rfl
          | some p =>
            obtain ⟨g, b⟩ := p
            have hgi := tailB_guard ht (by rw [hget i hip]; exact ho) hg
            simp only
            unfold yielded
            rw [hget g (by omega)]
        rw [hwant]
        split
        · next hw1 =>
          rw [if_pos hw1] at hw
          rcases hw with hw | hw
          · refine .inl (Oper.wp_weakenN (Q' := preQ P ops Q pre.size suf.length) (fun e a w he h => by cases e <;> first | exact absurd rfl he | exact h.elim) (Oper.wp_mono (fun a' w' h' => ih _ (by simp [hsz]) hcl' a' w' h') hw))
          · obtain ⟨_, _, _, hf⟩ := hw
            exact hf.elim
        · next hw1 =>
          rw [if_neg hw1] at hw
          exact ih _ (by simp [hsz]) hcl' _ _ hw
end
section
variable {P : Program} {N : Nat} {sd : List (Option Tmp × VS)} {dl : List (List Nat)}
/-- The quiet operations ahead, in whatever order; then the others, one by one. -/
theorem WC.drawT {id : Nat} {f : Fl} {w : World} {Q : Exit → Act → World → Prop} (pre suf : List Oper) {ops : List Oper} (hops : pre ++ suf = ops) (sd : List (Option Tmp × VS)) (dl : List (List Nat)) (hm : P.follows .mixedOrders = true) (hb : ordB .any ops.toArray = true) (hbp : ordB .any pre.toArray = true) (ht : tailB .any ops.toArray pre.length = true) (hdl : pre.map (depsOf .any) = dl)
    (hds : pre.map (·.dst) = sd.map (·.1)) (hN : inN N sd = true) (hmono : VS.mono sd) (hst : DSteps P pre.toArray N w sd dl f 0 pre)
    (hend : ∀ W, Below w.heap.size w W → DEnd (fun f W => WL P ops.toArray Q N suf f W) W sd f) : WC P N (.region id ops.toArray true) Q f w := fun a ha => by
  subst hops
  have hlen : dl.length = sd.length := by rw [← hdl, List.length_map, ← List.length_map (f := (·.dst)), hds, List.length_map]
  have hpl : pre.length = dl.length := by rw [← hdl, List.length_map]
  refine wp_region_any hm ?_
  have hrep : Array.replicate (pre ++ suf).toArray.size false = Array.replicate pre.toArray.size false ++ Array.replicate suf.length false := by
    simp [Array.replicate_append_replicate]
  rw [hrep]
  have hsz : (pre ++ suf).toArray.size = pre.toArray.size + suf.length := by simp
  rw [hsz]
  refine pre_tail (pre := pre.toArray) (suf := suf) hb hbp (by simp) (by simpa using ht) pre.toArray.size _ (by simp) (fun j hj => by simp [Array.getD_eq_getD_getElem?, Array.getElem?_replicate] at hj; split at hj <;> simp_all) a w.drew ?_
  have hda : ∀ j, depsAt .any pre.toArray j = (dl[j]?).getD [] := by
    intro j
    subst hdl
    simp only [depsAt, List.getElem?_map, List.getElem?_toArray]
  have hF0 : ∀ j, (Array.replicate pre.toArray.size false).getD j false = true → False := fun j hj => by simp [Array.getD_eq_getD_getElem?, Array.getElem?_replicate] at hj; split at hj <;> simp_all
  refine wpAny_facts hbp a (fun _ W => Below w.heap.size w W) (fun j g W => okAt sd j (g j) W) (fun _ _ W W' => Below W.heap.size W W') ?_ ?_ ?_ pre.toArray.size _ (fun _ => undef) a w.drew (by simp) (by
      have := List.countP_le_length (p := fun b => !b) (l := (Array.replicate pre.toArray.size false).toList)
      simpa using this) (fun j hj => (hF0 j hj).elim) (Agrees.start fun j hj => hF0 j hj) (below_draws (Below.refl _ _) 1) (fun j hj => (hF0 j hj).elim)
  · intro i g W W' j g' hB _ h
    unfold okAt at h ⊢
    cases hs : sd[j]? with
    | none => trivial
    | some p =>
      obtain ⟨d, s⟩ := p
      rw [hs] at h
      cases s with
      | is v => exact h
      | «by» p => exact mono_at hmono hs _ W W' hB h
  · intro i o hoi L g W _ _ hG hd
    have key : ∀ (l : List Oper) (k : Nat), DSteps P pre.toArray N w sd dl f k l → ∀ j o, l[j]? = some o → ∀ W, Below w.heap.size w W → DStep P pre.toArray o N W sd (fun v W' => Below W.heap.size W W' ∧ okAt sd (k + j) v W') ((dl[k + j]?).getD []) f := by
      intro l
      induction l with
      | nil => intro k _ j o h; simp at h
      | cons x l ih =>
        intro k hs j o h
        cases j with
        | zero =>
          simp only [List.getElem?_cons_zero, Option.some.injEq] at h
          subst h
          exact hs.1
        | succ j =>
          have := ih (k + 1) hs.2 j o (by simpa using h)
          rw [show k + (j + 1) = k + 1 + j by omega]
          exact this
    have hk := key pre 0 hst i o (by simpa using hoi) W hG
    rw [Nat.zero_add] at hk
    have hdo : depsOf .any o = (dl[i]?).getD [] := by rw [← hda i, depsAt_eq hoi]
    rw [hdo] at hd ⊢
    rw [putL_eq (ds := sd.map (·.1)) (by simpa using hds)]
    have hH : HypL (fun j g w => okAt sd j (g j) w) dl g W ((dl[i]?).getD []) := HypL.of _ fun j hj => by have := hd j hj; rwa [hda j] at this
    refine (DStep.to hN _ f a hk ha hH).mono fun v W' h => ⟨h.1, hG.trans (h.1.mono hG.size), ?_⟩
    simp only [restr_self]
    rw [show upd g i v i = v by simp [upd]]
    exact h.2
  · intro L g W hL hG hd
    rw [putL_eq (ds := sd.map (·.1)) (by simpa using hds)]
    have hH : HypL (fun j g w => okAt sd j (g j) w) dl g W (List.range' 0 sd.length) := HypL.of _ fun j hj => by
      have hj' : j < pre.toArray.size := by
        simp [List.mem_range'] at hj
        simp
        omega
      have := hd j hj'
      rwa [hda j] at this
    have hfin := DEnd.to (Q := fun a W => wpList P (pre ++ suf).toArray Q suf a W) hN (fun f h a ha => h a ha) sd 0 f a (by simp) (hend W hG) ha hH
    show wpOps P (pre ++ suf).toArray Q (List.range' pre.toArray.size suf.length) _ _
    rw [wpOps_eq_wpList suf pre.toArray.size (fun j => by simp [List.getElem?_append_right])]
    rw [List.range_eq_range', show pre.toArray.size = sd.length by simp; omega]
    exact hfin
/-- The same, by the number of the quiet ones. -/
theorem WC.drawM {id : Nat} {f : Fl} {w : World} {Q : Exit → Act → World → Prop} (m : Nat) {ops : List Oper} (sd : List (Option Tmp × VS)) (dl : List (List Nat)) (hm : P.follows .mixedOrders = true) (hb : ordB .any ops.toArray = true) (hbp : ordB .any (ops.take m).toArray = true) (ht : tailB .any ops.toArray (ops.take m).length = true) (hdl : (ops.take m).map (depsOf .any) = dl)
    (hds : (ops.take m).map (·.dst) = sd.map (·.1)) (hN : inN N sd = true) (hmono : VS.mono sd) (hst : DSteps P (ops.take m).toArray N w sd dl f 0 (ops.take m))
    (hend : ∀ W, Below w.heap.size w W → DEnd (fun f W => WL P ops.toArray Q N (ops.drop m) f W) W sd f) : WC P N (.region id ops.toArray true) Q f w :=
  WC.drawT (ops.take m) (ops.drop m) (List.take_append_drop m ops) sd dl hm hb hbp ht hdl hds hN hmono hst hend
theorem DSteps.cons {ops : Array Oper} {w0 : World} {f : Fl} {k : Nat} {o : Oper} {l : List Oper} (h : ∀ W, Below w0.heap.size w0 W → DStep P ops o N W sd (fun v W' => Below W.heap.size W W' ∧ okAt sd k v W') ((dl[k]?).getD []) f) (hl : DSteps P ops N w0 sd dl f (k + 1) l) : DSteps P ops N w0 sd dl f k (o :: l) := ⟨h, hl⟩
/-- An operation that isn't wanted. -/
theorem dv_off {ops : Array Oper} {o : Oper} {f : Fl} {w : World} (hw : wantF ops o f = some false) : DV P ops o N f w undef := fun a ha => Does.off (R := fun v' w' => v' = undef ∧ w' = w) (wantF_of ha hw) ⟨rfl, rfl⟩
end
end Go.Proofs.YtohnicmacmkapaaDoor
