/- The rounds of sha: schedule. -/
import Derived.Test.YtohnicmacmkapaaDoorShaB
import Derived.StillTailTactics
import Derived.Laws.Bits64
namespace Go.Proofs.YtohnicmacmkapaaDoor
open Go.RowKit
set_option linter.unusedVariables false
set_option maxRecDepth 8000

theorem arr_drew {K : IntKind} {w : World} {B : Nat} {zs : List Int} (h : Arr K w B zs) : Arr K w.drew B zs := h
theorem below_row {B : Nat} {a w : World} (h : Below B a w) {g : Nat} (hg : B ≤ g) (cs : Array Value) : Below B a (w.setRow g cs) := by
  refine ⟨h.os, h.tape, h.output, ?_, fun k hk => ?_⟩
  · have := h.size
    simpa [World.setRow] using this
  · rw [setRow_other w g k cs (by omega)]
    exact h.block k hk
/-- Bytes as one number, the highest first. -/
def beF : List Int → Int := fun l => l.foldl (fun x c => x * 256 + c) 0
theorem beF_snoc (l : List Int) (c : Int) : beF (l ++ [c]) = beF l * 256 + c := by simp [beF]
theorem beF_lt : ∀ (n : Nat) (l : List Int), l.length = n → Bytes l → 0 ≤ beF l ∧ beF l < 256 ^ n
  | 0, l, h, _ => by
    obtain rfl : l = [] := List.length_eq_zero_iff.1 h
    simp [beF]
  | n + 1, l, h, hb => by
    have hne : l ≠ [] := by rintro rfl; simp at h
    rw [← List.dropLast_concat_getLast hne] at hb ⊢
    have ih := beF_lt n l.dropLast (by simp [h]) (fun x hx => hb x (by simp [hx]))
    have hc := hb (l.getLast hne) (by simp)
    rw [beF_snoc, Int.pow_succ]
    omega
theorem wrap_id64 {x : Int} (h0 : 0 ≤ x) (h1 : x < 4611686018427387904) : IntKind.i64.wrap x = x := by
  simp [IntKind.wrap, IntKind.bits, IntKind.signed]
  omega
theorem at0_rep (n j : Nat) : at0 (List.replicate n 0) j = 0 := by
  unfold at0
  rw [List.getElem?_replicate]
  split <;> rfl
theorem take_snoc (l : List Int) (t : Nat) (h : t < l.length) : l.take (t + 1) = l.take t ++ [at0 l t] := by
  rw [List.take_add_one, at0_lt h]; simp [h]
theorem zero_t64 : (Tryd.prog.info? 61).bind (·.zero) = some (.agg (Array.replicate 80 (Value.int .u64 0))) := by kernel_rfl
theorem info_t64 : (Tryd.prog.info? 61).map (·.size) = some 80 := by kernel_rfl
theorem und_t64 : Tryd.prog.underlying 61 = some (.array 80 49) := by kernel_rfl
theorem or_be64 (x c : Int) (hx : 0 ≤ x ∧ x < 72057594037927936) (hc : 0 ≤ c ∧ c ≤ 255) : bits BinOp.or .u64 (x * 256) c = x * 256 + c := by
  obtain ⟨a, rfl⟩ := Int.eq_ofNat_of_zero_le hx.1
  obtain ⟨b, rfl⟩ := Int.eq_ofNat_of_zero_le hc.1
  have h := u64_or_nat (a * 256) b (by omega) (by omega)
  rw [show (((a * 256 : Nat) : Int)) = (a : Int) * 256 by simp] at h
  rw [h, nat_or_add (a * 256) b 8 (by omega) (by omega)]
  simp
/-- The words of a block. -/
def word64 (zs : List Int) (i : Nat) : Int := beF ((zs.drop (i * 8)).take 8)
theorem word64_in {zs : List Int} (hb : Bytes zs) {i : Nat} (h : (i + 1) * 8 ≤ zs.length) : In64 (word64 zs i) := by
  have := beF_lt 8 ((zs.drop (i * 8)).take 8) (by simp; omega) (fun x hx => hb x (List.mem_of_mem_drop (List.mem_of_mem_take hx)))
  unfold In64 word64
  omega
def next64 (m : List Int) (i : Nat) : Int := (at0 m (i - 16) + lowA64 (at0 m (i - 15)) + at0 m (i - 7) + lowB64 (at0 m (i - 2))) % 18446744073709551616
def sched64 (zs : List Int) : Nat → List Int
  | 0 => (List.range 16).map (word64 zs) ++ List.replicate 64 0
  | k + 1 => (sched64 zs k).set (16 + k) (next64 (sched64 zs k) (16 + k))
theorem sched64_len (zs : List Int) : ∀ k, (sched64 zs k).length = 80
  | 0 => by simp [sched64]
  | k + 1 => by simp [sched64, sched64_len zs k]
theorem sched64_in {zs : List Int} (hb : Bytes zs) (hl : zs.length = 128) : ∀ k x, x ∈ sched64 zs k → In64 x
  | 0, x, hx => by
    rcases List.mem_append.1 hx with h | h
    · obtain ⟨i, hi, rfl⟩ := List.mem_map.1 h
      exact word64_in hb (by have := List.mem_range.1 hi; omega)
    · obtain ⟨-, rfl⟩ := List.mem_replicate.1 h
      unfold In64; omega
  | k + 1, x, hx => by
    rcases List.mem_or_eq_of_mem_set hx with h | rfl
    · exact sched64_in hb hl k x h
    · unfold In64 next64; omega
set_option maxHeartbeats 1000000 in
theorem schedule64_v (w : World) (B : Nat) (st : List Int) (hr : RS64 w B st) (v : Value) (zs : List Int) (hv : RdI .u8 w v zs) (hb : Bytes zs) (hl : zs.length = 128) :
    Calls Tryd.prog 47 #[.pointer (some ⟨B, 0, none⟩), v] w fun e w' => e = .returned (aggI .u64 (sched64 zs 64)) ∧ Below w.heap.size w w' := by
  obtain ⟨a, cap, rfl, hcap, hmax, hcell, -⟩ := hv
  obtain ⟨x, o, rfl, -⟩ := hcell 0 (by omega)
  replace hcell : ∀ k, k < 128 → w.cell? ⟨x, o + k, none⟩ = some (.int .u8 (at0 zs k)) := fun k hk => by
    obtain ⟨x', o', e, h⟩ := hcell k (by omega)
    cases e
    exact h
  have hx : x < w.heap.size := World.block_lt_of_cell? w _ (hcell 0 (by omega))
  have hB := hr.lt
  have hwd := hr.width
  rw [hl] at hcap ⊢
  go_enter Tryd.func47, Tryd.ntmps47
  go_wp2_with (first
    | (with_reducible refine at_n 4 ?_; refine wpList_allocI rfl 61 rfl .u64 80 zero_t64 ?_; intro w1 A1 s1 b1)
    | (with_reducible refine at_n 5 ?_; refine wpList_allocI rfl 61 rfl .u64 80 zero_t64 ?_; intro w2 A2 s2 b2; replace A1 := A1.below b2; have BB := below_then b1 b2; replace hwd := (hr.below BB).width))
  go_loopw [17] (fun i wr => ∃ (k : Nat) (ms : List Int), k ≤ 16 ∧ i = .int .i64 k ∧ Arr .u64 wr w.heap.size (List.replicate 80 0) ∧ Arr .u64 wr w1.heap.size ms ∧ ms.length = 80 ∧ (∀ j, j < 80 → at0 ms j = if j < k then word64 zs j else 0) ∧ Below w.heap.size w wr) (fun i _ => 16 - (intOf i).toNat)
  case atStart => exact ⟨0, List.replicate 80 0, by omega, rfl, A1, A2, by simp, fun j h => by rw [at0_rep, if_neg (by omega)], BB⟩
  case round =>
    clear A1 A2 BB hwd
    obtain ⟨k, ms, hk, rfl, A1, A2, hml, hms, BB⟩ := hrel
    by_cases hlt : k < 16
    · have hc : ∀ j, j < 8 → wr.cell? ⟨x, o + k * 8 + j, none⟩ = some (.int .u8 (at0 ((zs.drop (k * 8)).take 8) j)) := fun j hj => by
        have h1 := hcell (k * 8 + j) (by omega)
        rw [← Nat.add_assoc] at h1
        rw [BB.cell hx, h1]
        simp [at0, hj]
      have hbp : Bytes ((zs.drop (k * 8)).take 8) := fun y hy => hb y (List.mem_of_mem_drop (List.mem_of_mem_take hy))
      have hlp : ((zs.drop (k * 8)).take 8).length = 8 := by simp; omega
      generalize hps : (zs.drop (k * 8)).take 8 = ps at *
      clear hcell
      go_wp2
      have hlen : (k + 1) * 8 - k * 8 = 8 := by omega
      simp only [hlen]
      go_loopw [8, 30] (fun y j wq => ∃ (t : Nat), t ≤ 8 ∧ j = .int .i64 t ∧ y = .int .u64 (beF (ps.take t)) ∧ wq = wr) (fun _ j _ => 8 - (intOf j).toNat)
      case atStart => exact ⟨0, by omega, rfl, rfl, rfl⟩
      case round =>
        obtain ⟨t, ht, rfl, rfl, rfl⟩ := hrel
        by_cases hlt2 : t < 8
        · have hc0 := hc t hlt2
          have hbt := beF_lt t (ps.take t) (by simp [hlp]; omega) (fun y hy => hbp y (List.mem_of_mem_take hy))
          have hcb := hbp.at t
          have hsn : beF (ps.take (t + 1)) = beF (ps.take t) * 256 + at0 ps t := by rw [take_snoc ps t (by omega), beF_snoc]
          generalize at0 ps t = c at *
          have hyb : 0 ≤ beF (ps.take t) ∧ beF (ps.take t) < 72057594037927936 := by
            have hp : (256 : Int) ^ t ≤ 256 ^ 7 := by
              rcases (by omega : t = 0 ∨ t = 1 ∨ t = 2 ∨ t = 3 ∨ t = 4 ∨ t = 5 ∨ t = 6 ∨ t = 7) with rfl | rfl | rfl | rfl | rfl | rfl | rfl | rfl <;> decide
            omega
          generalize beF (ps.take t) = y at *
          have ho := or_be64 y c hyb hcb
          have hy0 := hyb.1
          have hy1 := hyb.2
          replace hsn := Lib.hid hsn
          clear hbt hyb hc
          go_wp2
          refine ⟨⟨t + 1, by omega, by go_num, ?_, by trivial⟩, by simp only [intOf]; omega⟩
          rw [hsn.out]
        · obtain rfl : t = 8 := by omega
          have hw : beF (ps.take 8) = word64 zs k := by rw [← hlp, List.take_length, ← hps]; rfl
          rw [hw]
          have f0 := A2.free (k := k) (by omega)
          have c0 := A2.cell (k := k) (by omega)
          clear hc
          go_wp2
          refine ⟨⟨k + 1, ms.set k (word64 zs k), by omega, by go_num, A1.setOther (by omega) _ _, A2.set _ _, by simp [hml], fun j hj => ?_, BB.setCell (by show w.heap.size ≤ w1.heap.size; omega) _⟩, by simp only [intOf]; omega⟩
          rw [at0_set ms k j _ (by omega)]
          by_cases e : j = k
          · rw [if_pos e, if_pos (by omega), e]
          · rw [if_neg e, hms j hj]
            by_cases e2 : j < k
            · rw [if_pos e2, if_pos (by omega)]
            · rw [if_neg e2, if_neg (by omega)]
    · obtain rfl : k = 16 := by omega
      have e : ms = sched64 zs 0 := eq_of_all (by rw [hml]; rfl) fun j h => by
        rw [hml] at h
        rw [hms j h]
        by_cases e : j < 16
        · rw [if_pos e]
          unfold sched64 at0
          rw [List.getElem?_append_left (by simpa using e)]; simp [e]
        · rw [if_neg e]
          have e2 := at0_rep 64 (j - 16)
          unfold sched64
          unfold at0 at e2 ⊢
          rw [List.getElem?_append_right (by simpa using e), List.length_map, List.length_range, e2]
      subst e
      clear hms hml hcell
      have hsl := sched64_len zs
      have hsi := sched64_in hb hl
      go_wp2
      go_loopw [11] (fun i wr => ∃ (i' : Nat), 16 ≤ i' ∧ i' ≤ 80 ∧ i = .int .i64 i' ∧ Arr .u64 wr w.heap.size (List.replicate 80 0) ∧ Arr .u64 wr w1.heap.size (sched64 zs (i' - 16)) ∧ Below w.heap.size w wr) (fun i _ => 80 - (intOf i).toNat)
      case atStart => exact ⟨16, by omega, by omega, rfl, A1, A2, BB⟩
      case round =>
        clear A1 A2 BB
        obtain ⟨i, hi0, hi1, rfl, A1, A2, BB⟩ := hrel
        have hr' := hr.below BB
        have hct := hr'.count
        by_cases hlt : i < 80
        · have hln := hsl (i - 16)
          have hin := hsi (i - 16)
          have hst : sched64 zs (i + 1 - 16) = (sched64 zs (i - 16)).set i (next64 (sched64 zs (i - 16)) i) := by
            rw [show i + 1 - 16 = (i - 16) + 1 by omega]
            show (sched64 zs (i - 16)).set (16 + (i - 16)) (next64 (sched64 zs (i - 16)) (16 + (i - 16))) = _
            rw [show 16 + (i - 16) = i by omega]
          generalize sched64 zs (i - 16) = ms at *
          have hat : ∀ j, j < 80 → In64 (at0 ms j) := fun j hj => hin _ (at0_mem (by omega))
          obtain ⟨j1, e1, n1⟩ : ∃ j : Nat, IntKind.i64.wrap ((i : Int) - 16) = (j : Int) ∧ i - 16 = j := ⟨i - 16, by rw [wrap_id64 (by omega) (by omega)]; omega, rfl⟩
          obtain ⟨j2, e2, n2⟩ : ∃ j : Nat, IntKind.i64.wrap ((i : Int) - 15) = (j : Int) ∧ i - 15 = j := ⟨i - 15, by rw [wrap_id64 (by omega) (by omega)]; omega, rfl⟩
          obtain ⟨j3, e3, n3⟩ : ∃ j : Nat, IntKind.i64.wrap ((i : Int) - 7) = (j : Int) ∧ i - 7 = j := ⟨i - 7, by rw [wrap_id64 (by omega) (by omega)]; omega, rfl⟩
          obtain ⟨j4, e4, n4⟩ : ∃ j : Nat, IntKind.i64.wrap ((i : Int) - 2) = (j : Int) ∧ i - 2 = j := ⟨i - 2, by rw [wrap_id64 (by omega) (by omega)]; omega, rfl⟩
          have b1 : (j1 : Int) < 80 := by omega
          have b2' : (j2 : Int) < 80 := by omega
          have b3 : (j3 : Int) < 80 := by omega
          have b4 : (j4 : Int) < 80 := by omega
          have b5 : (i : Int) < 80 := by omega
          have c1 := A2.cell (k := j1) (by omega)
          have c2 := A2.cell (k := j2) (by omega)
          have c3 := A2.cell (k := j3) (by omega)
          have c4 := A2.cell (k := j4) (by omega)
          have nx : next64 ms i = (at0 ms j1 + lowA64 (at0 ms j2) + at0 ms j3 + lowB64 (at0 ms j4)) % 18446744073709551616 := by unfold next64; rw [n1, n2, n3, n4]
          replace nx := Lib.hid nx
          clear n1 n2 n3 n4
          have c5 := A2.cell (k := i) (by omega)
          have f5 := A2.free (k := i) (by omega)
          have HA := fun W => lowA64_v (at0 ms j2) W (hat _ (by omega))
          have HB := fun W => lowB64_v (at0 ms j4) W (hat _ (by omega))
          obtain ⟨f10, f11, f12, f13⟩ := hr'.fn
          replace hst := Lib.hid hst
          clear hin hsi hsl
          go_wp2
          go_still_tail 31, (by kernel_rfl)
          still_call (HA _)
          repeat still_step
          still_call (HB _)
          repeat still_step
          refine wpStill_nil ?_
          change wpList _ _ _ _ _ wr.drew
          go_wp2
          refine ⟨?_, ?_⟩
          · refine Exists.intro (Value.int .i64 ((i : Int) + 1)) ?_
            repeat apply Exists.intro (α := Value)
            refine ⟨⟨i + 1, by omega, by omega, by go_num, ?_, ?_, ?_⟩, rfl⟩
            · exact (arr_drew A1).setOther (by omega) _ _
            · rw [hst.out, nx.out]
              try simp only [IntKind.wrap_u64, Int.emod_add_emod]
              exact arr_drew (A2.set i _)
            · exact BB.drew.setCell (by show w.heap.size ≤ w1.heap.size; omega) _
          · show 80 - (intOf (Value.int .i64 ((i : Int) + 1))).toNat < 80 - (intOf (Value.int .i64 (i : Int))).toNat
            simp only [intOf]; omega
        · obtain rfl : i = 80 := by omega
          have hln := hsl (80 - 16)
          go_wp2_with (first
            | (with_reducible refine at_n 83 ?_; refine wpList_loadI rfl 61 _ rfl 80 49 und_t64 info_t64 w1.heap.size rfl .u64 _ A2 hln ?_)
            | (with_reducible refine at_op (o := ⟨_, .store 61 _ _, _, _, _, _⟩) ?_; refine wpList_storeI rfl 61 _ _ rfl 80 info_t64 w.heap.size rfl .u64 _ _ rfl A1 (by simp) hln ?_; intro A3))
          refine bodyPost_ret (results_cellI rfl _ 80 49 und_t64 info_t64 w.heap.size rfl .u64 _ A3 hln) rfl ?_
          exact ⟨rfl, below_row BB (Nat.le_refl _) _⟩
theorem zero_t32 : (Tryd.prog.info? 64).bind (·.zero) = some (.agg (Array.replicate 80 (Value.int .u32 0))) := by kernel_rfl
theorem info_t32 : (Tryd.prog.info? 64).map (·.size) = some 80 := by kernel_rfl
theorem und_t32 : Tryd.prog.underlying 64 = some (.array 80 39) := by kernel_rfl
theorem or_be32 (x c : Int) (hx : 0 ≤ x ∧ x < 16777216) (hc : 0 ≤ c ∧ c ≤ 255) : bits BinOp.or .u32 (x * 256) c = x * 256 + c := by
  obtain ⟨a, rfl⟩ := Int.eq_ofNat_of_zero_le hx.1
  obtain ⟨b, rfl⟩ := Int.eq_ofNat_of_zero_le hc.1
  have h := u32_or_nat (a * 256) b (by omega) (by omega)
  rw [show (((a * 256 : Nat) : Int)) = (a : Int) * 256 by simp] at h
  rw [h, nat_or_add (a * 256) b 8 (by omega) (by omega)]
  simp
/-- The words of a block. -/
def word32 (zs : List Int) (i : Nat) : Int := beF ((zs.drop (i * 4)).take 4)
theorem word32_in {zs : List Int} (hb : Bytes zs) {i : Nat} (h : (i + 1) * 4 ≤ zs.length) : In32 (word32 zs i) := by
  have := beF_lt 4 ((zs.drop (i * 4)).take 4) (by simp; omega) (fun x hx => hb x (List.mem_of_mem_drop (List.mem_of_mem_take hx)))
  unfold In32 word32
  omega
def next32 (m : List Int) (i : Nat) : Int := (at0 m (i - 16) + lowA32 (at0 m (i - 15)) + at0 m (i - 7) + lowB32 (at0 m (i - 2))) % 4294967296
def sched32 (zs : List Int) : Nat → List Int
  | 0 => (List.range 16).map (word32 zs) ++ List.replicate 64 0
  | k + 1 => (sched32 zs k).set (16 + k) (next32 (sched32 zs k) (16 + k))
theorem sched32_len (zs : List Int) : ∀ k, (sched32 zs k).length = 80
  | 0 => by simp [sched32]
  | k + 1 => by simp [sched32, sched32_len zs k]
theorem sched32_in {zs : List Int} (hb : Bytes zs) (hl : zs.length = 64) : ∀ k x, x ∈ sched32 zs k → In32 x
  | 0, x, hx => by
    rcases List.mem_append.1 hx with h | h
    · obtain ⟨i, hi, rfl⟩ := List.mem_map.1 h
      exact word32_in hb (by have := List.mem_range.1 hi; omega)
    · obtain ⟨-, rfl⟩ := List.mem_replicate.1 h
      unfold In32; omega
  | k + 1, x, hx => by
    rcases List.mem_or_eq_of_mem_set hx with h | rfl
    · exact sched32_in hb hl k x h
    · unfold In32 next32; omega
set_option maxHeartbeats 1000000 in
theorem schedule32_v (w : World) (B : Nat) (st : List Int) (hr : RS32 w B st) (v : Value) (zs : List Int) (hv : RdI .u8 w v zs) (hb : Bytes zs) (hl : zs.length = 64) :
    Calls Tryd.prog 45 #[.pointer (some ⟨B, 0, none⟩), v] w fun e w' => e = .returned (aggI .u32 (sched32 zs 48)) ∧ Below w.heap.size w w' := by
  obtain ⟨a, cap, rfl, hcap, hmax, hcell, -⟩ := hv
  obtain ⟨x, o, rfl, -⟩ := hcell 0 (by omega)
  replace hcell : ∀ k, k < 64 → w.cell? ⟨x, o + k, none⟩ = some (.int .u8 (at0 zs k)) := fun k hk => by
    obtain ⟨x', o', e, h⟩ := hcell k (by omega)
    cases e
    exact h
  have hx : x < w.heap.size := World.block_lt_of_cell? w _ (hcell 0 (by omega))
  have hB := hr.lt
  have hwd := hr.width
  rw [hl] at hcap ⊢
  go_enter Tryd.func45, Tryd.ntmps45
  go_wp2_with (first
    | (with_reducible refine at_n 4 ?_; refine wpList_allocI rfl 64 rfl .u32 80 zero_t32 ?_; intro w1 A1 s1 b1)
    | (with_reducible refine at_n 5 ?_; refine wpList_allocI rfl 64 rfl .u32 80 zero_t32 ?_; intro w2 A2 s2 b2; replace A1 := A1.below b2; have BB := below_then b1 b2; replace hwd := (hr.below BB).width))
  go_loopw [17] (fun i wr => ∃ (k : Nat) (ms : List Int), k ≤ 16 ∧ i = .int .i64 k ∧ Arr .u32 wr w.heap.size (List.replicate 80 0) ∧ Arr .u32 wr w1.heap.size ms ∧ ms.length = 80 ∧ (∀ j, j < 80 → at0 ms j = if j < k then word32 zs j else 0) ∧ Below w.heap.size w wr) (fun i _ => 16 - (intOf i).toNat)
  case atStart => exact ⟨0, List.replicate 80 0, by omega, rfl, A1, A2, by simp, fun j h => by rw [at0_rep, if_neg (by omega)], BB⟩
  case round =>
    clear A1 A2 BB hwd
    obtain ⟨k, ms, hk, rfl, A1, A2, hml, hms, BB⟩ := hrel
    by_cases hlt : k < 16
    · have hc : ∀ j, j < 4 → wr.cell? ⟨x, o + k * 4 + j, none⟩ = some (.int .u8 (at0 ((zs.drop (k * 4)).take 4) j)) := fun j hj => by
        have h1 := hcell (k * 4 + j) (by omega)
        rw [← Nat.add_assoc] at h1
        rw [BB.cell hx, h1]
        simp [at0, hj]
      have hbp : Bytes ((zs.drop (k * 4)).take 4) := fun y hy => hb y (List.mem_of_mem_drop (List.mem_of_mem_take hy))
      have hlp : ((zs.drop (k * 4)).take 4).length = 4 := by simp; omega
      generalize hps : (zs.drop (k * 4)).take 4 = ps at *
      clear hcell
      go_wp2
      have hlen : (k + 1) * 4 - k * 4 = 4 := by omega
      simp only [hlen]
      go_loopw [8, 30] (fun y j wq => ∃ (t : Nat), t ≤ 4 ∧ j = .int .i64 t ∧ y = .int .u32 (beF (ps.take t)) ∧ wq = wr) (fun _ j _ => 4 - (intOf j).toNat)
      case atStart => exact ⟨0, by omega, rfl, rfl, rfl⟩
      case round =>
        obtain ⟨t, ht, rfl, rfl, rfl⟩ := hrel
        by_cases hlt2 : t < 4
        · have hc0 := hc t hlt2
          have hbt := beF_lt t (ps.take t) (by simp [hlp]; omega) (fun y hy => hbp y (List.mem_of_mem_take hy))
          have hcb := hbp.at t
          have hsn : beF (ps.take (t + 1)) = beF (ps.take t) * 256 + at0 ps t := by rw [take_snoc ps t (by omega), beF_snoc]
          generalize at0 ps t = c at *
          have hyb : 0 ≤ beF (ps.take t) ∧ beF (ps.take t) < 16777216 := by
            have hp : (256 : Int) ^ t ≤ 256 ^ 3 := by
              rcases (by omega : t = 0 ∨ t = 1 ∨ t = 2 ∨ t = 3) with rfl | rfl | rfl | rfl <;> decide
            omega
          generalize beF (ps.take t) = y at *
          have ho := or_be32 y c hyb hcb
          have hy0 := hyb.1
          have hy1 := hyb.2
          replace hsn := Lib.hid hsn
          clear hbt hyb hc
          go_wp2
          refine ⟨⟨t + 1, by omega, by go_num, ?_, by trivial⟩, by simp only [intOf]; omega⟩
          rw [hsn.out]
        · obtain rfl : t = 4 := by omega
          have hw : beF (ps.take 4) = word32 zs k := by rw [← hlp, List.take_length, ← hps]; rfl
          rw [hw]
          have f0 := A2.free (k := k) (by omega)
          have c0 := A2.cell (k := k) (by omega)
          clear hc
          go_wp2
          refine ⟨⟨k + 1, ms.set k (word32 zs k), by omega, by go_num, A1.setOther (by omega) _ _, A2.set _ _, by simp [hml], fun j hj => ?_, BB.setCell (by show w.heap.size ≤ w1.heap.size; omega) _⟩, by simp only [intOf]; omega⟩
          rw [at0_set ms k j _ (by omega)]
          by_cases e : j = k
          · rw [if_pos e, if_pos (by omega), e]
          · rw [if_neg e, hms j hj]
            by_cases e2 : j < k
            · rw [if_pos e2, if_pos (by omega)]
            · rw [if_neg e2, if_neg (by omega)]
    · obtain rfl : k = 16 := by omega
      have e : ms = sched32 zs 0 := eq_of_all (by rw [hml]; rfl) fun j h => by
        rw [hml] at h
        rw [hms j h]
        by_cases e : j < 16
        · rw [if_pos e]
          unfold sched32 at0
          rw [List.getElem?_append_left (by simpa using e)]; simp [e]
        · rw [if_neg e]
          have e2 := at0_rep 64 (j - 16)
          unfold sched32
          unfold at0 at e2 ⊢
          rw [List.getElem?_append_right (by simpa using e), List.length_map, List.length_range, e2]
      subst e
      clear hms hml hcell
      have hsl := sched32_len zs
      have hsi := sched32_in hb hl
      go_wp2
      go_loopw [11] (fun i wr => ∃ (i' : Nat), 16 ≤ i' ∧ i' ≤ 64 ∧ i = .int .i64 i' ∧ Arr .u32 wr w.heap.size (List.replicate 80 0) ∧ Arr .u32 wr w1.heap.size (sched32 zs (i' - 16)) ∧ Below w.heap.size w wr) (fun i _ => 64 - (intOf i).toNat)
      case atStart => exact ⟨16, by omega, by omega, rfl, A1, A2, BB⟩
      case round =>
        clear A1 A2 BB
        obtain ⟨i, hi0, hi1, rfl, A1, A2, BB⟩ := hrel
        have hr' := hr.below BB
        have hct := hr'.count
        by_cases hlt : i < 64
        · have hln := hsl (i - 16)
          have hin := hsi (i - 16)
          have hst : sched32 zs (i + 1 - 16) = (sched32 zs (i - 16)).set i (next32 (sched32 zs (i - 16)) i) := by
            rw [show i + 1 - 16 = (i - 16) + 1 by omega]
            show (sched32 zs (i - 16)).set (16 + (i - 16)) (next32 (sched32 zs (i - 16)) (16 + (i - 16))) = _
            rw [show 16 + (i - 16) = i by omega]
          generalize sched32 zs (i - 16) = ms at *
          have hat : ∀ j, j < 80 → In32 (at0 ms j) := fun j hj => hin _ (at0_mem (by omega))
          obtain ⟨j1, e1, n1⟩ : ∃ j : Nat, IntKind.i64.wrap ((i : Int) - 16) = (j : Int) ∧ i - 16 = j := ⟨i - 16, by rw [wrap_id64 (by omega) (by omega)]; omega, rfl⟩
          obtain ⟨j2, e2, n2⟩ : ∃ j : Nat, IntKind.i64.wrap ((i : Int) - 15) = (j : Int) ∧ i - 15 = j := ⟨i - 15, by rw [wrap_id64 (by omega) (by omega)]; omega, rfl⟩
          obtain ⟨j3, e3, n3⟩ : ∃ j : Nat, IntKind.i64.wrap ((i : Int) - 7) = (j : Int) ∧ i - 7 = j := ⟨i - 7, by rw [wrap_id64 (by omega) (by omega)]; omega, rfl⟩
          obtain ⟨j4, e4, n4⟩ : ∃ j : Nat, IntKind.i64.wrap ((i : Int) - 2) = (j : Int) ∧ i - 2 = j := ⟨i - 2, by rw [wrap_id64 (by omega) (by omega)]; omega, rfl⟩
          have b1 : (j1 : Int) < 80 := by omega
          have b2' : (j2 : Int) < 80 := by omega
          have b3 : (j3 : Int) < 80 := by omega
          have b4 : (j4 : Int) < 80 := by omega
          have b5 : (i : Int) < 80 := by omega
          have c1 := A2.cell (k := j1) (by omega)
          have c2 := A2.cell (k := j2) (by omega)
          have c3 := A2.cell (k := j3) (by omega)
          have c4 := A2.cell (k := j4) (by omega)
          have nx : next32 ms i = (at0 ms j1 + lowA32 (at0 ms j2) + at0 ms j3 + lowB32 (at0 ms j4)) % 4294967296 := by unfold next32; rw [n1, n2, n3, n4]
          replace nx := Lib.hid nx
          clear n1 n2 n3 n4
          have c5 := A2.cell (k := i) (by omega)
          have f5 := A2.free (k := i) (by omega)
          have HA := fun W => lowA32_v (at0 ms j2) W (hat _ (by omega))
          have HB := fun W => lowB32_v (at0 ms j4) W (hat _ (by omega))
          obtain ⟨f10, f11, f12, f13⟩ := hr'.fn
          replace hst := Lib.hid hst
          clear hin hsi hsl
          go_wp2
          go_still_tail 31, (by kernel_rfl)
          still_call (HA _)
          repeat still_step
          still_call (HB _)
          repeat still_step
          refine wpStill_nil ?_
          change wpList _ _ _ _ _ wr.drew
          go_wp2
          refine ⟨?_, ?_⟩
          · refine Exists.intro (Value.int .i64 ((i : Int) + 1)) ?_
            repeat apply Exists.intro (α := Value)
            refine ⟨⟨i + 1, by omega, by omega, by go_num, ?_, ?_, ?_⟩, rfl⟩
            · exact (arr_drew A1).setOther (by omega) _ _
            · rw [hst.out, nx.out]
              try simp only [IntKind.wrap_u64, Int.emod_add_emod]
              exact arr_drew (A2.set i _)
            · exact BB.drew.setCell (by show w.heap.size ≤ w1.heap.size; omega) _
          · show 64 - (intOf (Value.int .i64 ((i : Int) + 1))).toNat < 64 - (intOf (Value.int .i64 (i : Int))).toNat
            simp only [intOf]; omega
        · obtain rfl : i = 64 := by omega
          have hln := hsl (64 - 16)
          go_wp2_with (first
            | (with_reducible refine at_n 83 ?_; refine wpList_loadI rfl 64 _ rfl 80 39 und_t32 info_t32 w1.heap.size rfl .u32 _ A2 hln ?_)
            | (with_reducible refine at_op (o := ⟨_, .store 64 _ _, _, _, _, _⟩) ?_; refine wpList_storeI rfl 64 _ _ rfl 80 info_t32 w.heap.size rfl .u32 _ _ rfl A1 (by simp) hln ?_; intro A3))
          refine bodyPost_ret (results_cellI rfl _ 80 39 und_t32 info_t32 w.heap.size rfl .u32 _ A3 hln) rfl ?_
          exact ⟨rfl, below_row BB (Nat.le_refl _) _⟩
end Go.Proofs.YtohnicmacmkapaaDoor
