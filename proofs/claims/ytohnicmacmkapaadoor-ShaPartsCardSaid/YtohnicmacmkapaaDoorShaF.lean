/- The rounds of sha: last. -/
import Derived.Test.YtohnicmacmkapaaDoorShaD
import Derived.Test.YtohnicmacmkapaaDoorShaE
import Derived.Test.YtohnicmacmkapaaDoorSlice
import Derived.Laws.CopyRow
namespace Go.Proofs.YtohnicmacmkapaaDoor
open Go.RowKit
set_option linter.unusedVariables false
set_option maxRecDepth 8000

section
variable {P : Program} {ops : Array Oper} {o : Oper} {rest : List Oper} {a : Act} {w : World} {Q : Exit → Act → World → Prop}
theorem wpList_copyT (hgd : o.guard = none) (d s : Operand) (t t' : TypeId) (ho : o.op = .call { callee := .builtin .copy, args := #[d, s], argTypes := #[t, t'] })
    (elem : TypeId) (hu : P.underlying t = some (.slice elem)) (hsz : (P.info? elem).map (·.size) = some 1) (B B' c c' n m : Nat) (hd : a.eval d = .slice (some ⟨B, 0, none⟩) n c) (hs : a.eval s = .slice (some ⟨B', 0, none⟩) m c') (K : IntKind) (zs ys : List Int)
    (hz : Arr K w B zs) (hy : ∀ q, q < m → w.cell? ⟨B', q, none⟩ = some (.int K (at0 ys q))) (hn : zs.length = n) (hm : ys.length = m) (hle : m ≤ n)
    (h : Arr K (w.setRow B ((ys.take m ++ zs.drop m).map (Value.int K)).toArray) B (ys.take m ++ zs.drop m) → wpList P ops Q rest (a.put o.dst (goInt m)) (w.setRow B ((ys.take m ++ zs.drop m).map (Value.int K)).toArray)) : wpList P ops Q (o :: rest) a w := by
  subst hn
  have h' := h (hz.setRow _)
  refine wpList_plain hgd fun KK hK => ?_
  have hlt : (ys.take m).length = m := by simp [hm]
  obtain ⟨tz, hz⟩ := hz
  have hcell : ∀ j v, ((ys.take m).map (Value.int K))[j]? = some v → w.cell? ((⟨B', 0, none⟩ : Addr).add j) = some v := by
    intro j v hj
    have hjm : j < m := by
      have := (List.getElem?_eq_some_iff.1 hj).1
      simpa [hm] using this
    have hc := hy j hjm
    rw [Addr.add_lit, Nat.zero_add, hc, ← hj]
    simp [hjm, at0, show j < ys.length by omega]
  have hr := run_copy_row (P := P) w t t' o.type elem B 0 zs.length c ⟨B', 0, none⟩ m c' _ tz ((ys.take m).map (Value.int K)) hu hsz hz (by rw [List.length_map, hlt]; exact (Nat.min_eq_left hle).symm) hcell (by simp only [List.size_toArray, List.length_map, hlt]; omega) (by intro v hv; obtain ⟨z, -, rfl⟩ := List.mem_map.1 hv; rfl)
  unfold Oper.wp execOp
  simp only [ho, resolve, invoke, builtin, Sem.run_bind, Sem.run_pure, Result.andThen_ok, List.map_toArray, List.map_cons, List.map_nil, hd, hs, hr]
  have e : (List.take 0 (zs.map (Value.int K)) ++ (ys.take m).map (Value.int K) ++ List.drop (0 + ((ys.take m).map (Value.int K)).length) (zs.map (Value.int K))) = (ys.take m ++ zs.drop m).map (Value.int K) := by
    rw [List.take_zero, List.nil_append, Nat.zero_add, List.length_map, hlt, List.map_append, List.map_drop]
  rw [e, List.length_map, hlt]
  exact hK _ _ h'
theorem wpList_makeB (hgd : o.guard = none) (t e : TypeId) (x y : Operand) (ho : o.op = .makeSlice t x y) (hu : P.underlying t = some (.slice e)) (K : IntKind) (hz : (P.info? e).bind (·.zero) = some (Value.int K 0)) (hs : (P.info? e).map (·.size) = some 1) (hb : (P.info? e).map (·.bytes) = some 1)
    (l n : Nat) (hx : a.eval x = .int .i64 l) (hy : a.eval y = .int .i64 n) (hle : l ≤ n) (hn : (n : Int) ≤ 281474976710656)
    (h : ∀ w1, Arr K w1 w.heap.size (List.replicate n 0) → w.heap.size < w1.heap.size → Below w.heap.size w w1 → wpList P ops Q rest (a.put o.dst (.slice (some ⟨w.heap.size, 0, none⟩) l n)) w1) : wpList P ops Q (o :: rest) a w := by
  cases hi : P.info? e with
  | none => rw [hi] at hz; cases hz
  | some i =>
    rw [hi] at hz hs hb
    have hz' : i.zero = some (Value.int K 0) := hz
    have hs' : i.size = 1 := by simpa using hs
    have hb' : i.bytes = 1 := by simpa using hb
    refine wpList_plain hgd fun KK hK => ?_
    have hr := run_make w t e i _ hu hi hz' .i64 .i64 (l : Int) (n : Int) (by omega) (by omega) (by rw [hb']; omega) (by omega)
    have hm : madeCells (Value.int K 0).cells (n * 1) = ((List.replicate n (0 : Int)).map (Value.int K)).toArray := by
      have h1 := madeCells_zero K 1 (n * 1)
      rw [if_neg (by decide)] at h1
      rw [show (Value.int K 0).cells = Array.replicate 1 (Value.int K 0) from rfl, h1]
      simp
    unfold Oper.wp execOp
    simp only [ho, hx, hy, Sem.run_bind, hr, Int.toNat_natCast, hs', hm]
    refine hK _ _ (h _ ⟨e, ?_⟩ (Array.getElem?_eq_some_iff.1 (heap_alloc_new w _)).1 ((Below.refl _ _).alloc (Nat.le_refl _) _))
    rw [heap_alloc_new]
end
theorem grown_then {a b c : World} {row : Option Nat} (h : a.grownBy b row) (k : b.grownBy c row) : a.grownBy c row :=
  ⟨k.os.trans h.os, k.tape.trans h.tape, k.output.trans h.output, Nat.le_trans h.size k.size, fun i hi hne => (k.block i (Nat.lt_of_lt_of_le hi h.size) hne).trans (h.block i hi hne)⟩
theorem arr_but {K : IntKind} {w w' : World} {B : Nat} {zs : List Int} (h : Arr K w B zs) {row : Option Nat} (hb : w.grownBy w' row) (hr : some B ≠ row) : Arr K w' B zs := by
  have hl := h.lt
  obtain ⟨t, h⟩ := h
  exact ⟨t, by rw [hb.block B hl hr]; exact h⟩
theorem grown_new {w w' : World} {B : Nat} (h : w.grownBy w' (some B)) (p : Addr) (v : Value) (hp : w.heap.size ≤ p.block) : w.grownBy (w'.setCell p v) (some B) := by
  refine ⟨h.os, h.tape, h.output, ?_, fun k hk hne => ?_⟩
  · have := h.size
    simpa [World.setCell] using this
  · rw [heap_setCell_other w' p k v (by omega)]
    exact h.block k hk hne
/-- The number of bits, laid behind all, the highest byte first. -/
def padS (p : List Int) (tot : Int) : Nat → List Int
  | 0 => p
  | k + 1 => (padS p tot k).set (p.length - 1 - k) (tot * 8 / 2 ^ (8 * k) % 256)
theorem padS_len (p : List Int) (tot : Int) : ∀ k, (padS p tot k).length = p.length
  | 0 => rfl
  | k + 1 => by simp [padS, padS_len p tot k]
theorem padS_bytes {p : List Int} (h : Bytes p) (tot : Int) : ∀ k, Bytes (padS p tot k)
  | 0 => h
  | k + 1 => fun x hx => by
    rcases List.mem_or_eq_of_mem_set hx with h' | rfl
    · exact padS_bytes h tot k x h'
    · omega
/-- How many bytes so many have when they are padded. -/
def padN64 (n : Nat) : Nat := (n + 1 + 16 + 128 - 1) / 128 * 128
theorem padN64_eq (n : Nat) (h : n < 128) : padded (n : Int) 64 = (padN64 n : Nat) := by
  unfold padded padN64
  rw [if_neg (by omega)]
  omega
theorem padN64_le (n : Nat) (h : n < 128) : n + 16 < padN64 n ∧ padN64 n ≤ 256 ∧ padN64 n % 128 = 0 := by unfold padN64; omega
def padB64 (hl : List Int) (n : Nat) : List Int := (hl.take n ++ List.replicate (padN64 n - n) 0).set n 128
theorem padB64_len (hl : List Int) (n : Nat) (h : n < 128) (hh : hl.length = n) : (padB64 hl n).length = padN64 n := by
  have := padN64_le n h
  simp [padB64, hh]
  omega
/-- A state behind so many blocks. -/
def absorb64 (st zs : List Int) : Nat → List Int
  | 0 => st
  | k + 1 => take64 (absorb64 st zs k) ((zs.drop (k * 128)).take 128)
set_option maxHeartbeats 4000000 in
theorem last64_v (w : World) (B : Nat) (st : List Int) (hr : RS64 w B st) (hT : TabS w) (hs : 0 ≠ B) (hc : 3 ≠ B) (Bh : Nat) (hl : List Int) (n : Nat) (hA : ∀ q, q < n → w.cell? ⟨Bh, q, none⟩ = some (.int .u8 (at0 hl q))) (hll : hl.length = n) (hn : n < 128) (hby : Bytes hl) (tot : Int) (ht0 : 0 ≤ tot) (ht1 : tot < 72057594037927936) :
    Calls Tryd.prog 44 #[.pointer (some ⟨B, 0, none⟩), .slice (some ⟨Bh, 0, none⟩) n 128, .int .i64 tot] w fun e w' => (∃ v, e = .returned v) ∧ RS64 w' B (absorb64 st (padS (padB64 hl n) tot 8) (padN64 n / 128)) ∧ w.grownBy w' (some B) := by
  have hB := hr.lt
  have hwd := hr.width
  have hpn := padN64_le n hn
  have hpl := padB64_len hl n hn hll
  have hpb : Bytes (padB64 hl n) := fun x hx => by
    rcases List.mem_or_eq_of_mem_set hx with h | rfl
    · rcases List.mem_append.1 h with h | h
      · exact hby x (List.mem_of_mem_take h)
      · obtain ⟨-, rfl⟩ := List.mem_replicate.1 h; decide
    · decide
  have HP : ∀ W, Calls Tryd.prog 14 #[.int .i64 (n : Int), .int .i64 64] W fun e w' => e = .returned (.int .i64 ((padN64 n : Nat) : Int)) ∧ w' = W := fun W => by
    have h := padded_v (n : Int) 64 W (by omega) (by omega)
    rw [padN64_eq n hn] at h
    exact h
  have hp0 : (hl.take n ++ List.replicate (padN64 n - n) 0).set n 128 = padB64 hl n := rfl
  have hrd : (List.replicate (padN64 n) (0 : Int)).drop n = List.replicate (padN64 n - n) 0 := by simp
  have hla : (hl.take n ++ List.replicate (padN64 n - n) (0 : Int)).length = padN64 n := by simp [hll]; omega
  obtain ⟨q0, hq0⟩ : ∃ q, hl.take n ++ List.replicate (padN64 n - n) (0 : Int) = q := ⟨_, rfl⟩
  rw [hq0] at hp0 hla
  generalize padB64 hl n = pb at *
  generalize padN64 n = pn at *
  go_enter Tryd.func44, Tryd.ntmps44
  go_wp2_with (first
    | (go_at_call 14; (with_reducible refine (HP _).mono ?_); rintro e w1 ⟨rfl, rfl⟩)
    | (with_reducible refine at_n 17 ?_; refine wpList_makeB rfl 25 5 _ _ rfl Tryd.underlying25 .u8 (by kernel_rfl) (by kernel_rfl) (by kernel_rfl) pn pn rfl rfl (Nat.le_refl _) (by omega) ?_; intro w2 A2 s2 b2; have hr2 := hr.below b2; have hT2 := hT.below b2; have hA2 : ∀ q, q < n → w2.cell? ⟨Bh, q, none⟩ = some (.int .u8 (at0 hl q)) := fun q hq => by rw [b2.cell (World.block_lt_of_cell? _ _ (hA q hq))]; exact hA q hq)
    | (with_reducible refine at_n 20 ?_; refine wpList_copyT rfl _ _ _ _ rfl 5 Tryd.underlying25 (by kernel_rfl) w1.heap.size Bh _ _ pn n rfl rfl .u8 _ hl A2 hA2 (by simp) hll (by omega) ?_; rw [hrd, hq0]; intro A3; have c3 := A3.cell (k := n) (by omega); have f3 := A3.free (k := n) (by omega)))
  have hs2 := b2.size
  have hrA : RS64 ((w2.setRow w1.heap.size (q0.map (Value.int .u8)).toArray).setCell ⟨w1.heap.size, n, none⟩ (.int .u8 128)) B st := hr2.but (grown_set (grown_row _ _ _) _ _) (by simp; omega)
  have hTA : TabS ((w2.setRow w1.heap.size (q0.map (Value.int .u8)).toArray).setCell ⟨w1.heap.size, n, none⟩ (.int .u8 128)) := hT2.but (grown_set (grown_row _ _ _) _ _) (by have := hT.lt.1; omega) (by have := hT.lt.2; omega)
  have hgA : w1.grownBy ((w2.setRow w1.heap.size (q0.map (Value.int .u8)).toArray).setCell ⟨w1.heap.size, n, none⟩ (.int .u8 128)) (some B) := grown_below ((below_row b2 (Nat.le_refl _) _).setCell (Nat.le_refl _) _) B
  have A4 := A3.set n 128
  rw [hp0] at A4
  generalize (w2.setRow w1.heap.size (q0.map (Value.int .u8)).toArray).setCell ⟨w1.heap.size, n, none⟩ (.int .u8 128) = w4 at *
  clear hr2 hT2 hA2 A2 A3 c3 f3 hp0 hla hrd hq0 hwd HP
  go_loopw [28] (fun i wr => ∃ (k : Nat), k ≤ 8 ∧ i = .int .i64 k ∧ RS64 wr B st ∧ TabS wr ∧ Arr .u8 wr w1.heap.size (padS pb tot k) ∧ w1.grownBy wr (some B)) (fun i _ => 8 - (intOf i).toNat)
  case atStart => exact ⟨0, by omega, rfl, hrA, hTA, A4, hgA⟩
  case round =>
    clear hrA hTA A4 hgA
    obtain ⟨k, hk, rfl, hr4, hT4, A4, hg4⟩ := hrel
    have hl4 := padS_len pb tot k
    by_cases hlt : k < 8
    · have hnx : padS pb tot (k + 1) = (padS pb tot k).set (pn - 1 - k) (tot * 8 / 2 ^ (8 * k) % 256) := by rw [← hpl]; rfl
      generalize padS pb tot k = ps at *
      obtain ⟨j, e1, ej⟩ : ∃ j : Nat, (pn : Int) - 1 - (k : Int) = (j : Int) ∧ pn - 1 - k = j := ⟨pn - 1 - k, by omega, rfl⟩
      rw [ej] at hnx
      have hj : j < pn := by omega
      have hjI : (j : Int) < pn := by omega
      have cj := A4.cell (k := j) (by omega)
      have fj := A4.free (k := j) (by omega)
      replace hnx := Lib.hid hnx
      clear ej
      go_wp2
      refine ⟨⟨k + 1, by omega, by go_num, hr4.but (grown_set (World.grownBy.refl wr (some w1.heap.size)) j _) (by simp; omega), hT4.but (grown_set (World.grownBy.refl wr (some w1.heap.size)) j _) (by have := hT.lt.1; omega) (by have := hT.lt.2; omega), ?_, ?_⟩, by simp only [intOf]; omega⟩
      · rw [hnx.out]
        exact A4.set j _
      · exact grown_new hg4 _ _ (Nat.le_refl _)
    · obtain rfl : k = 8 := by omega
      have hwd := hr4.width
      have hpsb := padS_bytes hpb tot 8
      generalize hps : padS pb tot 8 = ps at *
      replace hps := Lib.hid hps
      have HBS := fun W => blockSize_v 64 W (by omega)
      obtain ⟨nb, hnb⟩ : ∃ nb, pn / 128 = nb := ⟨_, rfl⟩
      have hpnb : pn = nb * 128 := by omega
      have hps0 : ps.length = pn := by rw [hl4, hpl]
      clear hl4
      replace hnb := Lib.hid hnb
      replace hpnb := Lib.hid hpnb
      go_wp2_with (first
        | (go_at_call 35; (with_reducible refine (HBS _).mono ?_); rintro e w9 ⟨rfl, rfl⟩))
      go_loopw [6] (fun v wr => ∃ (k m o' : Nat), k ≤ nb ∧ m = pn - k * 128 ∧ (0 < m → o' = k * 128) ∧ v = .slice (some ⟨w1.heap.size, o', none⟩) m m ∧ RS64 wr B (absorb64 st ps k) ∧ TabS wr ∧ Arr .u8 wr w1.heap.size ps ∧ w1.grownBy wr (some B)) (fun v _ => match v with | .slice _ n _ => n | _ => 0)
      case atStart => exact ⟨0, pn, 0, by omega, by omega, fun _ => by omega, rfl, hr4, hT4, A4, hg4⟩
      case round =>
        clear hr4 hT4 A4 hg4 hwd
        obtain ⟨k, m, o', hk, hm, ho', rfl, hr4, hT4, A4, hg4⟩ := hrel
        have hpn2 := hpnb.out
        by_cases hlt : k < nb
        · obtain rfl : o' = k * 128 := ho' (by omega)
          clear ho'
          have hmI : (0 : Int) < (m : Int) := by omega
          have hmB : (128 : Int) ≤ (m : Int) := by omega
          have hlen : ((ps.drop (k * 128)).take 128).length = 128 := by simp; omega
          have hv : RdI .u8 wr (.slice (some ⟨w1.heap.size, k * 128, none⟩) 128 m) ((ps.drop (k * 128)).take 128) := by
            refine ⟨some ⟨w1.heap.size, k * 128, none⟩, m, by rw [hlen], by omega, by unfold maxLen; omega, fun q hq => ⟨_, _, rfl, ?_⟩, by simp⟩
            rw [hlen] at hq
            have hcq := A4.cell (k := k * 128 + q) (by omega)
            rw [hcq]
            simp [at0, hq]
          have hvb : Bytes ((ps.drop (k * 128)).take 128) := fun x hx => hpsb x (List.mem_of_mem_drop (List.mem_of_mem_take hx))
          have hnx : absorb64 st ps (k + 1) = take64 (absorb64 st ps k) ((ps.drop (k * 128)).take 128) := rfl
          generalize (ps.drop (k * 128)).take 128 = zs at *
          generalize absorb64 st ps k = s1 at *
          have HT := take64_v wr B s1 hr4 hT4 hs hc _ zs hv hvb hlen
          replace hnx := Lib.hid hnx
          replace hm := Lib.hid hm
          clear hpn2
          go_wp2_with (first
            | (go_at_call 43; (with_reducible refine HT.mono ?_); rintro e w9 ⟨⟨v9, rfl⟩, hr9, hg9⟩))
          have hm2 := hm.out
          have hpn3 := hpnb.out
          have hne : B ≠ w1.heap.size := by omega
          have hT9 := hT4.but hg9 hs hc
          have A9 := arr_but A4 hg9 (by simpa using fun e => hne e.symm)
          have hg10 := grown_then hg4 hg9
          by_cases e : m = 128
          · rw [if_pos e]
            refine ⟨⟨k + 1, m - 128, k * 128, by omega, by omega, fun h => by omega, rfl, ?_, hT9, A9, hg10⟩, by show m - 128 < m; omega⟩
            rw [hnx.out]; exact hr9
          · rw [if_neg e]
            refine ⟨⟨k + 1, m - 128, k * 128 + 128, by omega, by omega, fun h => by omega, rfl, ?_, hT9, A9, hg10⟩, by show m - 128 < m; omega⟩
            rw [hnx.out]; exact hr9
        · obtain rfl : k = nb := by omega
          have hm0 : m = 0 := by omega
          subst hm0
          clear hm hpn2
          go_wp2
          refine bodyPost_end (results_none rfl _ _ _) rfl ?_
          rw [hnb.out, hps.out]
          exact ⟨⟨_, rfl⟩, hr4, hg4⟩
/-- How many bytes so many have when they are padded. -/
def padN32 (n : Nat) : Nat := (n + 1 + 8 + 64 - 1) / 64 * 64
theorem padN32_eq (n : Nat) (h : n < 64) : padded (n : Int) 32 = (padN32 n : Nat) := by
  unfold padded padN32
  rw [if_neg (by omega)]
  omega
theorem padN32_le (n : Nat) (h : n < 64) : n + 8 < padN32 n ∧ padN32 n ≤ 128 ∧ padN32 n % 64 = 0 := by unfold padN32; omega
def padB32 (hl : List Int) (n : Nat) : List Int := (hl.take n ++ List.replicate (padN32 n - n) 0).set n 128
theorem padB32_len (hl : List Int) (n : Nat) (h : n < 64) (hh : hl.length = n) : (padB32 hl n).length = padN32 n := by
  have := padN32_le n h
  simp [padB32, hh]
  omega
/-- A state behind so many blocks. -/
def absorb32 (st zs : List Int) : Nat → List Int
  | 0 => st
  | k + 1 => take32 (absorb32 st zs k) ((zs.drop (k * 64)).take 64)
set_option maxHeartbeats 4000000 in
theorem last32_v (w : World) (B : Nat) (st : List Int) (hr : RS32 w B st) (hT : TabS w) (hs : 0 ≠ B) (hc : 3 ≠ B) (Bh : Nat) (hl : List Int) (n : Nat) (hA : ∀ q, q < n → w.cell? ⟨Bh, q, none⟩ = some (.int .u8 (at0 hl q))) (hll : hl.length = n) (hn : n < 64) (hby : Bytes hl) (tot : Int) (ht0 : 0 ≤ tot) (ht1 : tot < 72057594037927936) :
    Calls Tryd.prog 39 #[.pointer (some ⟨B, 0, none⟩), .slice (some ⟨Bh, 0, none⟩) n 64, .int .i64 tot] w fun e w' => (∃ v, e = .returned v) ∧ RS32 w' B (absorb32 st (padS (padB32 hl n) tot 8) (padN32 n / 64)) ∧ w.grownBy w' (some B) := by
  have hB := hr.lt
  have hwd := hr.width
  have hpn := padN32_le n hn
  have hpl := padB32_len hl n hn hll
  have hpb : Bytes (padB32 hl n) := fun x hx => by
    rcases List.mem_or_eq_of_mem_set hx with h | rfl
    · rcases List.mem_append.1 h with h | h
      · exact hby x (List.mem_of_mem_take h)
      · obtain ⟨-, rfl⟩ := List.mem_replicate.1 h; decide
    · decide
  have HP : ∀ W, Calls Tryd.prog 14 #[.int .i64 (n : Int), .int .i64 32] W fun e w' => e = .returned (.int .i64 ((padN32 n : Nat) : Int)) ∧ w' = W := fun W => by
    have h := padded_v (n : Int) 32 W (by omega) (by omega)
    rw [padN32_eq n hn] at h
    exact h
  have hp0 : (hl.take n ++ List.replicate (padN32 n - n) 0).set n 128 = padB32 hl n := rfl
  have hrd : (List.replicate (padN32 n) (0 : Int)).drop n = List.replicate (padN32 n - n) 0 := by simp
  have hla : (hl.take n ++ List.replicate (padN32 n - n) (0 : Int)).length = padN32 n := by simp [hll]; omega
  obtain ⟨q0, hq0⟩ : ∃ q, hl.take n ++ List.replicate (padN32 n - n) (0 : Int) = q := ⟨_, rfl⟩
  rw [hq0] at hp0 hla
  generalize padB32 hl n = pb at *
  generalize padN32 n = pn at *
  go_enter Tryd.func39, Tryd.ntmps39
  go_wp2_with (first
    | (go_at_call 14; (with_reducible refine (HP _).mono ?_); rintro e w1 ⟨rfl, rfl⟩)
    | (with_reducible refine at_n 17 ?_; refine wpList_makeB rfl 25 5 _ _ rfl Tryd.underlying25 .u8 (by kernel_rfl) (by kernel_rfl) (by kernel_rfl) pn pn rfl rfl (Nat.le_refl _) (by omega) ?_; intro w2 A2 s2 b2; have hr2 := hr.below b2; have hT2 := hT.below b2; have hA2 : ∀ q, q < n → w2.cell? ⟨Bh, q, none⟩ = some (.int .u8 (at0 hl q)) := fun q hq => by rw [b2.cell (World.block_lt_of_cell? _ _ (hA q hq))]; exact hA q hq)
    | (with_reducible refine at_n 20 ?_; refine wpList_copyT rfl _ _ _ _ rfl 5 Tryd.underlying25 (by kernel_rfl) w1.heap.size Bh _ _ pn n rfl rfl .u8 _ hl A2 hA2 (by simp) hll (by omega) ?_; rw [hrd, hq0]; intro A3; have c3 := A3.cell (k := n) (by omega); have f3 := A3.free (k := n) (by omega)))
  have hs2 := b2.size
  have hrA : RS32 ((w2.setRow w1.heap.size (q0.map (Value.int .u8)).toArray).setCell ⟨w1.heap.size, n, none⟩ (.int .u8 128)) B st := hr2.but (grown_set (grown_row _ _ _) _ _) (by simp; omega)
  have hTA : TabS ((w2.setRow w1.heap.size (q0.map (Value.int .u8)).toArray).setCell ⟨w1.heap.size, n, none⟩ (.int .u8 128)) := hT2.but (grown_set (grown_row _ _ _) _ _) (by have := hT.lt.1; omega) (by have := hT.lt.2; omega)
  have hgA : w1.grownBy ((w2.setRow w1.heap.size (q0.map (Value.int .u8)).toArray).setCell ⟨w1.heap.size, n, none⟩ (.int .u8 128)) (some B) := grown_below ((below_row b2 (Nat.le_refl _) _).setCell (Nat.le_refl _) _) B
  have A4 := A3.set n 128
  rw [hp0] at A4
  generalize (w2.setRow w1.heap.size (q0.map (Value.int .u8)).toArray).setCell ⟨w1.heap.size, n, none⟩ (.int .u8 128) = w4 at *
  clear hr2 hT2 hA2 A2 A3 c3 f3 hp0 hla hrd hq0 hwd HP
  go_loopw [28] (fun i wr => ∃ (k : Nat), k ≤ 8 ∧ i = .int .i64 k ∧ RS32 wr B st ∧ TabS wr ∧ Arr .u8 wr w1.heap.size (padS pb tot k) ∧ w1.grownBy wr (some B)) (fun i _ => 8 - (intOf i).toNat)
  case atStart => exact ⟨0, by omega, rfl, hrA, hTA, A4, hgA⟩
  case round =>
    clear hrA hTA A4 hgA
    obtain ⟨k, hk, rfl, hr4, hT4, A4, hg4⟩ := hrel
    have hl4 := padS_len pb tot k
    by_cases hlt : k < 8
    · have hnx : padS pb tot (k + 1) = (padS pb tot k).set (pn - 1 - k) (tot * 8 / 2 ^ (8 * k) % 256) := by rw [← hpl]; rfl
      generalize padS pb tot k = ps at *
      obtain ⟨j, e1, ej⟩ : ∃ j : Nat, (pn : Int) - 1 - (k : Int) = (j : Int) ∧ pn - 1 - k = j := ⟨pn - 1 - k, by omega, rfl⟩
      rw [ej] at hnx
      have hj : j < pn := by omega
      have hjI : (j : Int) < pn := by omega
      have cj := A4.cell (k := j) (by omega)
      have fj := A4.free (k := j) (by omega)
      replace hnx := Lib.hid hnx
      clear ej
      go_wp2
      refine ⟨⟨k + 1, by omega, by go_num, hr4.but (grown_set (World.grownBy.refl wr (some w1.heap.size)) j _) (by simp; omega), hT4.but (grown_set (World.grownBy.refl wr (some w1.heap.size)) j _) (by have := hT.lt.1; omega) (by have := hT.lt.2; omega), ?_, ?_⟩, by simp only [intOf]; omega⟩
      · rw [hnx.out]
        exact A4.set j _
      · exact grown_new hg4 _ _ (Nat.le_refl _)
    · obtain rfl : k = 8 := by omega
      have hwd := hr4.width
      have hpsb := padS_bytes hpb tot 8
      generalize hps : padS pb tot 8 = ps at *
      replace hps := Lib.hid hps
      have HBS := fun W => blockSize_v 32 W (by omega)
      obtain ⟨nb, hnb⟩ : ∃ nb, pn / 64 = nb := ⟨_, rfl⟩
      have hpnb : pn = nb * 64 := by omega
      have hps0 : ps.length = pn := by rw [hl4, hpl]
      clear hl4
      replace hnb := Lib.hid hnb
      replace hpnb := Lib.hid hpnb
      go_wp2_with (first
        | (go_at_call 35; (with_reducible refine (HBS _).mono ?_); rintro e w9 ⟨rfl, rfl⟩))
      go_loopw [6] (fun v wr => ∃ (k m o' : Nat), k ≤ nb ∧ m = pn - k * 64 ∧ (0 < m → o' = k * 64) ∧ v = .slice (some ⟨w1.heap.size, o', none⟩) m m ∧ RS32 wr B (absorb32 st ps k) ∧ TabS wr ∧ Arr .u8 wr w1.heap.size ps ∧ w1.grownBy wr (some B)) (fun v _ => match v with | .slice _ n _ => n | _ => 0)
      case atStart => exact ⟨0, pn, 0, by omega, by omega, fun _ => by omega, rfl, hr4, hT4, A4, hg4⟩
      case round =>
        clear hr4 hT4 A4 hg4 hwd
        obtain ⟨k, m, o', hk, hm, ho', rfl, hr4, hT4, A4, hg4⟩ := hrel
        have hpn2 := hpnb.out
        by_cases hlt : k < nb
        · obtain rfl : o' = k * 64 := ho' (by omega)
          clear ho'
          have hmI : (0 : Int) < (m : Int) := by omega
          have hmB : (64 : Int) ≤ (m : Int) := by omega
          have hlen : ((ps.drop (k * 64)).take 64).length = 64 := by simp; omega
          have hv : RdI .u8 wr (.slice (some ⟨w1.heap.size, k * 64, none⟩) 64 m) ((ps.drop (k * 64)).take 64) := by
            refine ⟨some ⟨w1.heap.size, k * 64, none⟩, m, by rw [hlen], by omega, by unfold maxLen; omega, fun q hq => ⟨_, _, rfl, ?_⟩, by simp⟩
            rw [hlen] at hq
            have hcq := A4.cell (k := k * 64 + q) (by omega)
            rw [hcq]
            simp [at0, hq]
          have hvb : Bytes ((ps.drop (k * 64)).take 64) := fun x hx => hpsb x (List.mem_of_mem_drop (List.mem_of_mem_take hx))
          have hnx : absorb32 st ps (k + 1) = take32 (absorb32 st ps k) ((ps.drop (k * 64)).take 64) := rfl
          generalize (ps.drop (k * 64)).take 64 = zs at *
          generalize absorb32 st ps k = s1 at *
          have HT := take32_v wr B s1 hr4 hT4 hs hc _ zs hv hvb hlen
          replace hnx := Lib.hid hnx
          replace hm := Lib.hid hm
          clear hpn2
          go_wp2_with (first
            | (go_at_call 38; (with_reducible refine HT.mono ?_); rintro e w9 ⟨⟨v9, rfl⟩, hr9, hg9⟩))
          have hm2 := hm.out
          have hpn3 := hpnb.out
          have hne : B ≠ w1.heap.size := by omega
          have hT9 := hT4.but hg9 hs hc
          have A9 := arr_but A4 hg9 (by simpa using fun e => hne e.symm)
          have hg10 := grown_then hg4 hg9
          by_cases e : m = 64
          · rw [if_pos e]
            refine ⟨⟨k + 1, m - 64, k * 64, by omega, by omega, fun h => by omega, rfl, ?_, hT9, A9, hg10⟩, by show m - 64 < m; omega⟩
            rw [hnx.out]; exact hr9
          · rw [if_neg e]
            refine ⟨⟨k + 1, m - 64, k * 64 + 64, by omega, by omega, fun h => by omega, rfl, ?_, hT9, A9, hg10⟩, by show m - 64 < m; omega⟩
            rw [hnx.out]; exact hr9
        · obtain rfl : k = nb := by omega
          have hm0 : m = 0 := by omega
          subst hm0
          clear hm hpn2
          go_wp2
          refine bodyPost_end (results_none rfl _ _ _) rfl ?_
          rw [hnb.out, hps.out]
          exact ⟨⟨_, rfl⟩, hr4, hg4⟩
end Go.Proofs.YtohnicmacmkapaaDoor
