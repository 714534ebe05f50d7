/- Decode of both packages: the runes of right bytes, else none. -/
import Derived.Test.YticeogdagnogpaaSame
import Derived.Test.YticeogdagnogpaaUtfRefFirst
namespace Go.Proofs.Yticeogdagnogpaa
open Go.RowKit
set_option linter.unusedVariables false

theorem fstS_bounds {l : List Int} {r : Int} {n : Nat} (h : fstS l = some (r, n)) : 1 ≤ n ∧ n ≤ 4 ∧ n ≤ l.length ∧ (at0 l 0 ≥ 0 → 0 ≤ r ∧ r ≤ 1114111 ∧ (r < 55296 ∨ 57343 < r)) := by
  unfold fstS at h
  have key : ∀ (x : Int) (k : Nat), okS x k = some (r, n) → (0 ≤ r ∧ r ≤ 1114111 ∧ (r < 55296 ∨ 57343 < r)) ∧ n = k := by
    intro x k hk
    unfold okS at hk
    split at hk
    · rename_i hq
      simp only [Option.some.injEq, Prod.mk.injEq] at hk
      obtain ⟨rfl, rfl⟩ := hk
      simp [isRuneB] at hq
      omega
    · cases hk
  split at h
  · cases h
  split at h
  · simp only [Option.some.injEq, Prod.mk.injEq] at h
    omega
  split at h
  · cases h
  split at h
  · split at h
    · rename_i hq
      have := key _ _ h
      simp at hq
      omega
    · cases h
  split at h
  · split at h
    · rename_i hq
      have := key _ _ h
      simp at hq
      omega
    · cases h
  split at h
  · split at h
    · rename_i hq
      have := key _ _ h
      simp at hq
      omega
    · cases h
  · cases h

/-- The runes of right bytes. -/
def decS (l : List Int) : Option (List Int) :=
  if h : l = [] then some [] else
    match fstS l with
    | none => none
    | some (r, n) => if 0 < n then (decS (l.drop n)).map (r :: ·) else none
termination_by l.length
decreasing_by
  have : 0 < l.length := List.length_pos_iff.2 h
  simp only [List.length_drop]
  omega

theorem decS_nil : decS [] = some [] := by rw [decS]; rfl
theorem decS_none {l : List Int} (h : l ≠ []) (hf : fstS l = none) : decS l = none := by rw [decS, dif_neg h, hf]
theorem decS_some {l : List Int} {r : Int} {n : Nat} (h : l ≠ []) (hf : fstS l = some (r, n)) : decS l = (decS (l.drop n)).map (r :: ·) := by
  rw [decS, dif_neg h, hf]
  simp only []
  rw [if_pos (by have := fstS_bounds hf; omega)]

/-- What is told of a decoding. -/
def DecPost (B : Nat) (w : World) (l : List Int) (e : Ending) (w' : World) : Prop :=
  ∃ v c, e = .returned (.tuple #[v, .int .i64 c]) ∧ Below B w w' ∧
    ((∃ rs, decS l = some rs ∧ c = 0 ∧ rs.length ≤ l.length ∧ w'.ownsRow B 21 1 v rs.length (rs.map (Value.int .i32))) ∨ (decS l = none ∧ c = 2 ∧ v = .slice none 0 0))

def lenOf : Value → Nat | .slice _ n _ => n | _ => 0


theorem firstV_some (r : Int) (n : Nat) : firstV (some (r, n)) = .tuple #[.int .i32 r, .int .i64 n, .int .i64 0] := rfl
theorem firstV_none : firstV none = .tuple #[.int .i32 0, .int .i64 0, .int .i64 2] := rfl

set_option maxHeartbeats 1000000 in
theorem decode_any (v : Value) (l : List Int) (w : World) (h : RdI .u8 w v l) (hb : Bytes l) (hlen : l.length ≤ 1000000) :
    Calls Try.prog 15 #[v] w (DecPost w.heap.size w l) := by
  obtain ⟨i0, hi, hz0, hz1, hz2⟩ := info_parts info_i32
  obtain ⟨j0, hj, hy0, hy1, hy2⟩ := info_parts info_u8
  go_enter Try.func15, Try.ntmps15
  go_wp2
  go_loopw [0, 4] (fun b out wr => ∃ rest acc, RdI .u8 w b rest ∧ Bytes rest ∧ wr.ownsRow w.heap.size 21 1 out acc.length (acc.map (Value.int .i32)) ∧ Below w.heap.size w wr ∧ decS l = (decS rest).map (acc ++ ·) ∧ acc.length + rest.length ≤ l.length) (fun b _ _ => lenOf b)
  case atStart => exact ⟨l, [], h, hb, World.ownsRow_nil _ _ _ _, Below.refl _ _, by simp, by simp⟩
  case round =>
    obtain ⟨rest, acc, hrd, hbt, hown, hbel, hdec, hsum⟩ := hrel
    have hrd0 := hrd
    obtain ⟨a, ca, rfl, hla, hma, ha, hn⟩ := hrd
    have HA := Lib.hid ha; clear ha
    have HN := Lib.hid hn; clear hn
    have HD := Lib.hid hdec; clear hdec
    by_cases hpos : 0 < rest.length
    · rcases hf : fstS rest with _ | ⟨r, n⟩
      · have HF := Lib.hid hf; clear hf
        go_wp2_with (go_at_call 18; refine (first_any _ _ _ (hrd0.below hbel) hbt).mono ?_; rintro e w1 ⟨rfl, hb1⟩; rw [HF.out, firstV_none])
        go_ret2
        refine ⟨_, _, rfl, hbel.trans (hb1.mono hbel.size), .inr ⟨?_, rfl, rfl⟩⟩
        rw [HD.out, decS_none (by intro e; simp [e] at hpos) HF.out]
        rfl
      · obtain ⟨q1, q2, q3, q4⟩ := fstS_bounds hf
        have q5 := q4 (hbt.at 0).1
        clear q4
        have HF := Lib.hid hf; clear hf
        go_wp2_with (first
          | (go_at_call 18; refine (first_any _ _ _ (hrd0.below hbel) hbt).mono ?_; rintro e w1 ⟨rfl, hb1⟩; rw [HF.out, firstV_some])
          | (at_builtin; refine wpList_append_rd rfl _ _ 25 rfl w.heap.size 21 i0 (.int .i32 0) 4 Try.underlying25 hi hz0 hz1 hz2 rfl _ _ _ rfl ((own_below hown hb1).alloc _) _ 1 1 [.int .i32 r] rfl reads_one (by simp [Value.oneCell']) (by unfold maxLen; omega) (by omega) (by simp; have := hbel.size; have := hb1.size; omega) (by simp) ?_; intro v2 w2 hown2 hgr hb2))
        refine ⟨⟨rest.drop n, acc ++ [r], rd_cut hrd0 q3, hbt.drop n, by simpa using hown2, (hbel.trans (hb1.mono hbel.size)).trans ((Below.refl _ _).alloc (by have := hbel.size; have := hb1.size; omega) _ |>.trans hb2), ?_, by simp; omega⟩, by simp [lenOf]; omega⟩
        rw [HD.out, decS_some (by intro e; simp [e] at hpos) HF.out, Option.map_map]
        congr 1
        funext x
        simp
    · go_wp2
      go_ret2
      obtain rfl : rest = [] := List.eq_nil_of_length_eq_zero (by omega)
      refine ⟨_, _, rfl, hbel, .inl ⟨acc, ?_, rfl, by omega, hown⟩⟩
      rw [HD.out, decS_nil]
      simp
set_option maxHeartbeats 1000000 in
theorem ref_first_any (v : Value) (l : List Int) (w : World) (h : RdI .u8 w v l) (hb : Bytes l) :
    Calls Try.prog 19 #[v] w fun e w' => e = .returned (firstV (fstS l)) ∧ Below w.heap.size w w' := by
  obtain ⟨a, ca, rfl, hla, hma, ha, -⟩ := h
  unfold maxLen at hma
  by_cases h0 : l.length = 0
  · have hne : ((l.length : Int) == 0) = true := beq_yes (by omega)
    have HF := Lib.hid (show fstS l = none by simp [fstS, h0])
    clear ha h0
    go_enter Try.func19, Try.ntmps19
    go_wp2
    go_ret3
    exact ⟨by rw [HF.out]; rfl, Below.refl _ _⟩
  obtain ⟨x, o, rfl, hc⟩ := ha 0 (by omega)
  have hcell : ∀ k, k < l.length → w.cell? ⟨x, o + k, none⟩ = some (.int .u8 (at0 l k)) := fun k hk => by
    obtain ⟨x', o', e, h⟩ := ha k hk; cases e; exact h
  clear ha hc
  have hma' : ca ≤ 9223372036854775807 := by omega
  have hp : 0 < l.length := by omega
  obtain ⟨z0, z1⟩ := hb.at 0
  obtain ⟨y0, y1⟩ := hb.at 1
  obtain ⟨x0, x1⟩ := hb.at 2
  obtain ⟨t0, t1⟩ := hb.at 3
  by_cases c1 : at0 l 0 < 192
  · by_cases c : at0 l 0 ≤ 127
    · exact ref_first_11 x o ca l w hma' hla hb hcell hp c1 z0 c (by omega)
    · exact ref_first_12 x o ca l w hma' hla hb hcell hp c1 (by omega) (by omega) (by omega)
  by_cases c2 : at0 l 0 < 224
  · by_cases s : l.length < 2
    · exact ref_first_2s x o ca l w hma' hla hb hcell hp ⟨by omega, c2⟩ s
    by_cases R : 0 ≤ (at0 l 0 - 192) * 64 + at0 l 1 - 128 ∧ (at0 l 0 - 192) * 64 + at0 l 1 - 128 ≤ 1114111 ∧ ((at0 l 0 - 192) * 64 + at0 l 1 - 128 < 55296 ∨ 57343 < (at0 l 0 - 192) * 64 + at0 l 1 - 128)
    rotate_left
    · exact ref_first_2n x o ca l w hma' hla hb hcell hp ⟨by omega, c2⟩ (by omega) R
    obtain ⟨R1, R2, R3⟩ := R
    by_cases m1 : (at0 l 0 - 192) * 64 + at0 l 1 - 128 ≤ 127
    · exact ref_first_21 x o ca l w hma' hla hb hcell hp ⟨by omega, c2⟩ (by omega) (by omega) m1 R3
    by_cases m2 : (at0 l 0 - 192) * 64 + at0 l 1 - 128 ≤ 2047
    · exact ref_first_22 x o ca l w hma' hla hb hcell hp ⟨by omega, c2⟩ (by omega) (by omega) m2 R3
    exact ref_first_23 x o ca l w hma' hla hb hcell hp ⟨by omega, c2⟩ (by omega) (by omega) (by omega) R3
  by_cases c3 : at0 l 0 < 240
  · by_cases s : l.length < 3
    · exact ref_first_3s x o ca l w hma' hla hb hcell hp ⟨by omega, c3⟩ s
    by_cases R : 0 ≤ ((at0 l 0 - 224) * 64 + at0 l 1 - 128) * 64 + at0 l 2 - 128 ∧ ((at0 l 0 - 224) * 64 + at0 l 1 - 128) * 64 + at0 l 2 - 128 ≤ 1114111 ∧ (((at0 l 0 - 224) * 64 + at0 l 1 - 128) * 64 + at0 l 2 - 128 < 55296 ∨ 57343 < ((at0 l 0 - 224) * 64 + at0 l 1 - 128) * 64 + at0 l 2 - 128)
    rotate_left
    · exact ref_first_3n x o ca l w hma' hla hb hcell hp ⟨by omega, c3⟩ (by omega) R
    obtain ⟨R1, R2, R3⟩ := R
    by_cases m1 : ((at0 l 0 - 224) * 64 + at0 l 1 - 128) * 64 + at0 l 2 - 128 ≤ 127
    · exact ref_first_31 x o ca l w hma' hla hb hcell hp ⟨by omega, c3⟩ (by omega) (by omega) m1 R3
    by_cases m2 : ((at0 l 0 - 224) * 64 + at0 l 1 - 128) * 64 + at0 l 2 - 128 ≤ 2047
    · exact ref_first_32 x o ca l w hma' hla hb hcell hp ⟨by omega, c3⟩ (by omega) (by omega) m2 R3
    by_cases m3 : ((at0 l 0 - 224) * 64 + at0 l 1 - 128) * 64 + at0 l 2 - 128 ≤ 65535
    · exact ref_first_33 x o ca l w hma' hla hb hcell hp ⟨by omega, c3⟩ (by omega) (by omega) m3 R3
    exact ref_first_34 x o ca l w hma' hla hb hcell hp ⟨by omega, c3⟩ (by omega) (by omega) (by omega) R3
  by_cases s : l.length < 4
  · exact ref_first_4s x o ca l w hma' hla hb hcell hp (by omega) s
  by_cases R : 0 ≤ (((at0 l 0 - 240) * 64 + at0 l 1 - 128) * 64 + at0 l 2 - 128) * 64 + at0 l 3 - 128 ∧ (((at0 l 0 - 240) * 64 + at0 l 1 - 128) * 64 + at0 l 2 - 128) * 64 + at0 l 3 - 128 ≤ 1114111 ∧ ((((at0 l 0 - 240) * 64 + at0 l 1 - 128) * 64 + at0 l 2 - 128) * 64 + at0 l 3 - 128 < 55296 ∨ 57343 < (((at0 l 0 - 240) * 64 + at0 l 1 - 128) * 64 + at0 l 2 - 128) * 64 + at0 l 3 - 128)
  rotate_left
  · exact ref_first_4n x o ca l w hma' hla hb hcell hp (by omega) (by omega) R
  obtain ⟨R1, R2, R3⟩ := R
  by_cases m1 : (((at0 l 0 - 240) * 64 + at0 l 1 - 128) * 64 + at0 l 2 - 128) * 64 + at0 l 3 - 128 ≤ 127
  · exact ref_first_41 x o ca l w hma' hla hb hcell hp (by omega) (by omega) (by omega) m1 R3
  by_cases m2 : (((at0 l 0 - 240) * 64 + at0 l 1 - 128) * 64 + at0 l 2 - 128) * 64 + at0 l 3 - 128 ≤ 2047
  · exact ref_first_42 x o ca l w hma' hla hb hcell hp (by omega) (by omega) (by omega) m2 R3
  by_cases m3 : (((at0 l 0 - 240) * 64 + at0 l 1 - 128) * 64 + at0 l 2 - 128) * 64 + at0 l 3 - 128 ≤ 65535
  · exact ref_first_43 x o ca l w hma' hla hb hcell hp (by omega) (by omega) (by omega) m3 R3
  exact ref_first_44 x o ca l w hma' hla hb hcell hp (by omega) (by omega) (by omega) (by omega) R3
set_option maxHeartbeats 1000000 in
theorem ref_decode_any (v : Value) (l : List Int) (w : World) (h : RdI .u8 w v l) (hb : Bytes l) (hlen : l.length ≤ 1000000) :
    Calls Try.prog 16 #[v] w (DecPost w.heap.size w l) := by
  obtain ⟨i0, hi, hz0, hz1, hz2⟩ := info_parts info_i32
  obtain ⟨j0, hj, hy0, hy1, hy2⟩ := info_parts info_u8
  go_enter Try.func16, Try.ntmps16
  go_wp2
  go_loopw [0, 4] (fun b out wr => ∃ rest acc, RdI .u8 w b rest ∧ Bytes rest ∧ wr.ownsRow w.heap.size 21 1 out acc.length (acc.map (Value.int .i32)) ∧ Below w.heap.size w wr ∧ decS l = (decS rest).map (acc ++ ·) ∧ acc.length + rest.length ≤ l.length) (fun b _ _ => lenOf b)
  case atStart => exact ⟨l, [], h, hb, World.ownsRow_nil _ _ _ _, Below.refl _ _, by simp, by simp⟩
  case round =>
    obtain ⟨rest, acc, hrd, hbt, hown, hbel, hdec, hsum⟩ := hrel
    have hrd0 := hrd
    obtain ⟨a, ca, rfl, hla, hma, ha, hn⟩ := hrd
    have HA := Lib.hid ha; clear ha
    have HN := Lib.hid hn; clear hn
    have HD := Lib.hid hdec; clear hdec
    by_cases hpos : 0 < rest.length
    · rcases hf : fstS rest with _ | ⟨r, n⟩
      · have HF := Lib.hid hf; clear hf
        go_wp2_with (go_at_call 19; refine (ref_first_any _ _ _ (hrd0.below hbel) hbt).mono ?_; rintro e w1 ⟨rfl, hb1⟩; rw [HF.out, firstV_none])
        go_ret2
        refine ⟨_, _, rfl, hbel.trans (hb1.mono hbel.size), .inr ⟨?_, rfl, rfl⟩⟩
        rw [HD.out, decS_none (by intro e; simp [e] at hpos) HF.out]
        rfl
      · obtain ⟨q1, q2, q3, q4⟩ := fstS_bounds hf
        have q5 := q4 (hbt.at 0).1
        clear q4
        have HF := Lib.hid hf; clear hf
        go_wp2_with (first
          | (go_at_call 19; refine (ref_first_any _ _ _ (hrd0.below hbel) hbt).mono ?_; rintro e w1 ⟨rfl, hb1⟩; rw [HF.out, firstV_some])
          | (at_builtin; refine wpList_append_rd rfl _ _ 25 rfl w.heap.size 21 i0 (.int .i32 0) 4 Try.underlying25 hi hz0 hz1 hz2 rfl _ _ _ rfl ((own_below hown hb1).alloc _) _ 1 1 [.int .i32 r] rfl reads_one (by simp [Value.oneCell']) (by unfold maxLen; omega) (by omega) (by simp; have := hbel.size; have := hb1.size; omega) (by simp) ?_; intro v2 w2 hown2 hgr hb2))
        refine ⟨⟨rest.drop n, acc ++ [r], rd_cut hrd0 q3, hbt.drop n, by simpa using hown2, (hbel.trans (hb1.mono hbel.size)).trans ((Below.refl _ _).alloc (by have := hbel.size; have := hb1.size; omega) _ |>.trans hb2), ?_, by simp; omega⟩, by simp [lenOf]; omega⟩
        rw [HD.out, decS_some (by intro e; simp [e] at hpos) HF.out, Option.map_map]
        congr 1
        funext x
        simp
    · go_wp2
      go_ret2
      obtain rfl : rest = [] := List.eq_nil_of_length_eq_zero (by omega)
      refine ⟨_, _, rfl, hbel, .inl ⟨acc, ?_, rfl, by omega, hown⟩⟩
      rw [HD.out, decS_nil]
      simp
end Go.Proofs.Yticeogdagnogpaa
