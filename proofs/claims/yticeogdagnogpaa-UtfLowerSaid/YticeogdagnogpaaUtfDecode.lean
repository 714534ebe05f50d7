/- Decode of both packages: the runes of right bytes, else none. -/
import Derived.Test.YticeogdagnogpaaLaws
import Derived.Test.YticeogdagnogpaaUtfRefFirst
namespace Go.Proofs.Yticeogdagnogpaa
open Go.RowKit
set_option linter.unusedVariables false
set_option linter.unusedSimpArgs false

theorem fstS_bounds {l : List Int} {r : Int} {n : Nat} (h : fstS l = some (r, n)) : 1 ≤ n ∧ n ≤ 4 ∧ n ≤ l.length ∧ (at0 l 0 ≥ 0 → 0 ≤ r ∧ r ≤ 1114111 ∧ (r < 55296 ∨ 57343 < r)) := by
  unfold fstS at h
  have key : ∀ (x : Int) (k : Nat), okS x k = some (r, n) → (0 ≤ r ∧ r ≤ 1114111 ∧ (r < 55296 ∨ 57343 < r)) ∧ n = k := by
    intro x k hk
    unfold okS at hk
    split at hk
    · rename_i hq
      simp only [Option.some.injEq, Prod.mk.injEq] at hk
      obtain ⟨rfl, rfl⟩ := hk
      simp [isRuneB] at hq
      omega
    · cases hk
  split at h
  · cases h
  split at h
  · simp only [Option.some.injEq, Prod.mk.injEq] at h
    omega
  split at h
  · cases h
  split at h
  · split at h
    · rename_i hq
      have := key _ _ h
      simp at hq
      omega
    · cases h
  split at h
  · split at h
    · rename_i hq
      have := key _ _ h
      simp at hq
      omega
    · cases h
  split at h
  · split at h
    · rename_i hq
      have := key _ _ h
      simp at hq
      omega
    · cases h
  · cases h

/-- The runes of right bytes. -/
def decS (l : List Int) : Option (List Int) :=
  if h : l = [] then some [] else
    match fstS l with
    | none => none
    | some (r, n) => if 0 < n then (decS (l.drop n)).map (r :: ·) else none
termination_by l.length
decreasing_by
  have : 0 < l.length := List.length_pos_iff.2 h
  simp only [List.length_drop]
  omega

theorem decS_nil : decS [] = some [] := by rw [decS]; rfl
theorem decS_none {l : List Int} (h : l ≠ []) (hf : fstS l = none) : decS l = none := by rw [decS, dif_neg h, hf]
theorem decS_some {l : List Int} {r : Int} {n : Nat} (h : l ≠ []) (hf : fstS l = some (r, n)) : decS l = (decS (l.drop n)).map (r :: ·) := by
  rw [decS, dif_neg h, hf]
  simp only []
  rw [if_pos (by have := fstS_bounds hf; omega)]

/-- What is told of a decoding. -/
def DecPost (B : Nat) (w : World) (l : List Int) (e : Ending) (w' : World) : Prop :=
  ∃ v c, e = .returned (.tuple #[v, .int .i64 c]) ∧ Below B w w' ∧
    ((∃ rs, decS l = some rs ∧ c = 0 ∧ rs.length ≤ l.length ∧ w'.ownsRow B 21 1 v rs.length (rs.map (Value.int .i32))) ∨ (decS l = none ∧ c = 2 ∧ v = .slice none 0 0))

def lenOf : Value → Nat | .slice _ n _ => n | _ => 0

theorem info_i32 : (Try.prog.info? 21).map (fun i => (i.zero, i.size, i.bytes)) = some (some (.int .i32 0), 1, 4) := by kernel_rfl
theorem info_u8 : (Try.prog.info? 5).map (fun i => (i.zero, i.size, i.bytes)) = some (some (.int .u8 0), 1, 1) := by kernel_rfl

theorem firstV_some (r : Int) (n : Nat) : firstV (some (r, n)) = .tuple #[.int .i32 r, .int .i64 n, .int .i64 0] := rfl
theorem firstV_none : firstV none = .tuple #[.int .i32 0, .int .i64 0, .int .i64 2] := rfl

set_option maxHeartbeats 1000000 in
theorem decode_any (v : Value) (l : List Int) (w : World) (h : RdI .u8 w v l) (hb : Bytes l) (hlen : l.length ≤ 1000000) :
    Calls Try.prog 15 #[v] w (DecPost w.heap.size w l) := by
  obtain ⟨i0, hi, hz0, hz1, hz2⟩ := info_parts info_i32
  obtain ⟨j0, hj, hy0, hy1, hy2⟩ := info_parts info_u8
  go_enter Try.func15, Try.ntmps15
  go_wp2
  go_loopw [0, 4] (fun b out wr => ∃ rest acc, RdI .u8 w b rest ∧ Bytes rest ∧ wr.ownsRow w.heap.size 21 1 out acc.length (acc.map (Value.int .i32)) ∧ Below w.heap.size w wr ∧ decS l = (decS rest).map (acc ++ ·) ∧ acc.length + rest.length ≤ l.length) (fun b _ _ => lenOf b)
  case atStart => exact ⟨l, [], h, hb, World.ownsRow_nil _ _ _ _, Below.refl _ _, by simp, by simp⟩
  case round =>
    obtain ⟨rest, acc, hrd, hbt, hown, hbel, hdec, hsum⟩ := hrel
    have hrd0 := hrd
    obtain ⟨a, ca, rfl, hla, hma, ha, hn⟩ := hrd
    have HA := Lib.hid ha; clear ha
    have HN := Lib.hid hn; clear hn
    have HD := Lib.hid hdec; clear hdec
    by_cases hpos : 0 < rest.length
    · rcases hf : fstS rest with _ | ⟨r, n⟩
      · have HF := Lib.hid hf; clear hf
        go_wp2_with (go_at_call 18; refine (first_any _ _ _ (hrd0.below hbel) hbt).mono ?_; rintro e w1 ⟨rfl, hb1⟩; rw [HF.out, firstV_none])
        go_ret2
        refine ⟨_, _, rfl, hbel.trans (hb1.mono hbel.size), .inr ⟨?_, rfl, rfl⟩⟩
        rw [HD.out, decS_none (by intro e; simp [e] at hpos) HF.out]
        rfl
      · obtain ⟨q1, q2, q3, q4⟩ := fstS_bounds hf
        have q5 := q4 (hbt.at 0).1
        clear q4
        have HF := Lib.hid hf; clear hf
        go_wp2_with (first
          | (go_at_call 18; refine (first_any _ _ _ (hrd0.below hbel) hbt).mono ?_; rintro e w1 ⟨rfl, hb1⟩; rw [HF.out, firstV_some])
          | (at_builtin; refine wpList_append_rd rfl _ _ 25 rfl w.heap.size 21 i0 (.int .i32 0) 4 Try.underlying25 hi hz0 hz1 hz2 rfl _ _ _ rfl ((own_below hown hb1).alloc _) _ 1 1 [.int .i32 r] rfl reads_one (by simp [Value.oneCell']) (by unfold maxLen; omega) (by omega) (by simp; have := hbel.size; have := hb1.size; omega) (by simp) ?_; intro v2 w2 hown2 hgr hb2))
        refine ⟨⟨rest.drop n, acc ++ [r], rd_cut hrd0 q3, hbt.drop n, by simpa using hown2, (hbel.trans (hb1.mono hbel.size)).trans ((Below.refl _ _).alloc (by have := hbel.size; have := hb1.size; omega) _ |>.trans hb2), ?_, by simp; omega⟩, by simp [lenOf]; omega⟩
        rw [HD.out, decS_some (by intro e; simp [e] at hpos) HF.out, Option.map_map]
        congr 1
        funext x
        simp
    · go_wp2
      go_ret2
      obtain rfl : rest = [] := List.eq_nil_of_length_eq_zero (by omega)
      refine ⟨_, _, rfl, hbel, .inl ⟨acc, ?_, rfl, by omega, hown⟩⟩
      rw [HD.out, decS_nil]
      simp
end Go.Proofs.Yticeogdagnogpaa
