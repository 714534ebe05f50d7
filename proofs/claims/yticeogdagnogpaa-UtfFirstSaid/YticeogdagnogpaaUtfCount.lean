/- Count, Right and plain of package utf. -/
import Derived.Test.YticeogdagnogpaaUtfDecode
namespace Go.Proofs.Yticeogdagnogpaa
open Go.RowKit
set_option linter.unusedVariables false

/-- How many bytes up to 127 stand at the beginning. -/
def plainN (l : List Int) : Nat := (l.takeWhile (fun x => decide (x ≤ 127))).length
theorem plainN_le (l : List Int) : plainN l ≤ l.length := by
  have := (List.takeWhile_prefix (fun x => decide ((x : Int) ≤ 127)) (l := l)).length_le
  exact this
theorem plainN_at (l : List Int) : ∀ k, k < l.length → (∀ j, j < k → at0 l j ≤ 127) → 127 < at0 l k → plainN l = k := by
  induction l with
  | nil => intro k hk; simp at hk
  | cons x t ih =>
    intro k hk hall hgt
    cases k with
    | zero =>
      rw [at0_cons_zero] at hgt
      simp [plainN, show ¬ x ≤ 127 by omega]
    | succ k =>
      have h0 := hall 0 (by omega)
      rw [at0_cons_zero] at h0
      rw [at0_cons_succ] at hgt
      have := ih k (by simpa using hk) (fun j hj => by have := hall (j + 1) (by omega); rwa [at0_cons_succ] at this) hgt
      simp only [plainN, List.takeWhile_cons, h0, decide_true, if_true, List.length_cons]
      simp only [plainN] at this
      omega
theorem plainN_all (l : List Int) (h : ∀ j, j < l.length → at0 l j ≤ 127) : plainN l = l.length := by
  induction l with
  | nil => rfl
  | cons x t ih =>
    have h0 := h 0 (by simp)
    rw [at0_cons_zero] at h0
    have := ih (fun j hj => by have := h (j + 1) (by simp; omega); rwa [at0_cons_succ] at this)
    simp only [plainN, List.takeWhile_cons, h0, decide_true, if_true, List.length_cons]
    simp only [plainN] at this
    omega
theorem plainN_lt (l : List Int) : ∀ j, j < plainN l → at0 l j ≤ 127 := by
  induction l with
  | nil => intro j hj; simp [plainN] at hj
  | cons x t ih =>
    intro j hj
    by_cases hx : x ≤ 127
    · cases j with
      | zero => rw [at0_cons_zero]; exact hx
      | succ j =>
        rw [at0_cons_succ]
        apply ih
        simp only [plainN, List.takeWhile_cons, hx, decide_true, if_true, List.length_cons] at hj
        simp only [plainN]
        omega
    · simp [plainN, hx] at hj

theorem decS_plain (k : Nat) : ∀ l : List Int, k ≤ l.length → (∀ j, j < k → at0 l j ≤ 127) → decS l = (decS (l.drop k)).map (l.take k ++ ·) := by
  induction k with
  | zero => intro l _ _; simp
  | succ k ih =>
    intro l hk h
    cases l with
    | nil => simp at hk
    | cons x t =>
      have h0 := h 0 (by omega)
      rw [at0_cons_zero] at h0
      have hf : fstS (x :: t) = some (x, 1) := by
        rw [fst1_yes (by rw [at0_cons_zero]; omega) (by simp)]
        rfl
      rw [decS_some (by simp) hf]
      rw [show List.drop 1 (x :: t) = t from rfl, ih t (by simpa using hk) (fun j hj => by have := h (j + 1) (by omega); rwa [at0_cons_succ] at this), Option.map_map]
      rfl

set_option maxHeartbeats 400000 in
theorem plain_any (v : Value) (l : List Int) (w : World) (h : RdI .u8 w v l) (hb : Bytes l) :
    Calls Try.prog 40 #[v] w fun e w' => e = .returned (.int .i64 (plainN l)) ∧ w' = w := by
  obtain ⟨a, ca, rfl, hla, hma, ha, -⟩ := h
  unfold maxLen at hma
  have HA := Lib.hid ha; clear ha
  go_enter Try.func40, Try.ntmps40
  go_wp2
  go_loop [3, 6] (fun _ i => ∃ k : Nat, k ≤ l.length ∧ i = .int .i64 k ∧ ∀ j, j < k → at0 l j ≤ 127) (fun _ i => l.length - (intOf i).toNat)
  case atStart => exact ⟨0, Nat.zero_le _, rfl, fun j hj => by omega⟩
  case round =>
    obtain ⟨k, hk, rfl, hall⟩ := hrel
    have H := Lib.hid hall; clear hall
    by_cases hlt : k < l.length
    · obtain ⟨x, o, rfl, hc⟩ := HA.out k hlt
      clear HA
      obtain ⟨z0, z1⟩ := hb.at k
      go_wp2
      · go_ret
        refine ⟨?_, rfl⟩
        rw [plainN_at l k hlt H.out (by assumption)]
        rfl
      · go_round
        case rel =>
          refine ⟨k + 1, by omega, by go_num, fun j hj => ?_⟩
          by_cases e : j = k
          · subst e; assumption
          · exact H.out j (by omega)
        case measure => simp [intOf]; omega
    · clear HA
      go_wp2
      go_ret
      refine ⟨?_, rfl⟩
      rw [plainN_all l (fun j hj => H.out j (by omega))]
      rfl

/-- What is told of a count. -/
def cntV (l : List Int) : Value := match decS l with
  | some rs => .tuple #[.int .i64 rs.length, .int .i64 0]
  | none => .tuple #[.int .i64 0, .int .i64 2]

set_option maxHeartbeats 1000000 in
theorem count_any (v : Value) (l : List Int) (w : World) (h : RdI .u8 w v l) (hb : Bytes l) (hlen : l.length ≤ 1000000) :
    Calls Try.prog 17 #[v] w fun e w' => e = .returned (cntV l) ∧ Below w.heap.size w w' := by
  go_enter Try.func17, Try.ntmps17
  go_wp2
  go_loopw [0, 4] (fun b n wr => ∃ (rest : List Int) (c : Nat), RdI .u8 w b rest ∧ Bytes rest ∧ n = .int .i64 c ∧ Below w.heap.size w wr ∧ (decS l).map List.length = (decS rest).map (fun x => c + x.length) ∧ c + rest.length ≤ l.length) (fun b _ _ => lenOf b)
  case atStart => exact ⟨l, 0, h, hb, rfl, Below.refl _ _, by simp, by simp⟩
  case round =>
    obtain ⟨rest, c, hrd, hbt, rfl, hbel, hdec, hsum⟩ := hrel
    have hrd0 := hrd
    obtain ⟨a, ca, rfl, hla, hma, ha, hn⟩ := hrd
    have HD := Lib.hid hdec; clear hdec ha hn
    have hple := plainN_le rest
    by_cases hpos : 0 < rest.length
    · by_cases hpl : 0 < plainN rest
      · go_wp2_with (go_at_call 40; refine (plain_any _ _ _ (hrd0.below hbel) hbt).mono ?_; rintro e w1 ⟨rfl, rfl⟩)
        refine ⟨⟨rest.drop (plainN rest), c + plainN rest, rd_cut hrd0 hple, hbt.drop _, by go_num, hbel, ?_, by simp; omega⟩, by simp [lenOf]; omega⟩
        rw [HD.out, decS_plain (plainN rest) rest hple (plainN_lt rest), Option.map_map]
        congr 1
        funext x
        simp [Nat.min_eq_left hple]
        omega
      · rcases hf : fstS rest with _ | ⟨r, n⟩
        · have HF := Lib.hid hf; clear hf
          go_wp2_with (first
            | (go_at_call 40; refine (plain_any _ _ _ (hrd0.below hbel) hbt).mono ?_; rintro e w1 ⟨rfl, rfl⟩)
            | (go_at_call 18; refine (first_any _ _ _ (hrd0.below hbel) hbt).mono ?_; rintro e w1 ⟨rfl, hb1⟩; rw [HF.out, firstV_none]))
          go_ret2
          refine ⟨?_, hbel.trans (hb1.mono hbel.size)⟩
          have hd := HD.out
          rw [decS_none (by intro e; simp [e] at hpos) HF.out] at hd
          have : decS l = none := by
            cases h : decS l with
            | none => rfl
            | some y => rw [h] at hd; simp at hd
          rw [cntV, this]
          rfl
        · obtain ⟨q1, q2, q3, q4⟩ := fstS_bounds hf
          have q5 := q4 (hbt.at 0).1
          clear q4
          have HF := Lib.hid hf; clear hf
          go_wp2_with (first
            | (go_at_call 40; refine (plain_any _ _ _ (hrd0.below hbel) hbt).mono ?_; rintro e w1 ⟨rfl, rfl⟩)
            | (go_at_call 18; refine (first_any _ _ _ (hrd0.below hbel) hbt).mono ?_; rintro e w1 ⟨rfl, hb1⟩; rw [HF.out, firstV_some]))
          refine ⟨⟨rest.drop n, c + 1, rd_cut hrd0 q3, hbt.drop n, by go_num, hbel.trans (hb1.mono hbel.size), ?_, by simp; omega⟩, by simp [lenOf]; omega⟩
          rw [HD.out, decS_some (by intro e; simp [e] at hpos) HF.out, Option.map_map]
          congr 1
          funext x
          simp
          omega
    · go_wp2
      go_ret2
      obtain rfl : rest = [] := List.eq_nil_of_length_eq_zero (by omega)
      refine ⟨?_, hbel⟩
      have hd := HD.out
      rw [decS_nil] at hd
      rw [cntV]
      cases h : decS l with
      | none => rw [h] at hd; simp at hd
      | some y =>
        rw [h] at hd
        simp at hd
        subst hd
        rfl

set_option maxHeartbeats 400000 in
theorem right_any (v : Value) (l : List Int) (w : World) (h : RdI .u8 w v l) (hb : Bytes l) (hlen : l.length ≤ 1000000) :
    Calls Try.prog 21 #[v] w fun e w' => e = .returned (.bool (decS l).isSome) ∧ Below w.heap.size w w' := by
  cases hd : decS l with
  | none =>
    have hc : cntV l = .tuple #[.int .i64 0, .int .i64 2] := by rw [cntV, hd]
    have HC := Lib.hid hc; clear hc hd
    go_enter Try.func21, Try.ntmps21
    go_wp2_with (go_at_call 17; refine (count_any _ _ _ h hb hlen).mono ?_; rintro e w1 ⟨rfl, hb1⟩; rw [HC.out])
    go_ret
    exact ⟨rfl, hb1⟩
  | some rs =>
    have hc : cntV l = .tuple #[.int .i64 rs.length, .int .i64 0] := by rw [cntV, hd]
    have HC := Lib.hid hc; clear hc hd
    go_enter Try.func21, Try.ntmps21
    go_wp2_with (go_at_call 17; refine (count_any _ _ _ h hb hlen).mono ?_; rintro e w1 ⟨rfl, hb1⟩; rw [HC.out])
    go_ret
    exact ⟨rfl, hb1⟩
end Go.Proofs.Yticeogdagnogpaa
