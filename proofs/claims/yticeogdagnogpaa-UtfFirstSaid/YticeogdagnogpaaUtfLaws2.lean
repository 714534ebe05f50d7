/- What the calls of layer 1's other laws do: each returns true. -/
import Derived.Test.YticeogdagnogpaaUtfLaws
namespace Go.Proofs.Yticeogdagnogpaa
open Go.RowKit
set_option linter.unusedVariables false

theorem first_ok (v : Value) (l : List Int) (r : Int) (n : Nat) (w : World) (h : RdI .u8 w v l) (hb : Bytes l) (hf : fstS l = some (r, n)) :
    Calls Try.prog 18 #[v] w fun e w' => e = .returned (.tuple #[.int .i32 r, .int .i64 n, .int .i64 0]) ∧ Below w.heap.size w w' := by
  have := first_any v l w h hb
  rwa [hf] at this
theorem first_no (v : Value) (l : List Int) (w : World) (h : RdI .u8 w v l) (hb : Bytes l) (hf : fstS l = none) :
    Calls Try.prog 18 #[v] w fun e w' => e = .returned (.tuple #[.int .i32 0, .int .i64 0, .int .i64 2]) ∧ Below w.heap.size w w' := by
  have := first_any v l w h hb
  rwa [hf] at this
theorem ref_first_ok (v : Value) (l : List Int) (r : Int) (n : Nat) (w : World) (h : RdI .u8 w v l) (hb : Bytes l) (hf : fstS l = some (r, n)) :
    Calls Try.prog 19 #[v] w fun e w' => e = .returned (.tuple #[.int .i32 r, .int .i64 n, .int .i64 0]) ∧ Below w.heap.size w w' := by
  have := ref_first_any v l w h hb
  rwa [hf] at this
theorem ref_first_no (v : Value) (l : List Int) (w : World) (h : RdI .u8 w v l) (hb : Bytes l) (hf : fstS l = none) :
    Calls Try.prog 19 #[v] w fun e w' => e = .returned (.tuple #[.int .i32 0, .int .i64 0, .int .i64 2]) ∧ Below w.heap.size w w' := by
  have := ref_first_any v l w h hb
  rwa [hf] at this
theorem count_ok (v : Value) (l rs : List Int) (w : World) (h : RdI .u8 w v l) (hb : Bytes l) (hlen : l.length ≤ 1000000) (hd : decS l = some rs) :
    Calls Try.prog 17 #[v] w fun e w' => e = .returned (.tuple #[.int .i64 rs.length, .int .i64 0]) ∧ Below w.heap.size w w' := by
  have := count_any v l w h hb hlen
  rwa [cntV, hd] at this
theorem count_no (v : Value) (l : List Int) (w : World) (h : RdI .u8 w v l) (hb : Bytes l) (hlen : l.length ≤ 1000000) (hd : decS l = none) :
    Calls Try.prog 17 #[v] w fun e w' => e = .returned (.tuple #[.int .i64 0, .int .i64 2]) ∧ Below w.heap.size w w' := by
  have := count_any v l w h hb hlen
  rwa [cntV, hd] at this
theorem right_is (v : Value) (l : List Int) (b : Bool) (w : World) (h : RdI .u8 w v l) (hb : Bytes l) (hlen : l.length ≤ 1000000) (hd : (decS l).isSome = b) :
    Calls Try.prog 21 #[v] w fun e w' => e = .returned (.bool b) ∧ Below w.heap.size w w' := by
  have := right_any v l w h hb hlen
  rwa [hd] at this
theorem same_yes (v1 v2 : Value) (l : List Int) (w : World) (h1 : RdI .u8 w v1 l) (h2 : RdI .u8 w v2 l) :
    Calls Try.prog 22 #[v1, v2] w fun e w' => e = .returned (.bool true) ∧ Below w.heap.size w w' := by
  have := same_any v1 v2 l l w h1 h2
  rwa [decide_rfl] at this
theorem sameRunes_yes (v1 v2 : Value) (l : List Int) (w : World) (h1 : RdI .i32 w v1 l) (h2 : RdI .i32 w v2 l) :
    Calls Try.prog 20 #[v1, v2] w fun e w' => e = .returned (.bool true) ∧ Below w.heap.size w w' := by
  have := sameRunes_any v1 v2 l l w h1 h2
  rwa [decide_rfl] at this
theorem copy_rd (v : Value) (l : List Int) (w : World) (h : RdI .u8 w v l) (hlen : l.length ≤ 1000000) :
    Calls Try.prog 14 #[v] w fun e w' => ∃ a cap, e = .returned (.slice a l.length cap) ∧ w'.ownsRow w.heap.size 5 1 (.slice a l.length cap) l.length (l.map (Value.int .u8)) ∧ RdI .u8 w' (.slice a l.length cap) l ∧ Below w.heap.size w w' := by
  refine (copy_any v l w h hlen).mono ?_
  rintro e w1 ⟨v', rfl, hown, hb⟩
  have hrd := RdI.of_own hown
  obtain ⟨a, cap, rfl, _, _⟩ := rd_form hrd
  exact ⟨a, cap, rfl, hown, hrd, hb⟩

set_option maxHeartbeats 2000000 in
theorem law_decodes (v : Value) (l : List Int) (w : World) (h : RdI .u8 w v l) (hb : Bytes l) :
    Calls Try.prog 3 #[v] w fun e w' => e = .returned (.bool true) ∧ Below w.heap.size w w' := by
  have rb := h
  obtain ⟨a, cap, rfl, hla, hma, -, -⟩ := h
  unfold maxLen at hma
  by_cases h2 : 5000 < l.length
  · go_enter Try.func3, Try.ntmps3
    go_wp2_with (go_at_call 13; refine (alive01 _).mono ?_; rintro e w1 ⟨rfl, hb1⟩)
    go_ret
    exact ⟨rfl, hb1⟩
  have hlen : l.length ≤ 1000000 := by omega
  have HB := Below.refl w.heap.size w
  cases hd : decS l with
  | none =>
    rcases hf : fstS l with _ | ⟨r, n⟩
    · go_enter Try.func3, Try.ntmps3
      go_wp2_with fail
      refine (alive01 _).mono ?_
      rintro e w1 ⟨rfl, hb1⟩
      replace rb := rb.below hb1
      replace HB := below_then HB hb1
      clear hb1
      go_wp2_with fail
      refine (copy_rd _ l _ rb hlen).mono ?_
      rintro e w2 ⟨a2, c2, rfl, -, ro, hb2⟩
      replace rb := rb.below hb2
      replace HB := below_then HB hb2
      clear hb2
      go_wp2_with fail
      refine (decode_no _ l _ ro hb hlen hd).mono ?_
      rintro e w3 ⟨rfl, hb3⟩
      replace rb := rb.below hb3
      replace ro := ro.below hb3
      replace HB := below_then HB hb3
      clear hb3
      go_wp2_with fail
      refine (ref_decode_no _ l _ rb hb hlen hd).mono ?_
      rintro e w4 ⟨rfl, hb4⟩
      replace rb := rb.below hb4
      replace ro := ro.below hb4
      replace HB := below_then HB hb4
      clear hb4
      go_wp2_with fail
      refine (count_no _ l _ ro hb hlen hd).mono ?_
      rintro e w5 ⟨rfl, hb5⟩
      replace rb := rb.below hb5
      replace ro := ro.below hb5
      replace HB := below_then HB hb5
      clear hb5
      go_wp2_with fail
      refine (first_no _ l _ ro hb hf).mono ?_
      rintro e w6 ⟨rfl, hb6⟩
      replace rb := rb.below hb6
      replace ro := ro.below hb6
      replace HB := below_then HB hb6
      clear hb6
      go_wp2_with fail
      refine (ref_first_no _ l _ rb hb hf).mono ?_
      rintro e w7 ⟨rfl, hb7⟩
      replace rb := rb.below hb7
      replace ro := ro.below hb7
      replace HB := below_then HB hb7
      clear hb7
      go_wp2_with fail
      refine (sameRunes_yes _ _ [] _ RdI.nil RdI.nil).mono ?_
      rintro e w8 ⟨rfl, hb8⟩
      replace rb := rb.below hb8
      replace ro := ro.below hb8
      replace HB := below_then HB hb8
      clear hb8
      go_wp2_with fail
      refine (right_is _ l false _ ro hb hlen (by rw [hd]; rfl)).mono ?_
      rintro e w9 ⟨rfl, hb9⟩
      replace rb := rb.below hb9
      replace ro := ro.below hb9
      replace HB := below_then HB hb9
      clear hb9
      go_wp2_with fail
      refine (same_yes _ _ l _ ro rb).mono ?_
      rintro e wa ⟨rfl, hba⟩
      replace rb := rb.below hba
      replace ro := ro.below hba
      replace HB := below_then HB hba
      clear hba
      go_wp2
      go_ret
      exact ⟨rfl, HB⟩
    · go_enter Try.func3, Try.ntmps3
      go_wp2_with fail
      refine (alive01 _).mono ?_
      rintro e w1 ⟨rfl, hb1⟩
      replace rb := rb.below hb1
      replace HB := below_then HB hb1
      clear hb1
      go_wp2_with fail
      refine (copy_rd _ l _ rb hlen).mono ?_
      rintro e w2 ⟨a2, c2, rfl, -, ro, hb2⟩
      replace rb := rb.below hb2
      replace HB := below_then HB hb2
      clear hb2
      go_wp2_with fail
      refine (decode_no _ l _ ro hb hlen hd).mono ?_
      rintro e w3 ⟨rfl, hb3⟩
      replace rb := rb.below hb3
      replace ro := ro.below hb3
      replace HB := below_then HB hb3
      clear hb3
      go_wp2_with fail
      refine (ref_decode_no _ l _ rb hb hlen hd).mono ?_
      rintro e w4 ⟨rfl, hb4⟩
      replace rb := rb.below hb4
      replace ro := ro.below hb4
      replace HB := below_then HB hb4
      clear hb4
      go_wp2_with fail
      refine (count_no _ l _ ro hb hlen hd).mono ?_
      rintro e w5 ⟨rfl, hb5⟩
      replace rb := rb.below hb5
      replace ro := ro.below hb5
      replace HB := below_then HB hb5
      clear hb5
      go_wp2_with fail
      refine (first_ok _ l r n _ ro hb hf).mono ?_
      rintro e w6 ⟨rfl, hb6⟩
      replace rb := rb.below hb6
      replace ro := ro.below hb6
      replace HB := below_then HB hb6
      clear hb6
      go_wp2_with fail
      refine (ref_first_ok _ l r n _ rb hb hf).mono ?_
      rintro e w7 ⟨rfl, hb7⟩
      replace rb := rb.below hb7
      replace ro := ro.below hb7
      replace HB := below_then HB hb7
      clear hb7
      go_wp2_with fail
      refine (sameRunes_yes _ _ [] _ RdI.nil RdI.nil).mono ?_
      rintro e w8 ⟨rfl, hb8⟩
      replace rb := rb.below hb8
      replace ro := ro.below hb8
      replace HB := below_then HB hb8
      clear hb8
      go_wp2_with fail
      refine (right_is _ l false _ ro hb hlen (by rw [hd]; rfl)).mono ?_
      rintro e w9 ⟨rfl, hb9⟩
      replace rb := rb.below hb9
      replace ro := ro.below hb9
      replace HB := below_then HB hb9
      clear hb9
      go_wp2_with fail
      refine (same_yes _ _ l _ ro rb).mono ?_
      rintro e wa ⟨rfl, hba⟩
      replace rb := rb.below hba
      replace ro := ro.below hba
      replace HB := below_then HB hba
      clear hba
      go_wp2
      go_ret
      exact ⟨rfl, HB⟩
  | some rs =>
    rcases hf : fstS l with _ | ⟨r, n⟩
    · go_enter Try.func3, Try.ntmps3
      go_wp2_with fail
      refine (alive01 _).mono ?_
      rintro e w1 ⟨rfl, hb1⟩
      replace rb := rb.below hb1
      replace HB := below_then HB hb1
      clear hb1
      go_wp2_with fail
      refine (copy_rd _ l _ rb hlen).mono ?_
      rintro e w2 ⟨a2, c2, rfl, -, ro, hb2⟩
      replace rb := rb.below hb2
      replace HB := below_then HB hb2
      clear hb2
      go_wp2_with fail
      refine (decode_ok _ l rs _ ro hb hlen hd).mono ?_
      rintro e w3 ⟨a3, c3, rfl, hb3, rl⟩
      replace rb := rb.below hb3
      replace ro := ro.below hb3
      replace HB := below_then HB hb3
      clear hb3
      go_wp2_with fail
      refine (ref_decode_ok _ l rs _ rb hb hlen hd).mono ?_
      rintro e w4 ⟨a4, c4, rfl, hb4, rm⟩
      replace rb := rb.below hb4
      replace ro := ro.below hb4
      replace rl := rl.below hb4
      replace HB := below_then HB hb4
      clear hb4
      go_wp2_with fail
      refine (count_ok _ l rs _ ro hb hlen hd).mono ?_
      rintro e w5 ⟨rfl, hb5⟩
      replace rb := rb.below hb5
      replace ro := ro.below hb5
      replace rl := rl.below hb5
      replace rm := rm.below hb5
      replace HB := below_then HB hb5
      clear hb5
      go_wp2_with fail
      refine (first_no _ l _ ro hb hf).mono ?_
      rintro e w6 ⟨rfl, hb6⟩
      replace rb := rb.below hb6
      replace ro := ro.below hb6
      replace rl := rl.below hb6
      replace rm := rm.below hb6
      replace HB := below_then HB hb6
      clear hb6
      go_wp2_with fail
      refine (ref_first_no _ l _ rb hb hf).mono ?_
      rintro e w7 ⟨rfl, hb7⟩
      replace rb := rb.below hb7
      replace ro := ro.below hb7
      replace rl := rl.below hb7
      replace rm := rm.below hb7
      replace HB := below_then HB hb7
      clear hb7
      go_wp2_with fail
      refine (sameRunes_yes _ _ rs _ rl rm).mono ?_
      rintro e w8 ⟨rfl, hb8⟩
      replace rb := rb.below hb8
      replace ro := ro.below hb8
      replace rl := rl.below hb8
      replace rm := rm.below hb8
      replace HB := below_then HB hb8
      clear hb8
      go_wp2_with fail
      refine (right_is _ l true _ ro hb hlen (by rw [hd]; rfl)).mono ?_
      rintro e w9 ⟨rfl, hb9⟩
      replace rb := rb.below hb9
      replace ro := ro.below hb9
      replace rl := rl.below hb9
      replace rm := rm.below hb9
      replace HB := below_then HB hb9
      clear hb9
      go_wp2_with fail
      refine (same_yes _ _ l _ ro rb).mono ?_
      rintro e wa ⟨rfl, hba⟩
      replace rb := rb.below hba
      replace ro := ro.below hba
      replace rl := rl.below hba
      replace rm := rm.below hba
      replace HB := below_then HB hba
      clear hba
      go_wp2
      go_ret
      exact ⟨rfl, HB⟩
    · go_enter Try.func3, Try.ntmps3
      go_wp2_with fail
      refine (alive01 _).mono ?_
      rintro e w1 ⟨rfl, hb1⟩
      replace rb := rb.below hb1
      replace HB := below_then HB hb1
      clear hb1
      go_wp2_with fail
      refine (copy_rd _ l _ rb hlen).mono ?_
      rintro e w2 ⟨a2, c2, rfl, -, ro, hb2⟩
      replace rb := rb.below hb2
      replace HB := below_then HB hb2
      clear hb2
      go_wp2_with fail
      refine (decode_ok _ l rs _ ro hb hlen hd).mono ?_
      rintro e w3 ⟨a3, c3, rfl, hb3, rl⟩
      replace rb := rb.below hb3
      replace ro := ro.below hb3
      replace HB := below_then HB hb3
      clear hb3
      go_wp2_with fail
      refine (ref_decode_ok _ l rs _ rb hb hlen hd).mono ?_
      rintro e w4 ⟨a4, c4, rfl, hb4, rm⟩
      replace rb := rb.below hb4
      replace ro := ro.below hb4
      replace rl := rl.below hb4
      replace HB := below_then HB hb4
      clear hb4
      go_wp2_with fail
      refine (count_ok _ l rs _ ro hb hlen hd).mono ?_
      rintro e w5 ⟨rfl, hb5⟩
      replace rb := rb.below hb5
      replace ro := ro.below hb5
      replace rl := rl.below hb5
      replace rm := rm.below hb5
      replace HB := below_then HB hb5
      clear hb5
      go_wp2_with fail
      refine (first_ok _ l r n _ ro hb hf).mono ?_
      rintro e w6 ⟨rfl, hb6⟩
      replace rb := rb.below hb6
      replace ro := ro.below hb6
      replace rl := rl.below hb6
      replace rm := rm.below hb6
      replace HB := below_then HB hb6
      clear hb6
      go_wp2_with fail
      refine (ref_first_ok _ l r n _ rb hb hf).mono ?_
      rintro e w7 ⟨rfl, hb7⟩
      replace rb := rb.below hb7
      replace ro := ro.below hb7
      replace rl := rl.below hb7
      replace rm := rm.below hb7
      replace HB := below_then HB hb7
      clear hb7
      go_wp2_with fail
      refine (sameRunes_yes _ _ rs _ rl rm).mono ?_
      rintro e w8 ⟨rfl, hb8⟩
      replace rb := rb.below hb8
      replace ro := ro.below hb8
      replace rl := rl.below hb8
      replace rm := rm.below hb8
      replace HB := below_then HB hb8
      clear hb8
      go_wp2_with fail
      refine (right_is _ l true _ ro hb hlen (by rw [hd]; rfl)).mono ?_
      rintro e w9 ⟨rfl, hb9⟩
      replace rb := rb.below hb9
      replace ro := ro.below hb9
      replace rl := rl.below hb9
      replace rm := rm.below hb9
      replace HB := below_then HB hb9
      clear hb9
      go_wp2_with fail
      refine (same_yes _ _ l _ ro rb).mono ?_
      rintro e wa ⟨rfl, hba⟩
      replace rb := rb.below hba
      replace ro := ro.below hba
      replace rl := rl.below hba
      replace rm := rm.below hba
      replace HB := below_then HB hba
      clear hba
      go_wp2
      go_ret
      exact ⟨rfl, HB⟩

set_option maxHeartbeats 2000000 in
theorem law_back (v : Value) (l : List Int) (v2 : Value) (b : List Int) (w : World) (h : RdI .i32 w v l) (hwf : ∀ n ∈ l, (Lit.int .i32 n).wf = true) (h2 : RdI .u8 w v2 b) (hb : Bytes b) :
    Calls Try.prog 5 #[v, v2] w fun e w' => e = .returned (.bool true) ∧ Below w.heap.size w w' := by
  have rl := h
  have rb := h2
  obtain ⟨a, cap, rfl, hla, hma, -, -⟩ := h
  obtain ⟨a', cap', rfl, hla', hma', -, -⟩ := h2
  unfold maxLen at hma hma'
  by_cases g1 : 2000 < l.length
  · go_enter Try.func5, Try.ntmps5
    go_wp2_with (go_at_call 13; refine (alive01 _).mono ?_; rintro e w1 ⟨rfl, hb1⟩)
    go_ret
    exact ⟨rfl, hb1⟩
  by_cases g2 : 5000 < b.length
  · go_enter Try.func5, Try.ntmps5
    go_wp2_with (go_at_call 13; refine (alive01 _).mono ?_; rintro e w1 ⟨rfl, hb1⟩)
    go_ret
    exact ⟨rfl, hb1⟩
  have hlen : l.length ≤ 1000000 := by omega
  have hlenb : b.length ≤ 1000000 := by omega
  have HB := Below.refl w.heap.size w
  cases he : encS l with
  | none =>
    cases hd : decS b with
    | none =>
      go_enter Try.func5, Try.ntmps5
      go_wp2_with fail
      refine (alive01 _).mono ?_
      rintro e w1 ⟨rfl, hb1⟩
      replace rb := rb.below hb1
      replace rl := rl.below hb1
      replace HB := below_then HB hb1
      clear hb1
      go_wp2_with fail
      refine (encode_no _ l _ rl hlen he).mono ?_
      rintro e w2 ⟨rfl, hb2⟩
      replace rb := rb.below hb2
      replace rl := rl.below hb2
      replace HB := below_then HB hb2
      clear hb2
      go_wp2_with fail
      refine (decode_no _ b _ rb hb hlenb hd).mono ?_
      rintro e w5 ⟨rfl, hb5⟩
      replace HB := below_then HB hb5
      clear hb5
      go_wp2
      go_ret
      exact ⟨rfl, HB⟩
    | some m =>
      have hed := enc_dec b.length b m (Nat.le_refl _) hb hd
      have hms := decS_short b.length (Nat.le_refl _) hd
      go_enter Try.func5, Try.ntmps5
      go_wp2_with fail
      refine (alive01 _).mono ?_
      rintro e w1 ⟨rfl, hb1⟩
      replace rb := rb.below hb1
      replace rl := rl.below hb1
      replace HB := below_then HB hb1
      clear hb1
      go_wp2_with fail
      refine (encode_no _ l _ rl hlen he).mono ?_
      rintro e w2 ⟨rfl, hb2⟩
      replace rb := rb.below hb2
      replace rl := rl.below hb2
      replace HB := below_then HB hb2
      clear hb2
      go_wp2_with fail
      refine (decode_ok _ b m _ rb hb hlenb hd).mono ?_
      rintro e w5 ⟨a5, c5, rfl, hb5, rm5⟩
      replace rb := rb.below hb5
      replace HB := below_then HB hb5
      clear hb5
      go_wp2_with fail
      refine (encode_ok _ m b _ rm5 (by omega) hed).mono ?_
      rintro e w6 ⟨a6, c6, rfl, hb6, rd6⟩
      replace rb := rb.below hb6
      replace HB := below_then HB hb6
      clear hb6
      go_wp2_with fail
      refine (same_yes _ _ b _ rb rd6).mono ?_
      rintro e w7 ⟨rfl, hb7⟩
      replace HB := below_then HB hb7
      clear hb7
      go_wp2
      go_ret
      exact ⟨rfl, HB⟩
  | some bs =>
    have hes := encS_short he
    have heb := encS_bytes he
    have hde := dec_enc l bs he
    cases hd : decS b with
    | none =>
      go_enter Try.func5, Try.ntmps5
      go_wp2_with fail
      refine (alive01 _).mono ?_
      rintro e w1 ⟨rfl, hb1⟩
      replace rb := rb.below hb1
      replace rl := rl.below hb1
      replace HB := below_then HB hb1
      clear hb1
      go_wp2_with fail
      refine (encode_ok _ l bs _ rl hlen he).mono ?_
      rintro e w2 ⟨a2, c2, rfl, hb2, rc⟩
      replace rb := rb.below hb2
      replace rl := rl.below hb2
      replace HB := below_then HB hb2
      clear hb2
      go_wp2_with fail
      refine (decode_ok _ bs l _ rc heb (by omega) hde).mono ?_
      rintro e w3 ⟨a3, c3, rfl, hb3, rm⟩
      replace rb := rb.below hb3
      replace rl := rl.below hb3
      replace HB := below_then HB hb3
      clear hb3
      go_wp2_with fail
      refine (sameRunes_yes _ _ l _ rl rm).mono ?_
      rintro e w4 ⟨rfl, hb4⟩
      replace rb := rb.below hb4
      replace HB := below_then HB hb4
      clear hb4
      go_wp2_with fail
      refine (decode_no _ b _ rb hb hlenb hd).mono ?_
      rintro e w5 ⟨rfl, hb5⟩
      replace HB := below_then HB hb5
      clear hb5
      go_wp2
      go_ret
      exact ⟨rfl, HB⟩
    | some m =>
      have hed := enc_dec b.length b m (Nat.le_refl _) hb hd
      have hms := decS_short b.length (Nat.le_refl _) hd
      go_enter Try.func5, Try.ntmps5
      go_wp2_with fail
      refine (alive01 _).mono ?_
      rintro e w1 ⟨rfl, hb1⟩
      replace rb := rb.below hb1
      replace rl := rl.below hb1
      replace HB := below_then HB hb1
      clear hb1
      go_wp2_with fail
      refine (encode_ok _ l bs _ rl hlen he).mono ?_
      rintro e w2 ⟨a2, c2, rfl, hb2, rc⟩
      replace rb := rb.below hb2
      replace rl := rl.below hb2
      replace HB := below_then HB hb2
      clear hb2
      go_wp2_with fail
      refine (decode_ok _ bs l _ rc heb (by omega) hde).mono ?_
      rintro e w3 ⟨a3, c3, rfl, hb3, rm⟩
      replace rb := rb.below hb3
      replace rl := rl.below hb3
      replace HB := below_then HB hb3
      clear hb3
      go_wp2_with fail
      refine (sameRunes_yes _ _ l _ rl rm).mono ?_
      rintro e w4 ⟨rfl, hb4⟩
      replace rb := rb.below hb4
      replace HB := below_then HB hb4
      clear hb4
      go_wp2_with fail
      refine (decode_ok _ b m _ rb hb hlenb hd).mono ?_
      rintro e w5 ⟨a5, c5, rfl, hb5, rm5⟩
      replace rb := rb.below hb5
      replace HB := below_then HB hb5
      clear hb5
      go_wp2_with fail
      refine (encode_ok _ m b _ rm5 (by omega) hed).mono ?_
      rintro e w6 ⟨a6, c6, rfl, hb6, rd6⟩
      replace rb := rb.below hb6
      replace HB := below_then HB hb6
      clear hb6
      go_wp2_with fail
      refine (same_yes _ _ b _ rb rd6).mono ?_
      rintro e w7 ⟨rfl, hb7⟩
      replace HB := below_then HB hb7
      clear hb7
      go_wp2
      go_ret
      exact ⟨rfl, HB⟩
end Go.Proofs.Yticeogdagnogpaa
