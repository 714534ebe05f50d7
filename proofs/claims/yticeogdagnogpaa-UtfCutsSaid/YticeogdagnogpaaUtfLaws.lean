/- What the calls of layer 1's laws do: each returns true. -/
import Derived.Test.YticeogdagnogpaaUtfLawLower
import Derived.Test.YticeogdagnogpaaUtfCount
import Derived.Test.YticeogdagnogpaaUtfMath
namespace Go.Proofs.Yticeogdagnogpaa
open Go.RowKit
set_option linter.unusedVariables false

def OkV (B : Nat) (w : World) (K : IntKind) (rs : List Int) (e : Ending) (w' : World) : Prop :=
  ∃ a cap, e = .returned (.tuple #[.slice a rs.length cap, .int .i64 0]) ∧ Below B w w' ∧ RdI K w' (.slice a rs.length cap) rs

theorem rd_form {K : IntKind} {w : World} {v : Value} {zs : List Int} (h : RdI K w v zs) : ∃ a cap, v = .slice a zs.length cap ∧ (a = none → cap = 0) ∧ ∀ k, k < zs.length → ∃ x o, a = some ⟨x, o, none⟩ ∧ w.cell? ⟨x, o + k, none⟩ = some (.int K (at0 zs k)) := by
  obtain ⟨a, cap, rfl, _, _, h3, h4⟩ := h
  exact ⟨a, cap, rfl, h4, h3⟩

theorem decode_ok (v : Value) (l rs : List Int) (w : World) (h : RdI .u8 w v l) (hb : Bytes l) (hlen : l.length ≤ 1000000) (hd : decS l = some rs) :
    Calls Try.prog 15 #[v] w (OkV w.heap.size w .i32 rs) := by
  refine (decode_any v l w h hb hlen).mono ?_
  rintro e w1 ⟨v, c, rfl, hb1, ⟨rs', hr, rfl, _, hown⟩ | ⟨hr, _⟩⟩
  · rw [hd] at hr
    cases hr
    have hrd := RdI.of_own hown
    obtain ⟨a, cap, rfl, _, _⟩ := rd_form hrd
    exact ⟨a, cap, rfl, hb1, hrd⟩
  · rw [hd] at hr; cases hr
theorem decode_no (v : Value) (l : List Int) (w : World) (h : RdI .u8 w v l) (hb : Bytes l) (hlen : l.length ≤ 1000000) (hd : decS l = none) :
    Calls Try.prog 15 #[v] w fun e w' => e = .returned (.tuple #[.slice none 0 0, .int .i64 2]) ∧ Below w.heap.size w w' := by
  refine (decode_any v l w h hb hlen).mono ?_
  rintro e w1 ⟨v, c, rfl, hb1, ⟨rs', hr, _⟩ | ⟨hr, rfl, rfl⟩⟩
  · rw [hd] at hr; cases hr
  · exact ⟨rfl, hb1⟩
theorem ref_decode_ok (v : Value) (l rs : List Int) (w : World) (h : RdI .u8 w v l) (hb : Bytes l) (hlen : l.length ≤ 1000000) (hd : decS l = some rs) :
    Calls Try.prog 16 #[v] w (OkV w.heap.size w .i32 rs) := by
  refine (ref_decode_any v l w h hb hlen).mono ?_
  rintro e w1 ⟨v, c, rfl, hb1, ⟨rs', hr, rfl, _, hown⟩ | ⟨hr, _⟩⟩
  · rw [hd] at hr
    cases hr
    have hrd := RdI.of_own hown
    obtain ⟨a, cap, rfl, _, _⟩ := rd_form hrd
    exact ⟨a, cap, rfl, hb1, hrd⟩
  · rw [hd] at hr; cases hr
theorem ref_decode_no (v : Value) (l : List Int) (w : World) (h : RdI .u8 w v l) (hb : Bytes l) (hlen : l.length ≤ 1000000) (hd : decS l = none) :
    Calls Try.prog 16 #[v] w fun e w' => e = .returned (.tuple #[.slice none 0 0, .int .i64 2]) ∧ Below w.heap.size w w' := by
  refine (ref_decode_any v l w h hb hlen).mono ?_
  rintro e w1 ⟨v, c, rfl, hb1, ⟨rs', hr, _⟩ | ⟨hr, rfl, rfl⟩⟩
  · rw [hd] at hr; cases hr
  · exact ⟨rfl, hb1⟩
theorem encode_ok (v : Value) (l bs : List Int) (w : World) (h : RdI .i32 w v l) (hlen : l.length ≤ 1000000) (hd : encS l = some bs) :
    Calls Try.prog 23 #[v] w (OkV w.heap.size w .u8 bs) := by
  refine (encode_any v l w h hlen).mono ?_
  rintro e w1 ⟨v, c, rfl, hb1, ⟨rs', hr, rfl, _, _, hown⟩ | ⟨hr, _⟩⟩
  · rw [hd] at hr
    cases hr
    have hrd := RdI.of_own hown
    obtain ⟨a, cap, rfl, _, _⟩ := rd_form hrd
    exact ⟨a, cap, rfl, hb1, hrd⟩
  · rw [hd] at hr; cases hr
theorem encode_no (v : Value) (l : List Int) (w : World) (h : RdI .i32 w v l) (hlen : l.length ≤ 1000000) (hd : encS l = none) :
    Calls Try.prog 23 #[v] w fun e w' => e = .returned (.tuple #[.slice none 0 0, .int .i64 2]) ∧ Below w.heap.size w w' := by
  refine (encode_any v l w h hlen).mono ?_
  rintro e w1 ⟨v, c, rfl, hb1, ⟨rs', hr, _⟩ | ⟨hr, rfl, rfl⟩⟩
  · rw [hd] at hr; cases hr
  · exact ⟨rfl, hb1⟩
theorem ref_encode_ok (v : Value) (l bs : List Int) (w : World) (h : RdI .i32 w v l) (hlen : l.length ≤ 1000000) (hd : encS l = some bs) :
    Calls Try.prog 24 #[v] w (OkV w.heap.size w .u8 bs) := by
  refine (ref_encode_any v l w h hlen).mono ?_
  rintro e w1 ⟨v, c, rfl, hb1, ⟨rs', hr, rfl, _, _, hown⟩ | ⟨hr, _⟩⟩
  · rw [hd] at hr
    cases hr
    have hrd := RdI.of_own hown
    obtain ⟨a, cap, rfl, _, _⟩ := rd_form hrd
    exact ⟨a, cap, rfl, hb1, hrd⟩
  · rw [hd] at hr; cases hr
theorem ref_encode_no (v : Value) (l : List Int) (w : World) (h : RdI .i32 w v l) (hlen : l.length ≤ 1000000) (hd : encS l = none) :
    Calls Try.prog 24 #[v] w fun e w' => e = .returned (.tuple #[.slice none 0 0, .int .i64 2]) ∧ Below w.heap.size w w' := by
  refine (ref_encode_any v l w h hlen).mono ?_
  rintro e w1 ⟨v, c, rfl, hb1, ⟨rs', hr, _⟩ | ⟨hr, rfl, rfl⟩⟩
  · rw [hd] at hr; cases hr
  · exact ⟨rfl, hb1⟩
theorem encS_short {l bs : List Int} (h : encS l = some bs) : bs.length ≤ 4 * l.length := by
  induction l generalizing bs with
  | nil => cases h; simp
  | cons r t ih =>
    simp only [encS] at h
    split at h
    · cases ht : encS t with
      | none => rw [ht] at h; cases h
      | some ts =>
        rw [ht] at h
        cases h
        have := ih ht
        have := encI_len r
        simp
        omega
    · cases h
theorem encS_bytes {l bs : List Int} (h : encS l = some bs) : Bytes bs := by
  induction l generalizing bs with
  | nil => cases h; intro x hx; cases hx
  | cons r t ih =>
    simp only [encS] at h
    split at h
    · rename_i hr
      cases ht : encS t with
      | none => rw [ht] at h; cases h
      | some ts =>
        rw [ht] at h
        cases h
        exact (encI_bytes (isRune_range hr).1 (isRune_range hr).2).append (ih ht)
    · cases h
theorem decS_short (n : Nat) : ∀ {l rs : List Int}, l.length ≤ n → decS l = some rs → rs.length ≤ l.length := by
  induction n with
  | zero =>
    intro l rs hn h
    obtain rfl : l = [] := List.eq_nil_of_length_eq_zero (by omega)
    rw [decS_nil] at h; cases h; simp
  | succ n ih =>
    intro l rs hn h
    by_cases he : l = []
    · subst he; rw [decS_nil] at h; cases h; simp
    · obtain ⟨r, k, m, hf, hd, rfl⟩ := dec_first he h
      have hk := fstS_bounds hf
      have := ih (l := l.drop k) (by simp; omega) hd
      simp only [List.length_drop] at this
      simp
      omega
theorem decide_rfl (l : List Int) : decide (l = l) = true := by simp

set_option maxHeartbeats 1000000 in
theorem law_encodes (v : Value) (l : List Int) (w : World) (h : RdI .i32 w v l) (hwf : ∀ n ∈ l, (Lit.int .i32 n).wf = true) :
    Calls Try.prog 4 #[v] w fun e w' => e = .returned (.bool true) ∧ Below w.heap.size w w' := by
  have h0 := h
  obtain ⟨a, cap, rfl, hla, hma, -, -⟩ := h
  unfold maxLen at hma
  by_cases h2 : 2000 < l.length
  · go_enter Try.func4, Try.ntmps4
    go_wp2_with (go_at_call 13; refine (alive01 _).mono ?_; rintro e w1 ⟨rfl, hb1⟩)
    go_ret
    exact ⟨rfl, hb1⟩
  go_enter Try.func4, Try.ntmps4
  go_wp2_with fail
  refine (alive01 _).mono ?_
  rintro e w1 ⟨rfl, HB⟩
  cases he : encS l with
  | none =>
    go_wp2_with fail
    refine (encode_no _ l _ (h0.below HB) (by omega) he).mono ?_
    rintro e w2 ⟨rfl, hb2⟩
    have HB2 := below_then HB hb2; clear hb2 HB
    go_wp2_with fail
    refine (ref_encode_no _ l _ (h0.below HB2) (by omega) he).mono ?_
    rintro e w3 ⟨rfl, hb3⟩
    have HB3 := below_then HB2 hb3; clear hb3 HB2
    have hs := same_any (.slice none 0 0) (.slice none 0 0) [] [] w3 RdI.nil RdI.nil
    rw [decide_rfl] at hs
    have HS := Lib.hid hs; clear hs
    go_wp2_with (go_at_call 22; refine HS.out.mono ?_; rintro e w4 ⟨rfl, hb4⟩)
    go_ret
    exact ⟨rfl, below_then HB3 hb4⟩
  | some bs =>
    go_wp2_with fail
    refine (encode_ok _ l bs _ (h0.below HB) (by omega) he).mono ?_
    rintro e w2 ⟨a2, c2, rfl, hb2, hr2⟩
    have HB2 := below_then HB hb2; clear hb2 HB
    go_wp2_with fail
    refine (ref_encode_ok _ l bs _ (h0.below HB2) (by omega) he).mono ?_
    rintro e w3 ⟨a3, c3, rfl, hb3, hr3⟩
    have HB3 := below_then HB2 hb3
    have hr2' := hr2.below hb3
    clear hb3 HB2 hr2
    go_wp2_with fail
    refine (same_any _ _ bs bs _ hr2' hr3).mono ?_
    rintro e w4 ⟨rfl, hb4⟩
    rw [decide_rfl]
    go_wp2
    go_ret
    exact ⟨rfl, below_then HB3 hb4⟩
end Go.Proofs.Yticeogdagnogpaa
