/- Layer 5 (ids): no text is a name of two kinds: what the law's call does. -/
import Derived.Test.YtibkkdbjmcongaaDoorIdsD
namespace Go.Proofs.YtibkkdbjmcongaaDoor
open Go.RowKit
set_option linter.unusedVariables false

theorem made_len {l : List Int} {most : Int} {K : Int → Bool} (h : madeI l most K = true) : 1 ≤ l.length ∧ (l.length : Int) ≤ most ∧ l.all K = true := by
  simp only [madeI, Bool.and_eq_true, decide_eq_true_eq] at h
  exact ⟨h.1, h.2.1, h.2.2⟩
theorem col_le (l : List Int) : colI l ≤ l.length := List.findIdx_le_length
theorem server_len {l : List Int} (h : serverL l = true) : 1 ≤ l.length ∧ l.length ≤ 236 ∧ ∃ c, l.head? = some c ∧ hostI c = true := by
  simp only [serverL, Bool.and_eq_true, Bool.or_eq_true, decide_eq_true_eq] at h
  obtain ⟨h1, h2⟩ := h
  have hc := col_le l
  simp only [hostL, Bool.and_eq_true] at h2
  obtain ⟨n1, n2, n3⟩ := made_len h2.1
  rw [List.length_take] at n1 n2
  have hlen : l.length ≤ 236 := by
    rcases h1 with h1 | h1
    · omega
    · obtain ⟨-, m2, -⟩ := made_len h1
      rw [List.length_drop] at m2
      omega
  refine ⟨by omega, hlen, ?_⟩
  cases l with
  | nil => simp at n1
  | cons x r =>
    refine ⟨x, rfl, ?_⟩
    cases hq : colI (x :: r) with
    | zero => rw [hq] at n1; simp at n1
    | succ k =>
      rw [hq, List.take_succ_cons, List.all_cons] at n3
      simp only [Bool.and_eq_true] at n3
      exact n3.1
theorem named_len {l : List Int} {sigil most : Int} {K : Int → Bool} (h : namedL l sigil most K = true) : l.length ≤ 255 ∧ l.head? = some sigil := by
  simp only [namedL, Bool.and_eq_true, decide_eq_true_eq] at h
  exact ⟨h.1, by simpa using h.2.1⟩
theorem event_len {s : ByteArray} (h : eventS s = true) : s.size = 44 ∧ (sb s).head? = some 36 := by
  simp only [eventS, Bool.and_eq_true, decide_eq_true_eq] at h
  exact ⟨h.1, by simpa using h.2.1⟩
/-- One kind at most; a name has 1 to 255 bytes. -/
theorem kinds (s : ByteArray) : (serverL (sb s) = false ∧ userL (sb s) = false ∧ roomL (sb s) = false ∧ eventS s = false) ∨
    ((1 ≤ s.size ∧ s.size ≤ 255) ∧ ((serverL (sb s) = true ∧ userL (sb s) = false ∧ roomL (sb s) = false ∧ eventS s = false) ∨
      (serverL (sb s) = false ∧ userL (sb s) = true ∧ roomL (sb s) = false ∧ eventS s = false) ∨
      (serverL (sb s) = false ∧ userL (sb s) = false ∧ roomL (sb s) = true ∧ eventS s = false) ∨
      (serverL (sb s) = false ∧ userL (sb s) = false ∧ roomL (sb s) = false ∧ eventS s = true))) := by
  have hl := sb_length s
  have ne : ∀ {c d : Int}, (sb s).head? = some c → (sb s).head? = some d → c = d := fun h k => by rw [h] at k; exact Option.some.inj k
  have h64 : hostI 64 = false := by decide
  have h33 : hostI 33 = false := by decide
  have h36 : hostI 36 = false := by decide
  have pos : ∀ {c : Int}, (sb s).head? = some c → 1 ≤ s.size := fun h => by
    rw [← hl]
    cases hq : sb s with
    | nil => rw [hq] at h; cases h
    | cons x r => simp
  cases hA : serverL (sb s)
  · cases hB : userL (sb s)
    · cases hC : roomL (sb s)
      · cases hD : eventS s
        · simp
        · have := event_len hD
          right; simp; omega
      · have c := named_len hC
        have hD : eventS s = false := by
          cases hD : eventS s
          · rfl
          · have := ne c.2 (event_len hD).2; omega
        have := pos c.2
        right; simp [hD]; omega
    · have b := named_len hB
      have hC : roomL (sb s) = false := by
        cases hC : roomL (sb s)
        · rfl
        · have := ne b.2 (named_len hC).2; omega
      have hD : eventS s = false := by
        cases hD : eventS s
        · rfl
        · have := ne b.2 (event_len hD).2; omega
      have := pos b.2
      right; simp [hC, hD]; omega
  · obtain ⟨a1, a2, c, a3, a4⟩ := server_len hA
    have hB : userL (sb s) = false := by
      cases hB : userL (sb s)
      · rfl
      · have := ne a3 (named_len hB).2; rw [this, h64] at a4; cases a4
    have hC : roomL (sb s) = false := by
      cases hC : roomL (sb s)
      · rfl
      · have := ne a3 (named_len hC).2; rw [this, h33] at a4; cases a4
    have hD : eventS s = false := by
      cases hD : eventS s
      · rfl
      · have := ne a3 (event_len hD).2; rw [this, h36] at a4; cases a4
    right; simp [hB, hC, hD]; omega

def cntB (l : List Bool) (k : Nat) : Nat := ((l.take k).filter id).length
set_option maxHeartbeats 1000000 in
theorem kinds_walk (s : ByteArray) (A B C D : Bool) (w : World) (hm : MaxC w) (hs : s.size ≤ 2000) (hA : serverL (sb s) = A) (hB : userL (sb s) = B) (hC : roomL (sb s) = C) (hD : eventS s = D)
    (hn : (cntB [A, B, C, D] 4 = 0) ∨ (cntB [A, B, C, D] 4 = 1 ∧ 1 ≤ s.size ∧ s.size ≤ 255)) :
    Calls Tryd.prog 4 #[.string s] w fun e w' => e = .returned (.bool true) ∧ Below w.heap.size w w' := by
  have hs' : s.size ≤ 1000000 := by omega
  have HB := Below.refl w.heap.size w
  have cA := fun w1 (h : MaxC w1) => server_is s A w1 h hs' hA
  have cB := fun w1 (h : MaxC w1) => user_is s B w1 h hs' hB
  have cC := fun w1 (h : MaxC w1) => room_is s C w1 h hs' hC
  have cD := fun w1 => event_is s D w1 hs' hD
  clear hA hB hC hD
  have HN := Lib.hid hn; clear hn
  go_enter Tryd.func4, Tryd.ntmps4
  go_wp2_with fail
  refine (alive05 w hm).mono ?_
  rintro e w1 ⟨rfl, hb1⟩
  replace hm := hm.below hb1
  replace HB := below_then HB hb1
  clear hb1
  go_wp2
  go_loopw [3, 4] (fun n i wr => ∃ k : Nat, k ≤ 4 ∧ i = .int .i64 k ∧ n = .int .i64 (cntB [A, B, C, D] k) ∧ MaxC wr ∧ Below w.heap.size w wr) (fun _ i _ => 4 - (intOf i).toNat)
  case atStart => exact ⟨0, Nat.zero_le _, rfl, rfl, hm, HB⟩
  case round =>
    clear hm HB
    obtain ⟨k, hk, rfl, rfl, hm, HB⟩ := hrel
    by_cases hlt : k < 4
    · obtain rfl | rfl | rfl | rfl : k = 0 ∨ k = 1 ∨ k = 2 ∨ k = 3 := by omega
      · have hc : cntB [A, B, C, D] 0 ≤ 4 := by cases A <;> cases B <;> cases C <;> cases D <;> decide
        have hq : cntB [A, B, C, D] 1 = cntB [A, B, C, D] 0 + if A = true then 1 else 0 := by cases A <;> cases B <;> cases C <;> cases D <;> decide
        generalize cntB [A, B, C, D] 0 = n0 at *
        have HQ := Lib.hid hq; clear hq
        have HL := Lib.hid (rfl : A = A)
        go_wp2_with fail
        refine (cA _ hm).mono ?_
        rintro e w2 ⟨rfl, hb2⟩
        replace hm := hm.below hb2
        replace HB := below_then HB hb2
        clear hb2
        go_wp2_with fail
        refine (cB _ hm).mono ?_
        rintro e w3 ⟨rfl, hb2⟩
        replace hm := hm.below hb2
        replace HB := below_then HB hb2
        clear hb2
        go_wp2_with fail
        refine (cC _ hm).mono ?_
        rintro e w4 ⟨rfl, hb2⟩
        replace hm := hm.below hb2
        replace HB := below_then HB hb2
        clear hb2
        go_wp2_with fail
        refine (cD _).mono ?_
        rintro e w5 ⟨rfl, hb2⟩
        replace hm := hm.below hb2
        replace HB := below_then HB hb2
        clear hb2
        go_wp2
        · have h : A = true := by assumption
          refine ⟨⟨1, by omega, rfl, ?_, hm.below ((Below.refl _ _).alloc (Nat.le_refl _) _), below_alloc HB _⟩, by simp [intOf]⟩
          rw [HQ.out, if_pos h]; rfl
        · have h : ¬ A = true := by simp only [*]; decide
          refine ⟨⟨1, by omega, rfl, ?_, hm.below ((Below.refl _ _).alloc (Nat.le_refl _) _), below_alloc HB _⟩, by simp [intOf]⟩
          rw [HQ.out, if_neg h]; rfl
      · have hc : cntB [A, B, C, D] 1 ≤ 4 := by cases A <;> cases B <;> cases C <;> cases D <;> decide
        have hq : cntB [A, B, C, D] 2 = cntB [A, B, C, D] 1 + if B = true then 1 else 0 := by cases A <;> cases B <;> cases C <;> cases D <;> decide
        generalize cntB [A, B, C, D] 1 = n0 at *
        have HQ := Lib.hid hq; clear hq
        have HL := Lib.hid (rfl : B = B)
        go_wp2_with fail
        refine (cA _ hm).mono ?_
        rintro e w2 ⟨rfl, hb2⟩
        replace hm := hm.below hb2
        replace HB := below_then HB hb2
        clear hb2
        go_wp2_with fail
        refine (cB _ hm).mono ?_
        rintro e w3 ⟨rfl, hb2⟩
        replace hm := hm.below hb2
        replace HB := below_then HB hb2
        clear hb2
        go_wp2_with fail
        refine (cC _ hm).mono ?_
        rintro e w4 ⟨rfl, hb2⟩
        replace hm := hm.below hb2
        replace HB := below_then HB hb2
        clear hb2
        go_wp2_with fail
        refine (cD _).mono ?_
        rintro e w5 ⟨rfl, hb2⟩
        replace hm := hm.below hb2
        replace HB := below_then HB hb2
        clear hb2
        go_wp2
        · have h : B = true := by assumption
          refine ⟨⟨2, by omega, rfl, ?_, hm.below ((Below.refl _ _).alloc (Nat.le_refl _) _), below_alloc HB _⟩, by simp [intOf]⟩
          rw [HQ.out, if_pos h]; rfl
        · have h : ¬ B = true := by simp only [*]; decide
          refine ⟨⟨2, by omega, rfl, ?_, hm.below ((Below.refl _ _).alloc (Nat.le_refl _) _), below_alloc HB _⟩, by simp [intOf]⟩
          rw [HQ.out, if_neg h]; rfl
      · have hc : cntB [A, B, C, D] 2 ≤ 4 := by cases A <;> cases B <;> cases C <;> cases D <;> decide
        have hq : cntB [A, B, C, D] 3 = cntB [A, B, C, D] 2 + if C = true then 1 else 0 := by cases A <;> cases B <;> cases C <;> cases D <;> decide
        generalize cntB [A, B, C, D] 2 = n0 at *
        have HQ := Lib.hid hq; clear hq
        have HL := Lib.hid (rfl : C = C)
        go_wp2_with fail
        refine (cA _ hm).mono ?_
        rintro e w2 ⟨rfl, hb2⟩
        replace hm := hm.below hb2
        replace HB := below_then HB hb2
        clear hb2
        go_wp2_with fail
        refine (cB _ hm).mono ?_
        rintro e w3 ⟨rfl, hb2⟩
        replace hm := hm.below hb2
        replace HB := below_then HB hb2
        clear hb2
        go_wp2_with fail
        refine (cC _ hm).mono ?_
        rintro e w4 ⟨rfl, hb2⟩
        replace hm := hm.below hb2
        replace HB := below_then HB hb2
        clear hb2
        go_wp2_with fail
        refine (cD _).mono ?_
        rintro e w5 ⟨rfl, hb2⟩
        replace hm := hm.below hb2
        replace HB := below_then HB hb2
        clear hb2
        go_wp2
        · have h : C = true := by assumption
          refine ⟨⟨3, by omega, rfl, ?_, hm.below ((Below.refl _ _).alloc (Nat.le_refl _) _), below_alloc HB _⟩, by simp [intOf]⟩
          rw [HQ.out, if_pos h]; rfl
        · have h : ¬ C = true := by simp only [*]; decide
          refine ⟨⟨3, by omega, rfl, ?_, hm.below ((Below.refl _ _).alloc (Nat.le_refl _) _), below_alloc HB _⟩, by simp [intOf]⟩
          rw [HQ.out, if_neg h]; rfl
      · have hc : cntB [A, B, C, D] 3 ≤ 4 := by cases A <;> cases B <;> cases C <;> cases D <;> decide
        have hq : cntB [A, B, C, D] 4 = cntB [A, B, C, D] 3 + if D = true then 1 else 0 := by cases A <;> cases B <;> cases C <;> cases D <;> decide
        generalize cntB [A, B, C, D] 3 = n0 at *
        have HQ := Lib.hid hq; clear hq
        have HL := Lib.hid (rfl : D = D)
        go_wp2_with fail
        refine (cA _ hm).mono ?_
        rintro e w2 ⟨rfl, hb2⟩
        replace hm := hm.below hb2
        replace HB := below_then HB hb2
        clear hb2
        go_wp2_with fail
        refine (cB _ hm).mono ?_
        rintro e w3 ⟨rfl, hb2⟩
        replace hm := hm.below hb2
        replace HB := below_then HB hb2
        clear hb2
        go_wp2_with fail
        refine (cC _ hm).mono ?_
        rintro e w4 ⟨rfl, hb2⟩
        replace hm := hm.below hb2
        replace HB := below_then HB hb2
        clear hb2
        go_wp2_with fail
        refine (cD _).mono ?_
        rintro e w5 ⟨rfl, hb2⟩
        replace hm := hm.below hb2
        replace HB := below_then HB hb2
        clear hb2
        go_wp2
        · have h : D = true := by assumption
          refine ⟨⟨4, by omega, rfl, ?_, hm.below ((Below.refl _ _).alloc (Nat.le_refl _) _), below_alloc HB _⟩, by simp [intOf]⟩
          rw [HQ.out, if_pos h]; rfl
        · have h : ¬ D = true := by simp only [*]; decide
          refine ⟨⟨4, by omega, rfl, ?_, hm.below ((Below.refl _ _).alloc (Nat.le_refl _) _), below_alloc HB _⟩, by simp [intOf]⟩
          rw [HQ.out, if_neg h]; rfl
    · obtain rfl : k = 4 := by omega
      rcases HN.out with h0 | ⟨h0, h1, h2⟩
      · rw [h0]
        go_wp2
        go_ret
        exact ⟨rfl, HB⟩
      · rw [h0]
        have h3 : decide ((1 : Int) ≤ (s.size : Int)) = true := by simp; omega
        go_wp2
        go_ret
        exact ⟨rfl, HB⟩
theorem law_kinds (s : ByteArray) (w : World) (hm : MaxC w) (hs : s.size ≤ maxLen) :
    Calls Tryd.prog 4 #[.string s] w fun e w' => e = .returned (.bool true) ∧ Below w.heap.size w w' := by
  by_cases h2 : 2000 < s.size
  · unfold maxLen at hs
    go_enter Tryd.func4, Tryd.ntmps4
    go_wp2_with fail
    refine (alive05 w hm).mono ?_
    rintro e w1 ⟨rfl, hb1⟩
    go_wp2
    go_ret
    exact ⟨rfl, hb1⟩
  rcases kinds s with ⟨a, b, c, d⟩ | ⟨hl, ⟨a, b, c, d⟩ | ⟨a, b, c, d⟩ | ⟨a, b, c, d⟩ | ⟨a, b, c, d⟩⟩
  · exact kinds_walk s _ _ _ _ w hm (by omega) a b c d (Or.inl rfl)
  · exact kinds_walk s _ _ _ _ w hm (by omega) a b c d (Or.inr ⟨rfl, hl⟩)
  · exact kinds_walk s _ _ _ _ w hm (by omega) a b c d (Or.inr ⟨rfl, hl⟩)
  · exact kinds_walk s _ _ _ _ w hm (by omega) a b c d (Or.inr ⟨rfl, hl⟩)
  · exact kinds_walk s _ _ _ _ w hm (by omega) a b c d (Or.inr ⟨rfl, hl⟩)
end Go.Proofs.YtibkkdbjmcongaaDoor
