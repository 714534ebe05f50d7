/- Encode of both packages. -/
import Derived.Test.YticeogdagnogpaaUtfDecode
namespace Go.Proofs.Yticeogdagnogpaa
open Go.RowKit
set_option linter.unusedVariables false

/-- A rune's bytes. -/
def encI (r : Int) : List Int :=
  if r < 128 then [r] else if r < 2048 then [192 + r / 64, 128 + r % 64] else if r < 65536 then [224 + r / 4096, 128 + r / 64 % 64, 128 + r % 64]
  else [240 + r / 262144, 128 + r / 4096 % 64, 128 + r / 64 % 64, 128 + r % 64]
theorem encI_len (r : Int) : 1 ≤ (encI r).length ∧ (encI r).length ≤ 4 := by
  unfold encI
  split
  · simp
  split
  · simp
  split <;> simp
theorem encI_bytes {r : Int} (h0 : 0 ≤ r) (h1 : r ≤ 1114111) : Bytes (encI r) := by
  intro x hx
  unfold encI at hx
  split at hx
  · simp at hx; omega
  split at hx
  · simp at hx; omega
  split at hx <;> (simp at hx; omega)

set_option maxHeartbeats 1000000 in
theorem put1_any (v : Value) (n : Nat) (xs : List Value) (B : Nat) (r : Int) (w : World) (h1 : 0 ≤ r) (h2 : r ≤ 127) (hown : w.ownsRow B 5 1 v n xs) (hB : B ≤ w.heap.size) (hlen : n ≤ 10000000) :
    Calls Try.prog 46 #[v, .int .i32 r] w fun e w' => ∃ v', e = .returned v' ∧ w'.ownsRow B 5 1 v' (n + 1) (xs ++ [.int .u8 (r)]) ∧ Below B w w' := by
  obtain ⟨j0, hj, hy0, hy1, hy2⟩ := info_parts info_u8
  have hw : widthI r = 1 := by unfold widthI; omega
  have hb := Below.refl B w
  go_enter Try.func46, Try.ntmps46
  go_wp2_with (first | (go_at_call 43; refine (width_any _ _).mono ?_; rintro e w1 ⟨rfl, rfl⟩) | (at_builtin; refine wpList_append_rd rfl _ _ 22 rfl B 5 j0 (.int .u8 0) 1 Try.underlying22 hj hy0 hy1 hy2 rfl _ _ _ rfl (hown.alloc _) _ 1 1 [.int .u8 (r)] rfl reads_one (by simp [Value.oneCell']) (by unfold maxLen; omega) (by omega) (by have hs1 := hb.size; simp only [World.size_alloc]; omega) (by simp) ?_; intro v2 w2 hown2 hgr2 hc2; have hb2 := (hb.alloc (by have hs2 := hb.size; omega) _).trans hc2; clear hc2 hgr2))
  go_ret
  exact ⟨_, rfl, by simpa [Nat.add_assoc, List.append_assoc] using hown2, hb2⟩
set_option maxHeartbeats 1000000 in
theorem put2_any (v : Value) (n : Nat) (xs : List Value) (B : Nat) (r : Int) (w : World) (h1 : 128 ≤ r) (h2 : r ≤ 2047) (hown : w.ownsRow B 5 1 v n xs) (hB : B ≤ w.heap.size) (hlen : n ≤ 10000000) :
    Calls Try.prog 46 #[v, .int .i32 r] w fun e w' => ∃ v', e = .returned v' ∧ w'.ownsRow B 5 1 v' (n + 2) (xs ++ [.int .u8 (192 + r / 64), .int .u8 (128 + r % 64)]) ∧ Below B w w' := by
  obtain ⟨j0, hj, hy0, hy1, hy2⟩ := info_parts info_u8
  have hw : widthI r = 2 := by unfold widthI; omega
  have hb := Below.refl B w
  go_enter Try.func46, Try.ntmps46
  go_wp2_with (first | (go_at_call 43; refine (width_any _ _).mono ?_; rintro e w1 ⟨rfl, rfl⟩) | (at_builtin; refine wpList_append_rd rfl _ _ 22 rfl B 5 j0 (.int .u8 0) 1 Try.underlying22 hj hy0 hy1 hy2 rfl _ _ _ rfl (hown.alloc _) _ 1 1 [.int .u8 (192 + r / 64)] rfl reads_one (by simp [Value.oneCell']) (by unfold maxLen; omega) (by omega) (by have hs1 := hb.size; simp only [World.size_alloc]; omega) (by simp) ?_; intro v2 w2 hown2 hgr2 hc2; have hb2 := (hb.alloc (by have hs2 := hb.size; omega) _).trans hc2; clear hc2 hgr2))
  refine wp_loop_rounds 2 ?_
  rw [rounds_succ]
  go_wp2_with (at_builtin; refine wpList_append_rd rfl _ _ 22 rfl B 5 j0 (.int .u8 0) 1 Try.underlying22 hj hy0 hy1 hy2 rfl _ _ _ rfl (hown2.alloc _) _ 1 1 [.int .u8 (128 + r % 64)] rfl reads_one (by simp [Value.oneCell']) (by unfold maxLen; omega) (by omega) (by have hs1 := hb2.size; simp only [World.size_alloc]; omega) (by simp) ?_; intro v3 w3 hown3 hgr3 hc3; have hb3 := (hb2.alloc (by have hs2 := hb2.size; omega) _).trans hc3; clear hc3 hgr3)
  rw [rounds_succ]
  go_wp2
  go_ret
  exact ⟨_, rfl, by simpa [Nat.add_assoc, List.append_assoc] using hown3, hb3⟩
set_option maxHeartbeats 1000000 in
theorem put3_any (v : Value) (n : Nat) (xs : List Value) (B : Nat) (r : Int) (w : World) (h1 : 2048 ≤ r) (h2 : r ≤ 65535) (hown : w.ownsRow B 5 1 v n xs) (hB : B ≤ w.heap.size) (hlen : n ≤ 10000000) :
    Calls Try.prog 46 #[v, .int .i32 r] w fun e w' => ∃ v', e = .returned v' ∧ w'.ownsRow B 5 1 v' (n + 3) (xs ++ [.int .u8 (224 + r / 4096), .int .u8 (128 + r / 64 % 64), .int .u8 (128 + r % 64)]) ∧ Below B w w' := by
  obtain ⟨j0, hj, hy0, hy1, hy2⟩ := info_parts info_u8
  have hw : widthI r = 3 := by unfold widthI; omega
  have hb := Below.refl B w
  go_enter Try.func46, Try.ntmps46
  go_wp2_with (first | (go_at_call 43; refine (width_any _ _).mono ?_; rintro e w1 ⟨rfl, rfl⟩) | (at_builtin; refine wpList_append_rd rfl _ _ 22 rfl B 5 j0 (.int .u8 0) 1 Try.underlying22 hj hy0 hy1 hy2 rfl _ _ _ rfl (hown.alloc _) _ 1 1 [.int .u8 (224 + r / 4096)] rfl reads_one (by simp [Value.oneCell']) (by unfold maxLen; omega) (by omega) (by have hs1 := hb.size; simp only [World.size_alloc]; omega) (by simp) ?_; intro v2 w2 hown2 hgr2 hc2; have hb2 := (hb.alloc (by have hs2 := hb.size; omega) _).trans hc2; clear hc2 hgr2))
  refine wp_loop_rounds 3 ?_
  rw [rounds_succ]
  go_wp2_with (at_builtin; refine wpList_append_rd rfl _ _ 22 rfl B 5 j0 (.int .u8 0) 1 Try.underlying22 hj hy0 hy1 hy2 rfl _ _ _ rfl (hown2.alloc _) _ 1 1 [.int .u8 (128 + r / 64 % 64)] rfl reads_one (by simp [Value.oneCell']) (by unfold maxLen; omega) (by omega) (by have hs1 := hb2.size; simp only [World.size_alloc]; omega) (by simp) ?_; intro v3 w3 hown3 hgr3 hc3; have hb3 := (hb2.alloc (by have hs2 := hb2.size; omega) _).trans hc3; clear hc3 hgr3)
  rw [rounds_succ]
  go_wp2_with (at_builtin; refine wpList_append_rd rfl _ _ 22 rfl B 5 j0 (.int .u8 0) 1 Try.underlying22 hj hy0 hy1 hy2 rfl _ _ _ rfl (hown3.alloc _) _ 1 1 [.int .u8 (128 + r % 64)] rfl reads_one (by simp [Value.oneCell']) (by unfold maxLen; omega) (by omega) (by have hs1 := hb3.size; simp only [World.size_alloc]; omega) (by simp) ?_; intro v4 w4 hown4 hgr4 hc4; have hb4 := (hb3.alloc (by have hs2 := hb3.size; omega) _).trans hc4; clear hc4 hgr4)
  rw [rounds_succ]
  go_wp2
  go_ret
  exact ⟨_, rfl, by simpa [Nat.add_assoc, List.append_assoc] using hown4, hb4⟩
set_option maxHeartbeats 1000000 in
theorem put4_any (v : Value) (n : Nat) (xs : List Value) (B : Nat) (r : Int) (w : World) (h1 : 65536 ≤ r) (h2 : r ≤ 1114111) (hown : w.ownsRow B 5 1 v n xs) (hB : B ≤ w.heap.size) (hlen : n ≤ 10000000) :
    Calls Try.prog 46 #[v, .int .i32 r] w fun e w' => ∃ v', e = .returned v' ∧ w'.ownsRow B 5 1 v' (n + 4) (xs ++ [.int .u8 (240 + r / 262144), .int .u8 (128 + r / 4096 % 64), .int .u8 (128 + r / 64 % 64), .int .u8 (128 + r % 64)]) ∧ Below B w w' := by
  obtain ⟨j0, hj, hy0, hy1, hy2⟩ := info_parts info_u8
  have hw : widthI r = 4 := by unfold widthI; omega
  have hb := Below.refl B w
  go_enter Try.func46, Try.ntmps46
  go_wp2_with (first | (go_at_call 43; refine (width_any _ _).mono ?_; rintro e w1 ⟨rfl, rfl⟩) | (at_builtin; refine wpList_append_rd rfl _ _ 22 rfl B 5 j0 (.int .u8 0) 1 Try.underlying22 hj hy0 hy1 hy2 rfl _ _ _ rfl (hown.alloc _) _ 1 1 [.int .u8 (240 + r / 262144)] rfl reads_one (by simp [Value.oneCell']) (by unfold maxLen; omega) (by omega) (by have hs1 := hb.size; simp only [World.size_alloc]; omega) (by simp) ?_; intro v2 w2 hown2 hgr2 hc2; have hb2 := (hb.alloc (by have hs2 := hb.size; omega) _).trans hc2; clear hc2 hgr2))
  refine wp_loop_rounds 4 ?_
  rw [rounds_succ]
  go_wp2_with (at_builtin; refine wpList_append_rd rfl _ _ 22 rfl B 5 j0 (.int .u8 0) 1 Try.underlying22 hj hy0 hy1 hy2 rfl _ _ _ rfl (hown2.alloc _) _ 1 1 [.int .u8 (128 + r / 4096 % 64)] rfl reads_one (by simp [Value.oneCell']) (by unfold maxLen; omega) (by omega) (by have hs1 := hb2.size; simp only [World.size_alloc]; omega) (by simp) ?_; intro v3 w3 hown3 hgr3 hc3; have hb3 := (hb2.alloc (by have hs2 := hb2.size; omega) _).trans hc3; clear hc3 hgr3)
  rw [rounds_succ]
  go_wp2_with (at_builtin; refine wpList_append_rd rfl _ _ 22 rfl B 5 j0 (.int .u8 0) 1 Try.underlying22 hj hy0 hy1 hy2 rfl _ _ _ rfl (hown3.alloc _) _ 1 1 [.int .u8 (128 + r / 64 % 64)] rfl reads_one (by simp [Value.oneCell']) (by unfold maxLen; omega) (by omega) (by have hs1 := hb3.size; simp only [World.size_alloc]; omega) (by simp) ?_; intro v4 w4 hown4 hgr4 hc4; have hb4 := (hb3.alloc (by have hs2 := hb3.size; omega) _).trans hc4; clear hc4 hgr4)
  rw [rounds_succ]
  go_wp2_with (at_builtin; refine wpList_append_rd rfl _ _ 22 rfl B 5 j0 (.int .u8 0) 1 Try.underlying22 hj hy0 hy1 hy2 rfl _ _ _ rfl (hown4.alloc _) _ 1 1 [.int .u8 (128 + r % 64)] rfl reads_one (by simp [Value.oneCell']) (by unfold maxLen; omega) (by omega) (by have hs1 := hb4.size; simp only [World.size_alloc]; omega) (by simp) ?_; intro v5 w5 hown5 hgr5 hc5; have hb5 := (hb4.alloc (by have hs2 := hb4.size; omega) _).trans hc5; clear hc5 hgr5)
  rw [rounds_succ]
  go_wp2
  go_ret
  exact ⟨_, rfl, by simpa [Nat.add_assoc, List.append_assoc] using hown5, hb5⟩

/-- A rune's bytes, laid behind others. -/
theorem put_any (v : Value) (n : Nat) (xs : List Value) (B : Nat) (r : Int) (w : World) (h1 : 0 ≤ r) (h2 : r ≤ 1114111) (hown : w.ownsRow B 5 1 v n xs) (hB : B ≤ w.heap.size) (hlen : n ≤ 10000000) :
    Calls Try.prog 46 #[v, .int .i32 r] w fun e w' => ∃ v', e = .returned v' ∧ w'.ownsRow B 5 1 v' (n + (encI r).length) (xs ++ (encI r).map (Value.int .u8)) ∧ Below B w w' := by
  by_cases a : r ≤ 127
  · rw [show encI r = [r] by rw [encI, if_pos (by omega)]]
    exact put1_any v n xs B r w h1 a hown hB hlen
  by_cases b : r ≤ 2047
  · rw [show encI r = [192 + r / 64, 128 + r % 64] by rw [encI, if_neg (by omega), if_pos (by omega)]]
    exact put2_any v n xs B r w (by omega) b hown hB hlen
  by_cases c : r ≤ 65535
  · rw [show encI r = [224 + r / 4096, 128 + r / 64 % 64, 128 + r % 64] by rw [encI, if_neg (by omega), if_neg (by omega), if_pos (by omega)]]
    exact put3_any v n xs B r w (by omega) c hown hB hlen
  · rw [show encI r = [240 + r / 262144, 128 + r / 4096 % 64, 128 + r / 64 % 64, 128 + r % 64] by rw [encI, if_neg (by omega), if_neg (by omega), if_neg (by omega)]]
    exact put4_any v n xs B r w (by omega) h2 hown hB hlen

theorem one_any (r : Int) (w : World) (h1 : 0 ≤ r) (h2 : r ≤ 1114111) :
    Calls Try.prog 45 #[.int .i32 r] w fun e w' => ∃ x, e = .returned (.slice (some ⟨x, 0, none⟩) (encI r).length (encI r).length) ∧ Below w.heap.size w w' ∧ Reads w' (some ⟨x, 0, none⟩) (encI r).length ((encI r).map (Value.int .u8)) := by
  by_cases a1 : r ≤ 127
  · rw [show encI r = [r] by rw [encI, if_pos (by omega)]]
    refine (one1_any r w (by omega) (by omega)).mono ?_
    rintro e w1 ⟨rfl, hb, n0⟩
    refine ⟨_, rfl, hb, by simp, fun j hj => ⟨_, _, rfl, ?_⟩⟩
    simp only [List.length_cons, List.length_nil, Nat.zero_add] at hj
    have hc : j = 0 := by omega
    rcases hc with rfl
    · rw [n0]; rfl
  by_cases a2 : r ≤ 2047
  · rw [show encI r = [192 + r / 64, 128 + r % 64] by rw [encI, if_neg (by omega), if_pos (by omega)]]
    refine (one2_any r w (by omega) (by omega)).mono ?_
    rintro e w1 ⟨rfl, hb, n0, n1⟩
    refine ⟨_, rfl, hb, by simp, fun j hj => ⟨_, _, rfl, ?_⟩⟩
    simp only [List.length_cons, List.length_nil, Nat.zero_add] at hj
    have hc : j = 0 ∨ j = 1 := by omega
    rcases hc with rfl | rfl
    · rw [n0]; rfl
    · rw [n1]; rfl
  by_cases a3 : r ≤ 65535
  · rw [show encI r = [224 + r / 4096, 128 + r / 64 % 64, 128 + r % 64] by rw [encI, if_neg (by omega), if_neg (by omega), if_pos (by omega)]]
    refine (one3_any r w (by omega) (by omega)).mono ?_
    rintro e w1 ⟨rfl, hb, n0, n1, n2⟩
    refine ⟨_, rfl, hb, by simp, fun j hj => ⟨_, _, rfl, ?_⟩⟩
    simp only [List.length_cons, List.length_nil, Nat.zero_add] at hj
    have hc : j = 0 ∨ j = 1 ∨ j = 2 := by omega
    rcases hc with rfl | rfl | rfl
    · rw [n0]; rfl
    · rw [n1]; rfl
    · rw [n2]; rfl
  rw [show encI r = [240 + r / 262144, 128 + r / 4096 % 64, 128 + r / 64 % 64, 128 + r % 64] by rw [encI, if_neg (by omega), if_neg (by omega), if_neg (by omega)]]
  refine (one4_any r w (by omega) (by omega)).mono ?_
  rintro e w1 ⟨rfl, hb, n0, n1, n2, n3⟩
  refine ⟨_, rfl, hb, by simp, fun j hj => ⟨_, _, rfl, ?_⟩⟩
  simp only [List.length_cons, List.length_nil, Nat.zero_add] at hj
  have hc : j = 0 ∨ j = 1 ∨ j = 2 ∨ j = 3 := by omega
  rcases hc with rfl | rfl | rfl | rfl
  · rw [n0]; rfl
  · rw [n1]; rfl
  · rw [n2]; rfl
  · rw [n3]; rfl

/-- Runes' bytes. -/
def encS : List Int → Option (List Int)
  | [] => some []
  | r :: t => if isRuneB r then (encS t).map (encI r ++ ·) else none

/-- What is told of an encoding. -/
def EncPost (B : Nat) (w : World) (l : List Int) (e : Ending) (w' : World) : Prop :=
  ∃ v c, e = .returned (.tuple #[v, .int .i64 c]) ∧ Below B w w' ∧
    ((∃ bs, encS l = some bs ∧ c = 0 ∧ bs.length ≤ 4 * l.length ∧ Bytes bs ∧ w'.ownsRow B 5 1 v bs.length (bs.map (Value.int .u8))) ∨ (encS l = none ∧ c = 2 ∧ v = .slice none 0 0))

theorem encS_snoc (l : List Int) (r : Int) (bs : List Int) (h : encS l = some bs) : encS (l ++ [r]) = if isRuneB r then some (bs ++ encI r) else none := by
  induction l generalizing bs with
  | nil =>
    cases h
    simp only [List.nil_append, encS]
    split <;> simp
  | cons x t ih =>
    simp only [encS, List.cons_append] at h ⊢
    split at h
    · rename_i hx
      rw [if_pos hx]
      cases ht : encS t with
      | none => rw [ht] at h; cases h
      | some ts =>
        rw [ht] at h
        cases h
        rw [ih ts ht]
        split <;> simp
    · cases h
theorem encS_none (l t : List Int) (r : Int) (h : isRuneB r = false) : encS (l ++ r :: t) = none := by
  induction l with
  | nil => simp [encS, h]
  | cons x l ih =>
    simp only [List.cons_append, encS]
    split
    · rw [ih]; rfl
    · rfl
theorem isRune_range {r : Int} (h : isRuneB r = true) : 0 ≤ r ∧ r ≤ 1114111 := by
  simp [isRuneB] at h
  omega
theorem take_at0 (l : List Int) (k : Nat) (h : k < l.length) : l.take (k + 1) = l.take k ++ [at0 l k] := by
  rw [List.take_add_one, List.getElem?_eq_getElem h, at0_lt h]; rfl
theorem split_at0 (l : List Int) (k : Nat) (h : k < l.length) : l = l.take k ++ at0 l k :: l.drop (k + 1) := by
  rw [at0_lt h]
  simp

set_option maxHeartbeats 1000000 in
theorem encode_any (v : Value) (l : List Int) (w : World) (h : RdI .i32 w v l) (hlen : l.length ≤ 1000000) :
    Calls Try.prog 23 #[v] w (EncPost w.heap.size w l) := by
  obtain ⟨j0, hj, hy0, hy1, hy2⟩ := info_parts info_u8
  obtain ⟨a, ca, rfl, hla, hma, ha, -⟩ := h
  unfold maxLen at hma
  have HA := Lib.hid ha; clear ha
  go_enter Try.func23, Try.ntmps23
  go_wp2
  go_loopw [4, 9] (fun out i wr => ∃ (k : Nat) (bs : List Int), k ≤ l.length ∧ i = .int .i64 k ∧ encS (l.take k) = some bs ∧ bs.length ≤ 4 * k ∧ Bytes bs ∧ wr.ownsRow w.heap.size 5 1 out bs.length (bs.map (Value.int .u8)) ∧ Below w.heap.size w wr) (fun out i _ => l.length - (intOf i).toNat)
  case atStart => exact ⟨0, [], Nat.zero_le _, rfl, rfl, by simp, (by intro x hx; cases hx), World.ownsRow_nil _ _ _ _, Below.refl _ _⟩
  case round =>
    obtain ⟨k, bs, hk, rfl, henc, hbl, hbb, hown, hbel⟩ := hrel
    have HE := Lib.hid henc; clear henc
    by_cases hlt : k < l.length
    · obtain ⟨x, o, rfl, hc0⟩ := HA.out k hlt
      have hc := (hbel.cell (p := ⟨x, o + k, none⟩) (World.block_lt_of_cell? w _ hc0)).trans hc0
      have hdec : l = l.take k ++ at0 l k :: l.drop (k + 1) := split_at0 l k hlt
      have HD := Lib.hid hdec; clear hdec HA
      by_cases hr : isRuneB (at0 l k) = true
      · obtain ⟨q0, q1⟩ := isRune_range hr
        obtain ⟨q2, q3⟩ := encI_len (at0 l k)
        go_wp2_with (first
          | (go_at_call 42; refine (isRune_any _ _).mono ?_; rintro e w1 ⟨rfl, rfl⟩)
          | (go_at_call 46; refine (put_any _ _ _ _ _ _ q0 q1 hown (by have hs0 := hbel.size; omega) (by omega)).mono ?_; rintro e w2 ⟨v2, rfl, hown2, hb2⟩; have HB := hbel.trans hb2))
        refine ⟨⟨k + 1, bs ++ encI (at0 l k), by omega, by go_num, ?_, by simp; omega, hbb.append (encI_bytes q0 q1), by simpa using hown2, HB⟩, by simp [intOf]; omega⟩
        rw [take_at0 l k hlt, encS_snoc _ _ _ HE.out, if_pos hr]
      · have hr' : isRuneB (at0 l k) = false := by simpa using hr
        clear hr
        go_wp2_with (go_at_call 42; refine (isRune_any _ _).mono ?_; rintro e w1 ⟨rfl, rfl⟩)
        go_ret2
        refine ⟨_, _, rfl, hbel, .inr ⟨?_, rfl, rfl⟩⟩
        rw [HD.out]
        exact encS_none _ _ _ hr'
    · clear HA
      go_wp2
      go_ret2
      refine ⟨_, _, rfl, hbel, .inl ⟨bs, ?_, rfl, by omega, hbb, hown⟩⟩
      have he := HE.out
      rwa [List.take_of_length_le (by omega)] at he
set_option maxHeartbeats 1000000 in
theorem ref_encode_any (v : Value) (l : List Int) (w : World) (h : RdI .i32 w v l) (hlen : l.length ≤ 1000000) :
    Calls Try.prog 24 #[v] w (EncPost w.heap.size w l) := by
  obtain ⟨j0, hj, hy0, hy1, hy2⟩ := info_parts info_u8
  obtain ⟨a, ca, rfl, hla, hma, ha, -⟩ := h
  unfold maxLen at hma
  have HA := Lib.hid ha; clear ha
  go_enter Try.func24, Try.ntmps24
  go_wp2
  go_loopw [4, 5] (fun out i wr => ∃ (k : Nat) (bs : List Int), k ≤ l.length ∧ i = .int .i64 k ∧ encS (l.take k) = some bs ∧ bs.length ≤ 4 * k ∧ Bytes bs ∧ wr.ownsRow w.heap.size 5 1 out bs.length (bs.map (Value.int .u8)) ∧ Below w.heap.size w wr) (fun out i _ => l.length - (intOf i).toNat)
  case atStart => exact ⟨0, [], Nat.zero_le _, rfl, rfl, by simp, (by intro x hx; cases hx), World.ownsRow_nil _ _ _ _, Below.refl _ _⟩
  case round =>
    obtain ⟨k, bs, hk, rfl, henc, hbl, hbb, hown, hbel⟩ := hrel
    have HE := Lib.hid henc; clear henc
    by_cases hlt : k < l.length
    · obtain ⟨x, o, rfl, hc0⟩ := HA.out k hlt
      have hc := (hbel.cell (p := ⟨x, o + k, none⟩) (World.block_lt_of_cell? w _ hc0)).trans hc0
      have hdec : l = l.take k ++ at0 l k :: l.drop (k + 1) := split_at0 l k hlt
      have HD := Lib.hid hdec; clear hdec HA
      by_cases hr : isRuneB (at0 l k) = true
      · obtain ⟨q0, q1⟩ := isRune_range hr
        obtain ⟨q2, q3⟩ := encI_len (at0 l k)
        go_wp2_with (first
          | (go_at_call 44; refine (rune_any _ _).mono ?_; rintro e w1 ⟨rfl, rfl⟩)
          | (go_at_call 45; refine (one_any _ _ q0 q1).mono ?_; rintro e w1 ⟨x1, rfl, hb1, hr1⟩) | (at_builtin; refine wpList_append_rd rfl _ _ 22 rfl w.heap.size 5 j0 (.int .u8 0) 1 Try.underlying22 hj hy0 hy1 hy2 rfl _ _ _ rfl (own_below hown hb1) _ _ _ _ rfl hr1 (by simp [Value.oneCell']) (by unfold maxLen; omega) (by omega) (by have hs0 := hbel.size; have hs1 := hb1.size; omega) (by simp) ?_; intro v2 w2 hown2 hgr hc2; have HB := (hbel.trans (hb1.mono hbel.size)).trans hc2))
        refine ⟨⟨k + 1, bs ++ encI (at0 l k), by omega, by go_num, ?_, by simp; omega, hbb.append (encI_bytes q0 q1), by simpa using hown2, HB⟩, by simp [intOf]; omega⟩
        rw [take_at0 l k hlt, encS_snoc _ _ _ HE.out, if_pos hr]
      · have hr' : isRuneB (at0 l k) = false := by simpa using hr
        clear hr
        go_wp2_with (go_at_call 44; refine (rune_any _ _).mono ?_; rintro e w1 ⟨rfl, rfl⟩)
        go_ret2
        refine ⟨_, _, rfl, hbel, .inr ⟨?_, rfl, rfl⟩⟩
        rw [HD.out]
        exact encS_none _ _ _ hr'
    · clear HA
      go_wp2
      go_ret2
      refine ⟨_, _, rfl, hbel, .inl ⟨bs, ?_, rfl, by omega, hbb, hown⟩⟩
      have he := HE.out
      rwa [List.take_of_length_le (by omega)] at he
end Go.Proofs.Yticeogdagnogpaa
