/- Users: what one's doing leaves of another one. No program stands here. -/
import Derived.Test.YthefddclefimoaaDoorAccB
namespace Go.Proofs.YthefddclefimoaaDoor
open Go.RowKit
set_option linter.unusedVariables false
theorem find_idx {α : Type} {p : α → Bool} (xs : List α) : (idxX p xs 0 < 0 ∧ xs.find? p = none) ∨ ∃ k a, idxX p xs 0 = (k : Nat) ∧ xs[k]? = some a ∧ xs.find? p = some a := by
  rcases Int.lt_or_le (idxX p xs 0) 0 with h | h
  · exact .inl ⟨h, List.find?_eq_none.2 fun x hx => by simp [idxX_no xs 0 (by omega) h x hx]⟩
  · obtain ⟨k, a, h1, h2, h3, h4⟩ := idxX_is xs 0 (by omega) h
    refine .inr ⟨k, a, by rw [h1]; simp, h2, ?_⟩
    obtain ⟨hk, rfl⟩ := List.getElem?_eq_some_iff.1 h2
    refine List.find?_eq_some_iff_getElem.2 ⟨h3, k, hk, rfl, fun j hj => ?_⟩
    simp [h4 j xs[j] hj (List.getElem?_eq_getElem (by omega))]
/-- What is told of a token: whose, and what was agreed to. -/
def viewU (xs : List UserX) (tok : ByteArray) : Option (ByteArray × List ByteArray) := (xs.find? (tokP tok)).map fun u => (u.2.1, u.2.2.2)
def whoV : Option (ByteArray × List ByteArray) → ByteArray × Int
  | some p => (p.1, 0)
  | none => (⟨#[]⟩, 14)
def agdV (ts : List ByteArray) : Option (ByteArray × List ByteArray) → Int
  | some p => if ts.any (lacks p.2) = true then 13 else 0
  | none => 14
theorem whoU_view (xs : List UserX) (tok : ByteArray) : whoU xs tok = if rightU xs = true then whoV (viewU xs tok) else (⟨#[]⟩, 1) := by
  unfold whoU findU viewU
  by_cases hr : rightU xs = true
  · simp only [if_pos hr]
    rcases find_idx (p := tokP tok) xs with ⟨h1, h2⟩ | ⟨k, a, h1, h2, h3⟩
    · simp only [if_pos h1, h2]; rfl
    · have hk : ¬ ((k : Nat) : Int) < 0 := by omega
      simp only [h1, if_neg hk, h3, Int.toNat_natCast, h2]; rfl
  · simp only [if_neg hr]; rfl
theorem agdU_view (xs : List UserX) (tok : ByteArray) (ts : List ByteArray) : agdU xs tok ts = if rightU xs = true then agdV ts (viewU xs tok) else 1 := by
  unfold agdU findU viewU
  by_cases hr : rightU xs = true
  · simp only [if_pos hr]
    rcases find_idx (p := tokP tok) xs with ⟨h1, h2⟩ | ⟨k, a, h1, h2, h3⟩
    · simp only [if_pos h1, h2]; rfl
    · have hk : ¬ ((k : Nat) : Int) < 0 := by omega
      simp only [h1, if_neg hk, h3, Int.toNat_natCast, h2]; rfl
  · simp only [if_neg hr]; rfl
theorem same_view {xs ys : List UserX} {tok : ByteArray} (hr : rightU ys = rightU xs) (hv : viewU ys tok = viewU xs tok) (ts : List ByteArray) : whoU ys tok = whoU xs tok ∧ agdU ys tok ts = agdU xs tok ts := by
  rw [whoU_view, whoU_view, agdU_view, agdU_view, hr, hv]
  exact ⟨rfl, rfl⟩
abbrev ltU (a b : UserX) : Bool := sless a.1 b.1
theorem rightU_iff (xs : List UserX) : rightU xs = true ↔ xs.length ≤ 16 ∧ (∀ x ∈ xs, goodU x = true) ∧ xs.Pairwise (fun a b => ltU a b = true) := right_iff (r := ltU) (g := goodU) (n := 16) fun a b c h g => sless_trans _ _ _ h g
theorem split_at {α : Type} {xs : List α} {k : Nat} {u : α} (h : xs[k]? = some u) : xs = xs.take k ++ u :: xs.drop (k + 1) := by
  obtain ⟨hk, rfl⟩ := List.getElem?_eq_some_iff.1 h
  rw [List.getElem_cons_drop hk, List.take_append_drop]
theorem set_at {α : Type} {xs : List α} {k : Nat} {u y : α} (h : xs[k]? = some u) : xs.set k y = xs.take k ++ y :: xs.drop (k + 1) := by
  obtain ⟨hk, _⟩ := List.getElem?_eq_some_iff.1 h
  rw [List.set_eq_take_append_cons_drop, if_pos hk]
theorem view_mid {l r : List UserX} {u : UserX} {tok : ByteArray} (h : u.1 ≠ tok) : viewU (l ++ u :: r) tok = viewU (l ++ r) tok := by
  unfold viewU
  rw [List.find?_append, List.find?_append, List.find?_cons, show tokP tok u = false by simpa using h]
/-- The place of a token in a right list, split. -/
theorem found_at {xs : List UserX} {tok : ByteArray} (h : (findU xs tok).2 = 0) : ∃ k u, (findU xs tok).1 = (k : Nat) ∧ xs[k]? = some u ∧ u.1 = tok ∧ rightU xs = true := by
  obtain ⟨hr, k, u, h1, h2, h3, _⟩ := findU_ok h
  exact ⟨k, u, h1, h2, h3, hr⟩
-- going
theorem log_right {xs : List UserX} {tok : ByteArray} : rightU (logU xs tok) = rightU xs := by
  unfold logU
  split
  · rename_i h
    obtain ⟨k, u, h1, h2, h3, hr⟩ := found_at h
    rw [h1, Int.toNat_natCast, hr]
    obtain ⟨a, b, c⟩ := (rightU_iff xs).1 hr
    have hs : (xs.take k ++ xs.drop (k + 1)).Sublist xs := by
      have := List.eraseIdx_sublist xs k
      rwa [List.eraseIdx_eq_take_drop_succ] at this
    exact (rightU_iff _).2 ⟨Nat.le_trans hs.length_le a, fun x hx => b x (hs.subset hx), c.sublist hs⟩
  · rfl
theorem log_view {xs : List UserX} {tok two : ByteArray} (hne : tok ≠ two) : viewU (logU xs tok) two = viewU xs two := by
  unfold logU
  split
  · rename_i h
    obtain ⟨k, u, h1, h2, h3, hr⟩ := found_at h
    rw [h1, Int.toNat_natCast]
    conv => rhs; rw [split_at h2]
    rw [view_mid (by rw [h3]; exact hne)]
  · rfl
-- agreeing
theorem agL_right {a ts : List ByteArray} (ha : a.all wordB = true) (ht : ts.all wordB = true) (hl : ¬ 4 < ((agL a ts).length : Int)) : risingB (agL a ts) = true := by
  refine (right_iff (r := sless) (g := wordB) (n := 4) fun a b c h g => sless_trans _ _ _ h g).2 ⟨by omega, fun x hx => ?_, onceT_up (sortT_le _)⟩
  unfold agL at hx
  rw [onceT_mem, sortT_mem] at hx
  rcases List.mem_append.1 hx with h | h
  · exact List.all_eq_true.1 ha x h
  · exact List.all_eq_true.1 ht x h
theorem rising_words {a : List ByteArray} (h : risingB a = true) : a.all wordB = true := by
  unfold risingB rightL at h
  simp only [Bool.and_eq_true] at h
  exact h.2.1
theorem goodU_iff (u : UserX) : goodU u = true ↔ wordB u.1 = true ∧ userB u.2.1 = true ∧ risingB u.2.2.2 = true := by
  unfold goodU
  simp only [Bool.and_eq_true]
theorem agr_cases (xs : List UserX) (tok : ByteArray) (ts : List ByteArray) (v : Value) : agrU xs tok ts v = xs ∨ ∃ k u, xs[k]? = some u ∧ u.1 = tok ∧ rightU xs = true ∧ ts.all wordB = true ∧ ¬ 4 < ((agL u.2.2.2 ts).length : Int) ∧ agrU xs tok ts v = xs.set k (u.1, u.2.1, v, agL u.2.2.2 ts) := by
  unfold agrU
  split
  · rename_i he
    unfold agrE at he
    split at he
    · rename_i hf
      split at he
      · rename_i hw
        obtain ⟨k, u, h1, h2, h3, hr⟩ := found_at hf
        rw [h1, Int.toNat_natCast, h2] at he ⊢
        simp only [Option.map_some, Option.getD_some] at he
        split at he
        · cases he
        · rename_i hl
          exact .inr ⟨k, u, h2, h3, hr, hw, hl, rfl⟩
      · cases he
    · exact absurd he (by assumption)
  · exact .inl rfl
theorem agr_right {xs : List UserX} {tok : ByteArray} {ts : List ByteArray} {v : Value} : rightU (agrU xs tok ts v) = rightU xs := by
  rcases agr_cases xs tok ts v with h | ⟨k, u, h2, h3, hr, hw, hl, h⟩
  · rw [h]
  · rw [h, hr]
    obtain ⟨a, b, c⟩ := (rightU_iff xs).1 hr
    have hg := (goodU_iff u).1 (b u (List.mem_of_getElem? h2))
    refine (rightU_iff _).2 ⟨by rw [List.length_set]; exact a, fun x hx => ?_, ?_⟩
    · rcases List.mem_or_eq_of_mem_set hx with hx | rfl
      · exact b x hx
      · exact (goodU_iff _).2 ⟨hg.1, hg.2.1, agL_right (rising_words hg.2.2) hw hl⟩
    · have e : (xs.set k (u.1, u.2.1, v, agL u.2.2.2 ts)).map (·.1) = xs.map (·.1) := by
        rw [List.map_set]
        refine List.ext_getElem? fun j => ?_
        rw [List.getElem?_set]
        split
        · rename_i hj
          subst hj
          split
          · rw [List.getElem?_map, h2]; rfl
          · rw [List.getElem?_eq_none (by omega)]
        · rfl
      have c' : (xs.map (·.1)).Pairwise (fun a b => sless a b = true) := List.pairwise_map.2 c
      rw [← e] at c'
      exact List.pairwise_map.1 c'
theorem agr_view {xs : List UserX} {tok two : ByteArray} {ts : List ByteArray} {v : Value} (hne : tok ≠ two) : viewU (agrU xs tok ts v) two = viewU xs two := by
  rcases agr_cases xs tok ts v with h | ⟨k, u, h2, h3, hr, hw, hl, h⟩
  · rw [h]
  · rw [h, set_at h2, view_mid (by show u.1 ≠ two; rw [h3]; exact hne)]
    conv => rhs; rw [split_at h2]
    rw [view_mid (by rw [h3]; exact hne)]
-- coming
theorem reg_ok {xs : List UserX} {tok mx : ByteArray} (h : regE xs tok mx = 0) : rightU xs = true ∧ wordB tok = true ∧ userB mx = true ∧ xs.any (tokP tok) = false ∧ xs.length ≠ 16 := by
  unfold regE at h
  split at h
  · rename_i h1
    split at h
    · cases h
    · rename_i h2
      split at h
      · cases h
      · rename_i h3
        exact ⟨h1.1, h1.2.1, h1.2.2, Bool.eq_false_iff.2 h2, by omega⟩
  · cases h
theorem gt_or {tok : ByteArray} {u : UserX} (h : u.1 ≠ tok) : (gtP tok u = true ∧ sless tok u.1 = true) ∨ (gtP tok u = false ∧ sless u.1 tok = true) := by
  unfold gtP
  rcases sless_tri u.1 tok with ⟨p, q, r⟩ | ⟨p, q, r⟩ | p
  · exact .inr ⟨by simp [p], p⟩
  · exact .inl ⟨by simp [p, r], q⟩
  · exact absurd p h
theorem reg_right {xs : List UserX} {tok mx : ByteArray} : rightU (regU xs tok mx) = rightU xs := by
  unfold regU
  split
  · rename_i he
    obtain ⟨hr, hw, hu, ha, h16⟩ := reg_ok he
    rw [hr]
    obtain ⟨a, b, c⟩ := (rightU_iff xs).1 hr
    have hno : ∀ u ∈ xs, u.1 ≠ tok := fun u hu' => by simpa using List.any_eq_false.1 ha u hu'
    have hra := regAt_le xs tok
    have hlo : ∀ u ∈ xs.take (regAt xs tok), sless u.1 tok = true := fun u hu' => by
      obtain ⟨j, hj, rfl⟩ := List.getElem_of_mem hu'
      rw [List.length_take] at hj
      rw [List.getElem_take]
      have hn := hno xs[j] (List.getElem_mem _)
      rcases gt_or hn with ⟨g, _⟩ | ⟨_, g⟩
      · exfalso
        rcases Int.lt_or_le (idxX (gtP tok) xs 0) 0 with h | h
        · have := idxX_no xs 0 (by omega) h xs[j] (List.getElem_mem _)
          rw [g] at this; cases this
        · obtain ⟨k, x, h1, h2, h3, h4⟩ := idxX_is xs 0 (by omega) h
          have hk : regAt xs tok = k := by unfold regAt; rw [if_neg (by omega), h1]; simp
          have := h4 j xs[j] (by omega) (List.getElem?_eq_getElem (by omega))
          rw [g] at this; cases this
      · exact g
    have hhi : ∀ u ∈ xs.drop (regAt xs tok), sless tok u.1 = true := fun u hu' => by
      obtain ⟨j, hj, rfl⟩ := List.getElem_of_mem hu'
      rw [List.length_drop] at hj
      rw [List.getElem_drop]
      rcases Int.lt_or_le (idxX (gtP tok) xs 0) 0 with h | h
      · have hk : regAt xs tok = xs.length := by unfold regAt; rw [if_pos h]
        omega
      · obtain ⟨k, x, h1, h2, h3, h4⟩ := idxX_is xs 0 (by omega) h
        have hk : regAt xs tok = k := by unfold regAt; rw [if_neg (by omega), h1]; simp
        obtain ⟨hkl, rfl⟩ := List.getElem?_eq_some_iff.1 h2
        have hx : sless tok xs[k].1 = true := by
          rcases gt_or (hno xs[k] (List.getElem_mem _)) with ⟨_, g⟩ | ⟨g, _⟩
          · exact g
          · rw [g] at h3; cases h3
        by_cases hj0 : j = 0
        · subst hj0
          simpa [hk] using hx
        · have := List.pairwise_iff_getElem.1 c k (regAt xs tok + j) hkl (by omega) (by omega)
          exact sless_trans _ _ _ hx this
    refine (rightU_iff _).2 ⟨by rw [List.length_append, List.length_cons, List.length_take, List.length_drop]; omega, fun x hx => ?_, ?_⟩
    · rcases List.mem_append.1 hx with hx | hx
      · exact b x (List.mem_of_mem_take hx)
      · rcases List.mem_cons.1 hx with rfl | hx
        · exact (goodU_iff _).2 ⟨hw, hu, rfl⟩
        · exact b x (List.mem_of_mem_drop hx)
    · refine List.pairwise_append.2 ⟨c.sublist (List.take_sublist _ _), List.pairwise_cons.2 ⟨fun y hy => hhi y hy, c.sublist (List.drop_sublist _ _)⟩, fun x hx y hy => ?_⟩
      rcases List.mem_cons.1 hy with rfl | hy
      · exact hlo x hx
      · exact sless_trans _ _ _ (hlo x hx) (hhi y hy)
  · rfl
theorem reg_view {xs : List UserX} {tok mx two : ByteArray} (hne : tok ≠ two) : viewU (regU xs tok mx) two = viewU xs two := by
  unfold regU
  split
  · rw [view_mid (by exact hne), List.take_append_drop]
  · rfl
-- who goes, and comes again
theorem who_find (xs : List UserX) (tok : ByteArray) : (whoU xs tok).2 = (findU xs tok).2 := by
  unfold whoU
  split
  · rename_i h; exact h.symm
  · rfl
theorem goes {xs : List UserX} {tok : ByteArray} (h : (findU xs tok).2 = 0) : (whoU (logU xs tok) tok).2 = 14 ∧ regE (logU xs tok) tok (whoU xs tok).1 = 0 ∧ whoU (regU (logU xs tok) tok (whoU xs tok).1) tok = ((whoU xs tok).1, 0) ∧ (regU (logU xs tok) tok (whoU xs tok).1).length = xs.length := by
  obtain ⟨k, u, h1, h2, h3, hr⟩ := found_at h
  obtain ⟨a, b, c⟩ := (rightU_iff xs).1 hr
  have hl : logU xs tok = xs.take k ++ xs.drop (k + 1) := by unfold logU; rw [if_pos h, h1, Int.toNat_natCast]
  have hw : (whoU xs tok).1 = u.2.1 := by unfold whoU; rw [if_pos h, h1, Int.toNat_natCast, h2]; rfl
  have hg := (goodU_iff u).1 (b u (List.mem_of_getElem? h2))
  have hlr : rightU (logU xs tok) = true := by rw [log_right]; exact hr
  obtain ⟨hk, hku⟩ := List.getElem?_eq_some_iff.1 h2
  have hno : ∀ y ∈ logU xs tok, y.1 ≠ tok := fun y hy => by
    rw [hl] at hy
    have hp := c
    rw [split_at h2] at hp
    obtain ⟨_, p2, p3⟩ := List.pairwise_append.1 hp
    rcases List.mem_append.1 hy with hy | hy
    · have := sless_ne (p3 y hy u (.head _)); rw [h3] at this; exact this
    · have := sless_ne ((List.pairwise_cons.1 p2).1 y hy); rw [h3] at this; exact this.symm
  have hany : (logU xs tok).any (tokP tok) = false := List.any_eq_false.2 fun y hy => by simpa using hno y hy
  have hlen : (logU xs tok).length + 1 = xs.length := by rw [hl, List.length_append, List.length_take, List.length_drop]; omega
  have hv : viewU (logU xs tok) tok = none := by
    unfold viewU
    rw [List.find?_eq_none.2 fun y hy => by simpa using hno y hy]
    rfl
  have he : regE (logU xs tok) tok (whoU xs tok).1 = 0 := by
    unfold regE
    rw [if_pos ⟨hlr, by rw [← h3]; exact hg.1, by rw [hw]; exact hg.2.1⟩, if_neg (by rw [hany]; decide), if_neg (by omega)]
  have hrg : regU (logU xs tok) tok (whoU xs tok).1 = (logU xs tok).take (regAt (logU xs tok) tok) ++ (newU tok (whoU xs tok).1 :: (logU xs tok).drop (regAt (logU xs tok) tok)) := by unfold regU; rw [if_pos he]
  refine ⟨by rw [whoU_view, if_pos hlr, hv]; rfl, he, ?_, ?_⟩
  · rw [whoU_view, if_pos (by rw [reg_right]; exact hlr)]
    have hv2 : viewU (regU (logU xs tok) tok (whoU xs tok).1) tok = some ((whoU xs tok).1, []) := by
      rw [hrg]
      unfold viewU
      rw [List.find?_append, List.find?_eq_none.2 fun y hy => by simpa using hno y (List.mem_of_mem_take hy), List.find?_cons, show tokP tok (newU tok (whoU xs tok).1) = true by simp [newU]]
      rfl
    rw [hv2]; rfl
  · have := regAt_le (logU xs tok) tok
    rw [hrg, List.length_append, List.length_cons, List.length_take, List.length_drop]
    omega
end Go.Proofs.YthefddclefimoaaDoor
