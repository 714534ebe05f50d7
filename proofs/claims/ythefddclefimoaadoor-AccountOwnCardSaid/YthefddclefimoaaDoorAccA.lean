/- Package account: find, Whose, Register, Logout, Agreed. -/
import Derived.Test.YthefddclefimoaaDoorSlcC
namespace Go.Proofs.YthefddclefimoaaDoor
open Go.RowKit
set_option linter.unusedVariables false
set_option linter.unusedSimpArgs false
set_option maxRecDepth 8000

set_option maxHeartbeats 1000000 in
theorem indexFuncU_v (xs : List (UserX)) (p : UserX → Bool) (sv g : Value) (w : World) (L : List Nat) (hL : LL L w) (h1 : RdF 3 L w sv (xs.map encU))  (hg : ∀ W, Below w.heap.size w W → ∀ x ∈ xs, FV Tryd.prog g [.agg (encU x).toArray] W fun v _ => v = .bool (p x)) : CV Tryd.prog 32 [sv, g] w fun v W => v = .int .i64 (idxX p xs 0) := by
  refine cv_enter (N := 19) (f := [(0, sv), (1, g)]) Tryd.func32 rfl rfl rfl rfl fun Q hQ hE => ?_
  have hB := Below.refl w.heap.size w
  have h1m : xs.length ≤ maxLen := by have := h1.len; rwa [List.length_map] at this
  unfold maxLen at h1m
  refine WC.seq fun K1 hK1 => ?_
  refine WC.region ?_
  refine WL.val (dx_assign rfl rfl) rfl rfl ?_
  refine WL.nil ?_
  refine hK1 ?_
  refine WC.seq fun K2 hK2 => ?_
  refine WC.seq fun K3 hK3 => ?_
  refine WC.region ?_
  refine WL.val (dx_move rfl rfl) rfl rfl ?_
  refine WL.val (dx_lenX rfl ty_slice_22 rfl h1) rfl rfl ?_
  refine WL.val (dx_move rfl rfl) rfl rfl ?_
  refine WL.nil ?_
  refine hK3 ?_
  refine WC.block ?_
  refine WC.loop (fun (i : Nat) => [(0, sv), (1, g), (7, .int .i64 (xs.length : Int)), (8, .int .i64 (i : Int))]) (fun (i : Nat) W => i ≤ xs.length ∧ idxX p xs 0 = idxX p (xs.drop i) i ∧ Below w.heap.size w W ∧ LL (L) W ∧ RdF 3 (L) W sv (xs.map encU)) (fun (i : Nat) => xs.length - i) 0 (by repeat first | exact trivial | exact And.intro rfl trivial | refine And.intro rfl ?_ | refine And.intro (congrArg (fun z : Int => some (Value.int .i64 z)) (by omega)) ?_) ⟨Nat.zero_le _, rfl, hB, hL, h1⟩ ?_
  clear h1 hB hL
  rintro K4 i W5 ⟨hi, hv, hB, hL, h1⟩ hK4
  refine WC.seq fun K6 hK6 => ?_
  refine WC.region ?_
  refine WL.val (dx_lss rfl rfl rfl) rfl rfl ?_
  refine WL.nil ?_
  refine hK6 ?_
  refine WC.seq fun K7 hK7 => ?_
  refine WC.cond rfl (fun c8 => ?_) (fun c8 => ?_)
  ·
    replace c8 := of_decide_eq_true c8
    refine WC.skip ?_
    refine hK7 ?_
    refine WC.seq fun K9 hK9 => ?_
    refine WC.block ?_
    refine WC.seq fun K10 hK10 => ?_
    refine WC.region ?_
    refine WL.val (dx_move rfl rfl) rfl rfl ?_
    refine WL.val (dx_assign rfl rfl) rfl rfl ?_
    refine WL.nil ?_
    refine hK10 ?_
    refine WC.seq fun K11 hK11 => ?_
    refine WC.region ?_
    refine WL.val (dx_move rfl rfl) rfl rfl ?_
    refine WL.val (dx_move rfl rfl) rfl rfl ?_
    refine WL.val (dx_move rfl rfl) rfl rfl ?_
    obtain ⟨r12, e13⟩ : ∃ x, xs[i]? = some x := ⟨_, List.getElem?_eq_getElem (by omega)⟩
    refine WL.get (dx_idxF i rfl ty_slice_22 rfl rfl h1 (by omega) (at_mapX e13)) rfl rfl ?_
    rintro u14 _ ⟨rfl, p15⟩
    refine WL.val (dx_loadPN rfl ty_agg_57_3 rfl p15 rfl) rfl rfl ?_
    refine WL.get (dx_fv rfl rfl rfl (hg _ hB r12 (List.mem_of_getElem? e13))) rfl rfl ?_
    rintro _ W17 ⟨rfl, b16⟩
    replace h1 := h1.below b16
    replace p15 := p15.below b16
    replace hB := below_then hB b16
    replace hL := LL.below hL b16
    refine WL.nil ?_
    refine hK11 ?_
    refine WC.cond rfl (fun c18 => ?_) (fun c18 => ?_)
    ·
      refine WC.seq fun K19 hK19 => ?_
      refine WC.region ?_
      refine WL.val (dx_move rfl rfl) rfl rfl ?_
      refine WL.val (dx_assign rfl rfl) rfl rfl ?_
      refine WL.nil ?_
      refine hK19 ?_
      refine WC.ret fun a_ ha_ => ?_
      exact hQ (cv_ret1 rfl (.tmp rfl) (by rw [hv, idxX_here e13 (by assumption)]) hB ha_)
    ·
      refine WC.skip ?_
      refine hK9 ?_
      refine WC.region ?_
      refine WL.val (dx_add (r := (i : Int) + 1) rfl rfl rfl (wrap64_id (by omega))) rfl rfl ?_
      refine WL.val (dx_move rfl rfl) rfl rfl ?_
      refine WL.nil ?_
      exact hK4 (i + 1) ⟨(by omega), (by rw [hv]; exact idxX_step e13 (by assumption)), hB, hL, h1⟩ (by omega) (by repeat first | exact trivial | exact And.intro rfl trivial | refine And.intro rfl ?_ | refine And.intro (congrArg (fun z : Int => some (Value.int .i64 z)) (by omega)) ?_)
  ·
    replace c8 := of_decide_eq_false c8
    refine WC.exit ?_
    refine hK2 ?_
    refine WC.seq fun K20 hK20 => ?_
    refine WC.region ?_
    refine WL.val (dx_assign rfl rfl) rfl rfl ?_
    refine WL.nil ?_
    refine hK20 ?_
    refine WC.ret fun a_ ha_ => ?_
    exact hQ (cv_ret1 rfl (.tmp rfl) (by rw [hv, idxX_end (by omega)]) hB ha_)

set_option maxHeartbeats 1000000 in
theorem containsFuncU_v (xs : List (UserX)) (p : UserX → Bool) (sv g : Value) (w : World) (L : List Nat) (hL : LL L w) (h1 : RdF 3 L w sv (xs.map encU))  (hg : ∀ W, Below w.heap.size w W → ∀ x ∈ xs, FV Tryd.prog g [.agg (encU x).toArray] W fun v _ => v = .bool (p x)) : CV Tryd.prog 30 [sv, g] w fun v W => v = .bool (xs.any p) := by
  refine cv_enter (N := 9) (f := [(0, sv), (1, g)]) Tryd.func30 rfl rfl rfl rfl fun Q hQ hE => ?_
  have hB := Below.refl w.heap.size w
  have h1m : xs.length ≤ maxLen := by have := h1.len; rwa [List.length_map] at this
  unfold maxLen at h1m
  refine WC.seq fun K1 hK1 => ?_
  refine WC.region ?_
  refine WL.val (dx_assign rfl rfl) rfl rfl ?_
  refine WL.nil ?_
  refine hK1 ?_
  refine WC.seq fun K2 hK2 => ?_
  refine WC.region ?_
  refine WL.val (dx_move rfl rfl) rfl rfl ?_
  refine WL.val (dx_move rfl rfl) rfl rfl ?_
  refine WL.get (dx_cv rfl Tryd.func32 rfl rfl rfl (indexFuncU_v xs p _ _ w L (by first | exact hL | exact LL.below hL hB) h1 (fun W hW => hg W (below_then hB hW)))) rfl rfl ?_
  rintro _ W4 ⟨rfl, b3⟩
  replace h1 := h1.below b3
  replace hB := below_then hB b3
  replace hL := LL.below hL b3
  refine WL.val (dx_geq rfl rfl rfl) rfl rfl ?_
  refine WL.val (dx_assign rfl rfl) rfl rfl ?_
  refine WL.nil ?_
  refine hK2 ?_
  refine WC.ret fun a_ ha_ => ?_
  exact hQ (cv_ret1 rfl (.tmp rfl) (by rw [idxX_any xs 0 (by omega)]) hB ha_)

set_option maxHeartbeats 1000000 in
theorem indexFuncT_v (xs : List (ByteArray)) (p : ByteArray → Bool) (sv g : Value) (w : World) (L : List Nat) (hL : LL L w) (h1 : RdF 1 L w sv (xs.map encT))  (hg : ∀ W, Below w.heap.size w W → ∀ x ∈ xs, FV Tryd.prog g [.string x] W fun v _ => v = .bool (p x)) : CV Tryd.prog 54 [sv, g] w fun v W => v = .int .i64 (idxX p xs 0) := by
  refine cv_enter (N := 19) (f := [(0, sv), (1, g)]) Tryd.func54 rfl rfl rfl rfl fun Q hQ hE => ?_
  have hB := Below.refl w.heap.size w
  have h1m : xs.length ≤ maxLen := by have := h1.len; rwa [List.length_map] at this
  unfold maxLen at h1m
  refine WC.seq fun K1 hK1 => ?_
  refine WC.region ?_
  refine WL.val (dx_assign rfl rfl) rfl rfl ?_
  refine WL.nil ?_
  refine hK1 ?_
  refine WC.seq fun K2 hK2 => ?_
  refine WC.seq fun K3 hK3 => ?_
  refine WC.region ?_
  refine WL.val (dx_move rfl rfl) rfl rfl ?_
  refine WL.val (dx_lenX rfl ty_slice_55 rfl h1) rfl rfl ?_
  refine WL.val (dx_move rfl rfl) rfl rfl ?_
  refine WL.nil ?_
  refine hK3 ?_
  refine WC.block ?_
  refine WC.loop (fun (i : Nat) => [(0, sv), (1, g), (7, .int .i64 (xs.length : Int)), (8, .int .i64 (i : Int))]) (fun (i : Nat) W => i ≤ xs.length ∧ idxX p xs 0 = idxX p (xs.drop i) i ∧ Below w.heap.size w W ∧ LL (L) W ∧ RdF 1 (L) W sv (xs.map encT)) (fun (i : Nat) => xs.length - i) 0 (by repeat first | exact trivial | exact And.intro rfl trivial | refine And.intro rfl ?_ | refine And.intro (congrArg (fun z : Int => some (Value.int .i64 z)) (by omega)) ?_) ⟨Nat.zero_le _, rfl, hB, hL, h1⟩ ?_
  clear h1 hB hL
  rintro K4 i W5 ⟨hi, hv, hB, hL, h1⟩ hK4
  refine WC.seq fun K6 hK6 => ?_
  refine WC.region ?_
  refine WL.val (dx_lss rfl rfl rfl) rfl rfl ?_
  refine WL.nil ?_
  refine hK6 ?_
  refine WC.seq fun K7 hK7 => ?_
  refine WC.cond rfl (fun c8 => ?_) (fun c8 => ?_)
  ·
    replace c8 := of_decide_eq_true c8
    refine WC.skip ?_
    refine hK7 ?_
    refine WC.seq fun K9 hK9 => ?_
    refine WC.block ?_
    refine WC.seq fun K10 hK10 => ?_
    refine WC.region ?_
    refine WL.val (dx_move rfl rfl) rfl rfl ?_
    refine WL.val (dx_assign rfl rfl) rfl rfl ?_
    refine WL.nil ?_
    refine hK10 ?_
    refine WC.seq fun K11 hK11 => ?_
    refine WC.region ?_
    refine WL.val (dx_move rfl rfl) rfl rfl ?_
    refine WL.val (dx_move rfl rfl) rfl rfl ?_
    refine WL.val (dx_move rfl rfl) rfl rfl ?_
    obtain ⟨r12, e13⟩ : ∃ x, xs[i]? = some x := ⟨_, List.getElem?_eq_getElem (by omega)⟩
    refine WL.get (dx_idxF i rfl ty_slice_55 rfl rfl h1 (by omega) (at_mapX e13)) rfl rfl ?_
    rintro u14 _ ⟨rfl, p15⟩
    refine WL.val (dx_loadP rfl ty_one_9 rfl p15) rfl rfl ?_
    refine WL.get (dx_fv rfl rfl rfl (hg _ hB r12 (List.mem_of_getElem? e13))) rfl rfl ?_
    rintro _ W17 ⟨rfl, b16⟩
    replace h1 := h1.below b16
    replace p15 := p15.below b16
    replace hB := below_then hB b16
    replace hL := LL.below hL b16
    refine WL.nil ?_
    refine hK11 ?_
    refine WC.cond rfl (fun c18 => ?_) (fun c18 => ?_)
    ·
      refine WC.seq fun K19 hK19 => ?_
      refine WC.region ?_
      refine WL.val (dx_move rfl rfl) rfl rfl ?_
      refine WL.val (dx_assign rfl rfl) rfl rfl ?_
      refine WL.nil ?_
      refine hK19 ?_
      refine WC.ret fun a_ ha_ => ?_
      exact hQ (cv_ret1 rfl (.tmp rfl) (by rw [hv, idxX_here e13 (by assumption)]) hB ha_)
    ·
      refine WC.skip ?_
      refine hK9 ?_
      refine WC.region ?_
      refine WL.val (dx_add (r := (i : Int) + 1) rfl rfl rfl (wrap64_id (by omega))) rfl rfl ?_
      refine WL.val (dx_move rfl rfl) rfl rfl ?_
      refine WL.nil ?_
      exact hK4 (i + 1) ⟨(by omega), (by rw [hv]; exact idxX_step e13 (by assumption)), hB, hL, h1⟩ (by omega) (by repeat first | exact trivial | exact And.intro rfl trivial | refine And.intro rfl ?_ | refine And.intro (congrArg (fun z : Int => some (Value.int .i64 z)) (by omega)) ?_)
  ·
    replace c8 := of_decide_eq_false c8
    refine WC.exit ?_
    refine hK2 ?_
    refine WC.seq fun K20 hK20 => ?_
    refine WC.region ?_
    refine WL.val (dx_assign rfl rfl) rfl rfl ?_
    refine WL.nil ?_
    refine hK20 ?_
    refine WC.ret fun a_ ha_ => ?_
    exact hQ (cv_ret1 rfl (.tmp rfl) (by rw [hv, idxX_end (by omega)]) hB ha_)

set_option maxHeartbeats 1000000 in
theorem containsFuncT_v (xs : List (ByteArray)) (p : ByteArray → Bool) (sv g : Value) (w : World) (L : List Nat) (hL : LL L w) (h1 : RdF 1 L w sv (xs.map encT))  (hg : ∀ W, Below w.heap.size w W → ∀ x ∈ xs, FV Tryd.prog g [.string x] W fun v _ => v = .bool (p x)) : CV Tryd.prog 35 [sv, g] w fun v W => v = .bool (xs.any p) := by
  refine cv_enter (N := 9) (f := [(0, sv), (1, g)]) Tryd.func35 rfl rfl rfl rfl fun Q hQ hE => ?_
  have hB := Below.refl w.heap.size w
  have h1m : xs.length ≤ maxLen := by have := h1.len; rwa [List.length_map] at this
  unfold maxLen at h1m
  refine WC.seq fun K1 hK1 => ?_
  refine WC.region ?_
  refine WL.val (dx_assign rfl rfl) rfl rfl ?_
  refine WL.nil ?_
  refine hK1 ?_
  refine WC.seq fun K2 hK2 => ?_
  refine WC.region ?_
  refine WL.val (dx_move rfl rfl) rfl rfl ?_
  refine WL.val (dx_move rfl rfl) rfl rfl ?_
  refine WL.get (dx_cv rfl Tryd.func54 rfl rfl rfl (indexFuncT_v xs p _ _ w L (by first | exact hL | exact LL.below hL hB) h1 (fun W hW => hg W (below_then hB hW)))) rfl rfl ?_
  rintro _ W4 ⟨rfl, b3⟩
  replace h1 := h1.below b3
  replace hB := below_then hB b3
  replace hL := LL.below hL b3
  refine WL.val (dx_geq rfl rfl rfl) rfl rfl ?_
  refine WL.val (dx_assign rfl rfl) rfl rfl ?_
  refine WL.nil ?_
  refine hK2 ?_
  refine WC.ret fun a_ ha_ => ?_
  exact hQ (cv_ret1 rfl (.tmp rfl) (by rw [idxX_any xs 0 (by omega)]) hB ha_)

set_option maxHeartbeats 1000000 in
theorem of1_v (p : UserX) (tok : ByteArray) (u : Value) (w : World) (L : List Nat) (hL : LL L w) (h0 : PtR L w u [.string tok]) : CV Tryd.prog 51 [.agg #[.string p.1, .string p.2.1, p.2.2.1], u] w fun v W => v = .bool (decide (p.1 = tok)) := by
  refine cv_enter (N := 8) (f := [(0, .agg #[.string p.1, .string p.2.1, p.2.2.1]), (1, u)]) Tryd.func51 rfl rfl rfl rfl fun Q hQ hE => ?_
  have hB := Below.refl w.heap.size w
  refine WC.seq fun K1 hK1 => ?_
  refine WC.region ?_
  refine WL.get (dx_box rfl rfl rfl) rfl rfl ?_
  rintro _ W2 ⟨rfl, k3, b4, z5⟩
  have l6 := hB.size
  replace h0 := h0.more b4 (Nat.le_refl _)
  replace hB := below_then hB b4
  replace hL := LL.more hL z5
  refine WL.val (dx_assign rfl rfl) rfl rfl ?_
  refine WL.nil ?_
  refine hK1 ?_
  refine WC.seq fun K7 hK7 => ?_
  refine WC.region ?_
  refine WL.val (dx_fld (o1 := 0) rfl ty_fld_57_0_0 rfl rfl) rfl rfl ?_
  refine WL.val (dx_load rfl ty_one_9 rfl (k3.cell (k := 0) rfl)) rfl rfl ?_
  refine WL.val (dx_loadP rfl ty_one_9 rfl h0) rfl rfl ?_
  refine WL.val (dx_eqlT rfl rfl rfl) rfl rfl ?_
  refine WL.val (dx_assign rfl rfl) rfl rfl ?_
  refine WL.nil ?_
  refine hK7 ?_
  refine WC.ret fun a_ ha_ => ?_
  exact hQ (cv_ret1 rfl (.tmp rfl) rfl hB ha_)

set_option maxHeartbeats 1000000 in
theorem of_v (tok : ByteArray) (w : World) (L : List Nat) (hL : LL L w)  : CV Tryd.prog 31 [.string tok] w fun v W => ∃ u, v = .func (.func 51) #[] #[u] ∧ PtR L W u [.string tok] := by
  refine cv_enter (N := 4) (f := [(0, .string tok)]) Tryd.func31 rfl rfl rfl rfl fun Q hQ hE => ?_
  have hB := Below.refl w.heap.size w
  have hL0 := hL
  refine WC.seq fun K1 hK1 => ?_
  refine WC.region ?_
  refine WL.get (dx_box (cs := [.string tok]) rfl rfl rfl) rfl rfl ?_
  rintro _ W2 ⟨rfl, k3, b4, z5⟩
  have l6 := hB.size
  replace hB := below_then hB b4
  replace hL := LL.more hL z5
  refine WL.val (dx_assign rfl rfl) rfl rfl ?_
  refine WL.nil ?_
  refine hK1 ?_
  refine WC.seq fun K7 hK7 => ?_
  refine WC.region ?_
  refine WL.val (dx_func rfl rfl rfl) rfl rfl ?_
  refine WL.val (dx_assign rfl rfl) rfl rfl ?_
  refine WL.nil ?_
  refine hK7 ?_
  refine WC.ret fun a_ ha_ => ?_
  exact hQ (cv_ret1 rfl (.tmp rfl) ⟨_, rfl, ⟨Nat.succ_pos _, _, _, rfl, hL0.notin l6, k3.range⟩⟩ hB ha_)

abbrev tokP (tok : ByteArray) (u : UserX) : Bool := decide (u.1 = tok)
abbrev gtP (tok : ByteArray) (u : UserX) : Bool := !(sless u.1 tok || decide (u.1 = tok))
def findU (xs : List UserX) (tok : ByteArray) : Int × Int := if rightU xs = true then (if idxX (tokP tok) xs 0 < 0 then (0, 14) else (idxX (tokP tok) xs 0, 0)) else (0, 1)
theorem right_len {α : Type} {n : Nat} {g : α → Bool} {r : α → α → Bool} {xs : List α} (h : rightL n g r xs = true) : xs.length ≤ n := by
  unfold rightL at h
  simp only [Bool.and_eq_true, decide_eq_true_eq] at h
  exact h.1
theorem idxX_lt {α : Type} {p : α → Bool} : ∀ (xs : List α) (i : Int), idxX p xs i = -1 ∨ (i ≤ idxX p xs i ∧ idxX p xs i < i + xs.length)
  | [], i => .inl rfl
  | x :: l, i => by
    unfold idxX
    split
    · refine .inr ⟨by omega, by simp; omega⟩
    · rcases idxX_lt l (i + 1) with h | ⟨h1, h2⟩
      · exact .inl h
      · refine .inr ⟨by omega, by simp only [List.length_cons]; omega⟩
theorem idxX_is {α : Type} {p : α → Bool} : ∀ (xs : List α) (i : Int), 0 ≤ i → 0 ≤ idxX p xs i → ∃ k a, idxX p xs i = i + (k : Nat) ∧ xs[k]? = some a ∧ p a = true ∧ ∀ j b, j < k → xs[j]? = some b → p b = false
  | [], i, _, h => by simp [idxX] at h
  | x :: l, i, hi, h => by
    unfold idxX at h ⊢
    cases hx : p x with
    | true =>
      simp only [if_pos]
      exact ⟨0, x, by simp, rfl, hx, fun j b hj => absurd hj (by omega)⟩
    | false =>
      rw [hx] at h
      simp only [Bool.false_eq_true, if_false] at h ⊢
      obtain ⟨k, a, h1, h2, h3, h4⟩ := idxX_is l (i + 1) (by omega) h
      refine ⟨k + 1, a, by rw [h1]; omega, by simpa using h2, h3, fun j b hj hb => ?_⟩
      cases j with
      | zero => simp at hb; subst hb; exact hx
      | succ j => exact h4 j b (by omega) (by simpa using hb)
theorem idxX_no {α : Type} {p : α → Bool} : ∀ (xs : List α) (i : Int), 0 ≤ i → idxX p xs i < 0 → ∀ a ∈ xs, p a = false
  | [], i, _, _, a, ha => by cases ha
  | x :: l, i, hi, h, a, ha => by
    unfold idxX at h
    cases hx : p x with
    | true => rw [hx] at h; simp at h; omega
    | false =>
      rw [hx] at h
      simp only [Bool.false_eq_true, if_false] at h
      rcases List.mem_cons.1 ha with rfl | ha
      · exact hx
      · exact idxX_no l (i + 1) (by omega) h a ha
theorem findU_ok {xs : List UserX} {tok : ByteArray} (h : (findU xs tok).2 = 0) : rightU xs = true ∧ ∃ k u, (findU xs tok).1 = (k : Nat) ∧ xs[k]? = some u ∧ u.1 = tok ∧ ∀ j b, j < k → xs[j]? = some b → b.1 ≠ tok := by
  unfold findU at h ⊢
  split at h
  · rename_i hr
    refine ⟨hr, ?_⟩
    split at h
    · cases h
    · rename_i hi
      rw [if_pos hr, if_neg hi]
      obtain ⟨k, a, h1, h2, h3, h4⟩ := idxX_is (p := tokP tok) xs 0 (by omega) (by omega)
      exact ⟨k, a, by rw [h1]; simp, h2, by simpa using h3, fun j b hj hb => by simpa using h4 j b hj hb⟩
  · cases h
set_option maxHeartbeats 1000000 in
theorem find_v (xs : List UserX) (tok : ByteArray) (sv : Value) (w : World) (L : List Nat) (hL : LL L w) (h1 : RdF 3 L w sv (xs.map encU)) (h2 : AgU L w xs) (hM : MaxL L w) : CV Tryd.prog 21 [sv, .string tok] w fun v W => v = .tuple #[.int .i64 (findU xs tok).1, .int .i64 (findU xs tok).2] := by
  refine cv_enter (N := 17) (f := [(0, sv), (1, .string tok)]) Tryd.func21 rfl rfl rfl rfl fun Q hQ hE => ?_
  have hB := Below.refl w.heap.size w
  have h1m : xs.length ≤ maxLen := by have := h1.len; rwa [List.length_map] at this
  unfold maxLen at h1m
  refine WC.seq fun K1 hK1 => ?_
  refine WC.region ?_
  refine WL.val (dx_assign rfl rfl) rfl rfl ?_
  refine WL.val (dx_assign rfl rfl) rfl rfl ?_
  refine WL.nil ?_
  refine hK1 ?_
  refine WC.seq fun K2 hK2 => ?_
  refine WC.seq fun K3 hK3 => ?_
  refine WC.region ?_
  refine WL.val (dx_move rfl rfl) rfl rfl ?_
  refine WL.get (dx_cv rfl Tryd.func28 rfl rfl rfl (rightU_v xs _ w _ hL h1 h2 hM)) rfl rfl ?_
  rintro _ W5 ⟨rfl, b4⟩
  replace h1 := h1.below b4
  replace h2 := h2.below b4
  replace hM := hM.below b4
  replace hB := below_then hB b4
  replace hL := LL.below hL b4
  refine WL.val (dx_not rfl rfl) rfl rfl ?_
  refine WL.nil ?_
  refine hK3 ?_
  refine WC.cond rfl (fun c6 => ?_) (fun c6 => ?_)
  ·
    replace c6 := bnot_t c6
    refine WC.seq fun K7 hK7 => ?_
    refine WC.region ?_
    refine WL.val (dx_assign rfl rfl) rfl rfl ?_
    refine WL.val (dx_assign rfl rfl) rfl rfl ?_
    refine WL.nil ?_
    refine hK7 ?_
    refine WC.ret fun a_ ha_ => ?_
    exact hQ (cv_ret2 rfl (.tmp rfl) (.tmp rfl) (by unfold findU; simp [*]) hB ha_)
  ·
    replace c6 := bnot_f c6
    refine WC.skip ?_
    refine hK2 ?_
    refine WC.seq fun K8 hK8 => ?_
    refine WC.region ?_
    refine WL.val (dx_move rfl rfl) rfl rfl ?_
    refine WL.val (dx_move rfl rfl) rfl rfl ?_
    refine WL.get (dx_cv rfl Tryd.func31 rfl rfl rfl (of_v tok W5 _ hL)) rfl rfl ?_
    rintro _ W12 ⟨⟨u9, rfl, p10⟩, b11⟩
    replace h1 := h1.below b11
    replace h2 := h2.below b11
    replace hM := hM.below b11
    replace hB := below_then hB b11
    replace hL := LL.below hL b11
    refine WL.get (dx_cv rfl Tryd.func32 rfl rfl rfl (indexFuncU_v xs (tokP tok) _ _ W12 _ hL h1 (fun W hW x hx => fv_of (cs := [u9]) Tryd.func51 rfl rfl (of1_v x tok _ W _ (LL.below hL hW) (p10.below hW))))) rfl rfl ?_
    rintro _ W14 ⟨rfl, b13⟩
    replace h1 := h1.below b13
    replace h2 := h2.below b13
    replace hM := hM.below b13
    replace p10 := p10.below b13
    replace hB := below_then hB b13
    replace hL := LL.below hL b13
    refine WL.val (dx_assign rfl rfl) rfl rfl ?_
    refine WL.nil ?_
    refine hK8 ?_
    refine WC.seq fun K15 hK15 => ?_
    refine WC.seq fun K16 hK16 => ?_
    refine WC.region ?_
    refine WL.val (dx_move rfl rfl) rfl rfl ?_
    refine WL.val (dx_lss rfl rfl rfl) rfl rfl ?_
    refine WL.nil ?_
    refine hK16 ?_
    refine WC.cond rfl (fun c17 => ?_) (fun c17 => ?_)
    ·
      replace c17 := of_decide_eq_true c17
      refine WC.seq fun K18 hK18 => ?_
      refine WC.region ?_
      refine WL.val (dx_assign rfl rfl) rfl rfl ?_
      refine WL.val (dx_assign rfl rfl) rfl rfl ?_
      refine WL.nil ?_
      refine hK18 ?_
      refine WC.ret fun a_ ha_ => ?_
      exact hQ (cv_ret2 rfl (.tmp rfl) (.tmp rfl) (by unfold findU; simp [*]) hB ha_)
    ·
      replace c17 := of_decide_eq_false c17
      refine WC.skip ?_
      refine hK15 ?_
      refine WC.seq fun K19 hK19 => ?_
      refine WC.region ?_
      refine WL.val (dx_move rfl rfl) rfl rfl ?_
      refine WL.val (dx_assign rfl rfl) rfl rfl ?_
      refine WL.val (dx_assign rfl rfl) rfl rfl ?_
      refine WL.nil ?_
      refine hK19 ?_
      refine WC.ret fun a_ ha_ => ?_
      exact hQ (cv_ret2 rfl (.tmp rfl) (.tmp rfl) (by unfold findU; simp [*]) hB ha_)

def whoU (xs : List UserX) (tok : ByteArray) : ByteArray × Int := if (findU xs tok).2 = 0 then (((xs[(findU xs tok).1.toNat]?).map (·.2.1)).getD ⟨#[]⟩, 0) else (⟨#[]⟩, (findU xs tok).2)
set_option maxHeartbeats 1000000 in
theorem whose_v (xs : List UserX) (tok : ByteArray) (sv : Value) (w : World) (L : List Nat) (hL : LL L w) (h1 : RdF 3 L w sv (xs.map encU)) (h2 : AgU L w xs) (hM : MaxL L w) : CV Tryd.prog 12 [sv, .string tok] w fun v W => v = .tuple #[.string (whoU xs tok).1, .int .i64 (whoU xs tok).2] := by
  refine cv_enter (N := 22) (f := [(0, sv), (1, .string tok)]) Tryd.func12 rfl rfl rfl rfl fun Q hQ hE => ?_
  have hB := Below.refl w.heap.size w
  have h1m : xs.length ≤ maxLen := by have := h1.len; rwa [List.length_map] at this
  unfold maxLen at h1m
  refine WC.seq fun K1 hK1 => ?_
  refine WC.region ?_
  refine WL.val (dx_assign rfl rfl) rfl rfl ?_
  refine WL.val (dx_assign rfl rfl) rfl rfl ?_
  refine WL.nil ?_
  refine hK1 ?_
  refine WC.seq fun K2 hK2 => ?_
  refine WC.region ?_
  refine WL.val (dx_move rfl rfl) rfl rfl ?_
  refine WL.val (dx_move rfl rfl) rfl rfl ?_
  refine WL.get (dx_cv rfl Tryd.func21 rfl rfl rfl (find_v xs tok _ w _ hL h1 h2 hM)) rfl rfl ?_
  rintro _ W4 ⟨rfl, b3⟩
  replace h1 := h1.below b3
  replace h2 := h2.below b3
  replace hM := hM.below b3
  replace hB := below_then hB b3
  replace hL := LL.below hL b3
  refine WL.val (dx_move rfl rfl) rfl rfl ?_
  refine WL.val (dx_extract rfl rfl rfl) rfl rfl ?_
  refine WL.val (dx_extract rfl rfl rfl) rfl rfl ?_
  refine WL.val (dx_assign rfl rfl) rfl rfl ?_
  refine WL.val (dx_assign rfl rfl) rfl rfl ?_
  refine WL.nil ?_
  refine hK2 ?_
  refine WC.seq fun K5 hK5 => ?_
  refine WC.seq fun K6 hK6 => ?_
  refine WC.region ?_
  refine WL.val (dx_move rfl rfl) rfl rfl ?_
  refine WL.val (dx_neq rfl rfl rfl) rfl rfl ?_
  refine WL.nil ?_
  refine hK6 ?_
  refine WC.cond rfl (fun c7 => ?_) (fun c7 => ?_)
  ·
    replace c7 := bnot_t c7
    replace c7 := of_decide_eq_false c7
    refine WC.seq fun K8 hK8 => ?_
    refine WC.region ?_
    refine WL.val (dx_move rfl rfl) rfl rfl ?_
    refine WL.val (dx_assign rfl rfl) rfl rfl ?_
    refine WL.val (dx_assign rfl rfl) rfl rfl ?_
    refine WL.nil ?_
    refine hK8 ?_
    refine WC.ret fun a_ ha_ => ?_
    exact hQ (cv_ret2 rfl (.tmp rfl) (.tmp rfl) (by unfold whoU; rw [if_neg (by assumption)]; rfl) hB ha_)
  ·
    replace c7 := bnot_f c7
    replace c7 := of_decide_eq_true c7
    refine WC.skip ?_
    refine hK5 ?_
    refine WC.seq fun K9 hK9 => ?_
    obtain ⟨hr0, k0, u0, hk0, hu0, ht0, hn0⟩ := findU_ok (by first | assumption | exact Classical.not_not.1 (by assumption))
    have hl0 := (List.getElem?_eq_some_iff.1 hu0).1
    have hrl := right_len hr0
    refine WC.region ?_
    refine WL.val (dx_move rfl rfl) rfl rfl ?_
    refine WL.val (dx_move rfl rfl) rfl rfl ?_
    refine WL.get (dx_idxF k0 rfl ty_slice_22 rfl rfl h1 (by omega) (at_mapX hu0)) rfl rfl ?_
    rintro u10 _ ⟨rfl, p11⟩
    refine WL.get (dx_fldP 1 rfl ty_fld_57_1_1 rfl p11 (cs' := [.string u0.2.1]) rfl (Nat.succ_pos _)) rfl rfl ?_
    rintro u12 _ ⟨rfl, p13⟩
    refine WL.val (dx_loadP rfl ty_one_9 rfl p13) rfl rfl ?_
    refine WL.val (dx_assign rfl rfl) rfl rfl ?_
    refine WL.val (dx_assign rfl rfl) rfl rfl ?_
    refine WL.nil ?_
    refine hK9 ?_
    refine WC.ret fun a_ ha_ => ?_
    exact hQ (cv_ret2 rfl (.tmp rfl) (.tmp rfl) (by unfold whoU; rw [if_pos (by assumption), hk0, Int.toNat_natCast, hu0]; rfl) hB ha_)

def regE (xs : List UserX) (tok mx : ByteArray) : Int := if rightU xs = true ∧ wordB tok = true ∧ userB mx = true then (if xs.any (tokP tok) = true then 6 else if (xs.length : Int) = 16 then 10 else 0) else 1
def regAt (xs : List UserX) (tok : ByteArray) : Nat := if idxX (gtP tok) xs 0 < 0 then xs.length else (idxX (gtP tok) xs 0).toNat
def newU (tok mx : ByteArray) : UserX := (tok, mx, .slice none 0 0, [])
def regU (xs : List UserX) (tok mx : ByteArray) : List UserX := if regE xs tok mx = 0 then xs.take (regAt xs tok) ++ (newU tok mx :: xs.drop (regAt xs tok)) else xs
theorem regAt_le (xs : List UserX) (tok : ByteArray) : regAt xs tok ≤ xs.length := by
  unfold regAt
  rcases idxX_lt (p := gtP tok) xs 0 with h | h
  · rw [if_pos (by omega)]; omega
  · rw [if_neg (by omega)]; omega
theorem reg_ne {xs : List UserX} {tok mx : ByteArray} (h : xs.any (tokP tok) = false) : ∀ r ∈ xs.map encU, r ≠ encU (newU tok mx) := fun r hr e => by
  obtain ⟨u, hu, rfl⟩ := List.mem_map.1 hr
  refine absurd (List.any_eq_true.2 ⟨u, hu, ?_⟩) (by rw [h]; decide)
  have := (List.cons.inj e).1
  simpa [newU] using this
theorem reg_rows (xs : List UserX) (tok mx : ByteArray) (k : Nat) : (xs.map encU).take k ++ ([encU (newU tok mx)] ++ (xs.map encU).drop k) = (xs.take k ++ (newU tok mx :: xs.drop k)).map encU := by simp
theorem AgU.reg {L : List Nat} {w : World} {xs : List UserX} (h : AgU L w xs) (tok mx : ByteArray) (k : Nat) : AgU L w (xs.take k ++ (newU tok mx :: xs.drop k)) := fun u hu => by
  rcases List.mem_append.1 hu with hu | hu
  · exact h u (List.mem_of_mem_take hu)
  · rcases List.mem_cons.1 hu with rfl | hu
    · exact RdF.nil (by decide)
    · exact h u (List.mem_of_mem_drop hu)
def logU (xs : List UserX) (tok : ByteArray) : List UserX := if (findU xs tok).2 = 0 then xs.take (findU xs tok).1.toNat ++ xs.drop ((findU xs tok).1.toNat + 1) else xs
theorem log_rows (xs : List UserX) (k : Nat) : (xs.map encU).take k ++ (xs.map encU).drop (k + 1) = (xs.take k ++ xs.drop (k + 1)).map encU := by simp
theorem AgU.del {L : List Nat} {w : World} {xs : List UserX} (h : AgU L w xs) (k : Nat) : AgU L w (xs.take k ++ xs.drop (k + 1)) := fun u hu => by
  rcases List.mem_append.1 hu with hu | hu
  · exact h u (List.mem_of_mem_take hu)
  · exact h u (List.mem_of_mem_drop hu)
set_option maxHeartbeats 1000000 in
theorem reg1_v (p : UserX) (tok : ByteArray) (u : Value) (w : World) (L : List Nat) (hL : LL L w) (h0 : PtR L w u [.string tok]) : CV Tryd.prog 33 [.agg #[.string p.1, .string p.2.1, p.2.2.1], u] w fun v W => v = .bool (gtP tok p) := by
  refine cv_enter (N := 8) (f := [(0, .agg #[.string p.1, .string p.2.1, p.2.2.1]), (1, u)]) Tryd.func33 rfl rfl rfl rfl fun Q hQ hE => ?_
  have hB := Below.refl w.heap.size w
  refine WC.seq fun K1 hK1 => ?_
  refine WC.region ?_
  refine WL.get (dx_box rfl rfl rfl) rfl rfl ?_
  rintro _ W2 ⟨rfl, k3, b4, z5⟩
  have l6 := hB.size
  replace h0 := h0.more b4 (Nat.le_refl _)
  replace hB := below_then hB b4
  replace hL := LL.more hL z5
  refine WL.val (dx_assign rfl rfl) rfl rfl ?_
  refine WL.nil ?_
  refine hK1 ?_
  refine WC.seq fun K7 hK7 => ?_
  refine WC.region ?_
  refine WL.val (dx_fld (o1 := 0) rfl ty_fld_57_0_0 rfl rfl) rfl rfl ?_
  refine WL.val (dx_load rfl ty_one_9 rfl (k3.cell (k := 0) rfl)) rfl rfl ?_
  refine WL.val (dx_loadP rfl ty_one_9 rfl h0) rfl rfl ?_
  refine WL.val (dx_gtrT rfl rfl rfl) rfl rfl ?_
  refine WL.val (dx_assign rfl rfl) rfl rfl ?_
  refine WL.nil ?_
  refine hK7 ?_
  refine WC.ret fun a_ ha_ => ?_
  exact hQ (cv_ret1 rfl (.tmp rfl) rfl hB ha_)

set_option maxHeartbeats 1000000 in
theorem register_v (xs : List UserX) (tok mx : ByteArray) (sv : Value) (w : World) (L : List Nat) (hL : LL L w) (h1 : RdF 3 L w sv (xs.map encU)) (h2 : AgU L w xs) (hM : MaxL L w) : CV Tryd.prog 11 [sv, .string tok, .string mx] w fun v W => ∃ s2, v = .tuple #[s2, .int .i64 (regE xs tok mx)] ∧ RdF 3 L W s2 ((regU xs tok mx).map encU) ∧ AgU L W (regU xs tok mx) := by
  refine cv_enter (N := 47) (f := [(0, sv), (1, .string tok), (2, .string mx)]) Tryd.func11 rfl rfl rfl rfl fun Q hQ hE => ?_
  have hB := Below.refl w.heap.size w
  have hL0 := hL
  have h1m : xs.length ≤ maxLen := by have := h1.len; rwa [List.length_map] at this
  unfold maxLen at h1m
  refine WC.seq fun K1 hK1 => ?_
  refine WC.region ?_
  refine WL.get (dx_box (cs := [.string tok]) rfl rfl rfl) rfl rfl ?_
  rintro _ W2 ⟨rfl, k3, b4, z5⟩
  have l6 := hB.size
  replace h1 := h1.more b4 (Nat.le_refl _)
  replace h2 := h2.more b4 (Nat.le_refl _)
  replace hM := hM.more b4 (Nat.le_refl _)
  replace hB := below_then hB b4
  replace hL := LL.more hL z5
  refine WL.val (dx_assign rfl rfl) rfl rfl ?_
  refine WL.val (dx_assign rfl rfl) rfl rfl ?_
  refine WL.nil ?_
  refine hK1 ?_
  refine WC.seq fun K7 hK7 => ?_
  refine WC.seq fun K8 hK8 => ?_
  refine WC.region ?_
  refine WL.val (dx_move rfl rfl) rfl rfl ?_
  refine WL.get (dx_cv rfl Tryd.func28 rfl rfl rfl (rightU_v xs _ W2 _ hL h1 h2 hM)) rfl rfl ?_
  rintro _ W10 ⟨rfl, b9⟩
  replace h1 := h1.below b9
  replace h2 := h2.below b9
  replace hM := hM.below b9
  replace k3 := k3.below b9
  replace hB := below_then hB b9
  replace hL := LL.below hL b9
  refine WL.val (dx_not rfl rfl) rfl rfl ?_
  refine WL.val (dx_move rfl rfl) rfl rfl ?_
  refine WL.split 12 rfl (fun g11 => ?_) (fun g11 => ?_)
  ·
    replace g11 := bnot_t g11
    refine WL.off rfl rfl rfl ?_
    refine WL.off rfl rfl rfl ?_
    refine WL.off rfl rfl rfl ?_
    refine WL.val (dx_pick rfl rfl rfl) rfl rfl ?_
    refine WL.val (dx_move rfl rfl) rfl rfl ?_
    refine WL.off rfl rfl rfl ?_
    refine WL.off rfl rfl rfl ?_
    refine WL.off rfl rfl rfl ?_
    refine WL.val (dx_pick rfl rfl rfl) rfl rfl ?_
    refine WL.nil ?_
    refine hK8 ?_
    refine WC.condT rfl ?_
    refine WC.seq fun K12 hK12 => ?_
    refine WC.region ?_
    refine WL.val (dx_move rfl rfl) rfl rfl ?_
    refine WL.val (dx_assign rfl rfl) rfl rfl ?_
    refine WL.val (dx_assign rfl rfl) rfl rfl ?_
    refine WL.nil ?_
    refine hK12 ?_
    refine WC.ret fun a_ ha_ => ?_
    exact hQ (cv_ret2 rfl (.tmp rfl) (.tmp rfl) (by have he := (show regE xs tok mx = 1 by unfold regE; simp [*]); have hr : regU xs tok mx = xs := (by unfold regU; rw [if_neg (by rw [he]; decide)]); rw [he, hr]; exact ⟨_, rfl, (h1.less (fun x hx => (.tail _ hx))), (h2.less (fun x hx => (.tail _ hx)))⟩) hB ha_)
  ·
    replace g11 := bnot_f g11
    refine WL.val (dx_load rfl ty_one_9 rfl (k3.cell (k := 0) rfl)) rfl rfl ?_
    refine WL.get (dx_cv rfl Tryd.func22 rfl rfl rfl (word_v tok W10 [] (LL.nil _))) rfl rfl ?_
    rintro _ W14 ⟨rfl, b13⟩
    replace h1 := h1.below b13
    replace h2 := h2.below b13
    replace hM := hM.below b13
    replace k3 := k3.below b13
    replace hB := below_then hB b13
    replace hL := LL.below hL b13
    refine WL.val (dx_not rfl rfl) rfl rfl ?_
    refine WL.val (dx_pick rfl rfl rfl) rfl rfl ?_
    refine WL.val (dx_move rfl rfl) rfl rfl ?_
    refine WL.split 17 rfl (fun g15 => ?_) (fun g15 => ?_)
    ·
      replace g15 := bnot_t g15
      refine WL.off rfl rfl rfl ?_
      refine WL.off rfl rfl rfl ?_
      refine WL.off rfl rfl rfl ?_
      refine WL.val (dx_pick rfl rfl rfl) rfl rfl ?_
      refine WL.nil ?_
      refine hK8 ?_
      refine WC.condT rfl ?_
      refine WC.seq fun K16 hK16 => ?_
      refine WC.region ?_
      refine WL.val (dx_move rfl rfl) rfl rfl ?_
      refine WL.val (dx_assign rfl rfl) rfl rfl ?_
      refine WL.val (dx_assign rfl rfl) rfl rfl ?_
      refine WL.nil ?_
      refine hK16 ?_
      refine WC.ret fun a_ ha_ => ?_
      exact hQ (cv_ret2 rfl (.tmp rfl) (.tmp rfl) (by have he := (show regE xs tok mx = 1 by unfold regE; simp [*]); have hr : regU xs tok mx = xs := (by unfold regU; rw [if_neg (by rw [he]; decide)]); rw [he, hr]; exact ⟨_, rfl, (h1.less (fun x hx => (.tail _ hx))), (h2.less (fun x hx => (.tail _ hx)))⟩) hB ha_)
    ·
      replace g15 := bnot_f g15
      refine WL.val (dx_move rfl rfl) rfl rfl ?_
      refine WL.get (dx_cv rfl Tryd.func29 rfl rfl rfl (user_v mx W14 hM.1)) rfl rfl ?_
      rintro _ W18 ⟨rfl, b17⟩
      replace h1 := h1.below b17
      replace h2 := h2.below b17
      replace hM := hM.below b17
      replace k3 := k3.below b17
      replace hB := below_then hB b17
      replace hL := LL.below hL b17
      refine WL.val (dx_not rfl rfl) rfl rfl ?_
      refine WL.val (dx_pick rfl rfl rfl) rfl rfl ?_
      refine WL.nil ?_
      refine hK8 ?_
      refine WC.cond rfl (fun c19 => ?_) (fun c19 => ?_)
      ·
        replace c19 := bnot_t c19
        refine WC.seq fun K20 hK20 => ?_
        refine WC.region ?_
        refine WL.val (dx_move rfl rfl) rfl rfl ?_
        refine WL.val (dx_assign rfl rfl) rfl rfl ?_
        refine WL.val (dx_assign rfl rfl) rfl rfl ?_
        refine WL.nil ?_
        refine hK20 ?_
        refine WC.ret fun a_ ha_ => ?_
        exact hQ (cv_ret2 rfl (.tmp rfl) (.tmp rfl) (by have he := (show regE xs tok mx = 1 by unfold regE; simp [*]); have hr : regU xs tok mx = xs := (by unfold regU; rw [if_neg (by rw [he]; decide)]); rw [he, hr]; exact ⟨_, rfl, (h1.less (fun x hx => (.tail _ hx))), (h2.less (fun x hx => (.tail _ hx)))⟩) hB ha_)
      ·
        replace c19 := bnot_f c19
        refine WC.skip ?_
        refine hK7 ?_
        refine WC.seq fun K21 hK21 => ?_
        refine WC.seq fun K22 hK22 => ?_
        refine WC.region ?_
        refine WL.val (dx_move rfl rfl) rfl rfl ?_
        refine WL.val (dx_load rfl ty_one_9 rfl (k3.cell (k := 0) rfl)) rfl rfl ?_
        refine WL.get (dx_cv rfl Tryd.func31 rfl rfl rfl (of_v tok W18 _ hL)) rfl rfl ?_
        rintro _ W26 ⟨⟨u23, rfl, p24⟩, b25⟩
        replace h1 := h1.below b25
        replace h2 := h2.below b25
        replace hM := hM.below b25
        replace k3 := k3.below b25
        replace hB := below_then hB b25
        replace hL := LL.below hL b25
        refine WL.get (dx_cv rfl Tryd.func30 rfl rfl rfl (containsFuncU_v xs (tokP tok) _ _ W26 _ hL h1 (fun W hW x hx => fv_of (cs := [u23]) Tryd.func51 rfl rfl (of1_v x tok _ W _ (LL.below hL hW) (p24.below hW))))) rfl rfl ?_
        rintro _ W28 ⟨rfl, b27⟩
        replace h1 := h1.below b27
        replace h2 := h2.below b27
        replace hM := hM.below b27
        replace p24 := p24.below b27
        replace k3 := k3.below b27
        replace hB := below_then hB b27
        replace hL := LL.below hL b27
        refine WL.nil ?_
        refine hK22 ?_
        refine WC.cond rfl (fun c29 => ?_) (fun c29 => ?_)
        ·
          refine WC.seq fun K30 hK30 => ?_
          refine WC.region ?_
          refine WL.val (dx_move rfl rfl) rfl rfl ?_
          refine WL.val (dx_assign rfl rfl) rfl rfl ?_
          refine WL.val (dx_assign rfl rfl) rfl rfl ?_
          refine WL.nil ?_
          refine hK30 ?_
          refine WC.ret fun a_ ha_ => ?_
          exact hQ (cv_ret2 rfl (.tmp rfl) (.tmp rfl) (by have he := (show regE xs tok mx = 6 by unfold regE; simp [*]); have hr : regU xs tok mx = xs := (by unfold regU; rw [if_neg (by rw [he]; decide)]); rw [he, hr]; exact ⟨_, rfl, (h1.less (fun x hx => (.tail _ hx))), (h2.less (fun x hx => (.tail _ hx)))⟩) hB ha_)
        ·
          refine WC.skip ?_
          refine hK21 ?_
          refine WC.seq fun K31 hK31 => ?_
          refine WC.seq fun K32 hK32 => ?_
          refine WC.region ?_
          refine WL.val (dx_move rfl rfl) rfl rfl ?_
          refine WL.val (dx_lenX rfl ty_slice_22 rfl h1) rfl rfl ?_
          refine WL.val (dx_eql rfl rfl rfl) rfl rfl ?_
          refine WL.nil ?_
          refine hK32 ?_
          refine WC.cond rfl (fun c33 => ?_) (fun c33 => ?_)
          ·
            replace c33 := of_decide_eq_true c33
            refine WC.seq fun K34 hK34 => ?_
            refine WC.region ?_
            refine WL.val (dx_move rfl rfl) rfl rfl ?_
            refine WL.val (dx_assign rfl rfl) rfl rfl ?_
            refine WL.val (dx_assign rfl rfl) rfl rfl ?_
            refine WL.nil ?_
            refine hK34 ?_
            refine WC.ret fun a_ ha_ => ?_
            exact hQ (cv_ret2 rfl (.tmp rfl) (.tmp rfl) (by have he := (show regE xs tok mx = 10 by unfold regE; simp [*]); have hr : regU xs tok mx = xs := (by unfold regU; rw [if_neg (by rw [he]; decide)]); rw [he, hr]; exact ⟨_, rfl, (h1.less (fun x hx => (.tail _ hx))), (h2.less (fun x hx => (.tail _ hx)))⟩) hB ha_)
          ·
            replace c33 := of_decide_eq_false c33
            refine WC.skip ?_
            refine hK31 ?_
            refine WC.seq fun K35 hK35 => ?_
            refine WC.region ?_
            refine WL.val (dx_move rfl rfl) rfl rfl ?_
            refine WL.val (dx_func rfl rfl rfl) rfl rfl ?_
            refine WL.get (dx_cv rfl Tryd.func32 rfl rfl rfl (indexFuncU_v xs (gtP tok) _ _ W28 _ hL h1 (fun W hW x hx => fv_of (cs := [.pointer (some ⟨w.heap.size, 0, none⟩)]) Tryd.func33 rfl rfl (reg1_v x tok _ W [] (LL.nil _) ⟨Nat.succ_pos _, w.heap.size, 0, rfl, by simp, (k3.below hW).range⟩)))) rfl rfl ?_
            rintro _ W37 ⟨rfl, b36⟩
            replace h1 := h1.below b36
            replace h2 := h2.below b36
            replace hM := hM.below b36
            replace p24 := p24.below b36
            replace k3 := k3.below b36
            replace hB := below_then hB b36
            replace hL := LL.below hL b36
            refine WL.val (dx_assign rfl rfl) rfl rfl ?_
            refine WL.nil ?_
            refine hK35 ?_
            refine WC.seq fun K38 hK38 => ?_
            refine WC.seq fun K39 hK39 => ?_
            refine WC.region ?_
            refine WL.val (dx_move rfl rfl) rfl rfl ?_
            refine WL.val (dx_lss rfl rfl rfl) rfl rfl ?_
            refine WL.nil ?_
            refine hK39 ?_
            refine WC.cond rfl (fun c40 => ?_) (fun c40 => ?_)
            ·
              replace c40 := of_decide_eq_true c40
              refine WC.region ?_
              refine WL.val (dx_move rfl rfl) rfl rfl ?_
              refine WL.val (dx_lenX rfl ty_slice_22 rfl h1) rfl rfl ?_
              refine WL.val (dx_assign rfl rfl) rfl rfl ?_
              refine WL.nil ?_
              refine hK38 ?_
              refine WC.seq fun K41 hK41 => ?_
              have hrl := right_len (show rightU xs = true by assumption)
              have hix := idxX_lt (p := gtP tok) xs 0
              have hra := regAt_le xs tok
              have hat : (xs.length : Int) = (regAt xs tok : Nat) := (by unfold regAt; first | rw [if_pos (by omega)] | (rw [if_neg (by omega)]; omega))
              have zh1 := h1
              have zh2 := h2
              have zhM := hM
              have zp24 := p24
              have zk3 := k3
              have zhB := hB
              have zhL := hL
              refine WC.drawM 7 [(some 39, .is (sv)), (some 40, .by fun u W => NewS 3 W37.heap.size (xs.map encU) u W), (some 41, .is (.int .i64 (xs.length : Int))), (some 42, .is (.string tok)), (some 43, .is (.string mx)), (some 44, .is (.agg #[.string tok, .string mx, .slice none 0 0])), (some 45, .by fun u W => NewS 3 W37.heap.size [encU (newU tok mx)] u W)] [[], [0], [], [], [], [3, 4], [5]] (by kernel_rfl) (by kernel_rfl) (by kernel_rfl) (by kernel_rfl) (by kernel_rfl) (by kernel_rfl) (by kernel_rfl) ⟨fun _ _ _ hb h => h.below hb, fun _ _ _ hb h => h.below hb, trivial⟩ ?_ ?_
              ·
                refine DSteps.cons (fun Wd hd => ?_) ?_
                ·
                  exact DV.dr (dx_move rfl rfl) ⟨Below.refl _ _, rfl⟩
                refine DSteps.cons (fun Wd hd => ?_) ?_
                ·
                  have h1 := h1.below hd
                  have h2 := h2.below hd
                  exact DR.mono (dx_cv rfl Tryd.func26 rfl rfl rfl (cloneSUser_v _ _ Wd _ (LL.below hL hd) h1 h2.oc (by rw [List.length_map]; omega))) (fun v W' h => ⟨h.2, h.1.le hd.size⟩)
                refine DSteps.cons (fun Wd hd => ?_) ?_
                ·
                  exact DV.dr (dx_move rfl rfl) ⟨Below.refl _ _, rfl⟩
                refine DSteps.cons (fun Wd hd => ?_) ?_
                ·
                  have k3 := k3.below hd
                  exact DV.dr (dx_load rfl ty_one_9 rfl (k3.cell (k := 0) rfl)) ⟨Below.refl _ _, rfl⟩
                refine DSteps.cons (fun Wd hd => ?_) ?_
                ·
                  exact DV.dr (dx_move rfl rfl) ⟨Below.refl _ _, rfl⟩
                refine DSteps.cons (fun Wd hd => ?_) ?_
                ·
                  exact DV.dr (dx_build rfl rfl (built_of_O (cs := [.string tok, .string mx, .slice none 0 0]) (by kernel_rfl) (oc_cons rfl (oc_cons rfl oc_nil)))) ⟨Below.refl _ _, rfl⟩
                refine DSteps.cons (fun Wd hd => ?_) ?_
                ·
                  exact (dx_lit1 (r := encU (newU tok mx)) rfl ty_ap_22 (by decide) (by decide) rfl rfl rfl).mono (fun v W' h => ⟨h.2.1, NewS.of_own h.1 hd.size (by simp)⟩)
                exact trivial
              ·
                intro W42 b43
                intro u10_1 p10_1
                intro u10_6 p10_6
                replace h1 := h1.below b43
                replace h2 := h2.below b43
                replace hM := hM.below b43
                replace p24 := p24.below b43
                replace k3 := k3.below b43
                replace hB := below_then hB b43
                replace hL := LL.below hL b43
                refine WL.get (dx_callA rfl Tryd.func34 rfl rfl rfl (insertSUser_v _ _ (regAt xs tok) _ _ _ _ W42 hat p10_1 p10_6 b43.size (by rw [List.length_map]; exact hra) (by rw [List.length_map]; omega) h2.oc (oc_cons rfl (oc_cons rfl (oc_cons rfl oc_nil))) (reg_ne (by assumption)))) rfl rfl ?_
                rintro x44 W45 ⟨⟨B46, q47, k48⟩, b49⟩
                have b50 := b43.trans b49
                rw [reg_rows] at k48
                replace h1 := zh1
                replace h2 := zh2
                replace hM := zhM
                replace p24 := zp24
                replace k3 := zk3
                replace hB := zhB
                replace hL := zhL
                have n51 : w.heap.size ≠ B46 := Nat.ne_of_lt (Nat.lt_of_lt_of_le k3.lt q47)
                have l52 := Nat.le_trans hB.size q47
                replace h1 := h1.more b50 q47
                replace h2 := h2.more b50 q47
                replace hM := hM.more b50 q47
                replace p24 := p24.more b50 q47
                replace k3 := k3.below b50
                replace hB := below_then hB b50
                replace hL := LL.cons (LL.below hL b50) k48.lt
                refine WL.val (dx_assign rfl rfl) rfl rfl ?_
                refine WL.val (dx_assign rfl rfl) rfl rfl ?_
                refine WL.nil ?_
                refine hK41 ?_
                refine WC.ret fun a_ ha_ => ?_
                exact hQ (cv_ret2 rfl (.tmp rfl) (.tmp rfl) (by have he := (show regE xs tok mx = 0 by unfold regE; rw [if_pos ⟨by assumption, by assumption, by assumption⟩, if_neg (by rw [show xs.any (tokP tok) = false by assumption]; decide), if_neg (by assumption)]); have hr : regU xs tok mx = xs.take (regAt xs tok) ++ (newU tok mx :: xs.drop (regAt xs tok)) := (by unfold regU; rw [if_pos he]); rw [he, hr]; exact ⟨_, rfl, k48.notin hL0 l52, ((h2.less (fun x hx => (.tail _ (.tail _ hx))))).reg tok mx _⟩) hB ha_)
            ·
              replace c40 := of_decide_eq_false c40
              refine WC.skip ?_
              refine hK38 ?_
              refine WC.seq fun K53 hK53 => ?_
              have hrl := right_len (show rightU xs = true by assumption)
              have hix := idxX_lt (p := gtP tok) xs 0
              have hra := regAt_le xs tok
              have hat : idxX (gtP tok) xs 0 = (regAt xs tok : Nat) := (by unfold regAt; first | rw [if_pos (by omega)] | (rw [if_neg (by omega)]; omega))
              have zh1 := h1
              have zh2 := h2
              have zhM := hM
              have zp24 := p24
              have zk3 := k3
              have zhB := hB
              have zhL := hL
              refine WC.drawM 7 [(some 39, .is (sv)), (some 40, .by fun u W => NewS 3 W37.heap.size (xs.map encU) u W), (some 41, .is (.int .i64 (idxX (gtP tok) xs 0))), (some 42, .is (.string tok)), (some 43, .is (.string mx)), (some 44, .is (.agg #[.string tok, .string mx, .slice none 0 0])), (some 45, .by fun u W => NewS 3 W37.heap.size [encU (newU tok mx)] u W)] [[], [0], [], [], [], [3, 4], [5]] (by kernel_rfl) (by kernel_rfl) (by kernel_rfl) (by kernel_rfl) (by kernel_rfl) (by kernel_rfl) (by kernel_rfl) ⟨fun _ _ _ hb h => h.below hb, fun _ _ _ hb h => h.below hb, trivial⟩ ?_ ?_
              ·
                refine DSteps.cons (fun Wd hd => ?_) ?_
                ·
                  exact DV.dr (dx_move rfl rfl) ⟨Below.refl _ _, rfl⟩
                refine DSteps.cons (fun Wd hd => ?_) ?_
                ·
                  have h1 := h1.below hd
                  have h2 := h2.below hd
                  exact DR.mono (dx_cv rfl Tryd.func26 rfl rfl rfl (cloneSUser_v _ _ Wd _ (LL.below hL hd) h1 h2.oc (by rw [List.length_map]; omega))) (fun v W' h => ⟨h.2, h.1.le hd.size⟩)
                refine DSteps.cons (fun Wd hd => ?_) ?_
                ·
                  exact DV.dr (dx_move rfl rfl) ⟨Below.refl _ _, rfl⟩
                refine DSteps.cons (fun Wd hd => ?_) ?_
                ·
                  have k3 := k3.below hd
                  exact DV.dr (dx_load rfl ty_one_9 rfl (k3.cell (k := 0) rfl)) ⟨Below.refl _ _, rfl⟩
                refine DSteps.cons (fun Wd hd => ?_) ?_
                ·
                  exact DV.dr (dx_move rfl rfl) ⟨Below.refl _ _, rfl⟩
                refine DSteps.cons (fun Wd hd => ?_) ?_
                ·
                  exact DV.dr (dx_build rfl rfl (built_of_O (cs := [.string tok, .string mx, .slice none 0 0]) (by kernel_rfl) (oc_cons rfl (oc_cons rfl oc_nil)))) ⟨Below.refl _ _, rfl⟩
                refine DSteps.cons (fun Wd hd => ?_) ?_
                ·
                  exact (dx_lit1 (r := encU (newU tok mx)) rfl ty_ap_22 (by decide) (by decide) rfl rfl rfl).mono (fun v W' h => ⟨h.2.1, NewS.of_own h.1 hd.size (by simp)⟩)
                exact trivial
              ·
                intro W54 b55
                intro u10_1 p10_1
                intro u10_6 p10_6
                replace h1 := h1.below b55
                replace h2 := h2.below b55
                replace hM := hM.below b55
                replace p24 := p24.below b55
                replace k3 := k3.below b55
                replace hB := below_then hB b55
                replace hL := LL.below hL b55
                refine WL.get (dx_callA rfl Tryd.func34 rfl rfl rfl (insertSUser_v _ _ (regAt xs tok) _ _ _ _ W54 hat p10_1 p10_6 b55.size (by rw [List.length_map]; exact hra) (by rw [List.length_map]; omega) h2.oc (oc_cons rfl (oc_cons rfl (oc_cons rfl oc_nil))) (reg_ne (by assumption)))) rfl rfl ?_
                rintro x56 W57 ⟨⟨B58, q59, k60⟩, b61⟩
                have b62 := b55.trans b61
                rw [reg_rows] at k60
                replace h1 := zh1
                replace h2 := zh2
                replace hM := zhM
                replace p24 := zp24
                replace k3 := zk3
                replace hB := zhB
                replace hL := zhL
                have n63 : w.heap.size ≠ B58 := Nat.ne_of_lt (Nat.lt_of_lt_of_le k3.lt q59)
                have l64 := Nat.le_trans hB.size q59
                replace h1 := h1.more b62 q59
                replace h2 := h2.more b62 q59
                replace hM := hM.more b62 q59
                replace p24 := p24.more b62 q59
                replace k3 := k3.below b62
                replace hB := below_then hB b62
                replace hL := LL.cons (LL.below hL b62) k60.lt
                refine WL.val (dx_assign rfl rfl) rfl rfl ?_
                refine WL.val (dx_assign rfl rfl) rfl rfl ?_
                refine WL.nil ?_
                refine hK53 ?_
                refine WC.ret fun a_ ha_ => ?_
                exact hQ (cv_ret2 rfl (.tmp rfl) (.tmp rfl) (by have he := (show regE xs tok mx = 0 by unfold regE; rw [if_pos ⟨by assumption, by assumption, by assumption⟩, if_neg (by rw [show xs.any (tokP tok) = false by assumption]; decide), if_neg (by assumption)]); have hr : regU xs tok mx = xs.take (regAt xs tok) ++ (newU tok mx :: xs.drop (regAt xs tok)) := (by unfold regU; rw [if_pos he]); rw [he, hr]; exact ⟨_, rfl, k60.notin hL0 l64, ((h2.less (fun x hx => (.tail _ (.tail _ hx))))).reg tok mx _⟩) hB ha_)

set_option maxHeartbeats 1000000 in
theorem logout_v (xs : List UserX) (tok : ByteArray) (sv : Value) (w : World) (L : List Nat) (hL : LL L w) (h1 : RdF 3 L w sv (xs.map encU)) (h2 : AgU L w xs) (hM : MaxL L w) : CV Tryd.prog 10 [sv, .string tok] w fun v W => ∃ s2, v = .tuple #[s2, .int .i64 (findU xs tok).2] ∧ RdF 3 L W s2 ((logU xs tok).map encU) ∧ AgU L W (logU xs tok) := by
  refine cv_enter (N := 24) (f := [(0, sv), (1, .string tok)]) Tryd.func10 rfl rfl rfl rfl fun Q hQ hE => ?_
  have hB := Below.refl w.heap.size w
  have hL0 := hL
  have h1m : xs.length ≤ maxLen := by have := h1.len; rwa [List.length_map] at this
  unfold maxLen at h1m
  refine WC.seq fun K1 hK1 => ?_
  refine WC.region ?_
  refine WL.val (dx_assign rfl rfl) rfl rfl ?_
  refine WL.val (dx_assign rfl rfl) rfl rfl ?_
  refine WL.nil ?_
  refine hK1 ?_
  refine WC.seq fun K2 hK2 => ?_
  refine WC.region ?_
  refine WL.val (dx_move rfl rfl) rfl rfl ?_
  refine WL.val (dx_move rfl rfl) rfl rfl ?_
  refine WL.get (dx_cv rfl Tryd.func21 rfl rfl rfl (find_v xs tok _ w _ hL h1 h2 hM)) rfl rfl ?_
  rintro _ W4 ⟨rfl, b3⟩
  replace h1 := h1.below b3
  replace h2 := h2.below b3
  replace hM := hM.below b3
  replace hB := below_then hB b3
  replace hL := LL.below hL b3
  refine WL.val (dx_move rfl rfl) rfl rfl ?_
  refine WL.val (dx_extract rfl rfl rfl) rfl rfl ?_
  refine WL.val (dx_extract rfl rfl rfl) rfl rfl ?_
  refine WL.val (dx_assign rfl rfl) rfl rfl ?_
  refine WL.val (dx_assign rfl rfl) rfl rfl ?_
  refine WL.nil ?_
  refine hK2 ?_
  refine WC.seq fun K5 hK5 => ?_
  refine WC.seq fun K6 hK6 => ?_
  refine WC.region ?_
  refine WL.val (dx_move rfl rfl) rfl rfl ?_
  refine WL.val (dx_neq rfl rfl rfl) rfl rfl ?_
  refine WL.nil ?_
  refine hK6 ?_
  refine WC.cond rfl (fun c7 => ?_) (fun c7 => ?_)
  ·
    replace c7 := bnot_t c7
    replace c7 := of_decide_eq_false c7
    refine WC.seq fun K8 hK8 => ?_
    refine WC.region ?_
    refine WL.val (dx_move rfl rfl) rfl rfl ?_
    refine WL.val (dx_move rfl rfl) rfl rfl ?_
    refine WL.val (dx_assign rfl rfl) rfl rfl ?_
    refine WL.val (dx_assign rfl rfl) rfl rfl ?_
    refine WL.nil ?_
    refine hK8 ?_
    refine WC.ret fun a_ ha_ => ?_
    exact hQ (cv_ret2 rfl (.tmp rfl) (.tmp rfl) (by have hr : logU xs tok = xs := (by unfold logU; rw [if_neg (by assumption)]); rw [hr]; exact ⟨_, rfl, (h1.less (fun x hx => hx)), (h2.less (fun x hx => hx))⟩) hB ha_)
  ·
    replace c7 := bnot_f c7
    replace c7 := of_decide_eq_true c7
    refine WC.skip ?_
    refine hK5 ?_
    refine WC.seq fun K9 hK9 => ?_
    obtain ⟨hr0, k0, u0, hk0, hu0, ht0, hn0⟩ := findU_ok (by first | assumption | exact Classical.not_not.1 (by assumption))
    have hl0 := (List.getElem?_eq_some_iff.1 hu0).1
    have hrl := right_len hr0
    refine WC.region ?_
    refine WL.val (dx_move rfl rfl) rfl rfl ?_
    have zh1 := h1
    have zh2 := h2
    have zhM := hM
    have zhB := hB
    have zhL := hL
    refine WL.get (dx_cv rfl Tryd.func26 rfl rfl rfl (cloneSUser_v _ _ W4 _ hL h1 h2.oc (by rw [List.length_map]; omega))) rfl rfl ?_
    rintro u10 W11 ⟨p12, b13⟩
    replace h1 := h1.below b13
    replace h2 := h2.below b13
    replace hM := hM.below b13
    replace hB := below_then hB b13
    replace hL := LL.below hL b13
    refine WL.val (dx_move rfl rfl) rfl rfl ?_
    refine WL.val (dx_move rfl rfl) rfl rfl ?_
    refine WL.val (dx_add (r := ((findU xs tok).1) + 1) rfl rfl rfl (wrap64_id (by omega))) rfl rfl ?_
    refine WL.get (dx_callA rfl Tryd.func27 rfl rfl rfl (deleteSUser_v _ k0 _ _ _ _ W11 (by omega) (by omega) p12 b13.size (by rw [List.length_map]; exact hl0) h2.oc)) rfl rfl ?_
    rintro x14 W15 ⟨⟨B16, q17, k18⟩, b19⟩
    have b20 := b13.trans b19
    rw [log_rows] at k18
    replace h1 := zh1
    replace h2 := zh2
    replace hM := zhM
    replace hB := zhB
    replace hL := zhL
    have l21 := Nat.le_trans hB.size q17
    replace h1 := h1.more b20 q17
    replace h2 := h2.more b20 q17
    replace hM := hM.more b20 q17
    replace hB := below_then hB b20
    replace hL := LL.cons (LL.below hL b20) k18.lt
    refine WL.val (dx_assign rfl rfl) rfl rfl ?_
    refine WL.val (dx_assign rfl rfl) rfl rfl ?_
    refine WL.nil ?_
    refine hK9 ?_
    refine WC.ret fun a_ ha_ => ?_
    exact hQ (cv_ret2 rfl (.tmp rfl) (.tmp rfl) (by have hr : logU xs tok = xs.take k0 ++ xs.drop (k0 + 1) := (by unfold logU; rw [if_pos (by assumption), hk0, Int.toNat_natCast]); rw [hr, show (findU xs tok).2 = 0 by assumption]; exact ⟨_, rfl, k18.notin hL0 l21, ((h2.less (fun x hx => (.tail _ hx)))).del _⟩) hB ha_)

abbrev hasT (ts : List ByteArray) (t : ByteArray) : Bool := ts.any fun x => decide (t = x)
abbrev lacks (ts : List ByteArray) (t : ByteArray) : Bool := !hasT ts t
set_option maxHeartbeats 1000000 in
theorem indexT_v (ts : List ByteArray) (t : ByteArray) (tv : Value) (w : World) (L : List Nat) (hL : LL L w) (h3 : RdF 1 L w tv (ts.map encT)) : CV Tryd.prog 55 [tv, .string t] w fun v W => v = .int .i64 (idxX (fun x => decide (t = x)) ts 0) := by
  refine cv_enter (N := 19) (f := [(0, tv), (1, .string t)]) Tryd.func55 rfl rfl rfl rfl fun Q hQ hE => ?_
  have hB := Below.refl w.heap.size w
  have h3m : ts.length ≤ maxLen := by have := h3.len; rwa [List.length_map] at this
  unfold maxLen at h3m
  refine WC.seq fun K1 hK1 => ?_
  refine WC.region ?_
  refine WL.val (dx_assign rfl rfl) rfl rfl ?_
  refine WL.nil ?_
  refine hK1 ?_
  refine WC.seq fun K2 hK2 => ?_
  refine WC.seq fun K3 hK3 => ?_
  refine WC.region ?_
  refine WL.val (dx_move rfl rfl) rfl rfl ?_
  refine WL.val (dx_lenX rfl ty_slice_55 rfl h3) rfl rfl ?_
  refine WL.val (dx_move rfl rfl) rfl rfl ?_
  refine WL.nil ?_
  refine hK3 ?_
  refine WC.block ?_
  refine WC.loop (fun (i : Nat) => [(0, tv), (1, .string t), (7, .int .i64 (ts.length : Int)), (8, .int .i64 (i : Int))]) (fun (i : Nat) W => i ≤ ts.length ∧ idxX (fun x => decide (t = x)) ts 0 = idxX (fun x => decide (t = x)) (ts.drop i) i ∧ Below w.heap.size w W ∧ LL (L) W ∧ RdF 1 (L) W tv (ts.map encT)) (fun (i : Nat) => ts.length - i) 0 (by repeat first | exact trivial | exact And.intro rfl trivial | refine And.intro rfl ?_ | refine And.intro (congrArg (fun z : Int => some (Value.int .i64 z)) (by omega)) ?_) ⟨Nat.zero_le _, rfl, hB, hL, h3⟩ ?_
  clear h3 hB hL
  rintro K4 i W5 ⟨hi, hv, hB, hL, h3⟩ hK4
  refine WC.seq fun K6 hK6 => ?_
  refine WC.region ?_
  refine WL.val (dx_lss rfl rfl rfl) rfl rfl ?_
  refine WL.nil ?_
  refine hK6 ?_
  refine WC.seq fun K7 hK7 => ?_
  refine WC.cond rfl (fun c8 => ?_) (fun c8 => ?_)
  ·
    replace c8 := of_decide_eq_true c8
    refine WC.skip ?_
    refine hK7 ?_
    refine WC.seq fun K9 hK9 => ?_
    refine WC.block ?_
    refine WC.seq fun K10 hK10 => ?_
    refine WC.region ?_
    refine WL.val (dx_move rfl rfl) rfl rfl ?_
    refine WL.val (dx_assign rfl rfl) rfl rfl ?_
    refine WL.nil ?_
    refine hK10 ?_
    refine WC.seq fun K11 hK11 => ?_
    refine WC.region ?_
    refine WL.val (dx_move rfl rfl) rfl rfl ?_
    refine WL.val (dx_move rfl rfl) rfl rfl ?_
    refine WL.val (dx_move rfl rfl) rfl rfl ?_
    obtain ⟨r12, e13⟩ : ∃ x, ts[i]? = some x := ⟨_, List.getElem?_eq_getElem (by omega)⟩
    refine WL.get (dx_idxF i rfl ty_slice_55 rfl rfl h3 (by omega) (at_mapX e13)) rfl rfl ?_
    rintro u14 _ ⟨rfl, p15⟩
    refine WL.val (dx_loadP rfl ty_one_9 rfl p15) rfl rfl ?_
    refine WL.val (dx_eqlT rfl rfl rfl) rfl rfl ?_
    refine WL.nil ?_
    refine hK11 ?_
    refine WC.cond rfl (fun c16 => ?_) (fun c16 => ?_)
    ·
      replace c16 := of_decide_eq_true c16
      refine WC.seq fun K17 hK17 => ?_
      refine WC.region ?_
      refine WL.val (dx_move rfl rfl) rfl rfl ?_
      refine WL.val (dx_assign rfl rfl) rfl rfl ?_
      refine WL.nil ?_
      refine hK17 ?_
      refine WC.ret fun a_ ha_ => ?_
      exact hQ (cv_ret1 rfl (.tmp rfl) (by rw [hv, idxX_here e13 (decide_eq_true (by assumption))]) hB ha_)
    ·
      replace c16 := of_decide_eq_false c16
      refine WC.skip ?_
      refine hK9 ?_
      refine WC.region ?_
      refine WL.val (dx_add (r := (i : Int) + 1) rfl rfl rfl (wrap64_id (by omega))) rfl rfl ?_
      refine WL.val (dx_move rfl rfl) rfl rfl ?_
      refine WL.nil ?_
      exact hK4 (i + 1) ⟨(by omega), (by rw [hv]; exact idxX_step e13 (decide_eq_false (by assumption))), hB, hL, h3⟩ (by omega) (by repeat first | exact trivial | exact And.intro rfl trivial | refine And.intro rfl ?_ | refine And.intro (congrArg (fun z : Int => some (Value.int .i64 z)) (by omega)) ?_)
  ·
    replace c8 := of_decide_eq_false c8
    refine WC.exit ?_
    refine hK2 ?_
    refine WC.seq fun K18 hK18 => ?_
    refine WC.region ?_
    refine WL.val (dx_assign rfl rfl) rfl rfl ?_
    refine WL.nil ?_
    refine hK18 ?_
    refine WC.ret fun a_ ha_ => ?_
    exact hQ (cv_ret1 rfl (.tmp rfl) (by rw [hv, idxX_end (by omega)]) hB ha_)

set_option maxHeartbeats 1000000 in
theorem containsT_v (ts : List ByteArray) (t : ByteArray) (tv : Value) (w : World) (L : List Nat) (hL : LL L w) (h3 : RdF 1 L w tv (ts.map encT)) : CV Tryd.prog 37 [tv, .string t] w fun v W => v = .bool (hasT ts t) := by
  refine cv_enter (N := 9) (f := [(0, tv), (1, .string t)]) Tryd.func37 rfl rfl rfl rfl fun Q hQ hE => ?_
  have hB := Below.refl w.heap.size w
  have h3m : ts.length ≤ maxLen := by have := h3.len; rwa [List.length_map] at this
  unfold maxLen at h3m
  refine WC.seq fun K1 hK1 => ?_
  refine WC.region ?_
  refine WL.val (dx_assign rfl rfl) rfl rfl ?_
  refine WL.nil ?_
  refine hK1 ?_
  refine WC.seq fun K2 hK2 => ?_
  refine WC.region ?_
  refine WL.val (dx_move rfl rfl) rfl rfl ?_
  refine WL.val (dx_move rfl rfl) rfl rfl ?_
  refine WL.get (dx_cv rfl Tryd.func55 rfl rfl rfl (indexT_v ts t _ w _ hL h3)) rfl rfl ?_
  rintro _ W4 ⟨rfl, b3⟩
  replace h3 := h3.below b3
  replace hB := below_then hB b3
  replace hL := LL.below hL b3
  refine WL.val (dx_geq rfl rfl rfl) rfl rfl ?_
  refine WL.val (dx_assign rfl rfl) rfl rfl ?_
  refine WL.nil ?_
  refine hK2 ?_
  refine WC.ret fun a_ ha_ => ?_
  exact hQ (cv_ret1 rfl (.tmp rfl) (by unfold hasT; rw [idxX_any ts 0 (by omega)]) hB ha_)

set_option maxHeartbeats 1000000 in
theorem agreed1_v (xs : List UserX) (t : ByteArray) (k0 : Nat) (u0 : UserX) (hu0 : xs[k0]? = some u0) (sv a b : Value) (w : World) (L : List Nat) (hL : LL L w) (h1 : RdF 3 L w sv (xs.map encU)) (h2 : AgU L w xs) (ha : PtR L w a [sv]) (hb : PtR L w b [.int .i64 (k0 : Int)])  (hl0 : k0 < xs.length) : CV Tryd.prog 36 [.string t, a, b] w fun v W => v = .bool (lacks u0.2.2.2 t) := by
  refine cv_enter (N := 13) (f := [(0, .string t), (1, a), (2, b)]) Tryd.func36 rfl rfl rfl rfl fun Q hQ hE => ?_
  have hB := Below.refl w.heap.size w
  have h1m : xs.length ≤ maxLen := by have := h1.len; rwa [List.length_map] at this
  unfold maxLen at h1m
  refine WC.seq fun K1 hK1 => ?_
  refine WC.region ?_
  refine WL.val (dx_assign rfl rfl) rfl rfl ?_
  refine WL.nil ?_
  refine hK1 ?_
  refine WC.seq fun K2 hK2 => ?_
  refine WC.region ?_
  refine WL.val (dx_loadP rfl ty_one_22 rfl ha) rfl rfl ?_
  refine WL.val (dx_loadP rfl ty_one_3 rfl hb) rfl rfl ?_
  refine WL.get (dx_idxF k0 rfl ty_slice_22 rfl rfl h1 (by omega) (at_mapX hu0)) rfl rfl ?_
  rintro u3 _ ⟨rfl, p4⟩
  refine WL.get (dx_fldP 1 rfl ty_fld_57_2_2 rfl p4 (cs' := [u0.2.2.1]) rfl (Nat.succ_pos _)) rfl rfl ?_
  rintro u5 _ ⟨rfl, p6⟩
  refine WL.val (dx_loadP rfl ty_one_55 rfl p6) rfl rfl ?_
  refine WL.val (dx_move rfl rfl) rfl rfl ?_
  refine WL.get (dx_cv rfl Tryd.func37 rfl rfl rfl (containsT_v u0.2.2.2 t _ w _ hL (h2 u0 (List.mem_of_getElem? hu0)))) rfl rfl ?_
  rintro _ W8 ⟨rfl, b7⟩
  replace h1 := h1.below b7
  replace h2 := h2.below b7
  replace ha := ha.below b7
  replace hb := hb.below b7
  replace p4 := p4.below b7
  replace p6 := p6.below b7
  replace hB := below_then hB b7
  replace hL := LL.below hL b7
  refine WL.val (dx_not rfl rfl) rfl rfl ?_
  refine WL.val (dx_assign rfl rfl) rfl rfl ?_
  refine WL.nil ?_
  refine hK2 ?_
  refine WC.ret fun a_ ha_ => ?_
  exact hQ (cv_ret1 rfl (.tmp rfl) rfl hB ha_)

def agdU (xs : List UserX) (tok : ByteArray) (ts : List ByteArray) : Int := if (findU xs tok).2 = 0 then (if ts.any (lacks (((xs[(findU xs tok).1.toNat]?).map (·.2.2.2)).getD [])) = true then 13 else 0) else (findU xs tok).2
set_option maxHeartbeats 1000000 in
theorem agreed_v (xs : List UserX) (tok : ByteArray) (ts : List ByteArray) (sv tv : Value) (w : World) (L : List Nat) (hL : LL L w) (h1 : RdF 3 L w sv (xs.map encU)) (h2 : AgU L w xs) (hM : MaxL L w) (h3 : RdF 1 L w tv (ts.map encT)) : CV Tryd.prog 13 [sv, .string tok, tv] w fun v W => v = .int .i64 (agdU xs tok ts) := by
  refine cv_enter (N := 21) (f := [(0, sv), (1, .string tok), (2, tv)]) Tryd.func13 rfl rfl rfl rfl fun Q hQ hE => ?_
  have hB := Below.refl w.heap.size w
  have h1m : xs.length ≤ maxLen := by have := h1.len; rwa [List.length_map] at this
  unfold maxLen at h1m
  have h3m : ts.length ≤ maxLen := by have := h3.len; rwa [List.length_map] at this
  unfold maxLen at h3m
  refine WC.seq fun K1 hK1 => ?_
  refine WC.region ?_
  refine WL.get (dx_box (cs := [sv]) rfl rfl (oc_one h1.one)) rfl rfl ?_
  rintro _ W2 ⟨rfl, k3, b4, z5⟩
  have l6 := hB.size
  replace h1 := h1.more b4 (Nat.le_refl _)
  replace h2 := h2.more b4 (Nat.le_refl _)
  replace hM := hM.more b4 (Nat.le_refl _)
  replace h3 := h3.more b4 (Nat.le_refl _)
  replace hB := below_then hB b4
  replace hL := LL.more hL z5
  refine WL.val (dx_assign rfl rfl) rfl rfl ?_
  refine WL.nil ?_
  refine hK1 ?_
  refine WC.seq fun K7 hK7 => ?_
  refine WC.region ?_
  refine WL.val (dx_load rfl ty_one_22 rfl (k3.cell (k := 0) rfl)) rfl rfl ?_
  refine WL.val (dx_move rfl rfl) rfl rfl ?_
  refine WL.get (dx_cv rfl Tryd.func21 rfl rfl rfl (find_v xs tok _ W2 _ hL h1 h2 hM)) rfl rfl ?_
  rintro _ W9 ⟨rfl, b8⟩
  replace h1 := h1.below b8
  replace h2 := h2.below b8
  replace hM := hM.below b8
  replace h3 := h3.below b8
  replace k3 := k3.below b8
  replace hB := below_then hB b8
  replace hL := LL.below hL b8
  refine WL.val (dx_move rfl rfl) rfl rfl ?_
  refine WL.val (dx_extract rfl rfl rfl) rfl rfl ?_
  refine WL.val (dx_extract rfl rfl rfl) rfl rfl ?_
  refine WL.get (dx_alloc rfl ty_zero_3 rfl) rfl rfl ?_
  rintro _ W10 ⟨rfl, k11, b12, z13⟩
  have n14 : w.heap.size ≠ W9.heap.size := Nat.ne_of_lt k3.lt
  have l15 := hB.size
  replace h1 := h1.more b12 (Nat.le_refl _)
  replace h2 := h2.more b12 (Nat.le_refl _)
  replace hM := hM.more b12 (Nat.le_refl _)
  replace h3 := h3.more b12 (Nat.le_refl _)
  replace k3 := k3.below b12
  replace hB := below_then hB b12
  replace hL := LL.more hL z13
  refine WL.do (dx_store (cs' := [.int .i64 ((findU xs tok).1)]) (vs := [.int .i64 ((findU xs tok).1)]) rfl ty_size_3_1 rfl rfl rfl (oc_cons rfl oc_nil) k11 rfl (Nat.le_of_ble_eq_true rfl) rfl) rfl ?_
  rintro _ W16 ⟨k18, o17⟩
  replace k3 := k3.other o17 n14
  clear k11
  replace h1 := h1.only o17 (.head _)
  replace h2 := h2.only o17 (.head _)
  replace hM := hM.only o17 (.head _)
  replace h3 := h3.only o17 (.head _)
  replace hB := o17.below hB l15
  replace hL := LL.only hL o17
  refine WL.val (dx_assign rfl rfl) rfl rfl ?_
  refine WL.nil ?_
  refine hK7 ?_
  refine WC.seq fun K19 hK19 => ?_
  refine WC.seq fun K20 hK20 => ?_
  refine WC.region ?_
  refine WL.val (dx_move rfl rfl) rfl rfl ?_
  refine WL.val (dx_neq rfl rfl rfl) rfl rfl ?_
  refine WL.nil ?_
  refine hK20 ?_
  refine WC.cond rfl (fun c21 => ?_) (fun c21 => ?_)
  ·
    replace c21 := bnot_t c21
    replace c21 := of_decide_eq_false c21
    refine WC.seq fun K22 hK22 => ?_
    refine WC.region ?_
    refine WL.val (dx_move rfl rfl) rfl rfl ?_
    refine WL.val (dx_assign rfl rfl) rfl rfl ?_
    refine WL.nil ?_
    refine hK22 ?_
    refine WC.ret fun a_ ha_ => ?_
    exact hQ (cv_ret1 rfl (.tmp rfl) (by unfold agdU; rw [if_neg (by assumption)]; rfl) hB ha_)
  ·
    replace c21 := bnot_f c21
    replace c21 := of_decide_eq_true c21
    refine WC.skip ?_
    refine hK19 ?_
    refine WC.seq fun K23 hK23 => ?_
    refine WC.seq fun K24 hK24 => ?_
    obtain ⟨hr0, k0, u0, hk0, hu0, ht0, hn0⟩ := findU_ok (by first | assumption | exact Classical.not_not.1 (by assumption))
    have hl0 := (List.getElem?_eq_some_iff.1 hu0).1
    have hrl := right_len hr0
    refine WC.region ?_
    refine WL.val (dx_move rfl rfl) rfl rfl ?_
    refine WL.val (dx_func rfl rfl rfl) rfl rfl ?_
    refine WL.get (dx_cv rfl Tryd.func35 rfl rfl rfl (containsFuncT_v ts (lacks u0.2.2.2) _ _ W16 _ hL h3 (fun W hW x hx => fv_of (cs := [.pointer (some ⟨w.heap.size, 0, none⟩), .pointer (some ⟨W9.heap.size, 0, none⟩)]) Tryd.func36 rfl rfl (agreed1_v xs x k0 u0 hu0 sv _ _ W [] (LL.nil _) ((h1.below hW).less (by simp)) ((h2.below hW).less (by simp)) ⟨Nat.succ_pos _, w.heap.size, 0, rfl, by simp, (k3.below hW).range⟩ (by rw [← hk0]; exact ⟨Nat.succ_pos _, W9.heap.size, 0, rfl, by simp, (k18.below hW).range⟩) hl0)))) rfl rfl ?_
    rintro _ W26 ⟨rfl, b25⟩
    replace h1 := h1.below b25
    replace h2 := h2.below b25
    replace hM := hM.below b25
    replace h3 := h3.below b25
    replace k3 := k3.below b25
    replace k18 := k18.below b25
    replace hB := below_then hB b25
    replace hL := LL.below hL b25
    refine WL.nil ?_
    refine hK24 ?_
    refine WC.cond rfl (fun c27 => ?_) (fun c27 => ?_)
    ·
      refine WC.seq fun K28 hK28 => ?_
      refine WC.region ?_
      refine WL.val (dx_assign rfl rfl) rfl rfl ?_
      refine WL.nil ?_
      refine hK28 ?_
      refine WC.ret fun a_ ha_ => ?_
      exact hQ (cv_ret1 rfl (.tmp rfl) (by unfold agdU; rw [if_pos (by assumption), hk0, Int.toNat_natCast, hu0]; simp [*]) hB ha_)
    ·
      refine WC.skip ?_
      refine hK23 ?_
      refine WC.seq fun K29 hK29 => ?_
      refine WC.region ?_
      refine WL.val (dx_assign rfl rfl) rfl rfl ?_
      refine WL.nil ?_
      refine hK29 ?_
      refine WC.ret fun a_ ha_ => ?_
      exact hQ (cv_ret1 rfl (.tmp rfl) (by unfold agdU; rw [if_pos (by assumption), hk0, Int.toNat_natCast, hu0]; simp [*]) hB ha_)

end Go.Proofs.YthefddclefimoaaDoor
