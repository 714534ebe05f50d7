/- Package disk, walked. -/
import Derived.Test.YthefddclefimoaaTy
namespace Go.Proofs.Ythefddclefimoaa
open Go.RowKit
set_option linter.unusedVariables false
set_option linter.unusedSimpArgs false
set_option maxRecDepth 8000

/-- A sector's cells; a write's. -/
def encS (z : List Int) : List Value := z.map (Value.int .u8)
def encW (p : Int × List Int) : List Value := .int .i64 p.1 :: encS p.2
theorem encS_len (z : List Int) : (encS z).length = z.length := by simp [encS]
theorem oc_S (z : List Int) : ∀ u ∈ encS z, u.oneCell' = true := fun u hu => by
  obtain ⟨n, _, rfl⟩ := List.mem_map.1 hu
  rfl
theorem oc_W (p : Int × List Int) : ∀ u ∈ encW p, u.oneCell' = true := oc_cons rfl (oc_S p.2)
theorem oc_rows {α : Type} {enc : α → List Value} (h : ∀ x, ∀ u ∈ enc x, u.oneCell' = true) (xs : List α) : ∀ r ∈ xs.map enc, ∀ u ∈ r, u.oneCell' = true := fun r hr => by
  obtain ⟨x, _, rfl⟩ := List.mem_map.1 hr
  exact h x
theorem at_map {α : Type} {enc : α → List Value} {xs : List α} {i : Nat} {x : α} (h : xs[i]? = some x) : (xs.map enc)[i]? = some (enc x) := by rw [List.getElem?_map, h]; rfl
theorem rdf_S {L : List Nat} {w : World} {v : Value} {xs : List (List Int)} (h : RdF 128 L w v (xs.map encS)) {i : Nat} {x : List Int} (hx : xs[i]? = some x) : x.length = 128 := by
  have := h.2.1 _ (List.mem_of_getElem? (at_map (enc := encS) hx))
  rwa [encS_len] at this
theorem rdf_W {L : List Nat} {w : World} {v : Value} {xs : List (Int × List Int)} (h : RdF 129 L w v (xs.map encW)) {i : Nat} {x : Int × List Int} (hx : xs[i]? = some x) : x.2.length = 128 := by
  have := h.2.1 _ (List.mem_of_getElem? (at_map (enc := encW) hx))
  simpa [encW, encS_len] using this
def idxF {α : Type} (p : α → Bool) : List α → Int → Int
  | [], _ => -1
  | x :: l, i => if p x then i else idxF p l (i + 1)
theorem idxF_step {α : Type} {p : α → Bool} {xs : List α} {i : Nat} {x : α} (h : xs[i]? = some x) (hx : p x = false) : idxF p (xs.drop i) i = idxF p (xs.drop (i + 1)) ((i + 1 : Nat) : Int) := by
  obtain ⟨hl, he⟩ := List.getElem?_eq_some_iff.1 h
  rw [List.drop_eq_getElem_cons hl, he, idxF, hx]
  simp
theorem idxF_here {α : Type} {p : α → Bool} {xs : List α} {i : Nat} {x : α} (h : xs[i]? = some x) (hx : p x = true) : idxF p (xs.drop i) i = i := by
  obtain ⟨hl, he⟩ := List.getElem?_eq_some_iff.1 h
  rw [List.drop_eq_getElem_cons hl, he, idxF, hx]
  simp
theorem idxF_end {α : Type} {p : α → Bool} {xs : List α} {i : Nat} (h : ¬ (i : Int) < xs.length) : idxF p (xs.drop i) i = -1 := by
  rw [List.drop_eq_nil_of_le (by omega)]; rfl
theorem idxF_any {α : Type} {p : α → Bool} : ∀ (xs : List α) (i : Int), 0 ≤ i → decide (0 ≤ idxF p xs i) = xs.any p
  | [], i, _ => by simp [idxF]
  | x :: l, i, h => by
    unfold idxF
    cases hx : p x with
    | true => simp [hx, h]
    | false => simp [hx]; have := idxF_any (p := p) l (i + 1) (by omega); simpa using this
section
variable {P : Program} {ops : Array Oper} {o : Oper} {N : Nat} {f : Fl} {w : World}
theorem dx_lenM {α : Type} {enc : α → List Value} {xs : List α} {t s s' : Nat} {L : List Nat} {x : Operand} {v : Value} (ho : o.op = .call { callee := .builtin .len, args := #[x], argTypes := #[t] }) (ht : sliceB P t s' = true) (hx : ev f x = some v) (hr : RdF s L w v (xs.map enc)) (hw : wantF ops o f = some true := by rfl) : DV P ops o N f w (.int .i64 (xs.length : Int)) := by
  have := dx_lenF (N := N) ho ht hx hr hw
  rwa [List.length_map] at this
end
def hasB (secs : List (List Int)) (a : Int) : Bool := decide (0 ≤ a) && decide (a < secs.length)
theorem hasB_t {secs : List (List Int)} {a : Int} (h : hasB secs a = true) : 0 ≤ a ∧ a < secs.length := by simpa [hasB] using h
set_option maxHeartbeats 1000000 in
theorem has_v (secs : List (List Int)) (loose : List (Int × List Int)) (fuse : Int) (down : Bool) (s1 s2 : Value) (at_ : Int) (w : World) (L : List Nat) (hL : LL L w) (h1 : RdF 128 L w s1 (secs.map encS)) (h2 : RdF 129 L w s2 (loose.map encW)) : CV Try.prog 27 [.agg #[s1, s2, .int .i64 fuse, .bool down], .int .i64 at_] w fun v W => v = .bool (hasB secs at_) := by
  refine cv_enter (N := 14) (f := [(0, .agg #[s1, s2, .int .i64 fuse, .bool down]), (1, .int .i64 at_)]) Try.func27 rfl rfl rfl rfl fun Q hQ hE => ?_
  have hB := Below.refl w.heap.size w
  have h1m : secs.length ≤ maxLen := by have := h1.len; rwa [List.length_map] at this
  unfold maxLen at h1m
  have h2m : loose.length ≤ maxLen := by have := h2.len; rwa [List.length_map] at this
  unfold maxLen at h2m
  refine WC.seq fun K1 hK1 => ?_
  refine WC.region ?_
  refine WL.get (dx_box rfl rfl rfl) rfl rfl ?_
  rintro _ W2 ⟨rfl, k3, b4, z5⟩
  have l6 := hB.size
  replace h1 := h1.more b4 (Nat.le_refl _)
  replace h2 := h2.more b4 (Nat.le_refl _)
  replace hB := below_then hB b4
  replace hL := LL.more hL z5
  refine WL.val (dx_assign rfl rfl) rfl rfl ?_
  refine WL.nil ?_
  refine hK1 ?_
  refine WC.seq fun K7 hK7 => ?_
  refine WC.region ?_
  refine WL.val (dx_move rfl rfl) rfl rfl ?_
  refine WL.val (dx_geq rfl rfl rfl) rfl rfl ?_
  refine WL.val (dx_move rfl rfl) rfl rfl ?_
  refine WL.split 7 rfl (fun g8 => ?_) (fun g8 => ?_)
  ·
    replace g8 := of_decide_eq_true g8
    refine WL.val (dx_move rfl rfl) rfl rfl ?_
    refine WL.val (dx_fld (o1 := 0) rfl ty_fld_25_0_0 rfl rfl) rfl rfl ?_
    refine WL.val (dx_load rfl ty_one_22 rfl (k3.cell (k := 0) rfl)) rfl rfl ?_
    refine WL.val (dx_lenM rfl ty_slice_22 rfl h1) rfl rfl ?_
    refine WL.val (dx_lss rfl rfl rfl) rfl rfl ?_
    refine WL.val (dx_pick rfl rfl rfl) rfl rfl ?_
    refine WL.val (dx_assign rfl rfl) rfl rfl ?_
    refine WL.nil ?_
    refine hK7 ?_
    refine WC.ret fun a_ ha_ => ?_
    exact hQ (cv_ret1 rfl (.tmp rfl) (by simp [hasB, *]) hB ha_)
  ·
    replace g8 := of_decide_eq_false g8
    refine WL.off rfl rfl rfl ?_
    refine WL.off rfl rfl rfl ?_
    refine WL.off rfl rfl rfl ?_
    refine WL.off rfl rfl rfl ?_
    refine WL.off rfl rfl rfl ?_
    refine WL.val (dx_pick rfl rfl rfl) rfl rfl ?_
    refine WL.val (dx_assign rfl rfl) rfl rfl ?_
    refine WL.nil ?_
    refine hK7 ?_
    refine WC.ret fun a_ ha_ => ?_
    exact hQ (cv_ret1 rfl (.tmp rfl) (by simp [hasB, *]) hB ha_)

set_option maxHeartbeats 1000000 in
theorem right1_v (secs : List (List Int)) (loose : List (Int × List Int)) (fuse : Int) (down : Bool) (s1 s2 : Value) (p : Int × List Int) (hp : p.2.length = 128) (u : Value) (w : World) (L : List Nat) (hL : LL L w) (h1 : RdF 128 L w s1 (secs.map encS)) (h2 : RdF 129 L w s2 (loose.map encW)) (h0 : PtR L w u [s1, s2, .int .i64 fuse, .bool down]) : CV Try.prog 33 [.agg (encW p).toArray, u] w fun v W => v = .bool (!hasB secs p.1) := by
  refine cv_enter (N := 9) (f := [(0, .agg (encW p).toArray), (1, u)]) Try.func33 rfl rfl rfl rfl fun Q hQ hE => ?_
  have hB := Below.refl w.heap.size w
  have h1m : secs.length ≤ maxLen := by have := h1.len; rwa [List.length_map] at this
  unfold maxLen at h1m
  have h2m : loose.length ≤ maxLen := by have := h2.len; rwa [List.length_map] at this
  unfold maxLen at h2m
  refine WC.seq fun K1 hK1 => ?_
  refine WC.region ?_
  refine WL.get (dx_box (cs := (encW p)) rfl rfl rfl) rfl rfl ?_
  rintro _ W2 ⟨rfl, k3, b4, z5⟩
  have l6 := hB.size
  replace h1 := h1.more b4 (Nat.le_refl _)
  replace h2 := h2.more b4 (Nat.le_refl _)
  replace h0 := h0.more b4 (Nat.le_refl _)
  replace hB := below_then hB b4
  replace hL := LL.more hL z5
  refine WL.val (dx_assign rfl rfl) rfl rfl ?_
  refine WL.nil ?_
  refine hK1 ?_
  refine WC.seq fun K7 hK7 => ?_
  refine WC.region ?_
  refine WL.val (dx_loadPN rfl ty_agg_25_4 rfl h0 rfl) rfl rfl ?_
  refine WL.val (dx_fld (o1 := 0) rfl ty_fld_59_0_0 rfl rfl) rfl rfl ?_
  refine WL.val (dx_load rfl ty_one_3 rfl (k3.cell (k := 0) rfl)) rfl rfl ?_
  refine WL.get (dx_cv rfl Try.func27 rfl rfl rfl (has_v _ _ _ _ _ _ p.1 W2 [] (LL.nil _) (h1.less (by simp)) (h2.less (by simp)))) rfl rfl ?_
  rintro _ W9 ⟨rfl, b8⟩
  replace h1 := h1.below b8
  replace h2 := h2.below b8
  replace h0 := h0.below b8
  replace k3 := k3.below b8
  replace hB := below_then hB b8
  replace hL := LL.below hL b8
  refine WL.val (dx_not rfl rfl) rfl rfl ?_
  refine WL.val (dx_assign rfl rfl) rfl rfl ?_
  refine WL.nil ?_
  refine hK7 ?_
  refine WC.ret fun a_ ha_ => ?_
  exact hQ (cv_ret1 rfl (.tmp rfl) rfl hB ha_)

set_option maxHeartbeats 1000000 in
theorem indexFuncW_v (xs : List (Int × List Int)) (p : Int × List Int → Bool) (sv g : Value) (w : World) (L : List Nat) (hL : LL L w) (h2 : RdF 129 L w sv (xs.map encW))  (hg : ∀ W, Below w.heap.size w W → ∀ x ∈ xs, FV Try.prog g [.agg (encW x).toArray] W fun v _ => v = .bool (p x)) : CV Try.prog 39 [sv, g] w fun v W => v = .int .i64 (idxF p xs 0) := by
  refine cv_enter (N := 19) (f := [(0, sv), (1, g)]) Try.func39 rfl rfl rfl rfl fun Q hQ hE => ?_
  have hB := Below.refl w.heap.size w
  have h2m : xs.length ≤ maxLen := by have := h2.len; rwa [List.length_map] at this
  unfold maxLen at h2m
  refine WC.seq fun K1 hK1 => ?_
  refine WC.region ?_
  refine WL.val (dx_assign rfl rfl) rfl rfl ?_
  refine WL.nil ?_
  refine hK1 ?_
  refine WC.seq fun K2 hK2 => ?_
  refine WC.seq fun K3 hK3 => ?_
  refine WC.region ?_
  refine WL.val (dx_move rfl rfl) rfl rfl ?_
  refine WL.val (dx_lenM rfl ty_slice_23 rfl h2) rfl rfl ?_
  refine WL.val (dx_move rfl rfl) rfl rfl ?_
  refine WL.nil ?_
  refine hK3 ?_
  refine WC.block ?_
  refine WC.loop (fun (i : Nat) => [(0, sv), (1, g), (7, .int .i64 (xs.length : Int)), (8, .int .i64 (i : Int))]) (fun (i : Nat) W => i ≤ xs.length ∧ idxF p xs 0 = idxF p (xs.drop i) i ∧ Below w.heap.size w W ∧ LL (L) W ∧ RdF 129 (L) W sv (xs.map encW)) (fun (i : Nat) => xs.length - i) 0 (by repeat first | exact trivial | exact And.intro rfl trivial | refine And.intro rfl ?_ | refine And.intro (congrArg (fun z : Int => some (Value.int .i64 z)) (by omega)) ?_) ⟨Nat.zero_le _, rfl, hB, hL, h2⟩ ?_
  clear h2 hB hL
  rintro K4 i W5 ⟨hi, hv, hB, hL, h2⟩ hK4
  refine WC.seq fun K6 hK6 => ?_
  refine WC.region ?_
  refine WL.val (dx_lss rfl rfl rfl) rfl rfl ?_
  refine WL.nil ?_
  refine hK6 ?_
  refine WC.seq fun K7 hK7 => ?_
  refine WC.cond rfl (fun c8 => ?_) (fun c8 => ?_)
  ·
    replace c8 := of_decide_eq_true c8
    refine WC.skip ?_
    refine hK7 ?_
    refine WC.seq fun K9 hK9 => ?_
    refine WC.block ?_
    refine WC.seq fun K10 hK10 => ?_
    refine WC.region ?_
    refine WL.val (dx_move rfl rfl) rfl rfl ?_
    refine WL.val (dx_assign rfl rfl) rfl rfl ?_
    refine WL.nil ?_
    refine hK10 ?_
    refine WC.seq fun K11 hK11 => ?_
    refine WC.region ?_
    refine WL.val (dx_move rfl rfl) rfl rfl ?_
    refine WL.val (dx_move rfl rfl) rfl rfl ?_
    refine WL.val (dx_move rfl rfl) rfl rfl ?_
    obtain ⟨r12, e13⟩ : ∃ x, xs[i]? = some x := ⟨_, List.getElem?_eq_getElem (by omega)⟩
    have Lr12 := rdf_W h2 e13
    refine WL.get (dx_idxF i rfl ty_slice_23 rfl rfl h2 (by omega) (at_map e13)) rfl rfl ?_
    rintro u14 _ ⟨rfl, p15⟩
    refine WL.val (dx_loadPN rfl ty_agg_59_129 rfl p15 (by simp [encW, encS_len, Lr12])) rfl rfl ?_
    refine WL.get (dx_fv rfl rfl rfl (hg _ hB r12 (List.mem_of_getElem? e13))) rfl rfl ?_
    rintro _ W17 ⟨rfl, b16⟩
    replace h2 := h2.below b16
    replace p15 := p15.below b16
    replace hB := below_then hB b16
    replace hL := LL.below hL b16
    refine WL.nil ?_
    refine hK11 ?_
    refine WC.cond rfl (fun c18 => ?_) (fun c18 => ?_)
    ·
      refine WC.seq fun K19 hK19 => ?_
      refine WC.region ?_
      refine WL.val (dx_move rfl rfl) rfl rfl ?_
      refine WL.val (dx_assign rfl rfl) rfl rfl ?_
      refine WL.nil ?_
      refine hK19 ?_
      refine WC.ret fun a_ ha_ => ?_
      exact hQ (cv_ret1 rfl (.tmp rfl) (by rw [hv, idxF_here e13 (by assumption)]) hB ha_)
    ·
      refine WC.skip ?_
      refine hK9 ?_
      refine WC.region ?_
      refine WL.val (dx_add (r := (i : Int) + 1) rfl rfl rfl (wrap64_id (by omega))) rfl rfl ?_
      refine WL.val (dx_move rfl rfl) rfl rfl ?_
      refine WL.nil ?_
      exact hK4 (i + 1) ⟨(by omega), (by rw [hv]; exact idxF_step e13 (by assumption)), hB, hL, h2⟩ (by omega) (by repeat first | exact trivial | exact And.intro rfl trivial | refine And.intro rfl ?_ | refine And.intro (congrArg (fun z : Int => some (Value.int .i64 z)) (by omega)) ?_)
  ·
    replace c8 := of_decide_eq_false c8
    refine WC.exit ?_
    refine hK2 ?_
    refine WC.seq fun K20 hK20 => ?_
    refine WC.region ?_
    refine WL.val (dx_assign rfl rfl) rfl rfl ?_
    refine WL.nil ?_
    refine hK20 ?_
    refine WC.ret fun a_ ha_ => ?_
    exact hQ (cv_ret1 rfl (.tmp rfl) (by rw [hv, idxF_end (by omega)]) hB ha_)

set_option maxHeartbeats 1000000 in
theorem containsFuncW_v (xs : List (Int × List Int)) (p : Int × List Int → Bool) (sv g : Value) (w : World) (L : List Nat) (hL : LL L w) (h2 : RdF 129 L w sv (xs.map encW))  (hg : ∀ W, Below w.heap.size w W → ∀ x ∈ xs, FV Try.prog g [.agg (encW x).toArray] W fun v _ => v = .bool (p x)) : CV Try.prog 32 [sv, g] w fun v W => v = .bool (xs.any p) := by
  refine cv_enter (N := 9) (f := [(0, sv), (1, g)]) Try.func32 rfl rfl rfl rfl fun Q hQ hE => ?_
  have hB := Below.refl w.heap.size w
  have h2m : xs.length ≤ maxLen := by have := h2.len; rwa [List.length_map] at this
  unfold maxLen at h2m
  refine WC.seq fun K1 hK1 => ?_
  refine WC.region ?_
  refine WL.val (dx_assign rfl rfl) rfl rfl ?_
  refine WL.nil ?_
  refine hK1 ?_
  refine WC.seq fun K2 hK2 => ?_
  refine WC.region ?_
  refine WL.val (dx_move rfl rfl) rfl rfl ?_
  refine WL.val (dx_move rfl rfl) rfl rfl ?_
  refine WL.get (dx_cv rfl Try.func39 rfl rfl rfl (indexFuncW_v xs p _ _ w L (by first | exact hL | exact LL.below hL hB) h2 (fun W hW => hg W (below_then hB hW)))) rfl rfl ?_
  rintro _ W4 ⟨rfl, b3⟩
  replace h2 := h2.below b3
  replace hB := below_then hB b3
  replace hL := LL.below hL b3
  refine WL.val (dx_geq rfl rfl rfl) rfl rfl ?_
  refine WL.val (dx_assign rfl rfl) rfl rfl ?_
  refine WL.nil ?_
  refine hK2 ?_
  refine WC.ret fun a_ ha_ => ?_
  exact hQ (cv_ret1 rfl (.tmp rfl) (by rw [idxF_any xs 0 (by omega)]) hB ha_)

/-- Is it a disk as it must be? -/
def rightD (secs : List (List Int)) (loose : List (Int × List Int)) : Bool :=
  !((decide ((secs.length : Int) < 1) || decide (2048 < (secs.length : Int))) || decide (4096 < (loose.length : Int))) && !loose.any fun p => !hasB secs p.1
set_option maxHeartbeats 1000000 in
theorem right_v (secs : List (List Int)) (loose : List (Int × List Int)) (fuse : Int) (down : Bool) (s1 s2 : Value) (w : World) (L : List Nat) (hL : LL L w) (h1 : RdF 128 L w s1 (secs.map encS)) (h2 : RdF 129 L w s2 (loose.map encW)) : CV Try.prog 16 [.agg #[s1, s2, .int .i64 fuse, .bool down]] w fun v W => v = .bool (rightD secs loose) := by
  refine cv_enter (N := 24) (f := [(0, .agg #[s1, s2, .int .i64 fuse, .bool down])]) Try.func16 rfl rfl rfl rfl fun Q hQ hE => ?_
  have hB := Below.refl w.heap.size w
  have h1m : secs.length ≤ maxLen := by have := h1.len; rwa [List.length_map] at this
  unfold maxLen at h1m
  have h2m : loose.length ≤ maxLen := by have := h2.len; rwa [List.length_map] at this
  unfold maxLen at h2m
  refine WC.seq fun K1 hK1 => ?_
  refine WC.region ?_
  refine WL.get (dx_box rfl rfl rfl) rfl rfl ?_
  rintro _ W2 ⟨rfl, k3, b4, z5⟩
  have l6 := hB.size
  replace h1 := h1.more b4 (Nat.le_refl _)
  replace h2 := h2.more b4 (Nat.le_refl _)
  replace hB := below_then hB b4
  replace hL := LL.more hL z5
  refine WL.val (dx_assign rfl rfl) rfl rfl ?_
  refine WL.nil ?_
  refine hK1 ?_
  refine WC.seq fun K7 hK7 => ?_
  refine WC.seq fun K8 hK8 => ?_
  refine WC.region ?_
  refine WL.val (dx_fld (o1 := 0) rfl ty_fld_25_0_0 rfl rfl) rfl rfl ?_
  refine WL.val (dx_load rfl ty_one_22 rfl (k3.cell (k := 0) rfl)) rfl rfl ?_
  refine WL.val (dx_lenM rfl ty_slice_22 rfl h1) rfl rfl ?_
  refine WL.val (dx_lss rfl rfl rfl) rfl rfl ?_
  refine WL.val (dx_move rfl rfl) rfl rfl ?_
  refine WL.split 7 rfl (fun g9 => ?_) (fun g9 => ?_)
  ·
    replace g9 := of_decide_eq_true g9
    refine WL.off rfl rfl rfl ?_
    refine WL.off rfl rfl rfl ?_
    refine WL.off rfl rfl rfl ?_
    refine WL.off rfl rfl rfl ?_
    refine WL.val (dx_pick rfl rfl rfl) rfl rfl ?_
    refine WL.val (dx_move rfl rfl) rfl rfl ?_
    refine WL.off rfl rfl rfl ?_
    refine WL.off rfl rfl rfl ?_
    refine WL.off rfl rfl rfl ?_
    refine WL.off rfl rfl rfl ?_
    refine WL.val (dx_pick rfl rfl rfl) rfl rfl ?_
    refine WL.nil ?_
    refine hK8 ?_
    refine WC.condT rfl ?_
    refine WC.seq fun K10 hK10 => ?_
    refine WC.region ?_
    refine WL.val (dx_assign rfl rfl) rfl rfl ?_
    refine WL.nil ?_
    refine hK10 ?_
    refine WC.ret fun a_ ha_ => ?_
    exact hQ (cv_ret1 rfl (.tmp rfl) (by unfold rightD; simp [*]) hB ha_)
  ·
    replace g9 := of_decide_eq_false g9
    refine WL.val (dx_fld (o1 := 0) rfl ty_fld_25_0_0 rfl rfl) rfl rfl ?_
    refine WL.val (dx_load rfl ty_one_22 rfl (k3.cell (k := 0) rfl)) rfl rfl ?_
    refine WL.val (dx_lenM rfl ty_slice_22 rfl h1) rfl rfl ?_
    refine WL.val (dx_gtr rfl rfl rfl) rfl rfl ?_
    refine WL.val (dx_pick rfl rfl rfl) rfl rfl ?_
    refine WL.val (dx_move rfl rfl) rfl rfl ?_
    refine WL.split 13 rfl (fun g11 => ?_) (fun g11 => ?_)
    ·
      replace g11 := of_decide_eq_true g11
      refine WL.off rfl rfl rfl ?_
      refine WL.off rfl rfl rfl ?_
      refine WL.off rfl rfl rfl ?_
      refine WL.off rfl rfl rfl ?_
      refine WL.val (dx_pick rfl rfl rfl) rfl rfl ?_
      refine WL.nil ?_
      refine hK8 ?_
      refine WC.condT rfl ?_
      refine WC.seq fun K12 hK12 => ?_
      refine WC.region ?_
      refine WL.val (dx_assign rfl rfl) rfl rfl ?_
      refine WL.nil ?_
      refine hK12 ?_
      refine WC.ret fun a_ ha_ => ?_
      exact hQ (cv_ret1 rfl (.tmp rfl) (by unfold rightD; simp [*]) hB ha_)
    ·
      replace g11 := of_decide_eq_false g11
      refine WL.val (dx_fld (o1 := 1) rfl ty_fld_25_1_1 rfl rfl) rfl rfl ?_
      refine WL.val (dx_load rfl ty_one_23 rfl (k3.cell (k := 1) rfl)) rfl rfl ?_
      refine WL.val (dx_lenM rfl ty_slice_23 rfl h2) rfl rfl ?_
      refine WL.val (dx_gtr rfl rfl rfl) rfl rfl ?_
      refine WL.val (dx_pick rfl rfl rfl) rfl rfl ?_
      refine WL.nil ?_
      refine hK8 ?_
      refine WC.cond rfl (fun c13 => ?_) (fun c13 => ?_)
      ·
        replace c13 := of_decide_eq_true c13
        refine WC.seq fun K14 hK14 => ?_
        refine WC.region ?_
        refine WL.val (dx_assign rfl rfl) rfl rfl ?_
        refine WL.nil ?_
        refine hK14 ?_
        refine WC.ret fun a_ ha_ => ?_
        exact hQ (cv_ret1 rfl (.tmp rfl) (by unfold rightD; simp [*]) hB ha_)
      ·
        replace c13 := of_decide_eq_false c13
        refine WC.skip ?_
        refine hK7 ?_
        refine WC.seq fun K15 hK15 => ?_
        refine WC.region ?_
        refine WL.val (dx_fld (o1 := 1) rfl ty_fld_25_1_1 rfl rfl) rfl rfl ?_
        refine WL.val (dx_load rfl ty_one_23 rfl (k3.cell (k := 1) rfl)) rfl rfl ?_
        refine WL.val (dx_func rfl rfl rfl) rfl rfl ?_
        refine WL.get (dx_cv rfl Try.func32 rfl rfl rfl (containsFuncW_v loose _ _ _ W2 [] (LL.nil _) (h2.less (by simp)) (fun W hW x hx => fv_of (cs := [.pointer (some ⟨w.heap.size, 0, none⟩)]) Try.func33 rfl rfl (right1_v secs loose fuse down s1 s2 x (by obtain ⟨i, hi⟩ := List.getElem?_of_mem hx; exact rdf_W h2 hi) _ W [] (LL.nil _) ((h1.less (by simp)).below hW) ((h2.less (by simp)).below hW) ⟨Nat.succ_pos _, w.heap.size, 0, rfl, by simp, (k3.below hW).range⟩)))) rfl rfl ?_
        rintro _ W17 ⟨rfl, b16⟩
        replace h1 := h1.below b16
        replace h2 := h2.below b16
        replace k3 := k3.below b16
        replace hB := below_then hB b16
        replace hL := LL.below hL b16
        refine WL.val (dx_not rfl rfl) rfl rfl ?_
        refine WL.val (dx_assign rfl rfl) rfl rfl ?_
        refine WL.nil ?_
        refine hK15 ?_
        refine WC.ret fun a_ ha_ => ?_
        exact hQ (cv_ret1 rfl (.tmp rfl) (by unfold rightD; simp [*]) hB ha_)

def burnS (fuse : Int) (down : Bool) : Int × Bool × Int := if fuse = 0 then (fuse, true, 9) else if 0 < fuse then (fuse - 1, down, 0) else (fuse, down, 0)
set_option maxHeartbeats 1000000 in
theorem burn_v (secs : List (List Int)) (loose : List (Int × List Int)) (fuse : Int) (down : Bool) (s1 s2 : Value) (w : World) (L : List Nat) (hL : LL L w) (h1 : RdF 128 L w s1 (secs.map encS)) (h2 : RdF 129 L w s2 (loose.map encW))  (hfu : -9223372036854775808 ≤ fuse ∧ fuse ≤ 9223372036854775807) : CV Try.prog 28 [.agg #[s1, s2, .int .i64 fuse, .bool down]] w fun v W => v = .tuple #[.agg #[s1, s2, .int .i64 (burnS fuse down).1, .bool (burnS fuse down).2.1], .int .i64 (burnS fuse down).2.2] := by
  refine cv_enter (N := 17) (f := [(0, .agg #[s1, s2, .int .i64 fuse, .bool down])]) Try.func28 rfl rfl rfl rfl fun Q hQ hE => ?_
  have hB := Below.refl w.heap.size w
  have h1m : secs.length ≤ maxLen := by have := h1.len; rwa [List.length_map] at this
  unfold maxLen at h1m
  have h2m : loose.length ≤ maxLen := by have := h2.len; rwa [List.length_map] at this
  unfold maxLen at h2m
  refine WC.seq fun K1 hK1 => ?_
  refine WC.region ?_
  refine WL.get (dx_box rfl rfl rfl) rfl rfl ?_
  rintro _ W2 ⟨rfl, k3, b4, z5⟩
  have l6 := hB.size
  replace h1 := h1.more b4 (Nat.le_refl _)
  replace h2 := h2.more b4 (Nat.le_refl _)
  replace hB := below_then hB b4
  replace hL := LL.more hL z5
  refine WL.get (dx_alloc rfl ty_zero_25 rfl) rfl rfl ?_
  rintro _ W7 ⟨rfl, k8, b9, z10⟩
  have n11 : w.heap.size ≠ W2.heap.size := Nat.ne_of_lt k3.lt
  have l12 := hB.size
  replace h1 := h1.more b9 (Nat.le_refl _)
  replace h2 := h2.more b9 (Nat.le_refl _)
  replace k3 := k3.below b9
  replace hB := below_then hB b9
  replace hL := LL.more hL z10
  refine WL.val (dx_assign rfl rfl) rfl rfl ?_
  refine WL.nil ?_
  refine hK1 ?_
  refine WC.seq fun K13 hK13 => ?_
  refine WC.seq fun K14 hK14 => ?_
  refine WC.region ?_
  refine WL.val (dx_fld (o1 := 2) rfl ty_fld_25_2_2 rfl rfl) rfl rfl ?_
  refine WL.val (dx_load rfl ty_one_3 rfl (k3.cell (k := 2) rfl)) rfl rfl ?_
  refine WL.val (dx_eql rfl rfl rfl) rfl rfl ?_
  refine WL.nil ?_
  refine hK14 ?_
  refine WC.cond rfl (fun c15 => ?_) (fun c15 => ?_)
  ·
    replace c15 := of_decide_eq_true c15
    refine WC.seq fun K16 hK16 => ?_
    refine WC.region ?_
    refine WL.val (dx_fld (o1 := 3) rfl ty_fld_25_3_3 rfl rfl) rfl rfl ?_
    refine WL.do (dx_store (cs' := [s1, s2, .int .i64 fuse, .bool true]) (vs := [.bool true]) rfl ty_size_4_1 rfl rfl rfl (oc_cons rfl oc_nil) k3 rfl (Nat.le_of_ble_eq_true rfl) rfl) rfl ?_
    rintro _ W17 ⟨k19, o18⟩
    replace k8 := k8.other o18 n11.symm
    clear k3
    replace h1 := h1.only o18 (.tail _ (.head _))
    replace h2 := h2.only o18 (.tail _ (.head _))
    replace hB := o18.below hB l6
    replace hL := LL.only hL o18
    refine WL.nil ?_
    refine hK16 ?_
    refine WC.seq fun K20 hK20 => ?_
    refine WC.region ?_
    refine WL.val (dx_loadN rfl ty_agg_25_4 rfl k19.range rfl) rfl rfl ?_
    refine WL.do (dx_store (cs' := [s1, s2, .int .i64 fuse, .bool true]) (vs := [s1, s2, .int .i64 fuse, .bool true]) rfl ty_size_25_4 rfl rfl rfl (oc_cons h1.one (oc_cons h2.one (oc_cons rfl (oc_cons rfl oc_nil)))) k8 rfl (Nat.le_of_ble_eq_true rfl) rfl) rfl ?_
    rintro _ W21 ⟨k23, o22⟩
    replace k19 := k19.other o22 n11
    clear k8
    replace h1 := h1.only o22 (.head _)
    replace h2 := h2.only o22 (.head _)
    replace hB := o22.below hB l12
    replace hL := LL.only hL o22
    refine WL.val (dx_assign rfl rfl) rfl rfl ?_
    refine WL.nil ?_
    refine hK20 ?_
    refine WC.ret fun a_ ha_ => ?_
    exact hQ (cv_ret2 rfl (.agg rfl ty_agg_25_4 k23.range rfl) (.tmp rfl) (by simp [burnS, *]) hB ha_)
  ·
    replace c15 := of_decide_eq_false c15
    refine WC.skip ?_
    refine hK13 ?_
    refine WC.seq fun K24 hK24 => ?_
    refine WC.seq fun K25 hK25 => ?_
    refine WC.region ?_
    refine WL.val (dx_fld (o1 := 2) rfl ty_fld_25_2_2 rfl rfl) rfl rfl ?_
    refine WL.val (dx_load rfl ty_one_3 rfl (k3.cell (k := 2) rfl)) rfl rfl ?_
    refine WL.val (dx_gtr rfl rfl rfl) rfl rfl ?_
    refine WL.nil ?_
    refine hK25 ?_
    refine WC.cond rfl (fun c26 => ?_) (fun c26 => ?_)
    ·
      replace c26 := of_decide_eq_true c26
      refine WC.region ?_
      refine WL.val (dx_fld (o1 := 2) rfl ty_fld_25_2_2 rfl rfl) rfl rfl ?_
      refine WL.val (dx_load rfl ty_one_3 rfl (k3.cell (k := 2) rfl)) rfl rfl ?_
      refine WL.val (dx_sub (r := fuse - 1) rfl rfl rfl (wrap64_id (by omega))) rfl rfl ?_
      refine WL.val (dx_fld (o1 := 2) rfl ty_fld_25_2_2 rfl rfl) rfl rfl ?_
      refine WL.do (dx_store (cs' := [s1, s2, .int .i64 (fuse - 1), .bool down]) (vs := [.int .i64 (fuse - 1)]) rfl ty_size_3_1 rfl rfl rfl (oc_cons rfl oc_nil) k3 rfl (Nat.le_of_ble_eq_true rfl) rfl) rfl ?_
      rintro _ W27 ⟨k29, o28⟩
      replace k8 := k8.other o28 n11.symm
      clear k3
      replace h1 := h1.only o28 (.tail _ (.head _))
      replace h2 := h2.only o28 (.tail _ (.head _))
      replace hB := o28.below hB l6
      replace hL := LL.only hL o28
      refine WL.nil ?_
      refine hK24 ?_
      refine WC.seq fun K30 hK30 => ?_
      refine WC.region ?_
      refine WL.val (dx_loadN rfl ty_agg_25_4 rfl k29.range rfl) rfl rfl ?_
      refine WL.do (dx_store (cs' := [s1, s2, .int .i64 (fuse - 1), .bool down]) (vs := [s1, s2, .int .i64 (fuse - 1), .bool down]) rfl ty_size_25_4 rfl rfl rfl (oc_cons h1.one (oc_cons h2.one (oc_cons rfl (oc_cons rfl oc_nil)))) k8 rfl (Nat.le_of_ble_eq_true rfl) rfl) rfl ?_
      rintro _ W31 ⟨k33, o32⟩
      replace k29 := k29.other o32 n11
      clear k8
      replace h1 := h1.only o32 (.head _)
      replace h2 := h2.only o32 (.head _)
      replace hB := o32.below hB l12
      replace hL := LL.only hL o32
      refine WL.val (dx_assign rfl rfl) rfl rfl ?_
      refine WL.nil ?_
      refine hK30 ?_
      refine WC.ret fun a_ ha_ => ?_
      exact hQ (cv_ret2 rfl (.agg rfl ty_agg_25_4 k33.range rfl) (.tmp rfl) (by simp [burnS, *]) hB ha_)
    ·
      replace c26 := of_decide_eq_false c26
      refine WC.skip ?_
      refine hK24 ?_
      refine WC.seq fun K34 hK34 => ?_
      refine WC.region ?_
      refine WL.val (dx_loadN rfl ty_agg_25_4 rfl k3.range rfl) rfl rfl ?_
      refine WL.do (dx_store (cs' := [s1, s2, .int .i64 fuse, .bool down]) (vs := [s1, s2, .int .i64 fuse, .bool down]) rfl ty_size_25_4 rfl rfl rfl (oc_cons h1.one (oc_cons h2.one (oc_cons rfl (oc_cons rfl oc_nil)))) k8 rfl (Nat.le_of_ble_eq_true rfl) rfl) rfl ?_
      rintro _ W35 ⟨k37, o36⟩
      replace k3 := k3.other o36 n11
      clear k8
      replace h1 := h1.only o36 (.head _)
      replace h2 := h2.only o36 (.head _)
      replace hB := o36.below hB l12
      replace hL := LL.only hL o36
      refine WL.val (dx_assign rfl rfl) rfl rfl ?_
      refine WL.nil ?_
      refine hK34 ?_
      refine WC.ret fun a_ ha_ => ?_
      exact hQ (cv_ret2 rfl (.agg rfl ty_agg_25_4 k37.range rfl) (.tmp rfl) (by simp [burnS, *]) hB ha_)

set_option maxHeartbeats 1000000 in
theorem arm_v (secs : List (List Int)) (loose : List (Int × List Int)) (fuse : Int) (down : Bool) (s1 s2 : Value) (n : Int) (w : World) (L : List Nat) (hL : LL L w) (h1 : RdF 128 L w s1 (secs.map encS)) (h2 : RdF 129 L w s2 (loose.map encW)) : CV Try.prog 22 [.agg #[s1, s2, .int .i64 fuse, .bool down], .int .i64 n] w fun v W => v = .agg #[s1, s2, .int .i64 (if n < -1 then -1 else n), .bool down] := by
  refine cv_enter (N := 9) (f := [(0, .agg #[s1, s2, .int .i64 fuse, .bool down]), (1, .int .i64 n)]) Try.func22 rfl rfl rfl rfl fun Q hQ hE => ?_
  have hB := Below.refl w.heap.size w
  have h1m : secs.length ≤ maxLen := by have := h1.len; rwa [List.length_map] at this
  unfold maxLen at h1m
  have h2m : loose.length ≤ maxLen := by have := h2.len; rwa [List.length_map] at this
  unfold maxLen at h2m
  refine WC.seq fun K1 hK1 => ?_
  refine WC.region ?_
  refine WL.get (dx_box rfl rfl rfl) rfl rfl ?_
  rintro _ W2 ⟨rfl, k3, b4, z5⟩
  have l6 := hB.size
  replace h1 := h1.more b4 (Nat.le_refl _)
  replace h2 := h2.more b4 (Nat.le_refl _)
  replace hB := below_then hB b4
  replace hL := LL.more hL z5
  refine WL.get (dx_alloc rfl ty_zero_25 rfl) rfl rfl ?_
  rintro _ W7 ⟨rfl, k8, b9, z10⟩
  have n11 : w.heap.size ≠ W2.heap.size := Nat.ne_of_lt k3.lt
  have l12 := hB.size
  replace h1 := h1.more b9 (Nat.le_refl _)
  replace h2 := h2.more b9 (Nat.le_refl _)
  replace k3 := k3.below b9
  replace hB := below_then hB b9
  replace hL := LL.more hL z10
  refine WL.nil ?_
  refine hK1 ?_
  refine WC.seq fun K13 hK13 => ?_
  refine WC.region ?_
  refine WL.val (dx_move rfl rfl) rfl rfl ?_
  refine WL.val (dx_max rfl rfl rfl) rfl rfl ?_
  refine WL.val (dx_fld (o1 := 2) rfl ty_fld_25_2_2 rfl rfl) rfl rfl ?_
  refine WL.do (dx_store (cs' := [s1, s2, .int .i64 (if n < (-1) then (-1) else n), .bool down]) (vs := [.int .i64 (if n < (-1) then (-1) else n)]) rfl ty_size_3_1 rfl rfl rfl (oc_cons rfl oc_nil) k3 rfl (Nat.le_of_ble_eq_true rfl) rfl) rfl ?_
  rintro _ W14 ⟨k16, o15⟩
  replace k8 := k8.other o15 n11.symm
  clear k3
  replace h1 := h1.only o15 (.tail _ (.head _))
  replace h2 := h2.only o15 (.tail _ (.head _))
  replace hB := o15.below hB l6
  replace hL := LL.only hL o15
  refine WL.nil ?_
  refine hK13 ?_
  refine WC.seq fun K17 hK17 => ?_
  refine WC.region ?_
  refine WL.val (dx_loadN rfl ty_agg_25_4 rfl k16.range rfl) rfl rfl ?_
  refine WL.do (dx_store (cs' := [s1, s2, .int .i64 (if n < (-1) then (-1) else n), .bool down]) (vs := [s1, s2, .int .i64 (if n < (-1) then (-1) else n), .bool down]) rfl ty_size_25_4 rfl rfl rfl (oc_cons h1.one (oc_cons h2.one (oc_cons rfl (oc_cons rfl oc_nil)))) k8 rfl (Nat.le_of_ble_eq_true rfl) rfl) rfl ?_
  rintro _ W18 ⟨k20, o19⟩
  replace k16 := k16.other o19 n11
  clear k8
  replace h1 := h1.only o19 (.head _)
  replace h2 := h2.only o19 (.head _)
  replace hB := o19.below hB l12
  replace hL := LL.only hL o19
  refine WL.nil ?_
  refine hK17 ?_
  refine WC.ret fun a_ ha_ => ?_
  exact hQ (cv_ret1 rfl (.agg rfl ty_agg_25_4 k20.range rfl) rfl hB ha_)

set_option maxHeartbeats 1000000 in
theorem clipW_v (loose : List (Int × List Int)) (s2 : Value) (w : World) (L : List Nat) (hL : LL L w) (h2 : RdF 129 L w s2 (loose.map encW)) : CV Try.prog 29 [s2] w fun v W => ∃ a, v = .slice a loose.length loose.length ∧ RdF 129 L W v (loose.map encW) := by
  refine cv_enter (N := 9) (f := [(0, s2)]) Try.func29 rfl rfl rfl rfl fun Q hQ hE => ?_
  have hB := Below.refl w.heap.size w
  have h2m : loose.length ≤ maxLen := by have := h2.len; rwa [List.length_map] at this
  unfold maxLen at h2m
  refine WC.seq fun K1 hK1 => ?_
  refine WC.region ?_
  refine WL.val (dx_assign rfl rfl) rfl rfl ?_
  refine WL.nil ?_
  refine hK1 ?_
  refine WC.seq fun K2 hK2 => ?_
  refine WC.region ?_
  refine WL.val (dx_move rfl rfl) rfl rfl ?_
  refine WL.val (dx_move rfl rfl) rfl rfl ?_
  refine WL.val (dx_lenM rfl ty_slice_23 rfl h2) rfl rfl ?_
  refine WL.val (dx_move rfl rfl) rfl rfl ?_
  refine WL.val (dx_lenM rfl ty_slice_23 rfl h2) rfl rfl ?_
  refine WL.get (dx_clip rfl ty_slice_23 rfl h2 rfl rfl (by rw [List.length_map])) rfl rfl ?_
  rintro u3 _ ⟨rfl, a4, ea4, fa4⟩
  refine WL.val (dx_assign rfl rfl) rfl rfl ?_
  refine WL.nil ?_
  refine hK2 ?_
  refine WC.ret fun a_ ha_ => ?_
  exact hQ (cv_ret1 rfl (.tmp rfl) ⟨_, (by rw [ea4, List.length_map]), fa4⟩ hB ha_)

set_option maxHeartbeats 1000000 in
theorem cloneS_v (secs : List (List Int)) (s1 : Value) (w : World) (L : List Nat) (hL : LL L w) (h1 : RdF 128 L w s1 (secs.map encS))  (hne : secs ≠ []) (hsm : secs.length ≤ 2048) : CV Try.prog 40 [s1] w fun v W => ∃ B, w.heap.size ≤ B ∧ OwS 128 W v (secs.map encS) B := by
  refine cv_enter (N := 8) (f := [(0, s1)]) Try.func40 rfl rfl rfl rfl fun Q hQ hE => ?_
  have hB := Below.refl w.heap.size w
  have h1m : secs.length ≤ maxLen := by have := h1.len; rwa [List.length_map] at this
  unfold maxLen at h1m
  refine WC.seq fun K1 hK1 => ?_
  refine WC.region ?_
  refine WL.val (dx_assign rfl rfl) rfl rfl ?_
  refine WL.nil ?_
  refine hK1 ?_
  refine WC.seq fun K2 hK2 => ?_
  refine WC.seq fun K3 hK3 => ?_
  refine WC.region ?_
  refine WL.val (dx_move rfl rfl) rfl rfl ?_
  refine WL.val (dx_nilF rfl Try.underlying22 rfl h1 (by simpa using hne)) rfl rfl ?_
  refine WL.nil ?_
  refine hK3 ?_
  refine WC.condF rfl ?_
  refine WC.skip ?_
  refine hK2 ?_
  refine WC.seq fun K4 hK4 => ?_
  refine WC.region ?_
  refine WL.get (dx_lit0 rfl ty_ap_22 (by decide)) rfl rfl ?_
  rintro u9 W5 ⟨k6, b7, z8⟩
  have l10 := hB.size
  replace h1 := h1.more b7 (Nat.le_refl _)
  replace hB := below_then hB b7
  replace hL := LL.more hL z8
  refine WL.val (dx_move rfl rfl) rfl rfl ?_
  refine WL.get (dx_apO' (rs := []) (news := (secs.map encS)) rfl ty_ap_22 rfl rfl k6 h1 (oc_rows oc_S secs) (by simp; unfold maxLen; omega) (by simp; omega)) rfl rfl ?_
  rintro u14 W11 ⟨B15, k12, g13⟩
  have l16 := g13.le l10 hB.size
  replace h1 := h1.grow' g13 (.head _)
  replace hB := g13.below hB l10 hB.size
  replace hL := LL.grow hL g13 k12.lt
  refine WL.val (dx_assign rfl rfl) rfl rfl ?_
  refine WL.nil ?_
  refine hK4 ?_
  refine WC.ret fun a_ ha_ => ?_
  exact hQ (cv_ret1 rfl (.tmp rfl) ⟨B15, l16, (by simpa using k12)⟩ hB ha_)

def z0 : List Int := List.replicate 128 0
theorem z0_len : z0.length = 128 := by simp [z0]
theorem cells_z0 : (Value.agg (Array.replicate 128 (Value.int .u8 0))).cells.toList = encS z0 := by simp [Value.cells, encS, z0]
/-- The beginning of the new one, the end of the old one. -/
def tornS (old z : List Int) (n : Nat) : List Int := z.take n ++ old.drop n
theorem tornS_len {old z : List Int} {n : Nat} (h1 : old.length = 128) (h2 : z.length = 128) (hn : n ≤ 128) : (tornS old z n).length = 128 := by simp [tornS]; omega
theorem enc_torn (old z : List Int) (n : Nat) : (encS z).take n ++ (encS old).drop n = encS (tornS old z n) := by simp [encS, tornS]
theorem zeroW : (Try.prog.info? 59).bind (·.zero) = some (.agg (encW (0, z0)).toArray) := by kernel_rfl
set_option maxHeartbeats 1000000 in
theorem sync1_v (i : Int) (old z : List Int) (w : World) (L : List Nat) (hL : LL L w)   (ho : old.length = 128) (hz : z.length = 128) : CV Try.prog 38 [.int .i64 i, .agg (encS old).toArray, .agg (encS z).toArray] w fun v W => v = .agg (encS z).toArray := by
  refine cv_enter (N := 8) (f := [(0, .int .i64 i), (1, .agg (encS old).toArray), (2, .agg (encS z).toArray)]) Try.func38 rfl rfl rfl rfl fun Q hQ hE => ?_
  have hB := Below.refl w.heap.size w
  refine WC.seq fun K1 hK1 => ?_
  refine WC.region ?_
  refine WL.get (dx_box (cs := (encS old)) rfl rfl rfl) rfl rfl ?_
  rintro _ W2 ⟨rfl, k3, b4, z5⟩
  have l6 := hB.size
  replace hB := below_then hB b4
  replace hL := LL.more hL z5
  refine WL.get (dx_box (cs := (encS z)) rfl rfl rfl) rfl rfl ?_
  rintro _ W7 ⟨rfl, k8, b9, z10⟩
  have n11 : w.heap.size ≠ W2.heap.size := Nat.ne_of_lt k3.lt
  have l12 := hB.size
  replace k3 := k3.below b9
  replace hB := below_then hB b9
  replace hL := LL.more hL z10
  refine WL.get (dx_alloc (cs := encS z0) rfl ty_zero_27 cells_z0) rfl rfl ?_
  rintro _ W13 ⟨rfl, k14, b15, z16⟩
  have n17 : w.heap.size ≠ W7.heap.size := Nat.ne_of_lt k3.lt
  have n18 : W2.heap.size ≠ W7.heap.size := Nat.ne_of_lt k8.lt
  have l19 := hB.size
  replace k3 := k3.below b15
  replace k8 := k8.below b15
  replace hB := below_then hB b15
  replace hL := LL.more hL z16
  refine WL.nil ?_
  refine hK1 ?_
  refine WC.seq fun K20 hK20 => ?_
  refine WC.region ?_
  refine WL.val (dx_loadN rfl ty_agg_27_128 rfl k8.range (by rw [encS_len]; exact hz)) rfl rfl ?_
  refine WL.do (dx_storeW (vs := (encS z)) rfl ty_size_27_128 rfl rfl rfl (oc_S z) k14 (by rw [encS_len]; exact hz) (by rw [encS_len]; exact z0_len)) rfl ?_
  rintro _ W21 ⟨k23, o22⟩
  replace k3 := k3.other o22 n17
  replace k8 := k8.other o22 n18
  clear k14
  replace hB := o22.below hB l19
  replace hL := LL.only hL o22
  refine WL.nil ?_
  refine hK20 ?_
  refine WC.ret fun a_ ha_ => ?_
  exact hQ (cv_ret1 rfl (.agg rfl ty_agg_27_128 k23.range (by rw [encS_len]; exact hz)) rfl hB ha_)

set_option maxHeartbeats 1000000 in
theorem torn_v (old z : List Int) (n : Nat) (w : World) (L : List Nat) (hL : LL L w)   (ho : old.length = 128) (hz : z.length = 128) (hn : n ≤ 128) : CV Try.prog 36 [.agg (encS old).toArray, .agg (encS z).toArray, .int .i64 (n : Int)] w fun v W => v = .agg (encS (tornS old z n)).toArray := by
  refine cv_enter (N := 12) (f := [(0, .agg (encS old).toArray), (1, .agg (encS z).toArray), (2, .int .i64 (n : Int))]) Try.func36 rfl rfl rfl rfl fun Q hQ hE => ?_
  have hB := Below.refl w.heap.size w
  refine WC.seq fun K1 hK1 => ?_
  refine WC.region ?_
  refine WL.get (dx_box (cs := (encS old)) rfl rfl rfl) rfl rfl ?_
  rintro _ W2 ⟨rfl, k3, b4, z5⟩
  have l6 := hB.size
  replace hB := below_then hB b4
  replace hL := LL.more hL z5
  refine WL.get (dx_box (cs := (encS z)) rfl rfl rfl) rfl rfl ?_
  rintro _ W7 ⟨rfl, k8, b9, z10⟩
  have n11 : w.heap.size ≠ W2.heap.size := Nat.ne_of_lt k3.lt
  have l12 := hB.size
  replace k3 := k3.below b9
  replace hB := below_then hB b9
  replace hL := LL.more hL z10
  refine WL.get (dx_alloc (cs := encS z0) rfl ty_zero_27 cells_z0) rfl rfl ?_
  rintro _ W13 ⟨rfl, k14, b15, z16⟩
  have n17 : w.heap.size ≠ W7.heap.size := Nat.ne_of_lt k3.lt
  have n18 : W2.heap.size ≠ W7.heap.size := Nat.ne_of_lt k8.lt
  have l19 := hB.size
  replace k3 := k3.below b15
  replace k8 := k8.below b15
  replace hB := below_then hB b15
  replace hL := LL.more hL z16
  refine WL.nil ?_
  refine hK1 ?_
  refine WC.seq fun K20 hK20 => ?_
  refine WC.drawM 3 [(some 7, .is (.int .i64 (n : Int))), (some 8, .is (.slice (some ⟨w.heap.size, 0, none⟩) n 128)), (some 9, .is (.slice (some ⟨W2.heap.size, 0, none⟩) 128 128))] [[], [0], []] (by kernel_rfl) (by kernel_rfl) (by kernel_rfl) (by kernel_rfl) (by kernel_rfl) (by kernel_rfl) (by kernel_rfl) (by exact trivial) ?_ ?_
  ·
    refine DSteps.cons (fun Wd hd => ?_) ?_
    ·
      exact DV.dr (dx_move rfl rfl) ⟨Below.refl _ _, rfl⟩
    refine DSteps.cons (fun Wd hd => ?_) ?_
    ·
      exact DV.dr (dx_sliceA n rfl Try.underlying27 ty_size_5_1 rfl rfl (by omega) (by omega) (by decide)) ⟨Below.refl _ _, rfl⟩
    refine DSteps.cons (fun Wd hd => ?_) ?_
    ·
      exact DV.dr (dx_sliceAA rfl Try.underlying27 ty_size_5_1 rfl (by decide)) ⟨Below.refl _ _, rfl⟩
    exact trivial
  ·
    intro W21 b22
    replace k3 := k3.below b22
    replace k8 := k8.below b22
    replace k14 := k14.below b22
    replace hB := below_then hB b22
    replace hL := LL.below hL b22
    refine WL.get (dx_copy rfl ty_slice_70 rfl rfl k3 k8.range (by rw [encS_len]; exact hz) (by rw [encS_len, ho]; omega) (by omega) (oc_S z)) rfl rfl ?_
    rintro u23 W24 ⟨rfl, k25, o26⟩
    rw [enc_torn] at k25
    replace k8 := k8.other o26 n11.symm
    replace k14 := k14.other o26 n17.symm
    replace hB := o26.below hB l6
    replace hL := LL.only hL o26
    refine WL.nil ?_
    refine hK20 ?_
    refine WC.seq fun K27 hK27 => ?_
    refine WC.region ?_
    refine WL.val (dx_loadN rfl ty_agg_27_128 rfl k25.range (by rw [encS_len]; exact (tornS_len ho hz hn))) rfl rfl ?_
    refine WL.do (dx_storeW (vs := (encS (tornS old z n))) rfl ty_size_27_128 rfl rfl rfl (oc_S (tornS old z n)) k14 (by rw [encS_len]; exact (tornS_len ho hz hn)) (by rw [encS_len]; exact z0_len)) rfl ?_
    rintro _ W28 ⟨k30, o29⟩
    replace k25 := k25.other o29 n17
    replace k8 := k8.other o29 n18
    clear k14
    replace hB := o29.below hB l19
    replace hL := LL.only hL o29
    refine WL.nil ?_
    refine hK27 ?_
    refine WC.ret fun a_ ha_ => ?_
    exact hQ (cv_ret1 rfl (.agg rfl ty_agg_27_128 k30.range (by rw [encS_len]; exact (tornS_len ho hz hn))) rfl hB ha_)

def encF (p : Int × Int) : List Value := [.int .u8 p.1, .int .u8 p.2]
/-- What becomes of a write. -/
def fateS (fs : List (Int × Int)) (i : Nat) (old z : List Int) : List Int :=
  if fs = [] then old else match fs[i % fs.length]? with
    | none => old
    | some f => if f.1 % 3 = 1 then z else if f.1 % 3 = 2 then tornS old z (f.2 % 128).toNat else old
theorem fateS_len {fs : List (Int × Int)} {i : Nat} {old z : List Int} (h1 : old.length = 128) (h2 : z.length = 128) : (fateS fs i old z).length = 128 := by
  unfold fateS
  split
  · exact h1
  · split
    · exact h1
    · split
      · exact h2
      · split
        · exact tornS_len h1 h2 (by omega)
        · exact h1
set_option maxHeartbeats 1000000 in
theorem fall1_v (i : Nat) (old z : List Int) (u fv : Value) (fs : List (Int × Int)) (w : World) (L : List Nat) (hL : LL L w) (h3 : RdF 2 L w fv (fs.map encF)) (h0 : PtR L w u [fv])  (ho : old.length = 128) (hz : z.length = 128) (hfs : ∀ f ∈ fs, 0 ≤ f.1 ∧ f.1 ≤ 255 ∧ 0 ≤ f.2 ∧ f.2 ≤ 255) (hi : (i : Int) ≤ 9223372036854775807) : CV Try.prog 35 [.int .i64 (i : Int), .agg (encS old).toArray, .agg (encS z).toArray, u] w fun v W => v = .agg (encS (fateS fs i old z)).toArray := by
  refine cv_enter (N := 36) (f := [(0, .int .i64 (i : Int)), (1, .agg (encS old).toArray), (2, .agg (encS z).toArray), (3, u)]) Try.func35 rfl rfl rfl rfl fun Q hQ hE => ?_
  have hB := Below.refl w.heap.size w
  have h3m : fs.length ≤ maxLen := by have := h3.len; rwa [List.length_map] at this
  unfold maxLen at h3m
  refine WC.seq fun K1 hK1 => ?_
  refine WC.region ?_
  refine WL.get (dx_box (cs := (encS old)) rfl rfl rfl) rfl rfl ?_
  rintro _ W2 ⟨rfl, k3, b4, z5⟩
  have l6 := hB.size
  replace h3 := h3.more b4 (Nat.le_refl _)
  replace h0 := h0.more b4 (Nat.le_refl _)
  replace hB := below_then hB b4
  replace hL := LL.more hL z5
  refine WL.get (dx_box (cs := (encS z)) rfl rfl rfl) rfl rfl ?_
  rintro _ W7 ⟨rfl, k8, b9, z10⟩
  have n11 : w.heap.size ≠ W2.heap.size := Nat.ne_of_lt k3.lt
  have l12 := hB.size
  replace h3 := h3.more b9 (Nat.le_refl _)
  replace h0 := h0.more b9 (Nat.le_refl _)
  replace k3 := k3.below b9
  replace hB := below_then hB b9
  replace hL := LL.more hL z10
  refine WL.get (dx_alloc (cs := encS z0) rfl ty_zero_27 cells_z0) rfl rfl ?_
  rintro _ W13 ⟨rfl, k14, b15, z16⟩
  have n17 : w.heap.size ≠ W7.heap.size := Nat.ne_of_lt k3.lt
  have n18 : W2.heap.size ≠ W7.heap.size := Nat.ne_of_lt k8.lt
  have l19 := hB.size
  replace h3 := h3.more b15 (Nat.le_refl _)
  replace h0 := h0.more b15 (Nat.le_refl _)
  replace k3 := k3.below b15
  replace k8 := k8.below b15
  replace hB := below_then hB b15
  replace hL := LL.more hL z16
  refine WL.nil ?_
  refine hK1 ?_
  refine WC.seq fun K20 hK20 => ?_
  refine WC.seq fun K21 hK21 => ?_
  refine WC.region ?_
  refine WL.val (dx_loadP rfl ty_one_38 rfl h0) rfl rfl ?_
  refine WL.val (dx_lenM rfl ty_slice_38 rfl h3) rfl rfl ?_
  refine WL.val (dx_eql rfl rfl rfl) rfl rfl ?_
  refine WL.nil ?_
  refine hK21 ?_
  refine WC.cond rfl (fun c22 => ?_) (fun c22 => ?_)
  ·
    replace c22 := of_decide_eq_true c22
    refine WC.seq fun K23 hK23 => ?_
    refine WC.region ?_
    refine WL.val (dx_loadN rfl ty_agg_27_128 rfl k3.range (by rw [encS_len]; exact ho)) rfl rfl ?_
    refine WL.do (dx_storeW (vs := (encS old)) rfl ty_size_27_128 rfl rfl rfl (oc_S old) k14 (by rw [encS_len]; exact ho) (by rw [encS_len]; exact z0_len)) rfl ?_
    rintro _ W24 ⟨k26, o25⟩
    replace k3 := k3.other o25 n17
    replace k8 := k8.other o25 n18
    clear k14
    replace h3 := h3.only o25 (.head _)
    replace h0 := h0.only o25 (.head _)
    replace hB := o25.below hB l19
    replace hL := LL.only hL o25
    refine WL.nil ?_
    refine hK23 ?_
    refine WC.ret fun a_ ha_ => ?_
    exact hQ (cv_ret1 rfl (.agg rfl ty_agg_27_128 k26.range (by rw [encS_len]; exact ho)) (by simp only [fateS, if_pos (List.length_eq_zero_iff.1 (by omega : fs.length = 0))]) hB ha_)
  ·
    replace c22 := of_decide_eq_false c22
    refine WC.skip ?_
    refine hK20 ?_
    refine WC.seq fun K27 hK27 => ?_
    have hq1 := Int.emod_nonneg (i : Int) (b := (fs.length : Int)) (by omega)
    have hq2 := Int.emod_lt_of_pos (i : Int) (b := (fs.length : Int)) (by omega)
    have hq3 : ((i : Int) % (fs.length : Int)).toNat = i % fs.length := by omega
    obtain ⟨r28, e29⟩ : ∃ x, fs[((i : Int) % (fs.length : Int)).toNat]? = some x := ⟨_, List.getElem?_eq_getElem (by omega)⟩
    have Gr28 := hfs r28 (List.mem_of_getElem? e29)
    rw [hq3] at e29
    refine WC.drawM 8 [(some 13, .is (fv)), (some 14, .is (.int .i64 (i : Int))), (some 15, .is (fv)), (some 16, .is (.int .i64 (fs.length : Int))), (some 17, .is (.int .i64 ((i : Int) % (fs.length : Int)))), (some 18, .by fun u W => PtR (W7.heap.size :: W2.heap.size :: w.heap.size :: L) W u (encF r28)), (some 19, .is (.agg #[.int .u8 r28.1, .int .u8 r28.2])), (some 8, .by fun u W => NewP W13.heap.size 55 [.int .u8 0, .int .u8 0] u W)] [[], [], [], [2], [1, 3], [0, 4], [5], []] (by kernel_rfl) (by kernel_rfl) (by kernel_rfl) (by kernel_rfl) (by kernel_rfl) (by kernel_rfl) (by kernel_rfl) ⟨fun _ _ _ hb h => h.below hb, fun _ _ _ hb h => h.below hb, trivial⟩ ?_ ?_
    ·
      refine DSteps.cons (fun Wd hd => ?_) ?_
      ·
        have h0 := h0.below hd
        exact DV.dr (dx_loadP rfl ty_one_38 rfl h0) ⟨Below.refl _ _, rfl⟩
      refine DSteps.cons (fun Wd hd => ?_) ?_
      ·
        exact DV.dr (dx_move rfl rfl) ⟨Below.refl _ _, rfl⟩
      refine DSteps.cons (fun Wd hd => ?_) ?_
      ·
        have h0 := h0.below hd
        exact DV.dr (dx_loadP rfl ty_one_38 rfl h0) ⟨Below.refl _ _, rfl⟩
      refine DSteps.cons (fun Wd hd => ?_) ?_
      ·
        have h3 := h3.below hd
        exact DV.dr (dx_lenM rfl ty_slice_38 rfl h3) ⟨Below.refl _ _, rfl⟩
      refine DSteps.cons (fun Wd hd => ?_) ?_
      ·
        exact DV.dr (dx_rem (r := (i : Int) % (fs.length : Int)) rfl rfl rfl (by omega) (Int.tmod_eq_emod_of_nonneg (by omega))) ⟨Below.refl _ _, rfl⟩
      refine DSteps.cons (fun Wd hd => ?_) ?_
      ·
        have h3 := h3.below hd
        exact (dx_idxF (((i : Int) % (fs.length : Int)).toNat) rfl ty_slice_38 rfl rfl h3 (by omega) (at_map (by rw [hq3]; exact e29))).mono (fun v W' h => ⟨by rw [← h.1]; exact Below.refl _ _, by rw [← h.1]; exact h.2⟩)
      refine DSteps.cons (fun Wd hd => ?_) ?_
      ·
        intro u3_5 p3_5
        exact DV.dr (dx_loadPN rfl ty_agg_55_2 rfl p3_5 rfl) ⟨Below.refl _ _, rfl⟩
      refine DSteps.cons (fun Wd hd => ?_) ?_
      ·
        exact (dx_allocP rfl ty_zero_55 rfl).mono (fun v W' h => ⟨h.1, h.2 hd⟩)
      exact trivial
    ·
      intro W30 b31
      intro u3_5 p3_5
      rintro _ ⟨B3_7, rfl, q3_7, t3_7⟩
      have k3_7 := t3_7.blk
      have n32 : w.heap.size ≠ B3_7 := Nat.ne_of_lt (Nat.lt_of_lt_of_le k3.lt q3_7)
      have n33 : W2.heap.size ≠ B3_7 := Nat.ne_of_lt (Nat.lt_of_lt_of_le k8.lt q3_7)
      have n34 : W7.heap.size ≠ B3_7 := Nat.ne_of_lt (Nat.lt_of_lt_of_le k14.lt q3_7)
      replace h3 := h3.more b31 q3_7
      replace h0 := h0.more b31 q3_7
      replace k3 := k3.below b31
      replace k8 := k8.below b31
      replace k14 := k14.below b31
      have l35 := Nat.le_trans hB.size q3_7
      replace hB := below_then hB b31
      replace hL := LL.below hL b31
      replace hL := LL.cons hL k3_7.lt
      refine WL.do (dx_store (cs' := [.int .u8 r28.1, .int .u8 r28.2]) (vs := [.int .u8 r28.1, .int .u8 r28.2]) rfl ty_size_55_2 rfl rfl rfl (oc_cons rfl (oc_cons rfl oc_nil)) k3_7 rfl (Nat.le_of_ble_eq_true rfl) rfl) rfl ?_
      rintro _ W36 ⟨k38, o37⟩
      replace k3 := k3.other o37 n32
      replace k8 := k8.other o37 n33
      replace k14 := k14.other o37 n34
      clear k3_7
      replace h3 := h3.only o37 (.head _)
      replace h0 := h0.only o37 (.head _)
      replace hB := o37.below hB l35
      replace hL := LL.only hL o37
      refine WL.nil ?_
      refine hK27 ?_
      refine WC.seq fun K39 hK39 => ?_
      refine WC.seq fun K40 hK40 => ?_
      refine WC.region ?_
      refine WL.val (dx_fld (o1 := 0) rfl ty_fld_55_0_0 rfl rfl) rfl rfl ?_
      refine WL.val (dx_load rfl ty_one_5 rfl (k38.cell (k := 0) rfl)) rfl rfl ?_
      refine WL.val (dx_rem (r := r28.1 % 3) rfl rfl rfl (by omega) (Int.tmod_eq_emod_of_nonneg (by omega))) rfl rfl ?_
      refine WL.nil ?_
      refine hK40 ?_
      refine WC.block ?_
      refine WC.seq fun K41 hK41 => ?_
      refine WC.region ?_
      refine WL.val (dx_eql rfl rfl rfl) rfl rfl ?_
      refine WL.val (dx_assign rfl rfl) rfl rfl ?_
      refine WL.nil ?_
      refine hK41 ?_
      refine WC.cond rfl (fun c42 => ?_) (fun c42 => ?_)
      ·
        replace c42 := of_decide_eq_true c42
        refine WC.seq fun K43 hK43 => ?_
        refine WC.region ?_
        refine WL.val (dx_loadN rfl ty_agg_27_128 rfl k8.range (by rw [encS_len]; exact hz)) rfl rfl ?_
        refine WL.do (dx_storeW (vs := (encS z)) rfl ty_size_27_128 rfl rfl rfl (oc_S z) k14 (by rw [encS_len]; exact hz) (by rw [encS_len]; exact z0_len)) rfl ?_
        rintro _ W44 ⟨k46, o45⟩
        replace k3 := k3.other o45 n17
        replace k8 := k8.other o45 n18
        replace k38 := k38.other o45 n34.symm
        clear k14
        replace h3 := h3.only o45 (.tail _ (.head _))
        replace h0 := h0.only o45 (.tail _ (.head _))
        replace hB := o45.below hB l19
        replace hL := LL.only hL o45
        refine WL.nil ?_
        refine hK43 ?_
        refine WC.ret fun a_ ha_ => ?_
        exact hQ (cv_ret1 rfl (.agg rfl ty_agg_27_128 k46.range (by rw [encS_len]; exact hz)) (by have hne : ¬ fs = [] := (fun e => by subst e; simp at *); simp only [fateS, if_neg hne, e29]; simp [*]) hB ha_)
      ·
        replace c42 := of_decide_eq_false c42
        refine WC.seq fun K47 hK47 => ?_
        refine WC.region ?_
        refine WL.val (dx_eql rfl rfl rfl) rfl rfl ?_
        refine WL.val (dx_assign rfl rfl) rfl rfl ?_
        refine WL.nil ?_
        refine hK47 ?_
        refine WC.cond rfl (fun c48 => ?_) (fun c48 => ?_)
        ·
          replace c48 := of_decide_eq_true c48
          refine WC.seq fun K49 hK49 => ?_
          refine WC.region ?_
          refine WL.val (dx_loadN rfl ty_agg_27_128 rfl k3.range (by rw [encS_len]; exact ho)) rfl rfl ?_
          refine WL.val (dx_loadN rfl ty_agg_27_128 rfl k8.range (by rw [encS_len]; exact hz)) rfl rfl ?_
          refine WL.val (dx_fld (o1 := 1) rfl ty_fld_55_1_1 rfl rfl) rfl rfl ?_
          refine WL.val (dx_load rfl ty_one_5 rfl (k38.cell (k := 1) rfl)) rfl rfl ?_
          refine WL.val (dx_conv (r := r28.2) rfl Try.underlying5 Try.underlying3 rfl (wrap64_id (by omega))) rfl rfl ?_
          refine WL.val (dx_rem (r := r28.2 % 128) rfl rfl rfl (by omega) (Int.tmod_eq_emod_of_nonneg (by omega))) rfl rfl ?_
          refine WL.get (dx_cv rfl Try.func36 rfl rfl rfl ((show CV _ _ [_, _, .int .i64 (r28.2 % 128)] _ _ from (by have := torn_v old z ((r28.2 % 128).toNat) W36 [] (LL.nil _) ho hz (by omega); rwa [Int.toNat_of_nonneg (by omega)] at this)))) rfl rfl ?_
          rintro _ W51 ⟨rfl, b50⟩
          replace h3 := h3.below b50
          replace h0 := h0.below b50
          replace k3 := k3.below b50
          replace k8 := k8.below b50
          replace k14 := k14.below b50
          replace k38 := k38.below b50
          replace hB := below_then hB b50
          replace hL := LL.below hL b50
          refine WL.do (dx_storeW (vs := (encS (tornS old z ((r28.2 % 128).toNat)))) rfl ty_size_27_128 rfl rfl rfl (oc_S (tornS old z ((r28.2 % 128).toNat))) k14 (by rw [encS_len]; exact (tornS_len ho hz (by omega))) (by rw [encS_len]; exact z0_len)) rfl ?_
          rintro _ W52 ⟨k54, o53⟩
          replace k3 := k3.other o53 n17
          replace k8 := k8.other o53 n18
          replace k38 := k38.other o53 n34.symm
          clear k14
          replace h3 := h3.only o53 (.tail _ (.head _))
          replace h0 := h0.only o53 (.tail _ (.head _))
          replace hB := o53.below hB l19
          replace hL := LL.only hL o53
          refine WL.nil ?_
          refine hK49 ?_
          refine WC.ret fun a_ ha_ => ?_
          exact hQ (cv_ret1 rfl (.agg rfl ty_agg_27_128 k54.range (by rw [encS_len]; exact (tornS_len ho hz (by omega)))) (by have hne : ¬ fs = [] := (fun e => by subst e; simp at *); simp only [fateS, if_neg hne, e29]; simp [*]) hB ha_)
        ·
          replace c48 := of_decide_eq_false c48
          refine WC.skip ?_
          refine hK39 ?_
          refine WC.seq fun K55 hK55 => ?_
          refine WC.region ?_
          refine WL.val (dx_loadN rfl ty_agg_27_128 rfl k3.range (by rw [encS_len]; exact ho)) rfl rfl ?_
          refine WL.do (dx_storeW (vs := (encS old)) rfl ty_size_27_128 rfl rfl rfl (oc_S old) k14 (by rw [encS_len]; exact ho) (by rw [encS_len]; exact z0_len)) rfl ?_
          rintro _ W56 ⟨k58, o57⟩
          replace k3 := k3.other o57 n17
          replace k8 := k8.other o57 n18
          replace k38 := k38.other o57 n34.symm
          clear k14
          replace h3 := h3.only o57 (.tail _ (.head _))
          replace h0 := h0.only o57 (.tail _ (.head _))
          replace hB := o57.below hB l19
          replace hL := LL.only hL o57
          refine WL.nil ?_
          refine hK55 ?_
          refine WC.ret fun a_ ha_ => ?_
          exact hQ (cv_ret1 rfl (.agg rfl ty_agg_27_128 k58.range (by rw [encS_len]; exact ho)) (by have hne : ¬ fs = [] := (fun e => by subst e; simp at *); simp only [fateS, if_neg hne, e29]; simp [*]) hB ha_)

/-- What a disk's sectors are behind its loose writes. -/
def settleS (tk : Nat → List Int → List Int → List Int) : List (Int × List Int) → List (List Int) → Nat → List (List Int)
  | [], secs, _ => secs
  | p :: l, secs, i => settleS tk l (secs.set p.1.toNat (tk i (secs[p.1.toNat]?.getD []) p.2)) (i + 1)
theorem settle_step {tk : Nat → List Int → List Int → List Int} {l : List (Int × List Int)} {cur : List (List Int)} {i : Nat} {p : Int × List Int} {r : List Int} (h : l[i]? = some p) (hr : cur[p.1.toNat]? = some r) : settleS tk (l.drop i) cur i = settleS tk (l.drop (i + 1)) (cur.set p.1.toNat (tk i r p.2)) (i + 1) := by
  obtain ⟨hl, he⟩ := List.getElem?_eq_some_iff.1 h
  rw [List.drop_eq_getElem_cons hl, he, settleS, hr]
  rfl
theorem settle_end {tk : Nat → List Int → List Int → List Int} {l : List (Int × List Int)} {cur : List (List Int)} {i : Nat} (h : ¬ (i : Int) < l.length) : settleS tk (l.drop i) cur i = cur := by
  rw [List.drop_eq_nil_of_le (by omega)]; rfl
theorem ows_S {w : World} {v : Value} {xs : List (List Int)} {B : Nat} (h : OwS 128 w v (xs.map encS) B) {i : Nat} {x : List Int} (hx : xs[i]? = some x) : x.length = 128 := by
  have := h.2.1 _ (List.mem_of_getElem? (at_map (enc := encS) hx))
  rwa [encS_len] at this
set_option maxHeartbeats 1000000 in
theorem settle_v (secs : List (List Int)) (loose : List (Int × List Int)) (fuse : Int) (down : Bool) (s1 s2 : Value) (tk : Nat → List Int → List Int → List Int) (g : Value) (w : World) (L : List Nat) (hL : LL L w) (h1 : RdF 128 L w s1 (secs.map encS)) (h2 : RdF 129 L w s2 (loose.map encW))  (hL0 : LL L w) (hne : secs ≠ []) (hsm : secs.length ≤ 2048) (hrt : ∀ p ∈ loose, 0 ≤ p.1 ∧ p.1 < secs.length) (hg : ∀ W, Below w.heap.size w W → ∀ (i : Nat) (x z : List Int), i < loose.length → x.length = 128 → z.length = 128 → (FV Try.prog g [.int .i64 (i : Int), .agg (encS x).toArray, .agg (encS z).toArray] W fun v _ => v = .agg (encS (tk i x z)).toArray) ∧ (tk i x z).length = 128) : CV Try.prog 34 [.agg #[s1, s2, .int .i64 fuse, .bool down], g] w fun v W => ∃ s1', v = .agg #[s1', .slice none 0 0, .int .i64 fuse, .bool down] ∧ RdF 128 L W s1' ((settleS tk loose secs 0).map encS) := by
  refine cv_enter (N := 38) (f := [(0, .agg #[s1, s2, .int .i64 fuse, .bool down]), (1, g)]) Try.func34 rfl rfl rfl rfl fun Q hQ hE => ?_
  have hB := Below.refl w.heap.size w
  have h1m : secs.length ≤ maxLen := by have := h1.len; rwa [List.length_map] at this
  unfold maxLen at h1m
  have h2m : loose.length ≤ maxLen := by have := h2.len; rwa [List.length_map] at this
  unfold maxLen at h2m
  refine WC.seq fun K1 hK1 => ?_
  refine WC.region ?_
  refine WL.get (dx_box rfl rfl rfl) rfl rfl ?_
  rintro _ W2 ⟨rfl, k3, b4, z5⟩
  have l6 := hB.size
  replace h1 := h1.more b4 (Nat.le_refl _)
  replace h2 := h2.more b4 (Nat.le_refl _)
  replace hB := below_then hB b4
  replace hL := LL.more hL z5
  refine WL.get (dx_alloc rfl ty_zero_25 rfl) rfl rfl ?_
  rintro _ W7 ⟨rfl, k8, b9, z10⟩
  have n11 : w.heap.size ≠ W2.heap.size := Nat.ne_of_lt k3.lt
  have l12 := hB.size
  replace h1 := h1.more b9 (Nat.le_refl _)
  replace h2 := h2.more b9 (Nat.le_refl _)
  replace k3 := k3.below b9
  replace hB := below_then hB b9
  replace hL := LL.more hL z10
  refine WL.nil ?_
  refine hK1 ?_
  refine WC.seq fun K13 hK13 => ?_
  refine WC.region ?_
  refine WL.val (dx_fld (o1 := 0) rfl ty_fld_25_0_0 rfl rfl) rfl rfl ?_
  refine WL.val (dx_load rfl ty_one_22 rfl (k3.cell (k := 0) rfl)) rfl rfl ?_
  refine WL.get (dx_cv rfl Try.func40 rfl rfl rfl (cloneS_v secs s1 W7 [] (LL.nil _) (h1.less (by simp)) hne (by omega))) rfl rfl ?_
  rintro u17 W19 ⟨⟨B14, q16, k15⟩, b18⟩
  have n20 : w.heap.size ≠ B14 := Nat.ne_of_lt (Nat.lt_of_lt_of_le k3.lt q16)
  have n21 : W2.heap.size ≠ B14 := Nat.ne_of_lt (Nat.lt_of_lt_of_le k8.lt q16)
  have l22 := Nat.le_trans hB.size q16
  replace h1 := h1.more b18 q16
  replace h2 := h2.more b18 q16
  replace k3 := k3.below b18
  replace k8 := k8.below b18
  replace hB := below_then hB b18
  replace hL := LL.cons (LL.below hL b18) k15.lt
  refine WL.val (dx_fld (o1 := 0) rfl ty_fld_25_0_0 rfl rfl) rfl rfl ?_
  refine WL.do (dx_store (cs' := [u17, s2, .int .i64 fuse, .bool down]) (vs := [u17]) rfl ty_size_22_1 rfl rfl (oc_one k15.one) (oc_cons k15.one oc_nil) k3 rfl (Nat.le_of_ble_eq_true rfl) rfl) rfl ?_
  rintro _ W23 ⟨k25, o24⟩
  replace k8 := k8.other o24 n11.symm
  replace k15 := k15.other o24 n20.symm
  clear k3
  replace h1 := h1.only o24 (.tail _ (.tail _ (.head _)))
  replace h2 := h2.only o24 (.tail _ (.tail _ (.head _)))
  replace hB := o24.below hB l6
  replace hL := LL.only hL o24
  refine WL.nil ?_
  refine hK13 ?_
  refine WC.seq fun K26 hK26 => ?_
  refine WC.seq fun K27 hK27 => ?_
  refine WC.region ?_
  refine WL.val (dx_fld (o1 := 1) rfl ty_fld_25_1_1 rfl rfl) rfl rfl ?_
  refine WL.val (dx_load rfl ty_one_23 rfl (k25.cell (k := 1) rfl)) rfl rfl ?_
  refine WL.val (dx_lenM rfl ty_slice_23 rfl h2) rfl rfl ?_
  refine WL.val (dx_move rfl rfl) rfl rfl ?_
  refine WL.nil ?_
  refine hK27 ?_
  refine WC.block ?_
  refine WC.loop2 (fun (i : Nat) (cur : List (List Int)) => [(1, g), (2, .pointer (some ⟨w.heap.size, 0, none⟩)), (4, .pointer (some ⟨W2.heap.size, 0, none⟩)), (12, s2), (13, .int .i64 (loose.length : Int)), (14, .int .i64 (i : Int))]) (fun (i : Nat) (cur : List (List Int)) W => i ≤ loose.length ∧ settleS tk loose secs 0 = settleS tk (loose.drop i) cur i ∧ cur.length = secs.length ∧ Below w.heap.size w W ∧ LL (B14 :: W2.heap.size :: w.heap.size :: L) W ∧ RdF 128 (B14 :: W2.heap.size :: w.heap.size :: L) W s1 (secs.map encS) ∧ RdF 129 (B14 :: W2.heap.size :: w.heap.size :: L) W s2 (loose.map encW) ∧ Blk W w.heap.size [u17, s2, .int .i64 fuse, .bool down] ∧ Blk W W2.heap.size [.slice none 0 0, .slice none 0 0, .int .i64 0, .bool false] ∧ OwS 128 W u17 (cur.map encS) B14) (fun (i : Nat) (cur : List (List Int)) => loose.length - i) 0 secs (by repeat first | exact trivial | exact And.intro rfl trivial | refine And.intro rfl ?_ | refine And.intro (congrArg (fun z : Int => some (Value.int .i64 z)) (by omega)) ?_) ⟨Nat.zero_le _, rfl, rfl, hB, hL, h1, h2, k25, k8, k15⟩ ?_
  clear h1 h2 k25 k8 k15 hB hL
  rintro K28 i cur W29 ⟨hi, hv, hc, hB, hL, h1, h2, k25, k8, k15⟩ hK28
  refine WC.seq fun K30 hK30 => ?_
  refine WC.region ?_
  refine WL.val (dx_lss rfl rfl rfl) rfl rfl ?_
  refine WL.nil ?_
  refine hK30 ?_
  refine WC.seq fun K31 hK31 => ?_
  refine WC.cond rfl (fun c32 => ?_) (fun c32 => ?_)
  ·
    replace c32 := of_decide_eq_true c32
    refine WC.skip ?_
    refine hK31 ?_
    refine WC.seq fun K33 hK33 => ?_
    refine WC.block ?_
    refine WC.seq fun K34 hK34 => ?_
    refine WC.region ?_
    refine WL.val (dx_move rfl rfl) rfl rfl ?_
    obtain ⟨r35, e36⟩ : ∃ x, loose[i]? = some x := ⟨_, List.getElem?_eq_getElem (by omega)⟩
    have Lr35 := rdf_W h2 e36
    have Rr35 := hrt r35 (List.mem_of_getElem? e36)
    refine WL.get (dx_idxF i rfl ty_slice_23 rfl rfl h2 (by omega) (at_map e36)) rfl rfl ?_
    rintro u37 _ ⟨rfl, p38⟩
    refine WL.val (dx_loadPN rfl ty_agg_59_129 rfl p38 (by simp [encW, encS_len, Lr35])) rfl rfl ?_
    refine WL.get (dx_alloc (cs := encW (0, z0)) rfl zeroW rfl) rfl rfl ?_
    rintro _ W39 ⟨rfl, k40, b41, z42⟩
    have n43 : w.heap.size ≠ W29.heap.size := Nat.ne_of_lt k25.lt
    have n44 : W2.heap.size ≠ W29.heap.size := Nat.ne_of_lt k8.lt
    have n45 : B14 ≠ W29.heap.size := Nat.ne_of_lt k15.lt
    have l46 := hB.size
    replace h1 := h1.more b41 (Nat.le_refl _)
    replace h2 := h2.more b41 (Nat.le_refl _)
    replace p38 := p38.more b41 (Nat.le_refl _)
    replace k25 := k25.below b41
    replace k8 := k8.below b41
    replace k15 := k15.below b41
    replace hB := below_then hB b41
    replace hL := LL.more hL z42
    refine WL.val (dx_assign rfl rfl) rfl rfl ?_
    refine WL.do (dx_storeW (vs := (encW r35)) rfl ty_size_59_129 rfl rfl rfl (oc_cons rfl (oc_S r35.2)) k40 (by simp [encW, encS_len, Lr35]) (by simp [encW, encS_len, z0_len])) rfl ?_
    rintro _ W47 ⟨k49, o48⟩
    replace k25 := k25.other o48 n43
    replace k8 := k8.other o48 n44
    replace k15 := k15.other o48 n45
    clear k40
    replace h1 := h1.only o48 (.head _)
    replace h2 := h2.only o48 (.head _)
    replace p38 := p38.only o48 (.head _)
    replace hB := o48.below hB l46
    replace hL := LL.only hL o48
    refine WL.nil ?_
    refine hK34 ?_
    obtain ⟨r50, e51⟩ : ∃ x, cur[r35.1.toNat]? = some x := ⟨_, List.getElem?_eq_getElem (by omega)⟩
    have Lr50 := ows_S k15 e51
    refine WC.drawM 15 [(some 19, .is (.pointer (some ⟨w.heap.size, 0, none⟩))), (some 20, .is (u17)), (some 21, .is (.pointer (some ⟨W29.heap.size, 0, none⟩))), (some 22, .is (.int .i64 r35.1)), (some 23, .is (g)), (some 24, .is (.int .i64 (i : Int))), (some 25, .is (.pointer (some ⟨w.heap.size, 0, none⟩))), (some 26, .is (u17)), (some 27, .is (.pointer (some ⟨W29.heap.size, 0, none⟩))), (some 28, .is (.int .i64 r35.1)), (some 29, .is (.pointer (some ⟨B14, r35.1.toNat * 128, none⟩))), (some 30, .is (.agg (encS r50).toArray)), (some 31, .is (.pointer (some ⟨W29.heap.size, 1, none⟩))), (some 32, .is (.agg (encS r35.2).toArray)), (some 33, .is (.agg (encS (tk i r50 r35.2)).toArray))] [[], [0], [], [2], [], [], [], [6], [], [8], [7, 9], [10], [], [12], [4, 5, 11, 13]] (by kernel_rfl) (by kernel_rfl) (by kernel_rfl) (by kernel_rfl) (by kernel_rfl) (by kernel_rfl) (by kernel_rfl) (by exact trivial) ?_ ?_
    ·
      refine DSteps.cons (fun Wd hd => ?_) ?_
      ·
        exact DV.dr (dx_fld (o1 := 0) rfl ty_fld_25_0_0 rfl rfl) ⟨Below.refl _ _, rfl⟩
      refine DSteps.cons (fun Wd hd => ?_) ?_
      ·
        have k25 := k25.below hd
        exact DV.dr (dx_load rfl ty_one_22 rfl (k25.cell (k := 0) rfl)) ⟨Below.refl _ _, rfl⟩
      refine DSteps.cons (fun Wd hd => ?_) ?_
      ·
        exact DV.dr (dx_fld (o1 := 0) rfl ty_fld_59_0_0 rfl rfl) ⟨Below.refl _ _, rfl⟩
      refine DSteps.cons (fun Wd hd => ?_) ?_
      ·
        have k49 := k49.below hd
        exact DV.dr (dx_load rfl ty_one_3 rfl (k49.cell (k := 0) rfl)) ⟨Below.refl _ _, rfl⟩
      refine DSteps.cons (fun Wd hd => ?_) ?_
      ·
        exact DV.dr (dx_move rfl rfl) ⟨Below.refl _ _, rfl⟩
      refine DSteps.cons (fun Wd hd => ?_) ?_
      ·
        exact DV.dr (dx_move rfl rfl) ⟨Below.refl _ _, rfl⟩
      refine DSteps.cons (fun Wd hd => ?_) ?_
      ·
        exact DV.dr (dx_fld (o1 := 0) rfl ty_fld_25_0_0 rfl rfl) ⟨Below.refl _ _, rfl⟩
      refine DSteps.cons (fun Wd hd => ?_) ?_
      ·
        have k25 := k25.below hd
        exact DV.dr (dx_load rfl ty_one_22 rfl (k25.cell (k := 0) rfl)) ⟨Below.refl _ _, rfl⟩
      refine DSteps.cons (fun Wd hd => ?_) ?_
      ·
        exact DV.dr (dx_fld (o1 := 0) rfl ty_fld_59_0_0 rfl rfl) ⟨Below.refl _ _, rfl⟩
      refine DSteps.cons (fun Wd hd => ?_) ?_
      ·
        have k49 := k49.below hd
        exact DV.dr (dx_load rfl ty_one_3 rfl (k49.cell (k := 0) rfl)) ⟨Below.refl _ _, rfl⟩
      refine DSteps.cons (fun Wd hd => ?_) ?_
      ·
        have k15 := k15.below hd
        exact DV.dr (dx_idxO r35.1.toNat rfl ty_slice_22 rfl rfl k15 (by omega) (by rw [List.length_map]; omega) rfl) ⟨Below.refl _ _, rfl⟩
      refine DSteps.cons (fun Wd hd => ?_) ?_
      ·
        have k15 := k15.below hd
        exact DV.dr (dx_loadO rfl ty_agg_27_128 rfl k15 rfl (at_map e51)) ⟨Below.refl _ _, rfl⟩
      refine DSteps.cons (fun Wd hd => ?_) ?_
      ·
        exact DV.dr (dx_fld (o1 := 1) rfl ty_fld_59_1_1 rfl rfl) ⟨Below.refl _ _, rfl⟩
      refine DSteps.cons (fun Wd hd => ?_) ?_
      ·
        have k49 := k49.below hd
        exact DV.dr (dx_loadN (cs := (encS r35.2)) rfl ty_agg_27_128 rfl (k49.partE (n := 128) (by simp [encW, List.take_of_length_le, encS_len, Lr35])) (by rw [encS_len]; exact Lr35)) ⟨Below.refl _ _, rfl⟩
      refine DSteps.cons (fun Wd hd => ?_) ?_
      ·
        exact DR.mono (dx_fv rfl rfl rfl ((hg _ (below_then hB hd) i r50 r35.2 (by omega) (by first | assumption) (by first | assumption)).1)) (fun v W' ⟨h, hb⟩ => ⟨hb, (by rw [h]; exact rfl)⟩)
      exact trivial
    ·
      intro W52 b53
      replace h1 := h1.below b53
      replace h2 := h2.below b53
      replace k25 := k25.below b53
      replace k8 := k8.below b53
      replace k15 := k15.below b53
      replace k49 := k49.below b53
      replace hB := below_then hB b53
      replace hL := LL.below hL b53
      refine WL.val (dx_idxO r35.1.toNat rfl ty_slice_22 rfl rfl k15 (by omega) (by rw [List.length_map]; omega) rfl) rfl rfl ?_
      refine WL.do (dx_storeO (r := (encS (tk i r50 r35.2))) rfl ty_size_27_128 rfl rfl rfl (oc_S (tk i r50 r35.2)) k15 rfl (by rw [List.length_map]; omega) (by rw [encS_len]; exact (hg w (Below.refl _ _) i r50 r35.2 (by omega) (by first | assumption) (by first | assumption)).2)) rfl ?_
      rintro _ W54 ⟨k56, o55⟩
      replace k25 := k25.other o55 n20
      replace k8 := k8.other o55 n21
      replace k49 := k49.other o55 n45.symm
      clear k15
      replace h1 := h1.only o55 (.tail _ (.head _))
      replace h2 := h2.only o55 (.tail _ (.head _))
      replace hB := o55.below hB l22
      replace hL := LL.only hL o55
      rw [← List.map_set] at k56
      refine WL.nil ?_
      refine hK33 ?_
      refine WC.region ?_
      refine WL.val (dx_add (r := (i : Int) + 1) rfl rfl rfl (wrap64_id (by omega))) rfl rfl ?_
      refine WL.val (dx_move rfl rfl) rfl rfl ?_
      refine WL.nil ?_
      replace hL := hL.less (fun x hx => (.tail _ hx))
      replace h1 := h1.less (fun x hx => (.tail _ hx))
      replace h2 := h2.less (fun x hx => (.tail _ hx))
      exact hK28 (i + 1) (cur.set r35.1.toNat (tk i r50 r35.2)) ⟨(by omega), (by rw [hv]; exact settle_step e36 e51), (by rw [List.length_set]; exact hc), hB, hL, h1, h2, k25, k8, k56⟩ (by omega) (by repeat first | exact trivial | exact And.intro rfl trivial | refine And.intro rfl ?_ | refine And.intro (congrArg (fun z : Int => some (Value.int .i64 z)) (by omega)) ?_)
  ·
    replace c32 := of_decide_eq_false c32
    refine WC.exit ?_
    refine hK26 ?_
    refine WC.seq fun K57 hK57 => ?_
    refine WC.region ?_
    refine WL.val (dx_fld (o1 := 1) rfl ty_fld_25_1_1 rfl rfl) rfl rfl ?_
    refine WL.do (dx_store (cs' := [u17, .slice none 0 0, .int .i64 fuse, .bool down]) (vs := [.slice none 0 0]) rfl ty_size_23_1 rfl rfl rfl (oc_cons rfl oc_nil) k25 rfl (Nat.le_of_ble_eq_true rfl) rfl) rfl ?_
    rintro _ W58 ⟨k60, o59⟩
    replace k8 := k8.other o59 n11.symm
    replace k15 := k15.other o59 n20.symm
    clear k25
    replace h1 := h1.only o59 (.tail _ (.tail _ (.head _)))
    replace h2 := h2.only o59 (.tail _ (.tail _ (.head _)))
    replace hB := o59.below hB l6
    replace hL := LL.only hL o59
    refine WL.nil ?_
    refine hK57 ?_
    refine WC.seq fun K61 hK61 => ?_
    refine WC.region ?_
    refine WL.val (dx_loadN rfl ty_agg_25_4 rfl k60.range rfl) rfl rfl ?_
    refine WL.do (dx_store (cs' := [u17, .slice none 0 0, .int .i64 fuse, .bool down]) (vs := [u17, .slice none 0 0, .int .i64 fuse, .bool down]) rfl ty_size_25_4 rfl rfl rfl (oc_cons k15.one (oc_cons rfl (oc_cons rfl (oc_cons rfl oc_nil)))) k8 rfl (Nat.le_of_ble_eq_true rfl) rfl) rfl ?_
    rintro _ W62 ⟨k64, o63⟩
    replace k60 := k60.other o63 n11
    replace k15 := k15.other o63 n21.symm
    clear k8
    replace h1 := h1.only o63 (.tail _ (.head _))
    replace h2 := h2.only o63 (.tail _ (.head _))
    replace hB := o63.below hB l12
    replace hL := LL.only hL o63
    refine WL.nil ?_
    refine hK61 ?_
    refine WC.ret fun a_ ha_ => ?_
    exact hQ (cv_ret1 rfl (.agg rfl ty_agg_25_4 k64.range rfl) ⟨_, rfl, (by rw [hv, settle_end (by omega)]; exact k15.notin hL0 l22)⟩ hB ha_)

structure DO where
  secs : List (List Int)
  loose : List (Int × List Int)
  fuse : Int
  down : Bool
  err : Int
def newS (n : Int) : DO := if n < 1 ∨ 2048 < n then ⟨[], [], 0, false, 1⟩ else ⟨List.replicate n.toNat z0, [], -1, false, 0⟩
def writeS (secs : List (List Int)) (loose : List (Int × List Int)) (fuse : Int) (down : Bool) (a : Int) (z : List Int) : DO :=
  if rightD secs loose = false then ⟨secs, loose, fuse, down, 1⟩ else if hasB secs a = false then ⟨secs, loose, fuse, down, 1⟩ else if down = true then ⟨secs, loose, fuse, down, 9⟩
  else if (loose.length : Int) = 4096 then ⟨secs, loose, fuse, down, 10⟩ else if ¬ (burnS fuse down).2.2 = 0 then ⟨secs, loose, (burnS fuse down).1, (burnS fuse down).2.1, (burnS fuse down).2.2⟩ else ⟨secs, loose ++ [(a, z)], (burnS fuse down).1, (burnS fuse down).2.1, 0⟩
/-- The last write to a place, of the first so many. -/
def lookN (l : List (Int × List Int)) (a : Int) : Nat → Option (List Int)
  | 0 => none
  | n + 1 => match l[n]? with
    | some p => if p.1 = a then some p.2 else lookN l a n
    | none => lookN l a n
def readS (secs : List (List Int)) (loose : List (Int × List Int)) (down : Bool) (a : Int) : List Int × Int :=
  if rightD secs loose = false then (z0, 1) else if hasB secs a = false then (z0, 1) else if down = true then (z0, 9)
  else match lookN loose a loose.length with
    | some z => (z, 0)
    | none => (secs[a.toNat]?.getD [], 0)
def syncS (secs : List (List Int)) (loose : List (Int × List Int)) (fuse : Int) (down : Bool) : DO :=
  if rightD secs loose = false then ⟨secs, loose, fuse, down, 1⟩ else if down = true then ⟨secs, loose, fuse, down, 9⟩ else if ¬ (burnS fuse down).2.2 = 0 then ⟨secs, loose, (burnS fuse down).1, (burnS fuse down).2.1, (burnS fuse down).2.2⟩ else ⟨settleS (fun _ _ z => z) loose secs 0, [], (burnS fuse down).1, (burnS fuse down).2.1, 0⟩
def fallS (secs : List (List Int)) (loose : List (Int × List Int)) (fuse : Int) (down : Bool) (fs : List (Int × Int)) (n : Int) : DO :=
  if rightD secs loose = false then ⟨secs, loose, fuse, down, 1⟩ else ⟨settleS (fateS fs) loose secs 0, [], if n < -1 then -1 else n, false, 0⟩
theorem right_of {secs : List (List Int)} {loose : List (Int × List Int)} (h : rightD secs loose = true) : secs ≠ [] ∧ secs.length ≤ 2048 ∧ loose.length ≤ 4096 ∧ ∀ p ∈ loose, 0 ≤ p.1 ∧ p.1 < secs.length := by
  unfold rightD hasB at h
  simp only [Bool.and_eq_true, Bool.not_eq_true', Bool.or_eq_false_iff, decide_eq_false_iff_not, List.any_eq_false, Bool.and_eq_true, decide_eq_true_eq, Bool.not_eq_true', Bool.and_eq_false_iff, not_or] at h
  obtain ⟨⟨⟨h1, h2⟩, h3⟩, h4⟩ := h
  refine ⟨fun e => by subst e; simp at h1, by omega, by omega, fun p hp => ?_⟩
  have := h4 p hp
  simp at this
  omega
theorem builtW (a : Int) (z : List Int) (hz : z.length = 128) : Try.prog.built 59 [(0, .int .i64 a), (1, .agg (encS z).toArray)] = some (encW (a, z)).toArray := by
  have e0 : Try.prog.built 59 [(0, .int .i64 a)] = some (encW (a, z0)).toArray := by kernel_rfl
  have e1 : (encS z).toArray.size = 128 := by simp [encS, hz]
  have h1 : Try.prog.built 59 [(0, .int .i64 a), (1, .agg (encS z).toArray)] = Instr.fill (fun k => [(0, 1), (1, 128)][k]?) (encW (a, z0)).toArray [(1, .agg (encS z).toArray)] := by kernel_rfl
  rw [h1]
  have e2 : (encW (a, z0)).toArray.size = 129 := by simp [encW, encS_len, z0_len]
  unfold Instr.fill
  simp only [List.getElem?_cons_succ, List.getElem?_cons_zero, Value.cells, e1, e2]
  have gen : ∀ (l : List Value) (k : Nat) (cs : Array Value), 1 + k + l.length = cs.size → ((l.zipIdx k).foldl (fun cs (p : Value × Nat) => cs.setIfInBounds (1 + p.2) p.1) cs).toList = cs.toList.take (1 + k) ++ l := by
    intro l
    induction l with
    | nil => intro k cs h; simp only [List.length_nil, Nat.add_zero] at h; rw [List.take_of_length_le (by simp [h])]; simp
    | cons x l ih =>
      intro k cs h
      simp only [List.zipIdx_cons, List.foldl_cons]
      rw [ih (k + 1) _ (by simp at h ⊢; omega)]
      have hk : 1 + k < cs.toList.length := by simp at h ⊢; omega
      rw [Array.toList_setIfInBounds, ← Nat.add_assoc, List.take_succ_eq_append_getElem (by simpa using hk)]
      simp only [List.getElem_set_self, List.append_assoc, List.singleton_append, List.cons_append, List.nil_append]
      congr 1
      rw [List.take_set, List.set_eq_of_length_le (by rw [List.length_take]; omega)]
  simp only [ne_eq, not_true_eq_false, gt_iff_lt, Nat.lt_irrefl, or_self, if_false, Instr.fill, ← Array.foldl_toList, Array.toList_zipIdx]
  have h2 := gen (encS z) 0 (encW (a, z0)).toArray (by simp [encS_len, hz, encW, z0_len])
  have h3 : (List.foldl (fun cs (p : Value × Nat) => cs.setIfInBounds (1 + p.2) p.1) (encW (a, z0)).toArray ((encS z).zipIdx 0)) = (encW (a, z)).toArray := by
    apply Array.ext'
    rw [h2]; simp [encW]
  simpa using h3
set_option maxHeartbeats 1000000 in
theorem new_v (n : Int) (w : World) (L : List Nat) (hL : LL L w)   (hL0 : LL L w) : CV Try.prog 24 [.int .i64 n] w fun v W => ∃ s1' s2', v = .tuple #[.agg #[s1', s2', .int .i64 (newS n).fuse, .bool (newS n).down], .int .i64 (newS n).err] ∧ RdF 128 L W s1' ((newS n).secs.map encS) ∧ RdF 129 L W s2' ((newS n).loose.map encW) := by
  refine cv_enter (N := 14) (f := [(0, .int .i64 n)]) Try.func24 rfl rfl rfl rfl fun Q hQ hE => ?_
  have hB := Below.refl w.heap.size w
  refine WC.seq fun K1 hK1 => ?_
  refine WC.region ?_
  refine WL.get (dx_alloc rfl ty_zero_25 rfl) rfl rfl ?_
  rintro _ W2 ⟨rfl, k3, b4, z5⟩
  have l6 := hB.size
  replace hB := below_then hB b4
  replace hL := LL.more hL z5
  refine WL.val (dx_assign rfl rfl) rfl rfl ?_
  refine WL.nil ?_
  refine hK1 ?_
  refine WC.seq fun K7 hK7 => ?_
  refine WC.seq fun K8 hK8 => ?_
  refine WC.region ?_
  refine WL.val (dx_move rfl rfl) rfl rfl ?_
  refine WL.val (dx_lss rfl rfl rfl) rfl rfl ?_
  refine WL.val (dx_move rfl rfl) rfl rfl ?_
  refine WL.split 6 rfl (fun g9 => ?_) (fun g9 => ?_)
  ·
    replace g9 := of_decide_eq_true g9
    refine WL.off rfl rfl rfl ?_
    refine WL.off rfl rfl rfl ?_
    refine WL.val (dx_pick rfl rfl rfl) rfl rfl ?_
    refine WL.nil ?_
    refine hK8 ?_
    refine WC.condT rfl ?_
    refine WC.seq fun K10 hK10 => ?_
    refine WC.region ?_
    refine WL.val (dx_build rfl rfl (built_of_O (cs := [.slice none 0 0, .slice none 0 0, .int .i64 0, .bool false]) (by kernel_rfl) oc_nil)) rfl rfl ?_
    refine WL.do (dx_store (cs' := [.slice none 0 0, .slice none 0 0, .int .i64 0, .bool false]) (vs := [.slice none 0 0, .slice none 0 0, .int .i64 0, .bool false]) rfl ty_size_25_4 rfl rfl rfl (oc_cons rfl (oc_cons rfl (oc_cons rfl (oc_cons rfl oc_nil)))) k3 rfl (Nat.le_of_ble_eq_true rfl) rfl) rfl ?_
    rintro _ W11 ⟨k13, o12⟩
    clear k3
    replace hB := o12.below hB l6
    replace hL := LL.only hL o12
    refine WL.val (dx_assign rfl rfl) rfl rfl ?_
    refine WL.nil ?_
    refine hK10 ?_
    refine WC.ret fun a_ ha_ => ?_
    exact hQ (cv_ret2 rfl (.agg rfl ty_agg_25_4 k13.range rfl) (.tmp rfl) (by rw [show newS n = ⟨[], [], 0, false, 1⟩ from (by first | (unfold newS; generalize burnS fuse down = bb at *; simp [newS, g9]; done) | (simp [newS, g9]; done))]; exact ⟨_, _, rfl, (RdF.nil (by decide)), (RdF.nil (by decide))⟩) hB ha_)
  ·
    replace g9 := of_decide_eq_false g9
    refine WL.val (dx_move rfl rfl) rfl rfl ?_
    refine WL.val (dx_gtr rfl rfl rfl) rfl rfl ?_
    refine WL.val (dx_pick rfl rfl rfl) rfl rfl ?_
    refine WL.nil ?_
    refine hK8 ?_
    refine WC.cond rfl (fun c14 => ?_) (fun c14 => ?_)
    ·
      replace c14 := of_decide_eq_true c14
      refine WC.seq fun K15 hK15 => ?_
      refine WC.region ?_
      refine WL.val (dx_build rfl rfl (built_of_O (cs := [.slice none 0 0, .slice none 0 0, .int .i64 0, .bool false]) (by kernel_rfl) oc_nil)) rfl rfl ?_
      refine WL.do (dx_store (cs' := [.slice none 0 0, .slice none 0 0, .int .i64 0, .bool false]) (vs := [.slice none 0 0, .slice none 0 0, .int .i64 0, .bool false]) rfl ty_size_25_4 rfl rfl rfl (oc_cons rfl (oc_cons rfl (oc_cons rfl (oc_cons rfl oc_nil)))) k3 rfl (Nat.le_of_ble_eq_true rfl) rfl) rfl ?_
      rintro _ W16 ⟨k18, o17⟩
      clear k3
      replace hB := o17.below hB l6
      replace hL := LL.only hL o17
      refine WL.val (dx_assign rfl rfl) rfl rfl ?_
      refine WL.nil ?_
      refine hK15 ?_
      refine WC.ret fun a_ ha_ => ?_
      exact hQ (cv_ret2 rfl (.agg rfl ty_agg_25_4 k18.range rfl) (.tmp rfl) (by rw [show newS n = ⟨[], [], 0, false, 1⟩ from (by first | (unfold newS; generalize burnS fuse down = bb at *; simp [newS, g9, c14]; done) | (simp [newS, g9, c14]; done))]; exact ⟨_, _, rfl, (RdF.nil (by decide)), (RdF.nil (by decide))⟩) hB ha_)
    ·
      replace c14 := of_decide_eq_false c14
      refine WC.skip ?_
      refine hK7 ?_
      refine WC.seq fun K19 hK19 => ?_
      refine WC.region ?_
      refine WL.val (dx_move rfl rfl) rfl rfl ?_
      refine WL.get (dx_make (r := encS z0) rfl ty_ap_22 (fun e he => by rw [Try.underlying22] at he; cases he; kernel_rfl) rfl rfl (by omega) (by decide) (by omega) (by unfold maxLen; omega)) rfl rfl ?_
      rintro u24 W20 ⟨k21, b22, z23⟩
      rw [← List.map_replicate] at k21
      have n25 : w.heap.size ≠ W2.heap.size := Nat.ne_of_lt k3.lt
      have l26 := hB.size
      replace k3 := k3.below b22
      replace hB := below_then hB b22
      replace hL := LL.more hL z23
      refine WL.val (dx_build rfl rfl (built_of_O (cs := [u24, .slice none 0 0, .int .i64 (-1), .bool false]) (by kernel_rfl) (oc_cons k21.one (oc_cons rfl oc_nil)))) rfl rfl ?_
      refine WL.do (dx_store (cs' := [u24, .slice none 0 0, .int .i64 (-1), .bool false]) (vs := [u24, .slice none 0 0, .int .i64 (-1), .bool false]) rfl ty_size_25_4 rfl rfl rfl (oc_cons k21.one (oc_cons rfl (oc_cons rfl (oc_cons rfl oc_nil)))) k3 rfl (Nat.le_of_ble_eq_true rfl) rfl) rfl ?_
      rintro _ W27 ⟨k29, o28⟩
      replace k21 := k21.other o28 n25.symm
      clear k3
      replace hB := o28.below hB l6
      replace hL := LL.only hL o28
      refine WL.val (dx_assign rfl rfl) rfl rfl ?_
      refine WL.nil ?_
      refine hK19 ?_
      refine WC.ret fun a_ ha_ => ?_
      exact hQ (cv_ret2 rfl (.agg rfl ty_agg_25_4 k29.range rfl) (.tmp rfl) (by rw [show newS n = ⟨List.replicate n.toNat z0, [], (-1), false, 0⟩ from (by first | (unfold newS; generalize burnS fuse down = bb at *; simp [newS, g9, c14]; done) | (simp [newS, g9, c14]; done))]; exact ⟨_, _, rfl, (k21.notin hL0 l26), (RdF.nil (by decide))⟩) hB ha_)

set_option maxHeartbeats 1000000 in
theorem write_v (secs : List (List Int)) (loose : List (Int × List Int)) (fuse : Int) (down : Bool) (s1 s2 : Value) (a : Int) (z : List Int) (w : World) (L : List Nat) (hL : LL L w) (h1 : RdF 128 L w s1 (secs.map encS)) (h2 : RdF 129 L w s2 (loose.map encW))  (hL0 : LL L w) (hfu : -9223372036854775808 ≤ fuse ∧ fuse ≤ 9223372036854775807) (hz : z.length = 128) : CV Try.prog 11 [.agg #[s1, s2, .int .i64 fuse, .bool down], .int .i64 a, .agg (encS z).toArray] w fun v W => ∃ s1' s2', v = .tuple #[.agg #[s1', s2', .int .i64 (writeS secs loose fuse down a z).fuse, .bool (writeS secs loose fuse down a z).down], .int .i64 (writeS secs loose fuse down a z).err] ∧ RdF 128 L W s1' ((writeS secs loose fuse down a z).secs.map encS) ∧ RdF 129 L W s2' ((writeS secs loose fuse down a z).loose.map encW) := by
  refine cv_enter (N := 46) (f := [(0, .agg #[s1, s2, .int .i64 fuse, .bool down]), (1, .int .i64 a), (2, .agg (encS z).toArray)]) Try.func11 rfl rfl rfl rfl fun Q hQ hE => ?_
  have hB := Below.refl w.heap.size w
  have h1m : secs.length ≤ maxLen := by have := h1.len; rwa [List.length_map] at this
  unfold maxLen at h1m
  have h2m : loose.length ≤ maxLen := by have := h2.len; rwa [List.length_map] at this
  unfold maxLen at h2m
  refine WC.seq fun K1 hK1 => ?_
  refine WC.region ?_
  refine WL.get (dx_box rfl rfl rfl) rfl rfl ?_
  rintro _ W2 ⟨rfl, k3, b4, z5⟩
  have l6 := hB.size
  replace h1 := h1.more b4 (Nat.le_refl _)
  replace h2 := h2.more b4 (Nat.le_refl _)
  replace hB := below_then hB b4
  replace hL := LL.more hL z5
  refine WL.get (dx_box (cs := (encS z)) rfl rfl rfl) rfl rfl ?_
  rintro _ W7 ⟨rfl, k8, b9, z10⟩
  have n11 : w.heap.size ≠ W2.heap.size := Nat.ne_of_lt k3.lt
  have l12 := hB.size
  replace h1 := h1.more b9 (Nat.le_refl _)
  replace h2 := h2.more b9 (Nat.le_refl _)
  replace k3 := k3.below b9
  replace hB := below_then hB b9
  replace hL := LL.more hL z10
  refine WL.get (dx_alloc rfl ty_zero_25 rfl) rfl rfl ?_
  rintro _ W13 ⟨rfl, k14, b15, z16⟩
  have n17 : w.heap.size ≠ W7.heap.size := Nat.ne_of_lt k3.lt
  have n18 : W2.heap.size ≠ W7.heap.size := Nat.ne_of_lt k8.lt
  have l19 := hB.size
  replace h1 := h1.more b15 (Nat.le_refl _)
  replace h2 := h2.more b15 (Nat.le_refl _)
  replace k3 := k3.below b15
  replace k8 := k8.below b15
  replace hB := below_then hB b15
  replace hL := LL.more hL z16
  refine WL.val (dx_assign rfl rfl) rfl rfl ?_
  refine WL.nil ?_
  refine hK1 ?_
  refine WC.seq fun K20 hK20 => ?_
  refine WC.seq fun K21 hK21 => ?_
  refine WC.region ?_
  refine WL.val (dx_loadN rfl ty_agg_25_4 rfl k3.range rfl) rfl rfl ?_
  refine WL.get (dx_cv rfl Try.func16 rfl rfl rfl (right_v _ _ _ _ _ _ W13 [] (LL.nil _) (h1.less (by simp)) (h2.less (by simp)))) rfl rfl ?_
  rintro _ W23 ⟨rfl, b22⟩
  replace h1 := h1.below b22
  replace h2 := h2.below b22
  replace k3 := k3.below b22
  replace k8 := k8.below b22
  replace k14 := k14.below b22
  replace hB := below_then hB b22
  replace hL := LL.below hL b22
  refine WL.val (dx_not rfl rfl) rfl rfl ?_
  refine WL.val (dx_move rfl rfl) rfl rfl ?_
  refine WL.split 12 rfl (fun g24 => ?_) (fun g24 => ?_)
  ·
    replace g24 := bnot_t g24
    refine WL.off rfl rfl rfl ?_
    refine WL.off rfl rfl rfl ?_
    refine WL.off rfl rfl rfl ?_
    refine WL.off rfl rfl rfl ?_
    refine WL.val (dx_pick rfl rfl rfl) rfl rfl ?_
    refine WL.nil ?_
    refine hK21 ?_
    refine WC.condT rfl ?_
    refine WC.seq fun K25 hK25 => ?_
    refine WC.region ?_
    refine WL.val (dx_loadN rfl ty_agg_25_4 rfl k3.range rfl) rfl rfl ?_
    refine WL.do (dx_store (cs' := [s1, s2, .int .i64 fuse, .bool down]) (vs := [s1, s2, .int .i64 fuse, .bool down]) rfl ty_size_25_4 rfl rfl rfl (oc_cons h1.one (oc_cons h2.one (oc_cons rfl (oc_cons rfl oc_nil)))) k14 rfl (Nat.le_of_ble_eq_true rfl) rfl) rfl ?_
    rintro _ W26 ⟨k28, o27⟩
    replace k3 := k3.other o27 n17
    replace k8 := k8.other o27 n18
    clear k14
    replace h1 := h1.only o27 (.head _)
    replace h2 := h2.only o27 (.head _)
    replace hB := o27.below hB l19
    replace hL := LL.only hL o27
    refine WL.val (dx_assign rfl rfl) rfl rfl ?_
    refine WL.nil ?_
    refine hK25 ?_
    refine WC.ret fun a_ ha_ => ?_
    exact hQ (cv_ret2 rfl (.agg rfl ty_agg_25_4 k28.range rfl) (.tmp rfl) (by rw [show writeS secs loose fuse down a z = ⟨secs, loose, fuse, down, 1⟩ from (by first | (unfold writeS; generalize burnS fuse down = bb at *; simp [writeS, g24]; done) | (simp [writeS, g24]; done))]; exact ⟨_, _, rfl, (h1.less (fun x hx => (.tail _ (.tail _ (.tail _ hx))))), (h2.less (fun x hx => (.tail _ (.tail _ (.tail _ hx)))))⟩) hB ha_)
  ·
    replace g24 := bnot_f g24
    have hr := right_of g24; obtain ⟨hne, hsm, hlm, hrt⟩ := hr
    refine WL.val (dx_loadN rfl ty_agg_25_4 rfl k3.range rfl) rfl rfl ?_
    refine WL.val (dx_move rfl rfl) rfl rfl ?_
    refine WL.get (dx_cv rfl Try.func27 rfl rfl rfl (has_v _ _ _ _ _ _ a W23 [] (LL.nil _) (h1.less (by simp)) (h2.less (by simp)))) rfl rfl ?_
    rintro _ W30 ⟨rfl, b29⟩
    replace h1 := h1.below b29
    replace h2 := h2.below b29
    replace k3 := k3.below b29
    replace k8 := k8.below b29
    replace k14 := k14.below b29
    replace hB := below_then hB b29
    replace hL := LL.below hL b29
    refine WL.val (dx_not rfl rfl) rfl rfl ?_
    refine WL.val (dx_pick rfl rfl rfl) rfl rfl ?_
    refine WL.nil ?_
    refine hK21 ?_
    refine WC.cond rfl (fun c31 => ?_) (fun c31 => ?_)
    ·
      replace c31 := bnot_t c31
      refine WC.seq fun K32 hK32 => ?_
      refine WC.region ?_
      refine WL.val (dx_loadN rfl ty_agg_25_4 rfl k3.range rfl) rfl rfl ?_
      refine WL.do (dx_store (cs' := [s1, s2, .int .i64 fuse, .bool down]) (vs := [s1, s2, .int .i64 fuse, .bool down]) rfl ty_size_25_4 rfl rfl rfl (oc_cons h1.one (oc_cons h2.one (oc_cons rfl (oc_cons rfl oc_nil)))) k14 rfl (Nat.le_of_ble_eq_true rfl) rfl) rfl ?_
      rintro _ W33 ⟨k35, o34⟩
      replace k3 := k3.other o34 n17
      replace k8 := k8.other o34 n18
      clear k14
      replace h1 := h1.only o34 (.head _)
      replace h2 := h2.only o34 (.head _)
      replace hB := o34.below hB l19
      replace hL := LL.only hL o34
      refine WL.val (dx_assign rfl rfl) rfl rfl ?_
      refine WL.nil ?_
      refine hK32 ?_
      refine WC.ret fun a_ ha_ => ?_
      exact hQ (cv_ret2 rfl (.agg rfl ty_agg_25_4 k35.range rfl) (.tmp rfl) (by rw [show writeS secs loose fuse down a z = ⟨secs, loose, fuse, down, 1⟩ from (by first | (unfold writeS; generalize burnS fuse down = bb at *; simp [writeS, g24, c31]; done) | (simp [writeS, g24, c31]; done))]; exact ⟨_, _, rfl, (h1.less (fun x hx => (.tail _ (.tail _ (.tail _ hx))))), (h2.less (fun x hx => (.tail _ (.tail _ (.tail _ hx)))))⟩) hB ha_)
    ·
      replace c31 := bnot_f c31
      refine WC.skip ?_
      refine hK20 ?_
      refine WC.seq fun K36 hK36 => ?_
      refine WC.seq fun K37 hK37 => ?_
      refine WC.region ?_
      refine WL.val (dx_fld (o1 := 3) rfl ty_fld_25_3_3 rfl rfl) rfl rfl ?_
      refine WL.val (dx_load rfl ty_one_4 rfl (k3.cell (k := 3) rfl)) rfl rfl ?_
      refine WL.nil ?_
      refine hK37 ?_
      refine WC.cond rfl (fun c38 => ?_) (fun c38 => ?_)
      ·
        refine WC.seq fun K39 hK39 => ?_
        refine WC.region ?_
        refine WL.val (dx_loadN rfl ty_agg_25_4 rfl k3.range rfl) rfl rfl ?_
        refine WL.do (dx_store (cs' := [s1, s2, .int .i64 fuse, .bool down]) (vs := [s1, s2, .int .i64 fuse, .bool down]) rfl ty_size_25_4 rfl rfl rfl (oc_cons h1.one (oc_cons h2.one (oc_cons rfl (oc_cons rfl oc_nil)))) k14 rfl (Nat.le_of_ble_eq_true rfl) rfl) rfl ?_
        rintro _ W40 ⟨k42, o41⟩
        replace k3 := k3.other o41 n17
        replace k8 := k8.other o41 n18
        clear k14
        replace h1 := h1.only o41 (.head _)
        replace h2 := h2.only o41 (.head _)
        replace hB := o41.below hB l19
        replace hL := LL.only hL o41
        refine WL.val (dx_assign rfl rfl) rfl rfl ?_
        refine WL.nil ?_
        refine hK39 ?_
        refine WC.ret fun a_ ha_ => ?_
        exact hQ (cv_ret2 rfl (.agg rfl ty_agg_25_4 k42.range rfl) (.tmp rfl) (by rw [show writeS secs loose fuse down a z = ⟨secs, loose, fuse, down, 9⟩ from (by first | (unfold writeS; generalize burnS fuse down = bb at *; simp [writeS, g24, c31, c38]; done) | (simp [writeS, g24, c31, c38]; done))]; exact ⟨_, _, rfl, (h1.less (fun x hx => (.tail _ (.tail _ (.tail _ hx))))), (h2.less (fun x hx => (.tail _ (.tail _ (.tail _ hx)))))⟩) hB ha_)
      ·
        replace c38 := bvar_f c38
        refine WC.skip ?_
        refine hK36 ?_
        refine WC.seq fun K43 hK43 => ?_
        refine WC.seq fun K44 hK44 => ?_
        refine WC.region ?_
        refine WL.val (dx_fld (o1 := 1) rfl ty_fld_25_1_1 rfl rfl) rfl rfl ?_
        refine WL.val (dx_load rfl ty_one_23 rfl (k3.cell (k := 1) rfl)) rfl rfl ?_
        refine WL.val (dx_lenM rfl ty_slice_23 rfl h2) rfl rfl ?_
        refine WL.val (dx_eql rfl rfl rfl) rfl rfl ?_
        refine WL.nil ?_
        refine hK44 ?_
        refine WC.cond rfl (fun c45 => ?_) (fun c45 => ?_)
        ·
          replace c45 := of_decide_eq_true c45
          refine WC.seq fun K46 hK46 => ?_
          refine WC.region ?_
          refine WL.val (dx_loadN rfl ty_agg_25_4 rfl k3.range rfl) rfl rfl ?_
          refine WL.do (dx_store (cs' := [s1, s2, .int .i64 fuse, .bool down]) (vs := [s1, s2, .int .i64 fuse, .bool down]) rfl ty_size_25_4 rfl rfl rfl (oc_cons h1.one (oc_cons h2.one (oc_cons rfl (oc_cons rfl oc_nil)))) k14 rfl (Nat.le_of_ble_eq_true rfl) rfl) rfl ?_
          rintro _ W47 ⟨k49, o48⟩
          replace k3 := k3.other o48 n17
          replace k8 := k8.other o48 n18
          clear k14
          replace h1 := h1.only o48 (.head _)
          replace h2 := h2.only o48 (.head _)
          replace hB := o48.below hB l19
          replace hL := LL.only hL o48
          refine WL.val (dx_assign rfl rfl) rfl rfl ?_
          refine WL.nil ?_
          refine hK46 ?_
          refine WC.ret fun a_ ha_ => ?_
          exact hQ (cv_ret2 rfl (.agg rfl ty_agg_25_4 k49.range rfl) (.tmp rfl) (by rw [show writeS secs loose fuse down a z = ⟨secs, loose, fuse, down, 10⟩ from (by first | (unfold writeS; generalize burnS fuse down = bb at *; simp [writeS, g24, c31, c38, c45]; done) | (simp [writeS, g24, c31, c38, c45]; done))]; exact ⟨_, _, rfl, (h1.less (fun x hx => (.tail _ (.tail _ (.tail _ hx))))), (h2.less (fun x hx => (.tail _ (.tail _ (.tail _ hx)))))⟩) hB ha_)
        ·
          replace c45 := of_decide_eq_false c45
          refine WC.skip ?_
          refine hK43 ?_
          refine WC.seq fun K50 hK50 => ?_
          refine WC.region ?_
          refine WL.val (dx_loadN rfl ty_agg_25_4 rfl k3.range rfl) rfl rfl ?_
          refine WL.get (dx_cv rfl Try.func28 rfl rfl rfl (burn_v secs loose fuse down s1 s2 W30 [] (LL.nil _) (h1.less (by simp)) (h2.less (by simp)) hfu)) rfl rfl ?_
          rintro _ W52 ⟨rfl, b51⟩
          replace h1 := h1.below b51
          replace h2 := h2.below b51
          replace k3 := k3.below b51
          replace k8 := k8.below b51
          replace k14 := k14.below b51
          replace hB := below_then hB b51
          replace hL := LL.below hL b51
          refine WL.val (dx_move rfl rfl) rfl rfl ?_
          refine WL.val (dx_extract rfl rfl rfl) rfl rfl ?_
          refine WL.val (dx_extract rfl rfl rfl) rfl rfl ?_
          refine WL.do (dx_store (cs' := [s1, s2, .int .i64 ((burnS fuse down).1), .bool ((burnS fuse down).2.1)]) (vs := [s1, s2, .int .i64 ((burnS fuse down).1), .bool ((burnS fuse down).2.1)]) rfl ty_size_25_4 rfl rfl rfl (oc_cons h1.one (oc_cons h2.one (oc_cons rfl (oc_cons rfl oc_nil)))) k3 rfl (Nat.le_of_ble_eq_true rfl) rfl) rfl ?_
          rintro _ W53 ⟨k55, o54⟩
          replace k8 := k8.other o54 n11.symm
          replace k14 := k14.other o54 n17.symm
          clear k3
          replace h1 := h1.only o54 (.tail _ (.tail _ (.head _)))
          replace h2 := h2.only o54 (.tail _ (.tail _ (.head _)))
          replace hB := o54.below hB l6
          replace hL := LL.only hL o54
          refine WL.val (dx_assign rfl rfl) rfl rfl ?_
          refine WL.nil ?_
          refine hK50 ?_
          refine WC.seq fun K56 hK56 => ?_
          refine WC.seq fun K57 hK57 => ?_
          refine WC.region ?_
          refine WL.val (dx_move rfl rfl) rfl rfl ?_
          refine WL.val (dx_neq rfl rfl rfl) rfl rfl ?_
          refine WL.nil ?_
          refine hK57 ?_
          refine WC.cond rfl (fun c58 => ?_) (fun c58 => ?_)
          ·
            replace c58 := bnot_t c58
            replace c58 := of_decide_eq_false c58
            refine WC.seq fun K59 hK59 => ?_
            refine WC.region ?_
            refine WL.val (dx_loadN rfl ty_agg_25_4 rfl k55.range rfl) rfl rfl ?_
            refine WL.val (dx_move rfl rfl) rfl rfl ?_
            refine WL.do (dx_store (cs' := [s1, s2, .int .i64 ((burnS fuse down).1), .bool ((burnS fuse down).2.1)]) (vs := [s1, s2, .int .i64 ((burnS fuse down).1), .bool ((burnS fuse down).2.1)]) rfl ty_size_25_4 rfl rfl rfl (oc_cons h1.one (oc_cons h2.one (oc_cons rfl (oc_cons rfl oc_nil)))) k14 rfl (Nat.le_of_ble_eq_true rfl) rfl) rfl ?_
            rintro _ W60 ⟨k62, o61⟩
            replace k55 := k55.other o61 n17
            replace k8 := k8.other o61 n18
            clear k14
            replace h1 := h1.only o61 (.head _)
            replace h2 := h2.only o61 (.head _)
            replace hB := o61.below hB l19
            replace hL := LL.only hL o61
            refine WL.val (dx_assign rfl rfl) rfl rfl ?_
            refine WL.nil ?_
            refine hK59 ?_
            refine WC.ret fun a_ ha_ => ?_
            exact hQ (cv_ret2 rfl (.agg rfl ty_agg_25_4 k62.range rfl) (.tmp rfl) (by rw [show writeS secs loose fuse down a z = ⟨secs, loose, (burnS fuse down).1, (burnS fuse down).2.1, (burnS fuse down).2.2⟩ from (by first | (unfold writeS; generalize burnS fuse down = bb at *; simp [writeS, g24, c31, c38, c45, c58]; done) | (simp [writeS, g24, c31, c38, c45, c58]; done))]; exact ⟨_, _, rfl, (h1.less (fun x hx => (.tail _ (.tail _ (.tail _ hx))))), (h2.less (fun x hx => (.tail _ (.tail _ (.tail _ hx)))))⟩) hB ha_)
          ·
            replace c58 := bnot_f c58
            replace c58 := of_decide_eq_true c58
            refine WC.skip ?_
            refine hK56 ?_
            refine WC.seq fun K63 hK63 => ?_
            refine WC.drawM 7 [(some 36, .is (.pointer (some ⟨w.heap.size, 1, none⟩))), (some 37, .is (s2)), (some 38, .by fun u W => FulF 129 (W7.heap.size :: W2.heap.size :: w.heap.size :: L) W u (loose.map encW)), (some 39, .is (.int .i64 a)), (some 40, .is (.agg (encS z).toArray)), (some 41, .is (.agg (encW (a, z)).toArray)), (some 42, .by fun u W => RdF 129 (W7.heap.size :: W2.heap.size :: w.heap.size :: L) W u [(encW (a, z))])] [[], [0], [1], [], [], [3, 4], [5]] (by kernel_rfl) (by kernel_rfl) (by kernel_rfl) (by kernel_rfl) (by kernel_rfl) (by kernel_rfl) (by kernel_rfl) ⟨fun _ _ _ hb h => h.below hb, fun _ _ _ hb h => h.below hb, trivial⟩ ?_ ?_
            ·
              refine DSteps.cons (fun Wd hd => ?_) ?_
              ·
                exact DV.dr (dx_fld (o1 := 1) rfl ty_fld_25_1_1 rfl rfl) ⟨Below.refl _ _, rfl⟩
              refine DSteps.cons (fun Wd hd => ?_) ?_
              ·
                have k55 := k55.below hd
                exact DV.dr (dx_load rfl ty_one_23 rfl (k55.cell (k := 1) rfl)) ⟨Below.refl _ _, rfl⟩
              refine DSteps.cons (fun Wd hd => ?_) ?_
              ·
                have h1 := h1.below hd
                have h2 := h2.below hd
                exact DR.mono (dx_cv rfl Try.func29 rfl rfl rfl (clipW_v loose s2 Wd _ (LL.below hL hd) h2)) (fun v W' h => ⟨h.2, (by obtain ⟨a, h1, h2⟩ := h.1; exact ⟨a, by rw [List.length_map]; exact h1, h2⟩)⟩)
              refine DSteps.cons (fun Wd hd => ?_) ?_
              ·
                exact DV.dr (dx_move rfl rfl) ⟨Below.refl _ _, rfl⟩
              refine DSteps.cons (fun Wd hd => ?_) ?_
              ·
                have k8 := k8.below hd
                exact DV.dr (dx_loadN rfl ty_agg_27_128 rfl k8.range (by rw [encS_len]; exact hz)) ⟨Below.refl _ _, rfl⟩
              refine DSteps.cons (fun Wd hd => ?_) ?_
              ·
                exact DV.dr (dx_build rfl rfl (builtW _ _ hz)) ⟨Below.refl _ _, rfl⟩
              refine DSteps.cons (fun Wd hd => ?_) ?_
              ·
                exact (dx_lit1 (r := (encW (a, z))) rfl ty_ap_23 (by decide) (by decide) rfl rfl (by simp [encW, encS_len, hz])).mono (fun v W' h => ⟨h.2.1, h.1.notin (LL.below hL hd) (Nat.le_refl _)⟩)
              exact trivial
            ·
              intro W64 b65
              rintro u10_2 ⟨a10, rfl, p10_2⟩
              intro u10_6 p10_6
              replace h1 := h1.below b65
              replace h2 := h2.below b65
              replace k55 := k55.below b65
              replace k8 := k8.below b65
              replace k14 := k14.below b65
              replace hB := below_then hB b65
              replace hL := LL.below hL b65
              refine WL.get (dx_apF (rs := (loose.map encW)) (news := [(encW (a, z))]) rfl ty_ap_23 rfl rfl p10_2 p10_6 (by simp) (by simp; unfold maxLen; omega) (by simp; omega)) rfl rfl ?_
              rintro u70 W66 ⟨k67, b68, z69⟩
              have n71 : w.heap.size ≠ W64.heap.size := Nat.ne_of_lt k55.lt
              have n72 : W2.heap.size ≠ W64.heap.size := Nat.ne_of_lt k8.lt
              have n73 : W7.heap.size ≠ W64.heap.size := Nat.ne_of_lt k14.lt
              have l74 := hB.size
              replace h1 := h1.more b68 (Nat.le_refl _)
              replace h2 := h2.more b68 (Nat.le_refl _)
              replace p10_2 := p10_2.more b68 (Nat.le_refl _)
              replace p10_6 := p10_6.more b68 (Nat.le_refl _)
              replace k55 := k55.below b68
              replace k8 := k8.below b68
              replace k14 := k14.below b68
              replace hB := below_then hB b68
              replace hL := LL.more hL z69
              rw [show (loose.map encW) ++ [encW (a, z)] = (loose ++ [(a, z)]).map encW from by simp] at k67
              refine WL.val (dx_fld (o1 := 1) rfl ty_fld_25_1_1 rfl rfl) rfl rfl ?_
              refine WL.do (dx_store (cs' := [s1, u70, .int .i64 ((burnS fuse down).1), .bool ((burnS fuse down).2.1)]) (vs := [u70]) rfl ty_size_23_1 rfl rfl (oc_one k67.one) (oc_cons k67.one oc_nil) k55 rfl (Nat.le_of_ble_eq_true rfl) rfl) rfl ?_
              rintro _ W75 ⟨k77, o76⟩
              replace k8 := k8.other o76 n11.symm
              replace k14 := k14.other o76 n17.symm
              replace k67 := k67.other o76 n71.symm
              clear k55
              replace h1 := h1.only o76 (.tail _ (.tail _ (.tail _ (.head _))))
              replace h2 := h2.only o76 (.tail _ (.tail _ (.tail _ (.head _))))
              replace p10_2 := p10_2.only o76 (.tail _ (.tail _ (.tail _ (.head _))))
              replace p10_6 := p10_6.only o76 (.tail _ (.tail _ (.tail _ (.head _))))
              replace hB := o76.below hB l6
              replace hL := LL.only hL o76
              refine WL.nil ?_
              refine hK63 ?_
              refine WC.seq fun K78 hK78 => ?_
              refine WC.region ?_
              refine WL.val (dx_loadN rfl ty_agg_25_4 rfl k77.range rfl) rfl rfl ?_
              refine WL.do (dx_store (cs' := [s1, u70, .int .i64 ((burnS fuse down).1), .bool ((burnS fuse down).2.1)]) (vs := [s1, u70, .int .i64 ((burnS fuse down).1), .bool ((burnS fuse down).2.1)]) rfl ty_size_25_4 rfl rfl rfl (oc_cons h1.one (oc_cons k67.one (oc_cons rfl (oc_cons rfl oc_nil)))) k14 rfl (Nat.le_of_ble_eq_true rfl) rfl) rfl ?_
              rintro _ W79 ⟨k81, o80⟩
              replace k77 := k77.other o80 n17
              replace k8 := k8.other o80 n18
              replace k67 := k67.other o80 n73.symm
              clear k14
              replace h1 := h1.only o80 (.tail _ (.head _))
              replace h2 := h2.only o80 (.tail _ (.head _))
              replace p10_2 := p10_2.only o80 (.tail _ (.head _))
              replace p10_6 := p10_6.only o80 (.tail _ (.head _))
              replace hB := o80.below hB l19
              replace hL := LL.only hL o80
              refine WL.val (dx_assign rfl rfl) rfl rfl ?_
              refine WL.nil ?_
              refine hK78 ?_
              refine WC.ret fun a_ ha_ => ?_
              exact hQ (cv_ret2 rfl (.agg rfl ty_agg_25_4 k81.range rfl) (.tmp rfl) (by rw [show writeS secs loose fuse down a z = ⟨secs, loose ++ [(a, z)], (burnS fuse down).1, (burnS fuse down).2.1, 0⟩ from (by first | (unfold writeS; generalize burnS fuse down = bb at *; simp [writeS, g24, c31, c38, c45, c58]; done) | (simp [writeS, g24, c31, c38, c45, c58]; done))]; exact ⟨_, _, rfl, (h1.less (fun x hx => (.tail _ (.tail _ (.tail _ (.tail _ hx)))))), (k67.notin hL0 l74)⟩) hB ha_)

end Go.Proofs.Ythefddclefimoaa
