/- Package plain; the order of addresses. -/
import Derived.Test.YthefddclefimoaaDoorSlcA
import Derived.Test.YthefddclefimoaaDoorTx
namespace Go.Proofs.YthefddclefimoaaDoor
open Go.RowKit
set_option linter.unusedVariables false
set_option linter.unusedSimpArgs false
set_option maxRecDepth 8000

/-- 1 to 64 bytes from 33 to 126? -/
def okB (s : ByteArray) (k : Nat) : Bool := decide (33 ≤ atS s k) && decide (atS s k ≤ 126)
def wordB (s : ByteArray) : Bool := decide (1 ≤ s.size) && decide (s.size ≤ 64) && (List.range s.size).all (okB s)
theorem word_t {s : ByteArray} (h1 : 1 ≤ s.size) (h2 : s.size ≤ 64) (h : ∀ k, k < s.size → okB s k = true) : wordB s = true := by
  unfold wordB
  simp [h1, h2]
  exact h
theorem word_f {s : ByteArray} (h : s.size < 1 ∨ 64 < s.size ∨ ∃ k, k < s.size ∧ okB s k = false) : wordB s = false := by
  rcases h with h | h | ⟨k, hk, h⟩
  · have : ¬ 1 ≤ s.size := by omega
    simp [wordB, this]
  · have : ¬ s.size ≤ 64 := by omega
    simp [wordB, this]
  · unfold wordB
    rw [Bool.and_eq_false_iff]
    refine .inr (List.all_eq_false.2 ⟨k, List.mem_range.2 hk, by simp [h]⟩)
set_option maxHeartbeats 1000000 in
theorem word_v (s : ByteArray) (w : World) (L : List Nat) (hL : LL L w)  : CV Tryd.prog 22 [.string s] w fun v W => v = .bool (wordB s) := by
  refine cv_enter (N := 28) (f := [(0, .string s)]) Tryd.func22 rfl rfl rfl rfl fun Q hQ hE => ?_
  have hB := Below.refl w.heap.size w
  refine WC.seq fun K1 hK1 => ?_
  refine WC.region ?_
  refine WL.val (dx_assign rfl rfl) rfl rfl ?_
  refine WL.nil ?_
  refine hK1 ?_
  refine WC.seq fun K2 hK2 => ?_
  refine WC.seq fun K3 hK3 => ?_
  refine WC.region ?_
  refine WL.val (dx_move rfl rfl) rfl rfl ?_
  refine WL.val (dx_lenT rfl Tryd.underlying9 rfl) rfl rfl ?_
  refine WL.val (dx_lss rfl rfl rfl) rfl rfl ?_
  refine WL.val (dx_move rfl rfl) rfl rfl ?_
  refine WL.split 7 rfl (fun g4 => ?_) (fun g4 => ?_)
  ·
    replace g4 := of_decide_eq_true g4
    refine WL.off rfl rfl rfl ?_
    refine WL.off rfl rfl rfl ?_
    refine WL.off rfl rfl rfl ?_
    refine WL.val (dx_pick rfl rfl rfl) rfl rfl ?_
    refine WL.nil ?_
    refine hK3 ?_
    refine WC.condT rfl ?_
    refine WC.seq fun K5 hK5 => ?_
    refine WC.region ?_
    refine WL.val (dx_assign rfl rfl) rfl rfl ?_
    refine WL.nil ?_
    refine hK5 ?_
    refine WC.ret fun a_ ha_ => ?_
    exact hQ (cv_ret1 rfl (.tmp rfl) (by rw [word_f (by first | (refine .inl ?_; omega) | (refine .inr (.inl ?_); omega) | exact .inr (.inr ⟨i, by omega, by unfold okB; rw [Bool.and_eq_false_iff, decide_eq_false_iff_not, decide_eq_false_iff_not]; omega⟩))]) hB ha_)
  ·
    replace g4 := of_decide_eq_false g4
    refine WL.val (dx_move rfl rfl) rfl rfl ?_
    refine WL.val (dx_lenT rfl Tryd.underlying9 rfl) rfl rfl ?_
    refine WL.val (dx_gtr rfl rfl rfl) rfl rfl ?_
    refine WL.val (dx_pick rfl rfl rfl) rfl rfl ?_
    refine WL.nil ?_
    refine hK3 ?_
    refine WC.cond rfl (fun c6 => ?_) (fun c6 => ?_)
    ·
      replace c6 := of_decide_eq_true c6
      refine WC.seq fun K7 hK7 => ?_
      refine WC.region ?_
      refine WL.val (dx_assign rfl rfl) rfl rfl ?_
      refine WL.nil ?_
      refine hK7 ?_
      refine WC.ret fun a_ ha_ => ?_
      exact hQ (cv_ret1 rfl (.tmp rfl) (by rw [word_f (by first | (refine .inl ?_; omega) | (refine .inr (.inl ?_); omega) | exact .inr (.inr ⟨i, by omega, by unfold okB; rw [Bool.and_eq_false_iff, decide_eq_false_iff_not, decide_eq_false_iff_not]; omega⟩))]) hB ha_)
    ·
      replace c6 := of_decide_eq_false c6
      refine WC.skip ?_
      refine hK2 ?_
      refine WC.seq fun K8 hK8 => ?_
      refine WC.seq fun K9 hK9 => ?_
      refine WC.region ?_
      refine WL.val (dx_move rfl rfl) rfl rfl ?_
      refine WL.val (dx_lenT rfl Tryd.underlying9 rfl) rfl rfl ?_
      refine WL.val (dx_move rfl rfl) rfl rfl ?_
      refine WL.nil ?_
      refine hK9 ?_
      refine WC.block ?_
      refine WC.loop (fun (i : Nat) => [(0, .string s), (13, .int .i64 (s.size : Int)), (14, .int .i64 (i : Int))]) (fun (i : Nat) W => i ≤ s.size ∧ (∀ k, k < i → okB s k = true) ∧ Below w.heap.size w W ∧ LL (L) W) (fun (i : Nat) => s.size - i) 0 (by repeat first | exact trivial | exact And.intro rfl trivial | refine And.intro rfl ?_ | refine And.intro (congrArg (fun z : Int => some (Value.int .i64 z)) (by omega)) ?_) ⟨Nat.zero_le _, (fun k hk => by omega), hB, hL⟩ ?_
      clear hB hL
      rintro K10 i W11 ⟨hi, hv, hB, hL⟩ hK10
      refine WC.seq fun K12 hK12 => ?_
      refine WC.region ?_
      refine WL.val (dx_lss rfl rfl rfl) rfl rfl ?_
      refine WL.nil ?_
      refine hK12 ?_
      refine WC.seq fun K13 hK13 => ?_
      refine WC.cond rfl (fun c14 => ?_) (fun c14 => ?_)
      ·
        replace c14 := of_decide_eq_true c14
        refine WC.skip ?_
        refine hK13 ?_
        refine WC.seq fun K15 hK15 => ?_
        refine WC.block ?_
        refine WC.seq fun K16 hK16 => ?_
        refine WC.region ?_
        refine WL.val (dx_move rfl rfl) rfl rfl ?_
        refine WL.val (dx_assign rfl rfl) rfl rfl ?_
        refine WL.nil ?_
        refine hK16 ?_
        refine WC.seq fun K17 hK17 => ?_
        refine WC.region ?_
        refine WL.val (dx_move rfl rfl) rfl rfl ?_
        refine WL.val (dx_move rfl rfl) rfl rfl ?_
        refine WL.val (dx_at i rfl Tryd.underlying9 rfl rfl (by omega) (by omega)) rfl rfl ?_
        refine WL.val (dx_lss rfl rfl rfl) rfl rfl ?_
        refine WL.val (dx_move rfl rfl) rfl rfl ?_
        refine WL.split 21 rfl (fun g18 => ?_) (fun g18 => ?_)
        ·
          replace g18 := of_decide_eq_true g18
          refine WL.off rfl rfl rfl ?_
          refine WL.off rfl rfl rfl ?_
          refine WL.off rfl rfl rfl ?_
          refine WL.off rfl rfl rfl ?_
          refine WL.val (dx_pick rfl rfl rfl) rfl rfl ?_
          refine WL.nil ?_
          refine hK17 ?_
          refine WC.condT rfl ?_
          refine WC.seq fun K19 hK19 => ?_
          refine WC.region ?_
          refine WL.val (dx_assign rfl rfl) rfl rfl ?_
          refine WL.nil ?_
          refine hK19 ?_
          refine WC.ret fun a_ ha_ => ?_
          exact hQ (cv_ret1 rfl (.tmp rfl) (by rw [word_f (by first | (refine .inl ?_; omega) | (refine .inr (.inl ?_); omega) | exact .inr (.inr ⟨i, by omega, by unfold okB; rw [Bool.and_eq_false_iff, decide_eq_false_iff_not, decide_eq_false_iff_not]; omega⟩))]) hB ha_)
        ·
          replace g18 := of_decide_eq_false g18
          refine WL.val (dx_move rfl rfl) rfl rfl ?_
          refine WL.val (dx_move rfl rfl) rfl rfl ?_
          refine WL.val (dx_at i rfl Tryd.underlying9 rfl rfl (by omega) (by omega)) rfl rfl ?_
          refine WL.val (dx_gtr rfl rfl rfl) rfl rfl ?_
          refine WL.val (dx_pick rfl rfl rfl) rfl rfl ?_
          refine WL.nil ?_
          refine hK17 ?_
          refine WC.cond rfl (fun c20 => ?_) (fun c20 => ?_)
          ·
            replace c20 := of_decide_eq_true c20
            refine WC.seq fun K21 hK21 => ?_
            refine WC.region ?_
            refine WL.val (dx_assign rfl rfl) rfl rfl ?_
            refine WL.nil ?_
            refine hK21 ?_
            refine WC.ret fun a_ ha_ => ?_
            exact hQ (cv_ret1 rfl (.tmp rfl) (by rw [word_f (by first | (refine .inl ?_; omega) | (refine .inr (.inl ?_); omega) | exact .inr (.inr ⟨i, by omega, by unfold okB; rw [Bool.and_eq_false_iff, decide_eq_false_iff_not, decide_eq_false_iff_not]; omega⟩))]) hB ha_)
          ·
            replace c20 := of_decide_eq_false c20
            refine WC.skip ?_
            refine hK15 ?_
            refine WC.region ?_
            refine WL.val (dx_add (r := (i : Int) + 1) rfl rfl rfl (wrap64_id (by omega))) rfl rfl ?_
            refine WL.val (dx_move rfl rfl) rfl rfl ?_
            refine WL.nil ?_
            exact hK10 (i + 1) ⟨(by omega), (fun k hk => by rcases Nat.lt_or_ge k i with h | h; exact hv k h; have e : k = i := (by omega); subst e; unfold okB; simp; omega), hB, hL⟩ (by omega) (by repeat first | exact trivial | exact And.intro rfl trivial | refine And.intro rfl ?_ | refine And.intro (congrArg (fun z : Int => some (Value.int .i64 z)) (by omega)) ?_)
      ·
        replace c14 := of_decide_eq_false c14
        refine WC.exit ?_
        refine hK8 ?_
        refine WC.seq fun K22 hK22 => ?_
        refine WC.region ?_
        refine WL.val (dx_assign rfl rfl) rfl rfl ?_
        refine WL.nil ?_
        refine hK22 ?_
        refine WC.ret fun a_ ha_ => ?_
        exact hQ (cv_ret1 rfl (.tmp rfl) (by rw [word_t (by omega) (by omega) (fun k hk => hv k (by omega))]) hB ha_)

set_option maxHeartbeats 1000000 in
theorem number_v (n l : Int) (w : World) (L : List Nat) (hL : LL L w)  : CV Tryd.prog 59 [.int .i64 n, .int .i64 l] w fun v W => v = .bool (decide (l ≤ n) && decide (n ≤ 1099511627776)) := by
  refine cv_enter (N := 12) (f := [(0, .int .i64 n), (1, .int .i64 l)]) Tryd.func59 rfl rfl rfl rfl fun Q hQ hE => ?_
  have hB := Below.refl w.heap.size w
  refine WC.seq fun K1 hK1 => ?_
  refine WC.region ?_
  refine WL.val (dx_assign rfl rfl) rfl rfl ?_
  refine WL.nil ?_
  refine hK1 ?_
  refine WC.seq fun K2 hK2 => ?_
  refine WC.region ?_
  refine WL.val (dx_move rfl rfl) rfl rfl ?_
  refine WL.val (dx_move rfl rfl) rfl rfl ?_
  refine WL.val (dx_geq rfl rfl rfl) rfl rfl ?_
  refine WL.val (dx_move rfl rfl) rfl rfl ?_
  refine WL.split 8 rfl (fun g3 => ?_) (fun g3 => ?_)
  ·
    replace g3 := of_decide_eq_true g3
    refine WL.val (dx_move rfl rfl) rfl rfl ?_
    refine WL.val (dx_leq rfl rfl rfl) rfl rfl ?_
    refine WL.val (dx_pick rfl rfl rfl) rfl rfl ?_
    refine WL.val (dx_assign rfl rfl) rfl rfl ?_
    refine WL.nil ?_
    refine hK2 ?_
    refine WC.ret fun a_ ha_ => ?_
    exact hQ (cv_ret1 rfl (.tmp rfl) (by simp [*]) hB ha_)
  ·
    replace g3 := of_decide_eq_false g3
    refine WL.off rfl rfl rfl ?_
    refine WL.off rfl rfl rfl ?_
    refine WL.val (dx_pick rfl rfl rfl) rfl rfl ?_
    refine WL.val (dx_assign rfl rfl) rfl rfl ?_
    refine WL.nil ?_
    refine hK2 ?_
    refine WC.ret fun a_ ha_ => ?_
    exact hQ (cv_ret1 rfl (.tmp rfl) (by simp [*]) hB ha_)

/-- An address: medium and where; the order of two. -/
def lessA (a b : ByteArray × ByteArray) : Bool := if a.1 = b.1 then sless a.2 b.2 else sless a.1 b.1
set_option maxHeartbeats 1000000 in
theorem lessA_v (m1 w1 m2 w2 : ByteArray) (w : World) (L : List Nat) (hL : LL L w)  : CV Tryd.prog 44 [.agg #[.string m1, .string w1], .agg #[.string m2, .string w2]] w fun v W => v = .bool (lessA (m1, w1) (m2, w2)) := by
  refine cv_enter (N := 20) (f := [(0, .agg #[.string m1, .string w1]), (1, .agg #[.string m2, .string w2])]) Tryd.func44 rfl rfl rfl rfl fun Q hQ hE => ?_
  have hB := Below.refl w.heap.size w
  refine WC.seq fun K1 hK1 => ?_
  refine WC.region ?_
  refine WL.get (dx_box rfl rfl rfl) rfl rfl ?_
  rintro _ W2 ⟨rfl, k3, b4, z5⟩
  have l6 := hB.size
  replace hB := below_then hB b4
  replace hL := LL.more hL z5
  refine WL.get (dx_box rfl rfl rfl) rfl rfl ?_
  rintro _ W7 ⟨rfl, k8, b9, z10⟩
  have n11 : w.heap.size ≠ W2.heap.size := Nat.ne_of_lt k3.lt
  have l12 := hB.size
  replace k3 := k3.below b9
  replace hB := below_then hB b9
  replace hL := LL.more hL z10
  refine WL.val (dx_assign rfl rfl) rfl rfl ?_
  refine WL.nil ?_
  refine hK1 ?_
  refine WC.seq fun K13 hK13 => ?_
  refine WC.seq fun K14 hK14 => ?_
  refine WC.region ?_
  refine WL.val (dx_fld (o1 := 0) rfl ty_fld_43_0_0 rfl rfl) rfl rfl ?_
  refine WL.val (dx_load rfl ty_one_9 rfl (k3.cell (k := 0) rfl)) rfl rfl ?_
  refine WL.val (dx_fld (o1 := 0) rfl ty_fld_43_0_0 rfl rfl) rfl rfl ?_
  refine WL.val (dx_load rfl ty_one_9 rfl (k8.cell (k := 0) rfl)) rfl rfl ?_
  refine WL.val (dx_neqT rfl rfl rfl) rfl rfl ?_
  refine WL.nil ?_
  refine hK14 ?_
  refine WC.cond rfl (fun c15 => ?_) (fun c15 => ?_)
  ·
    replace c15 := bnot_t c15
    replace c15 := of_decide_eq_false c15
    refine WC.seq fun K16 hK16 => ?_
    refine WC.region ?_
    refine WL.val (dx_fld (o1 := 0) rfl ty_fld_43_0_0 rfl rfl) rfl rfl ?_
    refine WL.val (dx_load rfl ty_one_9 rfl (k3.cell (k := 0) rfl)) rfl rfl ?_
    refine WL.val (dx_fld (o1 := 0) rfl ty_fld_43_0_0 rfl rfl) rfl rfl ?_
    refine WL.val (dx_load rfl ty_one_9 rfl (k8.cell (k := 0) rfl)) rfl rfl ?_
    refine WL.val (dx_lssT rfl rfl rfl) rfl rfl ?_
    refine WL.val (dx_assign rfl rfl) rfl rfl ?_
    refine WL.nil ?_
    refine hK16 ?_
    refine WC.ret fun a_ ha_ => ?_
    exact hQ (cv_ret1 rfl (.tmp rfl) (by unfold lessA; simp [*]) hB ha_)
  ·
    replace c15 := bnot_f c15
    replace c15 := of_decide_eq_true c15
    refine WC.skip ?_
    refine hK13 ?_
    refine WC.seq fun K17 hK17 => ?_
    refine WC.region ?_
    refine WL.val (dx_fld (o1 := 1) rfl ty_fld_43_1_1 rfl rfl) rfl rfl ?_
    refine WL.val (dx_load rfl ty_one_9 rfl (k3.cell (k := 1) rfl)) rfl rfl ?_
    refine WL.val (dx_fld (o1 := 1) rfl ty_fld_43_1_1 rfl rfl) rfl rfl ?_
    refine WL.val (dx_load rfl ty_one_9 rfl (k8.cell (k := 1) rfl)) rfl rfl ?_
    refine WL.val (dx_lssT rfl rfl rfl) rfl rfl ?_
    refine WL.val (dx_assign rfl rfl) rfl rfl ?_
    refine WL.nil ?_
    refine hK17 ?_
    refine WC.ret fun a_ ha_ => ?_
    exact hQ (cv_ret1 rfl (.tmp rfl) (by unfold lessA; simp [*]) hB ha_)

end Go.Proofs.YthefddclefimoaaDoor
