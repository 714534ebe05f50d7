/- Package account: Agree; slices.Concat. -/
import Derived.Test.YthefddclefimoaaDoorAccA
import Derived.Test.YthefddclefimoaaDoorAg
import Derived.Test.YthefddclefimoaaDoorShelf
namespace Go.Proofs.YthefddclefimoaaDoor
open Go.RowKit
set_option linter.unusedVariables false
set_option linter.unusedSimpArgs false
set_option maxRecDepth 8000

set_option maxHeartbeats 1000000 in
theorem growT_v (n : Nat) (w : World) (L : List Nat) (hL : LL L w)   (hn : n ≤ 1000000) : CV Tryd.prog 45 [.slice none 0 0, .int .i64 (n : Int)] w fun v W => NewW 1 w.heap.size [] v W := by
  refine cv_enter (N := 27) (f := [(0, .slice none 0 0), (1, .int .i64 (n : Int))]) Tryd.func45 rfl rfl rfl rfl fun Q hQ hE => ?_
  have hB := Below.refl w.heap.size w
  refine WC.seq fun K1 hK1 => ?_
  refine WC.region ?_
  refine WL.val (dx_assign rfl rfl) rfl rfl ?_
  refine WL.nil ?_
  refine hK1 ?_
  refine WC.seq fun K2 hK2 => ?_
  refine WC.seq fun K3 hK3 => ?_
  refine WC.region ?_
  refine WL.val (dx_move rfl rfl) rfl rfl ?_
  refine WL.val (dx_lss rfl rfl rfl) rfl rfl ?_
  refine WL.nil ?_
  refine hK3 ?_
  refine WC.cond rfl (fun c4 => ?_) (fun c4 => ?_)
  ·
    replace c4 := of_decide_eq_true c4
    exfalso; omega
  ·
    replace c4 := of_decide_eq_false c4
    refine WC.skip ?_
    refine hK2 ?_
    refine WC.seq fun K5 hK5 => ?_
    refine WC.seq fun K6 hK6 => ?_
    refine WC.region ?_
    refine WL.val (dx_move rfl rfl) rfl rfl ?_
    refine WL.val (dx_move rfl rfl) rfl rfl ?_
    refine WL.val (dx_cap rfl Tryd.underlying55 rfl) rfl rfl ?_
    refine WL.val (dx_move rfl rfl) rfl rfl ?_
    refine WL.val (dx_len rfl Tryd.underlying55 rfl) rfl rfl ?_
    refine WL.val (dx_sub (r := 0) rfl rfl rfl (by decide)) rfl rfl ?_
    refine WL.val (dx_sub (r := (n : Int)) rfl rfl rfl (by rw [wrap64_id (by omega)]; omega)) rfl rfl ?_
    refine WL.val (dx_assign rfl rfl) rfl rfl ?_
    refine WL.nil ?_
    refine hK6 ?_
    refine WC.seq fun K7 hK7 => ?_
    refine WC.region ?_
    refine WL.val (dx_move rfl rfl) rfl rfl ?_
    refine WL.val (dx_gtr rfl rfl rfl) rfl rfl ?_
    refine WL.nil ?_
    refine hK7 ?_
    refine WC.cond rfl (fun c8 => ?_) (fun c8 => ?_)
    ·
      replace c8 := of_decide_eq_true c8
      refine WC.region ?_
      refine WL.val (dx_move rfl rfl) rfl rfl ?_
      refine WL.val (dx_move rfl rfl) rfl rfl ?_
      refine WL.val (dx_cap rfl Tryd.underlying55 rfl) rfl rfl ?_
      refine WL.val (dx_slNH rfl ty_slice_55 rfl rfl) rfl rfl ?_
      refine WL.val (dx_move rfl rfl) rfl rfl ?_
      refine WL.get (dx_apZ0 n rfl ty_ap_55 Tryd.underlying3 (by decide) rfl rfl rfl (by omega) hn (by omega)) rfl rfl ?_
      rintro _ W9 ⟨c, rfl, hc, k12, b10, z11⟩
      replace hB := below_then hB b10
      replace hL := LL.below hL b10
      refine WL.val (dx_move rfl rfl) rfl rfl ?_
      refine WL.val (dx_len rfl Tryd.underlying55 rfl) rfl rfl ?_
      refine WL.val (dx_slH 0 rfl ty_slice_55 rfl rfl rfl (by omega)) rfl rfl ?_
      refine WL.val (dx_assign rfl rfl) rfl rfl ?_
      refine WL.nil ?_
      refine hK5 ?_
      refine WC.seq fun K13 hK13 => ?_
      refine WC.region ?_
      refine WL.val (dx_move rfl rfl) rfl rfl ?_
      refine WL.val (dx_assign rfl rfl) rfl rfl ?_
      refine WL.nil ?_
      refine hK13 ?_
      refine WC.ret fun a_ ha_ => ?_
      exact hQ (cv_ret1 rfl (.tmp rfl) (.inr ⟨_, Nat.le_refl _, k12⟩) hB ha_)
    ·
      replace c8 := of_decide_eq_false c8
      refine WC.skip ?_
      refine hK5 ?_
      refine WC.seq fun K14 hK14 => ?_
      refine WC.region ?_
      refine WL.val (dx_move rfl rfl) rfl rfl ?_
      refine WL.val (dx_assign rfl rfl) rfl rfl ?_
      refine WL.nil ?_
      refine hK14 ?_
      refine WC.ret fun a_ ha_ => ?_
      exact hQ (cv_ret1 rfl (.tmp rfl) (.inl ⟨rfl, rfl, by decide⟩) hB ha_)

/-- A slice of slices of texts. -/
abbrev PX := Value × List ByteArray
def encP (p : PX) : List Value := [p.1]
def AgP (L : List Nat) (w : World) (ps : List PX) : Prop := ∀ p ∈ ps, RdF 1 L w p.1 (p.2.map encT)
theorem AgP.below {L : List Nat} {w w' : World} {xs : List PX} (h : AgP L w xs) (hb : Below w.heap.size w w') : AgP L w' xs := fun u hu => (h u hu).below hb
def sumT (ps : List PX) : Nat := (ps.map (·.2.length)).sum
def catT (ps : List PX) : List ByteArray := ps.flatMap (·.2)
theorem sumT_step {ps : List PX} {i : Nat} {p : PX} (h : ps[i]? = some p) : sumT (ps.take (i + 1)) = sumT (ps.take i) + p.2.length := by
  obtain ⟨hl, rfl⟩ := List.getElem?_eq_some_iff.1 h
  unfold sumT
  rw [List.take_succ_eq_append_getElem hl]
  simp only [List.map_append, List.sum_append, List.map_cons, List.map_nil, List.sum_cons, List.sum_nil, Nat.add_zero]
theorem catT_step {ps : List PX} {i : Nat} {p : PX} (h : ps[i]? = some p) : catT (ps.take (i + 1)) = catT (ps.take i) ++ p.2 := by
  obtain ⟨hl, rfl⟩ := List.getElem?_eq_some_iff.1 h
  unfold catT
  rw [List.take_succ_eq_append_getElem hl]
  simp only [List.flatMap_append, List.flatMap_cons, List.flatMap_nil, List.append_nil]
theorem sumT_le (ps : List PX) (i : Nat) : sumT (ps.take i) ≤ sumT ps := by
  have h : sumT ps = sumT (ps.take i) + sumT (ps.drop i) := by
    unfold sumT
    rw [← List.sum_append, ← List.map_append, List.take_append_drop]
  omega
theorem catT_len (ps : List PX) : (catT ps).length = sumT ps := by
  unfold catT sumT
  rw [List.length_flatMap]
set_option maxHeartbeats 1000000 in
theorem concat_v (ps : List PX) (pv : Value) (w : World) (L : List Nat) (hL : LL L w) (h1 : RdF 1 L w pv (ps.map encP)) (h2 : AgP L w ps)  (hsum : sumT ps ≤ 1000000) : CV Tryd.prog 23 [pv] w fun v W => NewW 1 w.heap.size ((catT ps).map encT) v W := by
  refine cv_enter (N := 36) (f := [(0, pv)]) Tryd.func23 rfl rfl rfl rfl fun Q hQ hE => ?_
  have hB := Below.refl w.heap.size w
  have hL0 := hL
  have h10 := h1
  have h20 := h2
  have h1m : ps.length ≤ maxLen := by have := h1.len; rwa [List.length_map] at this
  unfold maxLen at h1m
  refine WC.seq fun K1 hK1 => ?_
  refine WC.region ?_
  refine WL.val (dx_assign rfl rfl) rfl rfl ?_
  refine WL.nil ?_
  refine hK1 ?_
  refine WC.seq fun K2 hK2 => ?_
  refine WC.region ?_
  refine WL.val (dx_assign rfl rfl) rfl rfl ?_
  refine WL.nil ?_
  refine hK2 ?_
  refine WC.seq fun K3 hK3 => ?_
  refine WC.seq fun K4 hK4 => ?_
  refine WC.region ?_
  refine WL.val (dx_move rfl rfl) rfl rfl ?_
  refine WL.val (dx_lenX rfl ty_slice_81 rfl h1) rfl rfl ?_
  refine WL.val (dx_move rfl rfl) rfl rfl ?_
  refine WL.nil ?_
  refine hK4 ?_
  refine WC.block ?_
  refine WC.loop (fun (i : Nat) => [(0, pv), (9, pv), (10, .int .i64 (ps.length : Int)), (2, .slice none 0 0), (11, .int .i64 (i : Int)), (3, .int .i64 ((sumT (ps.take i) : Nat) : Int))]) (fun (i : Nat) W => i ≤ ps.length ∧ Below w.heap.size w W ∧ LL (L) W ∧ RdF 1 (L) W pv (ps.map encP) ∧ AgP (L) W ps) (fun (i : Nat) => ps.length - i) 0 (by repeat first | exact trivial | exact And.intro rfl trivial | refine And.intro rfl ?_ | refine And.intro (congrArg (fun z : Int => some (Value.int .i64 z)) (by omega)) ?_) ⟨Nat.zero_le _, hB, hL, h1, h2⟩ ?_
  clear h1 h2 hB hL
  rintro K5 i W6 ⟨hi, hB, hL, h1, h2⟩ hK5
  refine WC.seq fun K7 hK7 => ?_
  refine WC.region ?_
  refine WL.val (dx_lss rfl rfl rfl) rfl rfl ?_
  refine WL.nil ?_
  refine hK7 ?_
  refine WC.seq fun K8 hK8 => ?_
  refine WC.cond rfl (fun c9 => ?_) (fun c9 => ?_)
  ·
    replace c9 := of_decide_eq_true c9
    refine WC.skip ?_
    refine hK8 ?_
    refine WC.seq fun K10 hK10 => ?_
    refine WC.block ?_
    refine WC.seq fun K11 hK11 => ?_
    refine WC.region ?_
    obtain ⟨r12, e13⟩ : ∃ x, ps[i]? = some x := ⟨_, List.getElem?_eq_getElem (by omega)⟩
    refine WL.get (dx_idxF i rfl ty_slice_81 rfl rfl h1 (by omega) (at_mapX e13)) rfl rfl ?_
    rintro u14 _ ⟨rfl, p15⟩
    refine WL.val (dx_loadP rfl ty_one_55 rfl p15) rfl rfl ?_
    refine WL.val (dx_assign rfl rfl) rfl rfl ?_
    refine WL.nil ?_
    refine hK11 ?_
    refine WC.seq fun K16 hK16 => ?_
    refine WC.region ?_
    refine WL.val (dx_move rfl rfl) rfl rfl ?_
    refine WL.val (dx_move rfl rfl) rfl rfl ?_
    refine WL.val (dx_lenX rfl ty_slice_55 rfl (h2 r12 (List.mem_of_getElem? e13))) rfl rfl ?_
    have q1 := sumT_step e13
    have q2 := sumT_le ps (i + 1)
    refine WL.val (dx_add (r := ((sumT (ps.take (i + 1)) : Nat) : Int)) rfl rfl rfl (by rw [wrap64_id (by omega)]; omega)) rfl rfl ?_
    refine WL.val (dx_assign rfl rfl) rfl rfl ?_
    refine WL.nil ?_
    refine hK16 ?_
    refine WC.seq fun K17 hK17 => ?_
    refine WC.region ?_
    refine WL.val (dx_move rfl rfl) rfl rfl ?_
    refine WL.val (dx_lss rfl rfl rfl) rfl rfl ?_
    refine WL.nil ?_
    refine hK17 ?_
    refine WC.cond rfl (fun c18 => ?_) (fun c18 => ?_)
    ·
      replace c18 := of_decide_eq_true c18
      exfalso; omega
    ·
      replace c18 := of_decide_eq_false c18
      refine WC.skip ?_
      refine hK10 ?_
      refine WC.region ?_
      refine WL.val (dx_add (r := (i : Int) + 1) rfl rfl rfl (wrap64_id (by omega))) rfl rfl ?_
      refine WL.val (dx_move rfl rfl) rfl rfl ?_
      refine WL.nil ?_
      exact hK5 (i + 1) ⟨(by omega), hB, hL, h1, h2⟩ (by omega) (by repeat first | exact trivial | exact And.intro rfl trivial | refine And.intro rfl ?_ | refine And.intro (congrArg (fun z : Int => some (Value.int .i64 z)) (by omega)) ?_)
  ·
    replace c9 := of_decide_eq_false c9
    refine WC.exit ?_
    refine hK3 ?_
    refine WC.seq fun K19 hK19 => ?_
    refine WC.region ?_
    refine WL.val (dx_move rfl rfl) rfl rfl ?_
    have zh1 := h1
    have zh2 := h2
    have zhL := hL
    have q3 := sumT_le ps i
    have q5 := hB.size
    refine WL.get (dx_cv rfl Tryd.func45 rfl rfl rfl (growT_v (sumT (ps.take i)) W6 [] (LL.nil _) (by omega))) rfl rfl ?_
    rintro u20 W21 ⟨k22, b23⟩
    replace h1 := h1.below b23
    replace h2 := h2.below b23
    replace hB := below_then hB b23
    replace hL := LL.below hL b23
    refine WL.val (dx_assign rfl rfl) rfl rfl ?_
    refine WL.nil ?_
    refine hK19 ?_
    refine WC.seq fun K24 hK24 => ?_
    refine WC.seq fun K25 hK25 => ?_
    refine WC.region ?_
    refine WL.val (dx_move rfl rfl) rfl rfl ?_
    refine WL.val (dx_lenX rfl ty_slice_81 rfl h1) rfl rfl ?_
    refine WL.val (dx_move rfl rfl) rfl rfl ?_
    refine WL.nil ?_
    refine hK25 ?_
    refine WC.block ?_
    refine WC.loop2 (fun (i : Nat) (cu : Value) => [(0, pv), (25, pv), (26, .int .i64 (ps.length : Int)), (27, .int .i64 (i : Int)), (6, cu)]) (fun (i : Nat) (cu : Value) W => i ≤ ps.length ∧ NewW 1 w.heap.size ((catT (ps.take i)).map encT) cu W ∧ Below w.heap.size w W ∧ LL (L) W ∧ RdF 1 (L) W pv (ps.map encP) ∧ AgP (L) W ps) (fun (i : Nat) (cu : Value) => ps.length - i) 0 u20 (by repeat first | exact trivial | exact And.intro rfl trivial | refine And.intro rfl ?_ | refine And.intro (congrArg (fun z : Int => some (Value.int .i64 z)) (by omega)) ?_) ⟨Nat.zero_le _, (k22.le q5), hB, hL, h1, h2⟩ ?_
    clear h1 h2 hB hL
    rintro K26 i cu W27 ⟨hi, hu, hB, hL, h1, h2⟩ hK26
    refine WC.seq fun K28 hK28 => ?_
    refine WC.region ?_
    refine WL.val (dx_lss rfl rfl rfl) rfl rfl ?_
    refine WL.nil ?_
    refine hK28 ?_
    refine WC.seq fun K29 hK29 => ?_
    refine WC.cond rfl (fun c30 => ?_) (fun c30 => ?_)
    ·
      replace c30 := of_decide_eq_true c30
      refine WC.skip ?_
      refine hK29 ?_
      refine WC.seq fun K31 hK31 => ?_
      refine WC.block ?_
      refine WC.seq fun K32 hK32 => ?_
      refine WC.region ?_
      obtain ⟨r33, e34⟩ : ∃ x, ps[i]? = some x := ⟨_, List.getElem?_eq_getElem (by omega)⟩
      refine WL.get (dx_idxF i rfl ty_slice_81 rfl rfl h1 (by omega) (at_mapX e34)) rfl rfl ?_
      rintro u35 _ ⟨rfl, p36⟩
      refine WL.val (dx_loadP rfl ty_one_55 rfl p36) rfl rfl ?_
      refine WL.val (dx_assign rfl rfl) rfl rfl ?_
      refine WL.nil ?_
      refine hK32 ?_
      refine WC.region ?_
      refine WL.val (dx_move rfl rfl) rfl rfl ?_
      refine WL.val (dx_move rfl rfl) rfl rfl ?_
      have q1 := sumT_step e34
      have q2 := sumT_le ps (i + 1)
      have q4 := catT_len (ps.take i)
      refine WL.get (dx_apW rfl ty_ap_55 rfl rfl hu (h2 r33 (List.mem_of_getElem? e34)) (oc_rowsX oc_T _) (by rw [List.length_map, List.length_map]; unfold maxLen; omega) (by rw [List.length_map, List.length_map]; omega) hB.size) rfl rfl ?_
      rintro u37 W38 ⟨k39, b40⟩
      replace hB := hB.trans b40
      replace h1 := h10.below hB
      replace h2 := h20.below hB
      replace hL := LL.below hL0 hB
      refine WL.val (dx_assign rfl rfl) rfl rfl ?_
      refine WL.nil ?_
      refine hK31 ?_
      refine WC.region ?_
      refine WL.val (dx_add (r := (i : Int) + 1) rfl rfl rfl (wrap64_id (by omega))) rfl rfl ?_
      refine WL.val (dx_move rfl rfl) rfl rfl ?_
      refine WL.nil ?_
      exact hK26 (i + 1) u37 ⟨(by omega), (by rw [catT_step e34, List.map_append]; exact k39), hB, hL, h1, h2⟩ (by omega) (by repeat first | exact trivial | exact And.intro rfl trivial | refine And.intro rfl ?_ | refine And.intro (congrArg (fun z : Int => some (Value.int .i64 z)) (by omega)) ?_)
    ·
      replace c30 := of_decide_eq_false c30
      refine WC.exit ?_
      refine hK24 ?_
      refine WC.seq fun K41 hK41 => ?_
      refine WC.region ?_
      refine WL.val (dx_move rfl rfl) rfl rfl ?_
      refine WL.val (dx_assign rfl rfl) rfl rfl ?_
      refine WL.nil ?_
      refine hK41 ?_
      refine WC.ret fun a_ ha_ => ?_
      exact hQ (cv_ret1 rfl (.tmp rfl) (by rw [show ps.take i = ps from List.take_of_length_le (by omega)] at hu; exact hu) hB ha_)

theorem encT_is (s : ByteArray) : encT s = [.string s] := rfl
/-- Sorted, each once. -/
def agL (a ts : List ByteArray) : List ByteArray := onceT (sortT (a ++ ts))
def agrE (xs : List UserX) (tok : ByteArray) (ts : List ByteArray) : Int := if (findU xs tok).2 = 0 then (if ts.all wordB = true then (if 4 < ((agL (((xs[(findU xs tok).1.toNat]?).map (·.2.2.2)).getD []) ts).length : Int) then 10 else 0) else 1) else (findU xs tok).2
def agrU (xs : List UserX) (tok : ByteArray) (ts : List ByteArray) (v : Value) : List UserX := if agrE xs tok ts = 0 then (match xs[(findU xs tok).1.toNat]? with
  | some u => xs.set (findU xs tok).1.toNat (u.1, u.2.1, v, agL u.2.2.2 ts)
  | none => xs) else xs
theorem sort_v {w : World} {v : Value} {ts : List ByteArray} {base : Nat} (h : NewW 1 base (ts.map encT) v w) (hb : base ≤ w.heap.size) (hlen : ts.length ≤ 1000000) : Calls Tryd.prog 24 [v].toArray w fun e w' => ∃ x, e = .returned x ∧ NewW 1 base ((sortT ts).map encT) v w' ∧ Below base w w' := sort_new encT_is Tryd.slices_Sort_string Tryd.slices_Sort_string_none h hb hlen
theorem once_v {w : World} {v : Value} {ts : List ByteArray} {base : Nat} (h : NewW 1 base (ts.map encT) v w) (hb : base ≤ w.heap.size) (hlen : ts.length ≤ 1000000) : Calls Tryd.prog 25 [v].toArray w fun e w' => ∃ x, e = .returned x ∧ NewW 1 base ((onceT ts).map encT) x w' ∧ Below base w w' := once_new encT_is Tryd.slices_Compact_string Tryd.slices_Compact_string_empty h hb hlen
theorem agr_rows (xs : List UserX) (k : Nat) (u : UserX) (v : Value) (l : List ByteArray) : (xs.map encU).set k ((encU u).set 2 v) = (xs.set k (u.1, u.2.1, v, l)).map encU := by
  rw [List.map_set]; rfl
theorem AgU.set {L : List Nat} {w : World} {xs : List UserX} (h : AgU L w xs) (k : Nat) (a b : ByteArray) {v : Value} {l : List ByteArray} (hv : RdF 1 L w v (l.map encT)) : AgU L w (xs.set k (a, b, v, l)) := fun u hu => by
  rcases List.mem_or_eq_of_mem_set hu with hu | rfl
  · exact h u hu
  · exact hv
theorem onceT_le (ts : List ByteArray) : (onceT ts).length ≤ ts.length := by
  unfold onceT
  have := Lib.compact_length_le (ts.map bL)
  simpa using this
theorem AgP.two {w : World} {v u : Value} {a b : List ByteArray} {L : List Nat} (h1 : RdF 1 L w v (a.map encT)) (h2 : RdF 1 L w u (b.map encT)) : AgP [] w [(v, a), (u, b)] := fun p hp => by
  rcases List.mem_cons.1 hp with rfl | hp
  · exact h1.less (by simp)
  · rcases List.mem_cons.1 hp with rfl | hp
    · exact h2.less (by simp)
    · cases hp
set_option maxHeartbeats 1000000 in
theorem agree_v (xs : List UserX) (tok : ByteArray) (ts : List ByteArray) (sv tv : Value) (w : World) (L : List Nat) (hL : LL L w) (h1 : RdF 3 L w sv (xs.map encU)) (h2 : AgU L w xs) (hM : MaxL L w) (h3 : RdF 1 L w tv (ts.map encT))  (hts : ts.length ≤ 1000) : CV Tryd.prog 9 [sv, .string tok, tv] w fun v W => ∃ s2 av, v = .tuple #[s2, .int .i64 (agrE xs tok ts)] ∧ RdF 3 L W s2 ((agrU xs tok ts av).map encU) ∧ AgU L W (agrU xs tok ts av) := by
  refine cv_enter (N := 59) (f := [(0, sv), (1, .string tok), (2, tv)]) Tryd.func9 rfl rfl rfl rfl fun Q hQ hE => ?_
  have hB := Below.refl w.heap.size w
  have hL0 := hL
  have h1m : xs.length ≤ maxLen := by have := h1.len; rwa [List.length_map] at this
  unfold maxLen at h1m
  have h3m : ts.length ≤ maxLen := by have := h3.len; rwa [List.length_map] at this
  unfold maxLen at h3m
  refine WC.seq fun K1 hK1 => ?_
  refine WC.region ?_
  refine WL.val (dx_assign rfl rfl) rfl rfl ?_
  refine WL.val (dx_assign rfl rfl) rfl rfl ?_
  refine WL.nil ?_
  refine hK1 ?_
  refine WC.seq fun K2 hK2 => ?_
  refine WC.region ?_
  refine WL.val (dx_move rfl rfl) rfl rfl ?_
  refine WL.val (dx_move rfl rfl) rfl rfl ?_
  refine WL.get (dx_cv rfl Tryd.func21 rfl rfl rfl (find_v xs tok _ w _ hL h1 h2 hM)) rfl rfl ?_
  rintro _ W4 ⟨rfl, b3⟩
  replace h1 := h1.below b3
  replace h2 := h2.below b3
  replace hM := hM.below b3
  replace h3 := h3.below b3
  replace hB := below_then hB b3
  replace hL := LL.below hL b3
  refine WL.val (dx_move rfl rfl) rfl rfl ?_
  refine WL.val (dx_extract rfl rfl rfl) rfl rfl ?_
  refine WL.val (dx_extract rfl rfl rfl) rfl rfl ?_
  refine WL.val (dx_assign rfl rfl) rfl rfl ?_
  refine WL.val (dx_assign rfl rfl) rfl rfl ?_
  refine WL.nil ?_
  refine hK2 ?_
  refine WC.seq fun K5 hK5 => ?_
  refine WC.seq fun K6 hK6 => ?_
  refine WC.region ?_
  refine WL.val (dx_move rfl rfl) rfl rfl ?_
  refine WL.val (dx_neq rfl rfl rfl) rfl rfl ?_
  refine WL.nil ?_
  refine hK6 ?_
  refine WC.cond rfl (fun c7 => ?_) (fun c7 => ?_)
  ·
    replace c7 := bnot_t c7
    replace c7 := of_decide_eq_false c7
    refine WC.seq fun K8 hK8 => ?_
    refine WC.region ?_
    refine WL.val (dx_move rfl rfl) rfl rfl ?_
    refine WL.val (dx_move rfl rfl) rfl rfl ?_
    refine WL.val (dx_assign rfl rfl) rfl rfl ?_
    refine WL.val (dx_assign rfl rfl) rfl rfl ?_
    refine WL.nil ?_
    refine hK8 ?_
    refine WC.ret fun a_ ha_ => ?_
    exact hQ (cv_ret2 rfl (.tmp rfl) (.tmp rfl) (by have he : agrE xs tok ts = (findU xs tok).2 := (by unfold agrE; rw [if_neg (by assumption)]); have hr : agrU xs tok ts undef = xs := (by unfold agrU; rw [if_neg (by rw [he]; first | assumption | decide)]); exact ⟨_, undef, (by first | (rw [he]; done) | (rw [he]; rfl)), by rw [hr]; exact (h1.less (fun x hx => hx)), by rw [hr]; exact (h2.less (fun x hx => hx))⟩) hB ha_)
  ·
    replace c7 := bnot_f c7
    replace c7 := of_decide_eq_true c7
    refine WC.skip ?_
    refine hK5 ?_
    refine WC.seq fun K9 hK9 => ?_
    refine WC.seq fun K10 hK10 => ?_
    obtain ⟨hr0, k0, u0, hk0, hu0, ht0, hn0⟩ := findU_ok (by first | assumption | exact Classical.not_not.1 (by assumption))
    have hl0 := (List.getElem?_eq_some_iff.1 hu0).1
    have hrl := right_len hr0
    have hagl := onceT_le (sortT (u0.2.2.2 ++ ts))
    rw [sortT_len, List.length_append] at hagl
    refine WC.region ?_
    refine WL.val (dx_move rfl rfl) rfl rfl ?_
    refine WL.val (dx_lenX rfl ty_slice_55 rfl h3) rfl rfl ?_
    refine WL.val (dx_move rfl rfl) rfl rfl ?_
    refine WL.nil ?_
    refine hK10 ?_
    refine WC.block ?_
    refine WC.loop (fun (i : Nat) => [(0, sv), (1, .string tok), (2, tv), (8, .int .i64 ((findU xs tok).1)), (24, tv), (25, .int .i64 (ts.length : Int)), (26, .int .i64 (i : Int))]) (fun (i : Nat) W => i ≤ ts.length ∧ (∀ k a, k < i → ts[k]? = some a → wordB a = true) ∧ Below w.heap.size w W ∧ LL (L) W ∧ RdF 3 (L) W sv (xs.map encU) ∧ AgU (L) W xs ∧ MaxL (L) W ∧ RdF 1 (L) W tv (ts.map encT)) (fun (i : Nat) => ts.length - i) 0 (by repeat first | exact trivial | exact And.intro rfl trivial | refine And.intro rfl ?_ | refine And.intro (congrArg (fun z : Int => some (Value.int .i64 z)) (by omega)) ?_) ⟨Nat.zero_le _, (fun k a hk => by omega), hB, hL, h1, h2, hM, h3⟩ ?_
    clear h1 h2 hM h3 hB hL
    rintro K11 i W12 ⟨hi, hv, hB, hL, h1, h2, hM, h3⟩ hK11
    refine WC.seq fun K13 hK13 => ?_
    refine WC.region ?_
    refine WL.val (dx_lss rfl rfl rfl) rfl rfl ?_
    refine WL.nil ?_
    refine hK13 ?_
    refine WC.seq fun K14 hK14 => ?_
    refine WC.cond rfl (fun c15 => ?_) (fun c15 => ?_)
    ·
      replace c15 := of_decide_eq_true c15
      refine WC.skip ?_
      refine hK14 ?_
      refine WC.seq fun K16 hK16 => ?_
      refine WC.block ?_
      refine WC.seq fun K17 hK17 => ?_
      refine WC.region ?_
      obtain ⟨r18, e19⟩ : ∃ x, ts[i]? = some x := ⟨_, List.getElem?_eq_getElem (by omega)⟩
      refine WL.get (dx_idxF i rfl ty_slice_55 rfl rfl h3 (by omega) (at_mapX e19)) rfl rfl ?_
      rintro u20 _ ⟨rfl, p21⟩
      refine WL.val (dx_loadP rfl ty_one_9 rfl p21) rfl rfl ?_
      refine WL.val (dx_assign rfl rfl) rfl rfl ?_
      refine WL.nil ?_
      refine hK17 ?_
      refine WC.seq fun K22 hK22 => ?_
      refine WC.region ?_
      refine WL.val (dx_move rfl rfl) rfl rfl ?_
      refine WL.get (dx_cv rfl Tryd.func22 rfl rfl rfl (word_v r18 W12 [] (LL.nil _))) rfl rfl ?_
      rintro _ W24 ⟨rfl, b23⟩
      replace h1 := h1.below b23
      replace h2 := h2.below b23
      replace hM := hM.below b23
      replace h3 := h3.below b23
      replace hB := below_then hB b23
      replace hL := LL.below hL b23
      refine WL.val (dx_not rfl rfl) rfl rfl ?_
      refine WL.nil ?_
      refine hK22 ?_
      refine WC.cond rfl (fun c25 => ?_) (fun c25 => ?_)
      ·
        replace c25 := bnot_t c25
        refine WC.seq fun K26 hK26 => ?_
        refine WC.region ?_
        refine WL.val (dx_move rfl rfl) rfl rfl ?_
        refine WL.val (dx_assign rfl rfl) rfl rfl ?_
        refine WL.val (dx_assign rfl rfl) rfl rfl ?_
        refine WL.nil ?_
        refine hK26 ?_
        refine WC.ret fun a_ ha_ => ?_
        exact hQ (cv_ret2 rfl (.tmp rfl) (.tmp rfl) (by have he : agrE xs tok ts = 1 := (by unfold agrE; rw [if_pos (by assumption), if_neg (by rw [show ts.all wordB = false from List.all_eq_false.2 ⟨_, List.mem_of_getElem? e19, by simp [*]⟩]; decide)]); have hr : agrU xs tok ts undef = xs := (by unfold agrU; rw [if_neg (by rw [he]; first | assumption | decide)]); exact ⟨_, undef, (by first | (rw [he]; done) | (rw [he]; rfl)), by rw [hr]; exact (h1.less (fun x hx => hx)), by rw [hr]; exact (h2.less (fun x hx => hx))⟩) hB ha_)
      ·
        replace c25 := bnot_f c25
        refine WC.skip ?_
        refine hK16 ?_
        refine WC.region ?_
        refine WL.val (dx_add (r := (i : Int) + 1) rfl rfl rfl (wrap64_id (by omega))) rfl rfl ?_
        refine WL.val (dx_move rfl rfl) rfl rfl ?_
        refine WL.nil ?_
        exact hK11 (i + 1) ⟨(by omega), (good_step hv e19 (by assumption)), hB, hL, h1, h2, hM, h3⟩ (by omega) (by repeat first | exact trivial | exact And.intro rfl trivial | refine And.intro rfl ?_ | refine And.intro (congrArg (fun z : Int => some (Value.int .i64 z)) (by omega)) ?_)
    ·
      replace c15 := of_decide_eq_false c15
      refine WC.exit ?_
      refine hK9 ?_
      refine WC.seq fun K27 hK27 => ?_
      refine WC.region ?_
      refine WL.val (dx_move rfl rfl) rfl rfl ?_
      refine WL.val (dx_move rfl rfl) rfl rfl ?_
      refine WL.get (dx_idxF k0 rfl ty_slice_22 rfl rfl h1 (by omega) (at_mapX hu0)) rfl rfl ?_
      rintro u28 _ ⟨rfl, p29⟩
      refine WL.get (dx_fldP 1 rfl ty_fld_57_2_2 rfl p29 (cs' := [u0.2.2.1]) rfl (Nat.succ_pos _)) rfl rfl ?_
      rintro u30 _ ⟨rfl, p31⟩
      refine WL.val (dx_loadP rfl ty_one_55 rfl p31) rfl rfl ?_
      refine WL.val (dx_move rfl rfl) rfl rfl ?_
      have hall : ts.all wordB = true := List.all_eq_true.2 (fun t ht => by obtain ⟨k, hk, rfl⟩ := List.getElem_of_mem ht; exact hv k _ (by omega) (List.getElem?_eq_getElem hk))
      have hts1 := hts
      have hra := (h2 u0 (List.mem_of_getElem? hu0))
      have hrl2 := hra.len
      rw [List.length_map] at hrl2
      have hg0 : goodU u0 = true := (by have := hr0; unfold rightU rightL at this; simp only [Bool.and_eq_true, List.all_eq_true] at this; exact this.2.1 u0 (List.mem_of_getElem? hu0))
      have h40 : u0.2.2.2.length ≤ 4 := (by unfold goodU at hg0; simp only [Bool.and_eq_true] at hg0; exact right_len hg0.2.2)
      refine WL.get (dx_lit2 rfl ty_ap_81 rfl rfl (oc_one hra.one) (oc_one h3.one)) rfl rfl ?_
      rintro u36 W32 ⟨k33, b34, z35⟩
      replace h1 := h1.below b34
      replace h2 := h2.below b34
      replace hM := hM.below b34
      replace h3 := h3.below b34
      replace p29 := p29.below b34
      replace p31 := p31.below b34
      replace hB := below_then hB b34
      replace hL := LL.below hL b34
      have hra := (h2 u0 (List.mem_of_getElem? hu0))
      have zh1 := h1
      have zh2 := h2
      have zhM := hM
      have zh3 := h3
      have zp29 := p29
      have zp31 := p31
      have zhB := hB
      have zhL := hL
      refine WL.get (dx_cv rfl Tryd.func23 rfl rfl rfl (concat_v [(u0.2.2.1, u0.2.2.2), (tv, ts)] _ W32 [] (LL.nil _) (k33.rd (L := []) (by simp)) (AgP.two hra h3) (by simp [sumT]; omega))) rfl rfl ?_
      rintro u37 W38 ⟨k39, b40⟩
      rw [show catT [(u0.2.2.1, u0.2.2.2), (tv, ts)] = u0.2.2.2 ++ ts by simp [catT]] at k39
      have k39b := b40
      replace h1 := h1.below b40
      replace h2 := h2.below b40
      replace hM := hM.below b40
      replace h3 := h3.below b40
      replace p29 := p29.below b40
      replace p31 := p31.below b40
      replace hB := below_then hB b40
      replace hL := LL.below hL b40
      refine WL.val (dx_assign rfl rfl) rfl rfl ?_
      refine WL.nil ?_
      refine hK27 ?_
      refine WC.seq fun K41 hK41 => ?_
      refine WC.region ?_
      refine WL.val (dx_move rfl rfl) rfl rfl ?_
      refine WL.get (dx_callA rfl Tryd.func24 rfl rfl rfl (sort_v k39 k39b.size (by rw [List.length_append]; omega))) rfl rfl ?_
      rintro x42 W43 ⟨k44, b45⟩
      have b46 := k39b.trans b45
      replace h1 := zh1
      replace h2 := zh2
      replace hM := zhM
      replace h3 := zh3
      replace p29 := zp29
      replace p31 := zp31
      replace hB := zhB
      replace hL := zhL
      replace h1 := h1.below b46
      replace h2 := h2.below b46
      replace hM := hM.below b46
      replace h3 := h3.below b46
      replace hB := below_then hB b46
      replace hL := LL.below hL b46
      refine WL.nil ?_
      refine hK41 ?_
      refine WC.seq fun K47 hK47 => ?_
      refine WC.region ?_
      refine WL.val (dx_move rfl rfl) rfl rfl ?_
      refine WL.get (dx_callA rfl Tryd.func25 rfl rfl rfl (once_v k44 b46.size (by rw [sortT_len, List.length_append]; omega))) rfl rfl ?_
      rintro x48 W49 ⟨k50, b51⟩
      have b52 := b46.trans b51
      replace h1 := zh1
      replace h2 := zh2
      replace hM := zhM
      replace h3 := zh3
      replace p29 := zp29
      replace p31 := zp31
      replace hB := zhB
      replace hL := zhL
      replace h1 := h1.below b52
      replace h2 := h2.below b52
      replace hM := hM.below b52
      replace h3 := h3.below b52
      replace hB := below_then hB b52
      replace hL := LL.below hL b52
      have ha := k50.rd zhL
      replace ha : RdF 1 (L) W49 x48 ((agL u0.2.2.2 ts).map encT) := ha
      refine WL.val (dx_assign rfl rfl) rfl rfl ?_
      refine WL.nil ?_
      refine hK47 ?_
      refine WC.seq fun K53 hK53 => ?_
      refine WC.seq fun K54 hK54 => ?_
      refine WC.region ?_
      refine WL.val (dx_move rfl rfl) rfl rfl ?_
      refine WL.val (dx_lenX rfl ty_slice_55 rfl ha) rfl rfl ?_
      refine WL.val (dx_gtr rfl rfl rfl) rfl rfl ?_
      refine WL.nil ?_
      refine hK54 ?_
      refine WC.cond rfl (fun c55 => ?_) (fun c55 => ?_)
      ·
        replace c55 := of_decide_eq_true c55
        refine WC.seq fun K56 hK56 => ?_
        refine WC.region ?_
        refine WL.val (dx_move rfl rfl) rfl rfl ?_
        refine WL.val (dx_assign rfl rfl) rfl rfl ?_
        refine WL.val (dx_assign rfl rfl) rfl rfl ?_
        refine WL.nil ?_
        refine hK56 ?_
        refine WC.ret fun a_ ha_ => ?_
        exact hQ (cv_ret2 rfl (.tmp rfl) (.tmp rfl) (by have he : agrE xs tok ts = 10 := (by unfold agrE; rw [if_pos (by assumption), if_pos hall, hk0, Int.toNat_natCast, hu0]; exact if_pos (by assumption)); have hr : agrU xs tok ts undef = xs := (by unfold agrU; rw [if_neg (by rw [he]; first | assumption | decide)]); exact ⟨_, undef, (by first | (rw [he]; done) | (rw [he]; rfl)), by rw [hr]; exact (h1.less (fun x hx => hx)), by rw [hr]; exact (h2.less (fun x hx => hx))⟩) hB ha_)
      ·
        replace c55 := of_decide_eq_false c55
        refine WC.skip ?_
        refine hK53 ?_
        refine WC.seq fun K57 hK57 => ?_
        refine WC.region ?_
        refine WL.val (dx_move rfl rfl) rfl rfl ?_
        refine WL.get (dx_cv rfl Tryd.func26 rfl rfl rfl (cloneSUser_v _ _ W49 _ hL h1 h2.oc (by rw [List.length_map]; omega))) rfl rfl ?_
        rintro u58 W59 ⟨p60, b61⟩
        obtain ⟨B62, q63, k64⟩ := p60.own (fun e => by have := congrArg List.length e; rw [List.length_map, List.length_nil] at this; omega)
        have l65 := Nat.le_trans hB.size q63
        replace h1 := h1.more b61 q63
        replace h2 := h2.more b61 q63
        replace hM := hM.more b61 q63
        replace h3 := h3.more b61 q63
        replace ha := ha.more b61 q63
        replace hB := below_then hB b61
        replace hL := LL.cons (LL.below hL b61) k64.lt
        refine WL.val (dx_assign rfl rfl) rfl rfl ?_
        refine WL.nil ?_
        refine hK57 ?_
        refine WC.seq fun K66 hK66 => ?_
        refine WC.region ?_
        refine WL.val (dx_move rfl rfl) rfl rfl ?_
        refine WL.val (dx_move rfl rfl) rfl rfl ?_
        refine WL.val (dx_move rfl rfl) rfl rfl ?_
        refine WL.val (dx_idxO k0 rfl ty_slice_22 rfl rfl k64 (by omega) (by rw [List.length_map]; omega) rfl) rfl rfl ?_
        refine WL.val (dx_fld (o1 := k0 * 3 + 2) rfl ty_fld_57_2_2 rfl rfl) rfl rfl ?_
        refine WL.do (dx_storeF (k := k0) (j := 2) (r := encU u0) rfl ty_size_55_1 rfl rfl (oc_one ha.one) ha.one k64 rfl (by rw [List.getElem?_map, hu0]; rfl) (by decide)) rfl ?_
        rintro _ W67 ⟨k69, o68⟩
        clear k64
        replace h1 := h1.only o68 (.head _)
        replace h2 := h2.only o68 (.head _)
        replace hM := hM.only o68 (.head _)
        replace h3 := h3.only o68 (.head _)
        replace ha := ha.only o68 (.head _)
        replace hB := o68.below hB l65
        replace hL := LL.only hL o68
        rw [agr_rows xs k0 u0 x48 (agL u0.2.2.2 ts)] at k69
        refine WL.nil ?_
        refine hK66 ?_
        refine WC.seq fun K70 hK70 => ?_
        refine WC.region ?_
        refine WL.val (dx_move rfl rfl) rfl rfl ?_
        refine WL.val (dx_assign rfl rfl) rfl rfl ?_
        refine WL.val (dx_assign rfl rfl) rfl rfl ?_
        refine WL.nil ?_
        refine hK70 ?_
        refine WC.ret fun a_ ha_ => ?_
        exact hQ (cv_ret2 rfl (.tmp rfl) (.tmp rfl) (by have he : agrE xs tok ts = 0 := (by unfold agrE; rw [if_pos (by assumption), if_pos hall, hk0, Int.toNat_natCast, hu0]; exact if_neg (by assumption)); have hr : agrU xs tok ts x48 = xs.set k0 (u0.1, u0.2.1, x48, agL u0.2.2.2 ts) := (by unfold agrU; rw [if_pos he, hk0, Int.toNat_natCast, hu0]); exact ⟨_, x48, by rw [he], by rw [hr]; exact k69.notin hL0 l65, by rw [hr]; exact ((h2.less (fun x hx => (.tail _ hx)))).set _ _ _ (ha.less (fun x hx => (.tail _ hx)))⟩) hB ha_)

end Go.Proofs.YthefddclefimoaaDoor
