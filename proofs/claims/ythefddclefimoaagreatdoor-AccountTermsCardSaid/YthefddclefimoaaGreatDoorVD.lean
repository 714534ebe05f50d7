/- Package account: Agree; slices.Concat. Users: what one's doing leaves of another one. No program stands here. Arrays of three as values; tests that cannot be. No program stands here. The laws of layer 17, walked. Users and texts, as arguments. Layer 5 (ids): the reference's answers are the same. Layer 5 (ids): the reference's hosts. Layer 5 (ids): the reference's names of servers, users, rooms, events; and their parts. Layer 5 (ids): the reference's names of users and rooms. Layer 5 (ids): the reference's names of users, rooms, events; their parts. The reference of accounts: Secret, User, Right, place, Whose. The reference of accounts: Whose, Same. The reference of accounts: Copy. -/
import Derived.Test.YthefddclefimoaaGreatDoorTie
import Derived.Test.YthefddclefimoaaGreatDoorCards
import Derived.Deep.Strs
import Derived.Deep.DeepHandedRow
import Derived.Lay
import Derived.LaidLaws
import Derived.SevenTiedAt
import Derived.IntWalk
import Derived.Test.YthefddclefimoaaGreatDoorVC
namespace Go.Proofs.YthefddclefimoaaGreatDoor
open Go.RowKit
set_option linter.unusedVariables false
set_option linter.unusedSimpArgs false
set_option maxRecDepth 8000

set_option maxHeartbeats 1000000 in
theorem growT_v (n : Nat) (w : World) (L : List Nat) (hL : LL L w)   (hn : n ≤ 1000000) : CV Tryz.prog 75 [.slice none 0 0, .int .i64 (n : Int)] w fun v W => NewW 1 w.heap.size [] v W := by
  refine cv_enter (N := 27) (f := [(0, .slice none 0 0), (1, .int .i64 (n : Int))]) Tryz.func75 rfl rfl rfl rfl fun Q hQ hE => ?_
  have hB := Below.refl w.heap.size w
  refine WC.seq fun K1 hK1 => ?_
  refine WC.region ?_
  refine WL.val (dx_assign rfl rfl) rfl rfl ?_
  refine WL.nil ?_
  refine hK1 ?_
  refine WC.seq fun K2 hK2 => ?_
  refine WC.seq fun K3 hK3 => ?_
  refine WC.region ?_
  refine WL.val (dx_move rfl rfl) rfl rfl ?_
  refine WL.val (dx_lss rfl rfl rfl) rfl rfl ?_
  refine WL.nil ?_
  refine hK3 ?_
  refine WC.cond rfl (fun c4 => ?_) (fun c4 => ?_)
  ·
    replace c4 := of_decide_eq_true c4
    exfalso; omega
  ·
    replace c4 := of_decide_eq_false c4
    refine WC.skip ?_
    refine hK2 ?_
    refine WC.seq fun K5 hK5 => ?_
    refine WC.seq fun K6 hK6 => ?_
    refine WC.region ?_
    refine WL.val (dx_move rfl rfl) rfl rfl ?_
    refine WL.val (dx_move rfl rfl) rfl rfl ?_
    refine WL.val (dx_cap rfl Tryz.underlying34 rfl) rfl rfl ?_
    refine WL.val (dx_move rfl rfl) rfl rfl ?_
    refine WL.val (dx_len rfl Tryz.underlying34 rfl) rfl rfl ?_
    refine WL.val (dx_sub (r := 0) rfl rfl rfl (by decide)) rfl rfl ?_
    refine WL.val (dx_sub (r := (n : Int)) rfl rfl rfl (by rw [wrap64_id (by omega)]; omega)) rfl rfl ?_
    refine WL.val (dx_assign rfl rfl) rfl rfl ?_
    refine WL.nil ?_
    refine hK6 ?_
    refine WC.seq fun K7 hK7 => ?_
    refine WC.region ?_
    refine WL.val (dx_move rfl rfl) rfl rfl ?_
    refine WL.val (dx_gtr rfl rfl rfl) rfl rfl ?_
    refine WL.nil ?_
    refine hK7 ?_
    refine WC.cond rfl (fun c8 => ?_) (fun c8 => ?_)
    ·
      replace c8 := of_decide_eq_true c8
      refine WC.region ?_
      refine WL.val (dx_move rfl rfl) rfl rfl ?_
      refine WL.val (dx_move rfl rfl) rfl rfl ?_
      refine WL.val (dx_cap rfl Tryz.underlying34 rfl) rfl rfl ?_
      refine WL.val (dx_slNH rfl ty_slice_34 rfl rfl) rfl rfl ?_
      refine WL.val (dx_move rfl rfl) rfl rfl ?_
      refine WL.get (dx_apZ0 n rfl ty_ap_34 Tryz.underlying3 (by decide) rfl rfl rfl (by omega) hn (by omega)) rfl rfl ?_
      rintro _ W9 ⟨c, rfl, hc, k12, b10, z11⟩
      replace hB := below_then hB b10
      replace hL := LL.below hL b10
      refine WL.val (dx_move rfl rfl) rfl rfl ?_
      refine WL.val (dx_len rfl Tryz.underlying34 rfl) rfl rfl ?_
      refine WL.val (dx_slH 0 rfl ty_slice_34 rfl rfl rfl (by omega)) rfl rfl ?_
      refine WL.val (dx_assign rfl rfl) rfl rfl ?_
      refine WL.nil ?_
      refine hK5 ?_
      refine WC.seq fun K13 hK13 => ?_
      refine WC.region ?_
      refine WL.val (dx_move rfl rfl) rfl rfl ?_
      refine WL.val (dx_assign rfl rfl) rfl rfl ?_
      refine WL.nil ?_
      refine hK13 ?_
      refine WC.ret fun a_ ha_ => ?_
      exact hQ (cv_ret1 rfl (.tmp rfl) (.inr ⟨_, Nat.le_refl _, k12⟩) hB ha_)
    ·
      replace c8 := of_decide_eq_false c8
      refine WC.skip ?_
      refine hK5 ?_
      refine WC.seq fun K14 hK14 => ?_
      refine WC.region ?_
      refine WL.val (dx_move rfl rfl) rfl rfl ?_
      refine WL.val (dx_assign rfl rfl) rfl rfl ?_
      refine WL.nil ?_
      refine hK14 ?_
      refine WC.ret fun a_ ha_ => ?_
      exact hQ (cv_ret1 rfl (.tmp rfl) (.inl ⟨rfl, rfl, by decide⟩) hB ha_)

/-- A slice of slices of texts. -/
abbrev PX := Value × List ByteArray
def encP (p : PX) : List Value := [p.1]
def AgP (L : List Nat) (w : World) (ps : List PX) : Prop := ∀ p ∈ ps, RdF 1 L w p.1 (p.2.map encT)
theorem AgP.below {L : List Nat} {w w' : World} {xs : List PX} (h : AgP L w xs) (hb : Below w.heap.size w w') : AgP L w' xs := fun u hu => (h u hu).below hb
def sumT (ps : List PX) : Nat := (ps.map (·.2.length)).sum
def catT (ps : List PX) : List ByteArray := ps.flatMap (·.2)
theorem sumT_step {ps : List PX} {i : Nat} {p : PX} (h : ps[i]? = some p) : sumT (ps.take (i + 1)) = sumT (ps.take i) + p.2.length := by
  obtain ⟨hl, rfl⟩ := List.getElem?_eq_some_iff.1 h
  unfold sumT
  rw [List.take_succ_eq_append_getElem hl]
  simp only [List.map_append, List.sum_append, List.map_cons, List.map_nil, List.sum_cons, List.sum_nil, Nat.add_zero]
theorem catT_step {ps : List PX} {i : Nat} {p : PX} (h : ps[i]? = some p) : catT (ps.take (i + 1)) = catT (ps.take i) ++ p.2 := by
  obtain ⟨hl, rfl⟩ := List.getElem?_eq_some_iff.1 h
  unfold catT
  rw [List.take_succ_eq_append_getElem hl]
  simp only [List.flatMap_append, List.flatMap_cons, List.flatMap_nil, List.append_nil]
theorem sumT_le (ps : List PX) (i : Nat) : sumT (ps.take i) ≤ sumT ps := by
  have h : sumT ps = sumT (ps.take i) + sumT (ps.drop i) := by
    unfold sumT
    rw [← List.sum_append, ← List.map_append, List.take_append_drop]
  omega
theorem catT_len (ps : List PX) : (catT ps).length = sumT ps := by
  unfold catT sumT
  rw [List.length_flatMap]
set_option maxHeartbeats 1000000 in
theorem concat_v (ps : List PX) (pv : Value) (w : World) (L : List Nat) (hL : LL L w) (h1 : RdF 1 L w pv (ps.map encP)) (h2 : AgP L w ps)  (hsum : sumT ps ≤ 1000000) : CV Tryz.prog 50 [pv] w fun v W => NewW 1 w.heap.size ((catT ps).map encT) v W := by
  refine cv_enter (N := 36) (f := [(0, pv)]) Tryz.func50 rfl rfl rfl rfl fun Q hQ hE => ?_
  have hB := Below.refl w.heap.size w
  have hL0 := hL
  have h10 := h1
  have h20 := h2
  have h1m : ps.length ≤ maxLen := by have := h1.len; rwa [List.length_map] at this
  unfold maxLen at h1m
  refine WC.seq fun K1 hK1 => ?_
  refine WC.region ?_
  refine WL.val (dx_assign rfl rfl) rfl rfl ?_
  refine WL.nil ?_
  refine hK1 ?_
  refine WC.seq fun K2 hK2 => ?_
  refine WC.region ?_
  refine WL.val (dx_assign rfl rfl) rfl rfl ?_
  refine WL.nil ?_
  refine hK2 ?_
  refine WC.seq fun K3 hK3 => ?_
  refine WC.seq fun K4 hK4 => ?_
  refine WC.region ?_
  refine WL.val (dx_move rfl rfl) rfl rfl ?_
  refine WL.val (dx_lenX rfl ty_slice_86 rfl h1) rfl rfl ?_
  refine WL.val (dx_move rfl rfl) rfl rfl ?_
  refine WL.nil ?_
  refine hK4 ?_
  refine WC.block ?_
  refine WC.loop (fun (i : Nat) => [(0, pv), (9, pv), (10, .int .i64 (ps.length : Int)), (2, .slice none 0 0), (11, .int .i64 (i : Int)), (3, .int .i64 ((sumT (ps.take i) : Nat) : Int))]) (fun (i : Nat) W => i ≤ ps.length ∧ Below w.heap.size w W ∧ LL (L) W ∧ RdF 1 (L) W pv (ps.map encP) ∧ AgP (L) W ps) (fun (i : Nat) => ps.length - i) 0 (by repeat first | exact trivial | exact And.intro rfl trivial | refine And.intro rfl ?_ | refine And.intro (congrArg (fun z : Int => some (Value.int .i64 z)) (by omega)) ?_) ⟨Nat.zero_le _, hB, hL, h1, h2⟩ ?_
  clear h1 h2 hB hL
  rintro K5 i W6 ⟨hi, hB, hL, h1, h2⟩ hK5
  refine WC.seq fun K7 hK7 => ?_
  refine WC.region ?_
  refine WL.val (dx_lss rfl rfl rfl) rfl rfl ?_
  refine WL.nil ?_
  refine hK7 ?_
  refine WC.seq fun K8 hK8 => ?_
  refine WC.cond rfl (fun c9 => ?_) (fun c9 => ?_)
  ·
    replace c9 := of_decide_eq_true c9
    refine WC.skip ?_
    refine hK8 ?_
    refine WC.seq fun K10 hK10 => ?_
    refine WC.block ?_
    refine WC.seq fun K11 hK11 => ?_
    refine WC.region ?_
    obtain ⟨r12, e13⟩ : ∃ x, ps[i]? = some x := ⟨_, List.getElem?_eq_getElem (by omega)⟩
    refine WL.get (dx_idxF i rfl ty_slice_86 rfl rfl h1 (by omega) (at_mapX e13)) rfl rfl ?_
    rintro u14 _ ⟨rfl, p15⟩
    refine WL.val (dx_loadP rfl ty_one_34 rfl p15) rfl rfl ?_
    refine WL.val (dx_assign rfl rfl) rfl rfl ?_
    refine WL.nil ?_
    refine hK11 ?_
    refine WC.seq fun K16 hK16 => ?_
    refine WC.region ?_
    refine WL.val (dx_move rfl rfl) rfl rfl ?_
    refine WL.val (dx_move rfl rfl) rfl rfl ?_
    refine WL.val (dx_lenX rfl ty_slice_34 rfl (h2 r12 (List.mem_of_getElem? e13))) rfl rfl ?_
    have q1 := sumT_step e13
    have q2 := sumT_le ps (i + 1)
    refine WL.val (dx_add (r := ((sumT (ps.take (i + 1)) : Nat) : Int)) rfl rfl rfl (by rw [wrap64_id (by omega)]; omega)) rfl rfl ?_
    refine WL.val (dx_assign rfl rfl) rfl rfl ?_
    refine WL.nil ?_
    refine hK16 ?_
    refine WC.seq fun K17 hK17 => ?_
    refine WC.region ?_
    refine WL.val (dx_move rfl rfl) rfl rfl ?_
    refine WL.val (dx_lss rfl rfl rfl) rfl rfl ?_
    refine WL.nil ?_
    refine hK17 ?_
    refine WC.cond rfl (fun c18 => ?_) (fun c18 => ?_)
    ·
      replace c18 := of_decide_eq_true c18
      exfalso; omega
    ·
      replace c18 := of_decide_eq_false c18
      refine WC.skip ?_
      refine hK10 ?_
      refine WC.region ?_
      refine WL.val (dx_add (r := (i : Int) + 1) rfl rfl rfl (wrap64_id (by omega))) rfl rfl ?_
      refine WL.val (dx_move rfl rfl) rfl rfl ?_
      refine WL.nil ?_
      exact hK5 (i + 1) ⟨(by omega), hB, hL, h1, h2⟩ (by omega) (by repeat first | exact trivial | exact And.intro rfl trivial | refine And.intro rfl ?_ | refine And.intro (congrArg (fun z : Int => some (Value.int .i64 z)) (by omega)) ?_)
  ·
    replace c9 := of_decide_eq_false c9
    refine WC.exit ?_
    refine hK3 ?_
    refine WC.seq fun K19 hK19 => ?_
    refine WC.region ?_
    refine WL.val (dx_move rfl rfl) rfl rfl ?_
    have zh1 := h1
    have zh2 := h2
    have zhL := hL
    have q3 := sumT_le ps i
    have q5 := hB.size
    refine WL.get (dx_cv rfl Tryz.func75 rfl rfl rfl (growT_v (sumT (ps.take i)) W6 [] (LL.nil _) (by omega))) rfl rfl ?_
    rintro u20 W21 ⟨k22, b23⟩
    replace h1 := h1.below b23
    replace h2 := h2.below b23
    replace hB := below_then hB b23
    replace hL := LL.below hL b23
    refine WL.val (dx_assign rfl rfl) rfl rfl ?_
    refine WL.nil ?_
    refine hK19 ?_
    refine WC.seq fun K24 hK24 => ?_
    refine WC.seq fun K25 hK25 => ?_
    refine WC.region ?_
    refine WL.val (dx_move rfl rfl) rfl rfl ?_
    refine WL.val (dx_lenX rfl ty_slice_86 rfl h1) rfl rfl ?_
    refine WL.val (dx_move rfl rfl) rfl rfl ?_
    refine WL.nil ?_
    refine hK25 ?_
    refine WC.block ?_
    refine WC.loop2 (fun (i : Nat) (cu : Value) => [(0, pv), (25, pv), (26, .int .i64 (ps.length : Int)), (27, .int .i64 (i : Int)), (6, cu)]) (fun (i : Nat) (cu : Value) W => i ≤ ps.length ∧ NewW 1 w.heap.size ((catT (ps.take i)).map encT) cu W ∧ Below w.heap.size w W ∧ LL (L) W ∧ RdF 1 (L) W pv (ps.map encP) ∧ AgP (L) W ps) (fun (i : Nat) (cu : Value) => ps.length - i) 0 u20 (by repeat first | exact trivial | exact And.intro rfl trivial | refine And.intro rfl ?_ | refine And.intro (congrArg (fun z : Int => some (Value.int .i64 z)) (by omega)) ?_) ⟨Nat.zero_le _, (k22.le q5), hB, hL, h1, h2⟩ ?_
    clear h1 h2 hB hL
    rintro K26 i cu W27 ⟨hi, hu, hB, hL, h1, h2⟩ hK26
    refine WC.seq fun K28 hK28 => ?_
    refine WC.region ?_
    refine WL.val (dx_lss rfl rfl rfl) rfl rfl ?_
    refine WL.nil ?_
    refine hK28 ?_
    refine WC.seq fun K29 hK29 => ?_
    refine WC.cond rfl (fun c30 => ?_) (fun c30 => ?_)
    ·
      replace c30 := of_decide_eq_true c30
      refine WC.skip ?_
      refine hK29 ?_
      refine WC.seq fun K31 hK31 => ?_
      refine WC.block ?_
      refine WC.seq fun K32 hK32 => ?_
      refine WC.region ?_
      obtain ⟨r33, e34⟩ : ∃ x, ps[i]? = some x := ⟨_, List.getElem?_eq_getElem (by omega)⟩
      refine WL.get (dx_idxF i rfl ty_slice_86 rfl rfl h1 (by omega) (at_mapX e34)) rfl rfl ?_
      rintro u35 _ ⟨rfl, p36⟩
      refine WL.val (dx_loadP rfl ty_one_34 rfl p36) rfl rfl ?_
      refine WL.val (dx_assign rfl rfl) rfl rfl ?_
      refine WL.nil ?_
      refine hK32 ?_
      refine WC.region ?_
      refine WL.val (dx_move rfl rfl) rfl rfl ?_
      refine WL.val (dx_move rfl rfl) rfl rfl ?_
      have q1 := sumT_step e34
      have q2 := sumT_le ps (i + 1)
      have q4 := catT_len (ps.take i)
      refine WL.get (dx_apW rfl ty_ap_34 rfl rfl hu (h2 r33 (List.mem_of_getElem? e34)) (oc_rowsX oc_T _) (by rw [List.length_map, List.length_map]; unfold maxLen; omega) (by rw [List.length_map, List.length_map]; omega) hB.size) rfl rfl ?_
      rintro u37 W38 ⟨k39, b40⟩
      replace hB := hB.trans b40
      replace h1 := h10.below hB
      replace h2 := h20.below hB
      replace hL := LL.below hL0 hB
      refine WL.val (dx_assign rfl rfl) rfl rfl ?_
      refine WL.nil ?_
      refine hK31 ?_
      refine WC.region ?_
      refine WL.val (dx_add (r := (i : Int) + 1) rfl rfl rfl (wrap64_id (by omega))) rfl rfl ?_
      refine WL.val (dx_move rfl rfl) rfl rfl ?_
      refine WL.nil ?_
      exact hK26 (i + 1) u37 ⟨(by omega), (by rw [catT_step e34, List.map_append]; exact k39), hB, hL, h1, h2⟩ (by omega) (by repeat first | exact trivial | exact And.intro rfl trivial | refine And.intro rfl ?_ | refine And.intro (congrArg (fun z : Int => some (Value.int .i64 z)) (by omega)) ?_)
    ·
      replace c30 := of_decide_eq_false c30
      refine WC.exit ?_
      refine hK24 ?_
      refine WC.seq fun K41 hK41 => ?_
      refine WC.region ?_
      refine WL.val (dx_move rfl rfl) rfl rfl ?_
      refine WL.val (dx_assign rfl rfl) rfl rfl ?_
      refine WL.nil ?_
      refine hK41 ?_
      refine WC.ret fun a_ ha_ => ?_
      exact hQ (cv_ret1 rfl (.tmp rfl) (by rw [show ps.take i = ps from List.take_of_length_le (by omega)] at hu; exact hu) hB ha_)

theorem encT_is (s : ByteArray) : encT s = [.string s] := rfl
/-- Sorted, each once. -/
def agL (a ts : List ByteArray) : List ByteArray := onceT (sortT (a ++ ts))
def agrE (xs : List UserX) (tok : ByteArray) (ts : List ByteArray) : Int := if (findU xs tok).2 = 0 then (if ts.all wordB = true then (if 4 < ((agL (((xs[(findU xs tok).1.toNat]?).map (·.2.2.2)).getD []) ts).length : Int) then 10 else 0) else 1) else (findU xs tok).2
def agrU (xs : List UserX) (tok : ByteArray) (ts : List ByteArray) (v : Value) : List UserX := if agrE xs tok ts = 0 then (match xs[(findU xs tok).1.toNat]? with
  | some u => xs.set (findU xs tok).1.toNat (u.1, u.2.1, v, agL u.2.2.2 ts)
  | none => xs) else xs
theorem sort_v {w : World} {v : Value} {ts : List ByteArray} {base : Nat} (h : NewW 1 base (ts.map encT) v w) (hb : base ≤ w.heap.size) (hlen : ts.length ≤ 1000000) : Calls Tryz.prog 51 [v].toArray w fun e w' => ∃ x, e = .returned x ∧ NewW 1 base ((sortT ts).map encT) v w' ∧ Below base w w' := sort_new encT_is Tryz.slices_Sort_string Tryz.slices_Sort_string_none h hb hlen
theorem once_v {w : World} {v : Value} {ts : List ByteArray} {base : Nat} (h : NewW 1 base (ts.map encT) v w) (hb : base ≤ w.heap.size) (hlen : ts.length ≤ 1000000) : Calls Tryz.prog 52 [v].toArray w fun e w' => ∃ x, e = .returned x ∧ NewW 1 base ((onceT ts).map encT) x w' ∧ Below base w w' := once_new encT_is Tryz.slices_Compact_string Tryz.slices_Compact_string_empty h hb hlen
theorem agr_rows (xs : List UserX) (k : Nat) (u : UserX) (v : Value) (l : List ByteArray) : (xs.map encU).set k ((encU u).set 2 v) = (xs.set k (u.1, u.2.1, v, l)).map encU := by
  rw [List.map_set]; rfl
theorem AgU.set {L : List Nat} {w : World} {xs : List UserX} (h : AgU L w xs) (k : Nat) (a b : ByteArray) {v : Value} {l : List ByteArray} (hv : RdF 1 L w v (l.map encT)) : AgU L w (xs.set k (a, b, v, l)) := fun u hu => by
  rcases List.mem_or_eq_of_mem_set hu with hu | rfl
  · exact h u hu
  · exact hv
theorem onceT_le (ts : List ByteArray) : (onceT ts).length ≤ ts.length := by
  unfold onceT
  have := Lib.compact_length_le (ts.map bL)
  simpa using this
theorem AgP.two {w : World} {v u : Value} {a b : List ByteArray} {L : List Nat} (h1 : RdF 1 L w v (a.map encT)) (h2 : RdF 1 L w u (b.map encT)) : AgP [] w [(v, a), (u, b)] := fun p hp => by
  rcases List.mem_cons.1 hp with rfl | hp
  · exact h1.less (by simp)
  · rcases List.mem_cons.1 hp with rfl | hp
    · exact h2.less (by simp)
    · cases hp
set_option maxHeartbeats 1000000 in
theorem agree_v (xs : List UserX) (tok : ByteArray) (ts : List ByteArray) (sv tv : Value) (w : World) (L : List Nat) (hL : LL L w) (h1 : RdF 3 L w sv (xs.map encU)) (h2 : AgU L w xs) (hM : MaxL L w) (h3 : RdF 1 L w tv (ts.map encT))  (hts : ts.length ≤ 1000) : CV Tryz.prog 18 [sv, .string tok, tv] w fun v W => ∃ s2 av, v = .tuple #[s2, .int .i64 (agrE xs tok ts)] ∧ RdF 3 L W s2 ((agrU xs tok ts av).map encU) ∧ AgU L W (agrU xs tok ts av) := by
  refine cv_enter (N := 59) (f := [(0, sv), (1, .string tok), (2, tv)]) Tryz.func18 rfl rfl rfl rfl fun Q hQ hE => ?_
  have hB := Below.refl w.heap.size w
  have hL0 := hL
  have h1m : xs.length ≤ maxLen := by have := h1.len; rwa [List.length_map] at this
  unfold maxLen at h1m
  have h3m : ts.length ≤ maxLen := by have := h3.len; rwa [List.length_map] at this
  unfold maxLen at h3m
  refine WC.seq fun K1 hK1 => ?_
  refine WC.region ?_
  refine WL.val (dx_assign rfl rfl) rfl rfl ?_
  refine WL.val (dx_assign rfl rfl) rfl rfl ?_
  refine WL.nil ?_
  refine hK1 ?_
  refine WC.seq fun K2 hK2 => ?_
  refine WC.region ?_
  refine WL.val (dx_move rfl rfl) rfl rfl ?_
  refine WL.val (dx_move rfl rfl) rfl rfl ?_
  refine WL.get (dx_cv rfl Tryz.func47 rfl rfl rfl (find_v xs tok _ w _ hL h1 h2 hM)) rfl rfl ?_
  rintro _ W4 ⟨rfl, b3⟩
  replace h1 := h1.below b3
  replace h2 := h2.below b3
  replace hM := hM.below b3
  replace h3 := h3.below b3
  replace hB := below_then hB b3
  replace hL := LL.below hL b3
  refine WL.val (dx_move rfl rfl) rfl rfl ?_
  refine WL.val (dx_extract rfl rfl rfl) rfl rfl ?_
  refine WL.val (dx_extract rfl rfl rfl) rfl rfl ?_
  refine WL.val (dx_assign rfl rfl) rfl rfl ?_
  refine WL.val (dx_assign rfl rfl) rfl rfl ?_
  refine WL.nil ?_
  refine hK2 ?_
  refine WC.seq fun K5 hK5 => ?_
  refine WC.seq fun K6 hK6 => ?_
  refine WC.region ?_
  refine WL.val (dx_move rfl rfl) rfl rfl ?_
  refine WL.val (dx_neq rfl rfl rfl) rfl rfl ?_
  refine WL.nil ?_
  refine hK6 ?_
  refine WC.cond rfl (fun c7 => ?_) (fun c7 => ?_)
  ·
    replace c7 := bnot_t c7
    replace c7 := of_decide_eq_false c7
    refine WC.seq fun K8 hK8 => ?_
    refine WC.region ?_
    refine WL.val (dx_move rfl rfl) rfl rfl ?_
    refine WL.val (dx_move rfl rfl) rfl rfl ?_
    refine WL.val (dx_assign rfl rfl) rfl rfl ?_
    refine WL.val (dx_assign rfl rfl) rfl rfl ?_
    refine WL.nil ?_
    refine hK8 ?_
    refine WC.ret fun a_ ha_ => ?_
    exact hQ (cv_ret2 rfl (.tmp rfl) (.tmp rfl) (by have he : agrE xs tok ts = (findU xs tok).2 := (by unfold agrE; rw [if_neg (by assumption)]); have hr : agrU xs tok ts undef = xs := (by unfold agrU; rw [if_neg (by rw [he]; first | assumption | decide)]); exact ⟨_, undef, (by first | (rw [he]; done) | (rw [he]; rfl)), by rw [hr]; exact (h1.less (fun x hx => hx)), by rw [hr]; exact (h2.less (fun x hx => hx))⟩) hB ha_)
  ·
    replace c7 := bnot_f c7
    replace c7 := of_decide_eq_true c7
    refine WC.skip ?_
    refine hK5 ?_
    refine WC.seq fun K9 hK9 => ?_
    refine WC.seq fun K10 hK10 => ?_
    obtain ⟨hr0, k0, u0, hk0, hu0, ht0, hn0⟩ := findU_ok (by first | assumption | exact Classical.not_not.1 (by assumption))
    have hl0 := (List.getElem?_eq_some_iff.1 hu0).1
    have hrl := right_len hr0
    have hagl := onceT_le (sortT (u0.2.2.2 ++ ts))
    rw [sortT_len, List.length_append] at hagl
    refine WC.region ?_
    refine WL.val (dx_move rfl rfl) rfl rfl ?_
    refine WL.val (dx_lenX rfl ty_slice_34 rfl h3) rfl rfl ?_
    refine WL.val (dx_move rfl rfl) rfl rfl ?_
    refine WL.nil ?_
    refine hK10 ?_
    refine WC.block ?_
    refine WC.loop (fun (i : Nat) => [(0, sv), (1, .string tok), (2, tv), (8, .int .i64 ((findU xs tok).1)), (24, tv), (25, .int .i64 (ts.length : Int)), (26, .int .i64 (i : Int))]) (fun (i : Nat) W => i ≤ ts.length ∧ (∀ k a, k < i → ts[k]? = some a → wordB a = true) ∧ Below w.heap.size w W ∧ LL (L) W ∧ RdF 3 (L) W sv (xs.map encU) ∧ AgU (L) W xs ∧ MaxL (L) W ∧ RdF 1 (L) W tv (ts.map encT)) (fun (i : Nat) => ts.length - i) 0 (by repeat first | exact trivial | exact And.intro rfl trivial | refine And.intro rfl ?_ | refine And.intro (congrArg (fun z : Int => some (Value.int .i64 z)) (by omega)) ?_) ⟨Nat.zero_le _, (fun k a hk => by omega), hB, hL, h1, h2, hM, h3⟩ ?_
    clear h1 h2 hM h3 hB hL
    rintro K11 i W12 ⟨hi, hv, hB, hL, h1, h2, hM, h3⟩ hK11
    refine WC.seq fun K13 hK13 => ?_
    refine WC.region ?_
    refine WL.val (dx_lss rfl rfl rfl) rfl rfl ?_
    refine WL.nil ?_
    refine hK13 ?_
    refine WC.seq fun K14 hK14 => ?_
    refine WC.cond rfl (fun c15 => ?_) (fun c15 => ?_)
    ·
      replace c15 := of_decide_eq_true c15
      refine WC.skip ?_
      refine hK14 ?_
      refine WC.seq fun K16 hK16 => ?_
      refine WC.block ?_
      refine WC.seq fun K17 hK17 => ?_
      refine WC.region ?_
      obtain ⟨r18, e19⟩ : ∃ x, ts[i]? = some x := ⟨_, List.getElem?_eq_getElem (by omega)⟩
      refine WL.get (dx_idxF i rfl ty_slice_34 rfl rfl h3 (by omega) (at_mapX e19)) rfl rfl ?_
      rintro u20 _ ⟨rfl, p21⟩
      refine WL.val (dx_loadP rfl ty_one_9 rfl p21) rfl rfl ?_
      refine WL.val (dx_assign rfl rfl) rfl rfl ?_
      refine WL.nil ?_
      refine hK17 ?_
      refine WC.seq fun K22 hK22 => ?_
      refine WC.region ?_
      refine WL.val (dx_move rfl rfl) rfl rfl ?_
      refine WL.get (dx_cv rfl Tryz.func36 rfl rfl rfl (word_v r18 W12 [] (LL.nil _))) rfl rfl ?_
      rintro _ W24 ⟨rfl, b23⟩
      replace h1 := h1.below b23
      replace h2 := h2.below b23
      replace hM := hM.below b23
      replace h3 := h3.below b23
      replace hB := below_then hB b23
      replace hL := LL.below hL b23
      refine WL.val (dx_not rfl rfl) rfl rfl ?_
      refine WL.nil ?_
      refine hK22 ?_
      refine WC.cond rfl (fun c25 => ?_) (fun c25 => ?_)
      ·
        replace c25 := bnot_t c25
        refine WC.seq fun K26 hK26 => ?_
        refine WC.region ?_
        refine WL.val (dx_move rfl rfl) rfl rfl ?_
        refine WL.val (dx_assign rfl rfl) rfl rfl ?_
        refine WL.val (dx_assign rfl rfl) rfl rfl ?_
        refine WL.nil ?_
        refine hK26 ?_
        refine WC.ret fun a_ ha_ => ?_
        exact hQ (cv_ret2 rfl (.tmp rfl) (.tmp rfl) (by have he : agrE xs tok ts = 1 := (by unfold agrE; rw [if_pos (by assumption), if_neg (by rw [show ts.all wordB = false from List.all_eq_false.2 ⟨_, List.mem_of_getElem? e19, by simp [*]⟩]; decide)]); have hr : agrU xs tok ts undef = xs := (by unfold agrU; rw [if_neg (by rw [he]; first | assumption | decide)]); exact ⟨_, undef, (by first | (rw [he]; done) | (rw [he]; rfl)), by rw [hr]; exact (h1.less (fun x hx => hx)), by rw [hr]; exact (h2.less (fun x hx => hx))⟩) hB ha_)
      ·
        replace c25 := bnot_f c25
        refine WC.skip ?_
        refine hK16 ?_
        refine WC.region ?_
        refine WL.val (dx_add (r := (i : Int) + 1) rfl rfl rfl (wrap64_id (by omega))) rfl rfl ?_
        refine WL.val (dx_move rfl rfl) rfl rfl ?_
        refine WL.nil ?_
        exact hK11 (i + 1) ⟨(by omega), (good_step hv e19 (by assumption)), hB, hL, h1, h2, hM, h3⟩ (by omega) (by repeat first | exact trivial | exact And.intro rfl trivial | refine And.intro rfl ?_ | refine And.intro (congrArg (fun z : Int => some (Value.int .i64 z)) (by omega)) ?_)
    ·
      replace c15 := of_decide_eq_false c15
      refine WC.exit ?_
      refine hK9 ?_
      refine WC.seq fun K27 hK27 => ?_
      refine WC.region ?_
      refine WL.val (dx_move rfl rfl) rfl rfl ?_
      refine WL.val (dx_move rfl rfl) rfl rfl ?_
      refine WL.get (dx_idxF k0 rfl ty_slice_22 rfl rfl h1 (by omega) (at_mapX hu0)) rfl rfl ?_
      rintro u28 _ ⟨rfl, p29⟩
      refine WL.get (dx_fldP 1 rfl ty_fld_54_2_2 rfl p29 (cs' := [u0.2.2.1]) rfl (Nat.succ_pos _)) rfl rfl ?_
      rintro u30 _ ⟨rfl, p31⟩
      refine WL.val (dx_loadP rfl ty_one_34 rfl p31) rfl rfl ?_
      refine WL.val (dx_move rfl rfl) rfl rfl ?_
      have hall : ts.all wordB = true := List.all_eq_true.2 (fun t ht => by obtain ⟨k, hk, rfl⟩ := List.getElem_of_mem ht; exact hv k _ (by omega) (List.getElem?_eq_getElem hk))
      have hts1 := hts
      have hra := (h2 u0 (List.mem_of_getElem? hu0))
      have hrl2 := hra.len
      rw [List.length_map] at hrl2
      have hg0 : goodU u0 = true := (by have := hr0; unfold rightU rightL at this; simp only [Bool.and_eq_true, List.all_eq_true] at this; exact this.2.1 u0 (List.mem_of_getElem? hu0))
      have h40 : u0.2.2.2.length ≤ 4 := (by unfold goodU at hg0; simp only [Bool.and_eq_true] at hg0; exact right_len hg0.2.2)
      refine WL.get (dx_lit2 rfl ty_ap_86 rfl rfl (oc_one hra.one) (oc_one h3.one)) rfl rfl ?_
      rintro u36 W32 ⟨k33, b34, z35⟩
      replace h1 := h1.below b34
      replace h2 := h2.below b34
      replace hM := hM.below b34
      replace h3 := h3.below b34
      replace p29 := p29.below b34
      replace p31 := p31.below b34
      replace hB := below_then hB b34
      replace hL := LL.below hL b34
      have hra := (h2 u0 (List.mem_of_getElem? hu0))
      have zh1 := h1
      have zh2 := h2
      have zhM := hM
      have zh3 := h3
      have zp29 := p29
      have zp31 := p31
      have zhB := hB
      have zhL := hL
      refine WL.get (dx_cv rfl Tryz.func50 rfl rfl rfl (concat_v [(u0.2.2.1, u0.2.2.2), (tv, ts)] _ W32 [] (LL.nil _) (k33.rd (L := []) (by simp)) (AgP.two hra h3) (by simp [sumT]; omega))) rfl rfl ?_
      rintro u37 W38 ⟨k39, b40⟩
      rw [show catT [(u0.2.2.1, u0.2.2.2), (tv, ts)] = u0.2.2.2 ++ ts by simp [catT]] at k39
      have k39b := b40
      replace h1 := h1.below b40
      replace h2 := h2.below b40
      replace hM := hM.below b40
      replace h3 := h3.below b40
      replace p29 := p29.below b40
      replace p31 := p31.below b40
      replace hB := below_then hB b40
      replace hL := LL.below hL b40
      refine WL.val (dx_assign rfl rfl) rfl rfl ?_
      refine WL.nil ?_
      refine hK27 ?_
      refine WC.seq fun K41 hK41 => ?_
      refine WC.region ?_
      refine WL.val (dx_move rfl rfl) rfl rfl ?_
      refine WL.get (dx_callA rfl Tryz.func51 rfl rfl rfl (sort_v k39 k39b.size (by rw [List.length_append]; omega))) rfl rfl ?_
      rintro x42 W43 ⟨k44, b45⟩
      have b46 := k39b.trans b45
      replace h1 := zh1
      replace h2 := zh2
      replace hM := zhM
      replace h3 := zh3
      replace p29 := zp29
      replace p31 := zp31
      replace hB := zhB
      replace hL := zhL
      replace h1 := h1.below b46
      replace h2 := h2.below b46
      replace hM := hM.below b46
      replace h3 := h3.below b46
      replace hB := below_then hB b46
      replace hL := LL.below hL b46
      refine WL.nil ?_
      refine hK41 ?_
      refine WC.seq fun K47 hK47 => ?_
      refine WC.region ?_
      refine WL.val (dx_move rfl rfl) rfl rfl ?_
      refine WL.get (dx_callA rfl Tryz.func52 rfl rfl rfl (once_v k44 b46.size (by rw [sortT_len, List.length_append]; omega))) rfl rfl ?_
      rintro x48 W49 ⟨k50, b51⟩
      have b52 := b46.trans b51
      replace h1 := zh1
      replace h2 := zh2
      replace hM := zhM
      replace h3 := zh3
      replace p29 := zp29
      replace p31 := zp31
      replace hB := zhB
      replace hL := zhL
      replace h1 := h1.below b52
      replace h2 := h2.below b52
      replace hM := hM.below b52
      replace h3 := h3.below b52
      replace hB := below_then hB b52
      replace hL := LL.below hL b52
      have ha := k50.rd zhL
      replace ha : RdF 1 (L) W49 x48 ((agL u0.2.2.2 ts).map encT) := ha
      refine WL.val (dx_assign rfl rfl) rfl rfl ?_
      refine WL.nil ?_
      refine hK47 ?_
      refine WC.seq fun K53 hK53 => ?_
      refine WC.seq fun K54 hK54 => ?_
      refine WC.region ?_
      refine WL.val (dx_move rfl rfl) rfl rfl ?_
      refine WL.val (dx_lenX rfl ty_slice_34 rfl ha) rfl rfl ?_
      refine WL.val (dx_gtr rfl rfl rfl) rfl rfl ?_
      refine WL.nil ?_
      refine hK54 ?_
      refine WC.cond rfl (fun c55 => ?_) (fun c55 => ?_)
      ·
        replace c55 := of_decide_eq_true c55
        refine WC.seq fun K56 hK56 => ?_
        refine WC.region ?_
        refine WL.val (dx_move rfl rfl) rfl rfl ?_
        refine WL.val (dx_assign rfl rfl) rfl rfl ?_
        refine WL.val (dx_assign rfl rfl) rfl rfl ?_
        refine WL.nil ?_
        refine hK56 ?_
        refine WC.ret fun a_ ha_ => ?_
        exact hQ (cv_ret2 rfl (.tmp rfl) (.tmp rfl) (by have he : agrE xs tok ts = 10 := (by unfold agrE; rw [if_pos (by assumption), if_pos hall, hk0, Int.toNat_natCast, hu0]; exact if_pos (by assumption)); have hr : agrU xs tok ts undef = xs := (by unfold agrU; rw [if_neg (by rw [he]; first | assumption | decide)]); exact ⟨_, undef, (by first | (rw [he]; done) | (rw [he]; rfl)), by rw [hr]; exact (h1.less (fun x hx => hx)), by rw [hr]; exact (h2.less (fun x hx => hx))⟩) hB ha_)
      ·
        replace c55 := of_decide_eq_false c55
        refine WC.skip ?_
        refine hK53 ?_
        refine WC.seq fun K57 hK57 => ?_
        refine WC.region ?_
        refine WL.val (dx_move rfl rfl) rfl rfl ?_
        refine WL.get (dx_cv rfl Tryz.func43 rfl rfl rfl (cloneSUser_v _ _ W49 _ hL h1 h2.oc (by rw [List.length_map]; omega))) rfl rfl ?_
        rintro u58 W59 ⟨p60, b61⟩
        obtain ⟨B62, q63, k64⟩ := p60.own (fun e => by have := congrArg List.length e; rw [List.length_map, List.length_nil] at this; omega)
        have l65 := Nat.le_trans hB.size q63
        replace h1 := h1.more b61 q63
        replace h2 := h2.more b61 q63
        replace hM := hM.more b61 q63
        replace h3 := h3.more b61 q63
        replace ha := ha.more b61 q63
        replace hB := below_then hB b61
        replace hL := LL.cons (LL.below hL b61) k64.lt
        refine WL.val (dx_assign rfl rfl) rfl rfl ?_
        refine WL.nil ?_
        refine hK57 ?_
        refine WC.seq fun K66 hK66 => ?_
        refine WC.region ?_
        refine WL.val (dx_move rfl rfl) rfl rfl ?_
        refine WL.val (dx_move rfl rfl) rfl rfl ?_
        refine WL.val (dx_move rfl rfl) rfl rfl ?_
        refine WL.val (dx_idxO k0 rfl ty_slice_22 rfl rfl k64 (by omega) (by rw [List.length_map]; omega) rfl) rfl rfl ?_
        refine WL.val (dx_fld (o1 := k0 * 3 + 2) rfl ty_fld_54_2_2 rfl rfl) rfl rfl ?_
        refine WL.do (dx_storeF (k := k0) (j := 2) (r := encU u0) rfl ty_size_34_1 rfl rfl (oc_one ha.one) ha.one k64 rfl (by rw [List.getElem?_map, hu0]; rfl) (by decide)) rfl ?_
        rintro _ W67 ⟨k69, o68⟩
        clear k64
        replace h1 := h1.only o68 (.head _)
        replace h2 := h2.only o68 (.head _)
        replace hM := hM.only o68 (.head _)
        replace h3 := h3.only o68 (.head _)
        replace ha := ha.only o68 (.head _)
        replace hB := o68.below hB l65
        replace hL := LL.only hL o68
        rw [agr_rows xs k0 u0 x48 (agL u0.2.2.2 ts)] at k69
        refine WL.nil ?_
        refine hK66 ?_
        refine WC.seq fun K70 hK70 => ?_
        refine WC.region ?_
        refine WL.val (dx_move rfl rfl) rfl rfl ?_
        refine WL.val (dx_assign rfl rfl) rfl rfl ?_
        refine WL.val (dx_assign rfl rfl) rfl rfl ?_
        refine WL.nil ?_
        refine hK70 ?_
        refine WC.ret fun a_ ha_ => ?_
        exact hQ (cv_ret2 rfl (.tmp rfl) (.tmp rfl) (by have he : agrE xs tok ts = 0 := (by unfold agrE; rw [if_pos (by assumption), if_pos hall, hk0, Int.toNat_natCast, hu0]; exact if_neg (by assumption)); have hr : agrU xs tok ts x48 = xs.set k0 (u0.1, u0.2.1, x48, agL u0.2.2.2 ts) := (by unfold agrU; rw [if_pos he, hk0, Int.toNat_natCast, hu0]); exact ⟨_, x48, by rw [he], by rw [hr]; exact k69.notin hL0 l65, by rw [hr]; exact ((h2.less (fun x hx => (.tail _ hx)))).set _ _ _ (ha.less (fun x hx => (.tail _ hx)))⟩) hB ha_)

end Go.Proofs.YthefddclefimoaaGreatDoor
namespace Go.Proofs.YthefddclefimoaaGreatDoor
open Go.RowKit
set_option linter.unusedVariables false
theorem find_idx {α : Type} {p : α → Bool} (xs : List α) : (idxX p xs 0 < 0 ∧ xs.find? p = none) ∨ ∃ k a, idxX p xs 0 = (k : Nat) ∧ xs[k]? = some a ∧ xs.find? p = some a := by
  rcases Int.lt_or_le (idxX p xs 0) 0 with h | h
  · exact .inl ⟨h, List.find?_eq_none.2 fun x hx => by simp [idxX_no xs 0 (by omega) h x hx]⟩
  · obtain ⟨k, a, h1, h2, h3, h4⟩ := idxX_is xs 0 (by omega) h
    refine .inr ⟨k, a, by rw [h1]; simp, h2, ?_⟩
    obtain ⟨hk, rfl⟩ := List.getElem?_eq_some_iff.1 h2
    refine List.find?_eq_some_iff_getElem.2 ⟨h3, k, hk, rfl, fun j hj => ?_⟩
    simp [h4 j xs[j] hj (List.getElem?_eq_getElem (by omega))]
/-- What is told of a token: whose, and what was agreed to. -/
def viewU (xs : List UserX) (tok : ByteArray) : Option (ByteArray × List ByteArray) := (xs.find? (tokP tok)).map fun u => (u.2.1, u.2.2.2)
def whoV : Option (ByteArray × List ByteArray) → ByteArray × Int
  | some p => (p.1, 0)
  | none => (⟨#[]⟩, 14)
def agdV (ts : List ByteArray) : Option (ByteArray × List ByteArray) → Int
  | some p => if ts.any (lacks p.2) = true then 13 else 0
  | none => 14
theorem whoU_view (xs : List UserX) (tok : ByteArray) : whoU xs tok = if rightU xs = true then whoV (viewU xs tok) else (⟨#[]⟩, 1) := by
  unfold whoU findU viewU
  by_cases hr : rightU xs = true
  · simp only [if_pos hr]
    rcases find_idx (p := tokP tok) xs with ⟨h1, h2⟩ | ⟨k, a, h1, h2, h3⟩
    · simp only [if_pos h1, h2]; rfl
    · have hk : ¬ ((k : Nat) : Int) < 0 := by omega
      simp only [h1, if_neg hk, h3, Int.toNat_natCast, h2]; rfl
  · simp only [if_neg hr]; rfl
theorem agdU_view (xs : List UserX) (tok : ByteArray) (ts : List ByteArray) : agdU xs tok ts = if rightU xs = true then agdV ts (viewU xs tok) else 1 := by
  unfold agdU findU viewU
  by_cases hr : rightU xs = true
  · simp only [if_pos hr]
    rcases find_idx (p := tokP tok) xs with ⟨h1, h2⟩ | ⟨k, a, h1, h2, h3⟩
    · simp only [if_pos h1, h2]; rfl
    · have hk : ¬ ((k : Nat) : Int) < 0 := by omega
      simp only [h1, if_neg hk, h3, Int.toNat_natCast, h2]; rfl
  · simp only [if_neg hr]; rfl
theorem same_view {xs ys : List UserX} {tok : ByteArray} (hr : rightU ys = rightU xs) (hv : viewU ys tok = viewU xs tok) (ts : List ByteArray) : whoU ys tok = whoU xs tok ∧ agdU ys tok ts = agdU xs tok ts := by
  rw [whoU_view, whoU_view, agdU_view, agdU_view, hr, hv]
  exact ⟨rfl, rfl⟩
abbrev ltU (a b : UserX) : Bool := sless a.1 b.1
theorem rightU_iff (xs : List UserX) : rightU xs = true ↔ xs.length ≤ 16 ∧ (∀ x ∈ xs, goodU x = true) ∧ xs.Pairwise (fun a b => ltU a b = true) := right_iff (r := ltU) (g := goodU) (n := 16) fun a b c h g => sless_trans _ _ _ h g
theorem split_at {α : Type} {xs : List α} {k : Nat} {u : α} (h : xs[k]? = some u) : xs = xs.take k ++ u :: xs.drop (k + 1) := by
  obtain ⟨hk, rfl⟩ := List.getElem?_eq_some_iff.1 h
  rw [List.getElem_cons_drop hk, List.take_append_drop]
theorem set_at {α : Type} {xs : List α} {k : Nat} {u y : α} (h : xs[k]? = some u) : xs.set k y = xs.take k ++ y :: xs.drop (k + 1) := by
  obtain ⟨hk, _⟩ := List.getElem?_eq_some_iff.1 h
  rw [List.set_eq_take_append_cons_drop, if_pos hk]
theorem view_mid {l r : List UserX} {u : UserX} {tok : ByteArray} (h : u.1 ≠ tok) : viewU (l ++ u :: r) tok = viewU (l ++ r) tok := by
  unfold viewU
  rw [List.find?_append, List.find?_append, List.find?_cons, show tokP tok u = false by simpa using h]
/-- The place of a token in a right list, split. -/
theorem found_at {xs : List UserX} {tok : ByteArray} (h : (findU xs tok).2 = 0) : ∃ k u, (findU xs tok).1 = (k : Nat) ∧ xs[k]? = some u ∧ u.1 = tok ∧ rightU xs = true := by
  obtain ⟨hr, k, u, h1, h2, h3, _⟩ := findU_ok h
  exact ⟨k, u, h1, h2, h3, hr⟩
-- going
theorem log_right {xs : List UserX} {tok : ByteArray} : rightU (logU xs tok) = rightU xs := by
  unfold logU
  split
  · rename_i h
    obtain ⟨k, u, h1, h2, h3, hr⟩ := found_at h
    rw [h1, Int.toNat_natCast, hr]
    obtain ⟨a, b, c⟩ := (rightU_iff xs).1 hr
    have hs : (xs.take k ++ xs.drop (k + 1)).Sublist xs := by
      have := List.eraseIdx_sublist xs k
      rwa [List.eraseIdx_eq_take_drop_succ] at this
    exact (rightU_iff _).2 ⟨Nat.le_trans hs.length_le a, fun x hx => b x (hs.subset hx), c.sublist hs⟩
  · rfl
theorem log_view {xs : List UserX} {tok two : ByteArray} (hne : tok ≠ two) : viewU (logU xs tok) two = viewU xs two := by
  unfold logU
  split
  · rename_i h
    obtain ⟨k, u, h1, h2, h3, hr⟩ := found_at h
    rw [h1, Int.toNat_natCast]
    conv => rhs; rw [split_at h2]
    rw [view_mid (by rw [h3]; exact hne)]
  · rfl
-- agreeing
theorem agL_right {a ts : List ByteArray} (ha : a.all wordB = true) (ht : ts.all wordB = true) (hl : ¬ 4 < ((agL a ts).length : Int)) : risingB (agL a ts) = true := by
  refine (right_iff (r := sless) (g := wordB) (n := 4) fun a b c h g => sless_trans _ _ _ h g).2 ⟨by omega, fun x hx => ?_, onceT_up (sortT_le _)⟩
  unfold agL at hx
  rw [onceT_mem, sortT_mem] at hx
  rcases List.mem_append.1 hx with h | h
  · exact List.all_eq_true.1 ha x h
  · exact List.all_eq_true.1 ht x h
theorem rising_words {a : List ByteArray} (h : risingB a = true) : a.all wordB = true := by
  unfold risingB rightL at h
  simp only [Bool.and_eq_true] at h
  exact h.2.1
theorem goodU_iff (u : UserX) : goodU u = true ↔ wordB u.1 = true ∧ userB u.2.1 = true ∧ risingB u.2.2.2 = true := by
  unfold goodU
  simp only [Bool.and_eq_true]
theorem agr_cases (xs : List UserX) (tok : ByteArray) (ts : List ByteArray) (v : Value) : agrU xs tok ts v = xs ∨ ∃ k u, xs[k]? = some u ∧ u.1 = tok ∧ rightU xs = true ∧ ts.all wordB = true ∧ ¬ 4 < ((agL u.2.2.2 ts).length : Int) ∧ agrU xs tok ts v = xs.set k (u.1, u.2.1, v, agL u.2.2.2 ts) := by
  unfold agrU
  split
  · rename_i he
    unfold agrE at he
    split at he
    · rename_i hf
      split at he
      · rename_i hw
        obtain ⟨k, u, h1, h2, h3, hr⟩ := found_at hf
        rw [h1, Int.toNat_natCast, h2] at he ⊢
        simp only [Option.map_some, Option.getD_some] at he
        split at he
        · cases he
        · rename_i hl
          exact .inr ⟨k, u, h2, h3, hr, hw, hl, rfl⟩
      · cases he
    · exact absurd he (by assumption)
  · exact .inl rfl
theorem agr_right {xs : List UserX} {tok : ByteArray} {ts : List ByteArray} {v : Value} : rightU (agrU xs tok ts v) = rightU xs := by
  rcases agr_cases xs tok ts v with h | ⟨k, u, h2, h3, hr, hw, hl, h⟩
  · rw [h]
  · rw [h, hr]
    obtain ⟨a, b, c⟩ := (rightU_iff xs).1 hr
    have hg := (goodU_iff u).1 (b u (List.mem_of_getElem? h2))
    refine (rightU_iff _).2 ⟨by rw [List.length_set]; exact a, fun x hx => ?_, ?_⟩
    · rcases List.mem_or_eq_of_mem_set hx with hx | rfl
      · exact b x hx
      · exact (goodU_iff _).2 ⟨hg.1, hg.2.1, agL_right (rising_words hg.2.2) hw hl⟩
    · have e : (xs.set k (u.1, u.2.1, v, agL u.2.2.2 ts)).map (·.1) = xs.map (·.1) := by
        rw [List.map_set]
        refine List.ext_getElem? fun j => ?_
        rw [List.getElem?_set]
        split
        · rename_i hj
          subst hj
          split
          · rw [List.getElem?_map, h2]; rfl
          · rw [List.getElem?_eq_none (by omega)]
        · rfl
      have c' : (xs.map (·.1)).Pairwise (fun a b => sless a b = true) := List.pairwise_map.2 c
      rw [← e] at c'
      exact List.pairwise_map.1 c'
theorem agr_view {xs : List UserX} {tok two : ByteArray} {ts : List ByteArray} {v : Value} (hne : tok ≠ two) : viewU (agrU xs tok ts v) two = viewU xs two := by
  rcases agr_cases xs tok ts v with h | ⟨k, u, h2, h3, hr, hw, hl, h⟩
  · rw [h]
  · rw [h, set_at h2, view_mid (by show u.1 ≠ two; rw [h3]; exact hne)]
    conv => rhs; rw [split_at h2]
    rw [view_mid (by rw [h3]; exact hne)]
-- coming
theorem reg_ok {xs : List UserX} {tok mx : ByteArray} (h : regE xs tok mx = 0) : rightU xs = true ∧ wordB tok = true ∧ userB mx = true ∧ xs.any (tokP tok) = false ∧ xs.length ≠ 16 := by
  unfold regE at h
  split at h
  · rename_i h1
    split at h
    · cases h
    · rename_i h2
      split at h
      · cases h
      · rename_i h3
        exact ⟨h1.1, h1.2.1, h1.2.2, Bool.eq_false_iff.2 h2, by omega⟩
  · cases h
theorem gt_or {tok : ByteArray} {u : UserX} (h : u.1 ≠ tok) : (gtP tok u = true ∧ sless tok u.1 = true) ∨ (gtP tok u = false ∧ sless u.1 tok = true) := by
  unfold gtP
  rcases sless_tri u.1 tok with ⟨p, q, r⟩ | ⟨p, q, r⟩ | p
  · exact .inr ⟨by simp [p], p⟩
  · exact .inl ⟨by simp [p, r], q⟩
  · exact absurd p h
theorem reg_right {xs : List UserX} {tok mx : ByteArray} : rightU (regU xs tok mx) = rightU xs := by
  unfold regU
  split
  · rename_i he
    obtain ⟨hr, hw, hu, ha, h16⟩ := reg_ok he
    rw [hr]
    obtain ⟨a, b, c⟩ := (rightU_iff xs).1 hr
    have hno : ∀ u ∈ xs, u.1 ≠ tok := fun u hu' => by simpa using List.any_eq_false.1 ha u hu'
    have hra := regAt_le xs tok
    have hlo : ∀ u ∈ xs.take (regAt xs tok), sless u.1 tok = true := fun u hu' => by
      obtain ⟨j, hj, rfl⟩ := List.getElem_of_mem hu'
      rw [List.length_take] at hj
      rw [List.getElem_take]
      have hn := hno xs[j] (List.getElem_mem _)
      rcases gt_or hn with ⟨g, _⟩ | ⟨_, g⟩
      · exfalso
        rcases Int.lt_or_le (idxX (gtP tok) xs 0) 0 with h | h
        · have := idxX_no xs 0 (by omega) h xs[j] (List.getElem_mem _)
          rw [g] at this; cases this
        · obtain ⟨k, x, h1, h2, h3, h4⟩ := idxX_is xs 0 (by omega) h
          have hk : regAt xs tok = k := by unfold regAt; rw [if_neg (by omega), h1]; simp
          have := h4 j xs[j] (by omega) (List.getElem?_eq_getElem (by omega))
          rw [g] at this; cases this
      · exact g
    have hhi : ∀ u ∈ xs.drop (regAt xs tok), sless tok u.1 = true := fun u hu' => by
      obtain ⟨j, hj, rfl⟩ := List.getElem_of_mem hu'
      rw [List.length_drop] at hj
      rw [List.getElem_drop]
      rcases Int.lt_or_le (idxX (gtP tok) xs 0) 0 with h | h
      · have hk : regAt xs tok = xs.length := by unfold regAt; rw [if_pos h]
        omega
      · obtain ⟨k, x, h1, h2, h3, h4⟩ := idxX_is xs 0 (by omega) h
        have hk : regAt xs tok = k := by unfold regAt; rw [if_neg (by omega), h1]; simp
        obtain ⟨hkl, rfl⟩ := List.getElem?_eq_some_iff.1 h2
        have hx : sless tok xs[k].1 = true := by
          rcases gt_or (hno xs[k] (List.getElem_mem _)) with ⟨_, g⟩ | ⟨g, _⟩
          · exact g
          · rw [g] at h3; cases h3
        by_cases hj0 : j = 0
        · subst hj0
          simpa [hk] using hx
        · have := List.pairwise_iff_getElem.1 c k (regAt xs tok + j) hkl (by omega) (by omega)
          exact sless_trans _ _ _ hx this
    refine (rightU_iff _).2 ⟨by rw [List.length_append, List.length_cons, List.length_take, List.length_drop]; omega, fun x hx => ?_, ?_⟩
    · rcases List.mem_append.1 hx with hx | hx
      · exact b x (List.mem_of_mem_take hx)
      · rcases List.mem_cons.1 hx with rfl | hx
        · exact (goodU_iff _).2 ⟨hw, hu, rfl⟩
        · exact b x (List.mem_of_mem_drop hx)
    · refine List.pairwise_append.2 ⟨c.sublist (List.take_sublist _ _), List.pairwise_cons.2 ⟨fun y hy => hhi y hy, c.sublist (List.drop_sublist _ _)⟩, fun x hx y hy => ?_⟩
      rcases List.mem_cons.1 hy with rfl | hy
      · exact hlo x hx
      · exact sless_trans _ _ _ (hlo x hx) (hhi y hy)
  · rfl
theorem reg_view {xs : List UserX} {tok mx two : ByteArray} (hne : tok ≠ two) : viewU (regU xs tok mx) two = viewU xs two := by
  unfold regU
  split
  · rw [view_mid (by exact hne), List.take_append_drop]
  · rfl
-- who goes, and comes again
theorem who_find (xs : List UserX) (tok : ByteArray) : (whoU xs tok).2 = (findU xs tok).2 := by
  unfold whoU
  split
  · rename_i h; exact h.symm
  · rfl
theorem goes {xs : List UserX} {tok : ByteArray} (h : (findU xs tok).2 = 0) : (whoU (logU xs tok) tok).2 = 14 ∧ regE (logU xs tok) tok (whoU xs tok).1 = 0 ∧ whoU (regU (logU xs tok) tok (whoU xs tok).1) tok = ((whoU xs tok).1, 0) ∧ (regU (logU xs tok) tok (whoU xs tok).1).length = xs.length := by
  obtain ⟨k, u, h1, h2, h3, hr⟩ := found_at h
  obtain ⟨a, b, c⟩ := (rightU_iff xs).1 hr
  have hl : logU xs tok = xs.take k ++ xs.drop (k + 1) := by unfold logU; rw [if_pos h, h1, Int.toNat_natCast]
  have hw : (whoU xs tok).1 = u.2.1 := by unfold whoU; rw [if_pos h, h1, Int.toNat_natCast, h2]; rfl
  have hg := (goodU_iff u).1 (b u (List.mem_of_getElem? h2))
  have hlr : rightU (logU xs tok) = true := by rw [log_right]; exact hr
  obtain ⟨hk, hku⟩ := List.getElem?_eq_some_iff.1 h2
  have hno : ∀ y ∈ logU xs tok, y.1 ≠ tok := fun y hy => by
    rw [hl] at hy
    have hp := c
    rw [split_at h2] at hp
    obtain ⟨_, p2, p3⟩ := List.pairwise_append.1 hp
    rcases List.mem_append.1 hy with hy | hy
    · have := sless_ne (p3 y hy u (.head _)); rw [h3] at this; exact this
    · have := sless_ne ((List.pairwise_cons.1 p2).1 y hy); rw [h3] at this; exact this.symm
  have hany : (logU xs tok).any (tokP tok) = false := List.any_eq_false.2 fun y hy => by simpa using hno y hy
  have hlen : (logU xs tok).length + 1 = xs.length := by rw [hl, List.length_append, List.length_take, List.length_drop]; omega
  have hv : viewU (logU xs tok) tok = none := by
    unfold viewU
    rw [List.find?_eq_none.2 fun y hy => by simpa using hno y hy]
    rfl
  have he : regE (logU xs tok) tok (whoU xs tok).1 = 0 := by
    unfold regE
    rw [if_pos ⟨hlr, by rw [← h3]; exact hg.1, by rw [hw]; exact hg.2.1⟩, if_neg (by rw [hany]; decide), if_neg (by omega)]
  have hrg : regU (logU xs tok) tok (whoU xs tok).1 = (logU xs tok).take (regAt (logU xs tok) tok) ++ (newU tok (whoU xs tok).1 :: (logU xs tok).drop (regAt (logU xs tok) tok)) := by unfold regU; rw [if_pos he]
  refine ⟨by rw [whoU_view, if_pos hlr, hv]; rfl, he, ?_, ?_⟩
  · rw [whoU_view, if_pos (by rw [reg_right]; exact hlr)]
    have hv2 : viewU (regU (logU xs tok) tok (whoU xs tok).1) tok = some ((whoU xs tok).1, []) := by
      rw [hrg]
      unfold viewU
      rw [List.find?_append, List.find?_eq_none.2 fun y hy => by simpa using hno y (List.mem_of_mem_take hy), List.find?_cons, show tokP tok (newU tok (whoU xs tok).1) = true by simp [newU]]
      rfl
    rw [hv2]; rfl
  · have := regAt_le (logU xs tok) tok
    rw [hrg, List.length_append, List.length_cons, List.length_take, List.length_drop]
    omega
end Go.Proofs.YthefddclefimoaaGreatDoor
namespace Go.Proofs.YthefddclefimoaaGreatDoor
open Go.RowKit
set_option linter.unusedVariables false
set_option linter.unusedSimpArgs false
def arr3B (P : Program) (t : TypeId) : Bool := match P.info? t, P.underlying t with
  | some it, some (.array n e) => match it.zero, P.info? e with
    | some z, some ie => ie.size == 1 && z.cells.size == 3 && n == 3 && oneB P e
    | _, _ => false
  | _, _ => false
theorem built3 {P : Program} {t : TypeId} {a b c : Value} (h : arr3B P t = true) (ha : a.oneCell' = true) (hb : b.oneCell' = true) (hc : c.oneCell' = true) : P.built t [(0, a), (1, b), (2, c)] = some [a, b, c].toArray := by
  have ha := Array.ext' (oc_one ha) (ys := #[a])
  have hb := Array.ext' (oc_one hb) (ys := #[b])
  have hc := Array.ext' (oc_one hc) (ys := #[c])
  unfold arr3B at h
  unfold Program.built
  split at h
  · rename_i it n e h1 h2
    rw [h1, h2]
    simp only
    split at h
    · rename_i z ie h3 h4
      rw [h3, h4]
      simp only [Bool.and_eq_true, beq_iff_eq] at h
      obtain ⟨⟨⟨h5, h6⟩, _⟩, _⟩ := h
      simp only [h5]
      obtain ⟨l, hl⟩ : ∃ l, z.cells = l := ⟨_, rfl⟩
      rw [hl] at h6 ⊢
      obtain ⟨l⟩ := l
      match l, h6 with
      | [x, y, u], _ => simp [Instr.fill, ha, hb, hc]
    · cases h
  · cases h
section
variable {P : Program} {ops : Array Oper} {o : Oper} {N : Nat} {f : Fl} {w : World}
theorem dv_F {p : Prop} [Decidable p] (h : DV P ops o N f w (.bool (!decide p))) (hp : p) : DV P ops o N f w (.bool false) := by rw [decide_eq_true hp] at h; exact h
theorem dx_ixA {t : TypeId} {x y : Operand} {a b c v : Value} {K : IntKind} {i : Int} (k : Nat) (ho : o.op = .index t x y) (ht : arr3B P t = true) (hx : ev f x = some (.agg [a, b, c].toArray)) (hy : ev f y = some (.int K i)) (hi : i = (k : Int)) (hv : [a, b, c][k]? = some v) (hw : wantF ops o f = some true := by rfl) : DV P ops o N f w v := fun q hq => by
  subst hi
  have hx := hq.ev hx
  have hy := hq.ev hy
  unfold arr3B at ht
  split at ht
  · rename_i it n e h1 h2
    split at ht
    · rename_i z ie h3 h4
      simp only [Bool.and_eq_true, beq_iff_eq] at ht
      obtain ⟨⟨⟨h5, h6⟩, rfl⟩, h7⟩ := ht
      obtain ⟨d, hu, hd, _⟩ := of_oneB h7
      have hagg : (isAgg e).run P w = .ok false w := by
        unfold isAgg
        rw [Sem.run_bind, run_underlying hu w]
        cases d <;> simp_all
      have hlt : k < 3 := by have := (List.getElem?_eq_some_iff.1 hv).1; simpa using this
      refine Does.pure (wantF_of hq hw) _ ?_ ⟨rfl, rfl⟩
      have g1 : (0 : Int) ≤ (k : Int) := by omega
      have g2 : (k : Int) < 3 := by omega
      unfold execOp
      simp only [ho, hx, hy, Instr.index, asIntOf, Sem.run_bind, Sem.run_pure, Result.andThen_ok, run_underlying h2]
      simp [g1, g2, sizeOf, typeInfo, h4, h5, part, Sem.run_bind, hagg]
      have : ([a, b, c].toArray)[k]? = some v := by simpa using hv
      match k, hlt, hv with
      | 0, _, hv => simp at hv; simp [hv]
      | 1, _, hv => simp at hv; simp [hv]
      | 2, _, hv => simp at hv; simp [hv]
    · cases ht
  · cases ht
end
end Go.Proofs.YthefddclefimoaaGreatDoor
namespace Go.Proofs.YthefddclefimoaaGreatDoor
open Go.RowKit
set_option linter.unusedVariables false
set_option linter.unusedSimpArgs false
set_option maxRecDepth 8000

theorem who_as {xs ys : List UserX} {tok : ByteArray} {sv : Value} {w : World} {L : List Nat} (hr : rightU ys = rightU xs) (hv : viewU ys tok = viewU xs tok) (hL : LL L w) (h1 : RdF 3 L w sv (ys.map encU)) (h2 : AgU L w ys) (hM : MaxL L w) : CV Tryz.prog 13 [sv, .string tok] w fun v W => v = .tuple #[.string (whoU xs tok).1, .int .i64 (whoU xs tok).2] := by
  rw [← (same_view hr hv []).1]
  exact whose_v ys tok sv w L hL h1 h2 hM
theorem agd_as {xs ys : List UserX} {tok : ByteArray} {ts : List ByteArray} {sv tv : Value} {w : World} {L : List Nat} (hr : rightU ys = rightU xs) (hv : viewU ys tok = viewU xs tok) (hL : LL L w) (h1 : RdF 3 L w sv (ys.map encU)) (h2 : AgU L w ys) (hM : MaxL L w) (h3 : RdF 1 L w tv (ts.map encT)) : CV Tryz.prog 20 [sv, .string tok, tv] w fun v W => v = .int .i64 (agdU xs tok ts) := by
  rw [← (same_view hr hv ts).2]
  exact agreed_v ys tok ts sv tv w L hL h1 h2 hM h3
-- the fixed fact
abbrev tT : ByteArray := { data := #[116] }
abbrev mA : ByteArray := { data := #[64, 97, 58, 104] }
abbrev pV : ByteArray := { data := #[112, 114, 105, 118, 97, 99, 121] }
theorem al_w : wordB tT = true ∧ wordB pV = true ∧ userB mA = true := by decide +kernel
theorem al_r1 : regE [] tT mA = 0 := by
  unfold regE
  rw [if_pos ⟨rfl, al_w.1, al_w.2.2⟩]
  rfl
theorem al_r2 : regU [] tT mA = [newU tT mA] := by unfold regU; rw [if_pos al_r1]; rfl
theorem al_r3 : rightU [newU tT mA] = true := by rw [← al_r2, reg_right]; rfl
theorem al_v1 (u : UserX) (h : u.1 = tT) : viewU [u] tT = some (u.2.1, u.2.2.2) := by
  unfold viewU
  rw [List.find?_cons, show tokP tT u = true by simp [h]]
  rfl
theorem al_f : findU [newU tT mA] tT = (0, 0) := by
  unfold findU
  rw [if_pos al_r3]
  simp [idxX, newU]
theorem al_ag : agL [] [pV] = [pV] := by simp [agL, sortT, onceT, Lib.compact, Lib.compactUpTo, Lib.keeps]
theorem al_g1 : agrE [newU tT mA] tT [pV] = 0 := by
  unfold agrE
  rw [al_f, if_pos rfl, if_pos (by simp [al_w.2.1])]
  show (if 4 < ((agL [] [pV]).length : Int) then (10 : Int) else 0) = 0
  rw [al_ag]
  rfl
theorem al_g2 (v : Value) : agrU [newU tT mA] tT [pV] v = [(tT, mA, v, [pV])] := by
  unfold agrU
  rw [if_pos al_g1, al_f]
  show [(tT, mA, v, agL [] [pV])] = _
  rw [al_ag]
theorem al_a1 : agdU [newU tT mA] tT [pV] = 13 := by
  rw [agdU_view, if_pos al_r3, al_v1 _ rfl]
  rfl
theorem al_r4 (v : Value) : rightU [(tT, mA, v, [pV])] = true := by rw [← al_g2 v, agr_right]; exact al_r3
theorem al_a2 (v : Value) : agdU [(tT, mA, v, [pV])] tT [pV] = 0 := by
  rw [agdU_view, if_pos (al_r4 v), al_v1 _ rfl]
  simp [agdV]
theorem al_h (v : Value) : whoU [(tT, mA, v, [pV])] tT = (mA, 0) := by
  rw [whoU_view, if_pos (al_r4 v), al_v1 _ rfl]
  rfl
def greatN : Unit := ()
set_option maxHeartbeats 1000000 in
theorem great_v (xs : List UserX) (sv : Value) (w : World) (L : List Nat) (hL : LL L w) (h1 : RdF 3 L w sv (xs.map encU)) (h2 : AgU L w xs) : CV Tryz.prog 7 [sv] w fun v W => ∃ b : Bool, v = .bool b := by
  refine cv_enter (N := 27) (f := [(0, sv)]) Tryz.func7 rfl rfl rfl rfl fun Q hQ hE => ?_
  have hB := Below.refl w.heap.size w
  have h1m : xs.length ≤ maxLen := by have := h1.len; rwa [List.length_map] at this
  unfold maxLen at h1m
  refine WC.seq fun K1 hK1 => ?_
  refine WC.region ?_
  refine WL.val (dx_assign rfl rfl) rfl rfl ?_
  refine WL.nil ?_
  refine hK1 ?_
  refine WC.seq fun K2 hK2 => ?_
  refine WC.region ?_
  refine WL.val (dx_move rfl rfl) rfl rfl ?_
  refine WL.val (dx_lenX rfl ty_slice_22 rfl h1) rfl rfl ?_
  refine WL.val (dx_assign rfl rfl) rfl rfl ?_
  refine WL.nil ?_
  refine hK2 ?_
  refine WC.seq fun K3 hK3 => ?_
  refine WC.seq fun K4 hK4 => ?_
  refine WC.region ?_
  refine WL.val (dx_assign rfl rfl) rfl rfl ?_
  refine WL.nil ?_
  refine hK4 ?_
  refine WC.block ?_
  refine WC.loop2 (fun (i : Nat) (n : Int) => [(0, sv), (4, .int .i64 (i : Int)), (3, .int .i64 n)]) (fun (i : Nat) (n : Int) W => i ≤ xs.length ∧ Below w.heap.size w W ∧ LL (L) W ∧ RdF 3 (L) W sv (xs.map encU) ∧ AgU (L) W xs) (fun (i : Nat) (n : Int) => xs.length - i) 0 (xs.length : Int) (by repeat first | exact trivial | exact And.intro rfl trivial | refine And.intro rfl ?_ | refine And.intro (congrArg (fun z : Int => some (Value.int .i64 z)) (by omega)) ?_) ⟨Nat.zero_le _, hB, hL, h1, h2⟩ ?_
  clear h1 h2 hB hL
  rintro K5 i n W6 ⟨hi, hB, hL, h1, h2⟩ hK5
  refine WC.seq fun K7 hK7 => ?_
  refine WC.seq fun K8 hK8 => ?_
  refine WC.region ?_
  refine WL.val (dx_move rfl rfl) rfl rfl ?_
  refine WL.val (dx_move rfl rfl) rfl rfl ?_
  refine WL.val (dx_lenX rfl ty_slice_22 rfl h1) rfl rfl ?_
  refine WL.val (dx_lss rfl rfl rfl) rfl rfl ?_
  refine WL.val (dx_move rfl rfl) rfl rfl ?_
  refine WL.split 11 rfl (fun g9 => ?_) (fun g9 => ?_)
  ·
    replace g9 := of_decide_eq_true g9
    refine WL.val (dx_move rfl rfl) rfl rfl ?_
    refine WL.val (dx_leq rfl rfl rfl) rfl rfl ?_
    refine WL.val (dx_pick rfl rfl rfl) rfl rfl ?_
    refine WL.nil ?_
    refine hK8 ?_
    refine WC.cond rfl (fun c10 => ?_) (fun c10 => ?_)
    ·
      replace c10 := of_decide_eq_true c10
      refine WC.skip ?_
      refine hK7 ?_
      refine WC.seq fun K11 hK11 => ?_
      refine WC.block ?_
      refine WC.region ?_
      refine WL.val (dx_move rfl rfl) rfl rfl ?_
      refine WL.val (dx_move rfl rfl) rfl rfl ?_
      refine WL.val (dx_move rfl rfl) rfl rfl ?_
      obtain ⟨r12, e13⟩ : ∃ x, xs[i]? = some x := ⟨_, List.getElem?_eq_getElem (by omega)⟩
      refine WL.get (dx_idxF i rfl ty_slice_22 rfl rfl h1 (by omega) (at_mapX e13)) rfl rfl ?_
      rintro u14 _ ⟨rfl, p15⟩
      refine WL.get (dx_fldP 1 rfl ty_fld_54_2_2 rfl p15 (cs' := [r12.2.2.1]) rfl (Nat.succ_pos _)) rfl rfl ?_
      rintro u16 _ ⟨rfl, p17⟩
      refine WL.val (dx_loadP rfl ty_one_34 rfl p17) rfl rfl ?_
      refine WL.val (dx_lenX rfl ty_slice_34 rfl (h2 r12 (List.mem_of_getElem? e13))) rfl rfl ?_
      refine WL.val (dx_add (r := IntKind.i64.wrap _) rfl rfl rfl rfl) rfl rfl ?_
      refine WL.val (dx_assign rfl rfl) rfl rfl ?_
      refine WL.nil ?_
      refine hK11 ?_
      refine WC.region ?_
      refine WL.val (dx_move rfl rfl) rfl rfl ?_
      refine WL.val (dx_add (r := (i : Int) + 1) rfl rfl rfl (wrap64_id (by omega))) rfl rfl ?_
      refine WL.val (dx_assign rfl rfl) rfl rfl ?_
      refine WL.nil ?_
      exact hK5 (i + 1) (IntKind.i64.wrap (n + (r12.2.2.2.length : Int))) ⟨(by omega), hB, hL, h1, h2⟩ (by omega) (by repeat first | exact trivial | exact And.intro rfl trivial | refine And.intro rfl ?_ | refine And.intro (congrArg (fun z : Int => some (Value.int .i64 z)) (by omega)) ?_)
    ·
      replace c10 := of_decide_eq_false c10
      refine WC.exit ?_
      refine hK3 ?_
      refine WC.seq fun K18 hK18 => ?_
      refine WC.region ?_
      refine WL.val (dx_move rfl rfl) rfl rfl ?_
      refine WL.val (dx_gtr rfl rfl rfl) rfl rfl ?_
      refine WL.val (dx_assign rfl rfl) rfl rfl ?_
      refine WL.nil ?_
      refine hK18 ?_
      refine WC.ret fun a_ ha_ => ?_
      exact hQ (cv_ret1 rfl (.tmp rfl) ⟨_, rfl⟩ hB ha_)
  ·
    replace g9 := of_decide_eq_false g9
    refine WL.off rfl rfl rfl ?_
    refine WL.off rfl rfl rfl ?_
    refine WL.val (dx_pick rfl rfl rfl) rfl rfl ?_
    refine WL.nil ?_
    refine hK8 ?_
    refine WC.condF rfl ?_
    refine WC.exit ?_
    refine hK3 ?_
    refine WC.seq fun K19 hK19 => ?_
    refine WC.region ?_
    refine WL.val (dx_move rfl rfl) rfl rfl ?_
    refine WL.val (dx_gtr rfl rfl rfl) rfl rfl ?_
    refine WL.val (dx_assign rfl rfl) rfl rfl ?_
    refine WL.nil ?_
    refine hK19 ?_
    refine WC.ret fun a_ ha_ => ?_
    exact hQ (cv_ret1 rfl (.tmp rfl) ⟨_, rfl⟩ hB ha_)

set_option maxHeartbeats 1000000 in
theorem alive17_v  (w : World) (L : List Nat) (hL : LL L w) (hM : MaxL L w) : CV Tryz.prog 6 [] w fun v W => v = .bool true := by
  refine cv_enter (N := 50) (f := []) Tryz.func6 rfl rfl rfl rfl fun Q hQ hE => ?_
  have hB := Below.refl w.heap.size w
  refine WC.seq fun K1 hK1 => ?_
  refine WC.region ?_
  refine WL.val (dx_assign rfl rfl) rfl rfl ?_
  refine WL.nil ?_
  refine hK1 ?_
  refine WC.seq fun K2 hK2 => ?_
  refine WC.region ?_
  refine WL.get (dx_cv rfl Tryz.func9 rfl rfl rfl ((show CV _ _ [_, _, _] _ (fun v W => ∃ s2, v = .tuple #[s2, .int .i64 0] ∧ RdF 3 (L) W s2 ([newU tT mA].map encU) ∧ AgU (L) W [newU tT mA]) from by have := register_v [] tT mA (.slice none 0 0) w (L) hL (RdF.nil (by decide)) (fun u hu => by cases hu) hM; rw [al_r1, al_r2] at this; exact this))) rfl rfl ?_
  rintro _ W7 ⟨⟨u3, rfl, j4, j5⟩, b6⟩
  replace hM := hM.below b6
  replace hB := below_then hB b6
  replace hL := LL.below hL b6
  refine WL.val (dx_move rfl rfl) rfl rfl ?_
  refine WL.val (dx_extract rfl rfl rfl) rfl rfl ?_
  refine WL.val (dx_extract rfl rfl rfl) rfl rfl ?_
  refine WL.val (dx_assign rfl rfl) rfl rfl ?_
  refine WL.val (dx_assign rfl rfl) rfl rfl ?_
  refine WL.nil ?_
  refine hK2 ?_
  refine WC.seq fun K8 hK8 => ?_
  refine WC.region ?_
  refine WL.val (dx_move rfl rfl) rfl rfl ?_
  refine WL.get (dx_lit1 (r := [.string ({ data := #[112, 114, 105, 118, 97, 99, 121] })]) rfl ty_ap_34 (by decide) (by decide) rfl rfl rfl) rfl rfl ?_
  rintro u9 W10 ⟨k11, b12, z13⟩
  have h14 : RdF 1 (L) W10 u9 ([{ data := #[112, 114, 105, 118, 97, 99, 121] }].map encT) := k11.notin hL (Nat.le_refl _)
  replace hM := hM.below b12
  replace j4 := j4.below b12
  replace j5 := j5.below b12
  replace hB := below_then hB b12
  replace hL := LL.below hL b12
  refine WL.get (dx_cv rfl Tryz.func20 rfl rfl rfl ((show CV _ _ [_, _, _] _ (fun v W => v = .int .i64 13) from by have := agreed_v [newU tT mA] tT [pV] _ _ W10 _ hL j4 j5 hM h14; rw [al_a1] at this; exact this))) rfl rfl ?_
  rintro _ W16 ⟨rfl, b15⟩
  replace hM := hM.below b15
  replace j4 := j4.below b15
  replace j5 := j5.below b15
  replace h14 := h14.below b15
  replace hB := below_then hB b15
  replace hL := LL.below hL b15
  refine WL.val (dx_assign rfl rfl) rfl rfl ?_
  refine WL.nil ?_
  refine hK8 ?_
  refine WC.seq fun K17 hK17 => ?_
  refine WC.region ?_
  refine WL.val (dx_move rfl rfl) rfl rfl ?_
  refine WL.get (dx_lit1 (r := [.string ({ data := #[112, 114, 105, 118, 97, 99, 121] })]) rfl ty_ap_34 (by decide) (by decide) rfl rfl rfl) rfl rfl ?_
  rintro u18 W19 ⟨k20, b21, z22⟩
  have h23 : RdF 1 (L) W19 u18 ([{ data := #[112, 114, 105, 118, 97, 99, 121] }].map encT) := k20.notin hL (Nat.le_refl _)
  replace hM := hM.below b21
  replace j4 := j4.below b21
  replace j5 := j5.below b21
  replace h14 := h14.below b21
  replace hB := below_then hB b21
  replace hL := LL.below hL b21
  refine WL.get (dx_cv rfl Tryz.func18 rfl rfl rfl ((show CV _ _ [_, _, _] _ (fun v W => ∃ s2 av, v = .tuple #[s2, .int .i64 0] ∧ RdF 3 (L) W s2 ([((tT, mA, av, [pV]) : UserX)].map encU) ∧ AgU (L) W [((tT, mA, av, [pV]) : UserX)]) from by have := agree_v [newU tT mA] tT [pV] _ _ W19 _ hL j4 j5 hM h23 (by simp); rw [al_g1] at this; simp only [al_g2] at this; exact this))) rfl rfl ?_
  rintro _ W30 ⟨⟨u24, av27, rfl, j25, j26⟩, b29⟩
  replace hM := hM.below b29
  replace j4 := j4.below b29
  replace j5 := j5.below b29
  replace h14 := h14.below b29
  replace h23 := h23.below b29
  replace hB := below_then hB b29
  replace hL := LL.below hL b29
  refine WL.val (dx_move rfl rfl) rfl rfl ?_
  refine WL.val (dx_extract rfl rfl rfl) rfl rfl ?_
  refine WL.val (dx_extract rfl rfl rfl) rfl rfl ?_
  refine WL.val (dx_assign rfl rfl) rfl rfl ?_
  refine WL.val (dx_assign rfl rfl) rfl rfl ?_
  refine WL.nil ?_
  refine hK17 ?_
  refine WC.seq fun K31 hK31 => ?_
  refine WC.region ?_
  refine WL.val (dx_move rfl rfl) rfl rfl ?_
  refine WL.get (dx_cv rfl Tryz.func13 rfl rfl rfl ((show CV _ _ [_, _] _ (fun v W => v = .tuple #[.string mA, .int .i64 0]) from by have := whose_v [((tT, mA, av27, [pV]) : UserX)] tT _ W30 _ hL j25 j26 hM; rw [al_h av27] at this; exact this))) rfl rfl ?_
  rintro _ W33 ⟨rfl, b32⟩
  replace hM := hM.below b32
  replace j4 := j4.below b32
  replace j5 := j5.below b32
  replace h14 := h14.below b32
  replace h23 := h23.below b32
  replace j25 := j25.below b32
  replace j26 := j26.below b32
  replace hB := below_then hB b32
  replace hL := LL.below hL b32
  refine WL.val (dx_move rfl rfl) rfl rfl ?_
  refine WL.val (dx_extract rfl rfl rfl) rfl rfl ?_
  refine WL.val (dx_extract rfl rfl rfl) rfl rfl ?_
  refine WL.val (dx_assign rfl rfl) rfl rfl ?_
  refine WL.val (dx_assign rfl rfl) rfl rfl ?_
  refine WL.nil ?_
  refine hK31 ?_
  refine WC.seq fun K34 hK34 => ?_
  refine WC.region ?_
  refine WL.val (dx_move rfl rfl) rfl rfl ?_
  refine WL.val (dx_eql rfl rfl rfl) rfl rfl ?_
  refine WL.val (dx_move rfl rfl) rfl rfl ?_
  refine WL.val (dx_move rfl rfl) rfl rfl ?_
  refine WL.val (dx_eql rfl rfl rfl) rfl rfl ?_
  refine WL.val (dx_pick rfl rfl rfl) rfl rfl ?_
  refine WL.val (dx_move rfl rfl) rfl rfl ?_
  refine WL.val (dx_move rfl rfl) rfl rfl ?_
  refine WL.val (dx_eql rfl rfl rfl) rfl rfl ?_
  refine WL.val (dx_pick rfl rfl rfl) rfl rfl ?_
  refine WL.val (dx_move rfl rfl) rfl rfl ?_
  refine WL.val (dx_move rfl rfl) rfl rfl ?_
  refine WL.val (dx_eql rfl rfl rfl) rfl rfl ?_
  refine WL.val (dx_pick rfl rfl rfl) rfl rfl ?_
  refine WL.val (dx_move rfl rfl) rfl rfl ?_
  refine WL.val (dx_move rfl rfl) rfl rfl ?_
  refine WL.val (dx_eqlT rfl rfl rfl) rfl rfl ?_
  refine WL.val (dx_pick rfl rfl rfl) rfl rfl ?_
  refine WL.val (dx_move rfl rfl) rfl rfl ?_
  refine WL.split 44 rfl (fun g35 => ?_) (fun g35 => ?_)
  ·
    replace g35 := of_decide_eq_true g35
    refine WL.val (dx_move rfl rfl) rfl rfl ?_
    refine WL.get (dx_lit1 (r := [.string ({ data := #[112, 114, 105, 118, 97, 99, 121] })]) rfl ty_ap_34 (by decide) (by decide) rfl rfl rfl) rfl rfl ?_
    rintro u36 W37 ⟨k38, b39, z40⟩
    have h41 : RdF 1 (L) W37 u36 ([{ data := #[112, 114, 105, 118, 97, 99, 121] }].map encT) := k38.notin hL (Nat.le_refl _)
    replace hM := hM.below b39
    replace j4 := j4.below b39
    replace j5 := j5.below b39
    replace h14 := h14.below b39
    replace h23 := h23.below b39
    replace j25 := j25.below b39
    replace j26 := j26.below b39
    replace hB := below_then hB b39
    replace hL := LL.below hL b39
    refine WL.get (dx_cv rfl Tryz.func20 rfl rfl rfl ((show CV _ _ [_, _, _] _ (fun v W => v = .int .i64 0) from by have := agreed_v [((tT, mA, av27, [pV]) : UserX)] tT [pV] _ _ W37 _ hL j25 j26 hM h41; rw [al_a2 av27] at this; exact this))) rfl rfl ?_
    rintro _ W43 ⟨rfl, b42⟩
    replace hM := hM.below b42
    replace j4 := j4.below b42
    replace j5 := j5.below b42
    replace h14 := h14.below b42
    replace h23 := h23.below b42
    replace j25 := j25.below b42
    replace j26 := j26.below b42
    replace h41 := h41.below b42
    replace hB := below_then hB b42
    replace hL := LL.below hL b42
    refine WL.val (dx_eql rfl rfl rfl) rfl rfl ?_
    refine WL.val (dx_pick rfl rfl rfl) rfl rfl ?_
    refine WL.val (dx_assign rfl rfl) rfl rfl ?_
    refine WL.nil ?_
    refine hK34 ?_
    refine WC.ret fun a_ ha_ => ?_
    exact hQ (cv_ret1 rfl (.tmp rfl) rfl hB ha_)
  ·
    exact absurd rfl (of_decide_eq_false g35)

end Go.Proofs.YthefddclefimoaaGreatDoor
namespace Go.Proofs.YthefddclefimoaaGreatDoor
open Go.ChangeShapes Go.WideShapes Go.ChangeAt Go.RowKit
set_option linter.unusedVariables false
set_option maxRecDepth 8000
theorem own : ownKnob Tryz.prog.godebug = none := by kernel_rfl
theorem laidOut : laidOutB Tryz.prog = true := by kernel_rfl
theorem cU : Tryz.prog.cellsOf 54 = 3 := by kernel_rfl
theorem cT : Tryz.prog.cellsOf 9 = 1 := by kernel_rfl
theorem cS : Tryz.prog.cellsOf 34 = 1 := by kernel_rfl
section
variable {H : Type} {enc : TypeId × Value → H} {W : World} {base : Nat} {sp : Nat → Bool} {held : Bool}
theorem el_T (n : Nat) (cs : List Value) (x : DataW H × List MemPlace) (h : DataW.trod enc Tryz.prog W base sp held n 9 cs = some x) : ∃ s : ByteArray, cs = encT s ∧ True := by
  obtain ⟨s, es, _, _⟩ := DataW.trod_string Tryz.underlying9 h
  exact ⟨s, es, trivial⟩
theorem el_U (n : Nat) (cs : List Value) (x : DataW H × List MemPlace) (h : DataW.trod enc Tryz.prog W base sp held n 54 cs = some x) : ∃ u : UserX, cs = encU u ∧ RdF 1 [] W u.2.2.1 (u.2.2.2.map encT) := by
  obtain ⟨y0, y1, y2, m, _, hl, h0, h1, h2⟩ := Go.Deep.trod_struct3 Tryz.underlying54 h
  rw [cU] at hl
  match cs, hl with
  | [c, d, e], _ =>
    obtain ⟨a, ha, _⟩ := el_T m _ _ h0
    obtain ⟨b, hb, _⟩ := el_T m _ _ h1
    obtain ⟨v, ts, hv, hr, _⟩ := rd_of_slice encT (fun _ => True) (by decide) Tryz.underlying34 cT (fun _ _ => rfl) el_T h2
    simp only [cT, cS] at ha hb hv
    simp [encT] at ha hb hv
    exact ⟨(a, b, v, ts), by simp [encU, ha, hb, hv], hr⟩
theorem open_users {r : Reach} {b0 : Nat} {v : Value} {d : DataW H} {p : List MemPlace} (hv : Value.okWide Tryz.prog W r b0 22 v) (h : DataW.Trod enc Tryz.prog W base sp held 22 v d p) : ∃ xs : List UserX, RdF 3 [] W v (xs.map encU) ∧ AgU [] W xs := by
  obtain ⟨a, len, cap, rfl⟩ := okWide_slice Tryz.underlying22 hv
  obtain ⟨fuel, hf⟩ := h
  obtain ⟨v, xs, e, r, g⟩ := rd_of_slice (s := 3) encU (fun u => RdF 1 [] W u.2.2.1 (u.2.2.2.map encT)) (by decide) Tryz.underlying22 cU (fun _ _ => rfl) el_U hf
  simp [Value.cells] at e
  subst e
  exact ⟨xs, r, g⟩
end
end Go.Proofs.YthefddclefimoaaGreatDoor
namespace Go.Proofs.YthefddclefimoaaGreatDoor
open Go.RowKit
set_option linter.unusedVariables false

set_option maxHeartbeats 400000 in
theorem ref_digit_any (c : Int) (w : World) : Calls Tryz.prog 74 #[.int .u8 c] w fun e w' => e = .returned (.bool (digI c)) ∧ w = w' := by
  go_enter Tryz.func74, Tryz.ntmps74
  go_wp2
  all_goals go_ret
  all_goals exact ⟨by simp [digI, *]; try omega, rfl⟩
set_option maxHeartbeats 400000 in
theorem ref_small_any (c : Int) (w : World) : Calls Tryz.prog 73 #[.int .u8 c] w fun e w' => e = .returned (.bool (smlI c)) ∧ w = w' := by
  go_enter Tryz.func73, Tryz.ntmps73
  go_wp2
  all_goals go_ret
  all_goals exact ⟨by simp [smlI, *]; try omega, rfl⟩
set_option maxHeartbeats 400000 in
theorem ref_great_any (c : Int) (w : World) : Calls Tryz.prog 131 #[.int .u8 c] w fun e w' => e = .returned (.bool (grtI c)) ∧ w = w' := by
  go_enter Tryz.func131, Tryz.ntmps131
  go_wp2
  all_goals go_ret
  all_goals exact ⟨by simp [grtI, *]; try omega, rfl⟩
/-- The place of the first colon, or -1. -/
def colV (l : List Int) : Int := if colI l < l.length then (colI l : Int) else -1
theorem findIdx_at {p : Int → Bool} {l : List Int} {k : Nat} (hk : k < l.length) (h : (l.take k).all (fun x => !p x) = true) (hp : p (at0 l k) = true) : l.findIdx p = k := by
  rw [List.findIdx_eq hk]
  refine ⟨by rw [← at0_lt hk]; exact hp, fun j hj => ?_⟩
  have hm : l[j] ∈ l.take k := List.mem_take_iff_getElem.2 ⟨j, by omega, rfl⟩
  have := List.all_eq_true.1 h _ hm
  simpa using this
set_option maxHeartbeats 400000 in
theorem ref_colon_any (s : ByteArray) (w : World) (hs : s.size ≤ maxLen) :
    Calls Tryz.prog 94 #[.string s] w fun e w' => e = .returned (.int .i64 (colV (sb s))) ∧ w = w' := by
  unfold maxLen at hs
  have HL := Lib.hid (sb_length s)
  go_enter Tryz.func94, Tryz.ntmps94
  go_wp2
  go_loop [3] (fun i => ∃ k : Nat, k ≤ s.size ∧ i = .int .i64 k ∧ ((sb s).take k).all (fun x => !(x == 58)) = true) (fun i => s.size - (intOf i).toNat)
  case atStart => exact ⟨0, Nat.zero_le _, rfl, rfl⟩
  case round =>
    obtain ⟨k, hk, rfl, hall⟩ := hrel
    have H := Lib.hid hall; clear hall
    by_cases hlt : k < s.size
    · have hlk : k < (sb s).length := by have := HL.out; omega
      have hat := at0_sb s k hlt
      have HA := Lib.hid hat; clear hat
      by_cases hc : at0 (sb s) k = 58
      · have hb : (((s[k]'hlt).toNat : Int) == 58) = true := by rw [← HA.out, hc]; rfl
        have HC := Lib.hid hc; clear hc
        go_wp2
        go_ret
        refine ⟨?_, rfl⟩
        have e : colI (sb s) = k := findIdx_at hlk H.out (by rw [HC.out]; rfl)
        rw [colV, e, if_pos hlk]; rfl
      · have hb : (((s[k]'hlt).toNat : Int) == 58) = false := by rw [← HA.out, beq_eq_false_iff_ne]; exact hc
        have HC := Lib.hid hc; clear hc
        go_wp2
        go_round
        case rel =>
          refine ⟨k + 1, by omega, by go_num, ?_⟩
          rw [List.take_add_one, List.getElem?_eq_getElem hlk, List.all_append, H.out, Option.toList_some, ← at0_lt hlk]
          simp [HC.out]
        case measure => simp [intOf]; omega
    · go_wp2
      go_ret
      refine ⟨?_, rfl⟩
      have h := H.out
      rw [List.take_of_length_le (by have := HL.out; omega)] at h
      have e : ¬ colI (sb s) < (sb s).length := by
        have : colI (sb s) = (sb s).length := by
          unfold colI
          rw [List.findIdx_eq_length]
          intro x hx
          simpa using List.all_eq_true.1 h x hx
        omega
      rw [colV, if_neg e]; rfl
end Go.Proofs.YthefddclefimoaaGreatDoor
namespace Go.Proofs.YthefddclefimoaaGreatDoor
open Go.RowKit
set_option linter.unusedVariables false

/-- May this byte stand in this place of a host? -/
def hokB (l : List Int) (i : Nat) : Bool := hostI (at0 l i) && !(signI (at0 l i) && (i == 0 || i + 1 == l.length || (at0 l i == 46 && at0 l (i - 1) == 46)))
theorem dots_iff (l : List Int) : dotsI l = true ↔ ∃ j, j + 1 < l.length ∧ at0 l j = 46 ∧ at0 l (j + 1) = 46 := by
  induction l with
  | nil => simp [dotsI]
  | cons x r ih =>
    rw [dotsI, Bool.or_eq_true, ih]
    constructor
    · rintro (h | ⟨j, h1, h2, h3⟩)
      · simp only [Bool.and_eq_true, beq_iff_eq] at h
        cases r with
        | nil => simp at h
        | cons y r =>
          simp only [List.head?_cons, Option.some.injEq] at h
          exact ⟨0, by simp only [List.length_cons]; omega, by rw [at0_cons_zero]; exact h.1, by rw [at0_cons_succ, at0_cons_zero]; exact h.2⟩
      · exact ⟨j + 1, by simp only [List.length_cons]; omega, by rw [at0_cons_succ]; exact h2, by rw [at0_cons_succ]; exact h3⟩
    · rintro ⟨j, h1, h2, h3⟩
      cases j with
      | zero =>
        left
        cases r with
        | nil => simp at h1
        | cons y r =>
          rw [at0_cons_zero] at h2
          rw [at0_cons_succ, at0_cons_zero] at h3
          simp [h2, h3]
      | succ j =>
        right
        rw [at0_cons_succ] at h2 h3
        exact ⟨j, by simp at h1; omega, h2, h3⟩
theorem last_at (l : List Int) (h : 0 < l.length) : l.getLast? = some (at0 l (l.length - 1)) := by
  rw [List.getLast?_eq_getElem?, at0_lt (by omega), List.getElem?_eq_getElem (by omega)]
theorem host_iff (l : List Int) (h1 : 1 ≤ l.length) (h2 : l.length ≤ 230) : hostL l = true ↔ ∀ i, i < l.length → hokB l i = true := by
  have hm : madeI l 230 hostI = l.all hostI := made_yes l 230 hostI h1 (by omega)
  rw [hostL, hm, edgesI, head_at l (by omega), last_at l (by omega)]
  simp only [Bool.and_eq_true, List.all_eq_true, Bool.not_eq_true', Option.any_some]
  constructor
  · rintro ⟨ha, hd, h0, hl⟩ i hi
    unfold hokB
    rw [ha _ (at0_mem hi), Bool.true_and, Bool.not_eq_true']
    cases hs : signI (at0 l i)
    · rfl
    · simp only [Bool.true_and, Bool.or_eq_false_iff, beq_eq_false_iff_ne]
      refine ⟨⟨?_, ?_⟩, ?_⟩
      · rintro rfl; rw [h0] at hs; cases hs
      · intro e
        rw [show l.length - 1 = i by omega] at hl
        rw [hl] at hs; cases hs
      · rw [Bool.and_eq_false_iff]
        by_cases e : at0 l i = 46
        · right
          rw [beq_eq_false_iff_ne]
          intro e2
          have hi0 : i ≠ 0 := by rintro rfl; rw [h0] at hs; cases hs
          have : dotsI l = true := (dots_iff l).2 ⟨i - 1, by omega, e2, by rw [show i - 1 + 1 = i by omega]; exact e⟩
          rw [this] at hd; cases hd
        · left; rw [beq_eq_false_iff_ne]; exact e
  · intro h
    have key : ∀ i, i < l.length → hostI (at0 l i) = true ∧ (signI (at0 l i) = true → i ≠ 0 ∧ i + 1 ≠ l.length ∧ ¬ (at0 l i = 46 ∧ at0 l (i - 1) = 46)) := by
      intro i hi
      have := h i hi
      unfold hokB at this
      simp only [Bool.and_eq_true, Bool.not_eq_true', Bool.and_eq_false_iff, Bool.or_eq_false_iff, beq_eq_false_iff_ne] at this
      refine ⟨this.1, fun hs => ?_⟩
      rcases this.2 with e | ⟨⟨a, b⟩, c⟩
      · rw [hs] at e; cases e
      · refine ⟨a, b, fun ⟨d, e⟩ => ?_⟩
        rcases c with c | c
        · exact c d
        · exact c e
    refine ⟨fun x hx => ?_, ?_, ?_, ?_⟩
    · obtain ⟨j, hj, rfl⟩ := List.getElem_of_mem hx
      rw [← at0_lt hj]; exact (key j hj).1
    · cases hd : dotsI l
      · rfl
      · obtain ⟨j, j1, j2, j3⟩ := (dots_iff l).1 hd
        have := (key (j + 1) j1).2 (by rw [j3]; decide)
        exact (this.2.2 ⟨j3, by simpa using j2⟩).elim
    · cases hs : signI (at0 l 0)
      · rfl
      · exact (((key 0 (by omega)).2 hs).1 rfl).elim
    · cases hs : signI (at0 l (l.length - 1))
      · rfl
      · exact (((key (l.length - 1) (by omega)).2 hs).2.1 (by omega)).elim
theorem ref_digit_is (c : Int) (b : Bool) (w : World) (h : digI c = b) : Calls Tryz.prog 74 #[.int .u8 c] w fun e w' => e = .returned (.bool b) ∧ w = w' := by rw [← h]; exact ref_digit_any c w
theorem ref_small_is (c : Int) (b : Bool) (w : World) (h : smlI c = b) : Calls Tryz.prog 73 #[.int .u8 c] w fun e w' => e = .returned (.bool b) ∧ w = w' := by rw [← h]; exact ref_small_any c w
theorem ref_great_is (c : Int) (b : Bool) (w : World) (h : grtI c = b) : Calls Tryz.prog 131 #[.int .u8 c] w fun e w' => e = .returned (.bool b) ∧ w = w' := by rw [← h]; exact ref_great_any c w
set_option maxHeartbeats 1000000 in
theorem ref_host_any (s : ByteArray) (w : World) (hs : s.size ≤ maxLen) :
    Calls Tryz.prog 114 #[.string s] w fun e w' => e = .returned (.bool (hostL (sb s))) ∧ w = w' := by
  unfold maxLen at hs
  have hl := sb_length s
  by_cases g1 : (s.size : Int) < 1
  · have HF := Lib.hid (show hostL (sb s) = false by rw [hostL, made_no _ _ _ (by omega)]; rfl)
    clear hl
    go_enter Tryz.func114, Tryz.ntmps114
    go_wp2
    go_ret
    exact ⟨by rw [HF.out]; rfl, rfl⟩
  by_cases g2 : (230 : Int) < (s.size : Int)
  · have HF := Lib.hid (show hostL (sb s) = false by rw [hostL, made_no _ _ _ (by omega)]; rfl)
    clear hl
    go_enter Tryz.func114, Tryz.ntmps114
    go_wp2
    go_ret
    exact ⟨by rw [HF.out]; rfl, rfl⟩
  have HI := Lib.hid (host_iff (sb s) (by omega) (by omega))
  have HL := Lib.hid hl; clear hl
  go_enter Tryz.func114, Tryz.ntmps114
  go_wp2
  go_loop [3] (fun i => ∃ k : Nat, k ≤ s.size ∧ i = .int .i64 k ∧ ∀ j, j < k → hokB (sb s) j = true) (fun i => s.size - (intOf i).toNat)
  case atStart => exact ⟨0, Nat.zero_le _, rfl, fun j h => by omega⟩
  case round =>
    obtain ⟨k, hk, rfl, hall⟩ := hrel
    have H := Lib.hid hall; clear hall
    by_cases hlt : k < s.size
    · have hlk : k < (sb s).length := by have := HL.out; omega
      have hat := at0_sb s k hlt
      have HA := Lib.hid hat; clear hat
      have c0 := (s[k]'hlt).toNat_lt
      by_cases hc : at0 (sb s) k = 46
      · by_cases q0 : k = 0
        · have hb46 : (((s[k]'hlt).toNat : Int) == 46) = true := by rw [← HA.out]; first | rw [hc]; rfl | (rw [beq_eq_false_iff_ne]; omega)
          have hb45 : (((s[k]'hlt).toNat : Int) == 45) = false := by rw [← HA.out]; first | rw [hc]; rfl | (rw [beq_eq_false_iff_ne]; omega)
          have HSm := Lib.hid (show smlI ((s[k]'hlt).toNat : Int) = false by rw [← HA.out]; first | (rw [hc]; decide) | exact hcs)
          have HGr := Lib.hid (show grtI ((s[k]'hlt).toNat : Int) = false by rw [← HA.out]; first | (rw [hc]; decide) | exact hcg)
          have HDi := Lib.hid (show digI ((s[k]'hlt).toNat : Int) = false by rw [← HA.out]; first | (rw [hc]; decide) | exact hcd)
          have hk0 : ((k : Int) == 0) = true := by rw [beq_iff_eq]; omega
          have HK := Lib.hid (show hokB (sb s) k = false by rw [hokB, hc, q0]; simp [signI])
          clear hc q0
          go_wp2_with (first | (go_at_call 73; refine (ref_small_is _ _ _ HSm.out).mono ?_; rintro e w' ⟨rfl, rfl⟩) | (go_at_call 131; refine (ref_great_is _ _ _ HGr.out).mono ?_; rintro e w' ⟨rfl, rfl⟩) | (go_at_call 74; refine (ref_digit_is _ _ _ HDi.out).mono ?_; rintro e w' ⟨rfl, rfl⟩))
          go_ret
          refine ⟨?_, rfl⟩
          have : hostL (sb s) = false := by
            cases h : hostL (sb s)
            · rfl
            · have := HI.out.1 h k hlk; rw [HK.out] at this; cases this
          rw [this]; rfl
        by_cases q1 : k + 1 = s.size
        · have hb46 : (((s[k]'hlt).toNat : Int) == 46) = true := by rw [← HA.out]; first | rw [hc]; rfl | (rw [beq_eq_false_iff_ne]; omega)
          have hb45 : (((s[k]'hlt).toNat : Int) == 45) = false := by rw [← HA.out]; first | rw [hc]; rfl | (rw [beq_eq_false_iff_ne]; omega)
          have HSm := Lib.hid (show smlI ((s[k]'hlt).toNat : Int) = false by rw [← HA.out]; first | (rw [hc]; decide) | exact hcs)
          have HGr := Lib.hid (show grtI ((s[k]'hlt).toNat : Int) = false by rw [← HA.out]; first | (rw [hc]; decide) | exact hcg)
          have HDi := Lib.hid (show digI ((s[k]'hlt).toNat : Int) = false by rw [← HA.out]; first | (rw [hc]; decide) | exact hcd)
          have hk0 : ((k : Int) == 0) = false := by rw [beq_eq_false_iff_ne]; omega
          have hkl : ((k : Int) == (s.size : Int) - 1) = true := by rw [beq_iff_eq]; omega
          have HK := Lib.hid (show hokB (sb s) k = false by rw [hokB, hc, show k + 1 = (sb s).length by have := HL.out; omega]; simp [signI])
          clear hc
          go_wp2_with (first | (go_at_call 73; refine (ref_small_is _ _ _ HSm.out).mono ?_; rintro e w' ⟨rfl, rfl⟩) | (go_at_call 131; refine (ref_great_is _ _ _ HGr.out).mono ?_; rintro e w' ⟨rfl, rfl⟩) | (go_at_call 74; refine (ref_digit_is _ _ _ HDi.out).mono ?_; rintro e w' ⟨rfl, rfl⟩))
          go_ret
          refine ⟨?_, rfl⟩
          have : hostL (sb s) = false := by
            cases h : hostL (sb s)
            · rfl
            · have := HI.out.1 h k hlk; rw [HK.out] at this; cases this
          rw [this]; rfl
        have hp := at0_sb s (k - 1) (by omega)
        have HP := Lib.hid hp; clear hp
        have hi1 : (1 : Int) ≤ k := by omega
        have hi2 : (k : Int) - 1 < s.size := by omega
        have hi3 : ((k : Int) - 1).toNat = k - 1 := by omega
        by_cases q2 : at0 (sb s) (k - 1) = 46
        · have hb46 : (((s[k]'hlt).toNat : Int) == 46) = true := by rw [← HA.out]; first | rw [hc]; rfl | (rw [beq_eq_false_iff_ne]; omega)
          have hb45 : (((s[k]'hlt).toNat : Int) == 45) = false := by rw [← HA.out]; first | rw [hc]; rfl | (rw [beq_eq_false_iff_ne]; omega)
          have HSm := Lib.hid (show smlI ((s[k]'hlt).toNat : Int) = false by rw [← HA.out]; first | (rw [hc]; decide) | exact hcs)
          have HGr := Lib.hid (show grtI ((s[k]'hlt).toNat : Int) = false by rw [← HA.out]; first | (rw [hc]; decide) | exact hcg)
          have HDi := Lib.hid (show digI ((s[k]'hlt).toNat : Int) = false by rw [← HA.out]; first | (rw [hc]; decide) | exact hcd)
          have hk0 : ((k : Int) == 0) = false := by rw [beq_eq_false_iff_ne]; omega
          have hkl : ((k : Int) == (s.size : Int) - 1) = false := by rw [beq_eq_false_iff_ne]; omega
          have hb9 : (((s[k - 1]'(by omega)).toNat : Int) == 46) = true := by rw [← HP.out, q2]; rfl
          have HK := Lib.hid (show hokB (sb s) k = false by rw [hokB, hc, q2]; simp [signI])
          clear hc
          go_wp2_with (first | (go_at_call 73; refine (ref_small_is _ _ _ HSm.out).mono ?_; rintro e w' ⟨rfl, rfl⟩) | (go_at_call 131; refine (ref_great_is _ _ _ HGr.out).mono ?_; rintro e w' ⟨rfl, rfl⟩) | (go_at_call 74; refine (ref_digit_is _ _ _ HDi.out).mono ?_; rintro e w' ⟨rfl, rfl⟩))
          go_ret
          refine ⟨?_, rfl⟩
          have : hostL (sb s) = false := by
            cases h : hostL (sb s)
            · rfl
            · have := HI.out.1 h k hlk; rw [HK.out] at this; cases this
          rw [this]; rfl
        · have hb46 : (((s[k]'hlt).toNat : Int) == 46) = true := by rw [← HA.out]; first | rw [hc]; rfl | (rw [beq_eq_false_iff_ne]; omega)
          have hb45 : (((s[k]'hlt).toNat : Int) == 45) = false := by rw [← HA.out]; first | rw [hc]; rfl | (rw [beq_eq_false_iff_ne]; omega)
          have HSm := Lib.hid (show smlI ((s[k]'hlt).toNat : Int) = false by rw [← HA.out]; first | (rw [hc]; decide) | exact hcs)
          have HGr := Lib.hid (show grtI ((s[k]'hlt).toNat : Int) = false by rw [← HA.out]; first | (rw [hc]; decide) | exact hcg)
          have HDi := Lib.hid (show digI ((s[k]'hlt).toNat : Int) = false by rw [← HA.out]; first | (rw [hc]; decide) | exact hcd)
          have hk0 : ((k : Int) == 0) = false := by rw [beq_eq_false_iff_ne]; omega
          have hkl : ((k : Int) == (s.size : Int) - 1) = false := by rw [beq_eq_false_iff_ne]; omega
          have hb9 : (((s[k - 1]'(by omega)).toNat : Int) == 46) = false := by rw [← HP.out, beq_eq_false_iff_ne]; exact q2
          have HK := Lib.hid (show hokB (sb s) k = true by have hl9 := HL.out; simp [hokB, hc, q2, signI, q0, hostI]; omega)
          clear hc
          go_wp2_with (first | (go_at_call 73; refine (ref_small_is _ _ _ HSm.out).mono ?_; rintro e w' ⟨rfl, rfl⟩) | (go_at_call 131; refine (ref_great_is _ _ _ HGr.out).mono ?_; rintro e w' ⟨rfl, rfl⟩) | (go_at_call 74; refine (ref_digit_is _ _ _ HDi.out).mono ?_; rintro e w' ⟨rfl, rfl⟩))
          refine ⟨⟨k + 1, by omega, by go_num, fun j hj => ?_⟩, by simp [intOf]; omega⟩
          rcases Nat.lt_or_ge j k with h | h
          · exact H.out j h
          · obtain rfl : j = k := by omega
            exact HK.out
      have hc46 := hc; clear hc
      by_cases hc : at0 (sb s) k = 45
      · by_cases q0 : k = 0
        · have hb46 : (((s[k]'hlt).toNat : Int) == 46) = false := by rw [← HA.out]; first | rw [hc]; rfl | (rw [beq_eq_false_iff_ne]; omega)
          have hb45 : (((s[k]'hlt).toNat : Int) == 45) = true := by rw [← HA.out]; first | rw [hc]; rfl | (rw [beq_eq_false_iff_ne]; omega)
          have HSm := Lib.hid (show smlI ((s[k]'hlt).toNat : Int) = false by rw [← HA.out]; first | (rw [hc]; decide) | exact hcs)
          have HGr := Lib.hid (show grtI ((s[k]'hlt).toNat : Int) = false by rw [← HA.out]; first | (rw [hc]; decide) | exact hcg)
          have HDi := Lib.hid (show digI ((s[k]'hlt).toNat : Int) = false by rw [← HA.out]; first | (rw [hc]; decide) | exact hcd)
          have hk0 : ((k : Int) == 0) = true := by rw [beq_iff_eq]; omega
          have HK := Lib.hid (show hokB (sb s) k = false by rw [hokB, hc, q0]; simp [signI])
          clear hc q0
          go_wp2_with (first | (go_at_call 73; refine (ref_small_is _ _ _ HSm.out).mono ?_; rintro e w' ⟨rfl, rfl⟩) | (go_at_call 131; refine (ref_great_is _ _ _ HGr.out).mono ?_; rintro e w' ⟨rfl, rfl⟩) | (go_at_call 74; refine (ref_digit_is _ _ _ HDi.out).mono ?_; rintro e w' ⟨rfl, rfl⟩))
          go_ret
          refine ⟨?_, rfl⟩
          have : hostL (sb s) = false := by
            cases h : hostL (sb s)
            · rfl
            · have := HI.out.1 h k hlk; rw [HK.out] at this; cases this
          rw [this]; rfl
        by_cases q1 : k + 1 = s.size
        · have hb46 : (((s[k]'hlt).toNat : Int) == 46) = false := by rw [← HA.out]; first | rw [hc]; rfl | (rw [beq_eq_false_iff_ne]; omega)
          have hb45 : (((s[k]'hlt).toNat : Int) == 45) = true := by rw [← HA.out]; first | rw [hc]; rfl | (rw [beq_eq_false_iff_ne]; omega)
          have HSm := Lib.hid (show smlI ((s[k]'hlt).toNat : Int) = false by rw [← HA.out]; first | (rw [hc]; decide) | exact hcs)
          have HGr := Lib.hid (show grtI ((s[k]'hlt).toNat : Int) = false by rw [← HA.out]; first | (rw [hc]; decide) | exact hcg)
          have HDi := Lib.hid (show digI ((s[k]'hlt).toNat : Int) = false by rw [← HA.out]; first | (rw [hc]; decide) | exact hcd)
          have hk0 : ((k : Int) == 0) = false := by rw [beq_eq_false_iff_ne]; omega
          have hkl : ((k : Int) == (s.size : Int) - 1) = true := by rw [beq_iff_eq]; omega
          have HK := Lib.hid (show hokB (sb s) k = false by rw [hokB, hc, show k + 1 = (sb s).length by have := HL.out; omega]; simp [signI])
          clear hc
          go_wp2_with (first | (go_at_call 73; refine (ref_small_is _ _ _ HSm.out).mono ?_; rintro e w' ⟨rfl, rfl⟩) | (go_at_call 131; refine (ref_great_is _ _ _ HGr.out).mono ?_; rintro e w' ⟨rfl, rfl⟩) | (go_at_call 74; refine (ref_digit_is _ _ _ HDi.out).mono ?_; rintro e w' ⟨rfl, rfl⟩))
          go_ret
          refine ⟨?_, rfl⟩
          have : hostL (sb s) = false := by
            cases h : hostL (sb s)
            · rfl
            · have := HI.out.1 h k hlk; rw [HK.out] at this; cases this
          rw [this]; rfl
        have hb46 : (((s[k]'hlt).toNat : Int) == 46) = false := by rw [← HA.out]; first | rw [hc]; rfl | (rw [beq_eq_false_iff_ne]; omega)
        have hb45 : (((s[k]'hlt).toNat : Int) == 45) = true := by rw [← HA.out]; first | rw [hc]; rfl | (rw [beq_eq_false_iff_ne]; omega)
        have HSm := Lib.hid (show smlI ((s[k]'hlt).toNat : Int) = false by rw [← HA.out]; first | (rw [hc]; decide) | exact hcs)
        have HGr := Lib.hid (show grtI ((s[k]'hlt).toNat : Int) = false by rw [← HA.out]; first | (rw [hc]; decide) | exact hcg)
        have HDi := Lib.hid (show digI ((s[k]'hlt).toNat : Int) = false by rw [← HA.out]; first | (rw [hc]; decide) | exact hcd)
        have hk0 : ((k : Int) == 0) = false := by rw [beq_eq_false_iff_ne]; omega
        have hkl : ((k : Int) == (s.size : Int) - 1) = false := by rw [beq_eq_false_iff_ne]; omega
        have HK := Lib.hid (show hokB (sb s) k = true by have hl9 := HL.out; simp [hokB, hc, signI, q0, hostI]; omega)
        clear hc
        go_wp2_with (first | (go_at_call 73; refine (ref_small_is _ _ _ HSm.out).mono ?_; rintro e w' ⟨rfl, rfl⟩) | (go_at_call 131; refine (ref_great_is _ _ _ HGr.out).mono ?_; rintro e w' ⟨rfl, rfl⟩) | (go_at_call 74; refine (ref_digit_is _ _ _ HDi.out).mono ?_; rintro e w' ⟨rfl, rfl⟩))
        refine ⟨⟨k + 1, by omega, by go_num, fun j hj => ?_⟩, by simp [intOf]; omega⟩
        rcases Nat.lt_or_ge j k with h | h
        · exact H.out j h
        · obtain rfl : j = k := by omega
          exact HK.out
      have hc45 := hc; clear hc
      have hc : True := trivial
      cases hcs : smlI (at0 (sb s) k) <;> cases hcg : grtI (at0 (sb s) k) <;> cases hcd : digI (at0 (sb s) k)
      · have hb46 : (((s[k]'hlt).toNat : Int) == 46) = false := by rw [← HA.out, beq_eq_false_iff_ne]; exact hc46
        have hb45 : (((s[k]'hlt).toNat : Int) == 45) = false := by rw [← HA.out, beq_eq_false_iff_ne]; exact hc45
        have HSm := Lib.hid (show smlI ((s[k]'hlt).toNat : Int) = false by rw [← HA.out]; exact hcs)
        have HGr := Lib.hid (show grtI ((s[k]'hlt).toNat : Int) = false by rw [← HA.out]; exact hcg)
        have HDi := Lib.hid (show digI ((s[k]'hlt).toNat : Int) = false by rw [← HA.out]; exact hcd)
        have HX := Lib.hid (And.intro hcs (And.intro hcg (And.intro hcd (And.intro hc46 hc45)))); clear hcs hcg hcd hc46 hc45
        have HK := Lib.hid (show hokB (sb s) k = false by obtain ⟨x1, x2, x3, x4, x5⟩ := HX.out; simp [hokB, hostI, signI, x1, x2, x3, x4, x5])
        clear hc
        go_wp2_with (first | (go_at_call 73; refine (ref_small_is _ _ _ HSm.out).mono ?_; rintro e w' ⟨rfl, rfl⟩) | (go_at_call 131; refine (ref_great_is _ _ _ HGr.out).mono ?_; rintro e w' ⟨rfl, rfl⟩) | (go_at_call 74; refine (ref_digit_is _ _ _ HDi.out).mono ?_; rintro e w' ⟨rfl, rfl⟩))
        go_ret
        refine ⟨?_, rfl⟩
        have : hostL (sb s) = false := by
          cases h : hostL (sb s)
          · rfl
          · have := HI.out.1 h k hlk; rw [HK.out] at this; cases this
        rw [this]; rfl
      · have hb46 : (((s[k]'hlt).toNat : Int) == 46) = false := by rw [← HA.out, beq_eq_false_iff_ne]; exact hc46
        have hb45 : (((s[k]'hlt).toNat : Int) == 45) = false := by rw [← HA.out, beq_eq_false_iff_ne]; exact hc45
        have HSm := Lib.hid (show smlI ((s[k]'hlt).toNat : Int) = false by rw [← HA.out]; exact hcs)
        have HGr := Lib.hid (show grtI ((s[k]'hlt).toNat : Int) = false by rw [← HA.out]; exact hcg)
        have HDi := Lib.hid (show digI ((s[k]'hlt).toNat : Int) = true by rw [← HA.out]; exact hcd)
        have HX := Lib.hid (And.intro hcs (And.intro hcg (And.intro hcd (And.intro hc46 hc45)))); clear hcs hcg hcd hc46 hc45
        have HK := Lib.hid (show hokB (sb s) k = true by obtain ⟨x1, x2, x3, x4, x5⟩ := HX.out; simp [hokB, hostI, signI, x1, x2, x3, x4, x5])
        clear hc
        go_wp2_with (first | (go_at_call 73; refine (ref_small_is _ _ _ HSm.out).mono ?_; rintro e w' ⟨rfl, rfl⟩) | (go_at_call 131; refine (ref_great_is _ _ _ HGr.out).mono ?_; rintro e w' ⟨rfl, rfl⟩) | (go_at_call 74; refine (ref_digit_is _ _ _ HDi.out).mono ?_; rintro e w' ⟨rfl, rfl⟩))
        refine ⟨⟨k + 1, by omega, by go_num, fun j hj => ?_⟩, by simp [intOf]; omega⟩
        rcases Nat.lt_or_ge j k with h | h
        · exact H.out j h
        · obtain rfl : j = k := by omega
          exact HK.out
      · have hb46 : (((s[k]'hlt).toNat : Int) == 46) = false := by rw [← HA.out, beq_eq_false_iff_ne]; exact hc46
        have hb45 : (((s[k]'hlt).toNat : Int) == 45) = false := by rw [← HA.out, beq_eq_false_iff_ne]; exact hc45
        have HSm := Lib.hid (show smlI ((s[k]'hlt).toNat : Int) = false by rw [← HA.out]; exact hcs)
        have HGr := Lib.hid (show grtI ((s[k]'hlt).toNat : Int) = true by rw [← HA.out]; exact hcg)
        have HDi := Lib.hid (show digI ((s[k]'hlt).toNat : Int) = false by rw [← HA.out]; exact hcd)
        have HX := Lib.hid (And.intro hcs (And.intro hcg (And.intro hcd (And.intro hc46 hc45)))); clear hcs hcg hcd hc46 hc45
        have HK := Lib.hid (show hokB (sb s) k = true by obtain ⟨x1, x2, x3, x4, x5⟩ := HX.out; simp [hokB, hostI, signI, x1, x2, x3, x4, x5])
        clear hc
        go_wp2_with (first | (go_at_call 73; refine (ref_small_is _ _ _ HSm.out).mono ?_; rintro e w' ⟨rfl, rfl⟩) | (go_at_call 131; refine (ref_great_is _ _ _ HGr.out).mono ?_; rintro e w' ⟨rfl, rfl⟩) | (go_at_call 74; refine (ref_digit_is _ _ _ HDi.out).mono ?_; rintro e w' ⟨rfl, rfl⟩))
        refine ⟨⟨k + 1, by omega, by go_num, fun j hj => ?_⟩, by simp [intOf]; omega⟩
        rcases Nat.lt_or_ge j k with h | h
        · exact H.out j h
        · obtain rfl : j = k := by omega
          exact HK.out
      · have hb46 : (((s[k]'hlt).toNat : Int) == 46) = false := by rw [← HA.out, beq_eq_false_iff_ne]; exact hc46
        have hb45 : (((s[k]'hlt).toNat : Int) == 45) = false := by rw [← HA.out, beq_eq_false_iff_ne]; exact hc45
        have HSm := Lib.hid (show smlI ((s[k]'hlt).toNat : Int) = false by rw [← HA.out]; exact hcs)
        have HGr := Lib.hid (show grtI ((s[k]'hlt).toNat : Int) = true by rw [← HA.out]; exact hcg)
        have HDi := Lib.hid (show digI ((s[k]'hlt).toNat : Int) = true by rw [← HA.out]; exact hcd)
        have HX := Lib.hid (And.intro hcs (And.intro hcg (And.intro hcd (And.intro hc46 hc45)))); clear hcs hcg hcd hc46 hc45
        have HK := Lib.hid (show hokB (sb s) k = true by obtain ⟨x1, x2, x3, x4, x5⟩ := HX.out; simp [hokB, hostI, signI, x1, x2, x3, x4, x5])
        clear hc
        go_wp2_with (first | (go_at_call 73; refine (ref_small_is _ _ _ HSm.out).mono ?_; rintro e w' ⟨rfl, rfl⟩) | (go_at_call 131; refine (ref_great_is _ _ _ HGr.out).mono ?_; rintro e w' ⟨rfl, rfl⟩) | (go_at_call 74; refine (ref_digit_is _ _ _ HDi.out).mono ?_; rintro e w' ⟨rfl, rfl⟩))
        refine ⟨⟨k + 1, by omega, by go_num, fun j hj => ?_⟩, by simp [intOf]; omega⟩
        rcases Nat.lt_or_ge j k with h | h
        · exact H.out j h
        · obtain rfl : j = k := by omega
          exact HK.out
      · have hb46 : (((s[k]'hlt).toNat : Int) == 46) = false := by rw [← HA.out, beq_eq_false_iff_ne]; exact hc46
        have hb45 : (((s[k]'hlt).toNat : Int) == 45) = false := by rw [← HA.out, beq_eq_false_iff_ne]; exact hc45
        have HSm := Lib.hid (show smlI ((s[k]'hlt).toNat : Int) = true by rw [← HA.out]; exact hcs)
        have HGr := Lib.hid (show grtI ((s[k]'hlt).toNat : Int) = false by rw [← HA.out]; exact hcg)
        have HDi := Lib.hid (show digI ((s[k]'hlt).toNat : Int) = false by rw [← HA.out]; exact hcd)
        have HX := Lib.hid (And.intro hcs (And.intro hcg (And.intro hcd (And.intro hc46 hc45)))); clear hcs hcg hcd hc46 hc45
        have HK := Lib.hid (show hokB (sb s) k = true by obtain ⟨x1, x2, x3, x4, x5⟩ := HX.out; simp [hokB, hostI, signI, x1, x2, x3, x4, x5])
        clear hc
        go_wp2_with (first | (go_at_call 73; refine (ref_small_is _ _ _ HSm.out).mono ?_; rintro e w' ⟨rfl, rfl⟩) | (go_at_call 131; refine (ref_great_is _ _ _ HGr.out).mono ?_; rintro e w' ⟨rfl, rfl⟩) | (go_at_call 74; refine (ref_digit_is _ _ _ HDi.out).mono ?_; rintro e w' ⟨rfl, rfl⟩))
        refine ⟨⟨k + 1, by omega, by go_num, fun j hj => ?_⟩, by simp [intOf]; omega⟩
        rcases Nat.lt_or_ge j k with h | h
        · exact H.out j h
        · obtain rfl : j = k := by omega
          exact HK.out
      · have hb46 : (((s[k]'hlt).toNat : Int) == 46) = false := by rw [← HA.out, beq_eq_false_iff_ne]; exact hc46
        have hb45 : (((s[k]'hlt).toNat : Int) == 45) = false := by rw [← HA.out, beq_eq_false_iff_ne]; exact hc45
        have HSm := Lib.hid (show smlI ((s[k]'hlt).toNat : Int) = true by rw [← HA.out]; exact hcs)
        have HGr := Lib.hid (show grtI ((s[k]'hlt).toNat : Int) = false by rw [← HA.out]; exact hcg)
        have HDi := Lib.hid (show digI ((s[k]'hlt).toNat : Int) = true by rw [← HA.out]; exact hcd)
        have HX := Lib.hid (And.intro hcs (And.intro hcg (And.intro hcd (And.intro hc46 hc45)))); clear hcs hcg hcd hc46 hc45
        have HK := Lib.hid (show hokB (sb s) k = true by obtain ⟨x1, x2, x3, x4, x5⟩ := HX.out; simp [hokB, hostI, signI, x1, x2, x3, x4, x5])
        clear hc
        go_wp2_with (first | (go_at_call 73; refine (ref_small_is _ _ _ HSm.out).mono ?_; rintro e w' ⟨rfl, rfl⟩) | (go_at_call 131; refine (ref_great_is _ _ _ HGr.out).mono ?_; rintro e w' ⟨rfl, rfl⟩) | (go_at_call 74; refine (ref_digit_is _ _ _ HDi.out).mono ?_; rintro e w' ⟨rfl, rfl⟩))
        refine ⟨⟨k + 1, by omega, by go_num, fun j hj => ?_⟩, by simp [intOf]; omega⟩
        rcases Nat.lt_or_ge j k with h | h
        · exact H.out j h
        · obtain rfl : j = k := by omega
          exact HK.out
      · have hb46 : (((s[k]'hlt).toNat : Int) == 46) = false := by rw [← HA.out, beq_eq_false_iff_ne]; exact hc46
        have hb45 : (((s[k]'hlt).toNat : Int) == 45) = false := by rw [← HA.out, beq_eq_false_iff_ne]; exact hc45
        have HSm := Lib.hid (show smlI ((s[k]'hlt).toNat : Int) = true by rw [← HA.out]; exact hcs)
        have HGr := Lib.hid (show grtI ((s[k]'hlt).toNat : Int) = true by rw [← HA.out]; exact hcg)
        have HDi := Lib.hid (show digI ((s[k]'hlt).toNat : Int) = false by rw [← HA.out]; exact hcd)
        have HX := Lib.hid (And.intro hcs (And.intro hcg (And.intro hcd (And.intro hc46 hc45)))); clear hcs hcg hcd hc46 hc45
        have HK := Lib.hid (show hokB (sb s) k = true by obtain ⟨x1, x2, x3, x4, x5⟩ := HX.out; simp [hokB, hostI, signI, x1, x2, x3, x4, x5])
        clear hc
        go_wp2_with (first | (go_at_call 73; refine (ref_small_is _ _ _ HSm.out).mono ?_; rintro e w' ⟨rfl, rfl⟩) | (go_at_call 131; refine (ref_great_is _ _ _ HGr.out).mono ?_; rintro e w' ⟨rfl, rfl⟩) | (go_at_call 74; refine (ref_digit_is _ _ _ HDi.out).mono ?_; rintro e w' ⟨rfl, rfl⟩))
        refine ⟨⟨k + 1, by omega, by go_num, fun j hj => ?_⟩, by simp [intOf]; omega⟩
        rcases Nat.lt_or_ge j k with h | h
        · exact H.out j h
        · obtain rfl : j = k := by omega
          exact HK.out
      · have hb46 : (((s[k]'hlt).toNat : Int) == 46) = false := by rw [← HA.out, beq_eq_false_iff_ne]; exact hc46
        have hb45 : (((s[k]'hlt).toNat : Int) == 45) = false := by rw [← HA.out, beq_eq_false_iff_ne]; exact hc45
        have HSm := Lib.hid (show smlI ((s[k]'hlt).toNat : Int) = true by rw [← HA.out]; exact hcs)
        have HGr := Lib.hid (show grtI ((s[k]'hlt).toNat : Int) = true by rw [← HA.out]; exact hcg)
        have HDi := Lib.hid (show digI ((s[k]'hlt).toNat : Int) = true by rw [← HA.out]; exact hcd)
        have HX := Lib.hid (And.intro hcs (And.intro hcg (And.intro hcd (And.intro hc46 hc45)))); clear hcs hcg hcd hc46 hc45
        have HK := Lib.hid (show hokB (sb s) k = true by obtain ⟨x1, x2, x3, x4, x5⟩ := HX.out; simp [hokB, hostI, signI, x1, x2, x3, x4, x5])
        clear hc
        go_wp2_with (first | (go_at_call 73; refine (ref_small_is _ _ _ HSm.out).mono ?_; rintro e w' ⟨rfl, rfl⟩) | (go_at_call 131; refine (ref_great_is _ _ _ HGr.out).mono ?_; rintro e w' ⟨rfl, rfl⟩) | (go_at_call 74; refine (ref_digit_is _ _ _ HDi.out).mono ?_; rintro e w' ⟨rfl, rfl⟩))
        refine ⟨⟨k + 1, by omega, by go_num, fun j hj => ?_⟩, by simp [intOf]; omega⟩
        rcases Nat.lt_or_ge j k with h | h
        · exact H.out j h
        · obtain rfl : j = k := by omega
          exact HK.out
    · go_wp2
      go_ret
      refine ⟨?_, rfl⟩
      have : hostL (sb s) = true := HI.out.2 (fun i hi => H.out i (by have := HL.out; omega))
      rw [this]; rfl
end Go.Proofs.YthefddclefimoaaGreatDoor
namespace Go.Proofs.YthefddclefimoaaGreatDoor
open Go.RowKit
set_option linter.unusedVariables false

theorem ref_colon_yes (s : ByteArray) (w : World) (hs : s.size ≤ maxLen) (h : colI (sb s) < (sb s).length) :
    Calls Tryz.prog 94 #[.string s] w fun e w' => e = .returned (.int .i64 (colI (sb s) : Nat)) ∧ w = w' := by
  have := ref_colon_any s w hs
  rwa [colV, if_pos h] at this
theorem ref_colon_no (s : ByteArray) (w : World) (hs : s.size ≤ maxLen) (h : ¬ colI (sb s) < (sb s).length) :
    Calls Tryz.prog 94 #[.string s] w fun e w' => e = .returned (.int .i64 (-1)) ∧ w = w' := by
  have := ref_colon_any s w hs
  rwa [colV, if_neg h] at this
theorem ref_host_is (s : ByteArray) (b : Bool) (w : World) (hs : s.size ≤ maxLen) (h : hostL (sb s) = b) :
    Calls Tryz.prog 114 #[.string s] w fun e w' => e = .returned (.bool b) ∧ w = w' := by
  rw [← h]; exact ref_host_any s w hs
set_option maxHeartbeats 1000000 in
theorem ref_server_any (s : ByteArray) (w : World) (hs : s.size ≤ 1000000) :
    Calls Tryz.prog 95 #[.string s] w fun e w' => e = .returned (.bool (serverL (sb s))) ∧ w = w' := by
  have hl := sb_length s
  have hs' : s.size ≤ maxLen := by unfold maxLen; omega
  by_cases hc : colI (sb s) < (sb s).length
  rotate_left
  · have HC := ref_colon_no s w hs' hc
    have HF := Lib.hid (show serverL (sb s) = hostL (sb s) by rw [serverL, List.take_of_length_le (by omega), decide_eq_true (show (sb s).length ≤ colI (sb s) by omega)]; rfl)
    have HH := ref_host_any s w hs'
    clear hc hl
    go_enter Tryz.func95, Tryz.ntmps95
    go_wp2_with fail
    refine HC.mono ?_
    rintro e w' ⟨rfl, rfl⟩
    go_wp2_with fail
    refine HH.mono ?_
    rintro e w' ⟨rfl, rfl⟩
    go_wp2
    go_ret
    exact ⟨by rw [HF.out]; rfl, rfl⟩
  have HC := ref_colon_yes s w hs' hc
  have hsv : serverL (sb s) = (madeI ((sb s).drop (colI (sb s) + 1)) 5 digI && hostL ((sb s).take (colI (sb s)))) := by
    rw [serverL, decide_eq_false (show ¬ (sb s).length ≤ colI (sb s) by omega)]; rfl
  generalize colI (sb s) = k at *
  rw [hl] at hc
  have ht := sb_tail s (k + 1)
  have ha := sb_extract s 0 k
  rw [List.drop_zero] at ha
  rw [← ht, ← ha] at hsv
  have hts : (s.extract (k + 1) s.size).size ≤ 1000000 := size_of_sb ht (by rw [List.length_drop]; omega)
  have has : (s.extract 0 k).size ≤ 1000000 := size_of_sb ha (by rw [List.length_take]; omega)
  have hk1 : (k : Int) + 1 ≤ s.size := by omega
  have hk0 : decide ((k : Int) < 0) = false := by simp
  have HV := Lib.hid hsv; clear hsv
  have HT := Lib.hid ht; clear ht
  have HA := Lib.hid ha; clear ha
  have HL := Lib.hid hl; clear hl
  go_enter Tryz.func95, Tryz.ntmps95
  go_wp2_with fail
  refine HC.mono ?_
  rintro e w' ⟨rfl, rfl⟩
  go_wp2
  generalize s.extract (k + 1) s.size = t at *
  have HTL := Lib.hid (sb_length t)
  have HHa := fun w' => ref_host_any (s.extract 0 k) w' (by unfold maxLen; omega)
  have hkle : (k : Int) ≤ s.size := by omega
  go_loop [5] (fun i => ∃ j : Nat, j ≤ t.size ∧ i = .int .i64 j ∧ ((sb t).take j).all digI = true) (fun i => t.size - (intOf i).toNat)
  case atStart => exact ⟨0, Nat.zero_le _, rfl, rfl⟩
  case round =>
    obtain ⟨j, hj, rfl, hall⟩ := hrel
    have H := Lib.hid hall; clear hall
    by_cases hlt : j < t.size
    · have hlj : j < (sb t).length := by have := HTL.out; omega
      have hat := at0_sb t j hlt
      have HAt := Lib.hid hat; clear hat
      have c0 := (t[j]'hlt).toNat_lt
      cases hd : digI (at0 (sb t) j)
      · have HD := Lib.hid (show digI ((t[j]'hlt).toNat : Int) = false by rw [← HAt.out]; exact hd)
        have HF := Lib.hid (show (sb t).all digI = false by rw [List.all_eq_false]; exact ⟨_, at0_mem hlj, by rw [hd]; decide⟩)
        clear hd
        go_wp2_with (go_at_call 74; refine (ref_digit_is _ _ _ HD.out).mono ?_; rintro e w' ⟨rfl, rfl⟩)
        go_ret
        refine ⟨?_, rfl⟩
        rw [HV.out, madeI, HF.out]; simp
      · have HD := Lib.hid (show digI ((t[j]'hlt).toNat : Int) = true by rw [← HAt.out]; exact hd)
        have HDD := Lib.hid hd; clear hd
        go_wp2_with (go_at_call 74; refine (ref_digit_is _ _ _ HD.out).mono ?_; rintro e w' ⟨rfl, rfl⟩)
        refine ⟨⟨j + 1, by omega, by go_num, ?_⟩, by simp [intOf]; omega⟩
        rw [List.take_add_one, List.getElem?_eq_getElem hlj, List.all_append, H.out, Option.toList_some, ← at0_lt hlj]
        simp [HDD.out]
    · obtain rfl : j = t.size := by omega
      have hall : (sb t).all digI = true := by
        have h := H.out
        rwa [List.take_of_length_le (by have := HTL.out; omega)] at h
      have HALL := Lib.hid hall; clear hall hlt hj
      have hfin : serverL (sb s) = ((decide (1 ≤ t.size) && decide ((t.size : Int) ≤ 5)) && hostL (sb (s.extract 0 k))) := by
        rw [HV.out, madeI, HALL.out, HTL.out]
        simp
      have HFIN := Lib.hid hfin; clear hfin
      cases hh : hostL (sb (s.extract 0 k))
      · have HR := ref_host_is (s.extract 0 k) false w (by unfold maxLen; omega) hh
        have HH := Lib.hid hh; clear hh
        go_wp2_with fail
        refine HR.mono ?_
        rintro e w' ⟨rfl, rfl⟩
        go_wp2
        go_ret
        refine ⟨?_, rfl⟩
        rw [HFIN.out, HH.out]; simp
      · have HR := ref_host_is (s.extract 0 k) true w (by unfold maxLen; omega) hh
        have HH := Lib.hid hh; clear hh
        by_cases h1 : 1 ≤ t.size
        · by_cases h5 : t.size ≤ 5
          · have b1 : decide ((1 : Int) ≤ (t.size : Int)) = true := by simp; omega
            have b5 : decide ((t.size : Int) ≤ 5) = true := by simp; omega
            go_wp2_with fail
            refine HR.mono ?_
            rintro e w' ⟨rfl, rfl⟩
            go_wp2
            go_ret
            refine ⟨?_, rfl⟩
            rw [HFIN.out, HH.out, b5, decide_eq_true h1]; rfl
          · have b1 : decide ((1 : Int) ≤ (t.size : Int)) = true := by simp; omega
            have b5 : decide ((t.size : Int) ≤ 5) = false := by simp; omega
            go_wp2_with fail
            refine HR.mono ?_
            rintro e w' ⟨rfl, rfl⟩
            go_wp2
            go_ret
            refine ⟨?_, rfl⟩
            rw [HFIN.out, HH.out, b5, decide_eq_true h1]; rfl
        · have b1 : decide ((1 : Int) ≤ (t.size : Int)) = false := by simp; omega
          go_wp2_with fail
          refine HR.mono ?_
          rintro e w' ⟨rfl, rfl⟩
          go_wp2
          go_ret
          refine ⟨?_, rfl⟩
          rw [HFIN.out, HH.out, decide_eq_false h1]; rfl
end Go.Proofs.YthefddclefimoaaGreatDoor
namespace Go.Proofs.YthefddclefimoaaGreatDoor
open Go.RowKit
set_option linter.unusedVariables false

theorem ref_server_is (s : ByteArray) (b : Bool) (w : World) (hs : s.size ≤ 1000000) (h : serverL (sb s) = b) :
    Calls Tryz.prog 95 #[.string s] w fun e w' => e = .returned (.bool b) ∧ w = w' := by
  rw [← h]; exact ref_server_any s w hs
def pokB (l : List Int) (sigil : Int) : Bool := decide (l.length ≤ 255) && (l.head? == some sigil && serverL ((l.drop 1).drop (colI (l.drop 1) + 1)))
theorem named_pok (l : List Int) (sigil most : Int) (K : Int → Bool) : namedL l sigil most K = (pokB l sigil && madeI ((l.drop 1).take (colI (l.drop 1))) most K) := by
  rw [namedL, pokB]
  cases decide (l.length ≤ 255) <;> cases (l.head? == some sigil) <;> cases serverL ((l.drop 1).drop (colI (l.drop 1) + 1)) <;> cases madeI ((l.drop 1).take (colI (l.drop 1))) most K <;> rfl
theorem col_tail {l : List Int} {c : Int} (h : l.head? = some c) (hc : c ≠ 58) : colI l = colI (l.drop 1) + 1 := by
  cases l with
  | nil => cases h
  | cons x r =>
    simp only [List.head?_cons, Option.some.injEq] at h
    subst h
    unfold colI
    rw [List.findIdx_cons]
    have : (x == 58) = false := by rw [beq_eq_false_iff_ne]; exact hc
    rw [this]; rfl
theorem server_nil : serverL [] = false := by decide
def PartsOk (l : List Int) (B : Nat) (w : World) (e : Ending) (w' : World) : Prop :=
  ∃ a b : ByteArray, (sb a = (l.drop 1).take (colI (l.drop 1)) ∧ sb b = (l.drop 1).drop (colI (l.drop 1) + 1)) ∧ e = .returned (.tuple #[.string a, .string b, .bool true]) ∧ Below B w w'
set_option maxHeartbeats 1000000 in
theorem ref_parts_64_no (s : ByteArray) (w : World) (hs : s.size ≤ 1000000) (h : pokB (sb s) 64 = false) :
    Calls Tryz.prog 72 #[.string s, .int .u8 64] w fun e w' => e = .returned (.tuple #[.string ⟨#[]⟩, .string ⟨#[]⟩, .bool false]) ∧ w = w' := by
  have hl := sb_length s
  have hs' : s.size ≤ maxLen := by unfold maxLen; omega
  by_cases h2 : s.size = 0
  · have hb : ((s.size : Int) == 0) = true := by rw [h2]; rfl
    clear h2 h hl
    go_enter Tryz.func72, Tryz.ntmps72
    go_wp2
    go_ret3
    exact ⟨rfl, rfl⟩
  have hb : ((s.size : Int) == 0) = false := by rw [beq_eq_false_iff_ne]; omega
  by_cases h1 : 255 < s.size
  · clear h2 h hl
    go_enter Tryz.func72, Tryz.ntmps72
    go_wp2
    go_ret3
    exact ⟨rfl, rfl⟩
  have h2' : 0 < s.size := by omega
  have hat := at0_sb s 0 h2'
  have hh := head_at (sb s) (by omega)
  have h255 : s.size ≤ 255 := by omega
  by_cases h3 : at0 (sb s) 0 = 64
  rotate_left
  · have hn : (((s[0]'h2').toNat : Int) != 64) = true := by rw [← hat, bne_iff_ne]; exact h3
    clear h2 h hl hat hh h3
    go_enter Tryz.func72, Tryz.ntmps72
    go_wp2
    go_ret3
    exact ⟨rfl, rfl⟩
  have hn : (((s[0]'h2').toNat : Int) != 64) = false := by rw [← hat, h3]; rfl
  rw [h3] at hh
  have hct := col_tail hh (by decide)
  rw [pokB, hh, decide_eq_true (show (sb s).length ≤ 255 by omega)] at h
  have hsf : serverL ((sb s).drop (colI (sb s) + 1)) = false := by
    rw [hct]
    rw [List.drop_drop] at h
    rw [show colI ((sb s).drop 1) + 1 + 1 = 1 + (colI ((sb s).drop 1) + 1) by omega]
    simpa using h
  by_cases hc : colI (sb s) < (sb s).length
  rotate_left
  · have HC := ref_colon_no s w hs' hc
    clear h2 h hl hat hh h3 hct hsf hc
    go_enter Tryz.func72, Tryz.ntmps72
    go_wp2_with fail
    refine HC.mono ?_
    rintro e w' ⟨rfl, rfl⟩
    go_wp2
    go_ret3
    exact ⟨rfl, rfl⟩
  have HC := ref_colon_yes s w hs' hc
  have ht := sb_tail s (colI (sb s) + 1)
  rw [← ht] at hsf
  have hts : (s.extract (colI (sb s) + 1) s.size).size ≤ 1000000 := size_of_sb ht (by rw [List.length_drop]; omega)
  have HS := ref_server_is _ false w hts hsf
  clear h2 h hat hh h3 hct hsf ht
  generalize colI (sb s) = k at *
  rw [hl] at hc
  have hk1 : (k : Int) + 1 ≤ s.size := by omega
  have hk0 : decide ((k : Int) < 0) = false := by simp
  clear hl
  go_enter Tryz.func72, Tryz.ntmps72
  go_wp2_with fail
  refine HC.mono ?_
  rintro e w' ⟨rfl, rfl⟩
  go_wp2_with fail
  refine HS.mono ?_
  rintro e w' ⟨rfl, rfl⟩
  go_wp2
  go_ret3
  exact ⟨rfl, rfl⟩
set_option maxHeartbeats 1000000 in
theorem ref_parts_64_yes (s : ByteArray) (w : World) (hs : s.size ≤ 1000000) (h : pokB (sb s) 64 = true) :
    Calls Tryz.prog 72 #[.string s, .int .u8 64] w (PartsOk (sb s) w.heap.size w) := by
  have hl := sb_length s
  have hs' : s.size ≤ maxLen := by unfold maxLen; omega
  simp only [pokB, Bool.and_eq_true, decide_eq_true_eq, beq_iff_eq] at h
  obtain ⟨h255, hh, hsv⟩ := h
  have h2' : 0 < s.size := by
    rw [← hl]
    cases hq : sb s with
    | nil => rw [hq] at hh; cases hh
    | cons x r => simp
  have hb : ((s.size : Int) == 0) = false := by rw [beq_eq_false_iff_ne]; omega
  have hat := at0_sb s 0 h2'
  have hh2 := head_at (sb s) (by omega)
  rw [hh] at hh2
  have h3 : at0 (sb s) 0 = 64 := (Option.some.inj hh2).symm
  have hn : (((s[0]'h2').toNat : Int) != 64) = false := by rw [← hat, h3]; rfl
  have hct := col_tail hh (by decide)
  rw [List.drop_drop, show 1 + (colI ((sb s).drop 1) + 1) = colI (sb s) + 1 by omega] at hsv
  have hc : colI (sb s) < (sb s).length := by
    rcases Nat.lt_or_ge (colI (sb s)) (sb s).length with q | q
    · exact q
    · rw [List.drop_of_length_le (by omega), server_nil] at hsv; cases hsv
  have HC := ref_colon_yes s w hs' hc
  have ht := sb_tail s (colI (sb s) + 1)
  rw [← ht] at hsv
  have hts : (s.extract (colI (sb s) + 1) s.size).size ≤ 1000000 := size_of_sb ht (by rw [List.length_drop]; omega)
  have HS := ref_server_is _ true w hts hsv
  have ha := sb_extract s 1 (colI (sb s))
  have hfa : ((sb s).drop 1).take (colI ((sb s).drop 1)) = ((sb s).take (colI (sb s))).drop 1 := by rw [hct, List.drop_take]; rfl
  have hfb : ((sb s).drop 1).drop (colI ((sb s).drop 1) + 1) = (sb s).drop (colI (sb s) + 1) := by rw [List.drop_drop, hct, show 1 + (colI ((sb s).drop 1) + 1) = colI ((sb s).drop 1) + 1 + 1 by omega]
  rw [← ha] at hfa
  rw [← ht] at hfb
  have HA := Lib.hid hfa
  have HB := Lib.hid hfb
  have hk2 : 1 ≤ colI (sb s) := by omega
  clear hh hh2 h3 hct hsv hfa hfb ha ht hat
  generalize colI (sb s) = k at *
  rw [hl] at hc
  have hk1 : (k : Int) + 1 ≤ s.size := by omega
  have hk3 : (1 : Int) ≤ (k : Int) := by omega
  have hk4 : (k : Int) ≤ s.size := by omega
  have hk5 : (0 : Int) ≤ (k : Int) + 1 := by omega
  have hk6 : IntKind.i64.wrap ((k : Int) + 1) = (k : Int) + 1 := IntWalk.i64_in _ (by omega)
  have hk7 : ((k : Int) + 1).toNat = k + 1 := by omega
  have hk0 : decide ((k : Int) < 0) = false := by simp
  have HL := Lib.hid hl
  have H255 : s.size ≤ 255 := by omega
  clear hl h255
  go_enter Tryz.func72, Tryz.ntmps72
  go_wp2_with fail
  refine HC.mono ?_
  rintro e w' ⟨rfl, rfl⟩
  go_wp2_with fail
  refine HS.mono ?_
  rintro e w' ⟨rfl, rfl⟩
  go_wp2
  go_quiet (fail)
  go_wp2
  go_ret3
  exact ⟨_, _, ⟨HA.out.symm, HB.out.symm⟩, rfl, below_drewN (Below.refl _ _) _⟩
set_option maxHeartbeats 1000000 in
theorem ref_parts_33_no (s : ByteArray) (w : World) (hs : s.size ≤ 1000000) (h : pokB (sb s) 33 = false) :
    Calls Tryz.prog 72 #[.string s, .int .u8 33] w fun e w' => e = .returned (.tuple #[.string ⟨#[]⟩, .string ⟨#[]⟩, .bool false]) ∧ w = w' := by
  have hl := sb_length s
  have hs' : s.size ≤ maxLen := by unfold maxLen; omega
  by_cases h2 : s.size = 0
  · have hb : ((s.size : Int) == 0) = true := by rw [h2]; rfl
    clear h2 h hl
    go_enter Tryz.func72, Tryz.ntmps72
    go_wp2
    go_ret3
    exact ⟨rfl, rfl⟩
  have hb : ((s.size : Int) == 0) = false := by rw [beq_eq_false_iff_ne]; omega
  by_cases h1 : 255 < s.size
  · clear h2 h hl
    go_enter Tryz.func72, Tryz.ntmps72
    go_wp2
    go_ret3
    exact ⟨rfl, rfl⟩
  have h2' : 0 < s.size := by omega
  have hat := at0_sb s 0 h2'
  have hh := head_at (sb s) (by omega)
  have h255 : s.size ≤ 255 := by omega
  by_cases h3 : at0 (sb s) 0 = 33
  rotate_left
  · have hn : (((s[0]'h2').toNat : Int) != 33) = true := by rw [← hat, bne_iff_ne]; exact h3
    clear h2 h hl hat hh h3
    go_enter Tryz.func72, Tryz.ntmps72
    go_wp2
    go_ret3
    exact ⟨rfl, rfl⟩
  have hn : (((s[0]'h2').toNat : Int) != 33) = false := by rw [← hat, h3]; rfl
  rw [h3] at hh
  have hct := col_tail hh (by decide)
  rw [pokB, hh, decide_eq_true (show (sb s).length ≤ 255 by omega)] at h
  have hsf : serverL ((sb s).drop (colI (sb s) + 1)) = false := by
    rw [hct]
    rw [List.drop_drop] at h
    rw [show colI ((sb s).drop 1) + 1 + 1 = 1 + (colI ((sb s).drop 1) + 1) by omega]
    simpa using h
  by_cases hc : colI (sb s) < (sb s).length
  rotate_left
  · have HC := ref_colon_no s w hs' hc
    clear h2 h hl hat hh h3 hct hsf hc
    go_enter Tryz.func72, Tryz.ntmps72
    go_wp2_with fail
    refine HC.mono ?_
    rintro e w' ⟨rfl, rfl⟩
    go_wp2
    go_ret3
    exact ⟨rfl, rfl⟩
  have HC := ref_colon_yes s w hs' hc
  have ht := sb_tail s (colI (sb s) + 1)
  rw [← ht] at hsf
  have hts : (s.extract (colI (sb s) + 1) s.size).size ≤ 1000000 := size_of_sb ht (by rw [List.length_drop]; omega)
  have HS := ref_server_is _ false w hts hsf
  clear h2 h hat hh h3 hct hsf ht
  generalize colI (sb s) = k at *
  rw [hl] at hc
  have hk1 : (k : Int) + 1 ≤ s.size := by omega
  have hk0 : decide ((k : Int) < 0) = false := by simp
  clear hl
  go_enter Tryz.func72, Tryz.ntmps72
  go_wp2_with fail
  refine HC.mono ?_
  rintro e w' ⟨rfl, rfl⟩
  go_wp2_with fail
  refine HS.mono ?_
  rintro e w' ⟨rfl, rfl⟩
  go_wp2
  go_ret3
  exact ⟨rfl, rfl⟩
set_option maxHeartbeats 1000000 in
theorem ref_parts_33_yes (s : ByteArray) (w : World) (hs : s.size ≤ 1000000) (h : pokB (sb s) 33 = true) :
    Calls Tryz.prog 72 #[.string s, .int .u8 33] w (PartsOk (sb s) w.heap.size w) := by
  have hl := sb_length s
  have hs' : s.size ≤ maxLen := by unfold maxLen; omega
  simp only [pokB, Bool.and_eq_true, decide_eq_true_eq, beq_iff_eq] at h
  obtain ⟨h255, hh, hsv⟩ := h
  have h2' : 0 < s.size := by
    rw [← hl]
    cases hq : sb s with
    | nil => rw [hq] at hh; cases hh
    | cons x r => simp
  have hb : ((s.size : Int) == 0) = false := by rw [beq_eq_false_iff_ne]; omega
  have hat := at0_sb s 0 h2'
  have hh2 := head_at (sb s) (by omega)
  rw [hh] at hh2
  have h3 : at0 (sb s) 0 = 33 := (Option.some.inj hh2).symm
  have hn : (((s[0]'h2').toNat : Int) != 33) = false := by rw [← hat, h3]; rfl
  have hct := col_tail hh (by decide)
  rw [List.drop_drop, show 1 + (colI ((sb s).drop 1) + 1) = colI (sb s) + 1 by omega] at hsv
  have hc : colI (sb s) < (sb s).length := by
    rcases Nat.lt_or_ge (colI (sb s)) (sb s).length with q | q
    · exact q
    · rw [List.drop_of_length_le (by omega), server_nil] at hsv; cases hsv
  have HC := ref_colon_yes s w hs' hc
  have ht := sb_tail s (colI (sb s) + 1)
  rw [← ht] at hsv
  have hts : (s.extract (colI (sb s) + 1) s.size).size ≤ 1000000 := size_of_sb ht (by rw [List.length_drop]; omega)
  have HS := ref_server_is _ true w hts hsv
  have ha := sb_extract s 1 (colI (sb s))
  have hfa : ((sb s).drop 1).take (colI ((sb s).drop 1)) = ((sb s).take (colI (sb s))).drop 1 := by rw [hct, List.drop_take]; rfl
  have hfb : ((sb s).drop 1).drop (colI ((sb s).drop 1) + 1) = (sb s).drop (colI (sb s) + 1) := by rw [List.drop_drop, hct, show 1 + (colI ((sb s).drop 1) + 1) = colI ((sb s).drop 1) + 1 + 1 by omega]
  rw [← ha] at hfa
  rw [← ht] at hfb
  have HA := Lib.hid hfa
  have HB := Lib.hid hfb
  have hk2 : 1 ≤ colI (sb s) := by omega
  clear hh hh2 h3 hct hsv hfa hfb ha ht hat
  generalize colI (sb s) = k at *
  rw [hl] at hc
  have hk1 : (k : Int) + 1 ≤ s.size := by omega
  have hk3 : (1 : Int) ≤ (k : Int) := by omega
  have hk4 : (k : Int) ≤ s.size := by omega
  have hk5 : (0 : Int) ≤ (k : Int) + 1 := by omega
  have hk6 : IntKind.i64.wrap ((k : Int) + 1) = (k : Int) + 1 := IntWalk.i64_in _ (by omega)
  have hk7 : ((k : Int) + 1).toNat = k + 1 := by omega
  have hk0 : decide ((k : Int) < 0) = false := by simp
  have HL := Lib.hid hl
  have H255 : s.size ≤ 255 := by omega
  clear hl h255
  go_enter Tryz.func72, Tryz.ntmps72
  go_wp2_with fail
  refine HC.mono ?_
  rintro e w' ⟨rfl, rfl⟩
  go_wp2_with fail
  refine HS.mono ?_
  rintro e w' ⟨rfl, rfl⟩
  go_wp2
  go_quiet (fail)
  go_wp2
  go_ret3
  exact ⟨_, _, ⟨HA.out.symm, HB.out.symm⟩, rfl, below_drewN (Below.refl _ _) _⟩
end Go.Proofs.YthefddclefimoaaGreatDoor
namespace Go.Proofs.YthefddclefimoaaGreatDoor
open Go.RowKit
set_option linter.unusedVariables false

set_option maxHeartbeats 1000000 in
theorem ref_user_any (s : ByteArray) (w : World) (hs : s.size ≤ 1000000) :
    Calls Tryz.prog 45 #[.string s] w fun e w' => e = .returned (.bool (userL (sb s))) ∧ Below w.heap.size w w' := by
  have hp := named_pok (sb s) 64 200 userI
  cases hq : pokB (sb s) 64
  · have HF := Lib.hid (show userL (sb s) = false by rw [userL, hp, hq]; rfl)
    have HP := ref_parts_64_no s w hs hq
    clear hp hq
    go_enter Tryz.func45, Tryz.ntmps45
    go_wp2_with fail
    refine HP.mono ?_
    rintro e w' ⟨rfl, rfl⟩
    go_wp2
    go_rounds 1
    go_ret
    exact ⟨by rw [HF.out]; rfl, Below.refl _ _⟩
  have HP := ref_parts_64_yes s w hs hq
  have HF0 := Lib.hid (show userL (sb s) = madeI (((sb s).drop 1).take (colI ((sb s).drop 1))) 200 userI by rw [userL, hp, hq]; rfl)
  have h255 : (sb s).length ≤ 255 := by
    simp only [pokB, Bool.and_eq_true, decide_eq_true_eq] at hq
    exact hq.1
  clear hp hq
  go_enter Tryz.func45, Tryz.ntmps45
  go_wp2_with fail
  refine HP.mono ?_
  rintro e w1 ⟨t, b, ⟨ht, -⟩, rfl, hb1⟩
  have hts := size_of_sb (n := 255) ht (by rw [List.length_take, List.length_drop]; omega)
  have hfin : userL (sb s) = madeI (sb t) 200 userI := by rw [HF0.out, ht]
  have HF := Lib.hid hfin
  have HTL := Lib.hid (sb_length t)
  clear hfin ht HP h255
  go_wp2
  go_loop [6, 7] (fun i _ => ∃ j : Nat, j ≤ t.size ∧ i = .int .i64 j ∧ ((sb t).take j).all userI = true) (fun i _ => t.size - (intOf i).toNat)
  case atStart => exact ⟨0, Nat.zero_le _, rfl, rfl⟩
  case round =>
    obtain ⟨j, hj, rfl, hall⟩ := hrel
    have H := Lib.hid hall; clear hall
    by_cases hlt : j < t.size
    · have hlj : j < (sb t).length := by have := HTL.out; omega
      have hat := at0_sb t j hlt
      have HAt := Lib.hid hat; clear hat
      have c0 := (t[j]'hlt).toNat_lt
      cases hcs : smlI (at0 (sb t) j)
      rotate_left
      · have HSm := Lib.hid (show smlI ((t[j]'hlt).toNat : Int) = true by rw [← HAt.out]; exact hcs)
        have HX := Lib.hid hcs; clear hcs
        have HDi := HSm; have HGr := HSm
        have HK := Lib.hid (show userI (at0 (sb t) j) = true by simp [userI, HX.out])
        go_wp2_with (first | (go_at_call 73; refine (ref_small_is _ _ _ HSm.out).mono ?_; rintro e w' ⟨rfl, rfl⟩) | (go_at_call 131; refine (ref_great_is _ _ _ HGr.out).mono ?_; rintro e w' ⟨rfl, rfl⟩) | (go_at_call 74; refine (ref_digit_is _ _ _ HDi.out).mono ?_; rintro e w' ⟨rfl, rfl⟩))
        refine ⟨⟨j + 1, by omega, by go_num, ?_⟩, by simp [intOf]; omega⟩
        rw [List.take_add_one, List.getElem?_eq_getElem hlj, List.all_append, H.out, Option.toList_some, ← at0_lt hlj]
        simp [HK.out]
      have HSm := Lib.hid (show smlI ((t[j]'hlt).toNat : Int) = false by rw [← HAt.out]; exact hcs)
      have HXs := Lib.hid hcs; clear hcs
      cases hcd : digI (at0 (sb t) j)
      rotate_left
      · have HDi := Lib.hid (show digI ((t[j]'hlt).toNat : Int) = true by rw [← HAt.out]; exact hcd)
        have HX := Lib.hid hcd; clear hcd
        have HGr := HSm
        have HK := Lib.hid (show userI (at0 (sb t) j) = true by simp [userI, HX.out])
        go_wp2_with (first | (go_at_call 73; refine (ref_small_is _ _ _ HSm.out).mono ?_; rintro e w' ⟨rfl, rfl⟩) | (go_at_call 131; refine (ref_great_is _ _ _ HGr.out).mono ?_; rintro e w' ⟨rfl, rfl⟩) | (go_at_call 74; refine (ref_digit_is _ _ _ HDi.out).mono ?_; rintro e w' ⟨rfl, rfl⟩))
        refine ⟨⟨j + 1, by omega, by go_num, ?_⟩, by simp [intOf]; omega⟩
        rw [List.take_add_one, List.getElem?_eq_getElem hlj, List.all_append, H.out, Option.toList_some, ← at0_lt hlj]
        simp [HK.out]
      have HDi := Lib.hid (show digI ((t[j]'hlt).toNat : Int) = false by rw [← HAt.out]; exact hcd)
      have HXd := Lib.hid hcd; clear hcd
      have HGr := HSm
      by_cases q46 : at0 (sb t) j = 46
      · have b46 : (((t[j]'hlt).toNat : Int) != 46) = false := by rw [← HAt.out, q46]; rfl
        have HQ := Lib.hid q46; clear q46
        have HK := Lib.hid (show userI (at0 (sb t) j) = true by simp [userI, HQ.out])
        go_wp2_with (first | (go_at_call 73; refine (ref_small_is _ _ _ HSm.out).mono ?_; rintro e w' ⟨rfl, rfl⟩) | (go_at_call 131; refine (ref_great_is _ _ _ HGr.out).mono ?_; rintro e w' ⟨rfl, rfl⟩) | (go_at_call 74; refine (ref_digit_is _ _ _ HDi.out).mono ?_; rintro e w' ⟨rfl, rfl⟩))
        refine ⟨⟨j + 1, by omega, by go_num, ?_⟩, by simp [intOf]; omega⟩
        rw [List.take_add_one, List.getElem?_eq_getElem hlj, List.all_append, H.out, Option.toList_some, ← at0_lt hlj]
        simp [HK.out]
      have b46 : (((t[j]'hlt).toNat : Int) != 46) = true := by rw [← HAt.out, bne_iff_ne]; exact q46
      have Q46 := Lib.hid q46; clear q46
      by_cases q95 : at0 (sb t) j = 95
      · have b95 : (((t[j]'hlt).toNat : Int) != 95) = false := by rw [← HAt.out, q95]; rfl
        have HQ := Lib.hid q95; clear q95
        have HK := Lib.hid (show userI (at0 (sb t) j) = true by simp [userI, HQ.out])
        go_wp2_with (first | (go_at_call 73; refine (ref_small_is _ _ _ HSm.out).mono ?_; rintro e w' ⟨rfl, rfl⟩) | (go_at_call 131; refine (ref_great_is _ _ _ HGr.out).mono ?_; rintro e w' ⟨rfl, rfl⟩) | (go_at_call 74; refine (ref_digit_is _ _ _ HDi.out).mono ?_; rintro e w' ⟨rfl, rfl⟩))
        refine ⟨⟨j + 1, by omega, by go_num, ?_⟩, by simp [intOf]; omega⟩
        rw [List.take_add_one, List.getElem?_eq_getElem hlj, List.all_append, H.out, Option.toList_some, ← at0_lt hlj]
        simp [HK.out]
      have b95 : (((t[j]'hlt).toNat : Int) != 95) = true := by rw [← HAt.out, bne_iff_ne]; exact q95
      have Q95 := Lib.hid q95; clear q95
      by_cases q61 : at0 (sb t) j = 61
      · have b61 : (((t[j]'hlt).toNat : Int) != 61) = false := by rw [← HAt.out, q61]; rfl
        have HQ := Lib.hid q61; clear q61
        have HK := Lib.hid (show userI (at0 (sb t) j) = true by simp [userI, HQ.out])
        go_wp2_with (first | (go_at_call 73; refine (ref_small_is _ _ _ HSm.out).mono ?_; rintro e w' ⟨rfl, rfl⟩) | (go_at_call 131; refine (ref_great_is _ _ _ HGr.out).mono ?_; rintro e w' ⟨rfl, rfl⟩) | (go_at_call 74; refine (ref_digit_is _ _ _ HDi.out).mono ?_; rintro e w' ⟨rfl, rfl⟩))
        refine ⟨⟨j + 1, by omega, by go_num, ?_⟩, by simp [intOf]; omega⟩
        rw [List.take_add_one, List.getElem?_eq_getElem hlj, List.all_append, H.out, Option.toList_some, ← at0_lt hlj]
        simp [HK.out]
      have b61 : (((t[j]'hlt).toNat : Int) != 61) = true := by rw [← HAt.out, bne_iff_ne]; exact q61
      have Q61 := Lib.hid q61; clear q61
      by_cases q47 : at0 (sb t) j = 47
      · have b47 : (((t[j]'hlt).toNat : Int) != 47) = false := by rw [← HAt.out, q47]; rfl
        have HQ := Lib.hid q47; clear q47
        have HK := Lib.hid (show userI (at0 (sb t) j) = true by simp [userI, HQ.out])
        go_wp2_with (first | (go_at_call 73; refine (ref_small_is _ _ _ HSm.out).mono ?_; rintro e w' ⟨rfl, rfl⟩) | (go_at_call 131; refine (ref_great_is _ _ _ HGr.out).mono ?_; rintro e w' ⟨rfl, rfl⟩) | (go_at_call 74; refine (ref_digit_is _ _ _ HDi.out).mono ?_; rintro e w' ⟨rfl, rfl⟩))
        refine ⟨⟨j + 1, by omega, by go_num, ?_⟩, by simp [intOf]; omega⟩
        rw [List.take_add_one, List.getElem?_eq_getElem hlj, List.all_append, H.out, Option.toList_some, ← at0_lt hlj]
        simp [HK.out]
      have b47 : (((t[j]'hlt).toNat : Int) != 47) = true := by rw [← HAt.out, bne_iff_ne]; exact q47
      have Q47 := Lib.hid q47; clear q47
      by_cases q43 : at0 (sb t) j = 43
      · have b43 : (((t[j]'hlt).toNat : Int) != 43) = false := by rw [← HAt.out, q43]; rfl
        have HQ := Lib.hid q43; clear q43
        have HK := Lib.hid (show userI (at0 (sb t) j) = true by simp [userI, HQ.out])
        go_wp2_with (first | (go_at_call 73; refine (ref_small_is _ _ _ HSm.out).mono ?_; rintro e w' ⟨rfl, rfl⟩) | (go_at_call 131; refine (ref_great_is _ _ _ HGr.out).mono ?_; rintro e w' ⟨rfl, rfl⟩) | (go_at_call 74; refine (ref_digit_is _ _ _ HDi.out).mono ?_; rintro e w' ⟨rfl, rfl⟩))
        refine ⟨⟨j + 1, by omega, by go_num, ?_⟩, by simp [intOf]; omega⟩
        rw [List.take_add_one, List.getElem?_eq_getElem hlj, List.all_append, H.out, Option.toList_some, ← at0_lt hlj]
        simp [HK.out]
      have b43 : (((t[j]'hlt).toNat : Int) != 43) = true := by rw [← HAt.out, bne_iff_ne]; exact q43
      have Q43 := Lib.hid q43; clear q43
      by_cases q45 : at0 (sb t) j = 45
      · have b45 : (((t[j]'hlt).toNat : Int) != 45) = false := by rw [← HAt.out, q45]; rfl
        have HQ := Lib.hid q45; clear q45
        have HK := Lib.hid (show userI (at0 (sb t) j) = true by simp [userI, HQ.out])
        go_wp2_with (first | (go_at_call 73; refine (ref_small_is _ _ _ HSm.out).mono ?_; rintro e w' ⟨rfl, rfl⟩) | (go_at_call 131; refine (ref_great_is _ _ _ HGr.out).mono ?_; rintro e w' ⟨rfl, rfl⟩) | (go_at_call 74; refine (ref_digit_is _ _ _ HDi.out).mono ?_; rintro e w' ⟨rfl, rfl⟩))
        refine ⟨⟨j + 1, by omega, by go_num, ?_⟩, by simp [intOf]; omega⟩
        rw [List.take_add_one, List.getElem?_eq_getElem hlj, List.all_append, H.out, Option.toList_some, ← at0_lt hlj]
        simp [HK.out]
      have b45 : (((t[j]'hlt).toNat : Int) != 45) = true := by rw [← HAt.out, bne_iff_ne]; exact q45
      have Q45 := Lib.hid q45; clear q45
      have HK := Lib.hid (show userI (at0 (sb t) j) = false by simp [userI, HXs.out, HXd.out, Q46.out, Q95.out, Q61.out, Q47.out, Q43.out, Q45.out])
      go_wp2_with (first | (go_at_call 73; refine (ref_small_is _ _ _ HSm.out).mono ?_; rintro e w' ⟨rfl, rfl⟩) | (go_at_call 131; refine (ref_great_is _ _ _ HGr.out).mono ?_; rintro e w' ⟨rfl, rfl⟩) | (go_at_call 74; refine (ref_digit_is _ _ _ HDi.out).mono ?_; rintro e w' ⟨rfl, rfl⟩))
      go_ret
      refine ⟨?_, hb1⟩
      have : (sb t).all userI = false := by rw [List.all_eq_false]; exact ⟨_, at0_mem hlj, by rw [HK.out]; decide⟩
      rw [HF.out, madeI, this]; simp
    · obtain rfl : j = t.size := by omega
      have hall : (sb t).all userI = true := by
        have h := H.out
        rwa [List.take_of_length_le (by have := HTL.out; omega)] at h
      have HALL := Lib.hid hall; clear hall hlt hj
      have hfin : userL (sb s) = (decide (1 ≤ t.size) && decide ((t.size : Int) ≤ 200)) := by
        rw [HF.out, madeI, HALL.out, HTL.out]
        simp
      have HFIN := Lib.hid hfin; clear hfin
      by_cases h1 : 1 ≤ t.size
      · by_cases h5 : t.size ≤ 200
        · have b1 : decide ((1 : Int) ≤ (t.size : Int)) = true := by simp; omega
          have b5 : decide ((t.size : Int) ≤ 200) = true := by simp; omega
          go_wp2
          go_ret
          refine ⟨?_, hb1⟩
          rw [HFIN.out, b5, decide_eq_true h1]; rfl
        · have b1 : decide ((1 : Int) ≤ (t.size : Int)) = true := by simp; omega
          have b5 : decide ((t.size : Int) ≤ 200) = false := by simp; omega
          go_wp2
          go_ret
          refine ⟨?_, hb1⟩
          rw [HFIN.out, b5, decide_eq_true h1]; rfl
      · have b1 : decide ((1 : Int) ≤ (t.size : Int)) = false := by simp; omega
        go_wp2
        go_ret
        refine ⟨?_, hb1⟩
        rw [HFIN.out, decide_eq_false h1]; rfl
end Go.Proofs.YthefddclefimoaaGreatDoor
namespace Go.Proofs.YthefddclefimoaaGreatDoor
open Go.RowKit
set_option linter.unusedVariables false
set_option linter.unusedSimpArgs false
set_option maxRecDepth 8000

set_option maxHeartbeats 1000000 in
theorem secret_v (s : ByteArray) (w : World) (L : List Nat) (hL : LL L w)   (hs : s.size ≤ 140737488355328) : CV Tryz.prog 44 [.string s] w fun v W => v = .bool (wordB s) := by
  refine cv_enter (N := 28) (f := [(0, .string s)]) Tryz.func44 rfl rfl rfl rfl fun Q hQ hE => ?_
  have hB := Below.refl w.heap.size w
  refine WC.seq fun K1 hK1 => ?_
  refine WC.region ?_
  refine WL.val (dx_assign rfl rfl) rfl rfl ?_
  refine WL.nil ?_
  refine hK1 ?_
  refine WC.seq fun K2 hK2 => ?_
  refine WC.seq fun K3 hK3 => ?_
  refine WC.region ?_
  refine WL.val (dx_assign rfl rfl) rfl rfl ?_
  refine WL.nil ?_
  refine hK3 ?_
  refine WC.block ?_
  refine WC.loop (fun (i : Nat) => [(0, .string s), (2, .bool false), (3, .int .i64 (i : Int))]) (fun (i : Nat) W => i ≤ s.size ∧ (∀ k, k < i → okB s k = true) ∧ Below w.heap.size w W ∧ LL (L) W) (fun (i : Nat) => s.size - i) 0 (by repeat first | exact trivial | exact And.intro rfl trivial | refine And.intro rfl ?_ | refine And.intro (congrArg (fun z : Int => some (Value.int .i64 z)) (by omega)) ?_) ⟨Nat.zero_le _, (fun k hk => by omega), hB, hL⟩ ?_
  clear hB hL
  rintro K4 i W5 ⟨hi, hv, hB, hL⟩ hK4
  refine WC.seq fun K6 hK6 => ?_
  refine WC.seq fun K7 hK7 => ?_
  refine WC.region ?_
  refine WL.val (dx_move rfl rfl) rfl rfl ?_
  refine WL.val (dx_move rfl rfl) rfl rfl ?_
  refine WL.val (dx_lenT rfl Tryz.underlying9 rfl) rfl rfl ?_
  refine WL.val (dx_lss rfl rfl rfl) rfl rfl ?_
  refine WL.nil ?_
  refine hK7 ?_
  refine WC.cond rfl (fun c8 => ?_) (fun c8 => ?_)
  ·
    replace c8 := of_decide_eq_true c8
    refine WC.skip ?_
    refine hK6 ?_
    refine WC.seq fun K9 hK9 => ?_
    refine WC.block ?_
    refine WC.seq fun K10 hK10 => ?_
    refine WC.region ?_
    refine WL.val (dx_move rfl rfl) rfl rfl ?_
    refine WL.val (dx_move rfl rfl) rfl rfl ?_
    refine WL.val (dx_at i rfl Tryz.underlying9 rfl rfl (by omega) (by omega)) rfl rfl ?_
    refine WL.val (dx_lss rfl rfl rfl) rfl rfl ?_
    refine WL.val (dx_move rfl rfl) rfl rfl ?_
    refine WL.split 14 rfl (fun g11 => ?_) (fun g11 => ?_)
    ·
      replace g11 := of_decide_eq_true g11
      refine WL.off rfl rfl rfl ?_
      refine WL.off rfl rfl rfl ?_
      refine WL.off rfl rfl rfl ?_
      refine WL.off rfl rfl rfl ?_
      refine WL.val (dx_pick rfl rfl rfl) rfl rfl ?_
      refine WL.nil ?_
      refine hK10 ?_
      refine WC.condT rfl ?_
      refine WC.seq fun K12 hK12 => ?_
      refine WC.region ?_
      refine WL.val (dx_assign rfl rfl) rfl rfl ?_
      refine WL.nil ?_
      refine hK12 ?_
      refine WC.ret fun a_ ha_ => ?_
      exact hQ (cv_ret1 rfl (.tmp rfl) (by first | (rw [word_f (by first | exact .inr (.inr ⟨i, by omega, by unfold okB; rw [Bool.and_eq_false_iff, decide_eq_false_iff_not, decide_eq_false_iff_not]; omega⟩))]; done) | (rw [word_f (.inl (by omega))]; done) | (by_cases h64 : s.size ≤ 64; rw [word_t (by omega) h64 (fun k hk => hv k (by omega)), decide_eq_true (by omega)]; rw [word_f (.inr (.inl (by omega))), decide_eq_false (by omega)])) hB ha_)
    ·
      replace g11 := of_decide_eq_false g11
      refine WL.val (dx_move rfl rfl) rfl rfl ?_
      refine WL.val (dx_move rfl rfl) rfl rfl ?_
      refine WL.val (dx_at i rfl Tryz.underlying9 rfl rfl (by omega) (by omega)) rfl rfl ?_
      refine WL.val (dx_gtr rfl rfl rfl) rfl rfl ?_
      refine WL.val (dx_pick rfl rfl rfl) rfl rfl ?_
      refine WL.nil ?_
      refine hK10 ?_
      refine WC.cond rfl (fun c13 => ?_) (fun c13 => ?_)
      ·
        replace c13 := of_decide_eq_true c13
        refine WC.seq fun K14 hK14 => ?_
        refine WC.region ?_
        refine WL.val (dx_assign rfl rfl) rfl rfl ?_
        refine WL.nil ?_
        refine hK14 ?_
        refine WC.ret fun a_ ha_ => ?_
        exact hQ (cv_ret1 rfl (.tmp rfl) (by first | (rw [word_f (by first | exact .inr (.inr ⟨i, by omega, by unfold okB; rw [Bool.and_eq_false_iff, decide_eq_false_iff_not, decide_eq_false_iff_not]; omega⟩))]; done) | (rw [word_f (.inl (by omega))]; done) | (by_cases h64 : s.size ≤ 64; rw [word_t (by omega) h64 (fun k hk => hv k (by omega)), decide_eq_true (by omega)]; rw [word_f (.inr (.inl (by omega))), decide_eq_false (by omega)])) hB ha_)
      ·
        replace c13 := of_decide_eq_false c13
        refine WC.skip ?_
        refine hK9 ?_
        refine WC.region ?_
        refine WL.val (dx_move rfl rfl) rfl rfl ?_
        refine WL.val (dx_add (r := (i : Int) + 1) rfl rfl rfl (wrap64_id (by omega))) rfl rfl ?_
        refine WL.val (dx_assign rfl rfl) rfl rfl ?_
        refine WL.nil ?_
        exact hK4 (i + 1) ⟨(by omega), (fun k hk => by rcases Nat.lt_or_ge k i with h | h; exact hv k h; have e : k = i := (by omega); subst e; unfold okB; simp; omega), hB, hL⟩ (by omega) (by repeat first | exact trivial | exact And.intro rfl trivial | refine And.intro rfl ?_ | refine And.intro (congrArg (fun z : Int => some (Value.int .i64 z)) (by omega)) ?_)
  ·
    replace c8 := of_decide_eq_false c8
    refine WC.exit ?_
    refine hK2 ?_
    refine WC.seq fun K15 hK15 => ?_
    refine WC.region ?_
    refine WL.val (dx_move rfl rfl) rfl rfl ?_
    refine WL.val (dx_lenT rfl Tryz.underlying9 rfl) rfl rfl ?_
    refine WL.val (dx_geq rfl rfl rfl) rfl rfl ?_
    refine WL.val (dx_move rfl rfl) rfl rfl ?_
    refine WL.split 23 rfl (fun g16 => ?_) (fun g16 => ?_)
    ·
      replace g16 := of_decide_eq_true g16
      refine WL.val (dx_move rfl rfl) rfl rfl ?_
      refine WL.val (dx_lenT rfl Tryz.underlying9 rfl) rfl rfl ?_
      refine WL.val (dx_leq rfl rfl rfl) rfl rfl ?_
      refine WL.val (dx_pick rfl rfl rfl) rfl rfl ?_
      refine WL.val (dx_assign rfl rfl) rfl rfl ?_
      refine WL.nil ?_
      refine hK15 ?_
      refine WC.ret fun a_ ha_ => ?_
      exact hQ (cv_ret1 rfl (.tmp rfl) (by first | (rw [word_f (by first | exact .inr (.inr ⟨i, by omega, by unfold okB; rw [Bool.and_eq_false_iff, decide_eq_false_iff_not, decide_eq_false_iff_not]; omega⟩))]; done) | (rw [word_f (.inl (by omega))]; done) | (by_cases h64 : s.size ≤ 64; rw [word_t (by omega) h64 (fun k hk => hv k (by omega)), decide_eq_true (by omega)]; rw [word_f (.inr (.inl (by omega))), decide_eq_false (by omega)])) hB ha_)
    ·
      replace g16 := of_decide_eq_false g16
      refine WL.off rfl rfl rfl ?_
      refine WL.off rfl rfl rfl ?_
      refine WL.off rfl rfl rfl ?_
      refine WL.val (dx_pick rfl rfl rfl) rfl rfl ?_
      refine WL.val (dx_assign rfl rfl) rfl rfl ?_
      refine WL.nil ?_
      refine hK15 ?_
      refine WC.ret fun a_ ha_ => ?_
      exact hQ (cv_ret1 rfl (.tmp rfl) (by first | (rw [word_f (by first | exact .inr (.inr ⟨i, by omega, by unfold okB; rw [Bool.and_eq_false_iff, decide_eq_false_iff_not, decide_eq_false_iff_not]; omega⟩))]; done) | (rw [word_f (.inl (by omega))]; done) | (by_cases h64 : s.size ≤ 64; rw [word_t (by omega) h64 (fun k hk => hv k (by omega)), decide_eq_true (by omega)]; rw [word_f (.inr (.inl (by omega))), decide_eq_false (by omega)])) hB ha_)

/-- The texts are as great as a memory bears. -/
def SzT (ts : List ByteArray) : Prop := ∀ t ∈ ts, t.size ≤ 140737488355328
def SzU (xs : List UserX) : Prop := ∀ u ∈ xs, u.1.size ≤ 140737488355328 ∧ SzT u.2.2.2
abbrev e0 : ByteArray := ⟨#[]⟩
set_option maxHeartbeats 1000000 in
theorem refPartsBig_v (s : ByteArray) (w : World) (L : List Nat) (hL : LL L w)   (h : 255 < s.size) : CV Tryz.prog 72 [.string s, .int .u8 64] w fun v W => v = .tuple #[.string ⟨#[]⟩, .string ⟨#[]⟩, .bool false] := by
  refine cv_enter (N := 41) (f := [(0, .string s), (1, .int .u8 64)]) Tryz.func72 rfl rfl rfl rfl fun Q hQ hE => ?_
  have hB := Below.refl w.heap.size w
  refine WC.seq fun K1 hK1 => ?_
  refine WC.region ?_
  refine WL.val (dx_assign rfl rfl) rfl rfl ?_
  refine WL.val (dx_assign rfl rfl) rfl rfl ?_
  refine WL.val (dx_assign rfl rfl) rfl rfl ?_
  refine WL.nil ?_
  refine hK1 ?_
  refine WC.seq fun K2 hK2 => ?_
  refine WC.seq fun K3 hK3 => ?_
  refine WC.region ?_
  refine WL.val (dx_move rfl rfl) rfl rfl ?_
  refine WL.val (dx_lenT rfl Tryz.underlying9 rfl) rfl rfl ?_
  refine WL.val (dx_eql rfl rfl rfl) rfl rfl ?_
  refine WL.val (dx_move rfl rfl) rfl rfl ?_
  refine WL.split 11 rfl (fun g4 => ?_) (fun g4 => ?_)
  ·
    replace g4 := of_decide_eq_true g4
    refine WL.off rfl rfl rfl ?_
    refine WL.off rfl rfl rfl ?_
    refine WL.off rfl rfl rfl ?_
    refine WL.val (dx_pick rfl rfl rfl) rfl rfl ?_
    refine WL.val (dx_move rfl rfl) rfl rfl ?_
    refine WL.off rfl rfl rfl ?_
    refine WL.off rfl rfl rfl ?_
    refine WL.off rfl rfl rfl ?_
    refine WL.off rfl rfl rfl ?_
    refine WL.val (dx_pick rfl rfl rfl) rfl rfl ?_
    refine WL.nil ?_
    refine hK3 ?_
    refine WC.condT rfl ?_
    refine WC.seq fun K5 hK5 => ?_
    refine WC.region ?_
    refine WL.val (dx_assign rfl rfl) rfl rfl ?_
    refine WL.val (dx_assign rfl rfl) rfl rfl ?_
    refine WL.val (dx_assign rfl rfl) rfl rfl ?_
    refine WL.nil ?_
    refine hK5 ?_
    refine WC.ret fun a_ ha_ => ?_
    exact hQ (cv_ret3 rfl (.tmp rfl) (.tmp rfl) (.tmp rfl) rfl hB ha_)
  ·
    replace g4 := of_decide_eq_false g4
    refine WL.val (dx_move rfl rfl) rfl rfl ?_
    refine WL.val (dx_lenT rfl Tryz.underlying9 rfl) rfl rfl ?_
    refine WL.val (dx_gtr rfl rfl rfl) rfl rfl ?_
    refine WL.val (dx_pick rfl rfl rfl) rfl rfl ?_
    refine WL.val (dx_move rfl rfl) rfl rfl ?_
    refine WL.split 16 rfl (fun g6 => ?_) (fun g6 => ?_)
    ·
      replace g6 := of_decide_eq_true g6
      refine WL.off rfl rfl rfl ?_
      refine WL.off rfl rfl rfl ?_
      refine WL.off rfl rfl rfl ?_
      refine WL.off rfl rfl rfl ?_
      refine WL.val (dx_pick rfl rfl rfl) rfl rfl ?_
      refine WL.nil ?_
      refine hK3 ?_
      refine WC.condT rfl ?_
      refine WC.seq fun K7 hK7 => ?_
      refine WC.region ?_
      refine WL.val (dx_assign rfl rfl) rfl rfl ?_
      refine WL.val (dx_assign rfl rfl) rfl rfl ?_
      refine WL.val (dx_assign rfl rfl) rfl rfl ?_
      refine WL.nil ?_
      refine hK7 ?_
      refine WC.ret fun a_ ha_ => ?_
      exact hQ (cv_ret3 rfl (.tmp rfl) (.tmp rfl) (.tmp rfl) rfl hB ha_)
    ·
      replace g6 := of_decide_eq_false g6
      exfalso; omega

set_option maxHeartbeats 1000000 in
theorem refUserBig_v (s : ByteArray) (w : World) (L : List Nat) (hL : LL L w)   (h : 255 < s.size) : CV Tryz.prog 45 [.string s] w fun v W => v = .bool false := by
  refine cv_enter (N := 66) (f := [(0, .string s)]) Tryz.func45 rfl rfl rfl rfl fun Q hQ hE => ?_
  have hB := Below.refl w.heap.size w
  refine WC.seq fun K1 hK1 => ?_
  refine WC.region ?_
  refine WL.val (dx_assign rfl rfl) rfl rfl ?_
  refine WL.nil ?_
  refine hK1 ?_
  refine WC.seq fun K2 hK2 => ?_
  refine WC.region ?_
  refine WL.val (dx_move rfl rfl) rfl rfl ?_
  refine WL.get (dx_cv rfl Tryz.func72 rfl rfl rfl (refPartsBig_v s w [] (LL.nil _) h)) rfl rfl ?_
  rintro _ W4 ⟨rfl, b3⟩
  replace hB := below_then hB b3
  replace hL := LL.below hL b3
  refine WL.val (dx_move rfl rfl) rfl rfl ?_
  refine WL.val (dx_extract rfl rfl rfl) rfl rfl ?_
  refine WL.val (dx_extract rfl rfl rfl) rfl rfl ?_
  refine WL.val (dx_extract rfl rfl rfl) rfl rfl ?_
  refine WL.val (dx_assign rfl rfl) rfl rfl ?_
  refine WL.val (dx_assign rfl rfl) rfl rfl ?_
  refine WL.val (dx_assign rfl rfl) rfl rfl ?_
  refine WL.nil ?_
  refine hK2 ?_
  refine WC.seq fun K5 hK5 => ?_
  refine WC.seq fun K6 hK6 => ?_
  refine WC.region ?_
  refine WL.val (dx_assign rfl rfl) rfl rfl ?_
  refine WL.nil ?_
  refine hK6 ?_
  refine WC.block ?_
  refine WC.loop (fun (i : Nat) => [(0, .string s), (2, .bool false), (3, .string e0), (4, .string e0), (5, .bool false), (6, .int .i64 (i : Int))]) (fun (i : Nat) W => i = 0 ∧ Below w.heap.size w W ∧ LL (L) W) (fun (i : Nat) => i) 0 (by repeat first | exact trivial | exact And.intro rfl trivial | refine And.intro rfl ?_ | refine And.intro (congrArg (fun z : Int => some (Value.int .i64 z)) (by omega)) ?_) ⟨rfl, hB, hL⟩ ?_
  clear hB hL
  rintro K7 i W8 ⟨hi, hB, hL⟩ hK7
  refine WC.seq fun K9 hK9 => ?_
  refine WC.seq fun K10 hK10 => ?_
  refine WC.region ?_
  refine WL.val (dx_move rfl rfl) rfl rfl ?_
  refine WL.val (dx_move rfl rfl) rfl rfl ?_
  refine WL.val (dx_lenT rfl Tryz.underlying9 rfl) rfl rfl ?_
  refine WL.val (dx_lss rfl rfl rfl) rfl rfl ?_
  refine WL.nil ?_
  refine hK10 ?_
  refine WC.cond rfl (fun c11 => ?_) (fun c11 => ?_)
  ·
    replace c11 := of_decide_eq_true c11
    exfalso; have he0 : (e0.size : Int) = 0 := rfl; omega
  ·
    replace c11 := of_decide_eq_false c11
    refine WC.exit ?_
    refine hK5 ?_
    refine WC.seq fun K12 hK12 => ?_
    refine WC.region ?_
    refine WL.val (dx_move rfl rfl) rfl rfl ?_
    refine WL.val (dx_move rfl rfl) rfl rfl ?_
    refine WL.off rfl rfl rfl ?_
    refine WL.off rfl rfl rfl ?_
    refine WL.off rfl rfl rfl ?_
    refine WL.val (dx_pick rfl rfl rfl) rfl rfl ?_
    refine WL.val (dx_move rfl rfl) rfl rfl ?_
    refine WL.off rfl rfl rfl ?_
    refine WL.off rfl rfl rfl ?_
    refine WL.off rfl rfl rfl ?_
    refine WL.val (dx_pick rfl rfl rfl) rfl rfl ?_
    refine WL.val (dx_assign rfl rfl) rfl rfl ?_
    refine WL.nil ?_
    refine hK12 ?_
    refine WC.ret fun a_ ha_ => ?_
    exact hQ (cv_ret1 rfl (.tmp rfl) rfl hB ha_)

theorem refUser_v (s : ByteArray) (w : World) : CV Tryz.prog 45 [.string s] w fun v W => v = .bool (userB s) := by
  by_cases h : 255 < s.size
  · have e : userB s = false := by
      have hl := sb_length s
      unfold userB
      rw [userL, namedL, decide_eq_false (by omega)]
      rfl
    rw [e]
    exact refUserBig_v s w [] (LL.nil _) h
  · exact (ref_user_any s w (by omega)).mono fun e w' ⟨h1, h2⟩ => ⟨_, h1, rfl, h2⟩
abbrev plcU (xs : List UserX) (tok : ByteArray) : Int := idxX (tokP tok) xs 0
set_option maxHeartbeats 1000000 in
theorem place_v (xs : List UserX) (tok : ByteArray) (sv : Value) (w : World) (L : List Nat) (hL : LL L w) (h1 : RdF 3 L w sv (xs.map encU)) (h2 : AgU L w xs) : CV Tryz.prog 46 [sv, .string tok] w fun v W => v = .int .i64 (plcU xs tok) := by
  refine cv_enter (N := 20) (f := [(0, sv), (1, .string tok)]) Tryz.func46 rfl rfl rfl rfl fun Q hQ hE => ?_
  have hB := Below.refl w.heap.size w
  have h1m : xs.length ≤ maxLen := by have := h1.len; rwa [List.length_map] at this
  unfold maxLen at h1m
  refine WC.seq fun K1 hK1 => ?_
  refine WC.region ?_
  refine WL.val (dx_assign rfl rfl) rfl rfl ?_
  refine WL.nil ?_
  refine hK1 ?_
  refine WC.seq fun K2 hK2 => ?_
  refine WC.seq fun K3 hK3 => ?_
  refine WC.region ?_
  refine WL.val (dx_assign rfl rfl) rfl rfl ?_
  refine WL.nil ?_
  refine hK3 ?_
  refine WC.block ?_
  refine WC.loop (fun (i : Nat) => [(0, sv), (1, .string tok), (4, .int .i64 0), (5, .int .i64 (i : Int))]) (fun (i : Nat) W => i ≤ xs.length ∧ idxX (tokP tok) xs 0 = idxX (tokP tok) (xs.drop i) i ∧ Below w.heap.size w W ∧ LL (L) W ∧ RdF 3 (L) W sv (xs.map encU) ∧ AgU (L) W xs) (fun (i : Nat) => xs.length - i) 0 (by repeat first | exact trivial | exact And.intro rfl trivial | refine And.intro rfl ?_ | refine And.intro (congrArg (fun z : Int => some (Value.int .i64 z)) (by omega)) ?_) ⟨Nat.zero_le _, rfl, hB, hL, h1, h2⟩ ?_
  clear h1 h2 hB hL
  rintro K4 i W5 ⟨hi, hv, hB, hL, h1, h2⟩ hK4
  refine WC.seq fun K6 hK6 => ?_
  refine WC.seq fun K7 hK7 => ?_
  refine WC.region ?_
  refine WL.val (dx_move rfl rfl) rfl rfl ?_
  refine WL.val (dx_move rfl rfl) rfl rfl ?_
  refine WL.val (dx_lenX rfl ty_slice_22 rfl h1) rfl rfl ?_
  refine WL.val (dx_lss rfl rfl rfl) rfl rfl ?_
  refine WL.nil ?_
  refine hK7 ?_
  refine WC.cond rfl (fun c8 => ?_) (fun c8 => ?_)
  ·
    replace c8 := of_decide_eq_true c8
    refine WC.skip ?_
    refine hK6 ?_
    refine WC.seq fun K9 hK9 => ?_
    refine WC.block ?_
    refine WC.seq fun K10 hK10 => ?_
    refine WC.region ?_
    refine WL.val (dx_move rfl rfl) rfl rfl ?_
    refine WL.val (dx_move rfl rfl) rfl rfl ?_
    obtain ⟨r11, e12⟩ : ∃ x, xs[i]? = some x := ⟨_, List.getElem?_eq_getElem (by omega)⟩
    refine WL.get (dx_idxF i rfl ty_slice_22 rfl rfl h1 (by omega) (at_mapX e12)) rfl rfl ?_
    rintro u13 _ ⟨rfl, p14⟩
    refine WL.get (dx_fldP 1 rfl ty_fld_54_0_0 rfl p14 (cs' := [.string r11.1]) rfl (Nat.succ_pos _)) rfl rfl ?_
    rintro u15 _ ⟨rfl, p16⟩
    refine WL.val (dx_loadP rfl ty_one_9 rfl p16) rfl rfl ?_
    refine WL.val (dx_move rfl rfl) rfl rfl ?_
    refine WL.val (dx_eqlT rfl rfl rfl) rfl rfl ?_
    refine WL.nil ?_
    refine hK10 ?_
    refine WC.cond rfl (fun c17 => ?_) (fun c17 => ?_)
    ·
      replace c17 := of_decide_eq_true c17
      refine WC.seq fun K18 hK18 => ?_
      refine WC.region ?_
      refine WL.val (dx_move rfl rfl) rfl rfl ?_
      refine WL.val (dx_assign rfl rfl) rfl rfl ?_
      refine WL.nil ?_
      refine hK18 ?_
      refine WC.ret fun a_ ha_ => ?_
      exact hQ (cv_ret1 rfl (.tmp rfl) (by unfold plcU; rw [hv, idxX_here e12 (decide_eq_true (by assumption))]) hB ha_)
    ·
      replace c17 := of_decide_eq_false c17
      refine WC.skip ?_
      refine hK9 ?_
      refine WC.region ?_
      refine WL.val (dx_move rfl rfl) rfl rfl ?_
      refine WL.val (dx_add (r := (i : Int) + 1) rfl rfl rfl (wrap64_id (by omega))) rfl rfl ?_
      refine WL.val (dx_assign rfl rfl) rfl rfl ?_
      refine WL.nil ?_
      exact hK4 (i + 1) ⟨(by omega), (by rw [hv]; exact idxX_step e12 (decide_eq_false (by assumption))), hB, hL, h1, h2⟩ (by omega) (by repeat first | exact trivial | exact And.intro rfl trivial | refine And.intro rfl ?_ | refine And.intro (congrArg (fun z : Int => some (Value.int .i64 z)) (by omega)) ?_)
  ·
    replace c8 := of_decide_eq_false c8
    refine WC.exit ?_
    refine hK2 ?_
    refine WC.seq fun K19 hK19 => ?_
    refine WC.region ?_
    refine WL.val (dx_assign rfl rfl) rfl rfl ?_
    refine WL.nil ?_
    refine hK19 ?_
    refine WC.ret fun a_ ha_ => ?_
    exact hQ (cv_ret1 rfl (.tmp rfl) (by unfold plcU; rw [hv, idxX_end (by omega)]) hB ha_)

theorem rr_f {xs : List UserX} {i : Nat} {x y : UserX} {a c d : Bool} (hj : xs[i - 1]? = some y) (hi : xs[i]? = some x) (h1 : a = !wordB x.1) (h2 : c = (a || !userB x.2.1)) (h3 : d = (!c && decide (0 < (i : Int)))) (h : (c || (d && !sless y.1 x.1)) = true) : rightU xs = false := by
  cases hw : wordB x.1 with
  | false => exact right_f2 hi (by unfold goodU; rw [hw]; rfl)
  | true =>
    cases hu : userB x.2.1 with
    | false => exact right_f2 hi (by unfold goodU; rw [hw, hu]; rfl)
    | true =>
      rw [hw] at h1
      subst h1
      rw [hu] at h2
      subst h2
      subst h3
      simp only [Bool.not_true, Bool.or_false, Bool.not_false, Bool.true_and, Bool.false_or, Bool.and_eq_true, decide_eq_true_eq, Bool.not_eq_true'] at h
      exact right_f3 hj hi (by omega) h.2
theorem rr_s {xs : List UserX} {i : Nat} {x y : UserX} {a c d : Bool} (hv : ∀ k a, k < i → xs[k]? = some a → goodU a = true) (hu : ∀ k a b, k + 1 < i → xs[k]? = some a → xs[k + 1]? = some b → (fun a b : UserX => sless a.1 b.1) a b = true) (hj : xs[i - 1]? = some y) (hi : xs[i]? = some x) (h1 : a = !wordB x.1) (h2 : c = (a || !userB x.2.1)) (h3 : d = (!c && decide (0 < (i : Int)))) (h4 : c = false) (h5 : (d && !sless y.1 x.1) = false) (hr : risingB x.2.2.2 = true) :
    (∀ k a, k < i + 1 → xs[k]? = some a → goodU a = true) ∧ (∀ k a b, k + 1 < i + 1 → xs[k]? = some a → xs[k + 1]? = some b → (fun a b : UserX => sless a.1 b.1) a b = true) := by
  subst h4
  have h2' := h2.symm
  rw [Bool.or_eq_false_iff] at h2'
  have hU : userB x.2.1 = true := by simpa using h2'.2
  have hW : wordB x.1 = true := by rw [h2'.1] at h1; simpa using h1.symm
  refine ⟨good_step hv hi (by unfold goodU; rw [hW, hU, hr]; rfl), ?_⟩
  by_cases h0 : 0 < i
  · refine up_step hu hj hi (by omega) ?_
    rw [decide_eq_true (by omega)] at h3
    subst h3
    simpa using h5
  · exact up_step0 h0
set_option maxHeartbeats 1000000 in
theorem refRight_v (xs : List UserX) (sv : Value) (w : World) (L : List Nat) (hL : LL L w) (h1 : RdF 3 L w sv (xs.map encU)) (h2 : AgU L w xs)  (hz : SzU xs) : CV Tryz.prog 17 [sv] w fun v W => v = .bool (rightU xs) := by
  refine cv_enter (N := 82) (f := [(0, sv)]) Tryz.func17 rfl rfl rfl rfl fun Q hQ hE => ?_
  have hB := Below.refl w.heap.size w
  have h1m : xs.length ≤ maxLen := by have := h1.len; rwa [List.length_map] at this
  unfold maxLen at h1m
  refine WC.seq fun K1 hK1 => ?_
  refine WC.region ?_
  refine WL.val (dx_assign rfl rfl) rfl rfl ?_
  refine WL.nil ?_
  refine hK1 ?_
  refine WC.seq fun K2 hK2 => ?_
  refine WC.seq fun K3 hK3 => ?_
  refine WC.region ?_
  refine WL.val (dx_move rfl rfl) rfl rfl ?_
  refine WL.val (dx_lenX rfl ty_slice_22 rfl h1) rfl rfl ?_
  refine WL.val (dx_gtr rfl rfl rfl) rfl rfl ?_
  refine WL.nil ?_
  refine hK3 ?_
  refine WC.cond rfl (fun c4 => ?_) (fun c4 => ?_)
  ·
    replace c4 := of_decide_eq_true c4
    refine WC.seq fun K5 hK5 => ?_
    refine WC.region ?_
    refine WL.val (dx_assign rfl rfl) rfl rfl ?_
    refine WL.nil ?_
    refine hK5 ?_
    refine WC.ret fun a_ ha_ => ?_
    exact hQ (cv_ret1 rfl (.tmp rfl) (by rw [show rightU xs = false from right_f1 (by omega)]) hB ha_)
  ·
    replace c4 := of_decide_eq_false c4
    refine WC.skip ?_
    refine hK2 ?_
    refine WC.seq fun K6 hK6 => ?_
    refine WC.seq fun K7 hK7 => ?_
    refine WC.region ?_
    refine WL.val (dx_assign rfl rfl) rfl rfl ?_
    refine WL.nil ?_
    refine hK7 ?_
    refine WC.block ?_
    refine WC.loop (fun (i : Nat) => [(0, sv), (2, .bool false), (3, .int .i64 (i : Int))]) (fun (i : Nat) W => i ≤ xs.length ∧ (∀ k a, k < i → xs[k]? = some a → goodU a = true) ∧ (∀ k a b, k + 1 < i → xs[k]? = some a → xs[k + 1]? = some b → (fun a b => sless a.1 b.1) a b = true) ∧ Below w.heap.size w W ∧ LL (L) W ∧ RdF 3 (L) W sv (xs.map encU) ∧ AgU (L) W xs) (fun (i : Nat) => xs.length - i) 0 (by repeat first | exact trivial | exact And.intro rfl trivial | refine And.intro rfl ?_ | refine And.intro (congrArg (fun z : Int => some (Value.int .i64 z)) (by omega)) ?_) ⟨Nat.zero_le _, (fun k a hk => by omega), (fun k a b hk => by omega), hB, hL, h1, h2⟩ ?_
    clear h1 h2 hB hL
    rintro K8 i W9 ⟨hi, hv, hu, hB, hL, h1, h2⟩ hK8
    refine WC.seq fun K10 hK10 => ?_
    refine WC.seq fun K11 hK11 => ?_
    refine WC.region ?_
    refine WL.val (dx_move rfl rfl) rfl rfl ?_
    refine WL.val (dx_move rfl rfl) rfl rfl ?_
    refine WL.val (dx_lenX rfl ty_slice_22 rfl h1) rfl rfl ?_
    refine WL.val (dx_lss rfl rfl rfl) rfl rfl ?_
    refine WL.nil ?_
    refine hK11 ?_
    refine WC.cond rfl (fun c12 => ?_) (fun c12 => ?_)
    ·
      replace c12 := of_decide_eq_true c12
      refine WC.skip ?_
      refine hK10 ?_
      refine WC.seq fun K13 hK13 => ?_
      refine WC.block ?_
      refine WC.seq fun K14 hK14 => ?_
      refine WC.region ?_
      refine WL.val (dx_move rfl rfl) rfl rfl ?_
      refine WL.val (dx_move rfl rfl) rfl rfl ?_
      obtain ⟨r15, e16⟩ : ∃ x, xs[i]? = some x := ⟨_, List.getElem?_eq_getElem (by omega)⟩
      refine WL.get (dx_idxF i rfl ty_slice_22 rfl rfl h1 (by omega) (at_mapX e16)) rfl rfl ?_
      rintro u17 _ ⟨rfl, p18⟩
      refine WL.val (dx_loadPN rfl ty_agg_54_3 rfl p18 rfl) rfl rfl ?_
      refine WL.get (dx_alloc rfl ty_zero_54 rfl) rfl rfl ?_
      rintro _ W19 ⟨rfl, k20, b21, z22⟩
      have l23 := hB.size
      replace h1 := h1.more b21 (Nat.le_refl _)
      replace h2 := h2.more b21 (Nat.le_refl _)
      replace p18 := p18.more b21 (Nat.le_refl _)
      replace hB := below_then hB b21
      replace hL := LL.more hL z22
      refine WL.do (dx_store (cs' := [.string r15.1, .string r15.2.1, r15.2.2.1]) (vs := [.string r15.1, .string r15.2.1, r15.2.2.1]) rfl ty_size_54_3 rfl rfl rfl (oc_cons rfl (oc_cons rfl (oc_cons (h2.one e16) oc_nil))) k20 rfl (Nat.le_of_ble_eq_true rfl) rfl) rfl ?_
      rintro _ W24 ⟨k26, o25⟩
      clear k20
      replace h1 := h1.only o25 (.head _)
      replace h2 := h2.only o25 (.head _)
      replace p18 := p18.only o25 (.head _)
      replace hB := o25.below hB l23
      replace hL := LL.only hL o25
      refine WL.nil ?_
      refine hK14 ?_
      refine WC.seq fun K27 hK27 => ?_
      refine WC.seq fun K28 hK28 => ?_
      obtain ⟨b29, hb29⟩ : ∃ b, b = (!(wordB r15.1)) := ⟨_, rfl⟩
      obtain ⟨b30, hb30⟩ : ∃ b, b = (b29 || (!(userB r15.2.1))) := ⟨_, rfl⟩
      obtain ⟨b31, hb31⟩ : ∃ b, b = ((!b30) && (decide (0 < (i : Int)))) := ⟨_, rfl⟩
      obtain ⟨r32, e33⟩ : ∃ x, xs[(i - 1)]? = some x := ⟨_, List.getElem?_eq_getElem (by omega)⟩
      refine WC.drawM 25 [(some 19, .is (.pointer (some ⟨W9.heap.size, 0, none⟩))), (some 20, .is (.string r15.1)), (some 21, .is (.bool (wordB r15.1))), (some 22, .is (.bool (!(wordB r15.1)))), (some 23, .is (.bool b29)), (some 24, .is (bif b29 then undef else .pointer (some ⟨W9.heap.size, 1, none⟩))), (some 25, .is (bif b29 then undef else .string r15.2.1)), (some 26, .is (bif b29 then undef else .bool (userB r15.2.1))), (some 27, .is (bif b29 then undef else .bool (!(userB r15.2.1)))), (some 28, .is (.bool (b29 || (!(userB r15.2.1))))), (some 29, .is (.bool b30)), (some 30, .is (bif b30 then undef else .int .i64 (i : Int))), (some 31, .is (bif b30 then undef else .bool (decide (0 < (i : Int))))), (some 32, .is (bif b30 then undef else .bool b31)), (some 33, .is (bif b31 then sv else undef)), (some 34, .is (bif b31 then .int .i64 (i : Int) else undef)), (some 35, .is (bif b31 then .int .i64 ((i : Int) - 1) else undef)), (some 36, .by fun u W => b31 = true → PtR (W9.heap.size :: L) W u [.string r32.1, .string r32.2.1, r32.2.2.1]), (some 37, .by fun u W => b31 = true → PtR (W9.heap.size :: L) W u [.string r32.1]), (some 38, .is (bif b31 then .string r32.1 else undef)), (some 39, .is (bif b31 then .pointer (some ⟨W9.heap.size, 0, none⟩) else undef)), (some 40, .is (bif b31 then .string r15.1 else undef)), (some 41, .is (bif b31 then .bool (!(sless r32.1 r15.1)) else undef)), (some 42, .is (bif b30 then undef else .bool (b31 && (!(sless r32.1 r15.1))))), (some 43, .is (.bool (b30 || (b31 && (!(sless r32.1 r15.1))))))] [[], [0], [1], [2], [3, 2], [4], [5, 4], [6, 4, 4], [7, 4], [4, 8], [9, 7], [10], [11, 10], [12, 10, 10], [13], [13], [15, 13], [14, 16, 13], [17, 13], [18, 13], [13], [20, 13], [19, 21, 13], [13, 22, 10], [10, 23]] (by kernel_rfl) (by kernel_rfl) (by kernel_rfl) (by kernel_rfl) (by kernel_rfl) (by kernel_rfl) (by kernel_rfl) ⟨fun _ _ _ hb h g => (h g).below hb, fun _ _ _ hb h g => (h g).below hb, trivial⟩ ?_ ?_
      ·
        refine DSteps.cons (fun Wd hd => ?_) ?_
        ·
          exact DV.dr (dx_fld (o1 := 0) rfl ty_fld_54_0_0 rfl rfl) ⟨Below.refl _ _, rfl⟩
        refine DSteps.cons (fun Wd hd => ?_) ?_
        ·
          have k26 := k26.below hd
          exact DV.dr (dx_load rfl ty_one_9 rfl (k26.cell (k := 0) rfl)) ⟨Below.refl _ _, rfl⟩
        refine DSteps.cons (fun Wd hd => ?_) ?_
        ·
          exact DR.mono (dx_cv rfl Tryz.func44 rfl rfl rfl (secret_v r15.1 Wd [] (LL.nil _) (hz _ (List.mem_of_getElem? e16)).1)) (fun v W' ⟨h, hb⟩ => ⟨hb, (by rw [h]; exact rfl)⟩)
        refine DSteps.cons (fun Wd hd => ?_) ?_
        ·
          exact DV.dr (dx_not rfl rfl) ⟨Below.refl _ _, rfl⟩
        refine DSteps.cons (fun Wd hd => ?_) ?_
        ·
          exact DV.dr (dx_move rfl rfl) ⟨Below.refl _ _, by rw [hb29]; rfl⟩
        refine DSteps.cons (fun Wd hd => ?_) ?_
        ·
          cases b29
          ·
            exact DV.dr (dx_fld (o1 := 1) rfl ty_fld_54_1_1 rfl rfl) ⟨Below.refl _ _, rfl⟩
          ·
            exact DV.dr (dv_off rfl) ⟨Below.refl _ _, rfl⟩
        refine DSteps.cons (fun Wd hd => ?_) ?_
        ·
          cases b29
          ·
            have k26 := k26.below hd
            exact DV.dr (dx_load rfl ty_one_9 rfl (k26.cell (k := 1) rfl)) ⟨Below.refl _ _, rfl⟩
          ·
            exact DV.dr (dv_off rfl) ⟨Below.refl _ _, rfl⟩
        refine DSteps.cons (fun Wd hd => ?_) ?_
        ·
          cases b29
          ·
            exact DR.mono (dx_cv rfl Tryz.func45 rfl rfl rfl (refUser_v r15.2.1 Wd)) (fun v W' ⟨h, hb⟩ => ⟨hb, (by rw [h]; exact rfl)⟩)
          ·
            exact DV.dr (dv_off rfl) ⟨Below.refl _ _, rfl⟩
        refine DSteps.cons (fun Wd hd => ?_) ?_
        ·
          cases b29
          ·
            exact DV.dr (dx_not rfl rfl) ⟨Below.refl _ _, rfl⟩
          ·
            exact DV.dr (dv_off rfl) ⟨Below.refl _ _, rfl⟩
        refine DSteps.cons (fun Wd hd => ?_) ?_
        ·
          cases b29
          ·
            exact DV.dr (dx_pick rfl rfl rfl) ⟨Below.refl _ _, rfl⟩
          ·
            exact DV.dr (dx_pick rfl rfl rfl) ⟨Below.refl _ _, rfl⟩
        refine DSteps.cons (fun Wd hd => ?_) ?_
        ·
          exact DV.dr (dx_move rfl rfl) ⟨Below.refl _ _, by rw [hb30]; rfl⟩
        refine DSteps.cons (fun Wd hd => ?_) ?_
        ·
          cases b30
          ·
            exact DV.dr (dx_move rfl rfl) ⟨Below.refl _ _, rfl⟩
          ·
            exact DV.dr (dv_off rfl) ⟨Below.refl _ _, rfl⟩
        refine DSteps.cons (fun Wd hd => ?_) ?_
        ·
          cases b30
          ·
            exact DV.dr (dx_gtr rfl rfl rfl) ⟨Below.refl _ _, rfl⟩
          ·
            exact DV.dr (dv_off rfl) ⟨Below.refl _ _, rfl⟩
        refine DSteps.cons (fun Wd hd => ?_) ?_
        ·
          cases b30
          ·
            exact DV.dr (dx_move rfl rfl) ⟨Below.refl _ _, by rw [hb31]; rfl⟩
          ·
            exact DV.dr (dv_off rfl) ⟨Below.refl _ _, by rw [hb31]; rfl⟩
        refine DSteps.cons (fun Wd hd => ?_) ?_
        ·
          cases b30
          ·
            cases b31
            ·
              exact DV.dr (dv_off rfl) ⟨Below.refl _ _, rfl⟩
            ·
              exact DV.dr (dx_move rfl rfl) ⟨Below.refl _ _, rfl⟩
          ·
            cases b31
            ·
              exact DV.dr (dv_off rfl) ⟨Below.refl _ _, rfl⟩
            ·
              exact absurd hb31 (by simp)
        refine DSteps.cons (fun Wd hd => ?_) ?_
        ·
          cases b30
          ·
            cases b31
            ·
              exact DV.dr (dv_off rfl) ⟨Below.refl _ _, rfl⟩
            ·
              exact DV.dr (dx_move rfl rfl) ⟨Below.refl _ _, rfl⟩
          ·
            cases b31
            ·
              exact DV.dr (dv_off rfl) ⟨Below.refl _ _, rfl⟩
            ·
              exact absurd hb31 (by simp)
        refine DSteps.cons (fun Wd hd => ?_) ?_
        ·
          cases b30
          ·
            cases b31
            ·
              exact DV.dr (dv_off rfl) ⟨Below.refl _ _, rfl⟩
            ·
              exact DV.dr (dx_sub (r := (i : Int) - 1) rfl rfl rfl (wrap64_id (by omega))) ⟨Below.refl _ _, rfl⟩
          ·
            cases b31
            ·
              exact DV.dr (dv_off rfl) ⟨Below.refl _ _, rfl⟩
            ·
              exact absurd hb31 (by simp)
        refine DSteps.cons (fun Wd hd => ?_) ?_
        ·
          cases b30
          ·
            cases b31
            ·
              exact DV.dr (dv_off rfl) ⟨Below.refl _ _, fun h => by cases h⟩
            ·
              have h1 := h1.below hd
              exact (dx_idxF (i - 1) rfl ty_slice_22 rfl rfl h1 (by first | omega | (have hq_ := of_decide_eq_true hb31.symm; omega)) (at_mapX e33)).mono (fun v W' h => ⟨by rw [← h.1]; exact Below.refl _ _, fun _ => by rw [← h.1]; exact h.2⟩)
          ·
            cases b31
            ·
              exact DV.dr (dv_off rfl) ⟨Below.refl _ _, fun h => by cases h⟩
            ·
              exact absurd hb31 (by simp)
        refine DSteps.cons (fun Wd hd => ?_) ?_
        ·
          intro u7_17 p7_17
          cases b30
          ·
            cases b31
            ·
              exact DV.dr (dv_off rfl) ⟨Below.refl _ _, fun h => by cases h⟩
            ·
              replace p7_17 := p7_17 rfl
              exact (dx_fldP 1 rfl ty_fld_54_0_0 rfl p7_17 (cs' := [.string r32.1]) rfl (Nat.succ_pos _)).mono (fun v W' h => ⟨by rw [← h.1]; exact Below.refl _ _, fun _ => by rw [← h.1]; exact h.2⟩)
          ·
            cases b31
            ·
              exact DV.dr (dv_off rfl) ⟨Below.refl _ _, fun h => by cases h⟩
            ·
              replace p7_17 := p7_17 rfl
              exact absurd hb31 (by simp)
        refine DSteps.cons (fun Wd hd => ?_) ?_
        ·
          intro u7_18 p7_18
          cases b30
          ·
            cases b31
            ·
              exact DV.dr (dv_off rfl) ⟨Below.refl _ _, rfl⟩
            ·
              replace p7_18 := p7_18 rfl
              exact DV.dr (dx_loadP rfl ty_one_9 rfl p7_18) ⟨Below.refl _ _, rfl⟩
          ·
            cases b31
            ·
              exact DV.dr (dv_off rfl) ⟨Below.refl _ _, rfl⟩
            ·
              replace p7_18 := p7_18 rfl
              exact absurd hb31 (by simp)
        refine DSteps.cons (fun Wd hd => ?_) ?_
        ·
          cases b30
          ·
            cases b31
            ·
              exact DV.dr (dv_off rfl) ⟨Below.refl _ _, rfl⟩
            ·
              exact DV.dr (dx_fld (o1 := 0) rfl ty_fld_54_0_0 rfl rfl) ⟨Below.refl _ _, rfl⟩
          ·
            cases b31
            ·
              exact DV.dr (dv_off rfl) ⟨Below.refl _ _, rfl⟩
            ·
              exact absurd hb31 (by simp)
        refine DSteps.cons (fun Wd hd => ?_) ?_
        ·
          cases b30
          ·
            cases b31
            ·
              exact DV.dr (dv_off rfl) ⟨Below.refl _ _, rfl⟩
            ·
              have k26 := k26.below hd
              exact DV.dr (dx_load rfl ty_one_9 rfl (k26.cell (k := 0) rfl)) ⟨Below.refl _ _, rfl⟩
          ·
            cases b31
            ·
              exact DV.dr (dv_off rfl) ⟨Below.refl _ _, rfl⟩
            ·
              exact absurd hb31 (by simp)
        refine DSteps.cons (fun Wd hd => ?_) ?_
        ·
          cases b30
          ·
            cases b31
            ·
              exact DV.dr (dv_off rfl) ⟨Below.refl _ _, rfl⟩
            ·
              exact DV.dr (dx_geqT rfl rfl rfl) ⟨Below.refl _ _, rfl⟩
          ·
            cases b31
            ·
              exact DV.dr (dv_off rfl) ⟨Below.refl _ _, rfl⟩
            ·
              exact absurd hb31 (by simp)
        refine DSteps.cons (fun Wd hd => ?_) ?_
        ·
          cases b30
          ·
            cases b31
            ·
              exact DV.dr (dx_pick rfl rfl rfl) ⟨Below.refl _ _, rfl⟩
            ·
              exact DV.dr (dx_pick rfl rfl rfl) ⟨Below.refl _ _, rfl⟩
          ·
            cases b31
            ·
              exact DV.dr (dv_off rfl) ⟨Below.refl _ _, rfl⟩
            ·
              exact absurd hb31 (by simp)
        refine DSteps.cons (fun Wd hd => ?_) ?_
        ·
          cases b30
          ·
            exact DV.dr (dx_pick rfl rfl rfl) ⟨Below.refl _ _, rfl⟩
          ·
            exact DV.dr (dx_pick rfl rfl rfl) ⟨Below.refl _ _, rfl⟩
        exact trivial
      ·
        intro W34 b35
        intro _ _
        intro _ _
        replace h1 := h1.below b35
        replace h2 := h2.below b35
        replace k26 := k26.below b35
        replace hB := below_then hB b35
        replace hL := LL.below hL b35
        refine WL.val (dx_move rfl rfl) rfl rfl ?_
        refine WL.split 44 rfl (fun g36 => ?_) (fun g36 => ?_)
        ·
          refine WL.off rfl rfl rfl ?_
          refine WL.off rfl rfl rfl ?_
          refine WL.off rfl rfl rfl ?_
          refine WL.off rfl rfl rfl ?_
          refine WL.val (dx_pick rfl rfl rfl) rfl rfl ?_
          refine WL.nil ?_
          refine hK28 ?_
          refine WC.condT rfl ?_
          refine WC.seq fun K37 hK37 => ?_
          refine WC.region ?_
          refine WL.val (dx_assign rfl rfl) rfl rfl ?_
          refine WL.nil ?_
          refine hK37 ?_
          refine WC.ret fun a_ ha_ => ?_
          exact hQ (cv_ret1 rfl (.tmp rfl) (by rw [rr_f e33 e16 hb29 hb30 hb31 g36]) hB ha_)
        ·
          obtain ⟨g38, g39⟩ := bor_f g36
          refine WL.val (dx_fld (o1 := 2) rfl ty_fld_54_2_2 rfl rfl) rfl rfl ?_
          refine WL.val (dx_load rfl ty_one_34 rfl (k26.cell (k := 2) rfl)) rfl rfl ?_
          refine WL.val (dx_lenX rfl ty_slice_34 rfl (h2 r15 (List.mem_of_getElem? e16))) rfl rfl ?_
          refine WL.val (dx_gtr rfl rfl rfl) rfl rfl ?_
          refine WL.val (dx_pick rfl rfl rfl) rfl rfl ?_
          refine WL.nil ?_
          refine hK28 ?_
          refine WC.cond rfl (fun c40 => ?_) (fun c40 => ?_)
          ·
            replace c40 := of_decide_eq_true c40
            refine WC.seq fun K41 hK41 => ?_
            refine WC.region ?_
            refine WL.val (dx_assign rfl rfl) rfl rfl ?_
            refine WL.nil ?_
            refine hK41 ?_
            refine WC.ret fun a_ ha_ => ?_
            exact hQ (cv_ret1 rfl (.tmp rfl) (by rw [show rightU xs = false from right_f2 e16 (by unfold goodU; rw [show risingB r15.2.2.2 = false from right_f1 (by omega), Bool.and_false, Bool.and_false])]) hB ha_)
          ·
            replace c40 := of_decide_eq_false c40
            refine WC.skip ?_
            refine hK27 ?_
            refine WC.seq fun K42 hK42 => ?_
            refine WC.region ?_
            refine WL.val (dx_assign rfl rfl) rfl rfl ?_
            refine WL.nil ?_
            refine hK42 ?_
            refine WC.block ?_
            refine WC.loop (fun (k : Nat) => [(0, sv), (2, .bool false), (3, .int .i64 (i : Int)), (4, .pointer (some ⟨W9.heap.size, 0, none⟩)), (5, .int .i64 (k : Int))]) (fun (k : Nat) W => k ≤ r15.2.2.2.length ∧ (∀ m a, m < k → r15.2.2.2[m]? = some a → wordB a = true) ∧ (∀ m a b, m + 1 < k → r15.2.2.2[m]? = some a → r15.2.2.2[m + 1]? = some b → (sless) a b = true) ∧ Below w.heap.size w W ∧ LL (W9.heap.size :: L) W ∧ RdF 3 (W9.heap.size :: L) W sv (xs.map encU) ∧ AgU (W9.heap.size :: L) W xs ∧ Blk W W9.heap.size [.string r15.1, .string r15.2.1, r15.2.2.1]) (fun (k : Nat) => r15.2.2.2.length - k) 0 (by repeat first | exact trivial | exact And.intro rfl trivial | refine And.intro rfl ?_ | refine And.intro (congrArg (fun z : Int => some (Value.int .i64 z)) (by omega)) ?_) ⟨Nat.zero_le _, (fun m a hk => by omega), (fun m a b hk => by omega), hB, hL, h1, h2, k26⟩ ?_
            clear h1 h2 k26 hB hL
            rintro K43 k W44 ⟨gi, gv, gu, hB, hL, h1, h2, k26⟩ hK43
            refine WC.seq fun K45 hK45 => ?_
            refine WC.seq fun K46 hK46 => ?_
            refine WC.region ?_
            refine WL.val (dx_move rfl rfl) rfl rfl ?_
            refine WL.val (dx_fld (o1 := 2) rfl ty_fld_54_2_2 rfl rfl) rfl rfl ?_
            refine WL.val (dx_load rfl ty_one_34 rfl (k26.cell (k := 2) rfl)) rfl rfl ?_
            refine WL.val (dx_lenX rfl ty_slice_34 rfl (h2 r15 (List.mem_of_getElem? e16))) rfl rfl ?_
            refine WL.val (dx_lss rfl rfl rfl) rfl rfl ?_
            refine WL.nil ?_
            refine hK46 ?_
            refine WC.cond rfl (fun c47 => ?_) (fun c47 => ?_)
            ·
              replace c47 := of_decide_eq_true c47
              refine WC.skip ?_
              refine hK45 ?_
              refine WC.seq fun K48 hK48 => ?_
              refine WC.block ?_
              refine WC.seq fun K49 hK49 => ?_
              obtain ⟨r50, e51⟩ : ∃ x, r15.2.2.2[k]? = some x := ⟨_, List.getElem?_eq_getElem (by omega)⟩
              obtain ⟨b52, hb52⟩ : ∃ b, b = (!(wordB r50)) := ⟨_, rfl⟩
              obtain ⟨b53, hb53⟩ : ∃ b, b = ((!b52) && (decide (0 < (k : Int)))) := ⟨_, rfl⟩
              obtain ⟨r54, e55⟩ : ∃ x, r15.2.2.2[(k - 1)]? = some x := ⟨_, List.getElem?_eq_getElem (by omega)⟩
              refine WC.drawM 25 [(some 57, .is (.pointer (some ⟨W9.heap.size, 2, none⟩))), (some 58, .is (r15.2.2.1)), (some 59, .is (.int .i64 (k : Int))), (some 60, .by fun u W => PtR (W9.heap.size :: L) W u (encT r50)), (some 61, .is (.string r50)), (some 62, .is (.bool (wordB r50))), (some 63, .is (.bool (!(wordB r50)))), (some 64, .is (.bool b52)), (some 65, .is (bif b52 then undef else .int .i64 (k : Int))), (some 66, .is (bif b52 then undef else .bool (decide (0 < (k : Int))))), (some 67, .is (bif b52 then undef else .bool b53)), (some 68, .is (bif b53 then .pointer (some ⟨W9.heap.size, 2, none⟩) else undef)), (some 69, .is (bif b53 then r15.2.2.1 else undef)), (some 70, .is (bif b53 then .int .i64 (k : Int) else undef)), (some 71, .is (bif b53 then .int .i64 ((k : Int) - 1) else undef)), (some 72, .by fun u W => b53 = true → PtR (W9.heap.size :: L) W u (encT r54)), (some 73, .is (bif b53 then .string r54 else undef)), (some 74, .is (bif b53 then .pointer (some ⟨W9.heap.size, 2, none⟩) else undef)), (some 75, .is (bif b53 then r15.2.2.1 else undef)), (some 76, .is (bif b53 then .int .i64 (k : Int) else undef)), (some 77, .by fun u W => b53 = true → PtR (W9.heap.size :: L) W u (encT r50)), (some 78, .is (bif b53 then .string r50 else undef)), (some 79, .is (bif b53 then .bool (!(sless r54 r50)) else undef)), (some 80, .is (bif b52 then undef else .bool (b53 && (!(sless r54 r50))))), (some 81, .is (.bool (b52 || (b53 && (!(sless r54 r50))))))] [[], [0], [], [1, 2], [3], [4], [5], [6, 5], [7], [8, 7], [9, 7, 7], [10], [11, 10], [10], [13, 10], [12, 14, 10], [15, 10], [10], [17, 10], [10], [18, 19, 10], [20, 10], [16, 21, 10], [10, 22, 7], [7, 23]] (by kernel_rfl) (by kernel_rfl) (by kernel_rfl) (by kernel_rfl) (by kernel_rfl) (by kernel_rfl) (by kernel_rfl) ⟨fun _ _ _ hb h => h.below hb, fun _ _ _ hb h g => (h g).below hb, fun _ _ _ hb h g => (h g).below hb, trivial⟩ ?_ ?_
              ·
                refine DSteps.cons (fun Wd hd => ?_) ?_
                ·
                  exact DV.dr (dx_fld (o1 := 2) rfl ty_fld_54_2_2 rfl rfl) ⟨Below.refl _ _, rfl⟩
                refine DSteps.cons (fun Wd hd => ?_) ?_
                ·
                  have k26 := k26.below hd
                  exact DV.dr (dx_load rfl ty_one_34 rfl (k26.cell (k := 2) rfl)) ⟨Below.refl _ _, rfl⟩
                refine DSteps.cons (fun Wd hd => ?_) ?_
                ·
                  exact DV.dr (dx_move rfl rfl) ⟨Below.refl _ _, rfl⟩
                refine DSteps.cons (fun Wd hd => ?_) ?_
                ·
                  have h2 := h2.below hd
                  exact (dx_idxF k rfl ty_slice_34 rfl rfl (h2 r15 (List.mem_of_getElem? e16)) (by omega) (at_mapX e51)).mono (fun v W' h => ⟨by rw [← h.1]; exact Below.refl _ _, by rw [← h.1]; exact h.2⟩)
                refine DSteps.cons (fun Wd hd => ?_) ?_
                ·
                  intro u12_3 p12_3
                  exact DV.dr (dx_loadP rfl ty_one_9 rfl p12_3) ⟨Below.refl _ _, rfl⟩
                refine DSteps.cons (fun Wd hd => ?_) ?_
                ·
                  exact DR.mono (dx_cv rfl Tryz.func44 rfl rfl rfl (secret_v r50 Wd [] (LL.nil _) ((hz _ (List.mem_of_getElem? e16)).2 _ (List.mem_of_getElem? e51)))) (fun v W' ⟨h, hb⟩ => ⟨hb, (by rw [h]; exact rfl)⟩)
                refine DSteps.cons (fun Wd hd => ?_) ?_
                ·
                  exact DV.dr (dx_not rfl rfl) ⟨Below.refl _ _, rfl⟩
                refine DSteps.cons (fun Wd hd => ?_) ?_
                ·
                  exact DV.dr (dx_move rfl rfl) ⟨Below.refl _ _, by rw [hb52]; rfl⟩
                refine DSteps.cons (fun Wd hd => ?_) ?_
                ·
                  cases b52
                  ·
                    exact DV.dr (dx_move rfl rfl) ⟨Below.refl _ _, rfl⟩
                  ·
                    exact DV.dr (dv_off rfl) ⟨Below.refl _ _, rfl⟩
                refine DSteps.cons (fun Wd hd => ?_) ?_
                ·
                  cases b52
                  ·
                    exact DV.dr (dx_gtr rfl rfl rfl) ⟨Below.refl _ _, rfl⟩
                  ·
                    exact DV.dr (dv_off rfl) ⟨Below.refl _ _, rfl⟩
                refine DSteps.cons (fun Wd hd => ?_) ?_
                ·
                  cases b52
                  ·
                    exact DV.dr (dx_move rfl rfl) ⟨Below.refl _ _, by rw [hb53]; rfl⟩
                  ·
                    exact DV.dr (dv_off rfl) ⟨Below.refl _ _, by rw [hb53]; rfl⟩
                refine DSteps.cons (fun Wd hd => ?_) ?_
                ·
                  cases b52
                  ·
                    cases b53
                    ·
                      exact DV.dr (dv_off rfl) ⟨Below.refl _ _, rfl⟩
                    ·
                      exact DV.dr (dx_fld (o1 := 2) rfl ty_fld_54_2_2 rfl rfl) ⟨Below.refl _ _, rfl⟩
                  ·
                    cases b53
                    ·
                      exact DV.dr (dv_off rfl) ⟨Below.refl _ _, rfl⟩
                    ·
                      exact absurd hb53 (by simp)
                refine DSteps.cons (fun Wd hd => ?_) ?_
                ·
                  cases b52
                  ·
                    cases b53
                    ·
                      exact DV.dr (dv_off rfl) ⟨Below.refl _ _, rfl⟩
                    ·
                      have k26 := k26.below hd
                      exact DV.dr (dx_load rfl ty_one_34 rfl (k26.cell (k := 2) rfl)) ⟨Below.refl _ _, rfl⟩
                  ·
                    cases b53
                    ·
                      exact DV.dr (dv_off rfl) ⟨Below.refl _ _, rfl⟩
                    ·
                      exact absurd hb53 (by simp)
                refine DSteps.cons (fun Wd hd => ?_) ?_
                ·
                  cases b52
                  ·
                    cases b53
                    ·
                      exact DV.dr (dv_off rfl) ⟨Below.refl _ _, rfl⟩
                    ·
                      exact DV.dr (dx_move rfl rfl) ⟨Below.refl _ _, rfl⟩
                  ·
                    cases b53
                    ·
                      exact DV.dr (dv_off rfl) ⟨Below.refl _ _, rfl⟩
                    ·
                      exact absurd hb53 (by simp)
                refine DSteps.cons (fun Wd hd => ?_) ?_
                ·
                  cases b52
                  ·
                    cases b53
                    ·
                      exact DV.dr (dv_off rfl) ⟨Below.refl _ _, rfl⟩
                    ·
                      exact DV.dr (dx_sub (r := (k : Int) - 1) rfl rfl rfl (wrap64_id (by omega))) ⟨Below.refl _ _, rfl⟩
                  ·
                    cases b53
                    ·
                      exact DV.dr (dv_off rfl) ⟨Below.refl _ _, rfl⟩
                    ·
                      exact absurd hb53 (by simp)
                refine DSteps.cons (fun Wd hd => ?_) ?_
                ·
                  cases b52
                  ·
                    cases b53
                    ·
                      exact DV.dr (dv_off rfl) ⟨Below.refl _ _, fun h => by cases h⟩
                    ·
                      have h2 := h2.below hd
                      exact (dx_idxF (k - 1) rfl ty_slice_34 rfl rfl (h2 r15 (List.mem_of_getElem? e16)) (by first | omega | (have hq_ := of_decide_eq_true hb53.symm; omega)) (at_mapX e55)).mono (fun v W' h => ⟨by rw [← h.1]; exact Below.refl _ _, fun _ => by rw [← h.1]; exact h.2⟩)
                  ·
                    cases b53
                    ·
                      exact DV.dr (dv_off rfl) ⟨Below.refl _ _, fun h => by cases h⟩
                    ·
                      exact absurd hb53 (by simp)
                refine DSteps.cons (fun Wd hd => ?_) ?_
                ·
                  intro u12_15 p12_15
                  cases b52
                  ·
                    cases b53
                    ·
                      exact DV.dr (dv_off rfl) ⟨Below.refl _ _, rfl⟩
                    ·
                      replace p12_15 := p12_15 rfl
                      exact DV.dr (dx_loadP rfl ty_one_9 rfl p12_15) ⟨Below.refl _ _, rfl⟩
                  ·
                    cases b53
                    ·
                      exact DV.dr (dv_off rfl) ⟨Below.refl _ _, rfl⟩
                    ·
                      replace p12_15 := p12_15 rfl
                      exact absurd hb53 (by simp)
                refine DSteps.cons (fun Wd hd => ?_) ?_
                ·
                  cases b52
                  ·
                    cases b53
                    ·
                      exact DV.dr (dv_off rfl) ⟨Below.refl _ _, rfl⟩
                    ·
                      exact DV.dr (dx_fld (o1 := 2) rfl ty_fld_54_2_2 rfl rfl) ⟨Below.refl _ _, rfl⟩
                  ·
                    cases b53
                    ·
                      exact DV.dr (dv_off rfl) ⟨Below.refl _ _, rfl⟩
                    ·
                      exact absurd hb53 (by simp)
                refine DSteps.cons (fun Wd hd => ?_) ?_
                ·
                  cases b52
                  ·
                    cases b53
                    ·
                      exact DV.dr (dv_off rfl) ⟨Below.refl _ _, rfl⟩
                    ·
                      have k26 := k26.below hd
                      exact DV.dr (dx_load rfl ty_one_34 rfl (k26.cell (k := 2) rfl)) ⟨Below.refl _ _, rfl⟩
                  ·
                    cases b53
                    ·
                      exact DV.dr (dv_off rfl) ⟨Below.refl _ _, rfl⟩
                    ·
                      exact absurd hb53 (by simp)
                refine DSteps.cons (fun Wd hd => ?_) ?_
                ·
                  cases b52
                  ·
                    cases b53
                    ·
                      exact DV.dr (dv_off rfl) ⟨Below.refl _ _, rfl⟩
                    ·
                      exact DV.dr (dx_move rfl rfl) ⟨Below.refl _ _, rfl⟩
                  ·
                    cases b53
                    ·
                      exact DV.dr (dv_off rfl) ⟨Below.refl _ _, rfl⟩
                    ·
                      exact absurd hb53 (by simp)
                refine DSteps.cons (fun Wd hd => ?_) ?_
                ·
                  cases b52
                  ·
                    cases b53
                    ·
                      exact DV.dr (dv_off rfl) ⟨Below.refl _ _, fun h => by cases h⟩
                    ·
                      have h2 := h2.below hd
                      exact (dx_idxF k rfl ty_slice_34 rfl rfl (h2 r15 (List.mem_of_getElem? e16)) (by first | omega | (have hq_ := of_decide_eq_true hb53.symm; omega)) (at_mapX e51)).mono (fun v W' h => ⟨by rw [← h.1]; exact Below.refl _ _, fun _ => by rw [← h.1]; exact h.2⟩)
                  ·
                    cases b53
                    ·
                      exact DV.dr (dv_off rfl) ⟨Below.refl _ _, fun h => by cases h⟩
                    ·
                      exact absurd hb53 (by simp)
                refine DSteps.cons (fun Wd hd => ?_) ?_
                ·
                  intro u12_20 p12_20
                  cases b52
                  ·
                    cases b53
                    ·
                      exact DV.dr (dv_off rfl) ⟨Below.refl _ _, rfl⟩
                    ·
                      replace p12_20 := p12_20 rfl
                      exact DV.dr (dx_loadP rfl ty_one_9 rfl p12_20) ⟨Below.refl _ _, rfl⟩
                  ·
                    cases b53
                    ·
                      exact DV.dr (dv_off rfl) ⟨Below.refl _ _, rfl⟩
                    ·
                      replace p12_20 := p12_20 rfl
                      exact absurd hb53 (by simp)
                refine DSteps.cons (fun Wd hd => ?_) ?_
                ·
                  cases b52
                  ·
                    cases b53
                    ·
                      exact DV.dr (dv_off rfl) ⟨Below.refl _ _, rfl⟩
                    ·
                      exact DV.dr (dx_geqT rfl rfl rfl) ⟨Below.refl _ _, rfl⟩
                  ·
                    cases b53
                    ·
                      exact DV.dr (dv_off rfl) ⟨Below.refl _ _, rfl⟩
                    ·
                      exact absurd hb53 (by simp)
                refine DSteps.cons (fun Wd hd => ?_) ?_
                ·
                  cases b52
                  ·
                    cases b53
                    ·
                      exact DV.dr (dx_pick rfl rfl rfl) ⟨Below.refl _ _, rfl⟩
                    ·
                      exact DV.dr (dx_pick rfl rfl rfl) ⟨Below.refl _ _, rfl⟩
                  ·
                    cases b53
                    ·
                      exact DV.dr (dv_off rfl) ⟨Below.refl _ _, rfl⟩
                    ·
                      exact absurd hb53 (by simp)
                refine DSteps.cons (fun Wd hd => ?_) ?_
                ·
                  cases b52
                  ·
                    exact DV.dr (dx_pick rfl rfl rfl) ⟨Below.refl _ _, rfl⟩
                  ·
                    exact DV.dr (dx_pick rfl rfl rfl) ⟨Below.refl _ _, rfl⟩
                exact trivial
              ·
                intro W56 b57
                intro u12_3 p12_3
                intro _ _
                intro _ _
                replace h1 := h1.below b57
                replace h2 := h2.below b57
                replace k26 := k26.below b57
                replace hB := below_then hB b57
                replace hL := LL.below hL b57
                refine WL.nil ?_
                refine hK49 ?_
                refine WC.cond rfl (fun c58 => ?_) (fun c58 => ?_)
                ·
                  refine WC.seq fun K59 hK59 => ?_
                  refine WC.region ?_
                  refine WL.val (dx_assign rfl rfl) rfl rfl ?_
                  refine WL.nil ?_
                  refine hK59 ?_
                  refine WC.ret fun a_ ha_ => ?_
                  exact hQ (cv_ret1 rfl (.tmp rfl) (by rw [show rightU xs = false from right_f2 e16 (by unfold goodU; rw [show risingB r15.2.2.2 = false from right_fD (g := wordB) (r := sless) e55 e51 hb52 hb53 c58, Bool.and_false, Bool.and_false])]) hB ha_)
                ·
                  obtain ⟨g60, g61⟩ := bor_f c58
                  refine WC.skip ?_
                  refine hK48 ?_
                  refine WC.region ?_
                  refine WL.val (dx_move rfl rfl) rfl rfl ?_
                  refine WL.val (dx_add (r := (k : Int) + 1) rfl rfl rfl (wrap64_id (by omega))) rfl rfl ?_
                  refine WL.val (dx_assign rfl rfl) rfl rfl ?_
                  refine WL.nil ?_
                  obtain ⟨gv', gu'⟩ := stepD (g := wordB) (r := sless) gv gu e55 e51 hb52 hb53 g60 g61
                  exact hK43 (k + 1) ⟨(by omega), gv', gu', hB, hL, h1, h2, k26⟩ (by omega) (by repeat first | exact trivial | exact And.intro rfl trivial | refine And.intro rfl ?_ | refine And.intro (congrArg (fun z : Int => some (Value.int .i64 z)) (by omega)) ?_)
            ·
              replace c47 := of_decide_eq_false c47
              refine WC.exit ?_
              refine hK13 ?_
              refine WC.region ?_
              refine WL.val (dx_move rfl rfl) rfl rfl ?_
              refine WL.val (dx_add (r := (i : Int) + 1) rfl rfl rfl (wrap64_id (by omega))) rfl rfl ?_
              refine WL.val (dx_assign rfl rfl) rfl rfl ?_
              refine WL.nil ?_
              obtain ⟨hv', hu'⟩ := rr_s hv hu e33 e16 hb29 hb30 hb31 g38 g39 (right_t (by omega) (fun k a hk => gv k a (by omega)) (fun k a b hk => gu k a b (by omega)))
              replace hL := hL.less (fun x hx => (.tail _ hx))
              replace h1 := h1.less (fun x hx => (.tail _ hx))
              replace h2 := h2.less (fun x hx => (.tail _ hx))
              exact hK8 (i + 1) ⟨(by omega), hv', hu', hB, hL, h1, h2⟩ (by omega) (by repeat first | exact trivial | exact And.intro rfl trivial | refine And.intro rfl ?_ | refine And.intro (congrArg (fun z : Int => some (Value.int .i64 z)) (by omega)) ?_)
    ·
      replace c12 := of_decide_eq_false c12
      refine WC.exit ?_
      refine hK6 ?_
      refine WC.seq fun K62 hK62 => ?_
      refine WC.region ?_
      refine WL.val (dx_assign rfl rfl) rfl rfl ?_
      refine WL.nil ?_
      refine hK62 ?_
      refine WC.ret fun a_ ha_ => ?_
      exact hQ (cv_ret1 rfl (.tmp rfl) (by rw [show rightU xs = true from right_t (by omega) (fun k a hk => hv k a (by omega)) (fun k a b hk => hu k a b (by omega))]) hB ha_)

end Go.Proofs.YthefddclefimoaaGreatDoor
namespace Go.Proofs.YthefddclefimoaaGreatDoor
open Go.RowKit
set_option linter.unusedVariables false
set_option linter.unusedSimpArgs false
set_option maxRecDepth 8000

theorem find_plc {xs : List UserX} {tok : ByteArray} (h1 : rightU xs = true) (h2 : ¬ plcU xs tok < 0) : findU xs tok = (plcU xs tok, 0) := by
  unfold findU
  rw [if_pos h1, if_neg h2]
theorem find_not {xs : List UserX} {tok : ByteArray} (h1 : rightU xs = true) (h2 : plcU xs tok < 0) : findU xs tok = (0, 14) := by
  unfold findU
  rw [if_pos h1, if_pos h2]
theorem find_bad {xs : List UserX} {tok : ByteArray} (h1 : rightU xs = false) : findU xs tok = (0, 1) := by
  unfold findU
  rw [if_neg (by rw [h1]; decide)]
set_option maxHeartbeats 1000000 in
theorem refWhose_v (xs : List UserX) (tok : ByteArray) (sv : Value) (w : World) (L : List Nat) (hL : LL L w) (h1 : RdF 3 L w sv (xs.map encU)) (h2 : AgU L w xs)  (hz : SzU xs) : CV Tryz.prog 14 [sv, .string tok] w fun v W => v = .tuple #[.string (whoU xs tok).1, .int .i64 (whoU xs tok).2] := by
  refine cv_enter (N := 20) (f := [(0, sv), (1, .string tok)]) Tryz.func14 rfl rfl rfl rfl fun Q hQ hE => ?_
  have hB := Below.refl w.heap.size w
  have h1m : xs.length ≤ maxLen := by have := h1.len; rwa [List.length_map] at this
  unfold maxLen at h1m
  refine WC.seq fun K1 hK1 => ?_
  refine WC.region ?_
  refine WL.val (dx_assign rfl rfl) rfl rfl ?_
  refine WL.val (dx_assign rfl rfl) rfl rfl ?_
  refine WL.nil ?_
  refine hK1 ?_
  refine WC.seq fun K2 hK2 => ?_
  refine WC.seq fun K3 hK3 => ?_
  refine WC.region ?_
  refine WL.val (dx_move rfl rfl) rfl rfl ?_
  refine WL.get (dx_cv rfl Tryz.func17 rfl rfl rfl (refRight_v xs _ w _ hL h1 h2 hz)) rfl rfl ?_
  rintro _ W5 ⟨rfl, b4⟩
  replace h1 := h1.below b4
  replace h2 := h2.below b4
  replace hB := below_then hB b4
  replace hL := LL.below hL b4
  refine WL.val (dx_not rfl rfl) rfl rfl ?_
  refine WL.nil ?_
  refine hK3 ?_
  refine WC.cond rfl (fun c6 => ?_) (fun c6 => ?_)
  ·
    replace c6 := bnot_t c6
    refine WC.seq fun K7 hK7 => ?_
    refine WC.region ?_
    refine WL.val (dx_assign rfl rfl) rfl rfl ?_
    refine WL.val (dx_assign rfl rfl) rfl rfl ?_
    refine WL.nil ?_
    refine hK7 ?_
    refine WC.ret fun a_ ha_ => ?_
    exact hQ (cv_ret2 rfl (.tmp rfl) (.tmp rfl) (by unfold whoU; rw [find_bad (by first | assumption | exact Bool.eq_false_iff.2 (by assumption)), if_neg (by decide)]) hB ha_)
  ·
    replace c6 := bnot_f c6
    refine WC.skip ?_
    refine hK2 ?_
    refine WC.seq fun K8 hK8 => ?_
    refine WC.region ?_
    refine WL.val (dx_move rfl rfl) rfl rfl ?_
    refine WL.val (dx_move rfl rfl) rfl rfl ?_
    refine WL.get (dx_cv rfl Tryz.func46 rfl rfl rfl (place_v xs tok _ W5 _ hL h1 h2)) rfl rfl ?_
    rintro _ W10 ⟨rfl, b9⟩
    replace h1 := h1.below b9
    replace h2 := h2.below b9
    replace hB := below_then hB b9
    replace hL := LL.below hL b9
    refine WL.val (dx_assign rfl rfl) rfl rfl ?_
    refine WL.nil ?_
    refine hK8 ?_
    refine WC.seq fun K11 hK11 => ?_
    refine WC.seq fun K12 hK12 => ?_
    refine WC.region ?_
    refine WL.val (dx_move rfl rfl) rfl rfl ?_
    refine WL.val (dx_lss rfl rfl rfl) rfl rfl ?_
    refine WL.nil ?_
    refine hK12 ?_
    refine WC.cond rfl (fun c13 => ?_) (fun c13 => ?_)
    ·
      replace c13 := of_decide_eq_true c13
      refine WC.seq fun K14 hK14 => ?_
      refine WC.region ?_
      refine WL.val (dx_assign rfl rfl) rfl rfl ?_
      refine WL.val (dx_assign rfl rfl) rfl rfl ?_
      refine WL.nil ?_
      refine hK14 ?_
      refine WC.ret fun a_ ha_ => ?_
      exact hQ (cv_ret2 rfl (.tmp rfl) (.tmp rfl) (by unfold whoU; rw [find_not (by assumption) (by assumption), if_neg (by decide)]) hB ha_)
    ·
      replace c13 := of_decide_eq_false c13
      refine WC.skip ?_
      refine hK11 ?_
      refine WC.seq fun K15 hK15 => ?_
      have hf0 := find_plc (xs := xs) (tok := tok) (by assumption) (by assumption)
      obtain ⟨hr0, k0, u0, hk0, hu0, ht0, hn0⟩ := findU_ok (xs := xs) (tok := tok) (by rw [hf0])
      rw [hf0] at hk0
      replace hk0 : plcU xs tok = (k0 : Nat) := hk0
      have hl0 := (List.getElem?_eq_some_iff.1 hu0).1
      have hrl := right_len hr0
      refine WC.region ?_
      refine WL.val (dx_move rfl rfl) rfl rfl ?_
      refine WL.val (dx_move rfl rfl) rfl rfl ?_
      refine WL.get (dx_idxF k0 rfl ty_slice_22 rfl rfl h1 (by omega) (at_mapX hu0)) rfl rfl ?_
      rintro u16 _ ⟨rfl, p17⟩
      refine WL.get (dx_fldP 1 rfl ty_fld_54_1_1 rfl p17 (cs' := [.string u0.2.1]) rfl (Nat.succ_pos _)) rfl rfl ?_
      rintro u18 _ ⟨rfl, p19⟩
      refine WL.val (dx_loadP rfl ty_one_9 rfl p19) rfl rfl ?_
      refine WL.val (dx_assign rfl rfl) rfl rfl ?_
      refine WL.val (dx_assign rfl rfl) rfl rfl ?_
      refine WL.nil ?_
      refine hK15 ?_
      refine WC.ret fun a_ ha_ => ?_
      exact hQ (cv_ret2 rfl (.tmp rfl) (.tmp rfl) (by unfold whoU; rw [hf0, if_pos rfl, hk0, Int.toNat_natCast, hu0]; rfl) hB ha_)

/-- Two lists that say the same: texts may lie elsewhere. -/
def KeyU (xs ys : List UserX) : Prop := xs.map (fun u => (u.1, u.2.1, u.2.2.2)) = ys.map (fun u => (u.1, u.2.1, u.2.2.2))
theorem KeyU.refl (xs : List UserX) : KeyU xs xs := rfl
theorem KeyU.symm {xs ys : List UserX} (h : KeyU xs ys) : KeyU ys xs := Eq.symm h
theorem KeyU.trans {xs ys zs : List UserX} (h : KeyU xs ys) (h' : KeyU ys zs) : KeyU xs zs := Eq.trans h h'
theorem KeyU.len {xs ys : List UserX} (h : KeyU xs ys) : xs.length = ys.length := by
  have := congrArg List.length h
  rwa [List.length_map, List.length_map] at this
theorem KeyU.at {xs ys : List UserX} (h : KeyU xs ys) {i : Nat} {a b : UserX} (ha : xs[i]? = some a) (hb : ys[i]? = some b) : a.1 = b.1 ∧ a.2.1 = b.2.1 ∧ a.2.2.2 = b.2.2.2 := by
  have := congrArg (fun l => l[i]?) h
  simp only [List.getElem?_map, ha, hb, Option.map_some, Option.some.injEq, Prod.mk.injEq] at this
  exact this
theorem sm_f {p q r x y : Bool} (h1 : x = !p) (h2 : y = (x || !q)) (h : (y || !r) = true) (hp : p = true) (hq : q = true) (hr : r = true) : False := by
  subst hp hq hr
  subst h1
  subst h2
  cases h
set_option maxHeartbeats 1000000 in
theorem same_v (xs ys : List UserX) (sv sv2 : Value) (w : World) (L : List Nat) (hL : LL L w) (h1 : RdF 3 L w sv (xs.map encU)) (h2 : AgU L w xs) (h3 : RdF 3 L w sv2 (ys.map encU)) (h4 : AgU L w ys)  (hk : KeyU xs ys) (hkl : xs.length = ys.length) : CV Tryz.prog 15 [sv, sv2] w fun v W => v = .bool true := by
  refine cv_enter (N := 84) (f := [(0, sv), (1, sv2)]) Tryz.func15 rfl rfl rfl rfl fun Q hQ hE => ?_
  have hB := Below.refl w.heap.size w
  have h1m : xs.length ≤ maxLen := by have := h1.len; rwa [List.length_map] at this
  unfold maxLen at h1m
  have h3m : ys.length ≤ maxLen := by have := h3.len; rwa [List.length_map] at this
  unfold maxLen at h3m
  refine WC.seq fun K1 hK1 => ?_
  refine WC.region ?_
  refine WL.val (dx_assign rfl rfl) rfl rfl ?_
  refine WL.nil ?_
  refine hK1 ?_
  refine WC.seq fun K2 hK2 => ?_
  refine WC.seq fun K3 hK3 => ?_
  refine WC.region ?_
  refine WL.val (dx_move rfl rfl) rfl rfl ?_
  refine WL.val (dx_lenX rfl ty_slice_22 rfl h1) rfl rfl ?_
  refine WL.val (dx_move rfl rfl) rfl rfl ?_
  refine WL.val (dx_lenX rfl ty_slice_22 rfl h3) rfl rfl ?_
  refine WL.val (dx_neq rfl rfl rfl) rfl rfl ?_
  refine WL.nil ?_
  refine hK3 ?_
  refine WC.cond rfl (fun c4 => ?_) (fun c4 => ?_)
  ·
    replace c4 := bnot_t c4
    replace c4 := of_decide_eq_false c4
    refine WC.seq fun K5 hK5 => ?_
    refine WC.region ?_
    refine WL.val (dx_assign rfl rfl) rfl rfl ?_
    refine WL.nil ?_
    refine hK5 ?_
    refine WC.ret fun a_ ha_ => ?_
    exact hQ (cv_ret1 rfl (.tmp rfl) (by exfalso; omega) hB ha_)
  ·
    replace c4 := bnot_f c4
    replace c4 := of_decide_eq_true c4
    refine WC.skip ?_
    refine hK2 ?_
    refine WC.seq fun K6 hK6 => ?_
    refine WC.seq fun K7 hK7 => ?_
    refine WC.region ?_
    refine WL.val (dx_assign rfl rfl) rfl rfl ?_
    refine WL.nil ?_
    refine hK7 ?_
    refine WC.block ?_
    refine WC.loop (fun (i : Nat) => [(0, sv), (1, sv2), (4, .bool false), (5, .int .i64 (i : Int))]) (fun (i : Nat) W => i ≤ xs.length ∧ Below w.heap.size w W ∧ LL (L) W ∧ RdF 3 (L) W sv (xs.map encU) ∧ AgU (L) W xs ∧ RdF 3 (L) W sv2 (ys.map encU) ∧ AgU (L) W ys) (fun (i : Nat) => xs.length - i) 0 (by repeat first | exact trivial | exact And.intro rfl trivial | refine And.intro rfl ?_ | refine And.intro (congrArg (fun z : Int => some (Value.int .i64 z)) (by omega)) ?_) ⟨Nat.zero_le _, hB, hL, h1, h2, h3, h4⟩ ?_
    clear h1 h2 h3 h4 hB hL
    rintro K8 i W9 ⟨hi, hB, hL, h1, h2, h3, h4⟩ hK8
    refine WC.seq fun K10 hK10 => ?_
    refine WC.seq fun K11 hK11 => ?_
    refine WC.region ?_
    refine WL.val (dx_move rfl rfl) rfl rfl ?_
    refine WL.val (dx_move rfl rfl) rfl rfl ?_
    refine WL.val (dx_lenX rfl ty_slice_22 rfl h1) rfl rfl ?_
    refine WL.val (dx_lss rfl rfl rfl) rfl rfl ?_
    refine WL.nil ?_
    refine hK11 ?_
    refine WC.cond rfl (fun c12 => ?_) (fun c12 => ?_)
    ·
      replace c12 := of_decide_eq_true c12
      refine WC.skip ?_
      refine hK10 ?_
      refine WC.seq fun K13 hK13 => ?_
      refine WC.block ?_
      refine WC.seq fun K14 hK14 => ?_
      refine WC.seq fun K15 hK15 => ?_
      obtain ⟨r16, e17⟩ : ∃ x, xs[i]? = some x := ⟨_, List.getElem?_eq_getElem (by omega)⟩
      obtain ⟨r18, e19⟩ : ∃ x, ys[i]? = some x := ⟨_, List.getElem?_eq_getElem (by omega)⟩
      obtain ⟨b20, hb20⟩ : ∃ b, b = (!(decide (r16.1 = r18.1))) := ⟨_, rfl⟩
      obtain ⟨b21, hb21⟩ : ∃ b, b = (b20 || (!(decide (r16.2.1 = r18.2.1)))) := ⟨_, rfl⟩
      refine WC.drawM 39 ((some 18, .is (sv)) :: (some 19, .is (.int .i64 (i : Int))) :: (some 20, .by fun u W => PtR (L) W u [.string r16.1, .string r16.2.1, r16.2.2.1]) :: (some 21, .by fun u W => PtR (L) W u [.string r16.1]) :: (some 22, .is (.string r16.1)) :: (some 23, .is (sv2)) :: (some 24, .is (.int .i64 (i : Int))) :: (some 25, .by fun u W => PtR (L) W u [.string r18.1, .string r18.2.1, r18.2.2.1]) :: (some 26, .by fun u W => PtR (L) W u [.string r18.1]) :: (some 27, .is (.string r18.1)) :: (some 28, .is (.bool (!(decide (r16.1 = r18.1))))) :: (some 29, .is (.bool b20)) :: (some 30, .is (bif b20 then undef else sv)) :: (some 31, .is (bif b20 then undef else .int .i64 (i : Int))) :: (some 32, .by fun u W => b20 = false → PtR (L) W u [.string r16.1, .string r16.2.1, r16.2.2.1]) :: (some 33, .by fun u W => b20 = false → PtR (L) W u [.string r16.2.1]) :: (some 34, .is (bif b20 then undef else .string r16.2.1)) :: (some 35, .is (bif b20 then undef else sv2)) :: (some 36, .is (bif b20 then undef else .int .i64 (i : Int))) :: (some 37, .by fun u W => b20 = false → PtR (L) W u [.string r18.1, .string r18.2.1, r18.2.2.1]) :: (some 38, .by fun u W => b20 = false → PtR (L) W u [.string r18.2.1]) :: (some 39, .is (bif b20 then undef else .string r18.2.1)) :: (some 40, .is (bif b20 then undef else .bool (!(decide (r16.2.1 = r18.2.1))))) :: (some 41, .is (.bool (b20 || (!(decide (r16.2.1 = r18.2.1)))))) :: (some 42, .is (.bool b21)) :: (some 43, .is (bif b21 then undef else sv)) :: (some 44, .is (bif b21 then undef else .int .i64 (i : Int))) :: (some 45, .by fun u W => b21 = false → PtR (L) W u [.string r16.1, .string r16.2.1, r16.2.2.1]) :: (some 46, .by fun u W => b21 = false → PtR (L) W u [r16.2.2.1]) :: (some 47, .is (bif b21 then undef else r16.2.2.1)) :: (some 48, .is (bif b21 then undef else .int .i64 (r16.2.2.2.length : Int))) :: (some 49, .is (bif b21 then undef else sv2)) :: (some 50, .is (bif b21 then undef else .int .i64 (i : Int))) :: (some 51, .by fun u W => b21 = false → PtR (L) W u [.string r18.1, .string r18.2.1, r18.2.2.1]) :: (some 52, .by fun u W => b21 = false → PtR (L) W u [r18.2.2.1]) :: (some 53, .is (bif b21 then undef else r18.2.2.1)) :: (some 54, .is (bif b21 then undef else .int .i64 (r18.2.2.2.length : Int))) :: (some 55, .is (bif b21 then undef else .bool (!(decide ((r16.2.2.2.length : Int) = (r18.2.2.2.length : Int)))))) :: (some 56, .is (.bool (b21 || (!(decide ((r16.2.2.2.length : Int) = (r18.2.2.2.length : Int))))))) :: []) [[], [], [0, 1], [2], [3], [], [], [5, 6], [7], [8], [4, 9], [10], [11], [11], [12, 13, 11], [14, 11], [15, 11], [11], [11], [17, 18, 11], [19, 11], [20, 11], [16, 21, 11], [11, 22], [23, 11], [24], [24], [25, 26, 24], [27, 24], [28, 24], [29, 24], [24], [24], [31, 32, 24], [33, 24], [34, 24], [35, 24], [30, 36, 24], [24, 37]] (by kernel_rfl) (by kernel_rfl) (by kernel_rfl) (by kernel_rfl) (by kernel_rfl) (by kernel_rfl) (by kernel_rfl) ⟨fun _ _ _ hb h => h.below hb, fun _ _ _ hb h => h.below hb, fun _ _ _ hb h => h.below hb, fun _ _ _ hb h => h.below hb, fun _ _ _ hb h g => (h g).below hb, fun _ _ _ hb h g => (h g).below hb, fun _ _ _ hb h g => (h g).below hb, fun _ _ _ hb h g => (h g).below hb, fun _ _ _ hb h g => (h g).below hb, fun _ _ _ hb h g => (h g).below hb, fun _ _ _ hb h g => (h g).below hb, fun _ _ _ hb h g => (h g).below hb, trivial⟩ ?_ ?_
      ·
        refine DSteps.cons (fun Wd hd => ?_) ?_
        ·
          exact DV.dr (dx_move rfl rfl) ⟨Below.refl _ _, rfl⟩
        refine DSteps.cons (fun Wd hd => ?_) ?_
        ·
          exact DV.dr (dx_move rfl rfl) ⟨Below.refl _ _, rfl⟩
        refine DSteps.cons (fun Wd hd => ?_) ?_
        ·
          have h1 := h1.below hd
          exact (dx_idxF i rfl ty_slice_22 rfl rfl h1 (by omega) (at_mapX e17)).mono (fun v W' h => ⟨by rw [← h.1]; exact Below.refl _ _, by rw [← h.1]; exact h.2⟩)
        refine DSteps.cons (fun Wd hd => ?_) ?_
        ·
          intro u6_2 p6_2
          exact (dx_fldP 1 rfl ty_fld_54_0_0 rfl p6_2 (cs' := [.string r16.1]) rfl (Nat.succ_pos _)).mono (fun v W' h => ⟨by rw [← h.1]; exact Below.refl _ _, by rw [← h.1]; exact h.2⟩)
        refine DSteps.cons (fun Wd hd => ?_) ?_
        ·
          intro u6_3 p6_3
          exact DV.dr (dx_loadP rfl ty_one_9 rfl p6_3) ⟨Below.refl _ _, rfl⟩
        refine DSteps.cons (fun Wd hd => ?_) ?_
        ·
          exact DV.dr (dx_move rfl rfl) ⟨Below.refl _ _, rfl⟩
        refine DSteps.cons (fun Wd hd => ?_) ?_
        ·
          exact DV.dr (dx_move rfl rfl) ⟨Below.refl _ _, rfl⟩
        refine DSteps.cons (fun Wd hd => ?_) ?_
        ·
          have h3 := h3.below hd
          exact (dx_idxF i rfl ty_slice_22 rfl rfl h3 (by omega) (at_mapX e19)).mono (fun v W' h => ⟨by rw [← h.1]; exact Below.refl _ _, by rw [← h.1]; exact h.2⟩)
        refine DSteps.cons (fun Wd hd => ?_) ?_
        ·
          intro u6_7 p6_7
          exact (dx_fldP 1 rfl ty_fld_54_0_0 rfl p6_7 (cs' := [.string r18.1]) rfl (Nat.succ_pos _)).mono (fun v W' h => ⟨by rw [← h.1]; exact Below.refl _ _, by rw [← h.1]; exact h.2⟩)
        refine DSteps.cons (fun Wd hd => ?_) ?_
        ·
          intro u6_8 p6_8
          exact DV.dr (dx_loadP rfl ty_one_9 rfl p6_8) ⟨Below.refl _ _, rfl⟩
        refine DSteps.cons (fun Wd hd => ?_) ?_
        ·
          exact DV.dr (dx_neqT rfl rfl rfl) ⟨Below.refl _ _, rfl⟩
        refine DSteps.cons (fun Wd hd => ?_) ?_
        ·
          exact DV.dr (dx_move rfl rfl) ⟨Below.refl _ _, by rw [hb20]; rfl⟩
        refine DSteps.cons (fun Wd hd => ?_) ?_
        ·
          cases b20
          ·
            exact DV.dr (dx_move rfl rfl) ⟨Below.refl _ _, rfl⟩
          ·
            exact DV.dr (dv_off rfl) ⟨Below.refl _ _, rfl⟩
        refine DSteps.cons (fun Wd hd => ?_) ?_
        ·
          cases b20
          ·
            exact DV.dr (dx_move rfl rfl) ⟨Below.refl _ _, rfl⟩
          ·
            exact DV.dr (dv_off rfl) ⟨Below.refl _ _, rfl⟩
        refine DSteps.cons (fun Wd hd => ?_) ?_
        ·
          cases b20
          ·
            have h1 := h1.below hd
            exact (dx_idxF i rfl ty_slice_22 rfl rfl h1 (by omega) (at_mapX e17)).mono (fun v W' h => ⟨by rw [← h.1]; exact Below.refl _ _, fun _ => by rw [← h.1]; exact h.2⟩)
          ·
            exact DV.dr (dv_off rfl) ⟨Below.refl _ _, fun h => by cases h⟩
        refine DSteps.cons (fun Wd hd => ?_) ?_
        ·
          intro u6_14 p6_14
          cases b20
          ·
            replace p6_14 := p6_14 rfl
            exact (dx_fldP 1 rfl ty_fld_54_1_1 rfl p6_14 (cs' := [.string r16.2.1]) rfl (Nat.succ_pos _)).mono (fun v W' h => ⟨by rw [← h.1]; exact Below.refl _ _, fun _ => by rw [← h.1]; exact h.2⟩)
          ·
            exact DV.dr (dv_off rfl) ⟨Below.refl _ _, fun h => by cases h⟩
        refine DSteps.cons (fun Wd hd => ?_) ?_
        ·
          intro u6_15 p6_15
          cases b20
          ·
            replace p6_15 := p6_15 rfl
            exact DV.dr (dx_loadP rfl ty_one_9 rfl p6_15) ⟨Below.refl _ _, rfl⟩
          ·
            exact DV.dr (dv_off rfl) ⟨Below.refl _ _, rfl⟩
        refine DSteps.cons (fun Wd hd => ?_) ?_
        ·
          cases b20
          ·
            exact DV.dr (dx_move rfl rfl) ⟨Below.refl _ _, rfl⟩
          ·
            exact DV.dr (dv_off rfl) ⟨Below.refl _ _, rfl⟩
        refine DSteps.cons (fun Wd hd => ?_) ?_
        ·
          cases b20
          ·
            exact DV.dr (dx_move rfl rfl) ⟨Below.refl _ _, rfl⟩
          ·
            exact DV.dr (dv_off rfl) ⟨Below.refl _ _, rfl⟩
        refine DSteps.cons (fun Wd hd => ?_) ?_
        ·
          cases b20
          ·
            have h3 := h3.below hd
            exact (dx_idxF i rfl ty_slice_22 rfl rfl h3 (by omega) (at_mapX e19)).mono (fun v W' h => ⟨by rw [← h.1]; exact Below.refl _ _, fun _ => by rw [← h.1]; exact h.2⟩)
          ·
            exact DV.dr (dv_off rfl) ⟨Below.refl _ _, fun h => by cases h⟩
        refine DSteps.cons (fun Wd hd => ?_) ?_
        ·
          intro u6_19 p6_19
          cases b20
          ·
            replace p6_19 := p6_19 rfl
            exact (dx_fldP 1 rfl ty_fld_54_1_1 rfl p6_19 (cs' := [.string r18.2.1]) rfl (Nat.succ_pos _)).mono (fun v W' h => ⟨by rw [← h.1]; exact Below.refl _ _, fun _ => by rw [← h.1]; exact h.2⟩)
          ·
            exact DV.dr (dv_off rfl) ⟨Below.refl _ _, fun h => by cases h⟩
        refine DSteps.cons (fun Wd hd => ?_) ?_
        ·
          intro u6_20 p6_20
          cases b20
          ·
            replace p6_20 := p6_20 rfl
            exact DV.dr (dx_loadP rfl ty_one_9 rfl p6_20) ⟨Below.refl _ _, rfl⟩
          ·
            exact DV.dr (dv_off rfl) ⟨Below.refl _ _, rfl⟩
        refine DSteps.cons (fun Wd hd => ?_) ?_
        ·
          cases b20
          ·
            exact DV.dr (dx_neqT rfl rfl rfl) ⟨Below.refl _ _, rfl⟩
          ·
            exact DV.dr (dv_off rfl) ⟨Below.refl _ _, rfl⟩
        refine DSteps.cons (fun Wd hd => ?_) ?_
        ·
          cases b20
          ·
            exact DV.dr (dx_pick rfl rfl rfl) ⟨Below.refl _ _, rfl⟩
          ·
            exact DV.dr (dx_pick rfl rfl rfl) ⟨Below.refl _ _, rfl⟩
        refine DSteps.cons (fun Wd hd => ?_) ?_
        ·
          exact DV.dr (dx_move rfl rfl) ⟨Below.refl _ _, by rw [hb21]; rfl⟩
        refine DSteps.cons (fun Wd hd => ?_) ?_
        ·
          cases b21
          ·
            exact DV.dr (dx_move rfl rfl) ⟨Below.refl _ _, rfl⟩
          ·
            exact DV.dr (dv_off rfl) ⟨Below.refl _ _, rfl⟩
        refine DSteps.cons (fun Wd hd => ?_) ?_
        ·
          cases b21
          ·
            exact DV.dr (dx_move rfl rfl) ⟨Below.refl _ _, rfl⟩
          ·
            exact DV.dr (dv_off rfl) ⟨Below.refl _ _, rfl⟩
        refine DSteps.cons (fun Wd hd => ?_) ?_
        ·
          cases b21
          ·
            have h1 := h1.below hd
            exact (dx_idxF i rfl ty_slice_22 rfl rfl h1 (by omega) (at_mapX e17)).mono (fun v W' h => ⟨by rw [← h.1]; exact Below.refl _ _, fun _ => by rw [← h.1]; exact h.2⟩)
          ·
            exact DV.dr (dv_off rfl) ⟨Below.refl _ _, fun h => by cases h⟩
        refine DSteps.cons (fun Wd hd => ?_) ?_
        ·
          intro u6_27 p6_27
          cases b21
          ·
            replace p6_27 := p6_27 rfl
            exact (dx_fldP 1 rfl ty_fld_54_2_2 rfl p6_27 (cs' := [r16.2.2.1]) rfl (Nat.succ_pos _)).mono (fun v W' h => ⟨by rw [← h.1]; exact Below.refl _ _, fun _ => by rw [← h.1]; exact h.2⟩)
          ·
            exact DV.dr (dv_off rfl) ⟨Below.refl _ _, fun h => by cases h⟩
        refine DSteps.cons (fun Wd hd => ?_) ?_
        ·
          intro u6_28 p6_28
          cases b21
          ·
            replace p6_28 := p6_28 rfl
            exact DV.dr (dx_loadP rfl ty_one_34 rfl p6_28) ⟨Below.refl _ _, rfl⟩
          ·
            exact DV.dr (dv_off rfl) ⟨Below.refl _ _, rfl⟩
        refine DSteps.cons (fun Wd hd => ?_) ?_
        ·
          cases b21
          ·
            have h2 := h2.below hd
            exact DV.dr (dx_lenX rfl ty_slice_34 rfl (h2 r16 (List.mem_of_getElem? e17))) ⟨Below.refl _ _, rfl⟩
          ·
            exact DV.dr (dv_off rfl) ⟨Below.refl _ _, rfl⟩
        refine DSteps.cons (fun Wd hd => ?_) ?_
        ·
          cases b21
          ·
            exact DV.dr (dx_move rfl rfl) ⟨Below.refl _ _, rfl⟩
          ·
            exact DV.dr (dv_off rfl) ⟨Below.refl _ _, rfl⟩
        refine DSteps.cons (fun Wd hd => ?_) ?_
        ·
          cases b21
          ·
            exact DV.dr (dx_move rfl rfl) ⟨Below.refl _ _, rfl⟩
          ·
            exact DV.dr (dv_off rfl) ⟨Below.refl _ _, rfl⟩
        refine DSteps.cons (fun Wd hd => ?_) ?_
        ·
          cases b21
          ·
            have h3 := h3.below hd
            exact (dx_idxF i rfl ty_slice_22 rfl rfl h3 (by omega) (at_mapX e19)).mono (fun v W' h => ⟨by rw [← h.1]; exact Below.refl _ _, fun _ => by rw [← h.1]; exact h.2⟩)
          ·
            exact DV.dr (dv_off rfl) ⟨Below.refl _ _, fun h => by cases h⟩
        refine DSteps.cons (fun Wd hd => ?_) ?_
        ·
          intro u6_33 p6_33
          cases b21
          ·
            replace p6_33 := p6_33 rfl
            exact (dx_fldP 1 rfl ty_fld_54_2_2 rfl p6_33 (cs' := [r18.2.2.1]) rfl (Nat.succ_pos _)).mono (fun v W' h => ⟨by rw [← h.1]; exact Below.refl _ _, fun _ => by rw [← h.1]; exact h.2⟩)
          ·
            exact DV.dr (dv_off rfl) ⟨Below.refl _ _, fun h => by cases h⟩
        refine DSteps.cons (fun Wd hd => ?_) ?_
        ·
          intro u6_34 p6_34
          cases b21
          ·
            replace p6_34 := p6_34 rfl
            exact DV.dr (dx_loadP rfl ty_one_34 rfl p6_34) ⟨Below.refl _ _, rfl⟩
          ·
            exact DV.dr (dv_off rfl) ⟨Below.refl _ _, rfl⟩
        refine DSteps.cons (fun Wd hd => ?_) ?_
        ·
          cases b21
          ·
            have h4 := h4.below hd
            exact DV.dr (dx_lenX rfl ty_slice_34 rfl (h4 r18 (List.mem_of_getElem? e19))) ⟨Below.refl _ _, rfl⟩
          ·
            exact DV.dr (dv_off rfl) ⟨Below.refl _ _, rfl⟩
        refine DSteps.cons (fun Wd hd => ?_) ?_
        ·
          cases b21
          ·
            exact DV.dr (dx_neq rfl rfl rfl) ⟨Below.refl _ _, rfl⟩
          ·
            exact DV.dr (dv_off rfl) ⟨Below.refl _ _, rfl⟩
        refine DSteps.cons (fun Wd hd => ?_) ?_
        ·
          cases b21
          ·
            exact DV.dr (dx_pick rfl rfl rfl) ⟨Below.refl _ _, rfl⟩
          ·
            exact DV.dr (dx_pick rfl rfl rfl) ⟨Below.refl _ _, rfl⟩
        exact trivial
      ·
        intro W22 b23
        intro u6_2 p6_2
        intro u6_3 p6_3
        intro u6_7 p6_7
        intro u6_8 p6_8
        intro _ _
        intro _ _
        intro _ _
        intro _ _
        intro _ _
        intro _ _
        intro _ _
        intro _ _
        replace h1 := h1.below b23
        replace h2 := h2.below b23
        replace h3 := h3.below b23
        replace h4 := h4.below b23
        replace hB := below_then hB b23
        replace hL := LL.below hL b23
        refine WL.nil ?_
        refine hK15 ?_
        refine WC.cond rfl (fun c24 => ?_) (fun c24 => ?_)
        ·
          refine WC.seq fun K25 hK25 => ?_
          refine WC.region ?_
          refine WL.val (dx_assign rfl rfl) rfl rfl ?_
          refine WL.nil ?_
          refine hK25 ?_
          refine WC.ret fun a_ ha_ => ?_
          exact hQ (cv_ret1 rfl (.tmp rfl) (by exfalso; obtain ⟨hq1, hq2, hq3⟩ := hk.at e17 e19; exact sm_f hb20 hb21 c24 (decide_eq_true hq1) (decide_eq_true hq2) (decide_eq_true (by rw [hq3]))) hB ha_)
        ·
          obtain ⟨g26, g27⟩ := bor_f c24
          replace g26 := bvar_f g26
          replace g27 := bnot_f g27
          replace g27 := of_decide_eq_true g27
          refine WC.skip ?_
          refine hK14 ?_
          refine WC.seq fun K28 hK28 => ?_
          refine WC.region ?_
          refine WL.val (dx_assign rfl rfl) rfl rfl ?_
          refine WL.nil ?_
          refine hK28 ?_
          refine WC.block ?_
          obtain ⟨hq1, hq2, hq3⟩ := hk.at e17 e19
          have hq4 := congrArg List.length hq3
          have hq5 := (h2 _ (List.mem_of_getElem? e17)).len; rw [List.length_map] at hq5; unfold maxLen at hq5
          refine WC.loop (fun (k : Nat) => [(0, sv), (1, sv2), (4, .bool false), (5, .int .i64 (i : Int)), (6, .int .i64 (k : Int))]) (fun (k : Nat) W => k ≤ r16.2.2.2.length ∧ Below w.heap.size w W ∧ LL (L) W ∧ RdF 3 (L) W sv (xs.map encU) ∧ AgU (L) W xs ∧ RdF 3 (L) W sv2 (ys.map encU) ∧ AgU (L) W ys) (fun (k : Nat) => r16.2.2.2.length - k) 0 (by repeat first | exact trivial | exact And.intro rfl trivial | refine And.intro rfl ?_ | refine And.intro (congrArg (fun z : Int => some (Value.int .i64 z)) (by omega)) ?_) ⟨Nat.zero_le _, hB, hL, h1, h2, h3, h4⟩ ?_
          clear h1 h2 h3 h4 hB hL
          rintro K29 k W30 ⟨gi, hB, hL, h1, h2, h3, h4⟩ hK29
          refine WC.seq fun K31 hK31 => ?_
          refine WC.seq fun K32 hK32 => ?_
          refine WC.region ?_
          refine WL.val (dx_move rfl rfl) rfl rfl ?_
          refine WL.val (dx_move rfl rfl) rfl rfl ?_
          refine WL.val (dx_move rfl rfl) rfl rfl ?_
          refine WL.get (dx_idxF i rfl ty_slice_22 rfl rfl h1 (by omega) (at_mapX e17)) rfl rfl ?_
          rintro u33 _ ⟨rfl, p34⟩
          refine WL.get (dx_fldP 1 rfl ty_fld_54_2_2 rfl p34 (cs' := [r16.2.2.1]) rfl (Nat.succ_pos _)) rfl rfl ?_
          rintro u35 _ ⟨rfl, p36⟩
          refine WL.val (dx_loadP rfl ty_one_34 rfl p36) rfl rfl ?_
          refine WL.val (dx_lenX rfl ty_slice_34 rfl (h2 r16 (List.mem_of_getElem? e17))) rfl rfl ?_
          refine WL.val (dx_lss rfl rfl rfl) rfl rfl ?_
          refine WL.nil ?_
          refine hK32 ?_
          refine WC.cond rfl (fun c37 => ?_) (fun c37 => ?_)
          ·
            replace c37 := of_decide_eq_true c37
            refine WC.skip ?_
            refine hK31 ?_
            refine WC.seq fun K38 hK38 => ?_
            refine WC.block ?_
            refine WC.seq fun K39 hK39 => ?_
            obtain ⟨r40, e41⟩ : ∃ x, r16.2.2.2[k]? = some x := ⟨_, List.getElem?_eq_getElem (by omega)⟩
            obtain ⟨r42, e43⟩ : ∃ x, r18.2.2.2[k]? = some x := ⟨_, List.getElem?_eq_getElem (by omega)⟩
            refine WC.drawM 16 [(some 67, .is (sv)), (some 68, .is (.int .i64 (i : Int))), (some 69, .by fun u W => PtR (L) W u [.string r16.1, .string r16.2.1, r16.2.2.1]), (some 70, .by fun u W => PtR (L) W u [r16.2.2.1]), (some 71, .is (r16.2.2.1)), (some 72, .is (.int .i64 (k : Int))), (some 73, .by fun u W => PtR (L) W u (encT r40)), (some 74, .is (.string r40)), (some 75, .is (sv2)), (some 76, .is (.int .i64 (i : Int))), (some 77, .by fun u W => PtR (L) W u [.string r18.1, .string r18.2.1, r18.2.2.1]), (some 78, .by fun u W => PtR (L) W u [r18.2.2.1]), (some 79, .is (r18.2.2.1)), (some 80, .is (.int .i64 (k : Int))), (some 81, .by fun u W => PtR (L) W u (encT r42)), (some 82, .is (.string r42))] [[], [], [0, 1], [2], [3], [], [4, 5], [6], [], [], [8, 9], [10], [11], [], [12, 13], [14]] (by kernel_rfl) (by kernel_rfl) (by kernel_rfl) (by kernel_rfl) (by kernel_rfl) (by kernel_rfl) (by kernel_rfl) ⟨fun _ _ _ hb h => h.below hb, fun _ _ _ hb h => h.below hb, fun _ _ _ hb h => h.below hb, fun _ _ _ hb h => h.below hb, fun _ _ _ hb h => h.below hb, fun _ _ _ hb h => h.below hb, trivial⟩ ?_ ?_
            ·
              refine DSteps.cons (fun Wd hd => ?_) ?_
              ·
                exact DV.dr (dx_move rfl rfl) ⟨Below.refl _ _, rfl⟩
              refine DSteps.cons (fun Wd hd => ?_) ?_
              ·
                exact DV.dr (dx_move rfl rfl) ⟨Below.refl _ _, rfl⟩
              refine DSteps.cons (fun Wd hd => ?_) ?_
              ·
                have h1 := h1.below hd
                exact (dx_idxF i rfl ty_slice_22 rfl rfl h1 (by omega) (at_mapX e17)).mono (fun v W' h => ⟨by rw [← h.1]; exact Below.refl _ _, by rw [← h.1]; exact h.2⟩)
              refine DSteps.cons (fun Wd hd => ?_) ?_
              ·
                intro u11_2 p11_2
                exact (dx_fldP 1 rfl ty_fld_54_2_2 rfl p11_2 (cs' := [r16.2.2.1]) rfl (Nat.succ_pos _)).mono (fun v W' h => ⟨by rw [← h.1]; exact Below.refl _ _, by rw [← h.1]; exact h.2⟩)
              refine DSteps.cons (fun Wd hd => ?_) ?_
              ·
                intro u11_3 p11_3
                exact DV.dr (dx_loadP rfl ty_one_34 rfl p11_3) ⟨Below.refl _ _, rfl⟩
              refine DSteps.cons (fun Wd hd => ?_) ?_
              ·
                exact DV.dr (dx_move rfl rfl) ⟨Below.refl _ _, rfl⟩
              refine DSteps.cons (fun Wd hd => ?_) ?_
              ·
                have h2 := h2.below hd
                exact (dx_idxF k rfl ty_slice_34 rfl rfl (h2 r16 (List.mem_of_getElem? e17)) (by omega) (at_mapX e41)).mono (fun v W' h => ⟨by rw [← h.1]; exact Below.refl _ _, by rw [← h.1]; exact h.2⟩)
              refine DSteps.cons (fun Wd hd => ?_) ?_
              ·
                intro u11_6 p11_6
                exact DV.dr (dx_loadP rfl ty_one_9 rfl p11_6) ⟨Below.refl _ _, rfl⟩
              refine DSteps.cons (fun Wd hd => ?_) ?_
              ·
                exact DV.dr (dx_move rfl rfl) ⟨Below.refl _ _, rfl⟩
              refine DSteps.cons (fun Wd hd => ?_) ?_
              ·
                exact DV.dr (dx_move rfl rfl) ⟨Below.refl _ _, rfl⟩
              refine DSteps.cons (fun Wd hd => ?_) ?_
              ·
                have h3 := h3.below hd
                exact (dx_idxF i rfl ty_slice_22 rfl rfl h3 (by omega) (at_mapX e19)).mono (fun v W' h => ⟨by rw [← h.1]; exact Below.refl _ _, by rw [← h.1]; exact h.2⟩)
              refine DSteps.cons (fun Wd hd => ?_) ?_
              ·
                intro u11_10 p11_10
                exact (dx_fldP 1 rfl ty_fld_54_2_2 rfl p11_10 (cs' := [r18.2.2.1]) rfl (Nat.succ_pos _)).mono (fun v W' h => ⟨by rw [← h.1]; exact Below.refl _ _, by rw [← h.1]; exact h.2⟩)
              refine DSteps.cons (fun Wd hd => ?_) ?_
              ·
                intro u11_11 p11_11
                exact DV.dr (dx_loadP rfl ty_one_34 rfl p11_11) ⟨Below.refl _ _, rfl⟩
              refine DSteps.cons (fun Wd hd => ?_) ?_
              ·
                exact DV.dr (dx_move rfl rfl) ⟨Below.refl _ _, rfl⟩
              refine DSteps.cons (fun Wd hd => ?_) ?_
              ·
                have h4 := h4.below hd
                exact (dx_idxF k rfl ty_slice_34 rfl rfl (h4 r18 (List.mem_of_getElem? e19)) (by omega) (at_mapX e43)).mono (fun v W' h => ⟨by rw [← h.1]; exact Below.refl _ _, by rw [← h.1]; exact h.2⟩)
              refine DSteps.cons (fun Wd hd => ?_) ?_
              ·
                intro u11_14 p11_14
                exact DV.dr (dx_loadP rfl ty_one_9 rfl p11_14) ⟨Below.refl _ _, rfl⟩
              exact trivial
            ·
              intro W44 b45
              intro u11_2 p11_2
              intro u11_3 p11_3
              intro u11_6 p11_6
              intro u11_10 p11_10
              intro u11_11 p11_11
              intro u11_14 p11_14
              replace h1 := h1.below b45
              replace h2 := h2.below b45
              replace h3 := h3.below b45
              replace h4 := h4.below b45
              replace hB := below_then hB b45
              replace hL := LL.below hL b45
              refine WL.val (dx_neqT rfl rfl rfl) rfl rfl ?_
              refine WL.nil ?_
              refine hK39 ?_
              refine WC.cond rfl (fun c46 => ?_) (fun c46 => ?_)
              ·
                replace c46 := bnot_t c46
                replace c46 := of_decide_eq_false c46
                refine WC.seq fun K47 hK47 => ?_
                refine WC.region ?_
                refine WL.val (dx_assign rfl rfl) rfl rfl ?_
                refine WL.nil ?_
                refine hK47 ?_
                refine WC.ret fun a_ ha_ => ?_
                exact hQ (cv_ret1 rfl (.tmp rfl) (by exfalso; have h9 := e41; rw [hq3, e43] at h9; have h8 := Option.some.inj h9; first | exact (by assumption : ¬ _) h8.symm | simp_all) hB ha_)
              ·
                replace c46 := bnot_f c46
                replace c46 := of_decide_eq_true c46
                refine WC.skip ?_
                refine hK38 ?_
                refine WC.region ?_
                refine WL.val (dx_move rfl rfl) rfl rfl ?_
                refine WL.val (dx_add (r := (k : Int) + 1) rfl rfl rfl (wrap64_id (by omega))) rfl rfl ?_
                refine WL.val (dx_assign rfl rfl) rfl rfl ?_
                refine WL.nil ?_
                exact hK29 (k + 1) ⟨(by omega), hB, hL, h1, h2, h3, h4⟩ (by omega) (by repeat first | exact trivial | exact And.intro rfl trivial | refine And.intro rfl ?_ | refine And.intro (congrArg (fun z : Int => some (Value.int .i64 z)) (by omega)) ?_)
          ·
            replace c37 := of_decide_eq_false c37
            refine WC.exit ?_
            refine hK13 ?_
            refine WC.region ?_
            refine WL.val (dx_move rfl rfl) rfl rfl ?_
            refine WL.val (dx_add (r := (i : Int) + 1) rfl rfl rfl (wrap64_id (by omega))) rfl rfl ?_
            refine WL.val (dx_assign rfl rfl) rfl rfl ?_
            refine WL.nil ?_
            exact hK8 (i + 1) ⟨(by omega), hB, hL, h1, h2, h3, h4⟩ (by omega) (by repeat first | exact trivial | exact And.intro rfl trivial | refine And.intro rfl ?_ | refine And.intro (congrArg (fun z : Int => some (Value.int .i64 z)) (by omega)) ?_)
    ·
      replace c12 := of_decide_eq_false c12
      refine WC.exit ?_
      refine hK6 ?_
      refine WC.seq fun K48 hK48 => ?_
      refine WC.region ?_
      refine WL.val (dx_assign rfl rfl) rfl rfl ?_
      refine WL.nil ?_
      refine hK48 ?_
      refine WC.ret fun a_ ha_ => ?_
      exact hQ (cv_ret1 rfl (.tmp rfl) rfl hB ha_)

end Go.Proofs.YthefddclefimoaaGreatDoor
namespace Go.Proofs.YthefddclefimoaaGreatDoor
open Go.RowKit
set_option linter.unusedVariables false
set_option linter.unusedSimpArgs false
set_option maxRecDepth 8000

/-- Rows that lie off all that was there at the base, and off these blocks. -/
def RdB (s base : Nat) (L : List Nat) (w : World) (v : Value) (rs : List (List Value)) : Prop := ∀ L', (∀ x ∈ L', x < base) → RdF s (L' ++ L) w v rs
section
variable {s base : Nat} {L L' : List Nat} {w w' : World} {v : Value} {rs : List (List Value)}
theorem RdB.of_new (h : NewS s base rs v w) (hL : ∀ x ∈ L, x < base) : RdB s base L w v rs := fun L' hl => h.rd fun x hx => by
  rcases List.mem_append.1 hx with hx | hx
  · exact hl x hx
  · exact hL x hx
theorem RdB.rd (h : RdB s base L w v rs) : RdF s L w v rs := h [] (fun x hx => by cases hx)
theorem RdB.one (h : RdB s base L w v rs) : v.oneCell' = true := h.rd.one
theorem RdB.below (h : RdB s base L w v rs) (hb : Below w.heap.size w w') : RdB s base L w' v rs := fun L' hl => (h L' hl).below hb
theorem RdB.less (h : RdB s base L w v rs) (hl : ∀ x, x ∈ L' → x ∈ L) : RdB s base L' w v rs := fun M hm => (h M hm).less fun x hx => by
  rcases List.mem_append.1 hx with hx | hx
  · exact List.mem_append_left _ hx
  · exact List.mem_append_right _ (hl x hx)
theorem RdB.more (h : RdB s base L w v rs) (hb : Below w.heap.size w w') {B : Nat} (hB : w.heap.size ≤ B) : RdB s base (B :: L) w' v rs := fun M hm => ((h M hm).more hb hB).less fun x hx => by
  simp only [List.mem_append, List.mem_cons] at hx ⊢
  rcases hx with hx | hx | hx
  · exact .inr (.inl hx)
  · exact .inl hx
  · exact .inr (.inr hx)
theorem RdB.only (h : RdB s base L w v rs) {B : Nat} (ho : Only B w w') (hB : B ∈ L) : RdB s base L w' v rs := fun M hm => (h M hm).only ho (List.mem_append_right _ hB)
theorem RdB.grow' (h : RdB s base L w v rs) {B B' : Nat} (hg : GrowB B B' w w') (hB : B ∈ L) : RdB s base (B' :: L) w' v rs := fun M hm => ((h M hm).grow' hg (List.mem_append_right _ hB)).less fun x hx => by
  simp only [List.mem_append, List.mem_cons] at hx ⊢
  rcases hx with hx | hx | hx
  · exact .inr (.inl hx)
  · exact .inl hx
  · exact .inr (.inr hx)
end
/-- So many blocks, at least (the list is of no weight). -/
def LeS (n : Nat) (L : List Nat) (w : World) : Prop := n ≤ w.heap.size
theorem LeS.below {n : Nat} {L : List Nat} {w w' : World} (h : LeS n L w) (hb : Below w.heap.size w w') : LeS n L w' := Nat.le_trans h hb.size
theorem LeS.more {n : Nat} {L : List Nat} {w w' : World} (h : LeS n L w) (hb : Below w.heap.size w w') {B : Nat} (hB : w.heap.size ≤ B) : LeS n (B :: L) w' := Nat.le_trans h hb.size
theorem LeS.only {n : Nat} {L : List Nat} {w w' : World} (h : LeS n L w) {B : Nat} (ho : Only B w w') (hB : B ∈ L) : LeS n L w' := by unfold LeS at h ⊢; rw [ho.size]; exact h
/-- A list of users in a block of one's own that came between base and top; what they agreed to lies elsewhere, and is new too. -/
def CopS (base top : Nat) (L : List Nat) (w : World) (ov : Value) (ys : List UserX) : Prop := (ov = .slice none 0 0 ∧ ys = []) ∨ ∃ B, base ≤ B ∧ B < top ∧ B ∉ L ∧ OwS 3 w ov (ys.map encU) B ∧ ∀ y ∈ ys, RdB 1 base (B :: L) w y.2.2.1 (y.2.2.2.map encT)
section
variable {base top : Nat} {L L' : List Nat} {w w' : World} {ov : Value} {ys : List UserX}
theorem mem_swap {x B C : Nat} {L : List Nat} (h : x ∈ B :: C :: L) : x ∈ C :: B :: L := by
  simp only [List.mem_cons] at h ⊢
  rcases h with h | h | h
  · exact .inr (.inl h)
  · exact .inl h
  · exact .inr (.inr h)
theorem CopS.below (h : CopS base top L w ov ys) (hb : Below w.heap.size w w') : CopS base top L w' ov ys := by
  rcases h with h | ⟨B, h1, h2, h3, h4, h5⟩
  · exact .inl h
  · exact .inr ⟨B, h1, h2, h3, h4.below hb, fun y hy => (h5 y hy).below hb⟩
theorem CopS.more (h : CopS base top L w ov ys) (hb : Below w.heap.size w w') {C : Nat} (hC : w.heap.size ≤ C) : CopS base top (C :: L) w' ov ys := by
  rcases h with h | ⟨B, h1, h2, h3, h4, h5⟩
  · exact .inl h
  · have hl := h4.lt
    refine .inr ⟨B, h1, h2, ?_, h4.below hb, fun y hy => ((h5 y hy).more hb hC).less fun x hx => mem_swap hx⟩
    simp only [List.mem_cons, not_or]
    exact ⟨by omega, h3⟩
theorem CopS.only (h : CopS base top L w ov ys) {C : Nat} (ho : Only C w w') (hC : C ∈ L) : CopS base top L w' ov ys := by
  rcases h with h | ⟨B, h1, h2, h3, h4, h5⟩
  · exact .inl h
  · exact .inr ⟨B, h1, h2, h3, h4.other ho (fun e => h3 (by rw [e]; exact hC)), fun y hy => (h5 y hy).only ho (.tail _ hC)⟩
theorem CopS.less (h : CopS base top L w ov ys) (hl : ∀ x, x ∈ L' → x ∈ L) : CopS base top L' w ov ys := by
  rcases h with h | ⟨B, h1, h2, h3, h4, h5⟩
  · exact .inl h
  · refine .inr ⟨B, h1, h2, fun hx => h3 (hl B hx), h4, fun y hy => (h5 y hy).less fun x hx => ?_⟩
    rcases List.mem_cons.1 hx with rfl | hx
    · exact .head _
    · exact .tail _ (hl x hx)
theorem CopS.upto (h : CopS base top L w ov ys) : CopS base w.heap.size L w ov ys := by
  rcases h with h | ⟨B, h1, h2, h3, h4, h5⟩
  · exact .inl h
  · exact .inr ⟨B, h1, h4.lt, h3, h4, h5⟩
theorem CopS.rd (h : CopS base top L w ov ys) : RdF 3 L w ov (ys.map encU) ∧ AgU L w ys := by
  rcases h with ⟨rfl, rfl⟩ | ⟨B, h1, h2, h3, h4, h5⟩
  · exact ⟨RdF.nil (by decide), fun u hu => by cases hu⟩
  · exact ⟨h4.rd h3, fun y hy => (h5 y hy).rd.less fun x hx => .tail _ hx⟩
theorem KeyU.snoc {xs ys : List UserX} {i : Nat} {r : UserX} (h : KeyU ys (xs.take i)) (hr : xs[i]? = some r) (v : Value) : KeyU (ys ++ [(r.1, r.2.1, v, r.2.2.2)]) (xs.take (i + 1)) := by
  unfold KeyU at h ⊢
  rw [List.take_add_one, hr, List.map_append, List.map_append, h]
  rfl
section
variable {P : Program} {ops : Array Oper} {o : Oper} {N : Nat} {f : Fl}
/-- One user more. -/
theorem dx_cop {t bytes : Nat} {x y : Operand} {v2 u : Value} {a b : ByteArray} {ts : List ByteArray} {L0 : List Nat} (ho : o.op = .call { callee := .builtin .append, args := #[x, y], argTypes := #[t, t] }) (ht : apB P t 3 bytes = true) (hx : ev f x = some ov) (hy : ev f y = some v2)
    (h : CopS base top L w ov ys) (h7 : RdB 1 top L w u (ts.map encT)) (h2 : RdF 3 [] w v2 [[.string a, .string b, u]]) (hL : ∀ x ∈ L0, x < base) (hbt : base ≤ top) (htw : top ≤ w.heap.size) (hm : ys.length + 1 ≤ maxLen) (hby : (ys.length + 1) * bytes ≤ 140737488355328) (hw : wantF ops o f = some true := by rfl) :
    DR P ops o N f w fun u' W => CopS base W.heap.size L0 W u' (ys ++ [(a, b, u, ts)]) ∧ Below base w W := fun c hc => by
  have hoc : ∀ r ∈ [[Value.string a, .string b, u]], ∀ z ∈ r, z.oneCell' = true := fun r hr => by rw [List.mem_singleton.1 hr]; exact oc_cons rfl (oc_cons rfl (oc_cons h7.one oc_nil))
  rcases h with ⟨rfl, rfl⟩ | ⟨B, h1, hB, h3, h4, h5⟩
  · refine Does.mono (dx_apF (rs := []) ho ht hx hy (RdF.nil (L := []) (by decide)) h2 (by simp) hm hby hw c hc) fun v W ⟨k1, k2, k3⟩ => ⟨.inr ⟨_, by omega, k1.lt, fun hz => by have := hL _ hz; omega, k1, fun y hy M hM => ?_⟩, k2.mono (by omega)⟩
    simp only [List.nil_append, List.mem_singleton] at hy
    subst hy
    refine ((h7 (M ++ L0) fun z hz => ?_).more k2 (Nat.le_refl _)).less fun z hz => ?_
    · rcases List.mem_append.1 hz with hz | hz
      · have := hM z hz; omega
      · have := hL z hz; omega
    · simp only [List.mem_append, List.mem_cons] at hz ⊢
      rcases hz with hz | hz | hz
      · exact .inr (.inl (.inl hz))
      · exact .inl hz
      · exact .inr (.inl (.inr hz))
  · have hnm : (ys.map encU).length + [[Value.string a, .string b, u]].length = ys.length + 1 := by simp
    refine Does.mono (dx_apO' ho ht hx hy h4 h2 hoc (by rw [hnm]; exact hm) (by rw [hnm]; exact hby) hw c hc) fun v W ⟨B', k1, k2⟩ => ?_
    have hB' : base ≤ B' := k2.le h1 (by omega)
    refine ⟨.inr ⟨B', hB', k1.lt, fun hz => by have := hL _ hz; omega, by rw [List.map_append]; exact k1, fun y hy M hM => ?_⟩, k2.from_base h1 (by omega)⟩
    rcases List.mem_append.1 hy with hy | hy
    · refine ((h5 y hy (M ++ L0) fun z hz => ?_).grow' k2 (List.mem_append_right _ (.head _))).less fun z hz => ?_
      · rcases List.mem_append.1 hz with hz | hz
        · exact hM z hz
        · exact hL z hz
      · simp only [List.mem_append, List.mem_cons] at hz ⊢
        rcases hz with hz | hz | hz
        · exact .inr (.inl (.inl hz))
        · exact .inl hz
        · exact .inr (.inl (.inr hz))
    · rw [List.mem_singleton.1 hy]
      refine ((h7 (B :: (M ++ L0)) fun z hz => ?_).grow' k2 (List.mem_append_left _ (.head _))).less fun z hz => ?_
      · rcases List.mem_cons.1 hz with rfl | hz
        · exact hB
        rcases List.mem_append.1 hz with hz | hz
        · have := hM z hz; omega
        · have := hL z hz; omega
      · simp only [List.mem_append, List.mem_cons] at hz ⊢
        rcases hz with hz | hz | hz
        · exact .inr (.inl (.inr (.inl hz)))
        · exact .inl hz
        · exact .inr (.inl (.inr (.inr hz)))
end
end
set_option maxHeartbeats 1000000 in
theorem copy_v (xs : List UserX) (sv : Value) (w : World) (L : List Nat) (hL : LL L w) (h1 : RdF 3 L w sv (xs.map encU)) (h2 : AgU L w xs)  (hxl : xs.length ≤ 200) (hls : ∀ u ∈ xs, u.2.2.2.length ≤ 200) : CV Tryz.prog 8 [sv] w fun v W => ∃ ys, KeyU ys xs ∧ RdF 3 L W v (ys.map encU) ∧ AgU L W ys := by
  refine cv_enter (N := 26) (f := [(0, sv)]) Tryz.func8 rfl rfl rfl rfl fun Q hQ hE => ?_
  have hB := Below.refl w.heap.size w
  have hL0 := hL
  have h1m : xs.length ≤ maxLen := by have := h1.len; rwa [List.length_map] at this
  unfold maxLen at h1m
  refine WC.seq fun K1 hK1 => ?_
  refine WC.region ?_
  refine WL.val (dx_assign rfl rfl) rfl rfl ?_
  refine WL.nil ?_
  refine hK1 ?_
  refine WC.seq fun K2 hK2 => ?_
  refine WC.region ?_
  refine WL.val (dx_assign rfl rfl) rfl rfl ?_
  refine WL.nil ?_
  refine hK2 ?_
  refine WC.seq fun K3 hK3 => ?_
  refine WC.seq fun K4 hK4 => ?_
  refine WC.region ?_
  refine WL.val (dx_assign rfl rfl) rfl rfl ?_
  refine WL.nil ?_
  refine hK4 ?_
  refine WC.block ?_
  have zh1 := h1
  have zh2 := h2
  have h5 : CopS w.heap.size w.heap.size L w (.slice none 0 0) [] := .inl ⟨rfl, rfl⟩
  refine WC.loop3 (fun (i : Nat) (ov : Value) (ys : List UserX) => [(0, sv), (2, .slice none 0 0), (4, .int .i64 (i : Int)), (3, ov)]) (fun (i : Nat) (ov : Value) (ys : List UserX) W => i ≤ xs.length ∧ KeyU ys (xs.take i) ∧ Below w.heap.size w W ∧ LL (L) W ∧ RdF 3 (L) W sv (xs.map encU) ∧ AgU (L) W xs ∧ CopS w.heap.size W.heap.size (L) W ov ys) (fun (i : Nat) (ov : Value) (ys : List UserX) => xs.length - i) 0 (.slice none 0 0) [] (by repeat first | exact trivial | exact And.intro rfl trivial | refine And.intro rfl ?_ | refine And.intro (congrArg (fun z : Int => some (Value.int .i64 z)) (by omega)) ?_) ⟨Nat.zero_le _, rfl, hB, hL, h1, h2, h5⟩ ?_
  clear h1 h2 h5 hB hL
  rintro K5 i ov ys W6 ⟨hi, hv, hB, hL, h1, h2, h5⟩ hK5
  refine WC.seq fun K7 hK7 => ?_
  refine WC.seq fun K8 hK8 => ?_
  refine WC.region ?_
  refine WL.val (dx_move rfl rfl) rfl rfl ?_
  refine WL.val (dx_move rfl rfl) rfl rfl ?_
  refine WL.val (dx_lenX rfl ty_slice_22 rfl h1) rfl rfl ?_
  refine WL.val (dx_lss rfl rfl rfl) rfl rfl ?_
  refine WL.nil ?_
  refine hK8 ?_
  refine WC.cond rfl (fun c9 => ?_) (fun c9 => ?_)
  ·
    replace c9 := of_decide_eq_true c9
    refine WC.skip ?_
    refine hK7 ?_
    refine WC.seq fun K10 hK10 => ?_
    refine WC.block ?_
    refine WC.seq fun K11 hK11 => ?_
    refine WC.region ?_
    refine WL.val (dx_move rfl rfl) rfl rfl ?_
    refine WL.val (dx_move rfl rfl) rfl rfl ?_
    obtain ⟨r12, e13⟩ : ∃ x, xs[i]? = some x := ⟨_, List.getElem?_eq_getElem (by omega)⟩
    refine WL.get (dx_idxF i rfl ty_slice_22 rfl rfl h1 (by omega) (at_mapX e13)) rfl rfl ?_
    rintro u14 _ ⟨rfl, p15⟩
    refine WL.val (dx_loadPN rfl ty_agg_54_3 rfl p15 rfl) rfl rfl ?_
    refine WL.get (dx_alloc rfl ty_zero_54 rfl) rfl rfl ?_
    rintro _ W16 ⟨rfl, k17, b18, z19⟩
    have l20 := hB.size
    replace h1 := h1.more b18 (Nat.le_refl _)
    replace h2 := h2.more b18 (Nat.le_refl _)
    replace h5 := h5.more b18 (Nat.le_refl _)
    replace p15 := p15.more b18 (Nat.le_refl _)
    replace hB := below_then hB b18
    replace hL := LL.more hL z19
    refine WL.do (dx_store (cs' := [.string r12.1, .string r12.2.1, r12.2.2.1]) (vs := [.string r12.1, .string r12.2.1, r12.2.2.1]) rfl ty_size_54_3 rfl rfl rfl (oc_cons rfl (oc_cons rfl (oc_cons (h2.one e13) oc_nil))) k17 rfl (Nat.le_of_ble_eq_true rfl) rfl) rfl ?_
    rintro _ W21 ⟨k23, o22⟩
    clear k17
    replace h1 := h1.only o22 (.head _)
    replace h2 := h2.only o22 (.head _)
    replace h5 := h5.only o22 (.head _)
    replace p15 := p15.only o22 (.head _)
    replace hB := o22.below hB l20
    replace hL := LL.only hL o22
    refine WL.nil ?_
    refine hK11 ?_
    refine WC.seq fun K24 hK24 => ?_
    refine WC.region ?_
    replace h5 := h5.upto
    have hLs := hL
    have hbt := hB.size
    have h9 : LeS W21.heap.size (W6.heap.size :: L) W21 := Nat.le_refl _
    refine WL.get (dx_lit0E rfl ty_ap_34 (by decide)) rfl rfl ?_
    rintro u25 W26 ⟨b27, hE⟩
    replace h1 := h1.below b27
    replace h2 := h2.below b27
    replace h5 := h5.below b27
    replace h9 := h9.below b27
    replace k23 := k23.below b27
    replace hB := below_then hB b27
    replace hL := LL.below hL b27
    refine WL.val (dx_fld (o1 := 2) rfl ty_fld_54_2_2 rfl rfl) rfl rfl ?_
    refine WL.val (dx_load rfl ty_one_34 rfl (k23.cell (k := 2) rfl)) rfl rfl ?_
    refine WL.get (dx_apN rfl ty_ap_34 rfl rfl hE (h2 r12 (List.mem_of_getElem? e13)) (oc_rowsX oc_T _) (by have := hls _ (List.mem_of_getElem? e13); rw [List.length_map]; unfold maxLen; omega) (by have := hls _ (List.mem_of_getElem? e13); rw [List.length_map]; omega) b27.size) rfl rfl ?_
    rintro u28 W29 ⟨b30, hN⟩
    replace h1 := h1.below b30
    replace h2 := h2.below b30
    replace h5 := h5.below b30
    replace h9 := h9.below b30
    replace k23 := k23.below b30
    replace hB := below_then hB b30
    replace hL := LL.below hL b30
    have h7 := RdB.of_new hN hLs
    refine WL.val (dx_fld (o1 := 2) rfl ty_fld_54_2_2 rfl rfl) rfl rfl ?_
    refine WL.do (dx_store (cs' := [.string r12.1, .string r12.2.1, u28]) (vs := [u28]) rfl ty_size_34_1 rfl rfl (oc_one h7.one) (oc_cons h7.one oc_nil) k23 rfl (Nat.le_of_ble_eq_true rfl) rfl) rfl ?_
    rintro _ W31 ⟨k33, o32⟩
    clear k23
    replace h1 := h1.only o32 (.head _)
    replace h2 := h2.only o32 (.head _)
    replace h5 := h5.only o32 (.head _)
    replace h9 := h9.only o32 (.head _)
    replace h7 := h7.only o32 (.head _)
    replace hB := o32.below hB l20
    replace hL := LL.only hL o32
    refine WL.nil ?_
    refine hK24 ?_
    refine WC.region ?_
    refine WL.val (dx_move rfl rfl) rfl rfl ?_
    refine WL.val (dx_loadN rfl ty_agg_54_3 rfl k33.range rfl) rfl rfl ?_
    refine WL.get (dx_lit1 (r := [.string r12.1, .string r12.2.1, u28]) rfl ty_ap_22 (by decide) (by decide) rfl rfl rfl) rfl rfl ?_
    rintro x34 W35 ⟨k37, b36, z38⟩
    replace h1 := h1.below b36
    replace h2 := h2.below b36
    replace h5 := h5.below b36
    replace h9 := h9.below b36
    replace h7 := h7.below b36
    replace k33 := k33.below b36
    replace hB := below_then hB b36
    replace hL := LL.below hL b36
    have hx := k37.rd (L := []) (by simp)
    refine WL.get (dx_cop (L0 := L) rfl ty_ap_22 rfl rfl h5 h7 hx (fun x hx => hL0 x hx) hbt h9 (by have := hv.len; rw [List.length_take, Nat.min_eq_left hi] at this; unfold maxLen; omega) (by have := hv.len; rw [List.length_take, Nat.min_eq_left hi] at this; omega)) rfl rfl ?_
    rintro x39 W40 ⟨h5, b41⟩
    replace hB := hB.trans b41
    have h1 := zh1.below hB
    have h2 := zh2.below hB
    have hL := LL.below hL0 hB
    refine WL.val (dx_assign rfl rfl) rfl rfl ?_
    refine WL.nil ?_
    refine hK10 ?_
    refine WC.region ?_
    refine WL.val (dx_move rfl rfl) rfl rfl ?_
    refine WL.val (dx_add (r := (i : Int) + 1) rfl rfl rfl (wrap64_id (by omega))) rfl rfl ?_
    refine WL.val (dx_assign rfl rfl) rfl rfl ?_
    refine WL.nil ?_
    exact hK5 (i + 1) x39 (ys ++ [(r12.1, r12.2.1, u28, r12.2.2.2)]) ⟨(by omega), (hv.snoc e13 _), hB, hL, h1, h2, h5⟩ (by omega) (by repeat first | exact trivial | exact And.intro rfl trivial | refine And.intro rfl ?_ | refine And.intro (congrArg (fun z : Int => some (Value.int .i64 z)) (by omega)) ?_)
  ·
    replace c9 := of_decide_eq_false c9
    refine WC.exit ?_
    refine hK3 ?_
    refine WC.seq fun K42 hK42 => ?_
    refine WC.region ?_
    refine WL.val (dx_move rfl rfl) rfl rfl ?_
    refine WL.val (dx_assign rfl rfl) rfl rfl ?_
    refine WL.nil ?_
    refine hK42 ?_
    refine WC.ret fun a_ ha_ => ?_
    exact hQ (cv_ret1 rfl (.tmp rfl) (by have hq := hv; rw [List.take_of_length_le (by omega)] at hq; exact ⟨ys, hq, h5.rd.1, h5.rd.2⟩) hB ha_)

end Go.Proofs.YthefddclefimoaaGreatDoor
