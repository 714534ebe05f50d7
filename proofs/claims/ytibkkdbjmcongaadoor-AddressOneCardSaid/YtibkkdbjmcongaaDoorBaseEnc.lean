/- Package base's encode answers as the reference's. -/
import Derived.Test.YtibkkdbjmcongaaDoorBaseRef
import Derived.Test.YtibkkdbjmcongaaDoorSame
import Derived.Test.YtibkkdbjmcongaaDoorBits
namespace Go.Proofs.YtibkkdbjmcongaaDoor
open Go.RowKit
set_option linter.unusedVariables false

theorem bitAt8 (l : List Int) (k j : Nat) (hj : j < 8) : bitAt l (8 * k + j) = at0 l k / 2 ^ (7 - j) % 2 := by
  unfold bitAt
  rw [show (8 * k + j) / 8 = k by omega, show (8 * k + j) % 8 = j by omega]
theorem bst8 (l : List Int) (k : Nat) : bst l (8 * (k + 1)) = bstep (bstep (bstep (bstep (bstep (bstep (bstep (bstep (bst l (8 * k)) (at0 l k / 128 % 2)) (at0 l k / 64 % 2)) (at0 l k / 32 % 2)) (at0 l k / 16 % 2)) (at0 l k / 8 % 2)) (at0 l k / 4 % 2)) (at0 l k / 2 % 2)) (at0 l k % 2) := by
  have e : 8 * (k + 1) = 8 * k + 1 + 1 + 1 + 1 + 1 + 1 + 1 + 1 := by omega
  rw [e]
  simp only [bst]
  have h0 := bitAt8 l k 0 (by omega)
  have h1 := bitAt8 l k 1 (by omega)
  have h2 := bitAt8 l k 2 (by omega)
  have h3 := bitAt8 l k 3 (by omega)
  have h4 := bitAt8 l k 4 (by omega)
  have h5 := bitAt8 l k 5 (by omega)
  have h6 := bitAt8 l k 6 (by omega)
  have h7 := bitAt8 l k 7 (by omega)
  simp only [Nat.add_zero] at h0 h1 h2 h3 h4 h5 h6 h7 ⊢
  show bstep (bstep (bstep (bstep (bstep (bstep (bstep (bstep (bst l (8 * k)) (bitAt l (8 * k))) (bitAt l (8 * k + 1))) (bitAt l (8 * k + 2))) (bitAt l (8 * k + 3))) (bitAt l (8 * k + 4))) (bitAt l (8 * k + 5))) (bitAt l (8 * k + 6))) (bitAt l (8 * k + 7)) = _
  rw [h0, h1, h2, h3, h4, h5, h6, h7]
  simp
theorem bst_eq {es es' : List Int} {n n' : Int} {k k' : Nat} (h1 : es = es') (h2 : n = n') (h3 : k = k') : ((es, n, k) : BSt) = (es', n', k') := by rw [h1, h2, h3]
theorem two_eq {es : List Int} {a a' b b' : Int} (h : a = a') (k : b = b') : es ++ [a] ++ [b] = es ++ [a'] ++ [b'] := by rw [h, k]
theorem bst8_0 (l : List Int) (k : Nat) (es : List Int) (n : Int) (hn : n = 0) (hb : 0 ≤ at0 l k ∧ at0 l k ≤ 255) (h : bst l (8 * k) = (es, n, 0)) : bst l (8 * (k + 1)) = (es ++ [at0 l k / 4], at0 l k % 4, 2) := by
  rw [bst8, h]
  simp only [bstep, Nat.zero_add, Nat.reduceAdd, Nat.reduceEqDiff, if_true, if_false]
  exact bst_eq (by congr 2; omega) (by omega) rfl
theorem bst8_2 (l : List Int) (k : Nat) (es : List Int) (n : Int) (hb : 0 ≤ at0 l k ∧ at0 l k ≤ 255) (h : bst l (8 * k) = (es, n, 2)) : bst l (8 * (k + 1)) = (es ++ [n * 16 + at0 l k / 16], at0 l k % 16, 4) := by
  rw [bst8, h]
  simp only [bstep, Nat.zero_add, Nat.reduceAdd, Nat.reduceEqDiff, if_true, if_false]
  exact bst_eq (by congr 2; omega) (by omega) rfl
theorem bst8_4 (l : List Int) (k : Nat) (es : List Int) (n : Int) (hb : 0 ≤ at0 l k ∧ at0 l k ≤ 255) (h : bst l (8 * k) = (es, n, 4)) : bst l (8 * (k + 1)) = (es ++ [n * 4 + at0 l k / 64] ++ [at0 l k % 64], 0, 0) := by
  rw [bst8, h]
  simp only [bstep, Nat.zero_add, Nat.reduceAdd, Nat.reduceEqDiff, if_true, if_false]
  exact bst_eq (two_eq (by omega) (by omega)) rfl rfl
theorem bst_held (l : List Int) (hb : Bytes l) (k : Nat) : ∃ es n, (bst l (8 * k) = (es, n, 0) ∧ n = 0) ∨ bst l (8 * k) = (es, n, 2) ∨ bst l (8 * k) = (es, n, 4) := by
  induction k with
  | zero => exact ⟨[], 0, .inl ⟨rfl, rfl⟩⟩
  | succ k ih =>
    obtain ⟨es, n, ⟨h, h0⟩ | h | h⟩ := ih
    · exact ⟨_, _, .inr (.inl (bst8_0 l k es n h0 (hb.at k) h))⟩
    · exact ⟨_, _, .inr (.inr (bst8_2 l k es n (hb.at k) h))⟩
    · exact ⟨_, _, .inl ⟨bst8_4 l k es n (hb.at k) h, rfl⟩⟩

theorem join8 (bb c : Int) (h0 : 0 ≤ bb) (h1 : bb < 18446744073709551616) (c0 : 0 ≤ c) (c1 : c ≤ 255) :
    ∃ B1, bits BinOp.or IntKind.u64 (IntKind.u64.wrap (bb * 256)) c = B1 ∧ 0 ≤ B1 ∧ B1 < 18446744073709551616 ∧ B1 % 4096 = bb % 16 * 256 + c := by
  refine ⟨_, rfl, ?_⟩
  rw [wrap_u64_eq, u64_or_add _ c 8 (by omega) (by omega) (by omega) c0 (by omega) (by omega)]
  omega
/-- A letter of a text. -/
theorem idx_str {P : Program} (t : TypeId) (ht : P.underlying t = some .string) (L : ByteArray) (e : Int) (h0 : 0 ≤ e) (h1 : e < L.size) (w : World) :
    (Instr.index t (.string L) (.int .u64 e)).run P w = .ok (.int .u8 (lttr L e)) w := by
  obtain ⟨k, rfl⟩ := Int.eq_ofNat_of_zero_le h0
  have hk : k < L.size := by omega
  rw [lttr, Int.toNat_natCast, at0_sb L k hk]
  simp [Instr.index, run_underlying ht, asIntOf, hk]

set_option maxHeartbeats 400000 in
theorem encode04_any (v : Value) (l : List Int) (L : ByteArray) (w : World) (h : RdI .u8 w v l) (hb : Bytes l) (hL : L.size = 64) (hlen : l.length ≤ 1000000) :
    Calls Tryd.prog 84 #[v, .string L] w fun e w' => e = .returned (.string (strL L (encL l))) ∧ Below w.heap.size w w' := by
  obtain ⟨j0, hj, hy0, hy1, hy2⟩ := info_parts info_u8
  obtain ⟨a, ca, rfl, hla, hma, ha, -⟩ := h
  unfold maxLen at hma
  have HA := Lib.hid ha; clear ha
  have hsz := sizeI_yes (n := l.length) (by omega) (by omega)
  go_enter Tryd.func84, Tryd.ntmps84
  go_wp2_with (first
    | (go_at_call 51; refine (size_any _ _).mono ?_; rintro e w1 ⟨rfl, hw⟩; obtain rfl := hw.symm)
    | (at_make; refine wpList_make_own _ rfl _ _ 43 rfl w.heap.size 5 j0 (.int .u8 0) 1 Tryd.underlying43 hj hy0 hy1 .i64 .i64 (((l.length : Int) * 8 + 5) / 6) ((l.length * 8 + 5) / 6) rfl rfl (by omega) (by rw [hy2]; omega) (by unfold maxLen; omega) (Nat.le_refl _) ?_; intro w1 hown1 hgr1))
  have hb1 : Below w.heap.size w w1 := (Below.refl _ _).grown hgr1 (Nat.le_refl _) (fun k hk => by cases hk)
  clear hgr1 hsz
  go_loopw [5, 6, 7, 16] (fun v b h i wr => ∃ (k : Nat) (bb : Int) (hd : Nat), k ≤ l.length ∧ i = .int .i64 k ∧ b = .int .u64 bb ∧ h = .int .i64 hd ∧ 0 ≤ bb ∧ bb < 18446744073709551616 ∧ (bst l (8 * k)).2.2 = hd ∧ bb % 2 ^ hd = (bst l (8 * k)).2.1 ∧ wr.ownsRow w.heap.size 5 1 v (bst l (8 * k)).1.length (((bst l (8 * k)).1.map (lttr L)).map (Value.int .u8)) ∧ Below w.heap.size w wr) (fun _ _ _ i _ => l.length - (intOf i).toNat)
  case atStart => exact ⟨0, 0, 0, Nat.zero_le _, rfl, rfl, rfl, by omega, by omega, rfl, rfl, hown1, hb1⟩
  case round =>
    obtain ⟨k, bb, hd, hk, rfl, rfl, rfl, hb0, hbb, hhd, hmod, hown, hbel⟩ := hrel
    clear hown1 hb1
    obtain ⟨es, n, hst⟩ := bst_held l hb k
    by_cases hlt : k < l.length
    · obtain ⟨x, o, rfl, hc0⟩ := HA.out k hlt
      have hc := (hbel.cell (p := ⟨x, o + k, none⟩) (World.block_lt_of_cell? w _ hc0)).trans hc0
      clear HA hc0
      obtain ⟨c0, c1⟩ := hb.at k
      rcases hst with ⟨hst, rfl⟩ | hst | hst
      · have hnx := bst8_0 l k es 0 rfl ⟨c0, c1⟩ hst
        rw [hst] at hhd hmod hown
        simp only at hhd hmod hown
        subst hhd
        have hel : es.length ≤ 8 * k := by have := bst_len l (8 * k); rw [hst] at this; exact this
        have HN := Lib.hid hnx; clear hnx hst
        obtain ⟨B1, hB1, q0, q1, q2⟩ := join8 bb (at0 l k) hb0 hbb c0 c1
        have hn0 : 0 ≤ 0 ∧ 0 < 1 := by omega
        have e0 : bits BinOp.and IntKind.u64 (B1 / 4) 63 = at0 l k / 4 := by
          have := u64_and_mask (B1 / 4) 6 63 rfl (by first | omega | (rw [wrap_u64_eq]; omega)) (by first | omega | (rw [wrap_u64_eq]; omega)) (by first | omega | (rw [wrap_u64_eq]; omega))
          rw [show ((63 : Nat) : Int) = 63 from rfl] at this
          rw [this]
          first | omega | (rw [wrap_u64_eq]; omega)
        have x0 := idx_str (P := Tryd.prog) 9 Tryd.underlying9 L (at0 l k / 4) (by omega) (by omega)
        have HQ := Lib.hid (And.intro q1 (And.intro q2 (And.intro hbb hmod))); clear q1 q2 hbb hmod
        go_wp2
        refine wp_loop_rounds 3 ?_
        rw [rounds_succ]
        go_wp2_with (at_builtin; refine wpList_append_rd rfl _ _ 43 rfl w.heap.size 5 j0 (.int .u8 0) 1 Tryd.underlying43 hj hy0 hy1 hy2 rfl _ _ _ rfl (hown.alloc _) _ 1 1 [.int .u8 (lttr L (at0 l k / 4))] rfl reads_one (by simp [Value.oneCell']) (by unfold maxLen; omega) (by omega) (by have hs1 := hbel.size; simp only [World.size_alloc]; omega) (by simp) ?_; intro v2 w2 hown2 hgr2 hc2; have hb2 := (hbel.alloc (by have hs1 := hbel.size; omega) _).trans hc2; clear hgr2 hc2)
        rw [rounds_succ]
        go_wp2
        obtain ⟨g1, g2, g3, g4⟩ := HQ.out
        refine ⟨⟨k + 1, B1, 2, by omega, by go_num, rfl, rfl, q0, g1, by rw [HN.out], by rw [HN.out]; simp only []; omega, ?_, hb2⟩, by simp [intOf]; omega⟩
        rw [HN.out]
        simpa using hown2
      · have hnx := bst8_2 l k es n ⟨c0, c1⟩ hst
        rw [hst] at hhd hmod hown
        simp only at hhd hmod hown
        subst hhd
        have hel : es.length ≤ 8 * k := by have := bst_len l (8 * k); rw [hst] at this; exact this
        have HN := Lib.hid hnx; clear hnx hst
        obtain ⟨B1, hB1, q0, q1, q2⟩ := join8 bb (at0 l k) hb0 hbb c0 c1
        have hn0 : 0 ≤ n ∧ n < 4 := by omega
        have e0 : bits BinOp.and IntKind.u64 (B1 / 16) 63 = n * 16 + at0 l k / 16 := by
          have := u64_and_mask (B1 / 16) 6 63 rfl (by first | omega | (rw [wrap_u64_eq]; omega)) (by first | omega | (rw [wrap_u64_eq]; omega)) (by first | omega | (rw [wrap_u64_eq]; omega))
          rw [show ((63 : Nat) : Int) = 63 from rfl] at this
          rw [this]
          first | omega | (rw [wrap_u64_eq]; omega)
        have x0 := idx_str (P := Tryd.prog) 9 Tryd.underlying9 L (n * 16 + at0 l k / 16) (by omega) (by omega)
        have HQ := Lib.hid (And.intro q1 (And.intro q2 (And.intro hbb hmod))); clear q1 q2 hbb hmod
        go_wp2
        refine wp_loop_rounds 3 ?_
        rw [rounds_succ]
        go_wp2_with (at_builtin; refine wpList_append_rd rfl _ _ 43 rfl w.heap.size 5 j0 (.int .u8 0) 1 Tryd.underlying43 hj hy0 hy1 hy2 rfl _ _ _ rfl (hown.alloc _) _ 1 1 [.int .u8 (lttr L (n * 16 + at0 l k / 16))] rfl reads_one (by simp [Value.oneCell']) (by unfold maxLen; omega) (by omega) (by have hs1 := hbel.size; simp only [World.size_alloc]; omega) (by simp) ?_; intro v2 w2 hown2 hgr2 hc2; have hb2 := (hbel.alloc (by have hs1 := hbel.size; omega) _).trans hc2; clear hgr2 hc2)
        rw [rounds_succ]
        go_wp2
        obtain ⟨g1, g2, g3, g4⟩ := HQ.out
        refine ⟨⟨k + 1, B1, 4, by omega, by go_num, rfl, rfl, q0, g1, by rw [HN.out], by rw [HN.out]; simp only []; omega, ?_, hb2⟩, by simp [intOf]; omega⟩
        rw [HN.out]
        simpa using hown2
      · have hnx := bst8_4 l k es n ⟨c0, c1⟩ hst
        rw [hst] at hhd hmod hown
        simp only at hhd hmod hown
        subst hhd
        have hel : es.length ≤ 8 * k := by have := bst_len l (8 * k); rw [hst] at this; exact this
        have HN := Lib.hid hnx; clear hnx hst
        obtain ⟨B1, hB1, q0, q1, q2⟩ := join8 bb (at0 l k) hb0 hbb c0 c1
        have hn0 : 0 ≤ n ∧ n < 16 := by omega
        have e0 : bits BinOp.and IntKind.u64 (B1 / 64) 63 = n * 4 + at0 l k / 64 := by
          have := u64_and_mask (B1 / 64) 6 63 rfl (by first | omega | (rw [wrap_u64_eq]; omega)) (by first | omega | (rw [wrap_u64_eq]; omega)) (by first | omega | (rw [wrap_u64_eq]; omega))
          rw [show ((63 : Nat) : Int) = 63 from rfl] at this
          rw [this]
          first | omega | (rw [wrap_u64_eq]; omega)
        have x0 := idx_str (P := Tryd.prog) 9 Tryd.underlying9 L (n * 4 + at0 l k / 64) (by omega) (by omega)
        have e1 : bits BinOp.and IntKind.u64 (B1) 63 = at0 l k % 64 := by
          have := u64_and_mask (B1) 6 63 rfl (by first | omega | (rw [wrap_u64_eq]; omega)) (by first | omega | (rw [wrap_u64_eq]; omega)) (by first | omega | (rw [wrap_u64_eq]; omega))
          rw [show ((63 : Nat) : Int) = 63 from rfl] at this
          rw [this]
          first | omega | (rw [wrap_u64_eq]; omega)
        have x1 := idx_str (P := Tryd.prog) 9 Tryd.underlying9 L (at0 l k % 64) (by omega) (by omega)
        have HQ := Lib.hid (And.intro q1 (And.intro q2 (And.intro hbb hmod))); clear q1 q2 hbb hmod
        go_wp2
        refine wp_loop_rounds 3 ?_
        rw [rounds_succ]
        go_wp2_with (at_builtin; refine wpList_append_rd rfl _ _ 43 rfl w.heap.size 5 j0 (.int .u8 0) 1 Tryd.underlying43 hj hy0 hy1 hy2 rfl _ _ _ rfl (hown.alloc _) _ 1 1 [.int .u8 (lttr L (n * 4 + at0 l k / 64))] rfl reads_one (by simp [Value.oneCell']) (by unfold maxLen; omega) (by omega) (by have hs1 := hbel.size; simp only [World.size_alloc]; omega) (by simp) ?_; intro v2 w2 hown2 hgr2 hc2; have hb2 := (hbel.alloc (by have hs1 := hbel.size; omega) _).trans hc2; clear hgr2 hc2)
        rw [rounds_succ]
        go_wp2_with (at_builtin; refine wpList_append_rd rfl _ _ 43 rfl w.heap.size 5 j0 (.int .u8 0) 1 Tryd.underlying43 hj hy0 hy1 hy2 rfl _ _ _ rfl (hown2.alloc _) _ 1 1 [.int .u8 (lttr L (at0 l k % 64))] rfl reads_one (by simp [Value.oneCell']) (by unfold maxLen; omega) (by omega) (by have hs1 := hb2.size; simp only [World.size_alloc]; omega) (by simp) ?_; intro v3 w3 hown3 hgr3 hc3; have hb3 := (hb2.alloc (by have hs1 := hb2.size; omega) _).trans hc3; clear hgr3 hc3)
        rw [rounds_succ]
        go_wp2
        obtain ⟨g1, g2, g3, g4⟩ := HQ.out
        refine ⟨⟨k + 1, B1, 0, by omega, by go_num, rfl, rfl, q0, g1, by rw [HN.out], by rw [HN.out]; simp only []; omega, ?_, hb3⟩, by simp [intOf]; omega⟩
        rw [HN.out]
        simpa using hown3
    · obtain rfl : k = l.length := by omega
      clear HA
      have henc : encL l = if (bst l (8 * l.length)).2.2 = 0 then (bst l (8 * l.length)).1
        else (bst l (8 * l.length)).1 ++ [(bst l (8 * l.length)).2.1 * 2 ^ (6 - (bst l (8 * l.length)).2.2)] := rfl
      have hel0 := bst_len l (8 * l.length)
      rcases hst with ⟨hst, rfl⟩ | hst | hst
      · rw [hst] at hhd hmod hown henc hel0
        simp only [if_true] at hhd hmod hown henc hel0
        subst hhd
        have HE := Lib.hid henc; clear henc hst hmod
        have hrd : RdI .u8 wr u5 (es.map (lttr L)) := RdI.of_own hown
        have hcv := run_conv_bs (P := Tryd.prog) 43 9 5 Tryd.underlying43 Tryd.underlying9 Tryd.underlying5 _ _ hrd
        go_wp2
        go_ret
        exact ⟨by rw [HE.out]; rfl, hbel⟩
      · rw [hst] at hhd hmod hown henc hel0
        simp only [Nat.reduceEqDiff, if_false, Nat.reduceSub] at hhd hmod hown henc hel0
        subst hhd
        have hn0 : 0 ≤ n ∧ n < 4 := by omega
        have e0 : bits BinOp.and IntKind.u64 (IntKind.u64.wrap (bb * 16)) 63 = n * 16 := by
          have := u64_and_mask (IntKind.u64.wrap (bb * 16)) 6 63 rfl (by first | omega | (rw [wrap_u64_eq]; omega)) (by first | omega | (rw [wrap_u64_eq]; omega)) (by first | omega | (rw [wrap_u64_eq]; omega))
          rw [show ((63 : Nat) : Int) = 63 from rfl] at this
          rw [this]
          first | omega | (rw [wrap_u64_eq]; omega)
        have x0 := idx_str (P := Tryd.prog) 9 Tryd.underlying9 L (n * 16) (by omega) (by omega)
        have HE := Lib.hid henc; clear henc hst
        have HQ := Lib.hid (And.intro hbb hmod); clear hbb hmod
        go_wp2_with (first
          | (at_builtin; refine wpList_append_rd rfl _ _ 43 rfl w.heap.size 5 j0 (.int .u8 0) 1 Tryd.underlying43 hj hy0 hy1 hy2 rfl _ _ _ rfl (hown.alloc _) _ 1 1 [.int .u8 (lttr L (n * 16))] rfl reads_one (by simp [Value.oneCell']) (by unfold maxLen; omega) (by omega) (by have hs1 := hbel.size; simp only [World.size_alloc]; omega) (by simp) ?_; intro v2 w2 hown2 hgr2 hc2; have hb2 := (hbel.alloc (by have hs1 := hbel.size; omega) _).trans hc2; clear hgr2 hc2; have hrd : RdI .u8 w2 v2 ((es ++ [n * 16]).map (lttr L)) := RdI.of_own (n := es.length + 1) (by simpa using hown2); have hcv := run_conv_bs (P := Tryd.prog) 43 9 5 Tryd.underlying43 Tryd.underlying9 Tryd.underlying5 _ _ hrd))
        go_ret
        exact ⟨by rw [HE.out, show n * 2 ^ 4 = n * 16 by omega, strL, List.map_append]; rfl, hb2⟩
      · rw [hst] at hhd hmod hown henc hel0
        simp only [Nat.reduceEqDiff, if_false, Nat.reduceSub] at hhd hmod hown henc hel0
        subst hhd
        have hn0 : 0 ≤ n ∧ n < 16 := by omega
        have e0 : bits BinOp.and IntKind.u64 (IntKind.u64.wrap (bb * 4)) 63 = n * 4 := by
          have := u64_and_mask (IntKind.u64.wrap (bb * 4)) 6 63 rfl (by first | omega | (rw [wrap_u64_eq]; omega)) (by first | omega | (rw [wrap_u64_eq]; omega)) (by first | omega | (rw [wrap_u64_eq]; omega))
          rw [show ((63 : Nat) : Int) = 63 from rfl] at this
          rw [this]
          first | omega | (rw [wrap_u64_eq]; omega)
        have x0 := idx_str (P := Tryd.prog) 9 Tryd.underlying9 L (n * 4) (by omega) (by omega)
        have HE := Lib.hid henc; clear henc hst
        have HQ := Lib.hid (And.intro hbb hmod); clear hbb hmod
        go_wp2_with (first
          | (at_builtin; refine wpList_append_rd rfl _ _ 43 rfl w.heap.size 5 j0 (.int .u8 0) 1 Tryd.underlying43 hj hy0 hy1 hy2 rfl _ _ _ rfl (hown.alloc _) _ 1 1 [.int .u8 (lttr L (n * 4))] rfl reads_one (by simp [Value.oneCell']) (by unfold maxLen; omega) (by omega) (by have hs1 := hbel.size; simp only [World.size_alloc]; omega) (by simp) ?_; intro v2 w2 hown2 hgr2 hc2; have hb2 := (hbel.alloc (by have hs1 := hbel.size; omega) _).trans hc2; clear hgr2 hc2; have hrd : RdI .u8 w2 v2 ((es ++ [n * 4]).map (lttr L)) := RdI.of_own (n := es.length + 1) (by simpa using hown2); have hcv := run_conv_bs (P := Tryd.prog) 43 9 5 Tryd.underlying43 Tryd.underlying9 Tryd.underlying5 _ _ hrd))
        go_ret
        exact ⟨by rw [HE.out, show n * 2 ^ 2 = n * 4 by omega, strL, List.map_append]; rfl, hb2⟩
end Go.Proofs.YtibkkdbjmcongaaDoor
