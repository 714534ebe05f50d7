/- What the calls of the laws UtfCuts and UtfFirst do: each returns true. -/
import Derived.Test.YticeogdagnogpaaUtfLaws2
namespace Go.Proofs.Yticeogdagnogpaa
open Go.RowKit
set_option linter.unusedVariables false

theorem reads_of {K : IntKind} {w : World} {a : Option Addr} {n c : Nat} {zs : List Int} (h : RdI K w (.slice a n c) zs) : Reads w a n (zs.map (Value.int K)) ∧ (a = none → c = 0) := by
  obtain ⟨a', cap, he, h1, h2, h3, h4⟩ := h
  cases he
  exact ⟨reads_rd h3, h4⟩

theorem Reads.below {w w' : World} {a : Option Addr} {m : Nat} {xs : List Value} (h : Reads w a m xs) (hb : Below w.heap.size w w') : Reads w' a m xs := by
  refine ⟨h.1, fun j hj => ?_⟩
  obtain ⟨x, o, rfl, hc⟩ := h.2 j hj
  have hj' : j < xs.length := by rw [h.1]; exact hj
  rw [List.getElem?_eq_getElem hj'] at hc
  exact ⟨x, o, rfl, by rw [hb.cell (World.block_lt_of_cell? w _ hc), hc, List.getElem?_eq_getElem hj']⟩

set_option maxHeartbeats 400000 in
theorem law_cuts (v1 : Value) (a : List Int) (v2 : Value) (b : List Int) (w : World) (h1 : RdI .u8 w v1 a) (ha : Bytes a) (h2 : RdI .u8 w v2 b) (hb : Bytes b) :
    Calls Try.prog 6 #[v1, v2] w fun e w' => e = .returned (.bool true) ∧ Below w.heap.size w w' := by
  have ra := h1
  have rb := h2
  obtain ⟨p, cap, rfl, hla, hma, -, -⟩ := h1
  obtain ⟨p', cap', rfl, hla', hma', -, -⟩ := h2
  unfold maxLen at hma hma'
  obtain ⟨j0, hj, hy0, hy1, hy2⟩ := info_parts info_u8
  obtain ⟨i0, hi, hz0, hz1, hz2⟩ := info_parts info_i32
  by_cases g1 : 3000 < a.length
  · go_enter Try.func6, Try.ntmps6
    go_wp2_with (go_at_call 13; refine (alive01 _).mono ?_; rintro e w1 ⟨rfl, hb1⟩)
    go_ret
    exact ⟨rfl, hb1⟩
  by_cases g2 : 3000 < b.length
  · go_enter Try.func6, Try.ntmps6
    go_wp2_with (go_at_call 13; refine (alive01 _).mono ?_; rintro e w1 ⟨rfl, hb1⟩)
    go_ret
    exact ⟨rfl, hb1⟩
  have hla2 : a.length ≤ 1000000 := by omega
  have hlb2 : b.length ≤ 1000000 := by omega
  have hlab : (a ++ b).length ≤ 1000000 := by simp; omega
  have HB := Below.refl w.heap.size w
  cases hda : decS a with
  | none =>
    cases hdb : decS b with
    | none =>
      go_enter Try.func6, Try.ntmps6
      go_wp2_with fail
      refine (alive01 _).mono ?_
      rintro e w1 ⟨rfl, hb1⟩
      replace ra := ra.below hb1
      replace rb := rb.below hb1
      replace HB := below_then HB hb1
      clear hb1
      go_wp2_with fail
      refine (decode_no _ a _ ra ha hla2 hda).mono ?_
      rintro e w2 ⟨rfl, hb2⟩
      replace ra := ra.below hb2
      replace rb := rb.below hb2
      replace HB := below_then HB hb2
      clear hb2
      go_wp2_with fail
      refine (decode_no _ b _ rb hb hlb2 hdb).mono ?_
      rintro e w3 ⟨rfl, hb3⟩
      replace ra := ra.below hb3
      replace rb := rb.below hb3
      replace HB := below_then HB hb3
      clear hb3
      go_wp2_with fail
      refine (copy_rd _ a _ ra hla2).mono ?_
      rintro e w4 ⟨a4, c4, rfl, hown, -, hb4⟩
      have rb4 := rb.below hb4
      obtain ⟨hrb, hnb⟩ := reads_of rb4
      have HN := Lib.hid hnb; clear hnb
      go_wp2_with (at_builtin; refine wpList_append_rd rfl _ _ 22 rfl _ 5 j0 (.int .u8 0) 1 Try.underlying22 hj hy0 hy1 hy2 rfl _ _ _ rfl hown _ _ _ _ rfl hrb (by simp [Value.oneCell']) (by unfold maxLen; omega) (by omega) hb4.size HN.out ?_; intro v5 w5 hown5 hgr5 hb5)
      have rall : RdI .u8 w5 v5 (a ++ b) := RdI.of_own (by simpa using hown5)
      have hb35 := hb4.trans hb5
      clear hgr5 hown hrb hown5 hb4 hb5 rb4
      replace ra := ra.below hb35
      replace rb := rb.below hb35
      replace HB := below_then HB hb35
      clear hb35
      cases hdab : decS (a ++ b) with
      | none =>
        go_wp2_with fail
        refine (decode_no _ _ _ rall (ha.append hb) hlab hdab).mono ?_
        rintro e w6 ⟨rfl, hb6⟩
        go_wp2
        all_goals go_ret
        all_goals exact ⟨rfl, below_then HB hb6⟩
      | some z =>
        go_wp2_with fail
        refine (decode_ok _ _ z _ rall (ha.append hb) hlab hdab).mono ?_
        rintro e w6 ⟨a6, c6, rfl, hb6, rz⟩
        go_wp2
        all_goals go_ret
        all_goals exact ⟨rfl, below_then HB hb6⟩
    | some m =>
      go_enter Try.func6, Try.ntmps6
      go_wp2_with fail
      refine (alive01 _).mono ?_
      rintro e w1 ⟨rfl, hb1⟩
      replace ra := ra.below hb1
      replace rb := rb.below hb1
      replace HB := below_then HB hb1
      clear hb1
      go_wp2_with fail
      refine (decode_no _ a _ ra ha hla2 hda).mono ?_
      rintro e w2 ⟨rfl, hb2⟩
      replace ra := ra.below hb2
      replace rb := rb.below hb2
      replace HB := below_then HB hb2
      clear hb2
      go_wp2_with fail
      refine (decode_ok _ b m _ rb hb hlb2 hdb).mono ?_
      rintro e w3 ⟨a3, c3, rfl, hb3, rm⟩
      replace ra := ra.below hb3
      replace rb := rb.below hb3
      replace HB := below_then HB hb3
      clear hb3
      go_wp2_with fail
      refine (copy_rd _ a _ ra hla2).mono ?_
      rintro e w4 ⟨a4, c4, rfl, hown, -, hb4⟩
      have rb4 := rb.below hb4
      obtain ⟨hrb, hnb⟩ := reads_of rb4
      have HN := Lib.hid hnb; clear hnb
      go_wp2_with (at_builtin; refine wpList_append_rd rfl _ _ 22 rfl _ 5 j0 (.int .u8 0) 1 Try.underlying22 hj hy0 hy1 hy2 rfl _ _ _ rfl hown _ _ _ _ rfl hrb (by simp [Value.oneCell']) (by unfold maxLen; omega) (by omega) hb4.size HN.out ?_; intro v5 w5 hown5 hgr5 hb5)
      have rall : RdI .u8 w5 v5 (a ++ b) := RdI.of_own (by simpa using hown5)
      have hb35 := hb4.trans hb5
      clear hgr5 hown hrb hown5 hb4 hb5 rb4
      replace ra := ra.below hb35
      replace rb := rb.below hb35
      replace rm := rm.below hb35
      replace HB := below_then HB hb35
      clear hb35
      cases hdab : decS (a ++ b) with
      | none =>
        go_wp2_with fail
        refine (decode_no _ _ _ rall (ha.append hb) hlab hdab).mono ?_
        rintro e w6 ⟨rfl, hb6⟩
        go_wp2
        all_goals go_ret
        all_goals exact ⟨rfl, below_then HB hb6⟩
      | some z =>
        go_wp2_with fail
        refine (decode_ok _ _ z _ rall (ha.append hb) hlab hdab).mono ?_
        rintro e w6 ⟨a6, c6, rfl, hb6, rz⟩
        go_wp2
        all_goals go_ret
        all_goals exact ⟨rfl, below_then HB hb6⟩
  | some l =>
    cases hdb : decS b with
    | none =>
      go_enter Try.func6, Try.ntmps6
      go_wp2_with fail
      refine (alive01 _).mono ?_
      rintro e w1 ⟨rfl, hb1⟩
      replace ra := ra.below hb1
      replace rb := rb.below hb1
      replace HB := below_then HB hb1
      clear hb1
      go_wp2_with fail
      refine (decode_ok _ a l _ ra ha hla2 hda).mono ?_
      rintro e w2 ⟨a2, c2, rfl, hb2, rl⟩
      replace ra := ra.below hb2
      replace rb := rb.below hb2
      replace HB := below_then HB hb2
      clear hb2
      go_wp2_with fail
      refine (decode_no _ b _ rb hb hlb2 hdb).mono ?_
      rintro e w3 ⟨rfl, hb3⟩
      replace ra := ra.below hb3
      replace rb := rb.below hb3
      replace rl := rl.below hb3
      replace HB := below_then HB hb3
      clear hb3
      go_wp2_with fail
      refine (copy_rd _ a _ ra hla2).mono ?_
      rintro e w4 ⟨a4, c4, rfl, hown, -, hb4⟩
      have rb4 := rb.below hb4
      obtain ⟨hrb, hnb⟩ := reads_of rb4
      have HN := Lib.hid hnb; clear hnb
      go_wp2_with (at_builtin; refine wpList_append_rd rfl _ _ 22 rfl _ 5 j0 (.int .u8 0) 1 Try.underlying22 hj hy0 hy1 hy2 rfl _ _ _ rfl hown _ _ _ _ rfl hrb (by simp [Value.oneCell']) (by unfold maxLen; omega) (by omega) hb4.size HN.out ?_; intro v5 w5 hown5 hgr5 hb5)
      have rall : RdI .u8 w5 v5 (a ++ b) := RdI.of_own (by simpa using hown5)
      have hb35 := hb4.trans hb5
      clear hgr5 hown hrb hown5 hb4 hb5 rb4
      replace ra := ra.below hb35
      replace rb := rb.below hb35
      replace rl := rl.below hb35
      replace HB := below_then HB hb35
      clear hb35
      cases hdab : decS (a ++ b) with
      | none =>
        go_wp2_with fail
        refine (decode_no _ _ _ rall (ha.append hb) hlab hdab).mono ?_
        rintro e w6 ⟨rfl, hb6⟩
        go_wp2
        all_goals go_ret
        all_goals exact ⟨rfl, below_then HB hb6⟩
      | some z =>
        go_wp2_with fail
        refine (decode_ok _ _ z _ rall (ha.append hb) hlab hdab).mono ?_
        rintro e w6 ⟨a6, c6, rfl, hb6, rz⟩
        go_wp2
        all_goals go_ret
        all_goals exact ⟨rfl, below_then HB hb6⟩
    | some m =>
      have hab := dec_append a.length a b l m (Nat.le_refl _) ha hda hdb
      have hls := decS_short a.length (Nat.le_refl _) hda
      have hms := decS_short b.length (Nat.le_refl _) hdb
      go_enter Try.func6, Try.ntmps6
      go_wp2_with fail
      refine (alive01 _).mono ?_
      rintro e w1 ⟨rfl, hb1⟩
      replace ra := ra.below hb1
      replace rb := rb.below hb1
      replace HB := below_then HB hb1
      clear hb1
      go_wp2_with fail
      refine (decode_ok _ a l _ ra ha hla2 hda).mono ?_
      rintro e w2 ⟨a2, c2, rfl, hb2, rl⟩
      replace ra := ra.below hb2
      replace rb := rb.below hb2
      replace HB := below_then HB hb2
      clear hb2
      go_wp2_with fail
      refine (decode_ok _ b m _ rb hb hlb2 hdb).mono ?_
      rintro e w3 ⟨a3, c3, rfl, hb3, rm⟩
      replace ra := ra.below hb3
      replace rb := rb.below hb3
      replace rl := rl.below hb3
      replace HB := below_then HB hb3
      clear hb3
      go_wp2_with fail
      refine (copy_rd _ a _ ra hla2).mono ?_
      rintro e w4 ⟨a4, c4, rfl, hown, -, hb4⟩
      have rb4 := rb.below hb4
      obtain ⟨hrb, hnb⟩ := reads_of rb4
      have HN := Lib.hid hnb; clear hnb
      go_wp2_with (at_builtin; refine wpList_append_rd rfl _ _ 22 rfl _ 5 j0 (.int .u8 0) 1 Try.underlying22 hj hy0 hy1 hy2 rfl _ _ _ rfl hown _ _ _ _ rfl hrb (by simp [Value.oneCell']) (by unfold maxLen; omega) (by omega) hb4.size HN.out ?_; intro v5 w5 hown5 hgr5 hb5)
      have rall : RdI .u8 w5 v5 (a ++ b) := RdI.of_own (by simpa using hown5)
      have hb35 := hb4.trans hb5
      clear hgr5 hown hrb hown5 hb4 hb5 rb4
      replace ra := ra.below hb35
      replace rb := rb.below hb35
      replace rl := rl.below hb35
      replace rm := rm.below hb35
      replace HB := below_then HB hb35
      clear hb35
      go_wp2_with fail
      refine (decode_ok _ _ _ _ rall (ha.append hb) hlab hab).mono ?_
      rintro e w6 ⟨a6, c6, rfl, hb6, rboth⟩
      replace rl := rl.below hb6
      replace rm := rm.below hb6
      replace HB := below_then HB hb6
      clear hb6
      obtain ⟨q1, n1⟩ := reads_of rl
      obtain ⟨q2, n2⟩ := reads_of rm
      have N1 := Lib.hid n1; clear n1
      have N2 := Lib.hid n2; clear n2
      have hal : Below w6.heap.size w6 (w6.alloc (.cells #[] 21)) := below_alloc (Below.refl _ _) _
      have q1' := q1.below hal
      go_wp2_with (first
        | (at_builtin; refine wpList_append_rd rfl (.tmp 51) (.tmp 52) 25 rfl w6.heap.size 21 i0 (.int .i32 0) 4 Try.underlying25 hi hz0 hz1 hz2 rfl _ _ _ rfl hown7 _ _ _ _ rfl q2' (by simp [Value.oneCell']) (by unfold maxLen; omega) (by omega) (by omega) N2.out ?_; intro v8 w8 hown8 hgr8 hb8)
        | (at_builtin; refine wpList_append_rd rfl (.tmp 49) (.tmp 50) 25 rfl w6.heap.size 21 i0 (.int .i32 0) 4 Try.underlying25 hi hz0 hz1 hz2 rfl _ _ _ rfl (World.ownsRow_made w6 #[] 0 (Nat.le_refl _) (Nat.zero_le _) rfl) _ _ _ _ rfl q1' (by simp [Value.oneCell']) (by unfold maxLen; omega) (by omega) (by simp) N1.out ?_; intro v7 w7 hown7 hgr7 hb7; have q2' := q2.below (hal.trans hb7); have hs7 := hb7.size; simp only [World.size_alloc] at hs7; simp only [Nat.zero_add, List.nil_append] at hown7))
      have rfin : RdI .i32 w8 v8 (l ++ m) := RdI.of_own (by simpa using hown8)
      have h68 := (hal.trans hb7).trans hb8
      replace rboth := rboth.below h68
      rw [List.length_append] at rboth
      replace HB := below_then HB h68
      clear hgr7 hgr8 hown7 hown8 q1 q2 q1' q2' hb7 hb8 h68 hal
      go_wp2_with fail
      refine (sameRunes_yes _ _ _ _ rboth rfin).mono ?_
      rintro e w9 ⟨rfl, hb9⟩
      go_wp2
      go_ret
      exact ⟨rfl, below_then HB hb9⟩

set_option maxHeartbeats 400000 in
theorem law_first (v : Value) (b : List Int) (w : World) (h : RdI .u8 w v b) (hb : Bytes b) :
    Calls Try.prog 8 #[v] w fun e w' => e = .returned (.bool true) ∧ Below w.heap.size w w' := by
  have rb := h
  obtain ⟨p, cap, rfl, hla, hma, -, -⟩ := h
  unfold maxLen at hma
  obtain ⟨i0, hi, hz0, hz1, hz2⟩ := info_parts info_i32
  by_cases g1 : 2000 < b.length
  · go_enter Try.func8, Try.ntmps8
    go_wp2_with (go_at_call 13; refine (alive01 _).mono ?_; rintro e w1 ⟨rfl, hb1⟩)
    go_ret
    exact ⟨rfl, hb1⟩
  by_cases g2 : b.length = 0
  · have hz : ((b.length : Int) == 0) = true := beq_yes (by omega)
    go_enter Try.func8, Try.ntmps8
    go_wp2_with (go_at_call 13; refine (alive01 _).mono ?_; rintro e w1 ⟨rfl, hb1⟩)
    go_ret
    exact ⟨rfl, hb1⟩
  have hz : ((b.length : Int) == 0) = false := beq_no (by omega)
  have hlen : b.length ≤ 1000000 := by omega
  have HB := Below.refl w.heap.size w
  have hne : b ≠ [] := fun e => by simp [e] at g2
  cases hd : decS b with
  | none =>
    rcases hf : fstS b with _ | ⟨r, n⟩
    · go_enter Try.func8, Try.ntmps8
      go_wp2_with fail
      refine (alive01 _).mono ?_
      rintro e w1 ⟨rfl, hb1⟩
      replace rb := rb.below hb1
      replace HB := below_then HB hb1
      clear hb1
      go_wp2_with fail
      refine (decode_no _ b _ rb hb hlen hd).mono ?_
      rintro e w2 ⟨rfl, hb2⟩
      replace rb := rb.below hb2
      replace HB := below_then HB hb2
      clear hb2
      go_wp2_with fail
      refine (first_no _ b _ rb hb hf).mono ?_
      rintro e w3 ⟨rfl, hb3⟩
      replace rb := rb.below hb3
      replace HB := below_then HB hb3
      clear hb3
      go_wp2
      go_ret
      exact ⟨rfl, HB⟩
    · go_enter Try.func8, Try.ntmps8
      go_wp2_with fail
      refine (alive01 _).mono ?_
      rintro e w1 ⟨rfl, hb1⟩
      replace rb := rb.below hb1
      replace HB := below_then HB hb1
      clear hb1
      go_wp2_with fail
      refine (decode_no _ b _ rb hb hlen hd).mono ?_
      rintro e w2 ⟨rfl, hb2⟩
      replace rb := rb.below hb2
      replace HB := below_then HB hb2
      clear hb2
      go_wp2_with fail
      refine (first_ok _ b r n _ rb hb hf).mono ?_
      rintro e w3 ⟨rfl, hb3⟩
      replace rb := rb.below hb3
      replace HB := below_then HB hb3
      clear hb3
      go_wp2
      go_ret
      exact ⟨rfl, HB⟩
  | some l =>
    obtain ⟨r, n, m, hf, hdm, rfl⟩ := dec_first hne hd
    have hn := fstS_bounds hf
    obtain ⟨n1, n2, n3, -⟩ := hn
    have hms := decS_short b.length (Nat.le_refl _) hd
    simp only [List.length_cons] at hms
    by_cases hcn : cap = n
    · subst hcn
      go_enter Try.func8, Try.ntmps8
      go_wp2_with fail
      refine (alive01 _).mono ?_
      rintro e w1 ⟨rfl, hb1⟩
      replace rb := rb.below hb1
      replace HB := below_then HB hb1
      clear hb1
      go_wp2_with fail
      refine (decode_ok _ b (r :: m) _ rb hb hlen hd).mono ?_
      rintro e w2 ⟨a2, c2, rfl, hb2, rl⟩
      replace rb := rb.below hb2
      replace HB := below_then HB hb2
      clear hb2
      go_wp2_with fail
      refine (first_ok _ b r _ _ rb hb hf).mono ?_
      rintro e w3 ⟨rfl, hb3⟩
      replace rb := rb.below hb3
      replace rl := rl.below hb3
      replace HB := below_then HB hb3
      clear hb3
      have rcut := rd_cut rb n3
      rw [if_pos rfl, Nat.sub_self, show b.length - cap = 0 by omega] at rcut
      go_wp2_with fail
      refine (decode_ok _ (b.drop cap) m _ rcut (hb.drop cap) (by simp; omega) hdm).mono ?_
      rintro e w4 ⟨a4, c4, rfl, hb4, rm⟩
      replace rb := rb.below hb4
      replace rl := rl.below hb4
      replace HB := below_then HB hb4
      clear hb4
      obtain ⟨q1, n4⟩ := reads_of rm
      have N1 := Lib.hid n4; clear n4
      have hal : Below w4.heap.size w4 (w4.alloc (.cells #[.int .i32 r] 21)) := below_alloc (Below.refl _ _) _
      have q1' := q1.below hal
      have hown : (w4.alloc (.cells #[.int .i32 r] 21)).ownsRow w4.heap.size 21 1 (.slice (some ⟨w4.heap.size, 0, none⟩) 1 1) 1 [.int .i32 r] :=
        ⟨rfl, .inr ⟨_, 1, #[.int .i32 r], rfl, Nat.le_refl _, heap_alloc_new w4 _, Nat.le_refl _, by unfold maxLen; omega, rfl, rfl⟩⟩
      go_wp2_with (at_builtin; refine wpList_append_rd rfl (.tmp 64) (.tmp 65) 25 rfl w4.heap.size 21 i0 (.int .i32 0) 4 Try.underlying25 hi hz0 hz1 hz2 rfl _ _ _ rfl hown _ _ _ _ rfl q1' (by simp [Value.oneCell']) (by unfold maxLen; omega) (by omega) (by simp) N1.out ?_; intro v7 w7 hown7 hgr7 hb7)
      have rfin : RdI .i32 w7 v7 (r :: m) := RdI.of_own (n := 1 + m.length) (by simpa using hown7)
      have h68 := hal.trans hb7
      replace rl := rl.below h68
      replace HB := below_then HB h68
      clear hgr7 hown hown7 q1 q1' hb7 h68 hal
      go_wp2_with fail
      refine (sameRunes_yes _ _ _ _ rl rfin).mono ?_
      rintro e w9 ⟨rfl, hb9⟩
      go_wp2
      go_ret
      exact ⟨rfl, below_then HB hb9⟩
    · go_enter Try.func8, Try.ntmps8
      go_wp2_with fail
      refine (alive01 _).mono ?_
      rintro e w1 ⟨rfl, hb1⟩
      replace rb := rb.below hb1
      replace HB := below_then HB hb1
      clear hb1
      go_wp2_with fail
      refine (decode_ok _ b (r :: m) _ rb hb hlen hd).mono ?_
      rintro e w2 ⟨a2, c2, rfl, hb2, rl⟩
      replace rb := rb.below hb2
      replace HB := below_then HB hb2
      clear hb2
      go_wp2_with fail
      refine (first_ok _ b r _ _ rb hb hf).mono ?_
      rintro e w3 ⟨rfl, hb3⟩
      replace rb := rb.below hb3
      replace rl := rl.below hb3
      replace HB := below_then HB hb3
      clear hb3
      have rcut := rd_cut rb n3
      rw [if_neg hcn] at rcut
      go_wp2_with fail
      refine (decode_ok _ (b.drop n) m _ rcut (hb.drop n) (by simp; omega) hdm).mono ?_
      rintro e w4 ⟨a4, c4, rfl, hb4, rm⟩
      replace rb := rb.below hb4
      replace rl := rl.below hb4
      replace HB := below_then HB hb4
      clear hb4
      obtain ⟨q1, n4⟩ := reads_of rm
      have N1 := Lib.hid n4; clear n4
      have hal : Below w4.heap.size w4 (w4.alloc (.cells #[.int .i32 r] 21)) := below_alloc (Below.refl _ _) _
      have q1' := q1.below hal
      have hown : (w4.alloc (.cells #[.int .i32 r] 21)).ownsRow w4.heap.size 21 1 (.slice (some ⟨w4.heap.size, 0, none⟩) 1 1) 1 [.int .i32 r] :=
        ⟨rfl, .inr ⟨_, 1, #[.int .i32 r], rfl, Nat.le_refl _, heap_alloc_new w4 _, Nat.le_refl _, by unfold maxLen; omega, rfl, rfl⟩⟩
      go_wp2_with (at_builtin; refine wpList_append_rd rfl (.tmp 64) (.tmp 65) 25 rfl w4.heap.size 21 i0 (.int .i32 0) 4 Try.underlying25 hi hz0 hz1 hz2 rfl _ _ _ rfl hown _ _ _ _ rfl q1' (by simp [Value.oneCell']) (by unfold maxLen; omega) (by omega) (by simp) N1.out ?_; intro v7 w7 hown7 hgr7 hb7)
      have rfin : RdI .i32 w7 v7 (r :: m) := RdI.of_own (n := 1 + m.length) (by simpa using hown7)
      have h68 := hal.trans hb7
      replace rl := rl.below h68
      replace HB := below_then HB h68
      clear hgr7 hown hown7 q1 q1' hb7 h68 hal
      go_wp2_with fail
      refine (sameRunes_yes _ _ _ _ rl rfin).mono ?_
      rintro e w9 ⟨rfl, hb9⟩
      go_wp2
      go_ret
      exact ⟨rfl, below_then HB hb9⟩
end Go.Proofs.Yticeogdagnogpaa
