/- The law ShaSums, walked. Slices of structures as arguments, with what their data weighs. No program stands here. The row's condition on the two tables of sha, as the walks want it. Parts of bytes, as an argument; the tables. -/
import Derived.Test.YtohnicmacmkapaaDoorRows
import Derived.Lib.LaidTab
import Derived.ChangeSame
import Derived.Stop.LaidErr
import Derived.MakeChecks
import Derived.Test.YtohnicmacmkapaaDoorTie
import Derived.Test.YtohnicmacmkapaaDoorCards
import Derived.Deep.Strs
import Derived.Deep.DeepHandedRow
import Derived.Lay
import Derived.LaidLaws
import Derived.SevenTiedAt
import Derived.Test.YtohnicmacmkapaaDoorYD
namespace Go.Proofs.YtohnicmacmkapaaDoor
open Go.RowKit
set_option linter.unusedVariables false
set_option linter.unusedSimpArgs false
set_option maxRecDepth 8000

abbrev encP (p : Value × List Int) : List Value := [p.1]
/-- Each part reads its bytes. -/
def RdQ (L : List Nat) (w : World) (ps : List (Value × List Int)) : Prop := ∀ p ∈ ps, RdF 1 L w p.1 (p.2.map e8) ∧ Bytes p.2
theorem RdQ.below {L : List Nat} {w w' : World} {ps : List (Value × List Int)} (h : RdQ L w ps) (hb : Below w.heap.size w w') : RdQ L w' ps := fun p hp => ⟨(h p hp).1.below hb, (h p hp).2⟩
theorem RdQ.less {L L' : List Nat} {w : World} {ps : List (Value × List Int)} (h : RdQ L w ps) (hl : ∀ x, x ∈ L' → x ∈ L) : RdQ L' w ps := fun p hp => ⟨(h p hp).1.less hl, (h p hp).2⟩
theorem flat_one {α : Type} {f : α → Value} : ∀ xs : List α, (xs.map (fun x => [f x])).flatten = xs.map f
  | [] => rfl
  | x :: xs => by rw [List.map_cons, List.flatten_cons, flat_one xs]; rfl
theorem rdI_of {L : List Nat} {w : World} {v : Value} {zs : List Int} (h : RdF 1 L w v (zs.map e8)) : RdI .u8 w v zs := by
  obtain ⟨_, _, a, cap, rfl, h2, h3, h4, h5⟩ := h
  rw [List.length_map] at h2 ⊢
  refine ⟨a, cap, rfl, h2, h3, fun k hk => ?_, h4⟩
  obtain ⟨X, q, rfl, _, hr⟩ := h5 (fun e => by have := congrArg List.length e; rw [List.length_map, List.length_nil] at this; omega)
  refine ⟨X, q, rfl, ?_⟩
  have := hr k (.int .u8 (at0 zs k)) (by rw [show zs.map e8 = zs.map (fun x => [Value.int .u8 x]) from rfl, flat_one, List.getElem?_map, at0_some hk]; rfl)
  exact this
theorem rdP_of {L : List Nat} {w : World} {v : Value} {ps : List (Value × List Int)} (h : RdF 1 L w v (ps.map encP)) (hq : RdQ L w ps) : RdP w v ps := by
  obtain ⟨_, _, a, cap, rfl, h2, h3, h4, h5⟩ := h
  rw [List.length_map] at h2 ⊢
  refine ⟨a, cap, rfl, ⟨h2, h3⟩, fun k hk => ?_, fun p hp => ⟨rdI_of (hq p hp).1, (hq p hp).2⟩⟩
  obtain ⟨X, q, rfl, _, hr⟩ := h5 (fun e => by have := congrArg List.length e; rw [List.length_map, List.length_nil] at this; omega)
  refine ⟨X, q, rfl, ?_⟩
  have := hr k (ps[k]'hk).1 (by rw [show ps.map encP = ps.map (fun p => [p.1]) from rfl, flat_one, List.getElem?_map, List.getElem?_eq_getElem hk]; rfl)
  exact this
theorem cat_step {ps : List (Value × List Int)} {i : Nat} {r : Value × List Int} (h : ps[i]? = some r) : cat (ps.take (i + 1)) = cat (ps.take i) ++ r.2 := by
  obtain ⟨hl, rfl⟩ := List.getElem?_eq_some_iff.1 h
  exact cat_take_succ hl
theorem dx_lenFM {P : Program} {ops : Array Oper} {o : Oper} {N : Nat} {f : Fl} {w : World} {α : Type} {enc : α → List Value} {xs : List α} {t s s' : Nat} {L : List Nat} {x : Operand} {v : Value} (ho : o.op = .call { callee := .builtin .len, args := #[x], argTypes := #[t] }) (ht : sliceB P t s' = true) (hx : ev f x = some v) (hr : RdF s L w v (xs.map enc)) (hw : wantF ops o f = some true := by rfl) : DV P ops o N f w (.int .i64 (xs.length : Int)) := by
  have := dx_lenF (N := N) ho ht hx hr hw
  rwa [List.length_map] at this
def encS (z : List Int) : List Value := z.map (Value.int .u8)
theorem encS_len (z : List Int) : (encS z).length = z.length := by simp [encS]
theorem oc_S (z : List Int) : ∀ u ∈ encS z, u.oneCell' = true := fun u hu => by
  obtain ⟨n, _, rfl⟩ := List.mem_map.1 hu
  rfl
theorem cellS {z : List Int} {i : Nat} (h : i < z.length) : (encS z)[i]? = some (.int .u8 (z[i]?.getD 0)) := by simp [encS, h]
theorem setS {z : List Int} {k : Nat} {y : Int} (h : k < z.length) : (encS z).take k ++ ([.int .u8 y] ++ (encS z).drop (k + 1)) = encS (z.set k y) := by
  unfold encS
  rw [← List.map_take, ← List.map_drop, List.set_eq_take_append_cons_drop, if_pos h]
  simp
theorem mixn_set {n : Nat} {T st : List Int} {i : Nat} (hT : T.length = n) (hs : st.length = n) (hi : i < n) : (T.take i ++ st.drop i).set i (at0 T i) = T.take (i + 1) ++ st.drop (i + 1) := by
  have h1 : (T.take i).length = i := by rw [List.length_take]; omega
  rw [List.set_append, if_neg (by omega), h1, Nat.sub_self]
  rw [show st.drop i = st[i] :: st.drop (i + 1) from List.drop_eq_getElem_cons (by omega)]
  rw [List.set_cons_zero, take_snoc T i (by omega), List.append_assoc]
  rfl
theorem mixn_len {n : Nat} {T st : List Int} {i : Nat} (hT : T.length = n) (hs : st.length = n) (hi : i ≤ n) : (T.take i ++ st.drop i).length = n := by
  rw [List.length_append, List.length_take, List.length_drop, hT, hs]
  omega
theorem rep32 : (List.replicate 32 (0 : Int)).length = 32 := List.length_replicate ..
theorem cells_y32 : (Value.agg (Array.replicate 32 (Value.int .u8 0))).cells.toList = encS (List.replicate 32 0) := by simp [Value.cells, encS]
theorem rep64 : (List.replicate 64 (0 : Int)).length = 64 := List.length_replicate ..
theorem cells_y64 : (Value.agg (Array.replicate 64 (Value.int .u8 0))).cells.toList = encS (List.replicate 64 0) := by simp [Value.cells, encS]
set_option maxHeartbeats 1000000 in
theorem refWhole_v (ps : List (Value × List Int)) (sv : Value) (w : World) (L : List Nat) (hL : LL L w) (h1 : RdF 1 L w sv (ps.map encP)) (hPq : RdQ L w ps)  (hcm : (cat ps).length ≤ 10000) (hpm : ps.length ≤ 10000) : CV Tryd.prog 9 [sv] w fun v W => NewW 1 w.heap.size ((cat ps).map e8) v W := by
  refine cv_enter (N := 18) (f := [(0, sv)]) Tryd.func9 rfl rfl rfl rfl fun Q hQ hE => ?_
  have hB := Below.refl w.heap.size w
  have h1m : ps.length ≤ maxLen := by have := h1.len; rwa [List.length_map] at this
  unfold maxLen at h1m
  refine WC.seq fun K1 hK1 => ?_
  refine WC.region ?_
  refine WL.val (dx_assign rfl rfl) rfl rfl ?_
  refine WL.nil ?_
  refine hK1 ?_
  refine WC.seq fun K2 hK2 => ?_
  refine WC.region ?_
  refine WL.val (dx_assign rfl rfl) rfl rfl ?_
  refine WL.nil ?_
  refine hK2 ?_
  refine WC.seq fun K3 hK3 => ?_
  refine WC.seq fun K4 hK4 => ?_
  refine WC.region ?_
  refine WL.val (dx_assign rfl rfl) rfl rfl ?_
  refine WL.nil ?_
  refine hK4 ?_
  refine WC.block ?_
  have zh1 := h1
  have zhPq := hPq
  have zhB := hB
  have zhL := hL
  have hC : SinceB w (L) w := Below.refl _ _
  have h5 : NewW 1 w.heap.size ((cat (ps.take 0)).map e8) (.slice none 0 0) w := .inl ⟨rfl, rfl, by decide⟩
  refine WC.loop2 (fun (i : Nat) (ov : Value) => [(0, sv), (3, ov), (4, .int .i64 (i : Int))]) (fun (i : Nat) (ov : Value) W => i ≤ ps.length ∧ Below w.heap.size w W ∧ LL (L) W ∧ RdF 1 (L) W sv (ps.map encP) ∧ RdQ (L) W ps ∧ SinceB w (L) W ∧ NewW 1 w.heap.size ((cat (ps.take i)).map e8) ov W) (fun (i : Nat) (ov : Value) => ps.length - i) 0 (.slice none 0 0) (by repeat first | exact trivial | exact And.intro rfl trivial | refine And.intro rfl ?_ | refine And.intro (congrArg (fun z : Int => some (Value.int .i64 z)) (by omega)) ?_) ⟨Nat.zero_le _, hB, hL, h1, hPq, hC, h5⟩ ?_
  clear h1 hPq hC h5 hB hL
  rintro K5 i ov W6 ⟨hi, hB, hL, h1, hPq, hC, h5⟩ hK5
  refine WC.seq fun K7 hK7 => ?_
  refine WC.seq fun K8 hK8 => ?_
  refine WC.region ?_
  refine WL.val (dx_move rfl rfl) rfl rfl ?_
  refine WL.val (dx_move rfl rfl) rfl rfl ?_
  refine WL.val (dx_lenFM rfl ty_slice_22 rfl h1) rfl rfl ?_
  refine WL.val (dx_lss rfl rfl rfl) rfl rfl ?_
  refine WL.nil ?_
  refine hK8 ?_
  refine WC.cond rfl (fun c9 => ?_) (fun c9 => ?_)
  ·
    replace c9 := of_decide_eq_true c9
    refine WC.skip ?_
    refine hK7 ?_
    refine WC.seq fun K10 hK10 => ?_
    refine WC.block ?_
    obtain ⟨r11, e12⟩ : ∃ x, ps[i]? = some x := ⟨_, List.getElem?_eq_getElem (by omega)⟩
    have qr11 := (hPq r11 (List.mem_of_getElem? e12)).1
    have hcs := cat_step e12
    have hcl := cat_take_len ps (i + 1)
    rw [hcs, List.length_append] at hcl
    refine WC.region ?_
    refine WL.val (dx_move rfl rfl) rfl rfl ?_
    refine WL.val (dx_move rfl rfl) rfl rfl ?_
    refine WL.val (dx_move rfl rfl) rfl rfl ?_
    refine WL.get (dx_idxF i rfl ty_slice_22 rfl rfl h1 (by omega) (at_mapX e12)) rfl rfl ?_
    rintro u13 _ ⟨rfl, p14⟩
    refine WL.val (dx_loadP rfl ty_one_25 rfl p14) rfl rfl ?_
    refine WL.get (dx_apW (base := w.heap.size) rfl ty_ap_25 rfl rfl h5 qr11 (oc_e8 r11.2) (by simp [maxLen]; omega) (by simp; omega) (Below.size hC)) rfl rfl ?_
    rintro x15 W16 ⟨h5, b17⟩
    replace h5 : NewW 1 w.heap.size ((cat (ps.take (i + 1))).map e8) x15 W16 := by rw [hcs, List.map_append]; exact h5
    replace hC : SinceB w (L) W16 := Below.trans hC b17
    replace h1 := zh1.below hC
    replace hPq := zhPq.below hC
    replace hB := below_then zhB hC
    replace hL := LL.below zhL hC
    refine WL.val (dx_assign rfl rfl) rfl rfl ?_
    refine WL.nil ?_
    refine hK10 ?_
    refine WC.region ?_
    refine WL.val (dx_move rfl rfl) rfl rfl ?_
    refine WL.val (dx_add (r := (i : Int) + 1) rfl rfl rfl (wrap64_id (by omega))) rfl rfl ?_
    refine WL.val (dx_assign rfl rfl) rfl rfl ?_
    refine WL.nil ?_
    exact hK5 (i + 1) x15 ⟨(by omega), hB, hL, h1, hPq, hC, h5⟩ (by omega) (by repeat first | exact trivial | exact And.intro rfl trivial | refine And.intro rfl ?_ | refine And.intro (congrArg (fun z : Int => some (Value.int .i64 z)) (by omega)) ?_)
  ·
    replace c9 := of_decide_eq_false c9
    refine WC.exit ?_
    refine hK3 ?_
    refine WC.seq fun K18 hK18 => ?_
    refine WC.region ?_
    refine WL.val (dx_move rfl rfl) rfl rfl ?_
    refine WL.val (dx_assign rfl rfl) rfl rfl ?_
    refine WL.nil ?_
    refine hK18 ?_
    refine WC.ret fun a_ ha_ => ?_
    exact hQ (cv_ret1 rfl (.tmp rfl) (by rw [List.take_of_length_le (by omega)] at h5; exact h5.le (Below.size zhB)) hB ha_)

set_option maxHeartbeats 1000000 in
theorem refSum256_v (D : List Int) (sv : Value) (w : World) (L : List Nat) (hL : LL L w) (h1 : RdF 1 L w sv (D.map e8)) (hT : TabL L w)  (hDm : D.length ≤ 10000) (hDb : Bytes D) : CV Tryd.prog 11 [sv] w fun v W => v = .agg (encS (sum32 D)).toArray := by
  refine cv_enter (N := 19) (f := [(0, sv)]) Tryd.func11 rfl rfl rfl rfl fun Q hQ hE => ?_
  have hB := Below.refl w.heap.size w
  have h1m : D.length ≤ maxLen := by have := h1.len; rwa [List.length_map] at this
  unfold maxLen at h1m
  refine WC.seq fun K1 hK1 => ?_
  refine WC.region ?_
  refine WL.get (dx_alloc (cs := encS (List.replicate 32 0)) rfl ty_zero_27 cells_y32) rfl rfl ?_
  rintro _ W2 ⟨rfl, k3, b4, z5⟩
  have l6 := hB.size
  replace h1 := h1.more b4 (Nat.le_refl _)
  replace hT := hT.more b4 (Nat.le_refl _)
  replace hB := below_then hB b4
  replace hL := LL.more hL z5
  refine WL.nil ?_
  refine hK1 ?_
  refine WC.seq fun K7 hK7 => ?_
  refine WC.region ?_
  refine WL.get (dx_alloc (cs := encS (List.replicate 32 0)) rfl ty_zero_27 cells_y32) rfl rfl ?_
  rintro _ W8 ⟨rfl, k9, b10, z11⟩
  have n12 : w.heap.size ≠ W2.heap.size := Nat.ne_of_lt k3.lt
  have l13 := hB.size
  replace h1 := h1.more b10 (Nat.le_refl _)
  replace hT := hT.more b10 (Nat.le_refl _)
  replace k3 := k3.below b10
  replace hB := below_then hB b10
  replace hL := LL.more hL z11
  refine WL.nil ?_
  refine hK7 ?_
  refine WC.seq fun K14 hK14 => ?_
  refine WC.region ?_
  refine WL.val (dx_move rfl rfl) rfl rfl ?_
  refine WL.get (dx_cv rfl Tryd.func26 rfl rfl rfl (refSum32_v D _ W8 _ hL h1 hT hDm hDb)) rfl rfl ?_
  rintro u15 W18 ⟨j16, b17⟩
  replace h1 := h1.below b17
  replace hT := hT.below b17
  replace k3 := k3.below b17
  replace k9 := k9.below b17
  replace hB := below_then hB b17
  replace hL := LL.below hL b17
  refine WL.val (dx_assign rfl rfl) rfl rfl ?_
  refine WL.nil ?_
  refine hK14 ?_
  refine WC.seq fun K19 hK19 => ?_
  refine WC.seq fun K20 hK20 => ?_
  refine WC.region ?_
  refine WL.val (dx_assign rfl rfl) rfl rfl ?_
  refine WL.nil ?_
  refine hK20 ?_
  refine WC.block ?_
  have hsm : (sum32 D).length = 32 := by rw [sum32_full]; exact tell32_len _
  have hv1 : RdF 1 (W2.heap.size :: w.heap.size :: L) W18 u15 ((sum32 D).map e8) := j16
  replace k9 : Blk W18 W2.heap.size (encS ((sum32 D).take 0 ++ (List.replicate 32 (0 : Int)).drop 0)) := k9
  refine WC.loop (fun (i : Nat) => [(2, .pointer (some ⟨w.heap.size, 0, none⟩)), (3, .pointer (some ⟨W2.heap.size, 0, none⟩)), (4, u15), (5, .int .i64 (i : Int))]) (fun (i : Nat) W => i ≤ 32 ∧ Below w.heap.size w W ∧ LL (W2.heap.size :: w.heap.size :: L) W ∧ RdF 1 (W2.heap.size :: w.heap.size :: L) W sv (D.map e8) ∧ TabL (W2.heap.size :: w.heap.size :: L) W ∧ RdF 1 (W2.heap.size :: w.heap.size :: L) W u15 ((sum32 D).map e8) ∧ Blk W w.heap.size (encS (List.replicate 32 0)) ∧ Blk W W2.heap.size (encS ((sum32 D).take i ++ (List.replicate 32 (0 : Int)).drop i))) (fun (i : Nat) => 32 - i) 0 (by repeat first | exact trivial | exact And.intro rfl trivial | refine And.intro rfl ?_ | refine And.intro (congrArg (fun z : Int => some (Value.int .i64 z)) (by omega)) ?_) ⟨(by decide), hB, hL, h1, hT, j16, k3, k9⟩ ?_
  clear h1 hT j16 k3 k9 hB hL
  rintro K21 i W22 ⟨hi, hB, hL, h1, hT, j16, k3, k9⟩ hK21
  refine WC.seq fun K23 hK23 => ?_
  refine WC.seq fun K24 hK24 => ?_
  refine WC.region ?_
  refine WL.val (dx_move rfl rfl) rfl rfl ?_
  refine WL.val (dx_lss rfl rfl rfl) rfl rfl ?_
  refine WL.nil ?_
  refine hK24 ?_
  refine WC.cond rfl (fun c25 => ?_) (fun c25 => ?_)
  ·
    replace c25 := of_decide_eq_true c25
    refine WC.skip ?_
    refine hK23 ?_
    refine WC.seq fun K26 hK26 => ?_
    refine WC.block ?_
    have esm : (sum32 D)[i]? = some (at0 (sum32 D) i) := at0_some (by omega)
    refine WC.region ?_
    refine WL.val (dx_move rfl rfl) rfl rfl ?_
    refine WL.val (dx_move rfl rfl) rfl rfl ?_
    refine WL.val (dx_move rfl rfl) rfl rfl ?_
    refine WL.get (dx_idxF i rfl ty_slice_25 rfl rfl j16 (by omega) (at_mapX esm)) rfl rfl ?_
    rintro u27 _ ⟨rfl, p28⟩
    refine WL.val (dx_loadP rfl ty_one_5 rfl p28) rfl rfl ?_
    refine WL.val (dx_idxA (o1 := i) rfl Tryd.underlying27 ty_size_5_1 rfl rfl (by omega) (by first | (simp; done) | omega)) rfl rfl ?_
    refine WL.do (dx_store (cs' := encS (((sum32 D).take i ++ (List.replicate 32 (0 : Int)).drop i).set i (at0 (sum32 D) i))) (vs := [.int .u8 (at0 (sum32 D) i)]) rfl ty_size_5_1 rfl rfl rfl (oc_cons rfl oc_nil) k9 rfl (by rw [encS_len, show ((sum32 D).take i ++ (List.replicate 32 (0 : Int)).drop i).length = 32 from (mixn_len hsm rep32 hi)]; exact (by omega)) (setS (by rw [show ((sum32 D).take i ++ (List.replicate 32 (0 : Int)).drop i).length = 32 from (mixn_len hsm rep32 hi)]; exact (by omega)))) rfl ?_
    rintro _ W29 ⟨k31, o30⟩
    replace k3 := k3.other o30 n12
    clear k9
    replace h1 := h1.only o30 (.head _)
    replace hT := hT.only o30 (.head _)
    replace j16 := j16.only o30 (.head _)
    replace p28 := p28.only o30 (.head _)
    replace hB := o30.below hB l13
    replace hL := LL.only hL o30
    refine WL.nil ?_
    refine hK26 ?_
    refine WC.region ?_
    refine WL.val (dx_move rfl rfl) rfl rfl ?_
    refine WL.val (dx_add (r := (i : Int) + 1) rfl rfl rfl (wrap64_id (by omega))) rfl rfl ?_
    refine WL.val (dx_assign rfl rfl) rfl rfl ?_
    refine WL.nil ?_
    rw [mixn_set hsm rep32 (by omega)] at k31
    exact hK21 (i + 1) ⟨(by omega), hB, hL, h1, hT, j16, k3, k31⟩ (by omega) (by repeat first | exact trivial | exact And.intro rfl trivial | refine And.intro rfl ?_ | refine And.intro (congrArg (fun z : Int => some (Value.int .i64 z)) (by omega)) ?_)
  ·
    replace c25 := of_decide_eq_false c25
    refine WC.exit ?_
    refine hK19 ?_
    refine WC.seq fun K32 hK32 => ?_
    have hie : i = 32 := by omega
    subst hie
    replace k9 : Blk W22 W2.heap.size (encS (sum32 D)) := by have e : (sum32 D).take 32 ++ (List.replicate 32 (0 : Int)).drop 32 = (sum32 D) := (by rw [List.take_of_length_le (by rw [hsm]; decide), List.drop_eq_nil_of_le (by rw [rep32]; decide), List.append_nil]); rw [e] at k9; exact k9
    refine WC.region ?_
    refine WL.val (dx_loadN rfl ty_agg_27_32 rfl k9.range (by rw [encS_len]; exact hsm)) rfl rfl ?_
    refine WL.do (dx_storeW (vs := (encS (sum32 D))) rfl ty_size_27_32 rfl rfl rfl (oc_S (sum32 D)) k3 (by rw [encS_len]; exact hsm) (by rw [encS_len]; exact rep32)) rfl ?_
    rintro _ W33 ⟨k35, o34⟩
    replace k9 := k9.other o34 n12.symm
    clear k3
    replace h1 := h1.only o34 (.tail _ (.head _))
    replace hT := hT.only o34 (.tail _ (.head _))
    replace j16 := j16.only o34 (.tail _ (.head _))
    replace hB := o34.below hB l6
    replace hL := LL.only hL o34
    refine WL.nil ?_
    refine hK32 ?_
    refine WC.ret fun a_ ha_ => ?_
    exact hQ (cv_ret1 rfl (.agg rfl ty_agg_27_32 k35.range (by rw [encS_len]; exact hsm)) rfl hB ha_)

set_option maxHeartbeats 1000000 in
theorem refSum512_v (D : List Int) (sv : Value) (w : World) (L : List Nat) (hL : LL L w) (h1 : RdF 1 L w sv (D.map e8)) (hT : TabL L w)  (hDm : D.length ≤ 10000) (hDb : Bytes D) : CV Tryd.prog 13 [sv] w fun v W => v = .agg (encS (sum64 D)).toArray := by
  refine cv_enter (N := 19) (f := [(0, sv)]) Tryd.func13 rfl rfl rfl rfl fun Q hQ hE => ?_
  have hB := Below.refl w.heap.size w
  have h1m : D.length ≤ maxLen := by have := h1.len; rwa [List.length_map] at this
  unfold maxLen at h1m
  refine WC.seq fun K1 hK1 => ?_
  refine WC.region ?_
  refine WL.get (dx_alloc (cs := encS (List.replicate 64 0)) rfl ty_zero_30 cells_y64) rfl rfl ?_
  rintro _ W2 ⟨rfl, k3, b4, z5⟩
  have l6 := hB.size
  replace h1 := h1.more b4 (Nat.le_refl _)
  replace hT := hT.more b4 (Nat.le_refl _)
  replace hB := below_then hB b4
  replace hL := LL.more hL z5
  refine WL.nil ?_
  refine hK1 ?_
  refine WC.seq fun K7 hK7 => ?_
  refine WC.region ?_
  refine WL.get (dx_alloc (cs := encS (List.replicate 64 0)) rfl ty_zero_30 cells_y64) rfl rfl ?_
  rintro _ W8 ⟨rfl, k9, b10, z11⟩
  have n12 : w.heap.size ≠ W2.heap.size := Nat.ne_of_lt k3.lt
  have l13 := hB.size
  replace h1 := h1.more b10 (Nat.le_refl _)
  replace hT := hT.more b10 (Nat.le_refl _)
  replace k3 := k3.below b10
  replace hB := below_then hB b10
  replace hL := LL.more hL z11
  refine WL.nil ?_
  refine hK7 ?_
  refine WC.seq fun K14 hK14 => ?_
  refine WC.region ?_
  refine WL.val (dx_move rfl rfl) rfl rfl ?_
  refine WL.get (dx_cv rfl Tryd.func26 rfl rfl rfl (refSum64_v D _ W8 _ hL h1 hT hDm hDb)) rfl rfl ?_
  rintro u15 W18 ⟨j16, b17⟩
  replace h1 := h1.below b17
  replace hT := hT.below b17
  replace k3 := k3.below b17
  replace k9 := k9.below b17
  replace hB := below_then hB b17
  replace hL := LL.below hL b17
  refine WL.val (dx_assign rfl rfl) rfl rfl ?_
  refine WL.nil ?_
  refine hK14 ?_
  refine WC.seq fun K19 hK19 => ?_
  refine WC.seq fun K20 hK20 => ?_
  refine WC.region ?_
  refine WL.val (dx_assign rfl rfl) rfl rfl ?_
  refine WL.nil ?_
  refine hK20 ?_
  refine WC.block ?_
  have hsm : (sum64 D).length = 64 := by rw [sum64_full]; exact tell64_len _
  have hv1 : RdF 1 (W2.heap.size :: w.heap.size :: L) W18 u15 ((sum64 D).map e8) := j16
  replace k9 : Blk W18 W2.heap.size (encS ((sum64 D).take 0 ++ (List.replicate 64 (0 : Int)).drop 0)) := k9
  refine WC.loop (fun (i : Nat) => [(2, .pointer (some ⟨w.heap.size, 0, none⟩)), (3, .pointer (some ⟨W2.heap.size, 0, none⟩)), (4, u15), (5, .int .i64 (i : Int))]) (fun (i : Nat) W => i ≤ 64 ∧ Below w.heap.size w W ∧ LL (W2.heap.size :: w.heap.size :: L) W ∧ RdF 1 (W2.heap.size :: w.heap.size :: L) W sv (D.map e8) ∧ TabL (W2.heap.size :: w.heap.size :: L) W ∧ RdF 1 (W2.heap.size :: w.heap.size :: L) W u15 ((sum64 D).map e8) ∧ Blk W w.heap.size (encS (List.replicate 64 0)) ∧ Blk W W2.heap.size (encS ((sum64 D).take i ++ (List.replicate 64 (0 : Int)).drop i))) (fun (i : Nat) => 64 - i) 0 (by repeat first | exact trivial | exact And.intro rfl trivial | refine And.intro rfl ?_ | refine And.intro (congrArg (fun z : Int => some (Value.int .i64 z)) (by omega)) ?_) ⟨(by decide), hB, hL, h1, hT, j16, k3, k9⟩ ?_
  clear h1 hT j16 k3 k9 hB hL
  rintro K21 i W22 ⟨hi, hB, hL, h1, hT, j16, k3, k9⟩ hK21
  refine WC.seq fun K23 hK23 => ?_
  refine WC.seq fun K24 hK24 => ?_
  refine WC.region ?_
  refine WL.val (dx_move rfl rfl) rfl rfl ?_
  refine WL.val (dx_lss rfl rfl rfl) rfl rfl ?_
  refine WL.nil ?_
  refine hK24 ?_
  refine WC.cond rfl (fun c25 => ?_) (fun c25 => ?_)
  ·
    replace c25 := of_decide_eq_true c25
    refine WC.skip ?_
    refine hK23 ?_
    refine WC.seq fun K26 hK26 => ?_
    refine WC.block ?_
    have esm : (sum64 D)[i]? = some (at0 (sum64 D) i) := at0_some (by omega)
    refine WC.region ?_
    refine WL.val (dx_move rfl rfl) rfl rfl ?_
    refine WL.val (dx_move rfl rfl) rfl rfl ?_
    refine WL.val (dx_move rfl rfl) rfl rfl ?_
    refine WL.get (dx_idxF i rfl ty_slice_25 rfl rfl j16 (by omega) (at_mapX esm)) rfl rfl ?_
    rintro u27 _ ⟨rfl, p28⟩
    refine WL.val (dx_loadP rfl ty_one_5 rfl p28) rfl rfl ?_
    refine WL.val (dx_idxA (o1 := i) rfl Tryd.underlying30 ty_size_5_1 rfl rfl (by omega) (by first | (simp; done) | omega)) rfl rfl ?_
    refine WL.do (dx_store (cs' := encS (((sum64 D).take i ++ (List.replicate 64 (0 : Int)).drop i).set i (at0 (sum64 D) i))) (vs := [.int .u8 (at0 (sum64 D) i)]) rfl ty_size_5_1 rfl rfl rfl (oc_cons rfl oc_nil) k9 rfl (by rw [encS_len, show ((sum64 D).take i ++ (List.replicate 64 (0 : Int)).drop i).length = 64 from (mixn_len hsm rep64 hi)]; exact (by omega)) (setS (by rw [show ((sum64 D).take i ++ (List.replicate 64 (0 : Int)).drop i).length = 64 from (mixn_len hsm rep64 hi)]; exact (by omega)))) rfl ?_
    rintro _ W29 ⟨k31, o30⟩
    replace k3 := k3.other o30 n12
    clear k9
    replace h1 := h1.only o30 (.head _)
    replace hT := hT.only o30 (.head _)
    replace j16 := j16.only o30 (.head _)
    replace p28 := p28.only o30 (.head _)
    replace hB := o30.below hB l13
    replace hL := LL.only hL o30
    refine WL.nil ?_
    refine hK26 ?_
    refine WC.region ?_
    refine WL.val (dx_move rfl rfl) rfl rfl ?_
    refine WL.val (dx_add (r := (i : Int) + 1) rfl rfl rfl (wrap64_id (by omega))) rfl rfl ?_
    refine WL.val (dx_assign rfl rfl) rfl rfl ?_
    refine WL.nil ?_
    rw [mixn_set hsm rep64 (by omega)] at k31
    exact hK21 (i + 1) ⟨(by omega), hB, hL, h1, hT, j16, k3, k31⟩ (by omega) (by repeat first | exact trivial | exact And.intro rfl trivial | refine And.intro rfl ?_ | refine And.intro (congrArg (fun z : Int => some (Value.int .i64 z)) (by omega)) ?_)
  ·
    replace c25 := of_decide_eq_false c25
    refine WC.exit ?_
    refine hK19 ?_
    refine WC.seq fun K32 hK32 => ?_
    have hie : i = 64 := by omega
    subst hie
    replace k9 : Blk W22 W2.heap.size (encS (sum64 D)) := by have e : (sum64 D).take 64 ++ (List.replicate 64 (0 : Int)).drop 64 = (sum64 D) := (by rw [List.take_of_length_le (by rw [hsm]; decide), List.drop_eq_nil_of_le (by rw [rep64]; decide), List.append_nil]); rw [e] at k9; exact k9
    refine WC.region ?_
    refine WL.val (dx_loadN rfl ty_agg_30_64 rfl k9.range (by rw [encS_len]; exact hsm)) rfl rfl ?_
    refine WL.do (dx_storeW (vs := (encS (sum64 D))) rfl ty_size_30_64 rfl rfl rfl (oc_S (sum64 D)) k3 (by rw [encS_len]; exact hsm) (by rw [encS_len]; exact rep64)) rfl ?_
    rintro _ W33 ⟨k35, o34⟩
    replace k9 := k9.other o34 n12.symm
    clear k3
    replace h1 := h1.only o34 (.tail _ (.head _))
    replace hT := hT.only o34 (.tail _ (.head _))
    replace j16 := j16.only o34 (.tail _ (.head _))
    replace hB := o34.below hB l6
    replace hL := LL.only hL o34
    refine WL.nil ?_
    refine hK32 ?_
    refine WC.ret fun a_ ha_ => ?_
    exact hQ (cv_ret1 rfl (.agg rfl ty_agg_30_64 k35.range (by rw [encS_len]; exact hsm)) rfl hB ha_)

set_option maxHeartbeats 1000000 in
theorem great_v (ps : List (Value × List Int)) (sv : Value) (w : World) (L : List Nat) (hL : LL L w) (h1 : RdF 1 L w sv (ps.map encP)) (hPq : RdQ L w ps) : CV Tryd.prog 8 [sv] w fun v W => ∃ b, v = .bool b ∧ (b = false → ps.length ≤ 5000 ∧ (cat ps).length ≤ 5000) := by
  refine cv_enter (N := 27) (f := [(0, sv)]) Tryd.func8 rfl rfl rfl rfl fun Q hQ hE => ?_
  have hB := Below.refl w.heap.size w
  have h1m : ps.length ≤ maxLen := by have := h1.len; rwa [List.length_map] at this
  unfold maxLen at h1m
  refine WC.seq fun K1 hK1 => ?_
  refine WC.region ?_
  refine WL.val (dx_assign rfl rfl) rfl rfl ?_
  refine WL.nil ?_
  refine hK1 ?_
  refine WC.seq fun K2 hK2 => ?_
  refine WC.region ?_
  refine WL.val (dx_move rfl rfl) rfl rfl ?_
  refine WL.val (dx_lenFM rfl ty_slice_22 rfl h1) rfl rfl ?_
  refine WL.val (dx_assign rfl rfl) rfl rfl ?_
  refine WL.nil ?_
  refine hK2 ?_
  refine WC.seq fun K3 hK3 => ?_
  refine WC.seq fun K4 hK4 => ?_
  refine WC.region ?_
  refine WL.val (dx_assign rfl rfl) rfl rfl ?_
  refine WL.nil ?_
  refine hK4 ?_
  refine WC.block ?_
  refine WC.loop2 (fun (i : Nat) (n : Int) => [(0, sv), (3, .int .i64 n), (4, .int .i64 (i : Int))]) (fun (i : Nat) (n : Int) W => i ≤ ps.length ∧ ((ps.length : Int) + (cat (ps.take i)).length ≤ n ∨ 5000 < n) ∧ (0 ≤ n ∧ n ≤ 9223372036854775807) ∧ Below w.heap.size w W ∧ LL (L) W ∧ RdF 1 (L) W sv (ps.map encP) ∧ RdQ (L) W ps) (fun (i : Nat) (n : Int) => ps.length - i) 0 (ps.length : Int) (by repeat first | exact trivial | exact And.intro rfl trivial | refine And.intro rfl ?_ | refine And.intro (congrArg (fun z : Int => some (Value.int .i64 z)) (by omega)) ?_) ⟨Nat.zero_le _, (.inl (by show (ps.length : Int) + 0 ≤ _; omega)), (by omega), hB, hL, h1, hPq⟩ ?_
  clear h1 hPq hB hL
  rintro K5 i n W6 ⟨hi, hn, hn2, hB, hL, h1, hPq⟩ hK5
  refine WC.seq fun K7 hK7 => ?_
  refine WC.seq fun K8 hK8 => ?_
  refine WC.region ?_
  refine WL.val (dx_move rfl rfl) rfl rfl ?_
  refine WL.val (dx_move rfl rfl) rfl rfl ?_
  refine WL.val (dx_lenFM rfl ty_slice_22 rfl h1) rfl rfl ?_
  refine WL.val (dx_lss rfl rfl rfl) rfl rfl ?_
  refine WL.val (dx_move rfl rfl) rfl rfl ?_
  refine WL.split 11 rfl (fun g9 => ?_) (fun g9 => ?_)
  ·
    replace g9 := of_decide_eq_true g9
    refine WL.val (dx_move rfl rfl) rfl rfl ?_
    refine WL.val (dx_leq rfl rfl rfl) rfl rfl ?_
    refine WL.val (dx_pick rfl rfl rfl) rfl rfl ?_
    refine WL.nil ?_
    refine hK8 ?_
    refine WC.cond rfl (fun c10 => ?_) (fun c10 => ?_)
    ·
      replace c10 := of_decide_eq_true c10
      refine WC.skip ?_
      refine hK7 ?_
      refine WC.seq fun K11 hK11 => ?_
      refine WC.block ?_
      obtain ⟨r12, e13⟩ : ∃ x, ps[i]? = some x := ⟨_, List.getElem?_eq_getElem (by omega)⟩
      have qr12 := (hPq r12 (List.mem_of_getElem? e13)).1
      have hcs := cat_step e13
      have hcl := cat_take_len ps (i + 1)
      rw [hcs, List.length_append] at hcl
      refine WC.region ?_
      refine WL.val (dx_move rfl rfl) rfl rfl ?_
      refine WL.val (dx_move rfl rfl) rfl rfl ?_
      refine WL.val (dx_move rfl rfl) rfl rfl ?_
      refine WL.get (dx_idxF i rfl ty_slice_22 rfl rfl h1 (by omega) (at_mapX e13)) rfl rfl ?_
      rintro u14 _ ⟨rfl, p15⟩
      refine WL.val (dx_loadP rfl ty_one_25 rfl p15) rfl rfl ?_
      refine WL.val (dx_lenFM rfl ty_slice_25 rfl qr12) rfl rfl ?_
      refine WL.val (dx_min rfl rfl rfl) rfl rfl ?_
      refine WL.val (dx_add (r := n + (if 10000 < (r12.2.length : Int) then 10000 else (r12.2.length : Int))) rfl rfl rfl (wrap64_id (by omega))) rfl rfl ?_
      refine WL.val (dx_assign rfl rfl) rfl rfl ?_
      refine WL.nil ?_
      refine hK11 ?_
      refine WC.region ?_
      refine WL.val (dx_move rfl rfl) rfl rfl ?_
      refine WL.val (dx_add (r := (i : Int) + 1) rfl rfl rfl (wrap64_id (by omega))) rfl rfl ?_
      refine WL.val (dx_assign rfl rfl) rfl rfl ?_
      refine WL.nil ?_
      exact hK5 (i + 1) (n + (if 10000 < (r12.2.length : Int) then 10000 else (r12.2.length : Int))) ⟨(by omega), (by rw [hcs, List.length_append]; omega), (by omega), hB, hL, h1, hPq⟩ (by omega) (by repeat first | exact trivial | exact And.intro rfl trivial | refine And.intro rfl ?_ | refine And.intro (congrArg (fun z : Int => some (Value.int .i64 z)) (by omega)) ?_)
    ·
      replace c10 := of_decide_eq_false c10
      refine WC.exit ?_
      refine hK3 ?_
      refine WC.seq fun K16 hK16 => ?_
      refine WC.region ?_
      refine WL.val (dx_move rfl rfl) rfl rfl ?_
      refine WL.val (dx_gtr rfl rfl rfl) rfl rfl ?_
      refine WL.val (dx_assign rfl rfl) rfl rfl ?_
      refine WL.nil ?_
      refine hK16 ?_
      refine WC.ret fun a_ ha_ => ?_
      exact hQ (cv_ret1 rfl (.tmp rfl) ⟨_, rfl, fun hb => by have hb := of_decide_eq_false hb; have e : i = ps.length := (by omega); rw [List.take_of_length_le (by omega)] at hn; omega⟩ hB ha_)
  ·
    replace g9 := of_decide_eq_false g9
    refine WL.off rfl rfl rfl ?_
    refine WL.off rfl rfl rfl ?_
    refine WL.val (dx_pick rfl rfl rfl) rfl rfl ?_
    refine WL.nil ?_
    refine hK8 ?_
    refine WC.condF rfl ?_
    refine WC.exit ?_
    refine hK3 ?_
    refine WC.seq fun K17 hK17 => ?_
    refine WC.region ?_
    refine WL.val (dx_move rfl rfl) rfl rfl ?_
    refine WL.val (dx_gtr rfl rfl rfl) rfl rfl ?_
    refine WL.val (dx_assign rfl rfl) rfl rfl ?_
    refine WL.nil ?_
    refine hK17 ?_
    refine WC.ret fun a_ ha_ => ?_
    exact hQ (cv_ret1 rfl (.tmp rfl) ⟨_, rfl, fun hb => by have hb := of_decide_eq_false hb; have e : i = ps.length := (by omega); rw [List.take_of_length_le (by omega)] at hn; omega⟩ hB ha_)

def TabQ (_ : List Nat) (w : World) : Prop := TabS w
theorem TabQ.below {L : List Nat} {w w' : World} (h : TabQ L w) (hb : Below w.heap.size w w') : TabQ L w' := TabS.below h hb
set_option maxHeartbeats 1000000 in
theorem shaSums_v (ps : List (Value × List Int)) (sv : Value) (w : World) (L : List Nat) (hL : LL L w) (h1 : RdF 1 L w sv (ps.map encP)) (hPq : RdQ L w ps) (hS : TabQ L w) (hT : TabL L w) : CV Tryd.prog 3 [sv] w fun v W => v = .bool true := by
  refine cv_enter (N := 22) (f := [(0, sv)]) Tryd.func3 rfl rfl rfl rfl fun Q hQ hE => ?_
  have hB := Below.refl w.heap.size w
  have h1m : ps.length ≤ maxLen := by have := h1.len; rwa [List.length_map] at this
  unfold maxLen at h1m
  refine WC.seq fun K1 hK1 => ?_
  refine WC.region ?_
  refine WL.val (dx_assign rfl rfl) rfl rfl ?_
  refine WL.nil ?_
  refine hK1 ?_
  refine WC.seq fun K2 hK2 => ?_
  refine WC.seq fun K3 hK3 => ?_
  refine WC.region ?_
  refine WL.get (dx_cv rfl Tryd.func7 rfl rfl rfl ((show CV _ _ [] _ (fun v _ => v = .bool true) from cv_oldB (alive_v w hS)))) rfl rfl ?_
  rintro _ W5 ⟨rfl, b4⟩
  replace h1 := h1.below b4
  replace hPq := hPq.below b4
  replace hS := hS.below b4
  replace hT := hT.below b4
  replace hB := below_then hB b4
  replace hL := LL.below hL b4
  refine WL.val (dx_not rfl rfl) rfl rfl ?_
  refine WL.nil ?_
  refine hK3 ?_
  refine WC.condF rfl ?_
  refine WC.skip ?_
  refine hK2 ?_
  refine WC.seq fun K6 hK6 => ?_
  refine WC.seq fun K7 hK7 => ?_
  refine WC.region ?_
  refine WL.val (dx_move rfl rfl) rfl rfl ?_
  refine WL.get (dx_cv rfl Tryd.func8 rfl rfl rfl (great_v ps _ W5 _ hL h1 hPq)) rfl rfl ?_
  rintro _ W9 ⟨⟨gb, rfl, hgb⟩, b8⟩
  replace h1 := h1.below b8
  replace hPq := hPq.below b8
  replace hS := hS.below b8
  replace hT := hT.below b8
  replace hB := below_then hB b8
  replace hL := LL.below hL b8
  refine WL.nil ?_
  refine hK7 ?_
  refine WC.cond rfl (fun c10 => ?_) (fun c10 => ?_)
  ·
    refine WC.seq fun K11 hK11 => ?_
    refine WC.region ?_
    refine WL.val (dx_assign rfl rfl) rfl rfl ?_
    refine WL.nil ?_
    refine hK11 ?_
    refine WC.ret fun a_ ha_ => ?_
    exact hQ (cv_ret1 rfl (.tmp rfl) rfl hB ha_)
  ·
    replace c10 := bvar_f c10
    refine WC.skip ?_
    refine hK6 ?_
    refine WC.seq fun K12 hK12 => ?_
    have hgs := hgb (by first | assumption | simp_all)
    have hcb : Bytes (cat ps) := cat_bytes fun p hp => (hPq p hp).2
    refine WC.region ?_
    refine WL.val (dx_move rfl rfl) rfl rfl ?_
    refine WL.get (dx_cv rfl Tryd.func9 rfl rfl rfl ((refWhole_v ps _ W9 _ hL h1 hPq (by omega) (by omega)).mono fun v W _ h => (show RdF 1 (L) W v ((cat ps).map e8) from h.rd hL))) rfl rfl ?_
    rintro u13 W16 ⟨j14, b15⟩
    replace h1 := h1.below b15
    replace hPq := hPq.below b15
    replace hS := hS.below b15
    replace hT := hT.below b15
    replace hB := below_then hB b15
    replace hL := LL.below hL b15
    refine WL.val (dx_assign rfl rfl) rfl rfl ?_
    refine WL.nil ?_
    refine hK12 ?_
    refine WC.seq fun K17 hK17 => ?_
    have sl32 : (sum32 (cat ps)).length = 32 := by rw [sum32_full]; exact tell32_len _
    have sl64 : (sum64 (cat ps)).length = 64 := by rw [sum64_full]; exact tell64_len _
    refine WC.region ?_
    refine WL.val (dx_move rfl rfl) rfl rfl ?_
    refine WL.get (dx_cv rfl Tryd.func10 rfl rfl rfl ((show CV _ _ [_] _ (fun v _ => v = .agg (encS (sum32 (cat ps))).toArray) from cv_oldB (sum32_v W16 hS _ ps (rdP_of h1 hPq) (by omega))))) rfl rfl ?_
    rintro _ W19 ⟨rfl, b18⟩
    replace h1 := h1.below b18
    replace hPq := hPq.below b18
    replace hS := hS.below b18
    replace hT := hT.below b18
    replace j14 := j14.below b18
    replace hB := below_then hB b18
    replace hL := LL.below hL b18
    refine WL.val (dx_move rfl rfl) rfl rfl ?_
    refine WL.get (dx_cv rfl Tryd.func11 rfl rfl rfl (refSum256_v (cat ps) _ W19 _ hL j14 hT (by omega) hcb)) rfl rfl ?_
    rintro _ W21 ⟨rfl, b20⟩
    replace h1 := h1.below b20
    replace hPq := hPq.below b20
    replace hS := hS.below b20
    replace hT := hT.below b20
    replace j14 := j14.below b20
    replace hB := below_then hB b20
    replace hL := LL.below hL b20
    refine WL.val (dv_T (dx_eqA (K := .u8) (xs := (sum32 (cat ps))) (ys := (sum32 (cat ps))) rfl Tryd.underlying27 Tryd.underlying5 ty_size_5_1 (by kernel_rfl) rfl rfl sl32 sl32) rfl) rfl rfl ?_
    refine WL.val (dx_move rfl rfl) rfl rfl ?_
    refine WL.val (dx_move rfl rfl) rfl rfl ?_
    refine WL.get (dx_cv rfl Tryd.func12 rfl rfl rfl ((show CV _ _ [_] _ (fun v _ => v = .agg (encS (sum64 (cat ps))).toArray) from cv_oldB (sum64_v W21 hS _ ps (rdP_of h1 hPq) (by omega))))) rfl rfl ?_
    rintro _ W23 ⟨rfl, b22⟩
    replace h1 := h1.below b22
    replace hPq := hPq.below b22
    replace hS := hS.below b22
    replace hT := hT.below b22
    replace j14 := j14.below b22
    replace hB := below_then hB b22
    replace hL := LL.below hL b22
    refine WL.val (dx_move rfl rfl) rfl rfl ?_
    refine WL.get (dx_cv rfl Tryd.func13 rfl rfl rfl (refSum512_v (cat ps) _ W23 _ hL j14 hT (by omega) hcb)) rfl rfl ?_
    rintro _ W25 ⟨rfl, b24⟩
    replace h1 := h1.below b24
    replace hPq := hPq.below b24
    replace hS := hS.below b24
    replace hT := hT.below b24
    replace j14 := j14.below b24
    replace hB := below_then hB b24
    replace hL := LL.below hL b24
    refine WL.val (dv_T (dx_eqA (K := .u8) (xs := (sum64 (cat ps))) (ys := (sum64 (cat ps))) rfl Tryd.underlying30 Tryd.underlying5 ty_size_5_1 (by kernel_rfl) rfl rfl sl64 sl64) rfl) rfl rfl ?_
    refine WL.val (dx_pick rfl rfl rfl) rfl rfl ?_
    refine WL.val (dx_assign rfl rfl) rfl rfl ?_
    refine WL.nil ?_
    refine hK17 ?_
    refine WC.ret fun a_ ha_ => ?_
    exact hQ (cv_ret1 rfl (.tmp rfl) rfl hB ha_)

end Go.Proofs.YtohnicmacmkapaaDoor
namespace Go.Proofs.YtohnicmacmkapaaDoor
open Go.ChangeShapes Go.WideShapes Go.ChangeAt Go.RowKit
set_option linter.unusedVariables false
section
variable {P : Program} {H : Type} {enc : TypeId × Value → H} {W : World} {base : Nat} {sp : Nat → Bool} {held : Bool}
theorem rd_of_sliceD {α : Type} (en : α → List Value) (good : α → DataW H → Prop) {s : Nat} (hs : 0 < s) {t e : TypeId} {fuel : Nat} {cs : List Value} {x : DataW H × List MemPlace} (ht : P.underlying t = some (.slice e)) (hce : P.cellsOf e = s) (hl : ∀ a d, good a d → (en a).length = s)
    (hel : ∀ n cs x, DataW.trod enc P W base sp held n e cs = some x → ∃ a, cs = en a ∧ good a x.1) (h : DataW.trod enc P W base sp held fuel t cs = some x) : ∃ (v : Value) (xs : List α), cs = [v] ∧ RdF s [] W v (xs.map en) ∧ ∀ a ∈ xs, ∃ es sps d, x.1 = .slice es sps ∧ d ∈ es ∧ good a d := by
  rcases DataW.trod_slice ht h with ⟨rfl, _⟩ | ⟨a, len, cap, elems, rest, n, rfl, rfl, hxe, hb, hlc, hcm, hlen, hx, _⟩
  · exact ⟨_, [], rfl, RdF.nil hs, fun a ha => by cases ha⟩
  · obtain ⟨xs, hxl, hxs⟩ := choose_list (fun i (y : α) => (∃ d, d ∈ elems ∧ good y d.1) ∧ W.cells? base (a.add (i * s)) s = some (en y)) len (fun i hi => by
      have h1 := hx i hi
      rw [hce, List.getElem?_eq_getElem (by omega)] at h1
      obtain ⟨cs', h2, h3⟩ := Option.bind_eq_some_iff.1 h1
      obtain ⟨y, rfl, hg⟩ := hel n cs' _ h3
      exact ⟨y, ⟨_, List.getElem_mem _, hg⟩, h2⟩)
    have hgood : ∀ y ∈ xs, ∃ d, d ∈ elems ∧ good y d.1 := fun y hy => by
      obtain ⟨i, hi⟩ := List.getElem?_of_mem hy
      exact (hxs i y hi).1
    have hrl : ∀ r ∈ xs.map en, r.length = s := fun r hr => by
      obtain ⟨y, hy, rfl⟩ := List.mem_map.1 hr
      obtain ⟨d, _, hd⟩ := hgood y hy
      exact hl y _ hd
    refine ⟨_, xs, rfl, ⟨hs, hrl, some a, cap, by rw [List.length_map, hxl], by rw [List.length_map, hxl]; exact hlc, hcm, (fun e => by cases e), fun hn => ?_⟩, fun a ha => by
      obtain ⟨d, h1, h2⟩ := hgood a ha
      exact ⟨_, _, d.1, by rw [hxe], List.mem_map.2 ⟨d, h1, rfl⟩, h2⟩⟩
    have cellat : ∀ i y, xs[i]? = some y → ∀ j v, (en y)[j]? = some v → W.cell? ((a.add (i * s)).add j) = some v := fun i y hi j v hj => by
      have h2 := (hxs i y hi).2
      unfold World.cells? at h2
      split at h2
      · have hj' : j < s := by have := (List.getElem?_eq_some_iff.1 hj).1; obtain ⟨d, _, hd⟩ := (hxs i y hi).1; rw [hl y _ hd] at this; exact this
        have := mapM_some_get h2 j j (by simp [hj'])
        rw [this]; exact hj
      · cases h2
    have hne : 0 < xs.length := by
      rcases Nat.eq_zero_or_pos xs.length with h0 | h0
      · exact absurd (by rw [List.length_eq_zero_iff.1 h0]; rfl) hn
      · exact h0
    have hx0 : xs[0]? = some xs[0] := List.getElem?_eq_getElem hne
    have hspot : a.spot = none := by
      have hlen0 : 0 < (en xs[0]).length := by obtain ⟨d, _, hd⟩ := (hxs 0 _ hx0).1; rw [hl _ _ hd]; exact hs
      have := cellat 0 _ hx0 0 _ (List.getElem?_eq_getElem hlen0)
      have h3 := World.cell?_spot this
      have e0 : (a.add (0 * s)).add 0 = a := by simp [Addr.add]
      rw [e0] at h3
      exact h3
    obtain ⟨b, off, spot⟩ := a
    simp only at hspot
    subst hspot
    refine ⟨b, off, rfl, by simp, range_flat _ off hrl fun i r hi => ?_⟩
    rw [List.getElem?_map] at hi
    cases hy : xs[i]? with
    | none => rw [hy] at hi; cases hi
    | some y =>
      rw [hy] at hi
      cases hi
      intro j v hj
      have := cellat i y hy j v hj
      rw [addr_at, addr_at] at this
      exact this
theorem weights_all {e : TypeId} {n : Nat} {d : DataW H} : ∀ {es : List (DataW H)}, d ∈ es → n ∈ d.weights P e → n ∈ DataW.weightsAll P e es
  | x :: l, hd, hn => by
    rw [DataW.weightsAll]
    rcases List.mem_cons.1 hd with rfl | hd
    · exact List.mem_append_left _ hn
    · exact List.mem_append_right _ (weights_all hd hn)
theorem weights_slice {t e : TypeId} {n : Nat} {d : DataW H} {es sps : List (DataW H)} (ht : P.underlying t = some (.slice e)) (hd : d ∈ es) (hn : n ∈ d.weights P e) : n ∈ (DataW.slice es sps).weights P t := by
  rw [DataW.weights, ht]
  exact List.mem_cons_of_mem _ (List.mem_append_left _ (weights_all hd hn))
end
end Go.Proofs.YtohnicmacmkapaaDoor
namespace Go.Proofs.YtohnicmacmkapaaDoor
open Go.RowKit
set_option linter.unusedVariables false
set_option maxRecDepth 8000

theorem tab_of_two {W : World} (hL : laidMet Tryd.prog [("vouchsafe/sha.cubes", Rows.laid_vouchsafe_sha_cubes), ("vouchsafe/sha.squares", Rows.laid_vouchsafe_sha_squares)] W) : TabS W := by
  have h : Go.Lib.TabIs Tryd.prog W "vouchsafe/sha.cubes" .u64 cubesL :=
    Go.Lib.tabIs_of_head (g := 3) (t := 61) (e := 49) (n := 80) (by kernel_rfl) (by kernel_rfl) Tryd.underlying61 Tryd.underlying49 (by kernel_rfl) (by kernel_rfl) hL
  have h2 : laidMet Tryd.prog [("vouchsafe/sha.squares", Rows.laid_vouchsafe_sha_squares)] W := laidMet.tail hL
  have hs : Go.Lib.TabIs Tryd.prog W "vouchsafe/sha.squares" .u64 squaresL :=
    Go.Lib.tabIs_of_head (g := 0) (t := 52) (e := 49) (n := 8) (by kernel_rfl) (by kernel_rfl) Tryd.underlying52 Tryd.underlying49 (by kernel_rfl) (by kernel_rfl) h2
  have g1 : Tryd.prog.globalNamed "vouchsafe/sha.cubes" = some 3 := by kernel_rfl
  have g2 : Tryd.prog.globalNamed "vouchsafe/sha.squares" = some 0 := by kernel_rfl
  refine ⟨fun k hk => ?_, fun k hk => ?_⟩
  · rw [hs.cell g2 k hk]
    simp [at0, List.getD_eq_getElem?_getD]
  · rw [h.cell g1 k hk]
    simp [at0, List.getD_eq_getElem?_getD]
theorem tab_of_laid {W : World} (hL : laidMetH Tryd.prog Rows.shaDigitsRow.laid W) : TabS W := by
  rw [MakeChecks.laidMetH_plain _ _ _ (by kernel_rfl)] at hL
  exact tab_of_two hL
end Go.Proofs.YtohnicmacmkapaaDoor
namespace Go.Proofs.YtohnicmacmkapaaDoor
open Go.ChangeShapes Go.WideShapes Go.ChangeAt Go.RowKit
set_option linter.unusedVariables false
set_option maxRecDepth 8000
theorem own : ownKnob Tryd.prog.godebug = none := by kernel_rfl
theorem laidOut : laidOutB Tryd.prog = true := by kernel_rfl
theorem tab_both {W : World} (hL : laidMetH Tryd.prog Rows.shaSumsRow.laid W) : TabS W ∧ TabR W := by
  rw [MakeChecks.laidMetH_plain _ _ _ (by kernel_rfl)] at hL
  have h1 : Go.Lib.TabIs Tryd.prog W "vouchsafe/sha.cubes" .u64 cubesL :=
    Go.Lib.tabIs_of_head (g := 3) (t := 61) (e := 49) (n := 80) (by kernel_rfl) (by kernel_rfl) Tryd.underlying61 Tryd.underlying49 (by kernel_rfl) (by kernel_rfl) hL
  have hL2 := laidMet.tail hL
  have h2 : Go.Lib.TabIs Tryd.prog W "vouchsafe/sha.squares" .u64 squaresL :=
    Go.Lib.tabIs_of_head (g := 0) (t := 52) (e := 49) (n := 8) (by kernel_rfl) (by kernel_rfl) Tryd.underlying52 Tryd.underlying49 (by kernel_rfl) (by kernel_rfl) hL2
  have hL3 := laidMet.tail hL2
  have h3 : Go.Lib.TabIs Tryd.prog W "vouchsafe/vouchsaferef07.roots" .u64 cubesL :=
    Go.Lib.tabIs_of_head (g := 2) (t := 61) (e := 49) (n := 80) (by kernel_rfl) (by kernel_rfl) Tryd.underlying61 Tryd.underlying49 (by kernel_rfl) (by kernel_rfl) hL3
  have hL4 := laidMet.tail hL3
  have h4 : Go.Lib.TabIs Tryd.prog W "vouchsafe/vouchsaferef07.begins" .u64 squaresL :=
    Go.Lib.tabIs_of_head (g := 1) (t := 52) (e := 49) (n := 8) (by kernel_rfl) (by kernel_rfl) Tryd.underlying52 Tryd.underlying49 (by kernel_rfl) (by kernel_rfl) hL4
  have g1 : Tryd.prog.globalNamed "vouchsafe/sha.cubes" = some 3 := by kernel_rfl
  have g2 : Tryd.prog.globalNamed "vouchsafe/sha.squares" = some 0 := by kernel_rfl
  have g3 : Tryd.prog.globalNamed "vouchsafe/vouchsaferef07.roots" = some 2 := by kernel_rfl
  have g4 : Tryd.prog.globalNamed "vouchsafe/vouchsaferef07.begins" = some 1 := by kernel_rfl
  refine ⟨⟨fun k hk => ?_, fun k hk => ?_⟩, ⟨fun k hk => ?_, fun k hk => ?_⟩⟩
  · rw [h2.cell g2 k hk]; simp [at0, List.getD_eq_getElem?_getD]
  · rw [h1.cell g1 k hk]; simp [at0, List.getD_eq_getElem?_getD]
  · rw [h4.cell g4 k hk]; simp [at0, List.getD_eq_getElem?_getD]
  · rw [h3.cell g3 k hk]; simp [at0, List.getD_eq_getElem?_getD]
theorem u8_one {n : Int} (h : (Lit.int .u8 n).wf = true) : 0 ≤ n ∧ n ≤ 255 := by
  simpa [Lit.wf, IntKind.min, IntKind.max, IntKind.signed, IntKind.bits] using h
section
variable {H : Type} {enc : TypeId × Value → H} {W : World} {base : Nat} {sp : Nat → Bool} {held : Bool}
theorem el_e8 (n : Nat) (cs : List Value) (x : DataW H × List MemPlace) (h : DataW.trod enc Tryd.prog W base sp held n 5 cs = some x) : ∃ z : Int, cs = e8 z ∧ (0 ≤ z ∧ z ≤ 255) := by
  obtain ⟨b, hb, _, wa⟩ := DataW.trod_int Tryd.underlying5 h
  exact ⟨b, hb, u8_one wa⟩
theorem el_P (n : Nat) (cs : List Value) (x : DataW H × List MemPlace) (h : DataW.trod enc Tryd.prog W base sp held n 25 cs = some x) : ∃ p : Value × List Int, cs = encP p ∧ (RdF 1 [] W p.1 (p.2.map e8) ∧ Bytes p.2) := by
  obtain ⟨v, zs, e, r, g⟩ := rd_of_slice (s := 1) e8 (fun z => 0 ≤ z ∧ z ≤ 255) (by decide) Tryd.underlying25 (by kernel_rfl) (fun a _ => rfl) el_e8 h
  exact ⟨(v, zs), e, r, g⟩
theorem open_parts {r : Reach} {b0 : Nat} {v : Value} {d : DataW H} {p : List MemPlace} (hv : Value.okWide Tryd.prog W r b0 22 v) (h : DataW.Trod enc Tryd.prog W base sp held 22 v d p) : ∃ ps : List (Value × List Int), RdF 1 [] W v (ps.map encP) ∧ RdQ [] W ps := by
  obtain ⟨a, len, cap, rfl⟩ := okWide_slice Tryd.underlying22 hv
  obtain ⟨fuel, hf⟩ := h
  obtain ⟨v, fs, e, r, g⟩ := rd_of_slice (s := 1) encP (fun p => RdF 1 [] W p.1 (p.2.map e8) ∧ Bytes p.2) (by decide) Tryd.underlying22 (by kernel_rfl) (fun a _ => rfl) el_P hf
  simp [Value.cells] at e
  subst e
  exact ⟨fs, r, g⟩
end
end Go.Proofs.YtohnicmacmkapaaDoor
