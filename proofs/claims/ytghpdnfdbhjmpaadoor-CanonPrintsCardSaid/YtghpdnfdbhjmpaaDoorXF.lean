/- What is canonical; trees that are too great; a fixed fact. What Weigh counts, and how long a text is. Texts and digits of the reference. Trees as text -/
import Derived.Test.YtghpdnfdbhjmpaaDoorXE
namespace Go.Proofs.YtghpdnfdbhjmpaaDoor
open Go.RowKit
set_option linter.unusedVariables false
set_option linter.unusedSimpArgs false
set_option maxRecDepth 8000
set_option maxHeartbeats 2000000

def MkQ (x : Except Int Js) (t : Tr) (e : Int) : Prop := (e = 0 ∧ x = .ok t.er) ∨ (e ≠ 0 ∧ x = .error e ∧ t = leafT 0 0 ⟨#[]⟩)
theorem jPar_u (s : ByteArray) (w : World) (L : List Nat) (hL : LL L w) : CV Tryd.prog 16 [.string s] w fun v W => ∃ (t : Tr) (e : Int), v = .tuple #[.agg #[.int .i64 t.kind, .int .i64 t.num, .string t.text, t.nv, t.iv], .int .i64 e] ∧ MkQ (parJ s) t e ∧ RdT 13 L W t :=
 (jParse_v s w L hL).mono fun v W _ k => by
  rcases k with ⟨t, e1, e2, e3⟩ | ⟨e, e1, e0, e2⟩
  · exact ⟨t, 0, e1, .inl ⟨rfl, e2⟩, e3⟩
  · exact ⟨leafT 0 0 ⟨#[]⟩, e, e1, .inr ⟨e0, e2, rfl⟩, leaf_rd _ _ _ _ _ _⟩
theorem mkQ_0 {x : Except Int Js} {t : Tr} {e : Int} (h : MkQ x t e) (h0 : e = 0) : x = .ok t.er := by
 rcases h with ⟨_, h⟩ | ⟨h1, _⟩
 · exact h
 · exact absurd h0 h1
theorem mkQ_1 {x : Except Int Js} {t : Tr} {e : Int} (h : MkQ x t e) (h0 : ¬ e = 0) : x = .error e := by
 rcases h with ⟨h1, _⟩ | ⟨_, h, _⟩
 · exact absurd h1 h0
 · exact h
theorem sz_par {s : ByteArray} {t : Tr} (h : parJ s = .ok t.er) : SzT 1000000 13 t := szT_J.2 (par_ok h).2
set_option maxHeartbeats 1000000 in
theorem canon_v (s : ByteArray) (w : World) (L : List Nat) (hL : LL L w)   (htab : tabP w) : CV Tryd.prog 18 [.string s] w fun v W => v = .bool (canS s) := by
 refine cv_enter (N := 25) (f := [(0, .string s)]) Tryd.func18 rfl rfl rfl rfl fun Q hQ hE => ?_
 have hB := Below.refl w.heap.size w
 refine Sq fun K1 hK1 => (Rg (Pu rfl (Ni (hK1 (Sq fun K2 hK2 => (Rg (Pu rfl ?_)))))))
 refine Ge (dx_cv rfl Tryd.func16 rfl rfl rfl (jPar_u s w _ hL)) rfl rfl ?_
 rintro _ W4 ⟨⟨t, e, rfl, hte, ht⟩, b3⟩
 replace hB := below_then hB b3
 replace hL := LL.below hL b3
 refine Pu rfl (Pu rfl (Pu rfl ?_))
 refine Ge (dx_alloc rfl ty_zero_25 rfl) rfl rfl ?_
 rintro _ W5 ⟨rfl, k6, b7, z8⟩
 have l9 := hB.size
 replace ht := ht.more b7 (Nat.le_refl _)
 replace hB := below_then hB b7
 replace hL := LL.more hL z8
 refine WL.do (dx_store (cs' := [.int .i64 t.kind, .int .i64 t.num, .string t.text, t.nv, t.iv]) (vs := [.int .i64 t.kind, .int .i64 t.num, .string t.text, t.nv, t.iv]) rfl ty_size_25_5 rfl rfl rfl (oc_cons rfl (oc_cons rfl (oc_cons rfl (oc_cons (ht.1).one (oc_cons (ht.2.1).one oc_nil))))) k6 rfl (Nat.le_of_ble_eq_true rfl) rfl) rfl ?_
 rintro _ W10 ⟨k12, o11⟩
 clear k6
 replace ht := ht.only o11 (.head _)
 replace hB := o11.below hB l9
 replace hL := LL.only hL o11
 refine Pu rfl (Ni (hK2 (Sq fun K13 hK13 => (Sq fun K14 hK14 => (Rg (Pu rfl (Va (dx_neq rfl rfl rfl) rfl rfl ?_)))))))
 refine Ni (hK14 ?_)
 refine WC.cond rfl (fun c15 => ?_) (fun c15 => ?_)
 ·
  replace c15 := bnot_t c15
  replace c15 := dF c15
  refine Sq fun K16 hK16 => ?_
  have hpe := mkQ_1 hte (by first | assumption | omega)
  refine Rg (Pu rfl (Ni (hK16 ?_)))
  exact WC.ret fun a_ ha_ => hQ (cv_ret1 rfl (.tmp rfl) (by rw [can_e hpe]) hB ha_)
 ·
  replace c15 := bnot_f c15
  replace c15 := dT c15
  refine WC.skip (hK13 (Sq fun K17 hK17 => ?_))
  have hpk := mkQ_0 hte (by first | assumption | omega)
  refine Rg (Va (dx_loadN rfl ty_agg_25_5 rfl k12.range rfl) rfl rfl ?_)
  refine Ge (dx_cv rfl Tryd.func10 rfl rfl rfl (cPrint_v 12 t W10 _ hL ht (sz_par hpk) (tabP_below htab hB))) rfl rfl ?_
  rintro _ W19 ⟨rfl, b18⟩
  replace hB := below_then hB b18
  refine Pu rfl (Pu rfl (Pu rfl (Pu rfl (Pu rfl (Ni (hK17 (Sq fun K20 hK20 => ?_)))))))
  refine Rg (Pu rfl (Va (dx_eql rfl rfl rfl) rfl rfl (Pu rfl ?_)))
  refine WL.split 20 rfl (fun g21 => ?_) (fun g21 => ?_)
  ·
   replace g21 := dT g21
   refine Pu rfl (Pu rfl (Va (dx_eqlT rfl rfl rfl) rfl rfl (Pu rfl (Pu rfl (Ni (hK20 ?_))))))
   exact WC.ret fun a_ ha_ => hQ (cv_ret1 rfl (.tmp rfl) (by rw [can_k hpk, decide_eq_true (show (prtS t.er).2 = 0 by assumption)]; rfl) hB ha_)
  ·
   replace g21 := dF g21
   refine Of rfl (Of rfl (Of rfl (Pu rfl (Pu rfl (Ni (hK20 ?_))))))
   exact WC.ret fun a_ ha_ => hQ (cv_ret1 rfl (.tmp rfl) (by rw [can_k hpk, decide_eq_false (show ¬ (prtS t.er).2 = 0 by assumption)]; rfl) hB ha_)

def jA : Js := .mk 6 0 ⟨#[]⟩ [⟨#[97]⟩, ⟨#[98]⟩] [.mk 4 0 ⟨#[195, 169, 47, 1]⟩ [] [], .mk 3 1 ⟨#[]⟩ [] []]
theorem pa1 : parJ { data := #[123, 34, 98, 34, 58, 49, 44, 34, 97, 34, 58, 34, 92, 117, 48, 48, 101, 57, 47, 92, 117, 48, 48, 48, 49, 34, 125] } = .ok jA := by kernel_rfl
theorem pa2 : parJ { data := #[32, 49] } = .ok (.mk 3 1 ⟨#[]⟩ [] []) := by kernel_rfl
theorem num1 : numJ 1 = [49] := by
 unfold numJ decL
 rw [if_neg (by decide), show (1 : Int).toNat = 1 from rfl, Lib.decDigits]; rfl
theorem rA : rightJ upB 12 jA = true := by kernel_rfl
theorem tA : textJ jA = [123, 34, 97, 34, 58, 34, 195, 169, 47, 92, 117, 48, 48, 48, 49, 34, 44, 34, 98, 34, 58, 49, 125] := by
 have e : textJ jA = [123, 34, 97, 34, 58, 34, 195, 169, 47, 92, 117, 48, 48, 48, 49, 34, 44, 34, 98, 34, 58] ++ (numJ 1 ++ [125]) := by
  unfold textJ jA
  rw [prJ_6 rfl]
  show 123 :: (commaJ [quoJ ⟨#[97]⟩ ++ (58 :: prJ 11 (.mk 4 0 ⟨#[195, 169, 47, 1]⟩ [] [])), quoJ ⟨#[98]⟩ ++ (58 :: prJ 11 (.mk 3 1 ⟨#[]⟩ [] []))] ++ [125]) = _
  rw [pr_leaf (j := .mk 4 0 _ _ _) (by show ¬ (4 : Int) = 5; decide) (by show ¬ (4 : Int) = 6; decide), leafP_4 rfl, pr_leaf (j := .mk 3 1 _ _ _) (by show ¬ (3 : Int) = 5; decide) (by show ¬ (3 : Int) = 6; decide), leafP_3 rfl]
  show 123 :: (commaJ [quoJ ⟨#[97]⟩ ++ (58 :: quoJ ⟨#[195, 169, 47, 1]⟩), quoJ ⟨#[98]⟩ ++ (58 :: numJ 1)] ++ [125]) = _
  rw [num1]; kernel_rfl
 rw [e, num1]; rfl
theorem prA : prtS jA = ({ data := #[123, 34, 97, 34, 58, 34, 195, 169, 47, 92, 117, 48, 48, 48, 49, 34, 44, 34, 98, 34, 58, 49, 125] }, 0) := by
 unfold prtS
 rw [if_pos rA, tA, if_neg (by decide)]; kernel_rfl
theorem canB : canS { data := #[123, 34, 97, 34, 58, 34, 195, 169, 47, 92, 117, 48, 48, 48, 49, 34, 44, 34, 98, 34, 58, 49, 125] } = true := by
 have h0 : (prtS jA).2 = 0 := by rw [prA]
 have := can_p h0
 rwa [prA] at this
theorem canD : canS { data := #[32, 49] } = false := by
 rw [can_k pa2]
 have e : textJ (.mk 3 1 ⟨#[]⟩ [] []) = [49] := by
  unfold textJ
  rw [pr_leaf (j := .mk 3 1 ⟨#[]⟩ [] []) (by show ¬ (3 : Int) = 5; decide) (by show ¬ (3 : Int) = 6; decide), leafP_3 rfl]; exact num1
 have r1 : rightJ upB 12 (.mk 3 1 ⟨#[]⟩ [] []) = true := by kernel_rfl
 have h : prtS (.mk 3 1 ⟨#[]⟩ [] []) = (strOfNums [49], 0) := by
  unfold prtS
  rw [if_pos r1, e, if_neg (by decide)]
 rw [h]
 show (decide ((0 : Int) = 0) && decide (strOfNums [49] = { data := #[32, 49] })) = false
 kernel_rfl
theorem alP_v (w : World) (L : List Nat) (hL : LL L w) : CV Tryd.prog 16 [.string { data := #[123, 34, 98, 34, 58, 49, 44, 34, 97, 34, 58, 34, 92, 117, 48, 48, 101, 57, 47, 92, 117, 48, 48, 48, 49, 34, 125] }] w fun v W => ∃ t, v = .tuple #[.agg #[.int .i64 t.kind, .int .i64 t.num, .string t.text, t.nv, t.iv], .int .i64 0] ∧ t.er = jA ∧ RdT 13 L W t :=
  (jParse_v { data := #[123, 34, 98, 34, 58, 49, 44, 34, 97, 34, 58, 34, 92, 117, 48, 48, 101, 57, 47, 92, 117, 48, 48, 48, 49, 34, 125] } w L hL).mono fun v W _ h => by
    rcases h with ⟨t, rfl, h1, h2⟩ | ⟨e, rfl, h0, h1⟩
    · rw [pa1] at h1
      exact ⟨t, rfl, (Except.ok.inj h1).symm, h2⟩
    · rw [pa1] at h1; cases h1
theorem alQ_v (t : Tr) (w : World) (L : List Nat) (hL : LL L w) (ht : RdT 13 L w t) (he : t.er = jA) (htab : tabP w) : CV Tryd.prog 10 [.agg #[.int .i64 t.kind, .int .i64 t.num, .string t.text, t.nv, t.iv]] w fun v W => v = .tuple #[.string { data := #[123, 34, 97, 34, 58, 34, 195, 169, 47, 92, 117, 48, 48, 48, 49, 34, 44, 34, 98, 34, 58, 49, 125] }, .int .i64 0] := by
 have := cPrint_v 12 t w L hL ht (szT_J.2 (by rw [he]; exact (par_ok pa1).2)) htab
 rw [he, prA] at this
 exact this
theorem alC_v (s : ByteArray) (b : Bool) (h : canS s = b) (w : World) (L : List Nat) (hL : LL L w) (htab : tabP w) : CV Tryd.prog 18 [.string s] w fun v W => v = .bool b := h ▸ canon_v s w L hL htab
set_option maxHeartbeats 1000000 in
theorem alive_v  (w : World) (L : List Nat) (hL : LL L w)   (htab : tabP w) : CV Tryd.prog 8 [] w fun v W => v = .bool true := by
 refine cv_enter (N := 32) (f := []) Tryd.func8 rfl rfl rfl rfl fun Q hQ hE => ?_
 have hB := Below.refl w.heap.size w
 refine Sq fun K1 hK1 => (Rg (Pu rfl (Ni (hK1 (Sq fun K2 hK2 => (Rg ?_))))))
 refine Ge (dx_cv rfl Tryd.func16 rfl rfl rfl (alP_v w _ hL)) rfl rfl ?_
 rintro _ W4 ⟨⟨t, rfl, hte, ht⟩, b3⟩
 replace hB := below_then hB b3
 replace hL := LL.below hL b3
 refine Pu rfl (Pu rfl (Pu rfl ?_))
 refine Ge (dx_alloc rfl ty_zero_25 rfl) rfl rfl ?_
 rintro _ W5 ⟨rfl, k6, b7, z8⟩
 have l9 := hB.size
 replace ht := ht.more b7 (Nat.le_refl _)
 replace hB := below_then hB b7
 replace hL := LL.more hL z8
 refine WL.do (dx_store (cs' := [.int .i64 t.kind, .int .i64 t.num, .string t.text, t.nv, t.iv]) (vs := [.int .i64 t.kind, .int .i64 t.num, .string t.text, t.nv, t.iv]) rfl ty_size_25_5 rfl rfl rfl (oc_cons rfl (oc_cons rfl (oc_cons rfl (oc_cons (ht.1).one (oc_cons (ht.2.1).one oc_nil))))) k6 rfl (Nat.le_of_ble_eq_true rfl) rfl) rfl ?_
 rintro _ W10 ⟨k12, o11⟩
 clear k6
 replace ht := ht.only o11 (.head _)
 replace hB := o11.below hB l9
 replace hL := LL.only hL o11
 refine Pu rfl (Ni (hK2 (Sq fun K13 hK13 => (Rg (Va (dx_loadN rfl ty_agg_25_5 rfl k12.range rfl) rfl rfl ?_)))))
 refine Ge (dx_cv rfl Tryd.func10 rfl rfl rfl (alQ_v t W10 _ hL ht hte (tabP_below htab hB))) rfl rfl ?_
 rintro _ W15 ⟨rfl, b14⟩
 replace hB := below_then hB b14
 replace hL := LL.below hL b14
 refine Pu rfl (Pu rfl (Pu rfl (Pu rfl (Pu rfl (Ni (hK13 (Sq fun K16 hK16 => ?_)))))))
 refine Rg (Pu rfl (Va (dx_eql rfl rfl rfl) rfl rfl (Pu rfl (Pu rfl (Va (dx_eql rfl rfl rfl) rfl rfl (Pu rfl (Pu rfl ?_)))))))
 refine Pu rfl (Va (dv_T (dx_eqlT rfl rfl rfl) rfl) rfl rfl (Pu rfl (Pu rfl (Pu rfl ?_))))
 refine Ge (dx_cv rfl Tryd.func18 rfl rfl rfl (alC_v ({ data := #[123, 34, 97, 34, 58, 34, 195, 169, 47, 92, 117, 48, 48, 48, 49, 34, 44, 34, 98, 34, 58, 49, 125] }) true canB W15 _ hL (tabP_below htab hB))) rfl rfl ?_
 rintro _ W18 ⟨rfl, b17⟩
 replace hB := below_then hB b17
 replace hL := LL.below hL b17
 refine Pu rfl (Pu rfl ?_)
 refine Ge (dx_cv rfl Tryd.func18 rfl rfl rfl (alC_v ({ data := #[32, 49] }) false canD W18 _ hL (tabP_below htab hB))) rfl rfl ?_
 rintro _ W20 ⟨rfl, b19⟩
 replace hB := below_then hB b19
 refine Va (dx_not rfl rfl) rfl rfl (Pu rfl (Pu rfl (Ni (hK16 ?_))))
 exact WC.ret fun a_ ha_ => hQ (cv_ret1 rfl (.tmp rfl) rfl hB ha_)

def wgT : Nat → Tr → Nat
 | 0, _ => 0
 | n + 1, t => 1 + t.text.size + (t.names.map fun a => 1 + a.size).sum + (t.items.map (wgT n)).sum
theorem sum_take {α : Type} {f : α → Nat} {xs : List α} {i : Nat} {r : α} (h : xs[i]? = some r) : ((xs.take (i + 1)).map f).sum = ((xs.take i).map f).sum + f r := by
 rw [List.take_add_one, h]; simp
theorem sum_mem {α : Type} {f : α → Nat} : ∀ {xs : List α} {x : α}, x ∈ xs → f x ≤ (xs.map f).sum
 | y :: l, x, h => by
  rw [List.map_cons, List.sum_cons]
  rcases List.mem_cons.1 h with rfl | h
  · omega
  · have := sum_mem (f := f) h; omega
theorem wgT_item {n : Nat} {t c : Tr} (h : c ∈ t.items) : wgT n c < wgT (n + 1) t := by
 have := sum_mem (f := wgT n) h
 rw [wgT]; omega
theorem comma_sum : ∀ (ps : List (List Int)), (commaJ ps).length ≤ (ps.map fun p => p.length + 1).sum
 | [] => Nat.zero_le _
 | x :: l => by
  have : ∀ l : List (List Int), (l.flatMap fun y => 44 :: y).length = (l.map fun p => p.length + 1).sum := fun l => by
   induction l with
   | nil => rfl
   | cons y l ih => rw [List.flatMap_cons, List.length_append, ih, List.map_cons, List.sum_cons]; rfl
  rw [commaJ, List.length_append, this, List.map_cons, List.sum_cons]; omega
theorem sum_le {α : Type} {f g : α → Nat} : ∀ {xs : List α}, (∀ x ∈ xs, f x ≤ g x) → (xs.map f).sum ≤ (xs.map g).sum
 | [], _ => Nat.le_refl _
 | y :: l, h => by
  rw [List.map_cons, List.map_cons, List.sum_cons, List.sum_cons]
  have := h y (.head _)
  have := sum_le (f := f) (g := g) (xs := l) fun x hx => h x (.tail _ hx)
  omega
theorem sum_mul {α : Type} {f : α → Nat} (k : Nat) : ∀ {xs : List α}, (xs.map fun x => k * f x).sum = k * (xs.map f).sum
 | [] => by simp
 | y :: l => by rw [List.map_cons, List.map_cons, List.sum_cons, List.sum_cons, sum_mul k, Nat.mul_add]
theorem zip_sum {α β : Type} {f : α → Nat} {g : β → Nat} : ∀ {xs : List α} {ys : List β}, ((xs.zip ys).map fun p => f p.1 + g p.2).sum ≤ (xs.map f).sum + (ys.map g).sum
 | [], ys => by simp
 | x :: xs, [] => by simp
 | x :: xs, y :: ys => by
  rw [List.zip_cons_cons, List.map_cons, List.map_cons, List.map_cons, List.sum_cons, List.sum_cons, List.sum_cons]
  have := zip_sum (f := f) (g := g) (xs := xs) (ys := ys)
  show f x + g y + _ ≤ _
  omega
theorem pl_le {L : List Nat} {w : World} : ∀ (n m : Nat) (t : Tr), RdT n L w t → rightJ upB m t.er = true → (prJ m t.er).length + 3 ≤ 30 * wgT n t
  | 0, _, t, h, _ => h.elim
  | n + 1, m, t, h, hr => by
    by_cases h5 : t.kind = 5
    · obtain ⟨q, rfl, hq, _⟩ := node_of hr (.inl h5)
      rw [pr_5 h5, wgT]
      have e1 := comma_sum (pcs q t.er)
      have e2 : ((pcs q t.er).map fun p => p.length + 1).sum ≤ (t.items.map fun c => 30 * wgT n c).sum := by
        unfold pcs
        rw [if_pos (by rw [er_kind]; exact h5), er_items, List.map_map, List.map_map]
        exact sum_le fun c hc => by
          have := pl_le n q c (h.2.2 c hc) (hq c hc)
          simp only [Function.comp]; omega
      rw [sum_mul] at e2
      rw [List.length_cons, List.length_append, List.length_singleton]
      omega
    · by_cases h6 : t.kind = 6
      · obtain ⟨q, rfl, hq, hln⟩ := node_of hr (.inr h6)
        rw [pr_6 h6, wgT]
        have e1 := comma_sum (pcs q t.er)
        have e2 : ((pcs q t.er).map fun p => p.length + 1).sum ≤ (t.names.map fun a => 30 * (1 + a.size)).sum + (t.items.map fun c => 30 * wgT n c).sum := by
          unfold pcs
          rw [if_neg (by rw [er_kind]; omega), er_items, er_names, List.map_map, List.zip_map_right, List.map_map]
          refine Nat.le_trans (sum_le (g := fun p => 30 * (1 + p.1.size) + 30 * wgT n p.2) fun p hp => ?_) (zip_sum (f := fun a : ByteArray => 30 * (1 + a.size)) (g := fun c : Tr => 30 * wgT n c))
          have hm := List.of_mem_zip hp
          have := pl_le n q p.2 (h.2.2 p.2 hm.2) (hq p.2 hm.2)
          have := quo_len p.1
          simp [Function.comp]; omega
        rw [sum_mul, sum_mul] at e2
        rw [List.length_cons, List.length_append, List.length_singleton]
        omega
      · have hl := leaf_of hr h5 h6
        rw [pr_leaf (by rw [er_kind]; exact h5) (by rw [er_kind]; exact h6), wgT]
        obtain ⟨_, _, ⟨e, _, h1, h2⟩ | ⟨e, _, _⟩ | ⟨e | e | e, _⟩⟩ := leaf_cases hl
        · rw [leafP_3 e]
          have := numJ_len (n := t.er.num) (by omega) (by omega)
          omega
        · rw [leafP_4 e, er_text]
          have := quo_len t.text
          omega
        · rw [leafP_0 e]; simp; omega
        · rw [leafP_1 e]; simp; omega
        · rw [leafP_2 e]; simp; omega
abbrev WeighX (n : Nat) : Prop := ∀ (t : Tr) (most : Nat) (w : World) (L : List Nat), LL L w → RdT n L w t → most ≤ 1000000 → CV Tryd.prog 20 [.agg #[.int .i64 t.kind, .int .i64 t.num, .string t.text, t.nv, t.iv], .int .i64 (most : Int)] w fun v W => ∃ z : Int, v = .int .i64 z ∧ 1 ≤ z ∧ z ≤ 3 * (most : Int) + 3 ∧ (z ≤ (most : Int) → (wgT n t : Int) ≤ z)
set_option maxHeartbeats 2000000 in
theorem weighX_step (n : Nat) (ih : WeighX n) (t : Tr) (most : Nat) (w : World) (L : List Nat) (hL : LL L w) (ht : RdT (n + 1) L w t)  (hrm : most ≤ 1000000) : CV Tryd.prog 20 [.agg #[.int .i64 t.kind, .int .i64 t.num, .string t.text, t.nv, t.iv], .int .i64 (most : Int)] w fun v W => ∃ z : Int, v = .int .i64 z ∧ 1 ≤ z ∧ z ≤ 3 * (most : Int) + 3 ∧ (z ≤ (most : Int) → (wgT (n + 1) t : Int) ≤ z) := by
 refine cv_enter (N := 61) (f := [(0, .agg #[.int .i64 t.kind, .int .i64 t.num, .string t.text, t.nv, t.iv]), (1, .int .i64 (most : Int))]) Tryd.func20 rfl rfl rfl rfl fun Q hQ hE => ?_
 have hB := Below.refl w.heap.size w
 refine Sq fun K1 hK1 => ?_
 obtain ⟨hnt, hit, hct⟩ := ht
 replace hct : RdTs n (L) w t.items := hct
 have hil0 := hit.len
 rw [List.length_map] at hil0
 have hnl0 := hnt.len
 rw [List.length_map] at hnl0
 unfold maxLen at hil0 hnl0
 refine Rg ?_
 refine Ge (dx_box rfl rfl rfl) rfl rfl ?_
 rintro _ W2 ⟨rfl, k3, b4, z5⟩
 have l6 := hB.size
 replace hnt := hnt.more b4 (Nat.le_refl _)
 replace hit := hit.more b4 (Nat.le_refl _)
 replace hct := hct.more b4 (Nat.le_refl _)
 replace hB := below_then hB b4
 replace hL := LL.more hL z5
 refine Pu rfl (Ni (hK1 (Sq fun K7 hK7 => (Rg (Va (dx_fld (o1 := 2) rfl ty_fld_25_2_2 rfl rfl) rfl rfl (Va (dx_load rfl ty_one_9 rfl (k3.cell (k := 2) rfl)) rfl rfl (Va (dx_lenT rfl Tryd.underlying9 rfl) rfl rfl ?_)))))))
 refine Pu rfl (Va (dx_min rfl rfl rfl) rfl rfl (Va (dx_add (r := 1 + (if (most : Int) < ((t.text).size : Int) then (most : Int) else ((t.text).size : Int))) rfl rfl rfl (wrap64_id (by omega))) rfl rfl (Pu rfl (Ni (hK7 (Sq fun K8 hK8 => (Sq fun K9 hK9 => ?_)))))))
 refine Rg (Pu rfl (Ni (hK9 (WC.block ?_))))
 refine WC.loop2 (fun (i : Nat) (z : Int) => [(1, .int .i64 (most : Int)), (2, .pointer (some ⟨w.heap.size, 0, none⟩)), (6, .int .i64 (i : Int)), (5, .int .i64 z)]) (fun (i : Nat) (z : Int) W => i ≤ t.names.length ∧ (1 + (i : Int) ≤ z) ∧ z ≤ 3 * (most : Int) + 3 ∧ (z ≤ (most : Int) → ((1 + t.text.size + ((t.names.take i).map fun a => 1 + a.size).sum : Nat) : Int) ≤ z) ∧ Below w.heap.size w W ∧ LL (w.heap.size :: L) W ∧ RdF 1 (w.heap.size :: L) W t.nv (t.names.map eS) ∧ RdF 5 (w.heap.size :: L) W t.iv (t.items.map encT) ∧ RdTs n (w.heap.size :: L) W t.items ∧ Blk W w.heap.size [.int .i64 t.kind, .int .i64 t.num, .string t.text, t.nv, t.iv]) (fun (i : Nat) (z : Int) => t.names.length - i) 0 (1 + (if (most : Int) < ((t.text).size : Int) then (most : Int) else ((t.text).size : Int))) (by repeat first | exact trivial | exact And.intro rfl trivial | refine And.intro rfl ?_ | refine And.intro (congrArg (fun z : Int => some (Value.int .i64 z)) (by omega)) ?_) ⟨Nat.zero_le _, (by omega), (by omega), (fun hh => by rw [List.take_zero, List.map_nil, List.sum_nil]; omega), hB, hL, hnt, hit, hct, k3⟩ ?_
 clear hnt hit hct k3 hB hL
 rintro K10 i z W11 ⟨hi, hz1, hz2, hs, hB, hL, hnt, hit, hct, k3⟩ hK10
 refine Sq fun K12 hK12 => (Sq fun K13 hK13 => (Rg (Pu rfl (Va (dx_fld (o1 := 3) rfl ty_fld_25_3_3 rfl rfl) rfl rfl (Va (dx_load rfl ty_one_22 rfl (k3.cell (k := 3) rfl)) rfl rfl (Va (dx_lenFM rfl ty_slice_22 rfl hnt) rfl rfl (Va (dx_lss rfl rfl rfl) rfl rfl ?_)))))))
 refine Pu rfl ?_
 refine WL.split 19 rfl (fun g14 => ?_) (fun g14 => ?_)
 ·
  replace g14 := dT g14
  refine Pu rfl (Pu rfl (Va (dx_leq rfl rfl rfl) rfl rfl (Pu rfl (Ni (hK13 ?_)))))
  refine WC.cond rfl (fun c15 => ?_) (fun c15 => ?_)
  ·
   replace c15 := dT c15
   refine WC.skip (hK12 (Sq fun K16 hK16 => (WC.block (Rg (Pu rfl (Va (dx_add (r := z + 1) rfl rfl rfl (wrap64_id (by omega))) rfl rfl (Va (dx_fld (o1 := 3) rfl ty_fld_25_3_3 rfl rfl) rfl rfl ?_)))))))
   refine Va (dx_load rfl ty_one_22 rfl (k3.cell (k := 3) rfl)) rfl rfl (Pu rfl ?_)
   obtain ⟨r17, e18⟩ : ∃ x, t.names[i]? = some x := ⟨_, List.getElem?_eq_getElem (by omega)⟩
   refine Ge (dx_idxF i rfl ty_slice_22 rfl rfl hnt (by omega) (at_mapX e18)) rfl rfl ?_
   rintro u19 _ ⟨rfl, p20⟩
   refine Va (dx_loadP rfl ty_one_9 rfl p20) rfl rfl (Va (dx_lenT rfl Tryd.underlying9 rfl) rfl rfl (Pu rfl (Va (dx_min rfl rfl rfl) rfl rfl (Va (dx_add (r := (z + 1) + (if (most : Int) < (r17.size : Int) then (most : Int) else (r17.size : Int))) rfl rfl rfl (wrap64_id (by omega))) rfl rfl (Pu rfl (Ni (hK16 ?_)))))))
   refine Rg (Pu rfl (Va (dx_add (r := (i : Int) + 1) rfl rfl rfl (wrap64_id (by omega))) rfl rfl (Pu rfl (Ni ?_))))
   exact hK10 (i + 1) ((z + 1) + (if (most : Int) < (r17.size : Int) then (most : Int) else (r17.size : Int))) ⟨(by omega), (by omega), (by omega), (fun hh => by have e_ := sum_take (f := fun a : ByteArray => 1 + a.size) e18; have q_ := hs (by omega); rw [e_]; omega), hB, hL, hnt, hit, hct, k3⟩ (by omega) (by repeat first | exact trivial | exact And.intro rfl trivial | refine And.intro rfl ?_ | refine And.intro (congrArg (fun z : Int => some (Value.int .i64 z)) (by omega)) ?_)
  ·
   replace c15 := dF c15
   refine WC.exit ?_
   refine hK8 (Sq fun K21 hK21 => (Sq fun K22 hK22 => (Rg (Pu rfl (Ni (hK22 (WC.block ?_)))))))
   have hnames : z ≤ (most : Int) → ((1 + t.text.size + (t.names.map fun a => 1 + a.size).sum : Nat) : Int) ≤ z := fun hh => by have hie : i = t.names.length := (by omega); have q_ := hs hh; rw [hie, List.take_length] at q_; exact q_
   refine WC.loop2 (fun (j : Nat) (y : Int) => [(1, .int .i64 (most : Int)), (2, .pointer (some ⟨w.heap.size, 0, none⟩)), (7, .int .i64 (j : Int)), (5, .int .i64 y)]) (fun (j : Nat) (y : Int) W => j ≤ t.items.length ∧ (1 + (j : Int) ≤ y) ∧ y ≤ 3 * (most : Int) + 3 ∧ (y ≤ (most : Int) → ((1 + t.text.size + (t.names.map fun a => 1 + a.size).sum + ((t.items.take j).map (wgT n)).sum : Nat) : Int) ≤ y) ∧ Below w.heap.size w W ∧ LL (w.heap.size :: L) W ∧ RdF 1 (w.heap.size :: L) W t.nv (t.names.map eS) ∧ RdF 5 (w.heap.size :: L) W t.iv (t.items.map encT) ∧ RdTs n (w.heap.size :: L) W t.items ∧ Blk W w.heap.size [.int .i64 t.kind, .int .i64 t.num, .string t.text, t.nv, t.iv]) (fun (j : Nat) (y : Int) => t.items.length - j) 0 z (by repeat first | exact trivial | exact And.intro rfl trivial | refine And.intro rfl ?_ | refine And.intro (congrArg (fun z : Int => some (Value.int .i64 z)) (by omega)) ?_) ⟨Nat.zero_le _, (by omega), (by omega), (fun hh => by rw [List.take_zero, List.map_nil, List.sum_nil]; exact hnames hh), hB, hL, hnt, hit, hct, k3⟩ ?_
   clear hnt hit hct k3 hB hL
   rintro K23 j y W24 ⟨hj, hy1, hy2, ht2, hB, hL, hnt, hit, hct, k3⟩ hK23
   refine Sq fun K25 hK25 => (Sq fun K26 hK26 => (Rg (Pu rfl (Va (dx_fld (o1 := 4) rfl ty_fld_25_4_4 rfl rfl) rfl rfl (Va (dx_load rfl ty_one_23 rfl (k3.cell (k := 4) rfl)) rfl rfl (Va (dx_lenFM rfl ty_slice_23 rfl hit) rfl rfl (Va (dx_lss rfl rfl rfl) rfl rfl ?_)))))))
   refine Pu rfl ?_
   refine WL.split 42 rfl (fun g27 => ?_) (fun g27 => ?_)
   ·
    replace g27 := dT g27
    refine Pu rfl (Pu rfl (Va (dx_leq rfl rfl rfl) rfl rfl (Pu rfl (Ni (hK26 ?_)))))
    refine WC.cond rfl (fun c28 => ?_) (fun c28 => ?_)
    ·
     replace c28 := dT c28
     refine WC.skip (hK25 (Sq fun K29 hK29 => (WC.block ?_)))
     obtain ⟨mm, hmm⟩ : ∃ k : Nat, (k : Int) = (most : Int) - y := ⟨((most : Int) - y).toNat, by omega⟩
     refine Rg (Pu rfl (Va (dx_fld (o1 := 4) rfl ty_fld_25_4_4 rfl rfl) rfl rfl (Va (dx_load rfl ty_one_23 rfl (k3.cell (k := 4) rfl)) rfl rfl (Pu rfl ?_))))
     obtain ⟨r30, e31⟩ : ∃ x, t.items[j]? = some x := ⟨_, List.getElem?_eq_getElem (by omega)⟩
     refine Ge (dx_idxF j rfl ty_slice_23 rfl rfl hit (by omega) (at_mapX e31)) rfl rfl ?_
     rintro u32 _ ⟨rfl, p33⟩
     refine Va (dx_loadPN rfl ty_agg_25_5 rfl p33 rfl) rfl rfl (Pu rfl (Pu rfl (Va (dx_sub (r := (mm : Int)) rfl rfl rfl (by rw [wrap64_id (by omega)]; omega)) rfl rfl ?_)))
     refine Ge (dx_cv rfl Tryd.func20 rfl rfl rfl (ih r30 mm W24 _ hL (hct r30 (List.mem_of_getElem? e31)) (by omega))) rfl rfl ?_
     rintro _ W35 ⟨⟨wz, rfl, hw1, hw2, hws⟩, b34⟩
     replace hnt := hnt.below b34
     replace hit := hit.below b34
     replace hct := hct.below b34
     replace k3 := k3.below b34
     replace hB := below_then hB b34
     replace hL := LL.below hL b34
     refine Va (dx_add (r := y + wz) rfl rfl rfl (wrap64_id (by omega))) rfl rfl (Pu rfl (Ni (hK29 (Rg (Pu rfl (Va (dx_add (r := (j : Int) + 1) rfl rfl rfl (wrap64_id (by omega))) rfl rfl (Pu rfl ?_)))))))
     refine Ni ?_
     exact hK23 (j + 1) (y + wz) ⟨(by omega), (by omega), (by omega), (fun hh => by have q_ := ht2 (by omega); have e_ := sum_take (f := wgT n) e31; have u_ := hws (by omega); rw [e_]; omega), hB, hL, hnt, hit, hct, k3⟩ (by omega) (by repeat first | exact trivial | exact And.intro rfl trivial | refine And.intro rfl ?_ | refine And.intro (congrArg (fun z : Int => some (Value.int .i64 z)) (by omega)) ?_)
    ·
     replace c28 := dF c28
     refine WC.exit ?_
     refine hK21 (Sq fun K36 hK36 => (Rg (Pu rfl (Pu rfl (Ni (hK36 ?_))))))
     exact WC.ret fun a_ ha_ => hQ (cv_ret1 rfl (.tmp rfl) ⟨_, rfl, by omega, by omega, fun hh => by have q_ := ht2 hh; have hje : j = t.items.length := (by omega); rw [hje, List.take_length] at q_; rw [wgT]; exact q_⟩ hB ha_)
   ·
    replace g27 := dF g27
    refine Of rfl (Of rfl (Of rfl (Pu rfl (Ni (hK26 (WC.condF rfl ?_))))))
    refine WC.exit ?_
    refine hK21 (Sq fun K37 hK37 => (Rg (Pu rfl (Pu rfl (Ni (hK37 ?_))))))
    exact WC.ret fun a_ ha_ => hQ (cv_ret1 rfl (.tmp rfl) ⟨_, rfl, by omega, by omega, fun hh => by have q_ := ht2 hh; have hje : j = t.items.length := (by omega); rw [hje, List.take_length] at q_; rw [wgT]; exact q_⟩ hB ha_)
 ·
  replace g14 := dF g14
  refine Of rfl (Of rfl (Of rfl (Pu rfl (Ni (hK13 (WC.condF rfl ?_))))))
  refine WC.exit ?_
  refine hK8 (Sq fun K38 hK38 => (Sq fun K39 hK39 => (Rg (Pu rfl (Ni (hK39 (WC.block ?_)))))))
  have hnames : z ≤ (most : Int) → ((1 + t.text.size + (t.names.map fun a => 1 + a.size).sum : Nat) : Int) ≤ z := fun hh => by have hie : i = t.names.length := (by omega); have q_ := hs hh; rw [hie, List.take_length] at q_; exact q_
  refine WC.loop2 (fun (j : Nat) (y : Int) => [(1, .int .i64 (most : Int)), (2, .pointer (some ⟨w.heap.size, 0, none⟩)), (7, .int .i64 (j : Int)), (5, .int .i64 y)]) (fun (j : Nat) (y : Int) W => j ≤ t.items.length ∧ (1 + (j : Int) ≤ y) ∧ y ≤ 3 * (most : Int) + 3 ∧ (y ≤ (most : Int) → ((1 + t.text.size + (t.names.map fun a => 1 + a.size).sum + ((t.items.take j).map (wgT n)).sum : Nat) : Int) ≤ y) ∧ Below w.heap.size w W ∧ LL (w.heap.size :: L) W ∧ RdF 1 (w.heap.size :: L) W t.nv (t.names.map eS) ∧ RdF 5 (w.heap.size :: L) W t.iv (t.items.map encT) ∧ RdTs n (w.heap.size :: L) W t.items ∧ Blk W w.heap.size [.int .i64 t.kind, .int .i64 t.num, .string t.text, t.nv, t.iv]) (fun (j : Nat) (y : Int) => t.items.length - j) 0 z (by repeat first | exact trivial | exact And.intro rfl trivial | refine And.intro rfl ?_ | refine And.intro (congrArg (fun z : Int => some (Value.int .i64 z)) (by omega)) ?_) ⟨Nat.zero_le _, (by omega), (by omega), (fun hh => by rw [List.take_zero, List.map_nil, List.sum_nil]; exact hnames hh), hB, hL, hnt, hit, hct, k3⟩ ?_
  clear hnt hit hct k3 hB hL
  rintro K40 j y W41 ⟨hj, hy1, hy2, ht2, hB, hL, hnt, hit, hct, k3⟩ hK40
  refine Sq fun K42 hK42 => (Sq fun K43 hK43 => (Rg (Pu rfl (Va (dx_fld (o1 := 4) rfl ty_fld_25_4_4 rfl rfl) rfl rfl (Va (dx_load rfl ty_one_23 rfl (k3.cell (k := 4) rfl)) rfl rfl (Va (dx_lenFM rfl ty_slice_23 rfl hit) rfl rfl (Va (dx_lss rfl rfl rfl) rfl rfl ?_)))))))
  refine Pu rfl ?_
  refine WL.split 42 rfl (fun g44 => ?_) (fun g44 => ?_)
  ·
   replace g44 := dT g44
   refine Pu rfl (Pu rfl (Va (dx_leq rfl rfl rfl) rfl rfl (Pu rfl (Ni (hK43 ?_)))))
   refine WC.cond rfl (fun c45 => ?_) (fun c45 => ?_)
   ·
    replace c45 := dT c45
    refine WC.skip (hK42 (Sq fun K46 hK46 => (WC.block ?_)))
    obtain ⟨mm, hmm⟩ : ∃ k : Nat, (k : Int) = (most : Int) - y := ⟨((most : Int) - y).toNat, by omega⟩
    refine Rg (Pu rfl (Va (dx_fld (o1 := 4) rfl ty_fld_25_4_4 rfl rfl) rfl rfl (Va (dx_load rfl ty_one_23 rfl (k3.cell (k := 4) rfl)) rfl rfl (Pu rfl ?_))))
    obtain ⟨r47, e48⟩ : ∃ x, t.items[j]? = some x := ⟨_, List.getElem?_eq_getElem (by omega)⟩
    refine Ge (dx_idxF j rfl ty_slice_23 rfl rfl hit (by omega) (at_mapX e48)) rfl rfl ?_
    rintro u49 _ ⟨rfl, p50⟩
    refine Va (dx_loadPN rfl ty_agg_25_5 rfl p50 rfl) rfl rfl (Pu rfl (Pu rfl (Va (dx_sub (r := (mm : Int)) rfl rfl rfl (by rw [wrap64_id (by omega)]; omega)) rfl rfl ?_)))
    refine Ge (dx_cv rfl Tryd.func20 rfl rfl rfl (ih r47 mm W41 _ hL (hct r47 (List.mem_of_getElem? e48)) (by omega))) rfl rfl ?_
    rintro _ W52 ⟨⟨wz, rfl, hw1, hw2, hws⟩, b51⟩
    replace hnt := hnt.below b51
    replace hit := hit.below b51
    replace hct := hct.below b51
    replace k3 := k3.below b51
    replace hB := below_then hB b51
    replace hL := LL.below hL b51
    refine Va (dx_add (r := y + wz) rfl rfl rfl (wrap64_id (by omega))) rfl rfl (Pu rfl (Ni (hK46 (Rg (Pu rfl (Va (dx_add (r := (j : Int) + 1) rfl rfl rfl (wrap64_id (by omega))) rfl rfl (Pu rfl ?_)))))))
    refine Ni ?_
    exact hK40 (j + 1) (y + wz) ⟨(by omega), (by omega), (by omega), (fun hh => by have q_ := ht2 (by omega); have e_ := sum_take (f := wgT n) e48; have u_ := hws (by omega); rw [e_]; omega), hB, hL, hnt, hit, hct, k3⟩ (by omega) (by repeat first | exact trivial | exact And.intro rfl trivial | refine And.intro rfl ?_ | refine And.intro (congrArg (fun z : Int => some (Value.int .i64 z)) (by omega)) ?_)
   ·
    replace c45 := dF c45
    refine WC.exit ?_
    refine hK38 (Sq fun K53 hK53 => (Rg (Pu rfl (Pu rfl (Ni (hK53 ?_))))))
    exact WC.ret fun a_ ha_ => hQ (cv_ret1 rfl (.tmp rfl) ⟨_, rfl, by omega, by omega, fun hh => by have q_ := ht2 hh; have hje : j = t.items.length := (by omega); rw [hje, List.take_length] at q_; rw [wgT]; exact q_⟩ hB ha_)
  ·
   replace g44 := dF g44
   refine Of rfl (Of rfl (Of rfl (Pu rfl (Ni (hK43 (WC.condF rfl ?_))))))
   refine WC.exit ?_
   refine hK38 (Sq fun K54 hK54 => (Rg (Pu rfl (Pu rfl (Ni (hK54 ?_))))))
   exact WC.ret fun a_ ha_ => hQ (cv_ret1 rfl (.tmp rfl) ⟨_, rfl, by omega, by omega, fun hh => by have q_ := ht2 hh; have hje : j = t.items.length := (by omega); rw [hje, List.take_length] at q_; rw [wgT]; exact q_⟩ hB ha_)

theorem weighX_all : ∀ n, WeighX n
 | 0 => fun t _ _ _ _ h => h.elim
 | n + 1 => fun t most w L hL ht hr => weighX_step n (weighX_all n) t most w L hL ht hr
theorem txt_one {s : ByteArray} {i : Nat} (h : i < s.size) : txtL s (i + 1) = txtL s i ++ escJ (atS s i) := by
 unfold txtL
 rw [List.take_add_one, sb_at h, List.flatMap_append]
 simp
theorem quo_txt {s : ByteArray} {i : Nat} (h : ¬ i < s.size) : quoJ s = txtL s i ++ [34] := by
 unfold txtL quoJ
 rw [List.take_of_length_le (by rw [sb_length]; omega)]; rfl
section
variable {P : Program} {ops : Array Oper} {o : Oper} {N : Nat} {f : Fl} {w : World}
theorem dx_lit6 {t bytes : Nat} {K : IntKind} {n0 n1 n2 n3 n4 n5 : Int} {x y : Operand} (ho : o.op = .buildSlice t 6 #[(0, .const (.int K n0)), (1, .const (.int K n1)), (2, .const (.int K n2)), (3, .const (.int K n3)), (4, x), (5, y)]) (ht : apB P t 1 bytes = true) (hx : ev f x = some (.int K n4)) (hy : ev f y = some (.int K n5)) (hw : wantF ops o f = some true := by rfl) : DR P ops o N f w (NewO 1 w ([n0, n1, n2, n3, n4, n5].map fun n => [.int K n])) := by
 obtain ⟨e, i, Z, hu, hi, hZ, hs, rfl, hzs⟩ := of_apB ht
 have hc : ∀ v : Value, ev f (Operand.const v) = some v := fun v => rfl
 refine dx_lit (ps := [(0, .int K n0), (1, .int K n1), (2, .int K n2), (3, .int K n3), (4, .int K n4), (5, .int K n5)]) (rs := [n0, n1, n2, n3, n4, n5].map fun n => [.int K n]) ho hu hi hZ hs (by decide) (by simp [evl, hc, hx, hy]) (by omega) ?_ (by simp) rfl (by unfold maxLen; omega) hw
 rw [if_neg (by decide)]
 have hl : ∀ c : Array Value, c.size = 6 → Instr.fill (fun k => some (k * 1, 1)) c [(0, .int K n0), (1, .int K n1), (2, .int K n2), (3, .int K n3), (4, .int K n4), (5, .int K n5)] = some #[.int K n0, .int K n1, .int K n2, .int K n3, .int K n4, .int K n5] := fun c hc => by
  obtain ⟨l⟩ := c
  match l, hc with
  | [a, b, c, d, e, f], _ => simp [Instr.fill, Value.cells]
 exact hl _ (by simp)
end
theorem hex_lo {c : Int} (h : c < 2) : 48 + c = hexL c := by unfold hexL; rw [if_pos (by omega)]
theorem wrap_u8_id {n : Int} (h0 : 0 ≤ n) (h : n ≤ 255) : IntKind.u8.wrap n = n := wrapu8_id ⟨h0, by omega⟩
set_option maxHeartbeats 1000000 in
theorem rquote_v (s : ByteArray) (w : World) (L : List Nat) (hL : LL L w)   (hs : s.size ≤ 1000000) : CV Tryd.prog 30 [.string s] w fun v W => v = .string (strOfNums (quoJ s)) := by
 refine cv_enter (N := 77) (f := [(0, .string s)]) Tryd.func30 rfl rfl rfl rfl fun Q hQ hE => ?_
 have hB := Below.refl w.heap.size w
 refine Sq fun K1 hK1 => (Rg (Pu rfl (Ni (hK1 (Sq fun K2 hK2 => (Rg ?_))))))
 refine Ge (dx_lit1 (r := e8 34) rfl ty_ap_42 (by decide) (by decide) rfl rfl rfl) rfl rfl ?_
 have hle := hB.size
 rintro x3 W4 ⟨k6, b5, z7⟩
 replace hB := below_then hB b5
 replace hL := LL.below hL b5
 have h5 : NewW 1 w.heap.size ((txtL s 0).map e8) x3 W4 := .inr ⟨_, hle, k6⟩
 refine Pu rfl (Ni (hK2 (Sq fun K8 hK8 => (Sq fun K9 hK9 => (Rg (Pu rfl (Ni ?_)))))))
 refine hK9 (WC.block ?_)
 refine WC.loop2 (fun (i : Nat) (ov : Value) => [(0, .string s), (4, .int .i64 (i : Int)), (3, ov)]) (fun (i : Nat) (ov : Value) W => i ≤ s.size ∧ Below w.heap.size w W ∧ LL (L) W ∧ NewW 1 w.heap.size ((txtL s i).map e8) ov W) (fun (i : Nat) (ov : Value) => s.size - i) 0 x3 (by repeat first | exact trivial | exact And.intro rfl trivial | refine And.intro rfl ?_ | refine And.intro (congrArg (fun z : Int => some (Value.int .i64 z)) (by omega)) ?_) ⟨Nat.zero_le _, hB, hL, h5⟩ ?_
 clear h5 hB hL
 rintro K10 i ov W11 ⟨hi, hB, hL, h5⟩ hK10
 refine Sq fun K12 hK12 => (Sq fun K13 hK13 => (Rg (Pu rfl (Pu rfl (Va (dx_lenT rfl Tryd.underlying9 rfl) rfl rfl (Va (dx_lss rfl rfl rfl) rfl rfl (Ni ?_)))))))
 refine hK13 ?_
 refine WC.cond rfl (fun c14 => ?_) (fun c14 => ?_)
 ·
  replace c14 := dT c14
  refine WC.skip (hK12 (Sq fun K15 hK15 => (WC.block (Sq fun K16 hK16 => (Rg (Pu rfl (Pu rfl ?_)))))))
  refine Va (dx_at i rfl Tryd.underlying9 rfl rfl (by omega) (by omega)) rfl rfl (Pu rfl (Ni (hK16 (WC.block (Sq fun K17 hK17 => ?_)))))
  have hc2 := atS_lo s i
  refine Rg (Pu rfl (Va (dx_eql rfl rfl rfl) rfl rfl (Pu rfl ?_)))
  refine WL.split 23 rfl (fun g18 => ?_) (fun g18 => ?_)
  ·
   replace g18 := dT g18
   refine Of rfl (Of rfl (Pu rfl (Pu rfl (Ni (hK17 (WC.condT rfl (Rg ?_)))))))
   refine Pu rfl (Pu rfl ?_)
   refine Ge (dx_lit2 (V := .int .u8 92) (U := .int .u8 (atS s i)) rfl ty_ap_42 rfl rfl rfl rfl) rfl rfl ?_
   rintro x19 W20 ⟨k22, b21, z23⟩
   replace h5 := h5.below b21
   replace hB := below_then hB b21
   replace hL := LL.below hL b21
   have hx : RdF 1 [] W20 x19 ([92, atS s i].map e8) := k22.rd (L := []) (by simp)
   have htl_ := txt_len (s := s) (a := i)
   refine Ge (dx_apW (base := w.heap.size) (news := [92, atS s i].map e8) rfl ty_ap_42 rfl rfl h5 hx (oc_e8 [92, atS s i]) (by simp [maxLen]; omega) (by simp; omega) hB.size) rfl rfl ?_
   rintro x24 W25 ⟨h6, b26⟩
   replace h5 : NewW 1 w.heap.size ((txtL s i ++ [92, atS s i]).map e8) x24 W25 := by rw [List.map_append]; exact h6
   replace hB := hB.trans b26
   replace hL := hL.base b26
   refine Pu rfl (Ni (hK15 (Rg (Pu rfl (Va (dx_add (r := (i : Int) + 1) rfl rfl rfl (wrap64_id (by omega))) rfl rfl (Pu rfl (Ni ?_)))))))
   have h9 : NewW 1 w.heap.size ((txtL s (i + 1)).map e8) x24 W25 := (show txtL s i ++ [92, atS s i] = txtL s (i + 1) from (by rw [txt_one (by omega)]; congr 1; first | exact (esc_q (by omega)).symm | exact (esc_8 (by first | assumption | omega)).symm | exact (esc_9 (by first | assumption | omega)).symm | exact (esc_10 (by first | assumption | omega)).symm | exact (esc_12 (by first | assumption | omega)).symm | exact (esc_13 (by first | assumption | omega)).symm | exact (esc_u (by first | assumption | omega) (by first | assumption | omega) (by first | assumption | omega) (by first | assumption | omega) (by first | assumption | omega) (by first | assumption | omega) (by first | assumption | omega) (by first | assumption | omega)).symm | exact (esc_p (by omega) (by first | assumption | omega) (by first | assumption | omega)).symm)) ▸ h5
   exact hK10 (i + 1) x24 ⟨(by omega), hB, hL, h9⟩ (by omega) (by repeat first | exact trivial | exact And.intro rfl trivial | refine And.intro rfl ?_ | refine And.intro (congrArg (fun z : Int => some (Value.int .i64 z)) (by omega)) ?_)
  ·
   replace g18 := dF g18
   refine Pu rfl (Va (dx_eql rfl rfl rfl) rfl rfl (Pu rfl (Pu rfl (Ni (hK17 ?_)))))
   refine WC.cond rfl (fun c27 => ?_) (fun c27 => ?_)
   ·
    replace c27 := dT c27
    refine Rg (Pu rfl (Pu rfl ?_))
    refine Ge (dx_lit2 (V := .int .u8 92) (U := .int .u8 (atS s i)) rfl ty_ap_42 rfl rfl rfl rfl) rfl rfl ?_
    rintro x28 W29 ⟨k31, b30, z32⟩
    replace h5 := h5.below b30
    replace hB := below_then hB b30
    replace hL := LL.below hL b30
    have hx : RdF 1 [] W29 x28 ([92, atS s i].map e8) := k31.rd (L := []) (by simp)
    have htl_ := txt_len (s := s) (a := i)
    refine Ge (dx_apW (base := w.heap.size) (news := [92, atS s i].map e8) rfl ty_ap_42 rfl rfl h5 hx (oc_e8 [92, atS s i]) (by simp [maxLen]; omega) (by simp; omega) hB.size) rfl rfl ?_
    rintro x33 W34 ⟨h6, b35⟩
    replace h5 : NewW 1 w.heap.size ((txtL s i ++ [92, atS s i]).map e8) x33 W34 := by rw [List.map_append]; exact h6
    replace hB := hB.trans b35
    replace hL := hL.base b35
    refine Pu rfl (Ni (hK15 (Rg (Pu rfl (Va (dx_add (r := (i : Int) + 1) rfl rfl rfl (wrap64_id (by omega))) rfl rfl (Pu rfl (Ni ?_)))))))
    have h9 : NewW 1 w.heap.size ((txtL s (i + 1)).map e8) x33 W34 := (show txtL s i ++ [92, atS s i] = txtL s (i + 1) from (by rw [txt_one (by omega)]; congr 1; first | exact (esc_q (by omega)).symm | exact (esc_8 (by first | assumption | omega)).symm | exact (esc_9 (by first | assumption | omega)).symm | exact (esc_10 (by first | assumption | omega)).symm | exact (esc_12 (by first | assumption | omega)).symm | exact (esc_13 (by first | assumption | omega)).symm | exact (esc_u (by first | assumption | omega) (by first | assumption | omega) (by first | assumption | omega) (by first | assumption | omega) (by first | assumption | omega) (by first | assumption | omega) (by first | assumption | omega) (by first | assumption | omega)).symm | exact (esc_p (by omega) (by first | assumption | omega) (by first | assumption | omega)).symm)) ▸ h5
    exact hK10 (i + 1) x33 ⟨(by omega), hB, hL, h9⟩ (by omega) (by repeat first | exact trivial | exact And.intro rfl trivial | refine And.intro rfl ?_ | refine And.intro (congrArg (fun z : Int => some (Value.int .i64 z)) (by omega)) ?_)
   ·
    replace c27 := dF c27
    refine Sq fun K36 hK36 => (Rg (Pu rfl (Va (dx_eql rfl rfl rfl) rfl rfl (Pu rfl (Ni (hK36 ?_))))))
    refine WC.cond rfl (fun c37 => ?_) (fun c37 => ?_)
    ·
     replace c37 := dT c37
     refine Rg (Pu rfl ?_)
     refine Ge (dx_lit2 (V := .int .u8 92) (U := .int .u8 98) rfl ty_ap_42 rfl rfl rfl rfl) rfl rfl ?_
     rintro x38 W39 ⟨k41, b40, z42⟩
     replace h5 := h5.below b40
     replace hB := below_then hB b40
     replace hL := LL.below hL b40
     have hx : RdF 1 [] W39 x38 ([92, 98].map e8) := k41.rd (L := []) (by simp)
     have htl_ := txt_len (s := s) (a := i)
     refine Ge (dx_apW (base := w.heap.size) (news := [92, 98].map e8) rfl ty_ap_42 rfl rfl h5 hx (oc_e8 [92, 98]) (by simp [maxLen]; omega) (by simp; omega) hB.size) rfl rfl ?_
     rintro x43 W44 ⟨h6, b45⟩
     replace h5 : NewW 1 w.heap.size ((txtL s i ++ [92, 98]).map e8) x43 W44 := by rw [List.map_append]; exact h6
     replace hB := hB.trans b45
     replace hL := hL.base b45
     refine Pu rfl (Ni (hK15 (Rg (Pu rfl (Va (dx_add (r := (i : Int) + 1) rfl rfl rfl (wrap64_id (by omega))) rfl rfl (Pu rfl (Ni ?_)))))))
     have h9 : NewW 1 w.heap.size ((txtL s (i + 1)).map e8) x43 W44 := (show txtL s i ++ [92, 98] = txtL s (i + 1) from (by rw [txt_one (by omega)]; congr 1; first | exact (esc_q (by omega)).symm | exact (esc_8 (by first | assumption | omega)).symm | exact (esc_9 (by first | assumption | omega)).symm | exact (esc_10 (by first | assumption | omega)).symm | exact (esc_12 (by first | assumption | omega)).symm | exact (esc_13 (by first | assumption | omega)).symm | exact (esc_u (by first | assumption | omega) (by first | assumption | omega) (by first | assumption | omega) (by first | assumption | omega) (by first | assumption | omega) (by first | assumption | omega) (by first | assumption | omega) (by first | assumption | omega)).symm | exact (esc_p (by omega) (by first | assumption | omega) (by first | assumption | omega)).symm)) ▸ h5
     exact hK10 (i + 1) x43 ⟨(by omega), hB, hL, h9⟩ (by omega) (by repeat first | exact trivial | exact And.intro rfl trivial | refine And.intro rfl ?_ | refine And.intro (congrArg (fun z : Int => some (Value.int .i64 z)) (by omega)) ?_)
    ·
     replace c37 := dF c37
     refine Sq fun K46 hK46 => (Rg (Pu rfl (Va (dx_eql rfl rfl rfl) rfl rfl (Pu rfl (Ni (hK46 ?_))))))
     refine WC.cond rfl (fun c47 => ?_) (fun c47 => ?_)
     ·
      replace c47 := dT c47
      refine Rg (Pu rfl ?_)
      refine Ge (dx_lit2 (V := .int .u8 92) (U := .int .u8 116) rfl ty_ap_42 rfl rfl rfl rfl) rfl rfl ?_
      rintro x48 W49 ⟨k51, b50, z52⟩
      replace h5 := h5.below b50
      replace hB := below_then hB b50
      replace hL := LL.below hL b50
      have hx : RdF 1 [] W49 x48 ([92, 116].map e8) := k51.rd (L := []) (by simp)
      have htl_ := txt_len (s := s) (a := i)
      refine Ge (dx_apW (base := w.heap.size) (news := [92, 116].map e8) rfl ty_ap_42 rfl rfl h5 hx (oc_e8 [92, 116]) (by simp [maxLen]; omega) (by simp; omega) hB.size) rfl rfl ?_
      rintro x53 W54 ⟨h6, b55⟩
      replace h5 : NewW 1 w.heap.size ((txtL s i ++ [92, 116]).map e8) x53 W54 := by rw [List.map_append]; exact h6
      replace hB := hB.trans b55
      replace hL := hL.base b55
      refine Pu rfl (Ni (hK15 (Rg (Pu rfl (Va (dx_add (r := (i : Int) + 1) rfl rfl rfl (wrap64_id (by omega))) rfl rfl (Pu rfl (Ni ?_)))))))
      have h9 : NewW 1 w.heap.size ((txtL s (i + 1)).map e8) x53 W54 := (show txtL s i ++ [92, 116] = txtL s (i + 1) from (by rw [txt_one (by omega)]; congr 1; first | exact (esc_q (by omega)).symm | exact (esc_8 (by first | assumption | omega)).symm | exact (esc_9 (by first | assumption | omega)).symm | exact (esc_10 (by first | assumption | omega)).symm | exact (esc_12 (by first | assumption | omega)).symm | exact (esc_13 (by first | assumption | omega)).symm | exact (esc_u (by first | assumption | omega) (by first | assumption | omega) (by first | assumption | omega) (by first | assumption | omega) (by first | assumption | omega) (by first | assumption | omega) (by first | assumption | omega) (by first | assumption | omega)).symm | exact (esc_p (by omega) (by first | assumption | omega) (by first | assumption | omega)).symm)) ▸ h5
      exact hK10 (i + 1) x53 ⟨(by omega), hB, hL, h9⟩ (by omega) (by repeat first | exact trivial | exact And.intro rfl trivial | refine And.intro rfl ?_ | refine And.intro (congrArg (fun z : Int => some (Value.int .i64 z)) (by omega)) ?_)
     ·
      replace c47 := dF c47
      refine Sq fun K56 hK56 => (Rg (Pu rfl (Va (dx_eql rfl rfl rfl) rfl rfl (Pu rfl (Ni (hK56 ?_))))))
      refine WC.cond rfl (fun c57 => ?_) (fun c57 => ?_)
      ·
       replace c57 := dT c57
       refine Rg (Pu rfl ?_)
       refine Ge (dx_lit2 (V := .int .u8 92) (U := .int .u8 110) rfl ty_ap_42 rfl rfl rfl rfl) rfl rfl ?_
       rintro x58 W59 ⟨k61, b60, z62⟩
       replace h5 := h5.below b60
       replace hB := below_then hB b60
       replace hL := LL.below hL b60
       have hx : RdF 1 [] W59 x58 ([92, 110].map e8) := k61.rd (L := []) (by simp)
       have htl_ := txt_len (s := s) (a := i)
       refine Ge (dx_apW (base := w.heap.size) (news := [92, 110].map e8) rfl ty_ap_42 rfl rfl h5 hx (oc_e8 [92, 110]) (by simp [maxLen]; omega) (by simp; omega) hB.size) rfl rfl ?_
       rintro x63 W64 ⟨h6, b65⟩
       replace h5 : NewW 1 w.heap.size ((txtL s i ++ [92, 110]).map e8) x63 W64 := by rw [List.map_append]; exact h6
       replace hB := hB.trans b65
       replace hL := hL.base b65
       refine Pu rfl (Ni (hK15 (Rg (Pu rfl (Va (dx_add (r := (i : Int) + 1) rfl rfl rfl (wrap64_id (by omega))) rfl rfl (Pu rfl (Ni ?_)))))))
       have h9 : NewW 1 w.heap.size ((txtL s (i + 1)).map e8) x63 W64 := (show txtL s i ++ [92, 110] = txtL s (i + 1) from (by rw [txt_one (by omega)]; congr 1; first | exact (esc_q (by omega)).symm | exact (esc_8 (by first | assumption | omega)).symm | exact (esc_9 (by first | assumption | omega)).symm | exact (esc_10 (by first | assumption | omega)).symm | exact (esc_12 (by first | assumption | omega)).symm | exact (esc_13 (by first | assumption | omega)).symm | exact (esc_u (by first | assumption | omega) (by first | assumption | omega) (by first | assumption | omega) (by first | assumption | omega) (by first | assumption | omega) (by first | assumption | omega) (by first | assumption | omega) (by first | assumption | omega)).symm | exact (esc_p (by omega) (by first | assumption | omega) (by first | assumption | omega)).symm)) ▸ h5
       exact hK10 (i + 1) x63 ⟨(by omega), hB, hL, h9⟩ (by omega) (by repeat first | exact trivial | exact And.intro rfl trivial | refine And.intro rfl ?_ | refine And.intro (congrArg (fun z : Int => some (Value.int .i64 z)) (by omega)) ?_)
      ·
       replace c57 := dF c57
       refine Sq fun K66 hK66 => (Rg (Pu rfl (Va (dx_eql rfl rfl rfl) rfl rfl (Pu rfl (Ni (hK66 ?_))))))
       refine WC.cond rfl (fun c67 => ?_) (fun c67 => ?_)
       ·
        replace c67 := dT c67
        refine Rg (Pu rfl ?_)
        refine Ge (dx_lit2 (V := .int .u8 92) (U := .int .u8 102) rfl ty_ap_42 rfl rfl rfl rfl) rfl rfl ?_
        rintro x68 W69 ⟨k71, b70, z72⟩
        replace h5 := h5.below b70
        replace hB := below_then hB b70
        replace hL := LL.below hL b70
        have hx : RdF 1 [] W69 x68 ([92, 102].map e8) := k71.rd (L := []) (by simp)
        have htl_ := txt_len (s := s) (a := i)
        refine Ge (dx_apW (base := w.heap.size) (news := [92, 102].map e8) rfl ty_ap_42 rfl rfl h5 hx (oc_e8 [92, 102]) (by simp [maxLen]; omega) (by simp; omega) hB.size) rfl rfl ?_
        rintro x73 W74 ⟨h6, b75⟩
        replace h5 : NewW 1 w.heap.size ((txtL s i ++ [92, 102]).map e8) x73 W74 := by rw [List.map_append]; exact h6
        replace hB := hB.trans b75
        replace hL := hL.base b75
        refine Pu rfl (Ni (hK15 (Rg (Pu rfl (Va (dx_add (r := (i : Int) + 1) rfl rfl rfl (wrap64_id (by omega))) rfl rfl (Pu rfl (Ni ?_)))))))
        have h9 : NewW 1 w.heap.size ((txtL s (i + 1)).map e8) x73 W74 := (show txtL s i ++ [92, 102] = txtL s (i + 1) from (by rw [txt_one (by omega)]; congr 1; first | exact (esc_q (by omega)).symm | exact (esc_8 (by first | assumption | omega)).symm | exact (esc_9 (by first | assumption | omega)).symm | exact (esc_10 (by first | assumption | omega)).symm | exact (esc_12 (by first | assumption | omega)).symm | exact (esc_13 (by first | assumption | omega)).symm | exact (esc_u (by first | assumption | omega) (by first | assumption | omega) (by first | assumption | omega) (by first | assumption | omega) (by first | assumption | omega) (by first | assumption | omega) (by first | assumption | omega) (by first | assumption | omega)).symm | exact (esc_p (by omega) (by first | assumption | omega) (by first | assumption | omega)).symm)) ▸ h5
        exact hK10 (i + 1) x73 ⟨(by omega), hB, hL, h9⟩ (by omega) (by repeat first | exact trivial | exact And.intro rfl trivial | refine And.intro rfl ?_ | refine And.intro (congrArg (fun z : Int => some (Value.int .i64 z)) (by omega)) ?_)
       ·
        replace c67 := dF c67
        refine Sq fun K76 hK76 => (Rg (Pu rfl (Va (dx_eql rfl rfl rfl) rfl rfl (Pu rfl (Ni (hK76 ?_))))))
        refine WC.cond rfl (fun c77 => ?_) (fun c77 => ?_)
        ·
         replace c77 := dT c77
         refine Rg (Pu rfl ?_)
         refine Ge (dx_lit2 (V := .int .u8 92) (U := .int .u8 114) rfl ty_ap_42 rfl rfl rfl rfl) rfl rfl ?_
         rintro x78 W79 ⟨k81, b80, z82⟩
         replace h5 := h5.below b80
         replace hB := below_then hB b80
         replace hL := LL.below hL b80
         have hx : RdF 1 [] W79 x78 ([92, 114].map e8) := k81.rd (L := []) (by simp)
         have htl_ := txt_len (s := s) (a := i)
         refine Ge (dx_apW (base := w.heap.size) (news := [92, 114].map e8) rfl ty_ap_42 rfl rfl h5 hx (oc_e8 [92, 114]) (by simp [maxLen]; omega) (by simp; omega) hB.size) rfl rfl ?_
         rintro x83 W84 ⟨h6, b85⟩
         replace h5 : NewW 1 w.heap.size ((txtL s i ++ [92, 114]).map e8) x83 W84 := by rw [List.map_append]; exact h6
         replace hB := hB.trans b85
         replace hL := hL.base b85
         refine Pu rfl (Ni (hK15 (Rg (Pu rfl (Va (dx_add (r := (i : Int) + 1) rfl rfl rfl (wrap64_id (by omega))) rfl rfl (Pu rfl (Ni ?_)))))))
         have h9 : NewW 1 w.heap.size ((txtL s (i + 1)).map e8) x83 W84 := (show txtL s i ++ [92, 114] = txtL s (i + 1) from (by rw [txt_one (by omega)]; congr 1; first | exact (esc_q (by omega)).symm | exact (esc_8 (by first | assumption | omega)).symm | exact (esc_9 (by first | assumption | omega)).symm | exact (esc_10 (by first | assumption | omega)).symm | exact (esc_12 (by first | assumption | omega)).symm | exact (esc_13 (by first | assumption | omega)).symm | exact (esc_u (by first | assumption | omega) (by first | assumption | omega) (by first | assumption | omega) (by first | assumption | omega) (by first | assumption | omega) (by first | assumption | omega) (by first | assumption | omega) (by first | assumption | omega)).symm | exact (esc_p (by omega) (by first | assumption | omega) (by first | assumption | omega)).symm)) ▸ h5
         exact hK10 (i + 1) x83 ⟨(by omega), hB, hL, h9⟩ (by omega) (by repeat first | exact trivial | exact And.intro rfl trivial | refine And.intro rfl ?_ | refine And.intro (congrArg (fun z : Int => some (Value.int .i64 z)) (by omega)) ?_)
        ·
         replace c77 := dF c77
         refine Sq fun K86 hK86 => (Rg (Pu rfl (Va (dx_lss rfl rfl rfl) rfl rfl (Pu rfl (Ni (hK86 ?_))))))
         refine WC.cond rfl (fun c87 => ?_) (fun c87 => ?_)
         ·
          replace c87 := dT c87
          refine Rg (Pu rfl (Pu rfl (Va (dx_quo (r := (atS s i) / 16) rfl rfl rfl (by omega) (by rw [Int.tdiv_eq_ediv_of_nonneg (by omega)]; exact (wrapu8_id (by omega)))) rfl rfl (Va (dv_e (dx_add (r := 48 + atS s i / 16) rfl rfl rfl (wrap_u8_id (by omega) (by omega))) (congrArg (Value.int .u8) (hex_lo (by omega)))) rfl rfl (Pu rfl (Va (dx_rem (r := (atS s i) % 16) rfl rfl rfl (by omega) (Int.tmod_eq_emod_of_nonneg (by omega))) rfl rfl (Va (dv_e (dx_at (atS s i % 16).toNat rfl Tryd.underlying9 rfl rfl (by omega) (by show (atS s i % 16).toNat < 16; omega)) (congrArg (Value.int .u8) (hex_at (c := atS s i % 16) (by omega) (by omega)))) rfl rfl ?_)))))))
          refine Ge (dx_lit6 rfl ty_ap_42 rfl rfl) rfl rfl ?_
          rintro x88 W89 ⟨k91, b90, z92⟩
          replace h5 := h5.below b90
          replace hB := below_then hB b90
          replace hL := LL.below hL b90
          have hx : RdF 1 [] W89 x88 ([92, 117, 48, 48, hexL (atS s i / 16), hexL (atS s i % 16)].map e8) := k91.rd (L := []) (by simp)
          have htl_ := txt_len (s := s) (a := i)
          refine Ge (dx_apW (base := w.heap.size) (news := [92, 117, 48, 48, hexL (atS s i / 16), hexL (atS s i % 16)].map e8) rfl ty_ap_42 rfl rfl h5 hx (oc_e8 [92, 117, 48, 48, hexL (atS s i / 16), hexL (atS s i % 16)]) (by simp [maxLen]; omega) (by simp; omega) hB.size) rfl rfl ?_
          rintro x93 W94 ⟨h6, b95⟩
          replace h5 : NewW 1 w.heap.size ((txtL s i ++ [92, 117, 48, 48, hexL (atS s i / 16), hexL (atS s i % 16)]).map e8) x93 W94 := by rw [List.map_append]; exact h6
          replace hB := hB.trans b95
          replace hL := hL.base b95
          refine Pu rfl (Ni (hK15 (Rg (Pu rfl (Va (dx_add (r := (i : Int) + 1) rfl rfl rfl (wrap64_id (by omega))) rfl rfl (Pu rfl (Ni ?_)))))))
          have h9 : NewW 1 w.heap.size ((txtL s (i + 1)).map e8) x93 W94 := (show txtL s i ++ [92, 117, 48, 48, hexL (atS s i / 16), hexL (atS s i % 16)] = txtL s (i + 1) from (by rw [txt_one (by omega)]; congr 1; first | exact (esc_q (by omega)).symm | exact (esc_8 (by first | assumption | omega)).symm | exact (esc_9 (by first | assumption | omega)).symm | exact (esc_10 (by first | assumption | omega)).symm | exact (esc_12 (by first | assumption | omega)).symm | exact (esc_13 (by first | assumption | omega)).symm | exact (esc_u (by first | assumption | omega) (by first | assumption | omega) (by first | assumption | omega) (by first | assumption | omega) (by first | assumption | omega) (by first | assumption | omega) (by first | assumption | omega) (by first | assumption | omega)).symm | exact (esc_p (by omega) (by first | assumption | omega) (by first | assumption | omega)).symm)) ▸ h5
          exact hK10 (i + 1) x93 ⟨(by omega), hB, hL, h9⟩ (by omega) (by repeat first | exact trivial | exact And.intro rfl trivial | refine And.intro rfl ?_ | refine And.intro (congrArg (fun z : Int => some (Value.int .i64 z)) (by omega)) ?_)
         ·
          replace c87 := dF c87
          refine Rg (Pu rfl (Pu rfl ?_))
          refine Ge (dx_lit1 (r := e8 (atS s i)) rfl ty_ap_42 (by decide) (by decide) rfl rfl rfl) rfl rfl ?_
          rintro x96 W97 ⟨k99, b98, z100⟩
          replace h5 := h5.below b98
          replace hB := below_then hB b98
          replace hL := LL.below hL b98
          have hx : RdF 1 [] W97 x96 ([atS s i].map e8) := k99.rd (L := []) (by simp)
          have htl_ := txt_len (s := s) (a := i)
          refine Ge (dx_apW (base := w.heap.size) (news := [atS s i].map e8) rfl ty_ap_42 rfl rfl h5 hx (oc_e8 [atS s i]) (by simp [maxLen]; omega) (by simp; omega) hB.size) rfl rfl ?_
          rintro x101 W102 ⟨h6, b103⟩
          replace h5 : NewW 1 w.heap.size ((txtL s i ++ [atS s i]).map e8) x101 W102 := by rw [List.map_append]; exact h6
          replace hB := hB.trans b103
          replace hL := hL.base b103
          refine Pu rfl (Ni (hK15 (Rg (Pu rfl (Va (dx_add (r := (i : Int) + 1) rfl rfl rfl (wrap64_id (by omega))) rfl rfl (Pu rfl (Ni ?_)))))))
          have h9 : NewW 1 w.heap.size ((txtL s (i + 1)).map e8) x101 W102 := (show txtL s i ++ [atS s i] = txtL s (i + 1) from (by rw [txt_one (by omega)]; congr 1; first | exact (esc_q (by omega)).symm | exact (esc_8 (by first | assumption | omega)).symm | exact (esc_9 (by first | assumption | omega)).symm | exact (esc_10 (by first | assumption | omega)).symm | exact (esc_12 (by first | assumption | omega)).symm | exact (esc_13 (by first | assumption | omega)).symm | exact (esc_u (by first | assumption | omega) (by first | assumption | omega) (by first | assumption | omega) (by first | assumption | omega) (by first | assumption | omega) (by first | assumption | omega) (by first | assumption | omega) (by first | assumption | omega)).symm | exact (esc_p (by omega) (by first | assumption | omega) (by first | assumption | omega)).symm)) ▸ h5
          exact hK10 (i + 1) x101 ⟨(by omega), hB, hL, h9⟩ (by omega) (by repeat first | exact trivial | exact And.intro rfl trivial | refine And.intro rfl ?_ | refine And.intro (congrArg (fun z : Int => some (Value.int .i64 z)) (by omega)) ?_)
 ·
  replace c14 := dF c14
  refine WC.exit ?_
  refine hK8 (Sq fun K104 hK104 => (Rg (Pu rfl ?_)))
  refine Ge (dx_lit1 (r := e8 34) rfl ty_ap_42 (by decide) (by decide) rfl rfl rfl) rfl rfl ?_
  rintro x105 W106 ⟨k108, b107, z109⟩
  replace h5 := h5.below b107
  replace hB := below_then hB b107
  replace hL := LL.below hL b107
  have hx : RdF 1 [] W106 x105 ([34].map e8) := k108.rd (L := []) (by simp)
  have htl_ := txt_len (s := s) (a := i)
  refine Ge (dx_apW (base := w.heap.size) (news := [34].map e8) rfl ty_ap_42 rfl rfl h5 hx (oc_e8 [34]) (by simp [maxLen]; omega) (by simp; omega) hB.size) rfl rfl ?_
  rintro x110 W111 ⟨h6, b112⟩
  replace h5 : NewW 1 w.heap.size ((txtL s i ++ [34]).map e8) x110 W111 := by rw [List.map_append]; exact h6
  replace hB := hB.trans b112
  replace hL := hL.base b112
  refine Va (dx_bs (l := (txtL s i ++ [34])) rfl Tryd.underlying42 Tryd.underlying9 Tryd.underlying5 rfl (h5.rd (L := []) (by simp))) rfl rfl (Pu rfl (Ni (hK104 ?_)))
  exact WC.ret fun a_ ha_ => hQ (cv_ret1 rfl (.tmp rfl) (by rw [quo_txt (s := s) (i := i) (by omega)]) hB ha_)

theorem strOf_nil {r : List Int} : strOfNums r = ⟨#[]⟩ ↔ r = [] := by
  constructor
  · intro h
    have := congrArg ByteArray.size h
    rw [strOfNums_size] at this
    exact List.eq_nil_of_length_eq_zero this
  · rintro rfl; rfl
theorem decL_lt {u : Nat} (h : u < 10) : decL u = [48 + (u : Int)] := by unfold decL; rw [Lib.decDigits, dif_pos h, List.map_cons, dig_u h]; rfl
theorem decL_ge {u : Nat} (h : ¬ u < 10) : decL u = decL (u / 10) ++ [48 + ((u % 10 : Nat) : Int)] := by
 unfold decL
 rw [Lib.decDigits, dif_neg h, List.map_append, List.map_cons, dig_u (Nat.mod_lt _ (by decide))]; rfl
def DigR (u k : Nat) (r : List Int) : Prop := (r = [] ∧ k = u) ∨ (r ≠ [] ∧ decL u = (if k = 0 then [] else decL k) ++ r)
theorem dig_step {u k : Nat} {r : List Int} (h : DigR u k r) (hk : 0 < k ∨ r = []) : DigR u (k / 10) ((48 + (k : Int) % 10) :: r) := by
  rw [show (k : Int) % 10 = ((k % 10 : Nat) : Int) by omega]
  refine .inr ⟨(by intro h; cases h), ?_⟩
  have e : decL k = (if k / 10 = 0 then [] else decL (k / 10)) ++ [48 + ((k % 10 : Nat) : Int)] := by
    by_cases h9 : k < 10
    · rw [decL_lt h9, if_pos (by omega), Nat.mod_eq_of_lt h9]; rfl
    · rw [decL_ge h9, if_neg (by omega)]
  rcases h with ⟨h1, h2⟩ | ⟨h1, h2⟩
  · subst h1 h2; exact e
  · rcases hk with hk | hk
    · rw [h2, if_neg (by omega), e, List.append_assoc]; rfl
    · exact absurd hk h1
theorem dig_end {u k : Nat} {r : List Int} (h : DigR u k r) (hk : k = 0) (hr : ¬ strOfNums r = ⟨#[]⟩) : decL u = r := by
 rcases h with ⟨h, _⟩ | ⟨_, h⟩
 · exact absurd (strOf_nil.2 h) hr
 · rw [h, if_pos hk]; rfl
theorem dig_txt {c : Int} (h0 : 0 ≤ c) (h : c < 10) : (⟨#[48, 49, 50, 51, 52, 53, 54, 55, 56, 57]⟩ : ByteArray).extract c.toNat (c.toNat + 1) = strOfNums [48 + c] := by
 rw [ext_one (by show c.toNat < 10; omega)]
 obtain ⟨n, rfl⟩ : ∃ n : Nat, c = (n : Int) := ⟨c.toNat, by omega⟩
 have hn : n < 10 := by omega
 rw [Int.toNat_natCast]
 match n, hn with
 | 0, _ => rfl | 1, _ => rfl | 2, _ => rfl | 3, _ => rfl | 4, _ => rfl | 5, _ => rfl | 6, _ => rfl | 7, _ => rfl | 8, _ => rfl | 9, _ => rfl
set_option maxHeartbeats 1000000 in
theorem rdigits_v (u : Nat) (w : World) (L : List Nat) (hL : LL L w)   (hu : u ≤ 9007199254740991) : CV Tryd.prog 42 [.int .i64 (u : Int)] w fun v W => v = .string (strOfNums (decL u)) := by
 refine cv_enter (N := 21) (f := [(0, .int .i64 (u : Int))]) Tryd.func42 rfl rfl rfl rfl fun Q hQ hE => ?_
 have hB := Below.refl w.heap.size w
 refine Sq fun K1 hK1 => (Rg (Pu rfl (Ni (hK1 (Sq fun K2 hK2 => (Rg (Pu rfl ?_)))))))
 refine Ni (hK2 (Sq fun K3 hK3 => (WC.block ?_)))
 refine WC.loop2 (fun (k : Nat) (r : List Int) => [(0, .int .i64 (k : Int)), (3, .string (strOfNums r))]) (fun (k : Nat) (r : List Int) W => k ≤ u ∧ DigR u k r ∧ r.length + k ≤ u + 1 ∧ Below w.heap.size w W ∧ LL (L) W) (fun (k : Nat) (r : List Int) => k + (1 - r.length)) u [] (by repeat first | exact trivial | exact And.intro rfl trivial | refine And.intro rfl ?_ | refine And.intro (congrArg (fun z : Int => some (Value.int .i64 z)) (by omega)) ?_) ⟨Nat.le_refl _, (.inl ⟨rfl, rfl⟩), (by rw [List.length_nil]; omega), hB, hL⟩ ?_
 clear hB hL
 rintro K4 k r W5 ⟨hk, hd, hrl, hB, hL⟩ hK4
 refine Sq fun K6 hK6 => (Sq fun K7 hK7 => (Rg (Pu rfl (Va (dx_gtr rfl rfl rfl) rfl rfl (Pu rfl ?_)))))
 refine WL.split 6 rfl (fun g8 => ?_) (fun g8 => ?_)
 ·
  replace g8 := dT g8
  refine Of rfl (Of rfl (Pu rfl (Ni (hK7 (WC.condT rfl (WC.skip (hK6 ?_)))))))
  refine WC.block (Sq fun K9 hK9 => (Rg (Pu rfl (Va (dx_rem (r := (k : Int) % 10) rfl rfl rfl (by omega) (Int.tmod_eq_emod_of_nonneg (by omega))) rfl rfl (Pu rfl (Va (dx_rem (r := (k : Int) % 10) rfl rfl rfl (by omega) (Int.tmod_eq_emod_of_nonneg (by omega))) rfl rfl (Va (dx_add (r := ((k : Int) % 10) + 1) rfl rfl rfl (wrap64_id (by omega))) rfl rfl ?_)))))))
  refine Va (dv_e (dx_slTLH ((k : Int) % 10).toNat (((k : Int) % 10).toNat + 1) rfl Tryd.underlying9 rfl rfl rfl (by omega) (by omega) (by omega) (by show ((k : Int) % 10).toNat + 1 ≤ 10; omega)) (congrArg Value.string (dig_txt (c := (k : Int) % 10) (by omega) (by omega)))) rfl rfl (Pu rfl (Va (dv_e (dx_addT rfl rfl rfl (by rw [strOfNums_size, strOfNums_size, List.length_singleton]; omega)) (congrArg Value.string (strOf_app _ _))) rfl rfl (Pu rfl (Ni (hK9 (Rg (Pu rfl ?_)))))))
  refine Va (dx_quo (r := (k : Int) / 10) rfl rfl rfl (by omega) (by rw [Int.tdiv_eq_ediv_of_nonneg (by omega)]; exact (wrap64_id (by omega)))) rfl rfl (Pu rfl (Ni ?_))
  exact hK4 (k / 10) ((48 + (k : Int) % 10) :: r) ⟨(by omega), (dig_step hd (by first | exact .inl (by omega) | exact .inr (strOf_nil.1 (by assumption)))), (by rw [List.length_cons]; first | omega | (have e_ := strOf_nil.1 (by assumption); subst e_; rw [List.length_nil] at *; omega)), hB, hL⟩ (by rw [List.length_cons]; first | omega | (have e_ := strOf_nil.1 (by assumption); subst e_; rw [List.length_nil] at *; omega)) (by repeat first | exact trivial | exact And.intro rfl trivial | refine And.intro rfl ?_ | refine And.intro (congrArg (fun z : Int => some (Value.int .i64 z)) (by omega)) ?_)
 ·
  replace g8 := dF g8
  refine Pu rfl (Va (dx_eqlT rfl rfl rfl) rfl rfl (Pu rfl (Ni (hK7 ?_))))
  refine WC.cond rfl (fun c10 => ?_) (fun c10 => ?_)
  ·
   replace c10 := dT c10
   refine WC.skip (hK6 (WC.block (Sq fun K11 hK11 => (Rg (Pu rfl (Va (dx_rem (r := (k : Int) % 10) rfl rfl rfl (by omega) (Int.tmod_eq_emod_of_nonneg (by omega))) rfl rfl (Pu rfl ?_)))))))
   refine Va (dx_rem (r := (k : Int) % 10) rfl rfl rfl (by omega) (Int.tmod_eq_emod_of_nonneg (by omega))) rfl rfl (Va (dx_add (r := ((k : Int) % 10) + 1) rfl rfl rfl (wrap64_id (by omega))) rfl rfl (Va (dv_e (dx_slTLH ((k : Int) % 10).toNat (((k : Int) % 10).toNat + 1) rfl Tryd.underlying9 rfl rfl rfl (by omega) (by omega) (by omega) (by show ((k : Int) % 10).toNat + 1 ≤ 10; omega)) (congrArg Value.string (dig_txt (c := (k : Int) % 10) (by omega) (by omega)))) rfl rfl (Pu rfl (Va (dv_e (dx_addT rfl rfl rfl (by rw [strOfNums_size, strOfNums_size, List.length_singleton]; omega)) (congrArg Value.string (strOf_app _ _))) rfl rfl (Pu rfl (Ni (hK11 ?_)))))))
   refine Rg (Pu rfl (Va (dx_quo (r := (k : Int) / 10) rfl rfl rfl (by omega) (by rw [Int.tdiv_eq_ediv_of_nonneg (by omega)]; exact (wrap64_id (by omega)))) rfl rfl (Pu rfl (Ni ?_))))
   exact hK4 (k / 10) ((48 + (k : Int) % 10) :: r) ⟨(by omega), (dig_step hd (by first | exact .inl (by omega) | exact .inr (strOf_nil.1 (by assumption)))), (by rw [List.length_cons]; first | omega | (have e_ := strOf_nil.1 (by assumption); subst e_; rw [List.length_nil] at *; omega)), hB, hL⟩ (by rw [List.length_cons]; first | omega | (have e_ := strOf_nil.1 (by assumption); subst e_; rw [List.length_nil] at *; omega)) (by repeat first | exact trivial | exact And.intro rfl trivial | refine And.intro rfl ?_ | refine And.intro (congrArg (fun z : Int => some (Value.int .i64 z)) (by omega)) ?_)
  ·
   replace c10 := dF c10
   refine WC.exit ?_
   refine hK3 (Sq fun K12 hK12 => (Rg (Pu rfl (Pu rfl (Ni (hK12 ?_))))))
   exact WC.ret fun a_ ha_ => hQ (cv_ret1 rfl (.tmp rfl) (by rw [dig_end hd (by omega) (by assumption)]) hB ha_)

section
variable {P : Program} {ops : Array Oper} {o : Oper} {N : Nat} {f : Fl} {w : World}
theorem dx_negI {t : TypeId} {x : Operand} {K : IntKind} {n r : Int} (ho : o.op = .unOp .neg t x) (hx : ev f x = some (.int K n)) (hr : K.wrap (0 - n) = r) (hw : wantF ops o f = some true := by rfl) : DV P ops o N f w (.int K r) := fun a ha => by
 have hx := ha.ev hx
 exact Does.pure (wantF_of ha hw) _ (by unfold execOp; simp only [ho, hx]; simp [Op.unary, Op.intArith] at hr ⊢; exact hr) ⟨rfl, rfl⟩
end
theorem numJ_neg {n : Int} {u : Nat} (h : (u : Int) = -n) (h0 : n < 0) : numJ n = 45 :: decL u := by
 unfold numJ; rw [if_pos h0, show n.natAbs = u by omega]
theorem numJ_pos {n : Int} {u : Nat} (h : (u : Int) = n) : numJ n = decL u := by
 unfold numJ; rw [if_neg (by omega), show n.toNat = u by omega]
theorem rdig_at (u : Nat) (n : Int) (h : (u : Int) = n) (hu : u ≤ 9007199254740991) (w : World) (L : List Nat) (hL : LL L w) : CV Tryd.prog 42 [.int .i64 n] w fun v W => v = .string (strOfNums (decL u)) := by
 subst h; exact rdigits_v u w L hL hu
abbrev RpAt (m : Nat) : Prop := ∀ (n : Nat) (t : Tr) (w : World) (L : List Nat), LL L w → RdT n L w t → SzT 1000000 n t → rightJ upB m t.er = true → wgT n t ≤ 1000000 → CV Tryd.prog 26 [.agg #[.int .i64 t.kind, .int .i64 t.num, .string t.text, t.nv, t.iv]] w fun v W => v = .string (strOfNums (prJ m t.er))
set_option maxHeartbeats 2000000 in
theorem rprint_step (m : Nat) (ih : ∀ q, m = q + 1 → RpAt q) (n : Nat) (t : Tr) (w : World) (L : List Nat) (hL : LL L w) (ht : RdT (n + 1) L w t)  (hz : SzT 1000000 (n + 1) t) (hr : rightJ upB m t.er = true) (hwt : wgT (n + 1) t ≤ 1000000) : CV Tryd.prog 26 [.agg #[.int .i64 t.kind, .int .i64 t.num, .string t.text, t.nv, t.iv]] w fun v W => v = .string (strOfNums (prJ m t.er)) := by
 refine cv_enter (N := 72) (f := [(0, .agg #[.int .i64 t.kind, .int .i64 t.num, .string t.text, t.nv, t.iv])]) Tryd.func26 rfl rfl rfl rfl fun Q hQ hE => ?_
 have hB := Below.refl w.heap.size w
 refine Sq fun K1 hK1 => ?_
 have hpl := pl_le (n + 1) m t ht hr
 have hpl0 : (prJ m t.er).length ≤ 30000000 := by omega
 obtain ⟨hnt, hit, hct⟩ := ht
 replace hct : RdTs n (L) w t.items := hct
 have hil0 := hit.len
 rw [List.length_map] at hil0
 have hnl0 := hnt.len
 rw [List.length_map] at hnl0
 unfold maxLen at hil0 hnl0
 refine Rg ?_
 refine Ge (dx_box rfl rfl rfl) rfl rfl ?_
 rintro _ W2 ⟨rfl, k3, b4, z5⟩
 have l6 := hB.size
 replace hnt := hnt.more b4 (Nat.le_refl _)
 replace hit := hit.more b4 (Nat.le_refl _)
 replace hct := hct.more b4 (Nat.le_refl _)
 replace hB := below_then hB b4
 replace hL := LL.more hL z5
 refine Pu rfl (Ni (hK1 (Sq fun K7 hK7 => (Sq fun K8 hK8 => (Rg (Va (dx_fld (o1 := 0) rfl ty_fld_25_0_0 rfl rfl) rfl rfl (Va (dx_load rfl ty_one_3 rfl (k3.cell (k := 0) rfl)) rfl rfl ?_)))))))
 refine Ni (hK8 (WC.block (Sq fun K9 hK9 => (Rg (Va (dx_eql rfl rfl rfl) rfl rfl (Pu rfl (Ni ?_)))))))
 refine hK9 ?_
 refine WC.cond rfl (fun c10 => ?_) (fun c10 => ?_)
 ·
  replace c10 := dT c10
  refine Sq fun K11 hK11 => (Rg (Pu rfl (Ni (hK11 ?_))))
  exact WC.ret fun a_ ha_ => hQ (cv_ret1 rfl (.tmp rfl) (by rw [show prJ m t.er = [116, 114, 117, 101] from (pr_l (by omega) (by omega)).trans (leafP_1 (by rw [er_kind]; assumption))]; rfl) hB ha_)
 ·
  replace c10 := dF c10
  refine Sq fun K12 hK12 => (Rg (Va (dx_eql rfl rfl rfl) rfl rfl (Pu rfl (Ni (hK12 ?_)))))
  refine WC.cond rfl (fun c13 => ?_) (fun c13 => ?_)
  ·
   replace c13 := dT c13
   refine Sq fun K14 hK14 => (Rg (Pu rfl (Ni (hK14 ?_))))
   exact WC.ret fun a_ ha_ => hQ (cv_ret1 rfl (.tmp rfl) (by rw [show prJ m t.er = [102, 97, 108, 115, 101] from (pr_l (by omega) (by omega)).trans (leafP_2 (by rw [er_kind]; assumption))]; rfl) hB ha_)
  ·
   replace c13 := dF c13
   refine Sq fun K15 hK15 => (Rg (Va (dx_eql rfl rfl rfl) rfl rfl (Pu rfl (Ni (hK15 ?_)))))
   refine WC.cond rfl (fun c16 => ?_) (fun c16 => ?_)
   ·
    replace c16 := dT c16
    refine Sq fun K17 hK17 => (Sq fun K18 hK18 => ?_)
    obtain ⟨hn0, hn1⟩ := num_of hr (by assumption)
    refine Rg (Va (dx_fld (o1 := 1) rfl ty_fld_25_1_1 rfl rfl) rfl rfl (Va (dx_load rfl ty_one_3 rfl (k3.cell (k := 1) rfl)) rfl rfl (Va (dx_lss rfl rfl rfl) rfl rfl (Ni (hK18 ?_)))))
    refine WC.cond rfl (fun c19 => ?_) (fun c19 => ?_)
    ·
     replace c19 := dT c19
     refine Sq fun K20 hK20 => ?_
     obtain ⟨u, hu⟩ : ∃ u : Nat, (u : Int) = -t.num := ⟨(-t.num).toNat, by omega⟩
     have hdl := decL_len 20 u (by omega)
     refine Rg (Va (dx_fld (o1 := 1) rfl ty_fld_25_1_1 rfl rfl) rfl rfl (Va (dx_load rfl ty_one_3 rfl (k3.cell (k := 1) rfl)) rfl rfl (Va (dx_negI (r := -t.num) rfl rfl (by rw [wrap64_id (by omega)]; omega)) rfl rfl ?_)))
     refine Ge (dx_cv rfl Tryd.func42 rfl rfl rfl (rdig_at u (-t.num) hu (by omega) W2 _ hL)) rfl rfl ?_
     rintro _ W22 ⟨rfl, b21⟩
     replace hB := below_then hB b21
     refine Va (dv_e (dx_addT (m := strOfNums [45]) (n := strOfNums (decL u)) rfl rfl rfl (by rw [strOfNums_size, strOfNums_size]; (try simp only [List.length_append, List.length_cons, List.length_nil]); omega)) (congrArg Value.string (strOf_app [45] (decL u)))) rfl rfl (Pu rfl (Ni (hK20 ?_)))
     exact WC.ret fun a_ ha_ => hQ (cv_ret1 rfl (.tmp rfl) (by rw [show prJ m t.er = 45 :: decL u from (pr_l (by omega) (by omega)).trans ((leafP_3 (by rw [er_kind]; assumption)).trans (by rw [er_num]; exact numJ_neg hu (by omega)))]; rfl) hB ha_)
    ·
     replace c19 := dF c19
     refine WC.skip (hK17 (Sq fun K23 hK23 => ?_))
     obtain ⟨u, hu⟩ : ∃ u : Nat, (u : Int) = t.num := ⟨t.num.toNat, by omega⟩
     refine Rg (Va (dx_fld (o1 := 1) rfl ty_fld_25_1_1 rfl rfl) rfl rfl (Va (dx_load rfl ty_one_3 rfl (k3.cell (k := 1) rfl)) rfl rfl ?_))
     refine Ge (dx_cv rfl Tryd.func42 rfl rfl rfl (rdig_at u t.num hu (by omega) W2 _ hL)) rfl rfl ?_
     rintro _ W25 ⟨rfl, b24⟩
     replace hB := below_then hB b24
     refine Pu rfl (Ni (hK23 ?_))
     exact WC.ret fun a_ ha_ => hQ (cv_ret1 rfl (.tmp rfl) (by rw [show prJ m t.er = decL u from (pr_l (by omega) (by omega)).trans ((leafP_3 (by rw [er_kind]; assumption)).trans (by rw [er_num]; exact numJ_pos hu))]) hB ha_)
   ·
    replace c16 := dF c16
    refine Sq fun K26 hK26 => (Rg (Va (dx_eql rfl rfl rfl) rfl rfl (Pu rfl (Ni (hK26 ?_)))))
    refine WC.cond rfl (fun c27 => ?_) (fun c27 => ?_)
    ·
     replace c27 := dT c27
     refine Sq fun K28 hK28 => (Rg (Va (dx_fld (o1 := 2) rfl ty_fld_25_2_2 rfl rfl) rfl rfl (Va (dx_load rfl ty_one_9 rfl (k3.cell (k := 2) rfl)) rfl rfl ?_)))
     refine Ge (dx_cv rfl Tryd.func30 rfl rfl rfl (rquote_v t.text W2 _ hL hz.1)) rfl rfl ?_
     rintro _ W30 ⟨rfl, b29⟩
     replace hB := below_then hB b29
     refine Pu rfl (Ni (hK28 ?_))
     exact WC.ret fun a_ ha_ => hQ (cv_ret1 rfl (.tmp rfl) (by rw [show prJ m t.er = quoJ t.text from (pr_l (by omega) (by omega)).trans ((leafP_4 (by rw [er_kind]; assumption)).trans (by rw [er_text]))]) hB ha_)
    ·
     replace c27 := dF c27
     refine Sq fun K31 hK31 => (Sq fun K32 hK32 => (Rg (Va (dx_eql rfl rfl rfl) rfl rfl (Pu rfl (Ni (hK32 ?_))))))
     refine WC.cond rfl (fun c33 => ?_) (fun c33 => ?_)
     ·
      replace c33 := dT c33
      have hkt : t.kind = 5 := by omega
      refine WC.skip (hK31 ?_)
      refine WC.cond rfl (fun c34 => ?_) (fun c34 => ?_)
      ·
       replace c34 := dT c34
       refine Sq fun K35 hK35 => ?_
       obtain ⟨q, rfl, hrq, hln6⟩ := node_of hr (by first | exact .inl hkt | exact .inr hkt)
       have hpr_ := pr_5 (n := q) hkt
       have hpl_ := pcs_len5 (n := q) hkt
       have hcm_ : (commaJ (pcs q t.er)).length + 2 ≤ 30000000 := by rw [hpr_, List.length_cons, List.length_append, List.length_singleton] at hpl0; omega
       refine Rg (Pu rfl (Ni (hK35 (Sq fun K36 hK36 => (Sq fun K37 hK37 => (Rg (Pu rfl ?_)))))))
       refine Ni (hK37 (WC.block ?_))
       refine WC.loop (fun (i : Nat) => [(1, .pointer (some ⟨w.heap.size, 0, none⟩)), (4, .int .i64 (i : Int)), (3, .string (strOfNums (commaJ ((pcs q t.er).take i))))]) (fun (i : Nat) W => i ≤ t.items.length ∧ Below w.heap.size w W ∧ LL (w.heap.size :: L) W ∧ RdF 1 (w.heap.size :: L) W t.nv (t.names.map eS) ∧ RdF 5 (w.heap.size :: L) W t.iv (t.items.map encT) ∧ RdTs n (w.heap.size :: L) W t.items ∧ Blk W w.heap.size [.int .i64 t.kind, .int .i64 t.num, .string t.text, t.nv, t.iv]) (fun (i : Nat) => t.items.length - i) 0 (by repeat first | exact trivial | exact And.intro rfl trivial | refine And.intro rfl ?_ | refine And.intro (congrArg (fun z : Int => some (Value.int .i64 z)) (by omega)) ?_) ⟨Nat.zero_le _, hB, hL, hnt, hit, hct, k3⟩ ?_
       clear hnt hit hct k3 hB hL
       rintro K38 i W39 ⟨hi, hB, hL, hnt, hit, hct, k3⟩ hK38
       refine Sq fun K40 hK40 => (Sq fun K41 hK41 => ?_)
       have hcb : (commaJ ((pcs q t.er).take i)).length ≤ 30000000 := by obtain ⟨y_, hy_⟩ := comma_tail (pcs q t.er) i; have e_ := congrArg List.length hy_; rw [List.length_append] at e_; omega
       refine Rg (Pu rfl (Va (dx_fld (o1 := 4) rfl ty_fld_25_4_4 rfl rfl) rfl rfl (Va (dx_load rfl ty_one_23 rfl (k3.cell (k := 4) rfl)) rfl rfl (Va (dx_lenFM rfl ty_slice_23 rfl hit) rfl rfl (Va (dx_lss rfl rfl rfl) rfl rfl (Ni (hK41 ?_)))))))
       refine WC.cond rfl (fun c42 => ?_) (fun c42 => ?_)
       ·
        replace c42 := dT c42
        refine WC.skip (hK40 (Sq fun K43 hK43 => (WC.block (Sq fun K44 hK44 => (Sq fun K45 hK45 => ?_)))))
        obtain ⟨r_, hr_⟩ : ∃ x, t.items[i]? = some x := ⟨_, List.getElem?_eq_getElem (by omega)⟩
        have hrm_ := List.mem_of_getElem? hr_
        have hwi_ := wgT_item (n := n) hrm_
        have hrp_ := pl_le n q r_ (hct r_ hrm_) (hrq r_ hrm_)
        have hp_ := pcs_5 (n := q) hkt hr_
        refine Rg (Pu rfl (Va (dx_gtr rfl rfl rfl) rfl rfl (Ni (hK45 ?_))))
        refine WC.cond rfl (fun c46 => ?_) (fun c46 => ?_)
        ·
         replace c46 := dT c46
         have hi0 : ¬ i = 0 := by omega
         refine Rg (Pu rfl (Va (dv_e (dx_addT (m := strOfNums (commaJ ((pcs q t.er).take i))) (n := strOfNums [44]) rfl rfl rfl (by rw [strOfNums_size, strOfNums_size]; (try simp only [List.length_append, List.length_cons, List.length_nil]); omega)) (congrArg Value.string (strOf_app (commaJ ((pcs q t.er).take i)) [44]))) rfl rfl (Pu rfl (Ni (hK44 (Sq fun K47 hK47 => (Sq fun K48 hK48 => ?_)))))))
         refine Rg (Va (dx_fld (o1 := 0) rfl ty_fld_25_0_0 rfl rfl) rfl rfl (Va (dx_load rfl ty_one_3 rfl (k3.cell (k := 0) rfl)) rfl rfl (Va (dx_eql rfl rfl rfl) rfl rfl (Ni (hK48 ?_)))))
         refine WC.cond rfl (fun c49 => ?_) (fun c49 => ?_)
         ·
          replace c49 := dT c49
          exact absurd hkt (by omega)
         ·
          replace c49 := dF c49
          refine WC.skip (hK47 (Rg (Pu rfl (Va (dx_fld (o1 := 4) rfl ty_fld_25_4_4 rfl rfl) rfl rfl (Va (dx_load rfl ty_one_23 rfl (k3.cell (k := 4) rfl)) rfl rfl (Pu rfl ?_))))))
          refine Ge (dx_idxF i rfl ty_slice_23 rfl rfl hit (by omega) (at_mapX hr_)) rfl rfl ?_
          rintro u50 _ ⟨rfl, p51⟩
          refine Va (dx_loadPN rfl ty_agg_25_5 rfl p51 rfl) rfl rfl ?_
          refine Ge (dx_cv rfl Tryd.func26 rfl rfl rfl (ih q rfl n r_ W39 _ hL (hct r_ hrm_) (hz.2.2.2.2 r_ hrm_) (hrq r_ hrm_) (by omega))) rfl rfl ?_
          rintro _ W53 ⟨rfl, b52⟩
          replace hnt := hnt.below b52
          replace hit := hit.below b52
          replace hct := hct.below b52
          replace k3 := k3.below b52
          replace hB := below_then hB b52
          replace hL := LL.below hL b52
          have hst_ : ((commaJ ((pcs q t.er).take i)) ++ [44]) ++ (prJ q r_.er) = commaJ ((pcs q t.er).take (i + 1)) := by rw [comma_add _ i _ hp_, if_neg hi0]; simp
          refine Va (dv_e (dx_addT (m := strOfNums ((commaJ ((pcs q t.er).take i)) ++ [44])) (n := strOfNums (prJ q r_.er)) rfl rfl rfl (by rw [strOfNums_size, strOfNums_size]; (try simp only [List.length_append, List.length_cons, List.length_nil]); omega)) (congrArg Value.string ((strOf_app ((commaJ ((pcs q t.er).take i)) ++ [44]) (prJ q r_.er)).trans (congrArg strOfNums hst_)))) rfl rfl (Pu rfl (Ni (hK43 (Rg (Pu rfl (Va (dx_add (r := (i : Int) + 1) rfl rfl rfl (wrap64_id (by omega))) rfl rfl (Pu rfl ?_)))))))
          refine Ni ?_
          exact hK38 (i + 1) ⟨(by omega), hB, hL, hnt, hit, hct, k3⟩ (by omega) (by repeat first | exact trivial | exact And.intro rfl trivial | refine And.intro rfl ?_ | refine And.intro (congrArg (fun z : Int => some (Value.int .i64 z)) (by omega)) ?_)
        ·
         replace c46 := dF c46
         have hi0 : i = 0 := by omega
         refine WC.skip (hK44 (Sq fun K54 hK54 => (Sq fun K55 hK55 => (Rg (Va (dx_fld (o1 := 0) rfl ty_fld_25_0_0 rfl rfl) rfl rfl (Va (dx_load rfl ty_one_3 rfl (k3.cell (k := 0) rfl)) rfl rfl (Va (dx_eql rfl rfl rfl) rfl rfl ?_)))))))
         refine Ni (hK55 ?_)
         refine WC.cond rfl (fun c56 => ?_) (fun c56 => ?_)
         ·
          replace c56 := dT c56
          exact absurd hkt (by omega)
         ·
          replace c56 := dF c56
          refine WC.skip (hK54 (Rg (Pu rfl (Va (dx_fld (o1 := 4) rfl ty_fld_25_4_4 rfl rfl) rfl rfl (Va (dx_load rfl ty_one_23 rfl (k3.cell (k := 4) rfl)) rfl rfl (Pu rfl ?_))))))
          refine Ge (dx_idxF i rfl ty_slice_23 rfl rfl hit (by omega) (at_mapX hr_)) rfl rfl ?_
          rintro u57 _ ⟨rfl, p58⟩
          refine Va (dx_loadPN rfl ty_agg_25_5 rfl p58 rfl) rfl rfl ?_
          refine Ge (dx_cv rfl Tryd.func26 rfl rfl rfl (ih q rfl n r_ W39 _ hL (hct r_ hrm_) (hz.2.2.2.2 r_ hrm_) (hrq r_ hrm_) (by omega))) rfl rfl ?_
          rintro _ W60 ⟨rfl, b59⟩
          replace hnt := hnt.below b59
          replace hit := hit.below b59
          replace hct := hct.below b59
          replace k3 := k3.below b59
          replace hB := below_then hB b59
          replace hL := LL.below hL b59
          have hst_ : (commaJ ((pcs q t.er).take i)) ++ (prJ q r_.er) = commaJ ((pcs q t.er).take (i + 1)) := by rw [comma_add _ i _ hp_, if_pos hi0]; simp
          refine Va (dv_e (dx_addT (m := strOfNums (commaJ ((pcs q t.er).take i))) (n := strOfNums (prJ q r_.er)) rfl rfl rfl (by rw [strOfNums_size, strOfNums_size]; (try simp only [List.length_append, List.length_cons, List.length_nil]); omega)) (congrArg Value.string ((strOf_app (commaJ ((pcs q t.er).take i)) (prJ q r_.er)).trans (congrArg strOfNums hst_)))) rfl rfl (Pu rfl (Ni (hK43 (Rg (Pu rfl (Va (dx_add (r := (i : Int) + 1) rfl rfl rfl (wrap64_id (by omega))) rfl rfl (Pu rfl ?_)))))))
          refine Ni ?_
          exact hK38 (i + 1) ⟨(by omega), hB, hL, hnt, hit, hct, k3⟩ (by omega) (by repeat first | exact trivial | exact And.intro rfl trivial | refine And.intro rfl ?_ | refine And.intro (congrArg (fun z : Int => some (Value.int .i64 z)) (by omega)) ?_)
       ·
        replace c42 := dF c42
        refine WC.exit ?_
        refine hK36 (Sq fun K61 hK61 => (Sq fun K62 hK62 => (Rg (Va (dx_fld (o1 := 0) rfl ty_fld_25_0_0 rfl rfl) rfl rfl (Va (dx_load rfl ty_one_3 rfl (k3.cell (k := 0) rfl)) rfl rfl (Va (dx_eql rfl rfl rfl) rfl rfl (Ni ?_)))))))
        refine hK62 ?_
        refine WC.cond rfl (fun c63 => ?_) (fun c63 => ?_)
        ·
         replace c63 := dT c63
         refine Sq fun K64 hK64 => (Rg (Pu rfl (Va (dv_e (dx_addT (m := strOfNums [91]) (n := strOfNums (commaJ ((pcs q t.er).take i))) rfl rfl rfl (by rw [strOfNums_size, strOfNums_size]; (try simp only [List.length_append, List.length_cons, List.length_nil]); omega)) (congrArg Value.string (strOf_app [91] (commaJ ((pcs q t.er).take i))))) rfl rfl (Va (dv_e (dx_addT (m := strOfNums ([91] ++ (commaJ ((pcs q t.er).take i)))) (n := strOfNums [93]) rfl rfl rfl (by rw [strOfNums_size, strOfNums_size]; (try simp only [List.length_append, List.length_cons, List.length_nil]); omega)) (congrArg Value.string (strOf_app ([91] ++ (commaJ ((pcs q t.er).take i))) [93]))) rfl rfl (Pu rfl (Ni (hK64 ?_)))))))
         exact WC.ret fun a_ ha_ => hQ (cv_ret1 rfl (.tmp rfl) (by have e_ : (pcs q t.er).take i = pcs q t.er := List.take_of_length_le (by omega); rw [hpr_, e_]; rfl) hB ha_)
        ·
         replace c63 := dF c63
         exact absurd hkt (by omega)
      ·
       replace c34 := dF c34
       exact absurd hkt (by omega)
     ·
      replace c33 := dF c33
      have hkn5 : ¬ t.kind = 5 := by omega
      refine Rg (Va (dx_eql rfl rfl rfl) rfl rfl (Pu rfl (Ni (hK31 ?_))))
      refine WC.cond rfl (fun c65 => ?_) (fun c65 => ?_)
      ·
       replace c65 := dT c65
       have hkt : t.kind = 6 := by omega
       refine Sq fun K66 hK66 => ?_
       obtain ⟨q, rfl, hrq, hln6⟩ := node_of hr (by first | exact .inl hkt | exact .inr hkt)
       replace hln6 := hln6 hkt
       have hpr_ := pr_6 (n := q) hkt
       have hpl_ := pcs_len6 (n := q) hkt hln6
       have hcm_ : (commaJ (pcs q t.er)).length + 2 ≤ 30000000 := by rw [hpr_, List.length_cons, List.length_append, List.length_singleton] at hpl0; omega
       refine Rg (Pu rfl (Ni (hK66 (Sq fun K67 hK67 => (Sq fun K68 hK68 => (Rg (Pu rfl ?_)))))))
       refine Ni (hK68 (WC.block ?_))
       refine WC.loop (fun (i : Nat) => [(1, .pointer (some ⟨w.heap.size, 0, none⟩)), (4, .int .i64 (i : Int)), (3, .string (strOfNums (commaJ ((pcs q t.er).take i))))]) (fun (i : Nat) W => i ≤ t.items.length ∧ Below w.heap.size w W ∧ LL (w.heap.size :: L) W ∧ RdF 1 (w.heap.size :: L) W t.nv (t.names.map eS) ∧ RdF 5 (w.heap.size :: L) W t.iv (t.items.map encT) ∧ RdTs n (w.heap.size :: L) W t.items ∧ Blk W w.heap.size [.int .i64 t.kind, .int .i64 t.num, .string t.text, t.nv, t.iv]) (fun (i : Nat) => t.items.length - i) 0 (by repeat first | exact trivial | exact And.intro rfl trivial | refine And.intro rfl ?_ | refine And.intro (congrArg (fun z : Int => some (Value.int .i64 z)) (by omega)) ?_) ⟨Nat.zero_le _, hB, hL, hnt, hit, hct, k3⟩ ?_
       clear hnt hit hct k3 hB hL
       rintro K69 i W70 ⟨hi, hB, hL, hnt, hit, hct, k3⟩ hK69
       refine Sq fun K71 hK71 => (Sq fun K72 hK72 => ?_)
       have hcb : (commaJ ((pcs q t.er).take i)).length ≤ 30000000 := by obtain ⟨y_, hy_⟩ := comma_tail (pcs q t.er) i; have e_ := congrArg List.length hy_; rw [List.length_append] at e_; omega
       refine Rg (Pu rfl (Va (dx_fld (o1 := 4) rfl ty_fld_25_4_4 rfl rfl) rfl rfl (Va (dx_load rfl ty_one_23 rfl (k3.cell (k := 4) rfl)) rfl rfl (Va (dx_lenFM rfl ty_slice_23 rfl hit) rfl rfl (Va (dx_lss rfl rfl rfl) rfl rfl (Ni (hK72 ?_)))))))
       refine WC.cond rfl (fun c73 => ?_) (fun c73 => ?_)
       ·
        replace c73 := dT c73
        refine WC.skip (hK71 (Sq fun K74 hK74 => (WC.block (Sq fun K75 hK75 => (Sq fun K76 hK76 => ?_)))))
        obtain ⟨r_, hr_⟩ : ∃ x, t.items[i]? = some x := ⟨_, List.getElem?_eq_getElem (by omega)⟩
        have hrm_ := List.mem_of_getElem? hr_
        have hwi_ := wgT_item (n := n) hrm_
        have hrp_ := pl_le n q r_ (hct r_ hrm_) (hrq r_ hrm_)
        obtain ⟨a_, ha_⟩ : ∃ x, t.names[i]? = some x := ⟨_, List.getElem?_eq_getElem (by omega)⟩
        have hqa_ := quo_len a_
        have hqs_ := hz.2.2.2.1 a_ (List.mem_of_getElem? ha_)
        have hp_ := pcs_6 (n := q) hkt hr_ ha_
        refine Rg (Pu rfl (Va (dx_gtr rfl rfl rfl) rfl rfl (Ni (hK76 ?_))))
        refine WC.cond rfl (fun c77 => ?_) (fun c77 => ?_)
        ·
         replace c77 := dT c77
         have hi0 : ¬ i = 0 := by omega
         refine Rg (Pu rfl (Va (dv_e (dx_addT (m := strOfNums (commaJ ((pcs q t.er).take i))) (n := strOfNums [44]) rfl rfl rfl (by rw [strOfNums_size, strOfNums_size]; (try simp only [List.length_append, List.length_cons, List.length_nil]); omega)) (congrArg Value.string (strOf_app (commaJ ((pcs q t.er).take i)) [44]))) rfl rfl (Pu rfl (Ni (hK75 (Sq fun K78 hK78 => (Sq fun K79 hK79 => ?_)))))))
         refine Rg (Va (dx_fld (o1 := 0) rfl ty_fld_25_0_0 rfl rfl) rfl rfl (Va (dx_load rfl ty_one_3 rfl (k3.cell (k := 0) rfl)) rfl rfl (Va (dx_eql rfl rfl rfl) rfl rfl (Ni (hK79 ?_)))))
         refine WC.cond rfl (fun c80 => ?_) (fun c80 => ?_)
         ·
          replace c80 := dT c80
          refine Rg (Pu rfl (Va (dx_fld (o1 := 3) rfl ty_fld_25_3_3 rfl rfl) rfl rfl (Va (dx_load rfl ty_one_22 rfl (k3.cell (k := 3) rfl)) rfl rfl (Pu rfl ?_))))
          refine Ge (dx_idxF i rfl ty_slice_22 rfl rfl hnt (by omega) (at_mapX ha_)) rfl rfl ?_
          rintro u81 _ ⟨rfl, p82⟩
          refine Va (dx_loadP rfl ty_one_9 rfl p82) rfl rfl ?_
          refine Ge (dx_cv rfl Tryd.func30 rfl rfl rfl (rquote_v a_ W70 _ hL (hz.2.2.2.1 _ (List.mem_of_getElem? ha_)))) rfl rfl ?_
          rintro _ W84 ⟨rfl, b83⟩
          replace hnt := hnt.below b83
          replace hit := hit.below b83
          replace hct := hct.below b83
          replace k3 := k3.below b83
          replace hB := below_then hB b83
          replace hL := LL.below hL b83
          refine Va (dv_e (dx_addT (m := strOfNums ((commaJ ((pcs q t.er).take i)) ++ [44])) (n := strOfNums (quoJ a_)) rfl rfl rfl (by rw [strOfNums_size, strOfNums_size]; (try simp only [List.length_append, List.length_cons, List.length_nil]); omega)) (congrArg Value.string (strOf_app ((commaJ ((pcs q t.er).take i)) ++ [44]) (quoJ a_)))) rfl rfl (Va (dv_e (dx_addT (m := strOfNums (((commaJ ((pcs q t.er).take i)) ++ [44]) ++ (quoJ a_))) (n := strOfNums [58]) rfl rfl rfl (by rw [strOfNums_size, strOfNums_size]; (try simp only [List.length_append, List.length_cons, List.length_nil]); omega)) (congrArg Value.string (strOf_app (((commaJ ((pcs q t.er).take i)) ++ [44]) ++ (quoJ a_)) [58]))) rfl rfl (Pu rfl (Ni (hK78 (Rg (Pu rfl (Va (dx_fld (o1 := 4) rfl ty_fld_25_4_4 rfl rfl) rfl rfl ?_)))))))
          refine Va (dx_load rfl ty_one_23 rfl (k3.cell (k := 4) rfl)) rfl rfl (Pu rfl ?_)
          refine Ge (dx_idxF i rfl ty_slice_23 rfl rfl hit (by omega) (at_mapX hr_)) rfl rfl ?_
          rintro u85 _ ⟨rfl, p86⟩
          refine Va (dx_loadPN rfl ty_agg_25_5 rfl p86 rfl) rfl rfl ?_
          refine Ge (dx_cv rfl Tryd.func26 rfl rfl rfl (ih q rfl n r_ W84 _ hL (hct r_ hrm_) (hz.2.2.2.2 r_ hrm_) (hrq r_ hrm_) (by omega))) rfl rfl ?_
          rintro _ W88 ⟨rfl, b87⟩
          replace hnt := hnt.below b87
          replace hit := hit.below b87
          replace hct := hct.below b87
          replace k3 := k3.below b87
          replace hB := below_then hB b87
          replace hL := LL.below hL b87
          have hst_ : ((((commaJ ((pcs q t.er).take i)) ++ [44]) ++ (quoJ a_)) ++ [58]) ++ (prJ q r_.er) = commaJ ((pcs q t.er).take (i + 1)) := by rw [comma_add _ i _ hp_, if_neg hi0]; simp
          refine Va (dv_e (dx_addT (m := strOfNums ((((commaJ ((pcs q t.er).take i)) ++ [44]) ++ (quoJ a_)) ++ [58])) (n := strOfNums (prJ q r_.er)) rfl rfl rfl (by rw [strOfNums_size, strOfNums_size]; (try simp only [List.length_append, List.length_cons, List.length_nil]); omega)) (congrArg Value.string ((strOf_app ((((commaJ ((pcs q t.er).take i)) ++ [44]) ++ (quoJ a_)) ++ [58]) (prJ q r_.er)).trans (congrArg strOfNums hst_)))) rfl rfl (Pu rfl (Ni (hK74 (Rg (Pu rfl (Va (dx_add (r := (i : Int) + 1) rfl rfl rfl (wrap64_id (by omega))) rfl rfl (Pu rfl ?_)))))))
          refine Ni ?_
          exact hK69 (i + 1) ⟨(by omega), hB, hL, hnt, hit, hct, k3⟩ (by omega) (by repeat first | exact trivial | exact And.intro rfl trivial | refine And.intro rfl ?_ | refine And.intro (congrArg (fun z : Int => some (Value.int .i64 z)) (by omega)) ?_)
         ·
          replace c80 := dF c80
          exact absurd hkt (by omega)
        ·
         replace c77 := dF c77
         have hi0 : i = 0 := by omega
         refine WC.skip (hK75 (Sq fun K89 hK89 => (Sq fun K90 hK90 => (Rg (Va (dx_fld (o1 := 0) rfl ty_fld_25_0_0 rfl rfl) rfl rfl (Va (dx_load rfl ty_one_3 rfl (k3.cell (k := 0) rfl)) rfl rfl (Va (dx_eql rfl rfl rfl) rfl rfl ?_)))))))
         refine Ni (hK90 ?_)
         refine WC.cond rfl (fun c91 => ?_) (fun c91 => ?_)
         ·
          replace c91 := dT c91
          refine Rg (Pu rfl (Va (dx_fld (o1 := 3) rfl ty_fld_25_3_3 rfl rfl) rfl rfl (Va (dx_load rfl ty_one_22 rfl (k3.cell (k := 3) rfl)) rfl rfl (Pu rfl ?_))))
          refine Ge (dx_idxF i rfl ty_slice_22 rfl rfl hnt (by omega) (at_mapX ha_)) rfl rfl ?_
          rintro u92 _ ⟨rfl, p93⟩
          refine Va (dx_loadP rfl ty_one_9 rfl p93) rfl rfl ?_
          refine Ge (dx_cv rfl Tryd.func30 rfl rfl rfl (rquote_v a_ W70 _ hL (hz.2.2.2.1 _ (List.mem_of_getElem? ha_)))) rfl rfl ?_
          rintro _ W95 ⟨rfl, b94⟩
          replace hnt := hnt.below b94
          replace hit := hit.below b94
          replace hct := hct.below b94
          replace k3 := k3.below b94
          replace hB := below_then hB b94
          replace hL := LL.below hL b94
          refine Va (dv_e (dx_addT (m := strOfNums (commaJ ((pcs q t.er).take i))) (n := strOfNums (quoJ a_)) rfl rfl rfl (by rw [strOfNums_size, strOfNums_size]; (try simp only [List.length_append, List.length_cons, List.length_nil]); omega)) (congrArg Value.string (strOf_app (commaJ ((pcs q t.er).take i)) (quoJ a_)))) rfl rfl (Va (dv_e (dx_addT (m := strOfNums ((commaJ ((pcs q t.er).take i)) ++ (quoJ a_))) (n := strOfNums [58]) rfl rfl rfl (by rw [strOfNums_size, strOfNums_size]; (try simp only [List.length_append, List.length_cons, List.length_nil]); omega)) (congrArg Value.string (strOf_app ((commaJ ((pcs q t.er).take i)) ++ (quoJ a_)) [58]))) rfl rfl (Pu rfl (Ni (hK89 (Rg (Pu rfl (Va (dx_fld (o1 := 4) rfl ty_fld_25_4_4 rfl rfl) rfl rfl ?_)))))))
          refine Va (dx_load rfl ty_one_23 rfl (k3.cell (k := 4) rfl)) rfl rfl (Pu rfl ?_)
          refine Ge (dx_idxF i rfl ty_slice_23 rfl rfl hit (by omega) (at_mapX hr_)) rfl rfl ?_
          rintro u96 _ ⟨rfl, p97⟩
          refine Va (dx_loadPN rfl ty_agg_25_5 rfl p97 rfl) rfl rfl ?_
          refine Ge (dx_cv rfl Tryd.func26 rfl rfl rfl (ih q rfl n r_ W95 _ hL (hct r_ hrm_) (hz.2.2.2.2 r_ hrm_) (hrq r_ hrm_) (by omega))) rfl rfl ?_
          rintro _ W99 ⟨rfl, b98⟩
          replace hnt := hnt.below b98
          replace hit := hit.below b98
          replace hct := hct.below b98
          replace k3 := k3.below b98
          replace hB := below_then hB b98
          replace hL := LL.below hL b98
          have hst_ : (((commaJ ((pcs q t.er).take i)) ++ (quoJ a_)) ++ [58]) ++ (prJ q r_.er) = commaJ ((pcs q t.er).take (i + 1)) := by rw [comma_add _ i _ hp_, if_pos hi0]; simp
          refine Va (dv_e (dx_addT (m := strOfNums (((commaJ ((pcs q t.er).take i)) ++ (quoJ a_)) ++ [58])) (n := strOfNums (prJ q r_.er)) rfl rfl rfl (by rw [strOfNums_size, strOfNums_size]; (try simp only [List.length_append, List.length_cons, List.length_nil]); omega)) (congrArg Value.string ((strOf_app (((commaJ ((pcs q t.er).take i)) ++ (quoJ a_)) ++ [58]) (prJ q r_.er)).trans (congrArg strOfNums hst_)))) rfl rfl (Pu rfl (Ni (hK74 (Rg (Pu rfl (Va (dx_add (r := (i : Int) + 1) rfl rfl rfl (wrap64_id (by omega))) rfl rfl (Pu rfl ?_)))))))
          refine Ni ?_
          exact hK69 (i + 1) ⟨(by omega), hB, hL, hnt, hit, hct, k3⟩ (by omega) (by repeat first | exact trivial | exact And.intro rfl trivial | refine And.intro rfl ?_ | refine And.intro (congrArg (fun z : Int => some (Value.int .i64 z)) (by omega)) ?_)
         ·
          replace c91 := dF c91
          exact absurd hkt (by omega)
       ·
        replace c73 := dF c73
        refine WC.exit ?_
        refine hK67 (Sq fun K100 hK100 => (Sq fun K101 hK101 => (Rg (Va (dx_fld (o1 := 0) rfl ty_fld_25_0_0 rfl rfl) rfl rfl (Va (dx_load rfl ty_one_3 rfl (k3.cell (k := 0) rfl)) rfl rfl (Va (dx_eql rfl rfl rfl) rfl rfl (Ni ?_)))))))
        refine hK101 ?_
        refine WC.cond rfl (fun c102 => ?_) (fun c102 => ?_)
        ·
         replace c102 := dT c102
         exact absurd hkt (by omega)
        ·
         replace c102 := dF c102
         refine WC.skip (hK100 (Sq fun K103 hK103 => (Rg (Pu rfl (Va (dv_e (dx_addT (m := strOfNums [123]) (n := strOfNums (commaJ ((pcs q t.er).take i))) rfl rfl rfl (by rw [strOfNums_size, strOfNums_size]; (try simp only [List.length_append, List.length_cons, List.length_nil]); omega)) (congrArg Value.string (strOf_app [123] (commaJ ((pcs q t.er).take i))))) rfl rfl (Va (dv_e (dx_addT (m := strOfNums ([123] ++ (commaJ ((pcs q t.er).take i)))) (n := strOfNums [125]) rfl rfl rfl (by rw [strOfNums_size, strOfNums_size]; (try simp only [List.length_append, List.length_cons, List.length_nil]); omega)) (congrArg Value.string (strOf_app ([123] ++ (commaJ ((pcs q t.er).take i))) [125]))) rfl rfl (Pu rfl ?_)))))))
         refine Ni (hK103 ?_)
         exact WC.ret fun a_ ha_ => hQ (cv_ret1 rfl (.tmp rfl) (by have e_ : (pcs q t.er).take i = pcs q t.er := List.take_of_length_le (by omega); rw [hpr_, e_]; rfl) hB ha_)
      ·
       replace c65 := dF c65
       refine WC.skip (hK7 (Sq fun K104 hK104 => (Rg (Pu rfl (Ni (hK104 ?_))))))
       exact WC.ret fun a_ ha_ => hQ (cv_ret1 rfl (.tmp rfl) (by have hk0 : t.kind = 0 := Classical.byContradiction fun h0 => kinds_of hr h0 (by assumption) (by assumption) (by assumption) (by assumption) (by omega) (by omega); rw [show prJ m t.er = [110, 117, 108, 108] from (pr_l (by omega) (by omega)).trans (leafP_0 (by rw [er_kind]; assumption))]; rfl) hB ha_)

theorem rprint_all : ∀ m, RpAt m
 | 0 => fun n t w L hL ht hz hr hw => by
  cases n with
  | zero => exact ht.elim
  | succ k => exact rprint_step 0 (fun q h => by omega) k t w L hL ht hz hr hw
 | m + 1 => fun n t w L hL ht hz hr hw => by
  cases n with
  | zero => exact ht.elim
  | succ k => exact rprint_step (m + 1) (fun q h => by (obtain rfl : m = q := (by omega)); exact rprint_all m) k t w L hL ht hz hr hw

theorem len_le_sum {α : Type} {f : α → Nat} : ∀ {xs : List α}, (∀ x ∈ xs, 1 ≤ f x) → xs.length ≤ (xs.map f).sum
 | [], _ => Nat.zero_le _
 | y :: l, h => by
  rw [List.map_cons, List.sum_cons, List.length_cons]
  have := h y (.head _)
  have := len_le_sum (f := f) (xs := l) fun x hx => h x (.tail _ hx)
  omega
theorem wgT_pos {L : List Nat} {w : World} : ∀ {n : Nat} {t : Tr}, RdT n L w t → 1 ≤ wgT n t
 | 0, _, h => h.elim
 | n + 1, t, _ => by rw [wgT]; omega
theorem sz_of_wg {L : List Nat} {w : World} {M : Nat} : ∀ (n : Nat) (t : Tr), RdT n L w t → wgT n t ≤ M → SzT M n t
 | 0, _, h, _ => h.elim
 | n + 1, t, h, hw => by
  have hw' := hw
  rw [wgT] at hw'
  have h1 := len_le_sum (f := fun a : ByteArray => 1 + a.size) (xs := t.names) fun x _ => by omega
  have h2 := len_le_sum (f := wgT n) (xs := t.items) fun x hx => wgT_pos (h.2.2 x hx)
  refine ⟨by omega, by omega, by omega, fun a ha => ?_, fun c hc => sz_of_wg n c (h.2.2 c hc) (by have := wgT_item (n := n) hc; omega)⟩
  have := sum_mem (f := fun a : ByteArray => 1 + a.size) ha
  omega
theorem prtX_long {j : Js} (h : rightJ upB 12 j = true) (hl : 8192 < (prJ 12 j).length) : prtS j = (⟨#[]⟩, 3) := by
 unfold prtS textJ; rw [if_pos h, if_pos hl]
theorem prtX_ok {j : Js} (h : rightJ upB 12 j = true) (hl : ¬ 8192 < (prJ 12 j).length) : prtS j = (strOfNums (prJ 12 j), 0) := by
 unfold prtS textJ; rw [if_pos h, if_neg hl]
theorem lenX_0 {j : Js} (h : (prtS j).2 = 0) : (((prtS j).1.size : Nat) : Int) = lenJ j := by
  unfold prtS at h ⊢
  unfold lenJ
  by_cases hr : rightJ upB 12 j = true
  · rw [if_pos hr] at h ⊢
    by_cases hl : 8192 < (textJ j).length
    · rw [if_pos hl] at h; cases h
    · rw [if_neg hl, if_pos hr]
      show (((strOfNums (textJ j)).size : Nat) : Int) = _
      rw [strOfNums_size]; omega
  · rw [if_neg hr] at h; cases h
theorem lenX_3 {j : Js} (h : (prtS j).2 = 3) : lenJ j = 8193 := by
  unfold prtS at h
  unfold lenJ
  by_cases hr : rightJ upB 12 j = true
  · rw [if_pos hr] at h ⊢
    by_cases hl : 8192 < (textJ j).length
    · omega
    · rw [if_neg hl] at h; cases h
  · rw [if_neg hr] at h; cases h
theorem lenX_1 {j : Js} (h0 : ¬ (prtS j).2 = 0) (h3 : ¬ (prtS j).2 = 3) : lenJ j = 0 := by
 unfold lenJ
 rw [if_neg fun hr => h3 ((prt_err h0).2 hr)]
set_option maxHeartbeats 1000000 in
theorem rPrint_v (n : Nat) (t : Tr) (w : World) (L : List Nat) (hL : LL L w) (ht : RdT (n + 1) L w t)  (hzt : SzT 1000000 (n + 1) t) (hwt : wgT (n + 1) t ≤ 1000000) : CV Tryd.prog 11 [.agg #[.int .i64 t.kind, .int .i64 t.num, .string t.text, t.nv, t.iv]] w fun v W => v = .tuple #[.string (prtS t.er).1, .int .i64 (prtS t.er).2] := by
 refine cv_enter (N := 14) (f := [(0, .agg #[.int .i64 t.kind, .int .i64 t.num, .string t.text, t.nv, t.iv])]) Tryd.func11 rfl rfl rfl rfl fun Q hQ hE => ?_
 have hB := Below.refl w.heap.size w
 refine Sq fun K1 hK1 => ?_
 obtain ⟨hnt, hit, hct⟩ := ht
 replace hct : RdTs n (L) w t.items := hct
 refine Rg ?_
 refine Ge (dx_box rfl rfl rfl) rfl rfl ?_
 rintro _ W2 ⟨rfl, k3, b4, z5⟩
 have l6 := hB.size
 replace hnt := hnt.more b4 (Nat.le_refl _)
 replace hit := hit.more b4 (Nat.le_refl _)
 replace hct := hct.more b4 (Nat.le_refl _)
 replace hB := below_then hB b4
 replace hL := LL.more hL z5
 refine Pu rfl (Pu rfl (Ni (hK1 (Sq fun K7 hK7 => (Sq fun K8 hK8 => (Rg (Va (dx_loadN rfl ty_agg_25_5 rfl k3.range rfl) rfl rfl ?_)))))))
 refine Ge (dx_cv rfl Tryd.func25 rfl rfl rfl (rRight_v n t W2 _ hL (show RdT (n + 1) (w.heap.size :: L) W2 t from ⟨hnt, hit, hct⟩) hzt)) rfl rfl ?_
 rintro _ W10 ⟨rfl, b9⟩
 replace hnt := hnt.below b9
 replace hit := hit.below b9
 replace hct := hct.below b9
 replace k3 := k3.below b9
 replace hB := below_then hB b9
 replace hL := LL.below hL b9
 refine Va (dx_not rfl rfl) rfl rfl (Ni (hK8 ?_))
 refine WC.cond rfl (fun c11 => ?_) (fun c11 => ?_)
 ·
  replace c11 := bnot_t c11
  refine Sq fun K12 hK12 => (Rg (Pu rfl (Pu rfl (Ni (hK12 ?_)))))
  exact WC.ret fun a_ ha_ => hQ (cv_ret2 rfl (.tmp rfl) (.tmp rfl) (by rw [prt_no (by first | assumption | (simp_all; done))]) hB ha_)
 ·
  replace c11 := bnot_f c11
  refine WC.skip (hK7 (Sq fun K13 hK13 => ?_))
  have hrt : rightJ upB 12 t.er = true := by first | assumption | (simp_all; done)
  have hsz := strOfNums_size (prJ 12 t.er)
  refine Rg (Va (dx_loadN rfl ty_agg_25_5 rfl k3.range rfl) rfl rfl ?_)
  refine Ge (dx_cv rfl Tryd.func26 rfl rfl rfl (rprint_all 12 (n + 1) t W10 _ hL (show RdT (n + 1) (w.heap.size :: L) W10 t from ⟨hnt, hit, hct⟩) hzt hrt hwt)) rfl rfl ?_
  rintro _ W15 ⟨rfl, b14⟩
  replace hB := below_then hB b14
  refine Pu rfl (Ni (hK13 (Sq fun K16 hK16 => (Sq fun K17 hK17 => (Rg (Pu rfl (Va (dx_lenT rfl Tryd.underlying9 rfl) rfl rfl ?_)))))))
  refine Va (dx_gtr rfl rfl rfl) rfl rfl (Ni (hK17 ?_))
  refine WC.cond rfl (fun c18 => ?_) (fun c18 => ?_)
  ·
   replace c18 := dT c18
   refine Sq fun K19 hK19 => (Rg (Pu rfl (Pu rfl (Ni (hK19 ?_)))))
   exact WC.ret fun a_ ha_ => hQ (cv_ret2 rfl (.tmp rfl) (.tmp rfl) (by rw [prtX_long hrt (by omega)]) hB ha_)
  ·
   replace c18 := dF c18
   refine WC.skip (hK16 (Sq fun K20 hK20 => (Rg (Pu rfl (Pu rfl (Pu rfl (Ni ?_)))))))
   refine hK20 ?_
   exact WC.ret fun a_ ha_ => hQ (cv_ret2 rfl (.tmp rfl) (.tmp rfl) (by rw [prtX_ok hrt (by omega)]) hB ha_)

set_option maxHeartbeats 1000000 in
theorem rLength_v (n : Nat) (t : Tr) (w : World) (L : List Nat) (hL : LL L w) (ht : RdT (n + 1) L w t)  (hzt : SzT 1000000 (n + 1) t) (hwt : wgT (n + 1) t ≤ 1000000) : CV Tryd.prog 15 [.agg #[.int .i64 t.kind, .int .i64 t.num, .string t.text, t.nv, t.iv]] w fun v W => v = .int .i64 (lenJ t.er) := by
 refine cv_enter (N := 17) (f := [(0, .agg #[.int .i64 t.kind, .int .i64 t.num, .string t.text, t.nv, t.iv])]) Tryd.func15 rfl rfl rfl rfl fun Q hQ hE => ?_
 have hB := Below.refl w.heap.size w
 refine Sq fun K1 hK1 => ?_
 obtain ⟨hnt, hit, hct⟩ := ht
 replace hct : RdTs n (L) w t.items := hct
 refine Rg ?_
 refine Ge (dx_box rfl rfl rfl) rfl rfl ?_
 rintro _ W2 ⟨rfl, k3, b4, z5⟩
 have l6 := hB.size
 replace hnt := hnt.more b4 (Nat.le_refl _)
 replace hit := hit.more b4 (Nat.le_refl _)
 replace hct := hct.more b4 (Nat.le_refl _)
 replace hB := below_then hB b4
 replace hL := LL.more hL z5
 refine Pu rfl (Ni (hK1 (Sq fun K7 hK7 => (Rg (Va (dx_loadN rfl ty_agg_25_5 rfl k3.range rfl) rfl rfl ?_)))))
 refine Ge (dx_cv rfl Tryd.func11 rfl rfl rfl (rPrint_v n t W2 _ hL (show RdT (n + 1) (w.heap.size :: L) W2 t from ⟨hnt, hit, hct⟩) hzt hwt)) rfl rfl ?_
 rintro _ W9 ⟨rfl, b8⟩
 replace hB := below_then hB b8
 refine Pu rfl (Pu rfl (Pu rfl (Pu rfl (Pu rfl (Ni (hK7 (Sq fun K10 hK10 => ?_)))))))
 refine Sq fun K11 hK11 => (Rg (Pu rfl (Ni (hK11 (WC.block (Sq fun K12 hK12 => (Rg ?_)))))))
 refine Va (dx_eql rfl rfl rfl) rfl rfl (Pu rfl (Ni (hK12 ?_)))
 refine WC.cond rfl (fun c13 => ?_) (fun c13 => ?_)
 ·
  replace c13 := dT c13
  refine Sq fun K14 hK14 => (Rg (Pu rfl (Va (dx_lenT rfl Tryd.underlying9 rfl) rfl rfl (Pu rfl (Ni (hK14 ?_))))))
  exact WC.ret fun a_ ha_ => hQ (cv_ret1 rfl (.tmp rfl) (by rw [lenX_0 (by first | assumption | omega)]) hB ha_)
 ·
  replace c13 := dF c13
  refine Sq fun K15 hK15 => (Rg (Va (dx_eql rfl rfl rfl) rfl rfl (Pu rfl (Ni (hK15 ?_)))))
  refine WC.cond rfl (fun c16 => ?_) (fun c16 => ?_)
  ·
   replace c16 := dT c16
   refine Sq fun K17 hK17 => (Rg (Pu rfl (Ni (hK17 ?_))))
   exact WC.ret fun a_ ha_ => hQ (cv_ret1 rfl (.tmp rfl) (by rw [lenX_3 (by first | assumption | omega)]) hB ha_)
  ·
   replace c16 := dF c16
   refine WC.skip (hK10 (Sq fun K18 hK18 => (Rg (Pu rfl (Ni (hK18 ?_))))))
   exact WC.ret fun a_ ha_ => hQ (cv_ret1 rfl (.tmp rfl) (by rw [lenX_1 (by first | assumption | omega) (by first | assumption | omega)]) hB ha_)

set_option maxHeartbeats 1000000 in
theorem rQuote_v (s : ByteArray) (w : World) (L : List Nat) (hL : LL L w)   (hs : s.size ≤ 1000000) : CV Tryd.prog 13 [.string s] w fun v W => v = .tuple #[.string (qtS s).1, .int .i64 (qtS s).2] := by
 refine cv_enter (N := 10) (f := [(0, .string s)]) Tryd.func13 rfl rfl rfl rfl fun Q hQ hE => ?_
 have hB := Below.refl w.heap.size w
 refine Sq fun K1 hK1 => (Rg (Pu rfl (Pu rfl (Ni (hK1 (Sq fun K2 hK2 => (Sq fun K3 hK3 => ?_)))))))
 refine Rg (Pu rfl ?_)
 refine Ge (dx_sb (L := L) rfl Tryd.underlying9 Tryd.underlying42 Tryd.underlying5 rfl hL (by unfold maxLen; omega)) rfl rfl ?_
 rintro u4 W5 ⟨k6, b7⟩
 replace hB := below_then hB b7
 replace hL := LL.below hL b7
 refine Ge (dx_cv rfl Tryd.func29 rfl rfl rfl (refUp_v s _ W5 _ hL k6 (by omega))) rfl rfl ?_
 rintro _ W9 ⟨rfl, b8⟩
 replace hB := below_then hB b8
 replace hL := LL.below hL b8
 refine Va (dx_not rfl rfl) rfl rfl (Ni (hK3 ?_))
 refine WC.cond rfl (fun c10 => ?_) (fun c10 => ?_)
 ·
  replace c10 := bnot_t c10
  refine Sq fun K11 hK11 => (Rg (Pu rfl (Pu rfl (Ni (hK11 ?_)))))
  exact WC.ret fun a_ ha_ => hQ (cv_ret2 rfl (.tmp rfl) (.tmp rfl) (by rw [qt_no (by first | assumption | (simp_all; done))]) hB ha_)
 ·
  replace c10 := bnot_f c10
  refine WC.skip (hK2 (Sq fun K12 hK12 => (Rg (Pu rfl ?_))))
  refine Ge (dx_cv rfl Tryd.func30 rfl rfl rfl (rquote_v s W9 _ hL hs)) rfl rfl ?_
  rintro _ W14 ⟨rfl, b13⟩
  replace hB := below_then hB b13
  refine Pu rfl (Pu rfl (Ni (hK12 ?_)))
  exact WC.ret fun a_ ha_ => hQ (cv_ret2 rfl (.tmp rfl) (.tmp rfl) (by rw [qt_ok (by first | assumption | (simp_all; done))]) hB ha_)

set_option maxHeartbeats 1000000 in
theorem greatX_v (n : Nat) (ts : List Tr) (sv : Value) (w : World) (L : List Nat) (hL : LL L w) (h1 : RdF 5 L w sv (ts.map encT)) (hts : RdTs (n + 1) L w ts)  (hsm : ts.length ≤ 100) : CV Tryd.prog 9 [sv] w fun v W => ∃ b, v = .bool b ∧ (b = false → ∀ t ∈ ts, wgT (n + 1) t ≤ 9000) := by
 refine cv_enter (N := 20) (f := [(0, sv)]) Tryd.func9 rfl rfl rfl rfl fun Q hQ hE => ?_
 have hB := Below.refl w.heap.size w
 have h1m : ts.length ≤ maxLen := by have := h1.len; rwa [List.length_map] at this
 unfold maxLen at h1m
 refine Sq fun K1 hK1 => (Rg (Pu rfl (Ni (hK1 (Sq fun K2 hK2 => (Rg (Pu rfl ?_)))))))
 refine Ni (hK2 (Sq fun K3 hK3 => (Sq fun K4 hK4 => (Rg (Pu rfl (Ni (hK4 ?_)))))))
 refine WC.block ?_
 refine WC.loop2 (fun (i : Nat) (z : Int) => [(0, sv), (4, .int .i64 (i : Int)), (3, .int .i64 z)]) (fun (i : Nat) (z : Int) W => i ≤ ts.length ∧ 0 ≤ z ∧ z ≤ 27003 * (i : Int) ∧ (z ≤ 9000 → ∀ k a, k < i → ts[k]? = some a → wgT (n + 1) a ≤ 9000) ∧ Below w.heap.size w W ∧ LL (L) W ∧ RdF 5 (L) W sv (ts.map encT) ∧ RdTs (n + 1) (L) W ts) (fun (i : Nat) (z : Int) => ts.length - i) 0 0 (by repeat first | exact trivial | exact And.intro rfl trivial | refine And.intro rfl ?_ | refine And.intro (congrArg (fun z : Int => some (Value.int .i64 z)) (by omega)) ?_) ⟨Nat.zero_le _, (by omega), (by omega), (fun _ k a hk => by omega), hB, hL, h1, hts⟩ ?_
 clear h1 hts hB hL
 rintro K5 i z W6 ⟨hi, hz0, hz1, hs, hB, hL, h1, hts⟩ hK5
 refine Sq fun K7 hK7 => (Sq fun K8 hK8 => (Rg (Pu rfl (Pu rfl (Va (dx_lenFM rfl ty_slice_23 rfl h1) rfl rfl (Va (dx_lss rfl rfl rfl) rfl rfl (Ni ?_)))))))
 refine hK8 ?_
 refine WC.cond rfl (fun c9 => ?_) (fun c9 => ?_)
 ·
  replace c9 := dT c9
  refine WC.skip (hK7 (Sq fun K10 hK10 => (WC.block (Rg (Pu rfl (Pu rfl (Pu rfl ?_)))))))
  obtain ⟨r11, e12⟩ : ∃ x, ts[i]? = some x := ⟨_, List.getElem?_eq_getElem (by omega)⟩
  refine Ge (dx_idxF i rfl ty_slice_23 rfl rfl h1 (by omega) (at_mapX e12)) rfl rfl ?_
  rintro u13 _ ⟨rfl, p14⟩
  refine Va (dx_loadPN rfl ty_agg_25_5 rfl p14 rfl) rfl rfl ?_
  refine Ge (dx_cv rfl Tryd.func20 rfl rfl rfl (weighX_all (n + 1) r11 9000 W6 _ hL (hts r11 (List.mem_of_getElem? e12)) (by omega))) rfl rfl ?_
  rintro _ W16 ⟨⟨wz, rfl, hw1, hw2, hws⟩, b15⟩
  replace h1 := h1.below b15
  replace hts := hts.below b15
  replace hB := below_then hB b15
  replace hL := LL.below hL b15
  refine Va (dx_add (r := z + wz) rfl rfl rfl (wrap64_id (by omega))) rfl rfl (Pu rfl (Ni (hK10 (Rg (Pu rfl (Va (dx_add (r := (i : Int) + 1) rfl rfl rfl (wrap64_id (by omega))) rfl rfl (Pu rfl ?_)))))))
  refine Ni ?_
  exact hK5 (i + 1) (z + wz) ⟨(by omega), (by omega), (by omega), (fun hh k a hk ha => by rcases Nat.lt_or_ge k i with hl | hl; exact hs (by omega) k a hl ha; obtain rfl : k = i := (by omega); rw [e12] at ha; cases ha; have q_ := hws (by omega); omega), hB, hL, h1, hts⟩ (by omega) (by repeat first | exact trivial | exact And.intro rfl trivial | refine And.intro rfl ?_ | refine And.intro (congrArg (fun z : Int => some (Value.int .i64 z)) (by omega)) ?_)
 ·
  replace c9 := dF c9
  refine WC.exit ?_
  refine hK3 (Sq fun K17 hK17 => (Rg (Pu rfl (Va (dx_gtr rfl rfl rfl) rfl rfl (Pu rfl (Ni (hK17 ?_)))))))
  exact WC.ret fun a_ ha_ => hQ (cv_ret1 rfl (.tmp rfl) ⟨_, rfl, fun hb t ht => by obtain ⟨k, hk⟩ := List.getElem?_of_mem ht; exact hs (by have := of_decide_eq_false hb; omega) k t (by have := (List.getElem?_eq_some_iff.1 hk).1; omega) hk⟩ hB ha_)

set_option maxHeartbeats 1000000 in
theorem CanonPrints_v (n : Nat) (t : Tr) (s : ByteArray) (w : World) (L : List Nat) (hL : LL L w) (htt : RdT (n + 1) L w t)  (htab : tabP w) : CV Tryd.prog 3 [.agg #[.int .i64 t.kind, .int .i64 t.num, .string t.text, t.nv, t.iv], .string s] w fun v W => v = .bool true := by
 refine cv_enter (N := 68) (f := [(0, .agg #[.int .i64 t.kind, .int .i64 t.num, .string t.text, t.nv, t.iv]), (1, .string s)]) Tryd.func3 rfl rfl rfl rfl fun Q hQ hE => ?_
 have hB := Below.refl w.heap.size w
 refine Sq fun K1 hK1 => ?_
 obtain ⟨hnt, hit, hct⟩ := htt
 replace hct : RdTs n (L) w t.items := hct
 refine Rg ?_
 refine Ge (dx_box rfl rfl rfl) rfl rfl ?_
 rintro _ W2 ⟨rfl, k3, b4, z5⟩
 have l6 := hB.size
 replace hnt := hnt.more b4 (Nat.le_refl _)
 replace hit := hit.more b4 (Nat.le_refl _)
 replace hct := hct.more b4 (Nat.le_refl _)
 replace hB := below_then hB b4
 replace hL := LL.more hL z5
 refine Pu rfl (Ni (hK1 (Sq fun K7 hK7 => (Sq fun K8 hK8 => (Rg ?_)))))
 refine Ge (dx_cv rfl Tryd.func8 rfl rfl rfl (alive_v W2 _ hL (tabP_below htab hB))) rfl rfl ?_
 rintro _ W10 ⟨rfl, b9⟩
 replace hnt := hnt.below b9
 replace hit := hit.below b9
 replace hct := hct.below b9
 replace k3 := k3.below b9
 replace hB := below_then hB b9
 replace hL := LL.below hL b9
 refine Va (dx_not rfl rfl) rfl rfl (Ni (hK8 (WC.condF rfl (WC.skip (hK7 (Sq fun K11 hK11 => (Sq fun K12 hK12 => ?_)))))))
 refine Rg (Va (dx_loadN rfl ty_agg_25_5 rfl k3.range rfl) rfl rfl ?_)
 refine Ge (dx_lit1 (r := [.int .i64 t.kind, .int .i64 t.num, .string t.text, t.nv, t.iv]) rfl ty_ap_23 (by decide) (by decide) rfl rfl rfl) rfl rfl ?_
 rintro u17 W13 ⟨k14, b15, z16⟩
 have l19 := hB.size
 replace hnt := hnt.more b15 (Nat.le_refl _)
 replace hit := hit.more b15 (Nat.le_refl _)
 replace hct := hct.more b15 (Nat.le_refl _)
 replace k3 := k3.below b15
 replace hB := below_then hB b15
 replace hL := LL.more hL z16
 refine Ge (dx_cv rfl Tryd.func9 rfl rfl rfl (greatX_v n [t] _ W13 [] (LL.nil _) (k14.rd (L := []) (by simp)) (fun c hc => by rw [List.mem_singleton.1 hc]; exact ((show RdT (n + 1) (W10.heap.size :: w.heap.size :: L) W13 t from ⟨hnt, hit, hct⟩).less (fun x hx => by cases hx))) (by simp))) rfl rfl ?_
 rintro _ W21 ⟨⟨gb, rfl, hgs⟩, b20⟩
 replace hnt := hnt.below b20
 replace hit := hit.below b20
 replace hct := hct.below b20
 replace k3 := k3.below b20
 replace hB := below_then hB b20
 replace hL := LL.below hL b20
 refine Pu rfl ?_
 refine WL.split 18 rfl (fun g22 => ?_) (fun g22 => ?_)
 ·
  refine Of rfl (Of rfl (Of rfl (Pu rfl (Ni (hK12 (WC.condT rfl (Sq fun K23 hK23 => ?_)))))))
  refine Rg (Pu rfl (Ni (hK23 ?_)))
  exact WC.ret fun a_ ha_ => hQ (cv_ret1 rfl (.tmp rfl) rfl hB ha_)
 ·
  replace g22 := bvar_f g22
  refine Pu rfl (Va (dx_lenT rfl Tryd.underlying9 rfl) rfl rfl (Va (dx_gtr rfl rfl rfl) rfl rfl (Pu rfl (Ni (hK12 ?_)))))
  refine WC.cond rfl (fun c24 => ?_) (fun c24 => ?_)
  ·
   replace c24 := dT c24
   refine Sq fun K25 hK25 => (Rg (Pu rfl (Ni (hK25 ?_))))
   exact WC.ret fun a_ ha_ => hQ (cv_ret1 rfl (.tmp rfl) rfl hB ha_)
  ·
   replace c24 := dF c24
   refine WC.skip (hK11 (Sq fun K26 hK26 => ?_))
   have hw9 := hgs (by first | assumption | exact Bool.eq_false_iff.2 (by assumption) | simp_all) t (.head _)
   have hwt : wgT (n + 1) t ≤ 1000000 := by omega
   have hzt : SzT 1000000 (n + 1) t := sz_of_wg (n + 1) t (show RdT (n + 1) (W10.heap.size :: w.heap.size :: L) W21 t from ⟨hnt, hit, hct⟩) hwt
   have hs6 : s.size ≤ 1000000 := by first | omega | (simp_all; omega)
   refine Rg (Va (dx_loadN rfl ty_agg_25_5 rfl k3.range rfl) rfl rfl ?_)
   refine Ge (dx_cv rfl Tryd.func10 rfl rfl rfl (cPrint_v n t W21 _ hL (show RdT (n + 1) (W10.heap.size :: w.heap.size :: L) W21 t from ⟨hnt, hit, hct⟩) hzt (tabP_below htab hB))) rfl rfl ?_
   rintro _ W28 ⟨rfl, b27⟩
   replace hnt := hnt.below b27
   replace hit := hit.below b27
   replace hct := hct.below b27
   replace k3 := k3.below b27
   replace hB := below_then hB b27
   replace hL := LL.below hL b27
   refine Pu rfl (Pu rfl (Pu rfl (Pu rfl (Pu rfl (Ni (hK26 (Sq fun K29 hK29 => ?_)))))))
   refine Rg (Va (dx_loadN rfl ty_agg_25_5 rfl k3.range rfl) rfl rfl ?_)
   refine Ge (dx_cv rfl Tryd.func11 rfl rfl rfl (rPrint_v n t W28 _ hL (show RdT (n + 1) (W10.heap.size :: w.heap.size :: L) W28 t from ⟨hnt, hit, hct⟩) hzt hwt)) rfl rfl ?_
   rintro _ W31 ⟨rfl, b30⟩
   replace hnt := hnt.below b30
   replace hit := hit.below b30
   replace hct := hct.below b30
   replace k3 := k3.below b30
   replace hB := below_then hB b30
   replace hL := LL.below hL b30
   refine Pu rfl (Pu rfl (Pu rfl (Pu rfl (Pu rfl (Ni (hK29 (Sq fun K32 hK32 => ?_)))))))
   refine Rg (Pu rfl ?_)
   refine Ge (dx_cv rfl Tryd.func12 rfl rfl rfl (cQuote_v s W31 _ hL hs6)) rfl rfl ?_
   rintro _ W34 ⟨rfl, b33⟩
   replace hnt := hnt.below b33
   replace hit := hit.below b33
   replace hct := hct.below b33
   replace k3 := k3.below b33
   replace hB := below_then hB b33
   replace hL := LL.below hL b33
   refine Pu rfl (Pu rfl (Pu rfl (Pu rfl (Pu rfl (Ni (hK32 (Sq fun K35 hK35 => ?_)))))))
   refine Rg (Pu rfl ?_)
   refine Ge (dx_cv rfl Tryd.func13 rfl rfl rfl (rQuote_v s W34 _ hL hs6)) rfl rfl ?_
   rintro _ W37 ⟨rfl, b36⟩
   replace hnt := hnt.below b36
   replace hit := hit.below b36
   replace hct := hct.below b36
   replace k3 := k3.below b36
   replace hB := below_then hB b36
   replace hL := LL.below hL b36
   refine Pu rfl (Pu rfl (Pu rfl (Pu rfl (Pu rfl (Ni (hK35 (Sq fun K38 hK38 => ?_)))))))
   refine WC.drawM 25 [(some 43, .is (.string ((prtS t.er).1))), (some 44, .is (.string ((prtS t.er).1))), (some 45, .is (.bool true)), (some 46, .is (.bool true)), (some 47, .is (.int .i64 ((prtS t.er).2))), (some 48, .is (.int .i64 ((prtS t.er).2))), (some 49, .is (.bool true)), (some 50, .is (.bool true)), (some 51, .is (.bool true)), (some 52, .is (.string ((qtS s).1))), (some 53, .is (.string ((qtS s).1))), (some 54, .is (.bool true)), (some 55, .is (.bool true)), (some 56, .is (.bool true)), (some 57, .is (.int .i64 ((qtS s).2))), (some 58, .is (.int .i64 ((qtS s).2))), (some 59, .is (.bool true)), (some 60, .is (.bool true)), (some 61, .is (.bool true)), (some 62, .is (.agg #[.int .i64 t.kind, .int .i64 t.num, .string t.text, t.nv, t.iv])), (some 63, .is (.int .i64 (lenJ t.er))), (some 64, .is (.agg #[.int .i64 t.kind, .int .i64 t.num, .string t.text, t.nv, t.iv])), (some 65, .is (.int .i64 (lenJ t.er))), (some 66, .is (.bool true)), (some 67, .is (.bool true))] [[], [], [0, 1], [2], [3], [3], [4, 5, 3], [3, 6], [7, 3], [8], [8], [9, 10, 8], [8, 11], [12, 8], [13], [13], [14, 15, 13], [13, 16], [17, 13], [18], [19, 18, 18], [18], [21, 20, 18], [20, 22, 18], [18, 23]] (by kernel_rfl) (by kernel_rfl) (by kernel_rfl) (by kernel_rfl) (by kernel_rfl) (by kernel_rfl) (by kernel_rfl) (by exact trivial) ?_ ?_
   ·
    refine Dc (fun Wd hd => ?_) ?_
    ·
     exact Dd (dx_move rfl rfl) rfl
    refine Dc (fun Wd hd => ?_) ?_
    ·
     exact Dd (dx_move rfl rfl) rfl
    refine Dc (fun Wd hd => ?_) ?_
    ·
     exact Dd (dv_T (dx_eqlT rfl rfl rfl) rfl) rfl
    refine Dc (fun Wd hd => ?_) ?_
    ·
     exact Dd (dx_move rfl rfl) rfl
    refine Dc (fun Wd hd => ?_) ?_
    ·
     exact Dd (dx_move rfl rfl) rfl
    refine Dc (fun Wd hd => ?_) ?_
    ·
     exact Dd (dx_move rfl rfl) rfl
    refine Dc (fun Wd hd => ?_) ?_
    ·
     exact Dd (dv_T (dx_eql rfl rfl rfl) rfl) rfl
    refine Dc (fun Wd hd => ?_) ?_
    ·
     exact Dd (dx_pick rfl rfl rfl) rfl
    refine Dc (fun Wd hd => ?_) ?_
    ·
     exact Dd (dx_move rfl rfl) rfl
    refine Dc (fun Wd hd => ?_) ?_
    ·
     exact Dd (dx_move rfl rfl) rfl
    refine Dc (fun Wd hd => ?_) ?_
    ·
     exact Dd (dx_move rfl rfl) rfl
    refine Dc (fun Wd hd => ?_) ?_
    ·
     exact Dd (dv_T (dx_eqlT rfl rfl rfl) rfl) rfl
    refine Dc (fun Wd hd => ?_) ?_
    ·
     exact Dd (dx_pick rfl rfl rfl) rfl
    refine Dc (fun Wd hd => ?_) ?_
    ·
     exact Dd (dx_move rfl rfl) rfl
    refine Dc (fun Wd hd => ?_) ?_
    ·
     exact Dd (dx_move rfl rfl) rfl
    refine Dc (fun Wd hd => ?_) ?_
    ·
     exact Dd (dx_move rfl rfl) rfl
    refine Dc (fun Wd hd => ?_) ?_
    ·
     exact Dd (dv_T (dx_eql rfl rfl rfl) rfl) rfl
    refine Dc (fun Wd hd => ?_) ?_
    ·
     exact Dd (dx_pick rfl rfl rfl) rfl
    refine Dc (fun Wd hd => ?_) ?_
    ·
     exact Dd (dx_move rfl rfl) rfl
    refine Dc (fun Wd hd => ?_) ?_
    ·
     have k3 := k3.below hd
     exact Dd (dx_loadN rfl ty_agg_25_5 rfl k3.range rfl) rfl
    refine Dc (fun Wd hd => ?_) ?_
    ·
     have hnt := hnt.below hd
     have hit := hit.below hd
     have hct := hct.below hd
     exact DR.mono (dx_cv rfl Tryd.func14 rfl rfl rfl (cLength_v n t Wd _ (LL.below hL hd) (show RdT (n + 1) (W10.heap.size :: w.heap.size :: L) Wd t from ⟨hnt, hit, hct⟩) hzt (tabP_below htab (below_then hB hd)))) (fun v W' ⟨h, hb⟩ => ⟨hb, (by rw [h]; exact rfl)⟩)
    refine Dc (fun Wd hd => ?_) ?_
    ·
     have k3 := k3.below hd
     exact Dd (dx_loadN rfl ty_agg_25_5 rfl k3.range rfl) rfl
    refine Dc (fun Wd hd => ?_) ?_
    ·
     have hnt := hnt.below hd
     have hit := hit.below hd
     have hct := hct.below hd
     exact DR.mono (dx_cv rfl Tryd.func15 rfl rfl rfl (rLength_v n t Wd _ (LL.below hL hd) (show RdT (n + 1) (W10.heap.size :: w.heap.size :: L) Wd t from ⟨hnt, hit, hct⟩) hzt hwt)) (fun v W' ⟨h, hb⟩ => ⟨hb, (by rw [h]; exact rfl)⟩)
    refine Dc (fun Wd hd => ?_) ?_
    ·
     exact Dd (dv_T (dx_eql rfl rfl rfl) rfl) rfl
    refine Dc (fun Wd hd => ?_) ?_
    ·
     exact Dd (dx_pick rfl rfl rfl) rfl
    exact trivial
   ·
    intro W39 b40
    replace hB := below_then hB b40
    refine Pu rfl (Ni (hK38 ?_))
    exact WC.ret fun a_ ha_ => hQ (cv_ret1 rfl (.tmp rfl) rfl hB ha_)

end Go.Proofs.YtghpdnfdbhjmpaaDoor
