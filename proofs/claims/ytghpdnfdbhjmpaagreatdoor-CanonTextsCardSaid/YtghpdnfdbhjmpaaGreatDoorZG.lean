/- What the laws of printing want. What is canonical; trees that are too great; a fixed fact. What Weigh counts, and how long a text is. The text of a tr -/
import Derived.Test.YtghpdnfdbhjmpaaGreatDoorZF
namespace Go.Proofs.YtghpdnfdbhjmpaaGreatDoor
open Go.RowKit
set_option linter.unusedVariables false
set_option linter.unusedSimpArgs false
set_option maxRecDepth 8000
set_option maxHeartbeats 2000000

theorem esc_hi {c : Int} (h : 128 ≤ c) : escJ c = [c] := by unfold escJ; rw [if_neg (by omega), if_neg (by omega), if_neg (by omega), if_neg (by omega), if_neg (by omega), if_neg (by omega), if_neg (by omega)]
theorem ok_low : ∀ l : List Int, (∀ x ∈ l, 0 ≤ x ∧ x < 128) → OKL l
 | [], _ => ok_nil
 | c :: l, h => by
  have h1 := ok_one (h c (.head _)).1 (h c (.head _)).2
  have := h1.app (ok_low l fun x hx => h x (.tail _ hx))
  simpa using this
theorem esc_low {c : Int} (h0 : 0 ≤ c) (h : c < 128) : ∀ x ∈ escJ c, 0 ≤ x ∧ x < 128 := by
 unfold escJ
 repeat' split
 all_goals (intro x hx; simp only [List.mem_cons, List.not_mem_nil, or_false] at hx)
 · omega
 · omega
 · omega
 · omega
 · omega
 · omega
 · unfold hexL at hx; rcases hx with h1 | h1 | h1 | h1 | h1 | h1 <;> (try split at h1) <;> omega
 · omega
theorem flat_id {l : List Int} (h : ∀ c ∈ l, escJ c = [c]) : l.flatMap escJ = l := flat_plain h
theorem ok_esc : ∀ (rs l : List Int), encS rs = some l → OKL (l.flatMap escJ)
  | [], l, h => by cases h; exact ok_nil
  | r :: t, l, h => by
    obtain ⟨hr, ts, ht, rfl⟩ := enc_split h
    rw [List.flatMap_append]
    refine OKL.app ?_ (ok_esc t ts ht)
    have hrange := isRune_range hr
    by_cases hc : r < 128
    · rw [encI1 hc, List.flatMap_cons, List.flatMap_nil, List.append_nil]
      exact ok_low _ (esc_low hrange.1 hc)
    · rw [flat_id fun c hx => esc_hi (enc_hi (by omega) c hx)]
      exact ok_rune hr
theorem ok_quo {s : ByteArray} (h : upB s = true) : OKL (quoJ s) := by
 obtain ⟨rs, hrs⟩ := ok_of_up h
 have := (ok_one (c := 34) (by decide) (by decide)).app ((ok_esc rs _ hrs).app (ok_one (c := 34) (by decide) (by decide)))
 exact this
theorem ok_num (n : Int) : OKL (numJ n) := by
  have d : ∀ u, ∀ x ∈ decL u, 0 ≤ x ∧ x < 128 := fun u x hx => by have := isDig_le ((decL_spec u).1 x hx); omega
  unfold numJ
  split
  · exact ok_low _ fun x hx => by
      rcases List.mem_cons.1 hx with rfl | hx
      · decide
      · exact d _ x hx
  · exact ok_low _ (d _)
theorem ok_comma {ps : List (List Int)} (h : ∀ p ∈ ps, OKL p) : OKL (commaJ ps) := by
 cases ps with
 | nil => exact ok_nil
 | cons x l =>
  refine OKL.app (h x (.head _)) ?_
  have : ∀ l : List (List Int), (∀ p ∈ l, OKL p) → OKL (l.flatMap fun y => 44 :: y) := fun l => by
   induction l with
   | nil => exact fun _ => ok_nil
   | cons y l ih =>
    intro hl
    rw [List.flatMap_cons]
    exact ((ok_one (c := 44) (by decide) (by decide)).app (hl y (.head _))).app (ih fun p hp => hl p (.tail _ hp))
  exact this l fun p hp => h p (.tail _ hp)
theorem ok_leaf {j : Js} (h : leafJ upB j = true) : OKL (leafP j) := by
 obtain ⟨_, _, ⟨e, _⟩ | ⟨e, _, hu⟩ | ⟨e | e | e, _⟩⟩ := leaf_cases h
 · rw [leafP_3 e]; exact ok_num _
 · rw [leafP_4 e]; exact ok_quo hu
 · rw [leafP_0 e]; exact ok_low _ (by decide)
 · rw [leafP_1 e]; exact ok_low _ (by decide)
 · rw [leafP_2 e]; exact ok_low _ (by decide)
theorem node_up {j : Js} (h : nodeJ upB j = true) (hk : j.kind = 6) : ∀ a ∈ j.names, upB a = true := by
 unfold nodeJ at h
 simp only [Bool.and_eq_true, Bool.or_eq_true, decide_eq_true_eq, List.all_eq_true] at h
 rcases h.2 with h | h
 · omega
 · exact h.2.2.2
theorem ok_pr : ∀ (n : Nat) (j : Js), rightJ upB n j = true → OKL (prJ n j)
  | 0, j, h => by rw [rightJ] at h; exact ok_leaf h
  | n + 1, j, h => by
    rw [rightJ, Bool.or_eq_true] at h
    rcases h with h | h
    · rw [leaf_pr h]; exact ok_leaf h
    · rw [Bool.and_eq_true, List.all_eq_true] at h
      have c : ∀ x : Int, 0 ≤ x → x < 128 → OKL [x] := fun x h0 h1 => ok_one h0 h1
      rcases node_kind h.1 with hk | hk
      · rw [prJ_5 hk]
        exact (c 91 (by decide) (by decide)).app ((ok_comma fun p hp => by obtain ⟨x, hx, rfl⟩ := List.mem_map.1 hp; exact ok_pr n x (h.2 x hx)).app (c 93 (by decide) (by decide)))
      · rw [prJ_6 hk]
        refine (c 123 (by decide) (by decide)).app ((ok_comma fun p hp => ?_).app (c 125 (by decide) (by decide)))
        obtain ⟨x, hx, rfl⟩ := List.mem_map.1 hp
        have hm := List.of_mem_zip hx
        exact (ok_quo (node_up h.1 hk x.1 hm.1)).app ((c 58 (by decide) (by decide)).app (ok_pr n x.2 (h.2 x.2 hm.2)))
theorem textJ_ok {j : Js} (h : rightJ upB 12 j = true) : OKL (textJ j) := ok_pr 12 j h
theorem print_parse {j : Js} (h : (prtS j).2 = 0) : rightJ upB 12 j = true ∧ (prtS j).1 = strOfNums (textJ j) ∧ parJ (prtS j).1 = .ok j := by
  unfold prtS at h ⊢
  by_cases hr : rightJ upB 12 j = true
  · rw [if_pos hr] at h ⊢
    by_cases hl : 8192 < (textJ j).length
    · rw [if_pos hl] at h; cases h
    · rw [if_neg hl]
      have ho := textJ_ok hr
      have hs : sb (strOfNums (textJ j)) = textJ j := sb_strOf ho.bytes
      exact ⟨hr, rfl, par_pr hr hs (by rw [← sb_length, hs]; omega) (up_of_ok ho)⟩
  · rw [if_neg hr] at h; cases h
def canS (s : ByteArray) : Bool := match parJ s with
 | .ok j => decide ((prtS j).2 = 0) && decide ((prtS j).1 = s)
 | .error _ => false
theorem can_e {s : ByteArray} {e : Int} (h : parJ s = .error e) : canS s = false := by unfold canS; rw [h]
theorem can_k {s : ByteArray} {j : Js} (h : parJ s = .ok j) : canS s = (decide ((prtS j).2 = 0) && decide ((prtS j).1 = s)) := by unfold canS; rw [h]
theorem can_p {j : Js} (h : (prtS j).2 = 0) : canS (prtS j).1 = true := by
 obtain ⟨_, _, h3⟩ := print_parse h
 rw [can_k h3, decide_eq_true h, decide_eq_true rfl]; rfl
def MkQ (x : Except Int Js) (t : Tr) (e : Int) : Prop := (e = 0 ∧ x = .ok t.er) ∨ (e ≠ 0 ∧ x = .error e ∧ t = leafT 0 0 ⟨#[]⟩)
theorem jPar_u (s : ByteArray) (w : World) (L : List Nat) (hL : LL L w) : CV Tryz.prog 7 [.string s] w fun v W => ∃ (t : Tr) (e : Int), v = .tuple #[.agg #[.int .i64 t.kind, .int .i64 t.num, .string t.text, t.nv, t.iv], .int .i64 e] ∧ MkQ (parJ s) t e ∧ RdT 13 L W t :=
 (jParse_v s w L hL).mono fun v W _ k => by
  rcases k with ⟨t, e1, e2, e3⟩ | ⟨e, e1, e0, e2⟩
  · exact ⟨t, 0, e1, .inl ⟨rfl, e2⟩, e3⟩
  · exact ⟨leafT 0 0 ⟨#[]⟩, e, e1, .inr ⟨e0, e2, rfl⟩, leaf_rd _ _ _ _ _ _⟩
theorem mkQ_0 {x : Except Int Js} {t : Tr} {e : Int} (h : MkQ x t e) (h0 : e = 0) : x = .ok t.er := by
 rcases h with ⟨_, h⟩ | ⟨h1, _⟩
 · exact h
 · exact absurd h0 h1
theorem mkQ_1 {x : Except Int Js} {t : Tr} {e : Int} (h : MkQ x t e) (h0 : ¬ e = 0) : x = .error e := by
 rcases h with ⟨h1, _⟩ | ⟨_, h, _⟩
 · exact absurd h1 h0
 · exact h
theorem sz_par {s : ByteArray} {t : Tr} (h : parJ s = .ok t.er) : SzT 1000000 13 t := szT_J.2 (par_ok h).2
set_option maxHeartbeats 1000000 in
theorem canon_v (s : ByteArray) (w : World) (L : List Nat) (hL : LL L w)   (htab : tabP w) : CV Tryz.prog 5 [.string s] w fun v W => v = .bool (canS s) := by
 refine cv_enter (N := 25) (f := [(0, .string s)]) Tryz.func5 rfl rfl rfl rfl fun Q hQ hE => ?_
 have hB := Below.refl w.heap.size w
 refine Sq fun K1 hK1 => (Rg (Pu rfl (Ni (hK1 (Sq fun K2 hK2 => (Rg (Pu rfl ?_)))))))
 refine Ge (dx_cv rfl Tryz.func7 rfl rfl rfl (jPar_u s w _ hL)) rfl rfl ?_
 rintro _ W4 ⟨⟨t, e, rfl, hte, ht⟩, b3⟩
 replace hB := below_then hB b3
 replace hL := LL.below hL b3
 refine Pu rfl (Pu rfl (Pu rfl ?_))
 refine Ge (dx_alloc rfl ty_zero_27 rfl) rfl rfl ?_
 rintro _ W5 ⟨rfl, k6, b7, z8⟩
 have l9 := hB.size
 replace ht := ht.more b7 (Nat.le_refl _)
 replace hB := below_then hB b7
 replace hL := LL.more hL z8
 refine WL.do (dx_store (cs' := [.int .i64 t.kind, .int .i64 t.num, .string t.text, t.nv, t.iv]) (vs := [.int .i64 t.kind, .int .i64 t.num, .string t.text, t.nv, t.iv]) rfl ty_size_27_5 rfl rfl rfl (oC rfl (oC rfl (oC rfl (oC (ht.1).one (oC (ht.2.1).one oc_nil))))) k6 rfl (nB rfl) rfl) rfl ?_
 rintro _ W10 ⟨k12, o11⟩
 clear k6
 replace ht := ht.only o11 (.head _)
 replace hB := o11.below hB l9
 replace hL := LL.only hL o11
 refine Pu rfl (Ni (hK2 (Sq fun K13 hK13 => (Sq fun K14 hK14 => (Rg (Pu rfl (Va (dx_neq rfl rfl rfl) rfl rfl ?_)))))))
 refine Ni (hK14 ?_)
 refine WC.cond rfl (fun c15 => ?_) (fun c15 => ?_)
 ·
  replace c15 := bnot_t c15
  replace c15 := dF c15
  refine Sq fun K16 hK16 => ?_
  have hpe := mkQ_1 hte (by first | assumption | omega)
  refine Rg (Pu rfl (Ni (hK16 ?_)))
  exact WC.ret fun a_ ha_ => hQ (cv_ret1 rfl (.tmp rfl) (by rw [can_e hpe]) hB ha_)
 ·
  replace c15 := bnot_f c15
  replace c15 := dT c15
  refine WC.skip (hK13 (Sq fun K17 hK17 => ?_))
  have hpk := mkQ_0 hte (by first | assumption | omega)
  refine Rg (Va (dx_loadN rfl ty_agg_27_5 rfl k12.range rfl) rfl rfl ?_)
  refine Ge (dx_cv rfl Tryz.func8 rfl rfl rfl (cPrint_v 12 t W10 _ hL ht (sz_par hpk) (tabP_below htab hB))) rfl rfl ?_
  rintro _ W19 ⟨rfl, b18⟩
  replace hB := below_then hB b18
  refine Pu rfl (Pu rfl (Pu rfl (Pu rfl (Pu rfl (Ni (hK17 (Sq fun K20 hK20 => ?_)))))))
  refine Rg (Pu rfl (Va (dx_eql rfl rfl rfl) rfl rfl (Pu rfl ?_)))
  refine WL.split 20 rfl (fun g21 => ?_) (fun g21 => ?_)
  ·
   replace g21 := dT g21
   refine Pu rfl (Pu rfl (Va (dx_eqlT rfl rfl rfl) rfl rfl (Pu rfl (Pu rfl (Ni (hK20 ?_))))))
   exact WC.ret fun a_ ha_ => hQ (cv_ret1 rfl (.tmp rfl) (by rw [can_k hpk, decide_eq_true (show (prtS t.er).2 = 0 by assumption)]; rfl) hB ha_)
  ·
   replace g21 := dF g21
   refine Of rfl (Of rfl (Of rfl (Pu rfl (Pu rfl (Ni (hK20 ?_))))))
   exact WC.ret fun a_ ha_ => hQ (cv_ret1 rfl (.tmp rfl) (by rw [can_k hpk, decide_eq_false (show ¬ (prtS t.er).2 = 0 by assumption)]; rfl) hB ha_)

def jA : Js := .mk 6 0 ⟨#[]⟩ [⟨#[97]⟩, ⟨#[98]⟩] [.mk 4 0 ⟨#[195, 169, 47, 1]⟩ [] [], .mk 3 1 ⟨#[]⟩ [] []]
theorem pa1 : parJ { data := #[123, 34, 98, 34, 58, 49, 44, 34, 97, 34, 58, 34, 92, 117, 48, 48, 101, 57, 47, 92, 117, 48, 48, 48, 49, 34, 125] } = .ok jA := by kernel_rfl
theorem pa2 : parJ { data := #[32, 49] } = .ok (.mk 3 1 ⟨#[]⟩ [] []) := by kernel_rfl
theorem num1 : numJ 1 = [49] := by
 unfold numJ decL
 rw [if_neg (by decide), show (1 : Int).toNat = 1 from rfl, Lib.decDigits]; rfl
theorem rA : rightJ upB 12 jA = true := by kernel_rfl
theorem tA : textJ jA = [123, 34, 97, 34, 58, 34, 195, 169, 47, 92, 117, 48, 48, 48, 49, 34, 44, 34, 98, 34, 58, 49, 125] := by
 have e : textJ jA = [123, 34, 97, 34, 58, 34, 195, 169, 47, 92, 117, 48, 48, 48, 49, 34, 44, 34, 98, 34, 58] ++ (numJ 1 ++ [125]) := by
  unfold textJ jA
  rw [prJ_6 rfl]
  show 123 :: (commaJ [quoJ ⟨#[97]⟩ ++ (58 :: prJ 11 (.mk 4 0 ⟨#[195, 169, 47, 1]⟩ [] [])), quoJ ⟨#[98]⟩ ++ (58 :: prJ 11 (.mk 3 1 ⟨#[]⟩ [] []))] ++ [125]) = _
  rw [pr_leaf (j := .mk 4 0 _ _ _) (by show ¬ (4 : Int) = 5; decide) (by show ¬ (4 : Int) = 6; decide), leafP_4 rfl, pr_leaf (j := .mk 3 1 _ _ _) (by show ¬ (3 : Int) = 5; decide) (by show ¬ (3 : Int) = 6; decide), leafP_3 rfl]
  show 123 :: (commaJ [quoJ ⟨#[97]⟩ ++ (58 :: quoJ ⟨#[195, 169, 47, 1]⟩), quoJ ⟨#[98]⟩ ++ (58 :: numJ 1)] ++ [125]) = _
  rw [num1]; kernel_rfl
 rw [e, num1]; rfl
theorem prA : prtS jA = ({ data := #[123, 34, 97, 34, 58, 34, 195, 169, 47, 92, 117, 48, 48, 48, 49, 34, 44, 34, 98, 34, 58, 49, 125] }, 0) := by
 unfold prtS
 rw [if_pos rA, tA, if_neg (by decide)]; kernel_rfl
theorem canB : canS { data := #[123, 34, 97, 34, 58, 34, 195, 169, 47, 92, 117, 48, 48, 48, 49, 34, 44, 34, 98, 34, 58, 49, 125] } = true := by
 have h0 : (prtS jA).2 = 0 := by rw [prA]
 have := can_p h0
 rwa [prA] at this
theorem canD : canS { data := #[32, 49] } = false := by
 rw [can_k pa2]
 have e : textJ (.mk 3 1 ⟨#[]⟩ [] []) = [49] := by
  unfold textJ
  rw [pr_leaf (j := .mk 3 1 ⟨#[]⟩ [] []) (by show ¬ (3 : Int) = 5; decide) (by show ¬ (3 : Int) = 6; decide), leafP_3 rfl]; exact num1
 have r1 : rightJ upB 12 (.mk 3 1 ⟨#[]⟩ [] []) = true := by kernel_rfl
 have h : prtS (.mk 3 1 ⟨#[]⟩ [] []) = (strOfNums [49], 0) := by
  unfold prtS
  rw [if_pos r1, e, if_neg (by decide)]
 rw [h]
 show (decide ((0 : Int) = 0) && decide (strOfNums [49] = { data := #[32, 49] })) = false
 kernel_rfl
theorem alP_v (w : World) (L : List Nat) (hL : LL L w) : CV Tryz.prog 7 [.string { data := #[123, 34, 98, 34, 58, 49, 44, 34, 97, 34, 58, 34, 92, 117, 48, 48, 101, 57, 47, 92, 117, 48, 48, 48, 49, 34, 125] }] w fun v W => ∃ t, v = .tuple #[.agg #[.int .i64 t.kind, .int .i64 t.num, .string t.text, t.nv, t.iv], .int .i64 0] ∧ t.er = jA ∧ RdT 13 L W t :=
  (jParse_v { data := #[123, 34, 98, 34, 58, 49, 44, 34, 97, 34, 58, 34, 92, 117, 48, 48, 101, 57, 47, 92, 117, 48, 48, 48, 49, 34, 125] } w L hL).mono fun v W _ h => by
    rcases h with ⟨t, rfl, h1, h2⟩ | ⟨e, rfl, h0, h1⟩
    · rw [pa1] at h1
      exact ⟨t, rfl, (Except.ok.inj h1).symm, h2⟩
    · rw [pa1] at h1; cases h1
theorem alQ_v (t : Tr) (w : World) (L : List Nat) (hL : LL L w) (ht : RdT 13 L w t) (he : t.er = jA) (htab : tabP w) : CV Tryz.prog 8 [.agg #[.int .i64 t.kind, .int .i64 t.num, .string t.text, t.nv, t.iv]] w fun v W => v = .tuple #[.string { data := #[123, 34, 97, 34, 58, 34, 195, 169, 47, 92, 117, 48, 48, 48, 49, 34, 44, 34, 98, 34, 58, 49, 125] }, .int .i64 0] := by
 have := cPrint_v 12 t w L hL ht (szT_J.2 (by rw [he]; exact (par_ok pa1).2)) htab
 rw [he, prA] at this
 exact this
theorem alC_v (s : ByteArray) (b : Bool) (h : canS s = b) (w : World) (L : List Nat) (hL : LL L w) (htab : tabP w) : CV Tryz.prog 5 [.string s] w fun v W => v = .bool b := h ▸ canon_v s w L hL htab
set_option maxHeartbeats 1000000 in
theorem alive_v  (w : World) (L : List Nat) (hL : LL L w)   (htab : tabP w) : CV Tryz.prog 4 [] w fun v W => v = .bool true := by
 refine cv_enter (N := 32) (f := []) Tryz.func4 rfl rfl rfl rfl fun Q hQ hE => ?_
 have hB := Below.refl w.heap.size w
 refine Sq fun K1 hK1 => (Rg (Pu rfl (Ni (hK1 (Sq fun K2 hK2 => (Rg ?_))))))
 refine Ge (dx_cv rfl Tryz.func7 rfl rfl rfl (alP_v w _ hL)) rfl rfl ?_
 rintro _ W4 ⟨⟨t, rfl, hte, ht⟩, b3⟩
 replace hB := below_then hB b3
 replace hL := LL.below hL b3
 refine Pu rfl (Pu rfl (Pu rfl ?_))
 refine Ge (dx_alloc rfl ty_zero_27 rfl) rfl rfl ?_
 rintro _ W5 ⟨rfl, k6, b7, z8⟩
 have l9 := hB.size
 replace ht := ht.more b7 (Nat.le_refl _)
 replace hB := below_then hB b7
 replace hL := LL.more hL z8
 refine WL.do (dx_store (cs' := [.int .i64 t.kind, .int .i64 t.num, .string t.text, t.nv, t.iv]) (vs := [.int .i64 t.kind, .int .i64 t.num, .string t.text, t.nv, t.iv]) rfl ty_size_27_5 rfl rfl rfl (oC rfl (oC rfl (oC rfl (oC (ht.1).one (oC (ht.2.1).one oc_nil))))) k6 rfl (nB rfl) rfl) rfl ?_
 rintro _ W10 ⟨k12, o11⟩
 clear k6
 replace ht := ht.only o11 (.head _)
 replace hB := o11.below hB l9
 replace hL := LL.only hL o11
 refine Pu rfl (Ni (hK2 (Sq fun K13 hK13 => (Rg (Va (dx_loadN rfl ty_agg_27_5 rfl k12.range rfl) rfl rfl ?_)))))
 refine Ge (dx_cv rfl Tryz.func8 rfl rfl rfl (alQ_v t W10 _ hL ht hte (tabP_below htab hB))) rfl rfl ?_
 rintro _ W15 ⟨rfl, b14⟩
 replace hB := below_then hB b14
 replace hL := LL.below hL b14
 refine Pu rfl (Pu rfl (Pu rfl (Pu rfl (Pu rfl (Ni (hK13 (Sq fun K16 hK16 => ?_)))))))
 refine Rg (Pu rfl (Va (dx_eql rfl rfl rfl) rfl rfl (Pu rfl (Pu rfl (Va (dx_eql rfl rfl rfl) rfl rfl (Pu rfl (Pu rfl ?_)))))))
 refine Pu rfl (Va (dv_T (dx_eqlT rfl rfl rfl) rfl) rfl rfl (Pu rfl (Pu rfl (Pu rfl ?_))))
 refine Ge (dx_cv rfl Tryz.func5 rfl rfl rfl (alC_v ({ data := #[123, 34, 97, 34, 58, 34, 195, 169, 47, 92, 117, 48, 48, 48, 49, 34, 44, 34, 98, 34, 58, 49, 125] }) true canB W15 _ hL (tabP_below htab hB))) rfl rfl ?_
 rintro _ W18 ⟨rfl, b17⟩
 replace hB := below_then hB b17
 replace hL := LL.below hL b17
 refine Pu rfl (Pu rfl ?_)
 refine Ge (dx_cv rfl Tryz.func5 rfl rfl rfl (alC_v ({ data := #[32, 49] }) false canD W18 _ hL (tabP_below htab hB))) rfl rfl ?_
 rintro _ W20 ⟨rfl, b19⟩
 replace hB := below_then hB b19
 refine Va (dx_not rfl rfl) rfl rfl (Pu rfl (Pu rfl (Ni (hK16 ?_))))
 exact WC.ret fun a_ ha_ => hQ (cv_ret1 rfl (.tmp rfl) rfl hB ha_)

theorem comma_sum : ∀ (ps : List (List Int)), (commaJ ps).length ≤ (ps.map fun p => p.length + 1).sum
 | [] => Nat.zero_le _
 | x :: l => by
  have : ∀ l : List (List Int), (l.flatMap fun y => 44 :: y).length = (l.map fun p => p.length + 1).sum := fun l => by
   induction l with
   | nil => rfl
   | cons y l ih => rw [List.flatMap_cons, List.length_append, ih, List.map_cons, List.sum_cons]; rfl
  rw [commaJ, List.length_append, this, List.map_cons, List.sum_cons]; omega
theorem sum_le {α : Type} {f g : α → Nat} : ∀ {xs : List α}, (∀ x ∈ xs, f x ≤ g x) → (xs.map f).sum ≤ (xs.map g).sum
 | [], _ => Nat.le_refl _
 | y :: l, h => by
  rw [List.map_cons, List.map_cons, List.sum_cons, List.sum_cons]
  have := h y (.head _)
  have := sum_le (f := f) (g := g) (xs := l) fun x hx => h x (.tail _ hx)
  omega
theorem zip_sum {α β : Type} {f : α → Nat} {g : β → Nat} : ∀ {xs : List α} {ys : List β}, ((xs.zip ys).map fun p => f p.1 + g p.2).sum ≤ (xs.map f).sum + (ys.map g).sum
 | [], ys => by simp
 | x :: xs, [] => by simp
 | x :: xs, y :: ys => by
  rw [List.zip_cons_cons, List.map_cons, List.map_cons, List.map_cons, List.sum_cons, List.sum_cons, List.sum_cons]
  have := zip_sum (f := f) (g := g) (xs := xs) (ys := ys)
  show f x + g y + _ ≤ _
  omega
theorem memS_ok1 {σ : Type} {s : ByteArray} {one : Nat → σ → Except Int (σ × Nat)} {la : Int} {I : Nat → σ → Prop} (hI : ∀ k k' st, I k st → k ≤ k' → I k' st) (h1 : ∀ k st st' k', k ≤ s.size → I k st → one k st = .ok (st', k') → I k' st' ∧ k < k' ∧ k' ≤ s.size) {k k' : Nat} {st st' : σ} (hk : k < s.size) (hi : I (k + 1) st) (h : memS s one la k st = .ok (st', k')) : I k' st' ∧ k < k' ∧ k' ≤ s.size := by
  unfold memS at h
  have hb := blankS_le (s := s) (k := k + 1) (by omega)
  split at h
  · rename_i hq
    have hq := take_t hq
    cases h
    exact ⟨hI _ _ _ hi (by omega), by omega, by omega⟩
  · obtain ⟨p, q, r⟩ := memL_ok hI h1 _ _ _ _ _ hb.2 (hI _ _ _ hi (by omega)) h
    exact ⟨p, by omega, r⟩
theorem sum_insA {α : Type} {f : α → Nat} {i : Nat} {x : α} {l : List α} : ((insA i x l).map f).sum = f x + (l.map f).sum := by
 have e := congrArg (fun l => (l.map f).sum) (List.take_append_drop i l)
 simp only [List.map_append, List.sum_append] at e
 unfold insA
 rw [List.map_append, List.map_append, List.sum_append, List.sum_append, List.map_cons, List.map_nil, List.sum_cons, List.sum_nil]
 omega
def VLn (s : ByteArray) (n : Nat) (vs : Nat → Except Int (Js × Nat)) : Prop := ∀ k j k', k ≤ s.size → vs k = .ok (j, k') → (prJ n j).length + 1 ≤ 30 * (k' - k)
section
variable {s : ByteArray} {n : Nat} {vs : Nat → Except Int (Js × Nat)} {k k' : Nat} {j : Js}
theorem list_len (hv : VOk s n vs) (hn : VLn s n vs) (hk : k < s.size) (h : listS s vs k = .ok (j, k')) : (prJ (n + 1) j).length + 1 ≤ 30 * (k' - k) := by
  unfold listS at h
  split at h
  · cases h
  · rename_i ts k2 hm
    cases h
    obtain ⟨⟨a, b⟩, c, d⟩ := memS_ok1 (I := fun q (ts : List Js) => k + 1 ≤ q ∧ (ts.map fun t => (prJ n t).length + 1).sum ≤ 30 * (q - (k + 1))) (fun _ _ _ h1 h2 => ⟨by omega, by omega⟩) (fun q st st' q' hq hi ho => by
      unfold oneL at ho
      split at ho
      · cases ho
      · rename_i t q2 hv2
        cases ho
        obtain ⟨e1, e2, e3⟩ := hv _ _ _ hq hv2
        have e4 := hn _ _ _ hq hv2
        refine ⟨⟨by omega, ?_⟩, e2, e3⟩
        rw [List.map_append, List.sum_append, List.map_cons, List.map_nil, List.sum_cons, List.sum_nil]
        omega) hk ⟨Nat.le_refl _, Nat.zero_le _⟩ hm
    rw [prJ_5 rfl]
    have e := comma_sum (ts.map (prJ n))
    rw [List.map_map] at e
    change _ ≤ (ts.map fun t => (prJ n t).length + 1).sum at e
    show (91 :: (commaJ (ts.map (prJ n)) ++ [93])).length + 1 ≤ _
    rw [List.length_cons, List.length_append, List.length_singleton]
    omega
theorem obj_len (hu : OKL (sb s)) (hv : VOk s n vs) (hn : VLn s n vs) (hk : k < s.size) (h : objS s vs k = .ok (j, k')) : (prJ (n + 1) j).length + 1 ≤ 30 * (k' - k) := by
  unfold objS at h
  split at h
  · cases h
  · rename_i st k2 hm
    cases h
    obtain ⟨⟨a, b⟩, c, d⟩ := memS_ok1 (I := fun q (st : StO) => k + 1 ≤ q ∧ (st.1.map fun a => (quoJ a).length + 1).sum + (st.2.map fun t => (prJ n t).length + 1).sum ≤ 30 * (q - (k + 1))) (fun _ _ _ h1 h2 => ⟨by omega, by omega⟩) (fun q st st' q' hq hi ho => by
      unfold pairS at ho
      split at ho
      · rename_i hq34
        split at ho
        · cases ho
        · rename_i l q1 hqu
          obtain ⟨o1, o2, o3, o4⟩ := quo_ok hu hq34 hqu
          unfold pairN at ho
          split at ho
          · cases ho
          · rename_i hnn
            have hb := blankS_le o4
            split at ho
            · rename_i hco
              have hco := take_t hco
              have hb2 := blankS_le (s := s) (k := blankS s q1 + 1) (by omega)
              split at ho
              · cases ho
              · rename_i t q2 hv2
                cases ho
                obtain ⟨e1, e2, e3⟩ := hv _ _ _ hb2.2 hv2
                have e4 := hn _ _ _ hb2.2 hv2
                have e5 := quo_len (strOfNums l)
                rw [strOfNums_size] at e5
                obtain ⟨i1, i2⟩ := hi
                refine ⟨⟨by omega, ?_⟩, by omega, e3⟩
                rw [sum_insA, sum_insA]
                omega
            · cases ho
      · cases ho) hk ⟨Nat.le_refl _, Nat.zero_le _⟩ hm
    rw [prJ_6 rfl]
    have e := comma_sum ((st.1.zip st.2).map fun p => quoJ p.1 ++ (58 :: prJ n p.2))
    rw [List.map_map] at e
    have e2 := Nat.le_trans e (Nat.le_trans (sum_le (g := fun p : ByteArray × Js => ((quoJ p.1).length + 1) + ((prJ n p.2).length + 1)) fun p _ => by simp [Function.comp]; omega) (zip_sum (f := fun a : ByteArray => (quoJ a).length + 1) (g := fun t : Js => (prJ n t).length + 1)))
    show (123 :: (commaJ ((st.1.zip st.2).map fun p => quoJ p.1 ++ (58 :: prJ n p.2)) ++ [125])).length + 1 ≤ _
    rw [List.length_cons, List.length_append, List.length_singleton]
    omega
theorem valB_len {dp : Nat} {rl ro : Except Int (Js × Nat)} (hu : OKL (sb s)) (hl : k < s.size → nestS dp rl = .ok (j, k') → (prJ n j).length + 1 ≤ 30 * (k' - k)) (ho : k < s.size → nestS dp ro = .ok (j, k') → (prJ n j).length + 1 ≤ 30 * (k' - k)) (h : valB s dp rl ro k = .ok (j, k')) : (prJ n j).length + 1 ≤ 30 * (k' - k) := by
  unfold valB at h
  have hw : ∀ (wd : ByteArray) (kd : Int), 1 ≤ wd.size → kd = 0 ∨ kd = 1 ∨ kd = 2 → wordR s wd kd k = .ok (j, k') → (prJ n j).length + 1 ≤ 30 * (k' - k) := fun wd kd h1 h2 h3 => by
    unfold wordR at h3
    split at h3
    · cases h3
      rw [pr_leaf (j := leafS kd 0 ⟨#[]⟩) (by show ¬ kd = 5; omega) (by show ¬ kd = 6; omega)]
      rcases h2 with rfl | rfl | rfl
      · rw [leafP_0 rfl]; simp; omega
      · rw [leafP_1 rfl]; simp; omega
      · rw [leafP_2 rfl]; simp; omega
    · cases h3
  split at h
  · rename_i hk
    split at h
    · exact hw _ _ (by decide) (.inl rfl) h
    · split at h
      · exact hw _ _ (by decide) (.inr (.inl rfl)) h
      · split at h
        · exact hw _ _ (by decide) (.inr (.inr rfl)) h
        · split at h
          · unfold numR at h
            split at h
            · cases h
            · rename_i m q hm
              cases h
              have hr := numS_in hm
              have hp : k < k' ∧ k' ≤ s.size := by
                unfold numS at hm
                split at hm
                · have := numT_ok (by omega) hm; omega
                · exact numT_ok (by omega) hm
              rw [pr_leaf (j := leafS 3 m ⟨#[]⟩) (by show ¬ (3 : Int) = 5; decide) (by show ¬ (3 : Int) = 6; decide), leafP_3 rfl]
              have := numJ_len (n := m) (by omega) (by omega)
              show (numJ m).length + 1 ≤ _
              omega
          · split at h
            · rename_i hq
              unfold quoR at h
              split at h
              · cases h
              · rename_i l q hq2
                cases h
                obtain ⟨o1, o2, o3, o4⟩ := quo_ok hu (take_of hk hq.symm) hq2
                rw [pr_leaf (j := leafS 4 0 (strOfNums l)) (by show ¬ (4 : Int) = 5; decide) (by show ¬ (4 : Int) = 6; decide), leafP_4 rfl]
                have := quo_len (strOfNums l)
                rw [strOfNums_size] at this
                show (quoJ (strOfNums l)).length + 1 ≤ _
                omega
            · split at h
              · exact hl hk h
              · split at h
                · exact ho hk h
                · cases h
  · cases h
end
theorem valD_len {s : ByteArray} (hs : s.size ≤ 1000000) (hu : OKL (sb s)) : ∀ m, m ≤ 12 → VLn s m (valD s m)
 | 0, _ => fun k j k' hk h => valB_len hu (fun _ h => by cases h) (fun _ h => by cases h) h
 | m + 1, hm => fun k j k' hk h => by
  have ih := valD_len hs hu m (by omega)
  have iv := valD_ok hs hu m (by omega)
  have e : ∀ r : Except Int (Js × Nat), nestS (12 - (m + 1)) r = r := fun r => nest_lt (by omega)
  exact valB_len hu (fun hk h => by rw [e] at h; exact list_len iv ih hk h) (fun hk h => by rw [e] at h; exact obj_len hu iv ih hk h) h
theorem par_len {s : ByteArray} {j : Js} (h : parJ s = .ok j) : (prJ 12 j).length ≤ 30000000 := by
  unfold parJ parS at h
  split at h
  · cases h
  · rename_i hsz
    split at h
    · cases h
    · rename_i hu
      split at h
      · cases h
      · rename_i j2 k hv
        have hz : s.size ≤ 1000000 := by omega
        have hb := (blankS_le (s := s) (Nat.zero_le _)).2
        have h1 := valD_ok hz (ok_of_up (by simpa using hu)) 12 (Nat.le_refl _) _ _ _ hb hv
        have h2 := valD_len hz (ok_of_up (by simpa using hu)) 12 (Nat.le_refl _) _ _ _ hb hv
        have h3 := h1.2.2
        split at h
        · cases h; omega
        · cases h
theorem txt_one {s : ByteArray} {i : Nat} (h : i < s.size) : txtL s (i + 1) = txtL s i ++ escJ (atS s i) := by
 unfold txtL
 rw [List.take_add_one, sb_at h, List.flatMap_append]
 simp
theorem quo_txt {s : ByteArray} {i : Nat} (h : ¬ i < s.size) : quoJ s = txtL s i ++ [34] := by
 unfold txtL quoJ
 rw [List.take_of_length_le (by rw [sb_length]; omega)]; rfl
section
variable {P : Program} {ops : Array Oper} {o : Oper} {N : Nat} {f : Fl} {w : World}
theorem dx_lit6 {t bytes : Nat} {K : IntKind} {n0 n1 n2 n3 n4 n5 : Int} {x y : Operand} (ho : o.op = .buildSlice t 6 #[(0, .const (.int K n0)), (1, .const (.int K n1)), (2, .const (.int K n2)), (3, .const (.int K n3)), (4, x), (5, y)]) (ht : apB P t 1 bytes = true) (hx : ev f x = some (.int K n4)) (hy : ev f y = some (.int K n5)) (hw : wantF ops o f = some true := by rfl) : DR P ops o N f w (NewO 1 w ([n0, n1, n2, n3, n4, n5].map fun n => [.int K n])) := by
 obtain ⟨e, i, Z, hu, hi, hZ, hs, rfl, hzs⟩ := of_apB ht
 have hc : ∀ v : Value, ev f (Operand.const v) = some v := fun v => rfl
 refine dx_lit (ps := [(0, .int K n0), (1, .int K n1), (2, .int K n2), (3, .int K n3), (4, .int K n4), (5, .int K n5)]) (rs := [n0, n1, n2, n3, n4, n5].map fun n => [.int K n]) ho hu hi hZ hs (by decide) (by simp [evl, hc, hx, hy]) (by omega) ?_ (by simp) rfl (by unfold maxLen; omega) hw
 rw [if_neg (by decide)]
 have hl : ∀ c : Array Value, c.size = 6 → Instr.fill (fun k => some (k * 1, 1)) c [(0, .int K n0), (1, .int K n1), (2, .int K n2), (3, .int K n3), (4, .int K n4), (5, .int K n5)] = some #[.int K n0, .int K n1, .int K n2, .int K n3, .int K n4, .int K n5] := fun c hc => by
  obtain ⟨l⟩ := c
  match l, hc with
  | [a, b, c, d, e, f], _ => simp [Instr.fill, Value.cells]
 exact hl _ (by simp)
end
theorem hex_lo {c : Int} (h : c < 2) : 48 + c = hexL c := by unfold hexL; rw [if_pos (by omega)]
theorem wrap_u8_id {n : Int} (h0 : 0 ≤ n) (h : n ≤ 255) : IntKind.u8.wrap n = n := wrapu8_id ⟨h0, by omega⟩
set_option maxHeartbeats 1000000 in
theorem rquote_v (s : ByteArray) (w : World) (L : List Nat) (hL : LL L w)   (hs : s.size ≤ 1000000) : CV Tryz.prog 47 [.string s] w fun v W => v = .string (strOfNums (quoJ s)) := by
 refine cv_enter (N := 77) (f := [(0, .string s)]) Tryz.func47 rfl rfl rfl rfl fun Q hQ hE => ?_
 have hB := Below.refl w.heap.size w
 refine Sq fun K1 hK1 => (Rg (Pu rfl (Ni (hK1 (Sq fun K2 hK2 => (Rg ?_))))))
 refine Ge (dx_lit1 (r := e8 34) rfl ty_ap_34 (by decide) (by decide) rfl rfl rfl) rfl rfl ?_
 have hle := hB.size
 rintro x3 W4 ⟨k6, b5, z7⟩
 replace hB := below_then hB b5
 replace hL := LL.below hL b5
 have h5 : NewW 1 w.heap.size ((txtL s 0).map e8) x3 W4 := .inr ⟨_, hle, k6⟩
 refine Pu rfl (Ni (hK2 (Sq fun K8 hK8 => (Sq fun K9 hK9 => (Rg (Pu rfl (Ni ?_)))))))
 refine hK9 (WC.block ?_)
 refine WC.loop2 (fun (i : Nat) (ov : Value) => [(0, .string s), (4, .int .i64 (i : Int)), (3, ov)]) (fun (i : Nat) (ov : Value) W => i ≤ s.size ∧ Below w.heap.size w W ∧ LL (L) W ∧ NewW 1 w.heap.size ((txtL s i).map e8) ov W) (fun (i : Nat) (ov : Value) => s.size - i) 0 x3 (by repeat first | exact trivial | refine aR ?_ | refine aI (by omega) ?_) ⟨Nat.zero_le _, hB, hL, h5⟩ ?_
 clear h5 hB hL
 rintro K10 i ov W11 ⟨hi, hB, hL, h5⟩ hK10
 refine Sq fun K12 hK12 => (Sq fun K13 hK13 => (Rg (Pu rfl (Pu rfl (Va (dx_lenT rfl Tryz.underlying9 rfl) rfl rfl (Va (dx_lss rfl rfl rfl) rfl rfl (Ni ?_)))))))
 refine hK13 ?_
 refine WC.cond rfl (fun c14 => ?_) (fun c14 => ?_)
 ·
  replace c14 := dT c14
  refine WC.skip (hK12 (Sq fun K15 hK15 => (WC.block (Sq fun K16 hK16 => (Rg (Pu rfl (Pu rfl ?_)))))))
  refine Va (dx_at i rfl Tryz.underlying9 rfl rfl (by omega) (by omega)) rfl rfl (Pu rfl (Ni (hK16 (WC.block (Sq fun K17 hK17 => ?_)))))
  have hc2 := atS_lo s i
  refine Rg (Pu rfl (Va (dx_eql rfl rfl rfl) rfl rfl (Pu rfl ?_)))
  refine WL.split 23 rfl (fun g18 => ?_) (fun g18 => ?_)
  ·
   replace g18 := dT g18
   refine Of rfl (Of rfl (Pu rfl (Pu rfl (Ni (hK17 (WC.condT rfl (Rg ?_)))))))
   refine Pu rfl (Pu rfl ?_)
   refine Ge (dx_lit2 (V := .int .u8 92) (U := .int .u8 (atS s i)) rfl ty_ap_34 rfl rfl rfl rfl) rfl rfl ?_
   rintro x19 W20 ⟨k22, b21, z23⟩
   replace h5 := h5.below b21
   replace hB := below_then hB b21
   replace hL := LL.below hL b21
   have hx : RdF 1 [] W20 x19 ([92, atS s i].map e8) := k22.rd (L := []) (by simp)
   have htl_ := txt_len (s := s) (a := i)
   refine Ge (dx_apW (base := w.heap.size) (news := [92, atS s i].map e8) rfl ty_ap_34 rfl rfl h5 hx (oc_e8 [92, atS s i]) (by simp [maxLen]; omega) (by simp; omega) hB.size) rfl rfl ?_
   rintro x24 W25 ⟨h6, b26⟩
   replace h5 : NewW 1 w.heap.size ((txtL s i ++ [92, atS s i]).map e8) x24 W25 := by rw [List.map_append]; exact h6
   replace hB := hB.trans b26
   replace hL := hL.base b26
   refine Pu rfl (Ni (hK15 (Rg (Pu rfl (Va (dx_add (r := (i : Int) + 1) rfl rfl rfl (wrap64_id (by omega))) rfl rfl (Pu rfl (Ni ?_)))))))
   have h9 : NewW 1 w.heap.size ((txtL s (i + 1)).map e8) x24 W25 := (show txtL s i ++ [92, atS s i] = txtL s (i + 1) from (by rw [txt_one (by omega)]; unfold escJ; (repeat' split) <;> first | omega | rfl)) ▸ h5
   exact hK10 (i + 1) x24 ⟨(by omega), hB, hL, h9⟩ (by omega) (by repeat first | exact trivial | refine aR ?_ | refine aI (by omega) ?_)
  ·
   replace g18 := dF g18
   refine Pu rfl (Va (dx_eql rfl rfl rfl) rfl rfl (Pu rfl (Pu rfl (Ni (hK17 ?_)))))
   refine WC.cond rfl (fun c27 => ?_) (fun c27 => ?_)
   ·
    replace c27 := dT c27
    refine Rg (Pu rfl (Pu rfl ?_))
    refine Ge (dx_lit2 (V := .int .u8 92) (U := .int .u8 (atS s i)) rfl ty_ap_34 rfl rfl rfl rfl) rfl rfl ?_
    rintro x28 W29 ⟨k31, b30, z32⟩
    replace h5 := h5.below b30
    replace hB := below_then hB b30
    replace hL := LL.below hL b30
    have hx : RdF 1 [] W29 x28 ([92, atS s i].map e8) := k31.rd (L := []) (by simp)
    have htl_ := txt_len (s := s) (a := i)
    refine Ge (dx_apW (base := w.heap.size) (news := [92, atS s i].map e8) rfl ty_ap_34 rfl rfl h5 hx (oc_e8 [92, atS s i]) (by simp [maxLen]; omega) (by simp; omega) hB.size) rfl rfl ?_
    rintro x33 W34 ⟨h6, b35⟩
    replace h5 : NewW 1 w.heap.size ((txtL s i ++ [92, atS s i]).map e8) x33 W34 := by rw [List.map_append]; exact h6
    replace hB := hB.trans b35
    replace hL := hL.base b35
    refine Pu rfl (Ni (hK15 (Rg (Pu rfl (Va (dx_add (r := (i : Int) + 1) rfl rfl rfl (wrap64_id (by omega))) rfl rfl (Pu rfl (Ni ?_)))))))
    have h9 : NewW 1 w.heap.size ((txtL s (i + 1)).map e8) x33 W34 := (show txtL s i ++ [92, atS s i] = txtL s (i + 1) from (by rw [txt_one (by omega)]; unfold escJ; (repeat' split) <;> first | omega | rfl)) ▸ h5
    exact hK10 (i + 1) x33 ⟨(by omega), hB, hL, h9⟩ (by omega) (by repeat first | exact trivial | refine aR ?_ | refine aI (by omega) ?_)
   ·
    replace c27 := dF c27
    refine Sq fun K36 hK36 => (Rg (Pu rfl (Va (dx_eql rfl rfl rfl) rfl rfl (Pu rfl (Ni (hK36 ?_))))))
    refine WC.cond rfl (fun c37 => ?_) (fun c37 => ?_)
    ·
     replace c37 := dT c37
     refine Rg (Pu rfl ?_)
     refine Ge (dx_lit2 (V := .int .u8 92) (U := .int .u8 98) rfl ty_ap_34 rfl rfl rfl rfl) rfl rfl ?_
     rintro x38 W39 ⟨k41, b40, z42⟩
     replace h5 := h5.below b40
     replace hB := below_then hB b40
     replace hL := LL.below hL b40
     have hx : RdF 1 [] W39 x38 ([92, 98].map e8) := k41.rd (L := []) (by simp)
     have htl_ := txt_len (s := s) (a := i)
     refine Ge (dx_apW (base := w.heap.size) (news := [92, 98].map e8) rfl ty_ap_34 rfl rfl h5 hx (oc_e8 [92, 98]) (by simp [maxLen]; omega) (by simp; omega) hB.size) rfl rfl ?_
     rintro x43 W44 ⟨h6, b45⟩
     replace h5 : NewW 1 w.heap.size ((txtL s i ++ [92, 98]).map e8) x43 W44 := by rw [List.map_append]; exact h6
     replace hB := hB.trans b45
     replace hL := hL.base b45
     refine Pu rfl (Ni (hK15 (Rg (Pu rfl (Va (dx_add (r := (i : Int) + 1) rfl rfl rfl (wrap64_id (by omega))) rfl rfl (Pu rfl (Ni ?_)))))))
     have h9 : NewW 1 w.heap.size ((txtL s (i + 1)).map e8) x43 W44 := (show txtL s i ++ [92, 98] = txtL s (i + 1) from (by rw [txt_one (by omega)]; unfold escJ; (repeat' split) <;> first | omega | rfl)) ▸ h5
     exact hK10 (i + 1) x43 ⟨(by omega), hB, hL, h9⟩ (by omega) (by repeat first | exact trivial | refine aR ?_ | refine aI (by omega) ?_)
    ·
     replace c37 := dF c37
     refine Sq fun K46 hK46 => (Rg (Pu rfl (Va (dx_eql rfl rfl rfl) rfl rfl (Pu rfl (Ni (hK46 ?_))))))
     refine WC.cond rfl (fun c47 => ?_) (fun c47 => ?_)
     ·
      replace c47 := dT c47
      refine Rg (Pu rfl ?_)
      refine Ge (dx_lit2 (V := .int .u8 92) (U := .int .u8 116) rfl ty_ap_34 rfl rfl rfl rfl) rfl rfl ?_
      rintro x48 W49 ⟨k51, b50, z52⟩
      replace h5 := h5.below b50
      replace hB := below_then hB b50
      replace hL := LL.below hL b50
      have hx : RdF 1 [] W49 x48 ([92, 116].map e8) := k51.rd (L := []) (by simp)
      have htl_ := txt_len (s := s) (a := i)
      refine Ge (dx_apW (base := w.heap.size) (news := [92, 116].map e8) rfl ty_ap_34 rfl rfl h5 hx (oc_e8 [92, 116]) (by simp [maxLen]; omega) (by simp; omega) hB.size) rfl rfl ?_
      rintro x53 W54 ⟨h6, b55⟩
      replace h5 : NewW 1 w.heap.size ((txtL s i ++ [92, 116]).map e8) x53 W54 := by rw [List.map_append]; exact h6
      replace hB := hB.trans b55
      replace hL := hL.base b55
      refine Pu rfl (Ni (hK15 (Rg (Pu rfl (Va (dx_add (r := (i : Int) + 1) rfl rfl rfl (wrap64_id (by omega))) rfl rfl (Pu rfl (Ni ?_)))))))
      have h9 : NewW 1 w.heap.size ((txtL s (i + 1)).map e8) x53 W54 := (show txtL s i ++ [92, 116] = txtL s (i + 1) from (by rw [txt_one (by omega)]; unfold escJ; (repeat' split) <;> first | omega | rfl)) ▸ h5
      exact hK10 (i + 1) x53 ⟨(by omega), hB, hL, h9⟩ (by omega) (by repeat first | exact trivial | refine aR ?_ | refine aI (by omega) ?_)
     ·
      replace c47 := dF c47
      refine Sq fun K56 hK56 => (Rg (Pu rfl (Va (dx_eql rfl rfl rfl) rfl rfl (Pu rfl (Ni (hK56 ?_))))))
      refine WC.cond rfl (fun c57 => ?_) (fun c57 => ?_)
      ·
       replace c57 := dT c57
       refine Rg (Pu rfl ?_)
       refine Ge (dx_lit2 (V := .int .u8 92) (U := .int .u8 110) rfl ty_ap_34 rfl rfl rfl rfl) rfl rfl ?_
       rintro x58 W59 ⟨k61, b60, z62⟩
       replace h5 := h5.below b60
       replace hB := below_then hB b60
       replace hL := LL.below hL b60
       have hx : RdF 1 [] W59 x58 ([92, 110].map e8) := k61.rd (L := []) (by simp)
       have htl_ := txt_len (s := s) (a := i)
       refine Ge (dx_apW (base := w.heap.size) (news := [92, 110].map e8) rfl ty_ap_34 rfl rfl h5 hx (oc_e8 [92, 110]) (by simp [maxLen]; omega) (by simp; omega) hB.size) rfl rfl ?_
       rintro x63 W64 ⟨h6, b65⟩
       replace h5 : NewW 1 w.heap.size ((txtL s i ++ [92, 110]).map e8) x63 W64 := by rw [List.map_append]; exact h6
       replace hB := hB.trans b65
       replace hL := hL.base b65
       refine Pu rfl (Ni (hK15 (Rg (Pu rfl (Va (dx_add (r := (i : Int) + 1) rfl rfl rfl (wrap64_id (by omega))) rfl rfl (Pu rfl (Ni ?_)))))))
       have h9 : NewW 1 w.heap.size ((txtL s (i + 1)).map e8) x63 W64 := (show txtL s i ++ [92, 110] = txtL s (i + 1) from (by rw [txt_one (by omega)]; unfold escJ; (repeat' split) <;> first | omega | rfl)) ▸ h5
       exact hK10 (i + 1) x63 ⟨(by omega), hB, hL, h9⟩ (by omega) (by repeat first | exact trivial | refine aR ?_ | refine aI (by omega) ?_)
      ·
       replace c57 := dF c57
       refine Sq fun K66 hK66 => (Rg (Pu rfl (Va (dx_eql rfl rfl rfl) rfl rfl (Pu rfl (Ni (hK66 ?_))))))
       refine WC.cond rfl (fun c67 => ?_) (fun c67 => ?_)
       ·
        replace c67 := dT c67
        refine Rg (Pu rfl ?_)
        refine Ge (dx_lit2 (V := .int .u8 92) (U := .int .u8 102) rfl ty_ap_34 rfl rfl rfl rfl) rfl rfl ?_
        rintro x68 W69 ⟨k71, b70, z72⟩
        replace h5 := h5.below b70
        replace hB := below_then hB b70
        replace hL := LL.below hL b70
        have hx : RdF 1 [] W69 x68 ([92, 102].map e8) := k71.rd (L := []) (by simp)
        have htl_ := txt_len (s := s) (a := i)
        refine Ge (dx_apW (base := w.heap.size) (news := [92, 102].map e8) rfl ty_ap_34 rfl rfl h5 hx (oc_e8 [92, 102]) (by simp [maxLen]; omega) (by simp; omega) hB.size) rfl rfl ?_
        rintro x73 W74 ⟨h6, b75⟩
        replace h5 : NewW 1 w.heap.size ((txtL s i ++ [92, 102]).map e8) x73 W74 := by rw [List.map_append]; exact h6
        replace hB := hB.trans b75
        replace hL := hL.base b75
        refine Pu rfl (Ni (hK15 (Rg (Pu rfl (Va (dx_add (r := (i : Int) + 1) rfl rfl rfl (wrap64_id (by omega))) rfl rfl (Pu rfl (Ni ?_)))))))
        have h9 : NewW 1 w.heap.size ((txtL s (i + 1)).map e8) x73 W74 := (show txtL s i ++ [92, 102] = txtL s (i + 1) from (by rw [txt_one (by omega)]; unfold escJ; (repeat' split) <;> first | omega | rfl)) ▸ h5
        exact hK10 (i + 1) x73 ⟨(by omega), hB, hL, h9⟩ (by omega) (by repeat first | exact trivial | refine aR ?_ | refine aI (by omega) ?_)
       ·
        replace c67 := dF c67
        refine Sq fun K76 hK76 => (Rg (Pu rfl (Va (dx_eql rfl rfl rfl) rfl rfl (Pu rfl (Ni (hK76 ?_))))))
        refine WC.cond rfl (fun c77 => ?_) (fun c77 => ?_)
        ·
         replace c77 := dT c77
         refine Rg (Pu rfl ?_)
         refine Ge (dx_lit2 (V := .int .u8 92) (U := .int .u8 114) rfl ty_ap_34 rfl rfl rfl rfl) rfl rfl ?_
         rintro x78 W79 ⟨k81, b80, z82⟩
         replace h5 := h5.below b80
         replace hB := below_then hB b80
         replace hL := LL.below hL b80
         have hx : RdF 1 [] W79 x78 ([92, 114].map e8) := k81.rd (L := []) (by simp)
         have htl_ := txt_len (s := s) (a := i)
         refine Ge (dx_apW (base := w.heap.size) (news := [92, 114].map e8) rfl ty_ap_34 rfl rfl h5 hx (oc_e8 [92, 114]) (by simp [maxLen]; omega) (by simp; omega) hB.size) rfl rfl ?_
         rintro x83 W84 ⟨h6, b85⟩
         replace h5 : NewW 1 w.heap.size ((txtL s i ++ [92, 114]).map e8) x83 W84 := by rw [List.map_append]; exact h6
         replace hB := hB.trans b85
         replace hL := hL.base b85
         refine Pu rfl (Ni (hK15 (Rg (Pu rfl (Va (dx_add (r := (i : Int) + 1) rfl rfl rfl (wrap64_id (by omega))) rfl rfl (Pu rfl (Ni ?_)))))))
         have h9 : NewW 1 w.heap.size ((txtL s (i + 1)).map e8) x83 W84 := (show txtL s i ++ [92, 114] = txtL s (i + 1) from (by rw [txt_one (by omega)]; unfold escJ; (repeat' split) <;> first | omega | rfl)) ▸ h5
         exact hK10 (i + 1) x83 ⟨(by omega), hB, hL, h9⟩ (by omega) (by repeat first | exact trivial | refine aR ?_ | refine aI (by omega) ?_)
        ·
         replace c77 := dF c77
         refine Sq fun K86 hK86 => (Rg (Pu rfl (Va (dx_lss rfl rfl rfl) rfl rfl (Pu rfl (Ni (hK86 ?_))))))
         refine WC.cond rfl (fun c87 => ?_) (fun c87 => ?_)
         ·
          replace c87 := dT c87
          refine Rg (Pu rfl (Pu rfl (Va (dx_quo (r := (atS s i) / 16) rfl rfl rfl (by omega) (by rw [Int.tdiv_eq_ediv_of_nonneg (by omega)]; exact (wrapu8_id (by omega)))) rfl rfl (Va (dv_e (dx_add (r := 48 + atS s i / 16) rfl rfl rfl (wrap_u8_id (by omega) (by omega))) (congrArg (Value.int .u8) (hex_lo (by omega)))) rfl rfl (Pu rfl (Va (dx_rem (r := (atS s i) % 16) rfl rfl rfl (by omega) (Int.tmod_eq_emod_of_nonneg (by omega))) rfl rfl (Va (dv_e (dx_at (atS s i % 16).toNat rfl Tryz.underlying9 rfl rfl (by omega) (by show (atS s i % 16).toNat < 16; omega)) (congrArg (Value.int .u8) (hex_at (c := atS s i % 16) (by omega) (by omega)))) rfl rfl ?_)))))))
          refine Ge (dx_lit6 rfl ty_ap_34 rfl rfl) rfl rfl ?_
          rintro x88 W89 ⟨k91, b90, z92⟩
          replace h5 := h5.below b90
          replace hB := below_then hB b90
          replace hL := LL.below hL b90
          have hx : RdF 1 [] W89 x88 ([92, 117, 48, 48, hexL (atS s i / 16), hexL (atS s i % 16)].map e8) := k91.rd (L := []) (by simp)
          have htl_ := txt_len (s := s) (a := i)
          refine Ge (dx_apW (base := w.heap.size) (news := [92, 117, 48, 48, hexL (atS s i / 16), hexL (atS s i % 16)].map e8) rfl ty_ap_34 rfl rfl h5 hx (oc_e8 [92, 117, 48, 48, hexL (atS s i / 16), hexL (atS s i % 16)]) (by simp [maxLen]; omega) (by simp; omega) hB.size) rfl rfl ?_
          rintro x93 W94 ⟨h6, b95⟩
          replace h5 : NewW 1 w.heap.size ((txtL s i ++ [92, 117, 48, 48, hexL (atS s i / 16), hexL (atS s i % 16)]).map e8) x93 W94 := by rw [List.map_append]; exact h6
          replace hB := hB.trans b95
          replace hL := hL.base b95
          refine Pu rfl (Ni (hK15 (Rg (Pu rfl (Va (dx_add (r := (i : Int) + 1) rfl rfl rfl (wrap64_id (by omega))) rfl rfl (Pu rfl (Ni ?_)))))))
          have h9 : NewW 1 w.heap.size ((txtL s (i + 1)).map e8) x93 W94 := (show txtL s i ++ [92, 117, 48, 48, hexL (atS s i / 16), hexL (atS s i % 16)] = txtL s (i + 1) from (by rw [txt_one (by omega)]; unfold escJ; (repeat' split) <;> first | omega | rfl)) ▸ h5
          exact hK10 (i + 1) x93 ⟨(by omega), hB, hL, h9⟩ (by omega) (by repeat first | exact trivial | refine aR ?_ | refine aI (by omega) ?_)
         ·
          replace c87 := dF c87
          refine Rg (Pu rfl (Pu rfl ?_))
          refine Ge (dx_lit1 (r := e8 (atS s i)) rfl ty_ap_34 (by decide) (by decide) rfl rfl rfl) rfl rfl ?_
          rintro x96 W97 ⟨k99, b98, z100⟩
          replace h5 := h5.below b98
          replace hB := below_then hB b98
          replace hL := LL.below hL b98
          have hx : RdF 1 [] W97 x96 ([atS s i].map e8) := k99.rd (L := []) (by simp)
          have htl_ := txt_len (s := s) (a := i)
          refine Ge (dx_apW (base := w.heap.size) (news := [atS s i].map e8) rfl ty_ap_34 rfl rfl h5 hx (oc_e8 [atS s i]) (by simp [maxLen]; omega) (by simp; omega) hB.size) rfl rfl ?_
          rintro x101 W102 ⟨h6, b103⟩
          replace h5 : NewW 1 w.heap.size ((txtL s i ++ [atS s i]).map e8) x101 W102 := by rw [List.map_append]; exact h6
          replace hB := hB.trans b103
          replace hL := hL.base b103
          refine Pu rfl (Ni (hK15 (Rg (Pu rfl (Va (dx_add (r := (i : Int) + 1) rfl rfl rfl (wrap64_id (by omega))) rfl rfl (Pu rfl (Ni ?_)))))))
          have h9 : NewW 1 w.heap.size ((txtL s (i + 1)).map e8) x101 W102 := (show txtL s i ++ [atS s i] = txtL s (i + 1) from (by rw [txt_one (by omega)]; unfold escJ; (repeat' split) <;> first | omega | rfl)) ▸ h5
          exact hK10 (i + 1) x101 ⟨(by omega), hB, hL, h9⟩ (by omega) (by repeat first | exact trivial | refine aR ?_ | refine aI (by omega) ?_)
 ·
  replace c14 := dF c14
  refine WC.exit ?_
  refine hK8 (Sq fun K104 hK104 => (Rg (Pu rfl ?_)))
  refine Ge (dx_lit1 (r := e8 34) rfl ty_ap_34 (by decide) (by decide) rfl rfl rfl) rfl rfl ?_
  rintro x105 W106 ⟨k108, b107, z109⟩
  replace h5 := h5.below b107
  replace hB := below_then hB b107
  replace hL := LL.below hL b107
  have hx : RdF 1 [] W106 x105 ([34].map e8) := k108.rd (L := []) (by simp)
  have htl_ := txt_len (s := s) (a := i)
  refine Ge (dx_apW (base := w.heap.size) (news := [34].map e8) rfl ty_ap_34 rfl rfl h5 hx (oc_e8 [34]) (by simp [maxLen]; omega) (by simp; omega) hB.size) rfl rfl ?_
  rintro x110 W111 ⟨h6, b112⟩
  replace h5 : NewW 1 w.heap.size ((txtL s i ++ [34]).map e8) x110 W111 := by rw [List.map_append]; exact h6
  replace hB := hB.trans b112
  replace hL := hL.base b112
  refine Va (dx_bs (l := (txtL s i ++ [34])) rfl Tryz.underlying34 Tryz.underlying9 Tryz.underlying5 rfl (h5.rd (L := []) (by simp))) rfl rfl (Pu rfl (Ni (hK104 ?_)))
  exact WC.ret fun a_ ha_ => hQ (cv_ret1 rfl (.tmp rfl) (by rw [quo_txt (s := s) (i := i) (by omega)]) hB ha_)

theorem strOf_nil {r : List Int} : strOfNums r = ⟨#[]⟩ ↔ r = [] := by
  constructor
  · intro h
    have := congrArg ByteArray.size h
    rw [strOfNums_size] at this
    exact List.eq_nil_of_length_eq_zero this
  · rintro rfl; rfl
theorem decL_lt {u : Nat} (h : u < 10) : decL u = [48 + (u : Int)] := by unfold decL; rw [Lib.decDigits, dif_pos h, List.map_cons, dig_u h]; rfl
theorem decL_ge {u : Nat} (h : ¬ u < 10) : decL u = decL (u / 10) ++ [48 + ((u % 10 : Nat) : Int)] := by
 unfold decL
 rw [Lib.decDigits, dif_neg h, List.map_append, List.map_cons, dig_u (Nat.mod_lt _ (by decide))]; rfl
def DigR (u k : Nat) (r : List Int) : Prop := (r = [] ∧ k = u) ∨ (r ≠ [] ∧ decL u = (if k = 0 then [] else decL k) ++ r)
theorem dig_step {u k : Nat} {r : List Int} (h : DigR u k r) (hk : 0 < k ∨ r = []) : DigR u (k / 10) ((48 + (k : Int) % 10) :: r) := by
  rw [show (k : Int) % 10 = ((k % 10 : Nat) : Int) by omega]
  refine .inr ⟨(by intro h; cases h), ?_⟩
  have e : decL k = (if k / 10 = 0 then [] else decL (k / 10)) ++ [48 + ((k % 10 : Nat) : Int)] := by
    by_cases h9 : k < 10
    · rw [decL_lt h9, if_pos (by omega), Nat.mod_eq_of_lt h9]; rfl
    · rw [decL_ge h9, if_neg (by omega)]
  rcases h with ⟨h1, h2⟩ | ⟨h1, h2⟩
  · subst h1 h2; exact e
  · rcases hk with hk | hk
    · rw [h2, if_neg (by omega), e, List.append_assoc]; rfl
    · exact absurd hk h1
theorem dig_end {u k : Nat} {r : List Int} (h : DigR u k r) (hk : k = 0) (hr : ¬ strOfNums r = ⟨#[]⟩) : decL u = r := by
 rcases h with ⟨h, _⟩ | ⟨_, h⟩
 · exact absurd (strOf_nil.2 h) hr
 · rw [h, if_pos hk]; rfl
theorem dig_txt {c : Int} (h0 : 0 ≤ c) (h : c < 10) : (⟨#[48, 49, 50, 51, 52, 53, 54, 55, 56, 57]⟩ : ByteArray).extract c.toNat (c.toNat + 1) = strOfNums [48 + c] := by
 rw [ext_one (by show c.toNat < 10; omega)]
 obtain ⟨n, rfl⟩ : ∃ n : Nat, c = (n : Int) := ⟨c.toNat, by omega⟩
 have hn : n < 10 := by omega
 rw [Int.toNat_natCast]
 match n, hn with
 | 0, _ => rfl | 1, _ => rfl | 2, _ => rfl | 3, _ => rfl | 4, _ => rfl | 5, _ => rfl | 6, _ => rfl | 7, _ => rfl | 8, _ => rfl | 9, _ => rfl
set_option maxHeartbeats 1000000 in
theorem rdigits_v (u : Nat) (w : World) (L : List Nat) (hL : LL L w)   (hu : u ≤ 9007199254740991) : CV Tryz.prog 46 [.int .i64 (u : Int)] w fun v W => v = .string (strOfNums (decL u)) := by
 refine cv_enter (N := 21) (f := [(0, .int .i64 (u : Int))]) Tryz.func46 rfl rfl rfl rfl fun Q hQ hE => ?_
 have hB := Below.refl w.heap.size w
 refine Sq fun K1 hK1 => (Rg (Pu rfl (Ni (hK1 (Sq fun K2 hK2 => (Rg (Pu rfl ?_)))))))
 refine Ni (hK2 (Sq fun K3 hK3 => (WC.block ?_)))
 refine WC.loop2 (fun (k : Nat) (r : List Int) => [(0, .int .i64 (k : Int)), (3, .string (strOfNums r))]) (fun (k : Nat) (r : List Int) W => k ≤ u ∧ DigR u k r ∧ r.length + k ≤ u + 1 ∧ Below w.heap.size w W ∧ LL (L) W) (fun (k : Nat) (r : List Int) => k + (1 - r.length)) u [] (by repeat first | exact trivial | refine aR ?_ | refine aI (by omega) ?_) ⟨Nat.le_refl _, (.inl ⟨rfl, rfl⟩), (by rw [List.length_nil]; omega), hB, hL⟩ ?_
 clear hB hL
 rintro K4 k r W5 ⟨hk, hd, hrl, hB, hL⟩ hK4
 refine Sq fun K6 hK6 => (Sq fun K7 hK7 => (Rg (Pu rfl (Va (dx_gtr rfl rfl rfl) rfl rfl (Pu rfl ?_)))))
 refine WL.split 6 rfl (fun g8 => ?_) (fun g8 => ?_)
 ·
  replace g8 := dT g8
  refine Of rfl (Of rfl (Pu rfl (Ni (hK7 (WC.condT rfl (WC.skip (hK6 ?_)))))))
  refine WC.block (Sq fun K9 hK9 => (Rg (Pu rfl (Va (dx_rem (r := (k : Int) % 10) rfl rfl rfl (by omega) (Int.tmod_eq_emod_of_nonneg (by omega))) rfl rfl (Pu rfl (Va (dx_rem (r := (k : Int) % 10) rfl rfl rfl (by omega) (Int.tmod_eq_emod_of_nonneg (by omega))) rfl rfl (Va (dx_add (r := ((k : Int) % 10) + 1) rfl rfl rfl (wrap64_id (by omega))) rfl rfl ?_)))))))
  refine Va (dv_e (dx_slTLH ((k : Int) % 10).toNat (((k : Int) % 10).toNat + 1) rfl Tryz.underlying9 rfl rfl rfl (by omega) (by omega) (by omega) (by show ((k : Int) % 10).toNat + 1 ≤ 10; omega)) (congrArg Value.string (dig_txt (c := (k : Int) % 10) (by omega) (by omega)))) rfl rfl (Pu rfl (Va (dv_e (dx_addT rfl rfl rfl (by rw [strOfNums_size, strOfNums_size, List.length_singleton]; omega)) (congrArg Value.string (strOf_app _ _))) rfl rfl (Pu rfl (Ni (hK9 (Rg (Pu rfl ?_)))))))
  refine Va (dx_quo (r := (k : Int) / 10) rfl rfl rfl (by omega) (by rw [Int.tdiv_eq_ediv_of_nonneg (by omega)]; exact (wrap64_id (by omega)))) rfl rfl (Pu rfl (Ni ?_))
  exact hK4 (k / 10) ((48 + (k : Int) % 10) :: r) ⟨(by omega), (dig_step hd (by first | exact .inl (by omega) | exact .inr (strOf_nil.1 (by assumption)))), (by rw [List.length_cons]; first | omega | (have e_ := strOf_nil.1 (by assumption); subst e_; rw [List.length_nil] at *; omega)), hB, hL⟩ (by rw [List.length_cons]; first | omega | (have e_ := strOf_nil.1 (by assumption); subst e_; rw [List.length_nil] at *; omega)) (by repeat first | exact trivial | refine aR ?_ | refine aI (by omega) ?_)
 ·
  replace g8 := dF g8
  refine Pu rfl (Va (dx_eqlT rfl rfl rfl) rfl rfl (Pu rfl (Ni (hK7 ?_))))
  refine WC.cond rfl (fun c10 => ?_) (fun c10 => ?_)
  ·
   replace c10 := dT c10
   refine WC.skip (hK6 (WC.block (Sq fun K11 hK11 => (Rg (Pu rfl (Va (dx_rem (r := (k : Int) % 10) rfl rfl rfl (by omega) (Int.tmod_eq_emod_of_nonneg (by omega))) rfl rfl (Pu rfl ?_)))))))
   refine Va (dx_rem (r := (k : Int) % 10) rfl rfl rfl (by omega) (Int.tmod_eq_emod_of_nonneg (by omega))) rfl rfl (Va (dx_add (r := ((k : Int) % 10) + 1) rfl rfl rfl (wrap64_id (by omega))) rfl rfl (Va (dv_e (dx_slTLH ((k : Int) % 10).toNat (((k : Int) % 10).toNat + 1) rfl Tryz.underlying9 rfl rfl rfl (by omega) (by omega) (by omega) (by show ((k : Int) % 10).toNat + 1 ≤ 10; omega)) (congrArg Value.string (dig_txt (c := (k : Int) % 10) (by omega) (by omega)))) rfl rfl (Pu rfl (Va (dv_e (dx_addT rfl rfl rfl (by rw [strOfNums_size, strOfNums_size, List.length_singleton]; omega)) (congrArg Value.string (strOf_app _ _))) rfl rfl (Pu rfl (Ni (hK11 ?_)))))))
   refine Rg (Pu rfl (Va (dx_quo (r := (k : Int) / 10) rfl rfl rfl (by omega) (by rw [Int.tdiv_eq_ediv_of_nonneg (by omega)]; exact (wrap64_id (by omega)))) rfl rfl (Pu rfl (Ni ?_))))
   exact hK4 (k / 10) ((48 + (k : Int) % 10) :: r) ⟨(by omega), (dig_step hd (by first | exact .inl (by omega) | exact .inr (strOf_nil.1 (by assumption)))), (by rw [List.length_cons]; first | omega | (have e_ := strOf_nil.1 (by assumption); subst e_; rw [List.length_nil] at *; omega)), hB, hL⟩ (by rw [List.length_cons]; first | omega | (have e_ := strOf_nil.1 (by assumption); subst e_; rw [List.length_nil] at *; omega)) (by repeat first | exact trivial | refine aR ?_ | refine aI (by omega) ?_)
  ·
   replace c10 := dF c10
   refine WC.exit ?_
   refine hK3 (Sq fun K12 hK12 => (Rg (Pu rfl (Pu rfl (Ni (hK12 ?_))))))
   exact WC.ret fun a_ ha_ => hQ (cv_ret1 rfl (.tmp rfl) (by rw [dig_end hd (by omega) (by assumption)]) hB ha_)

section
variable {P : Program} {ops : Array Oper} {o : Oper} {N : Nat} {f : Fl} {w : World}
theorem dx_negI {t : TypeId} {x : Operand} {K : IntKind} {n r : Int} (ho : o.op = .unOp .neg t x) (hx : ev f x = some (.int K n)) (hr : K.wrap (0 - n) = r) (hw : wantF ops o f = some true := by rfl) : DV P ops o N f w (.int K r) := fun a ha => by
 have hx := ha.ev hx
 exact Does.pure (wantF_of ha hw) _ (by unfold execOp; simp only [ho, hx]; simp [Op.unary, Op.intArith] at hr ⊢; exact hr) ⟨rfl, rfl⟩
end
theorem numJ_neg {n : Int} {u : Nat} (h : (u : Int) = -n) (h0 : n < 0) : numJ n = 45 :: decL u := by
 unfold numJ; rw [if_pos h0, show n.natAbs = u by omega]
theorem numJ_pos {n : Int} {u : Nat} (h : (u : Int) = n) : numJ n = decL u := by
 unfold numJ; rw [if_neg (by omega), show n.toNat = u by omega]
theorem rdig_at (u : Nat) (n : Int) (h : (u : Int) = n) (hu : u ≤ 9007199254740991) (w : World) (L : List Nat) (hL : LL L w) : CV Tryz.prog 46 [.int .i64 n] w fun v W => v = .string (strOfNums (decL u)) := by
 subst h; exact rdigits_v u w L hL hu
theorem comma_mem {ps : List (List Int)} {i : Nat} {p : List Int} (h : ps[i]? = some p) : p.length ≤ (commaJ ps).length := by
  have hm := List.mem_of_getElem? h
  cases ps with
  | nil => cases hm
  | cons x l =>
    rw [commaJ, List.length_append]
    rcases List.mem_cons.1 hm with rfl | hm
    · omega
    · obtain ⟨a, b, rfl⟩ := List.append_of_mem hm
      rw [List.flatMap_append, List.flatMap_cons, List.length_append, List.length_append, List.length_cons]; omega
abbrev RpAt (m : Nat) : Prop := ∀ (n : Nat) (t : Tr) (w : World) (L : List Nat), LL L w → RdT n L w t → SzT 1000000 n t → rightJ upB m t.er = true → (prJ m t.er).length ≤ 30000000 → CV Tryz.prog 23 [.agg #[.int .i64 t.kind, .int .i64 t.num, .string t.text, t.nv, t.iv]] w fun v W => v = .string (strOfNums (prJ m t.er))
set_option maxHeartbeats 2000000 in
theorem rprint_step (m : Nat) (ih : ∀ q, m = q + 1 → RpAt q) (n : Nat) (t : Tr) (w : World) (L : List Nat) (hL : LL L w) (ht : RdT (n + 1) L w t)  (hz : SzT 1000000 (n + 1) t) (hr : rightJ upB m t.er = true) (hpl0 : (prJ m t.er).length ≤ 30000000) : CV Tryz.prog 23 [.agg #[.int .i64 t.kind, .int .i64 t.num, .string t.text, t.nv, t.iv]] w fun v W => v = .string (strOfNums (prJ m t.er)) := by
 refine cv_enter (N := 72) (f := [(0, .agg #[.int .i64 t.kind, .int .i64 t.num, .string t.text, t.nv, t.iv])]) Tryz.func23 rfl rfl rfl rfl fun Q hQ hE => ?_
 have hB := Below.refl w.heap.size w
 refine Sq fun K1 hK1 => ?_
 obtain ⟨hnt, hit, hct⟩ := ht
 replace hct : RdTs n (L) w t.items := hct
 have hil0 := hit.len
 rw [List.length_map] at hil0
 have hnl0 := hnt.len
 rw [List.length_map] at hnl0
 unfold maxLen at hil0 hnl0
 refine Rg ?_
 refine Ge (dx_box rfl rfl rfl) rfl rfl ?_
 rintro _ W2 ⟨rfl, k3, b4, z5⟩
 have l6 := hB.size
 replace hnt := hnt.more b4 (Nat.le_refl _)
 replace hit := hit.more b4 (Nat.le_refl _)
 replace hct := hct.more b4 (Nat.le_refl _)
 replace hB := below_then hB b4
 replace hL := LL.more hL z5
 refine Pu rfl (Ni (hK1 (Sq fun K7 hK7 => (Sq fun K8 hK8 => (Rg (Va (dx_fld (o1 := 0) rfl ty_fld_27_0_0 rfl rfl) rfl rfl (Va (dx_load rfl ty_one_3 rfl (k3.cell (k := 0) rfl)) rfl rfl ?_)))))))
 refine Ni (hK8 (WC.block (Sq fun K9 hK9 => (Rg (Va (dx_eql rfl rfl rfl) rfl rfl (Pu rfl (Ni ?_)))))))
 refine hK9 ?_
 refine WC.cond rfl (fun c10 => ?_) (fun c10 => ?_)
 ·
  replace c10 := dT c10
  refine Sq fun K11 hK11 => (Rg (Pu rfl (Ni (hK11 ?_))))
  exact WC.ret fun a_ ha_ => hQ (cv_ret1 rfl (.tmp rfl) (by rw [show prJ m t.er = [116, 114, 117, 101] from (pr_l (by omega) (by omega)).trans (leafP_1 (by rw [er_kind]; assumption))]; rfl) hB ha_)
 ·
  replace c10 := dF c10
  refine Sq fun K12 hK12 => (Rg (Va (dx_eql rfl rfl rfl) rfl rfl (Pu rfl (Ni (hK12 ?_)))))
  refine WC.cond rfl (fun c13 => ?_) (fun c13 => ?_)
  ·
   replace c13 := dT c13
   refine Sq fun K14 hK14 => (Rg (Pu rfl (Ni (hK14 ?_))))
   exact WC.ret fun a_ ha_ => hQ (cv_ret1 rfl (.tmp rfl) (by rw [show prJ m t.er = [102, 97, 108, 115, 101] from (pr_l (by omega) (by omega)).trans (leafP_2 (by rw [er_kind]; assumption))]; rfl) hB ha_)
  ·
   replace c13 := dF c13
   refine Sq fun K15 hK15 => (Rg (Va (dx_eql rfl rfl rfl) rfl rfl (Pu rfl (Ni (hK15 ?_)))))
   refine WC.cond rfl (fun c16 => ?_) (fun c16 => ?_)
   ·
    replace c16 := dT c16
    refine Sq fun K17 hK17 => (Sq fun K18 hK18 => ?_)
    obtain ⟨hn0, hn1⟩ := num_of hr (by assumption)
    refine Rg (Va (dx_fld (o1 := 1) rfl ty_fld_27_1_1 rfl rfl) rfl rfl (Va (dx_load rfl ty_one_3 rfl (k3.cell (k := 1) rfl)) rfl rfl (Va (dx_lss rfl rfl rfl) rfl rfl (Ni (hK18 ?_)))))
    refine WC.cond rfl (fun c19 => ?_) (fun c19 => ?_)
    ·
     replace c19 := dT c19
     refine Sq fun K20 hK20 => ?_
     obtain ⟨u, hu⟩ : ∃ u : Nat, (u : Int) = -t.num := ⟨(-t.num).toNat, by omega⟩
     have hdl := decL_len 20 u (by omega)
     refine Rg (Va (dx_fld (o1 := 1) rfl ty_fld_27_1_1 rfl rfl) rfl rfl (Va (dx_load rfl ty_one_3 rfl (k3.cell (k := 1) rfl)) rfl rfl (Va (dx_negI (r := -t.num) rfl rfl (by rw [wrap64_id (by omega)]; omega)) rfl rfl ?_)))
     refine Ge (dx_cv rfl Tryz.func46 rfl rfl rfl (rdig_at u (-t.num) hu (by omega) W2 _ hL)) rfl rfl ?_
     rintro _ W22 ⟨rfl, b21⟩
     replace hB := below_then hB b21
     refine Va (dv_e (dx_addT (m := strOfNums [45]) (n := strOfNums (decL u)) rfl rfl rfl (by rw [strOfNums_size, strOfNums_size]; (try simp only [List.length_append, List.length_cons, List.length_nil]); omega)) (congrArg Value.string (strOf_app [45] (decL u)))) rfl rfl (Pu rfl (Ni (hK20 ?_)))
     exact WC.ret fun a_ ha_ => hQ (cv_ret1 rfl (.tmp rfl) (by rw [show prJ m t.er = 45 :: decL u from (pr_l (by omega) (by omega)).trans ((leafP_3 (by rw [er_kind]; assumption)).trans (by rw [er_num]; exact numJ_neg hu (by omega)))]; rfl) hB ha_)
    ·
     replace c19 := dF c19
     refine WC.skip (hK17 (Sq fun K23 hK23 => ?_))
     obtain ⟨u, hu⟩ : ∃ u : Nat, (u : Int) = t.num := ⟨t.num.toNat, by omega⟩
     refine Rg (Va (dx_fld (o1 := 1) rfl ty_fld_27_1_1 rfl rfl) rfl rfl (Va (dx_load rfl ty_one_3 rfl (k3.cell (k := 1) rfl)) rfl rfl ?_))
     refine Ge (dx_cv rfl Tryz.func46 rfl rfl rfl (rdig_at u t.num hu (by omega) W2 _ hL)) rfl rfl ?_
     rintro _ W25 ⟨rfl, b24⟩
     replace hB := below_then hB b24
     refine Pu rfl (Ni (hK23 ?_))
     exact WC.ret fun a_ ha_ => hQ (cv_ret1 rfl (.tmp rfl) (by rw [show prJ m t.er = decL u from (pr_l (by omega) (by omega)).trans ((leafP_3 (by rw [er_kind]; assumption)).trans (by rw [er_num]; exact numJ_pos hu))]) hB ha_)
   ·
    replace c16 := dF c16
    refine Sq fun K26 hK26 => (Rg (Va (dx_eql rfl rfl rfl) rfl rfl (Pu rfl (Ni (hK26 ?_)))))
    refine WC.cond rfl (fun c27 => ?_) (fun c27 => ?_)
    ·
     replace c27 := dT c27
     refine Sq fun K28 hK28 => (Rg (Va (dx_fld (o1 := 2) rfl ty_fld_27_2_2 rfl rfl) rfl rfl (Va (dx_load rfl ty_one_9 rfl (k3.cell (k := 2) rfl)) rfl rfl ?_)))
     refine Ge (dx_cv rfl Tryz.func47 rfl rfl rfl (rquote_v t.text W2 _ hL hz.1)) rfl rfl ?_
     rintro _ W30 ⟨rfl, b29⟩
     replace hB := below_then hB b29
     refine Pu rfl (Ni (hK28 ?_))
     exact WC.ret fun a_ ha_ => hQ (cv_ret1 rfl (.tmp rfl) (by rw [show prJ m t.er = quoJ t.text from (pr_l (by omega) (by omega)).trans ((leafP_4 (by rw [er_kind]; assumption)).trans (by rw [er_text]))]) hB ha_)
    ·
     replace c27 := dF c27
     refine Sq fun K31 hK31 => (Sq fun K32 hK32 => (Rg (Va (dx_eql rfl rfl rfl) rfl rfl (Pu rfl (Ni (hK32 ?_))))))
     refine WC.cond rfl (fun c33 => ?_) (fun c33 => ?_)
     ·
      replace c33 := dT c33
      have hkt : t.kind = 5 := by omega
      refine WC.skip (hK31 ?_)
      refine WC.cond rfl (fun c34 => ?_) (fun c34 => ?_)
      ·
       replace c34 := dT c34
       refine Sq fun K35 hK35 => ?_
       obtain ⟨q, rfl, hrq, hln6⟩ := node_of hr (by first | exact .inl hkt | exact .inr hkt)
       have hpr_ := pr_5 (n := q) hkt
       have hpl_ := pcs_len5 (n := q) hkt
       have hcm_ : (commaJ (pcs q t.er)).length + 2 ≤ 30000000 := by rw [hpr_, List.length_cons, List.length_append, List.length_singleton] at hpl0; omega
       refine Rg (Pu rfl (Ni (hK35 (Sq fun K36 hK36 => (Sq fun K37 hK37 => (Rg (Pu rfl ?_)))))))
       refine Ni (hK37 (WC.block ?_))
       refine WC.loop (fun (i : Nat) => [(1, .pointer (some ⟨w.heap.size, 0, none⟩)), (4, .int .i64 (i : Int)), (3, .string (strOfNums (commaJ ((pcs q t.er).take i))))]) (fun (i : Nat) W => i ≤ t.items.length ∧ Below w.heap.size w W ∧ LL (w.heap.size :: L) W ∧ RdF 1 (w.heap.size :: L) W t.nv (t.names.map eS) ∧ RdF 5 (w.heap.size :: L) W t.iv (t.items.map encT) ∧ RdTs n (w.heap.size :: L) W t.items ∧ Blk W w.heap.size [.int .i64 t.kind, .int .i64 t.num, .string t.text, t.nv, t.iv]) (fun (i : Nat) => t.items.length - i) 0 (by repeat first | exact trivial | refine aR ?_ | refine aI (by omega) ?_) ⟨Nat.zero_le _, hB, hL, hnt, hit, hct, k3⟩ ?_
       clear hnt hit hct k3 hB hL
       rintro K38 i W39 ⟨hi, hB, hL, hnt, hit, hct, k3⟩ hK38
       refine Sq fun K40 hK40 => (Sq fun K41 hK41 => ?_)
       have hcb : (commaJ ((pcs q t.er).take i)).length ≤ 30000000 := by obtain ⟨y_, hy_⟩ := comma_tail (pcs q t.er) i; have e_ := congrArg List.length hy_; rw [List.length_append] at e_; omega
       refine Rg (Pu rfl (Va (dx_fld (o1 := 4) rfl ty_fld_27_4_4 rfl rfl) rfl rfl (Va (dx_load rfl ty_one_25 rfl (k3.cell (k := 4) rfl)) rfl rfl (Va (dx_lenFM rfl ty_slice_25 rfl hit) rfl rfl (Va (dx_lss rfl rfl rfl) rfl rfl (Ni (hK41 ?_)))))))
       refine WC.cond rfl (fun c42 => ?_) (fun c42 => ?_)
       ·
        replace c42 := dT c42
        refine WC.skip (hK40 (Sq fun K43 hK43 => (WC.block (Sq fun K44 hK44 => (Sq fun K45 hK45 => ?_)))))
        obtain ⟨r_, hr_⟩ : ∃ x, t.items[i]? = some x := ⟨_, List.getElem?_eq_getElem (by omega)⟩
        have hrm_ := List.mem_of_getElem? hr_
        have hp_ := pcs_5 (n := q) hkt hr_
        have hcl_ := comma_mem hp_
        have hrp_ : (prJ q r_.er).length ≤ 30000000 := by (try rw [List.length_append, List.length_cons] at hcl_); omega
        refine Rg (Pu rfl (Va (dx_gtr rfl rfl rfl) rfl rfl (Ni (hK45 ?_))))
        refine WC.cond rfl (fun c46 => ?_) (fun c46 => ?_)
        ·
         replace c46 := dT c46
         have hi0 : ¬ i = 0 := by omega
         refine Rg (Pu rfl (Va (dv_e (dx_addT (m := strOfNums (commaJ ((pcs q t.er).take i))) (n := strOfNums [44]) rfl rfl rfl (by rw [strOfNums_size, strOfNums_size]; (try simp only [List.length_append, List.length_cons, List.length_nil]); omega)) (congrArg Value.string (strOf_app (commaJ ((pcs q t.er).take i)) [44]))) rfl rfl (Pu rfl (Ni (hK44 (Sq fun K47 hK47 => (Sq fun K48 hK48 => ?_)))))))
         refine Rg (Va (dx_fld (o1 := 0) rfl ty_fld_27_0_0 rfl rfl) rfl rfl (Va (dx_load rfl ty_one_3 rfl (k3.cell (k := 0) rfl)) rfl rfl (Va (dx_eql rfl rfl rfl) rfl rfl (Ni (hK48 ?_)))))
         refine WC.cond rfl (fun c49 => ?_) (fun c49 => ?_)
         ·
          replace c49 := dT c49
          exact absurd hkt (by omega)
         ·
          replace c49 := dF c49
          refine WC.skip (hK47 (Rg (Pu rfl (Va (dx_fld (o1 := 4) rfl ty_fld_27_4_4 rfl rfl) rfl rfl (Va (dx_load rfl ty_one_25 rfl (k3.cell (k := 4) rfl)) rfl rfl (Pu rfl ?_))))))
          refine Ge (dx_idxF i rfl ty_slice_25 rfl rfl hit (by omega) (at_mapX hr_)) rfl rfl ?_
          rintro u50 _ ⟨rfl, p51⟩
          refine Va (dx_loadPN rfl ty_agg_27_5 rfl p51 rfl) rfl rfl ?_
          refine Ge (dx_cv rfl Tryz.func23 rfl rfl rfl (ih q rfl n r_ W39 _ hL (hct r_ hrm_) (hz.2.2.2.2 r_ hrm_) (hrq r_ hrm_) hrp_)) rfl rfl ?_
          rintro _ W53 ⟨rfl, b52⟩
          replace hnt := hnt.below b52
          replace hit := hit.below b52
          replace hct := hct.below b52
          replace k3 := k3.below b52
          replace hB := below_then hB b52
          replace hL := LL.below hL b52
          have hst_ : ((commaJ ((pcs q t.er).take i)) ++ [44]) ++ (prJ q r_.er) = commaJ ((pcs q t.er).take (i + 1)) := by rw [comma_add _ i _ hp_, if_neg hi0]; simp
          refine Va (dv_e (dx_addT (m := strOfNums ((commaJ ((pcs q t.er).take i)) ++ [44])) (n := strOfNums (prJ q r_.er)) rfl rfl rfl (by rw [strOfNums_size, strOfNums_size]; (try simp only [List.length_append, List.length_cons, List.length_nil]); omega)) (congrArg Value.string ((strOf_app ((commaJ ((pcs q t.er).take i)) ++ [44]) (prJ q r_.er)).trans (congrArg strOfNums hst_)))) rfl rfl (Pu rfl (Ni (hK43 (Rg (Pu rfl (Va (dx_add (r := (i : Int) + 1) rfl rfl rfl (wrap64_id (by omega))) rfl rfl (Pu rfl ?_)))))))
          refine Ni ?_
          exact hK38 (i + 1) ⟨(by omega), hB, hL, hnt, hit, hct, k3⟩ (by omega) (by repeat first | exact trivial | refine aR ?_ | refine aI (by omega) ?_)
        ·
         replace c46 := dF c46
         have hi0 : i = 0 := by omega
         refine WC.skip (hK44 (Sq fun K54 hK54 => (Sq fun K55 hK55 => (Rg (Va (dx_fld (o1 := 0) rfl ty_fld_27_0_0 rfl rfl) rfl rfl (Va (dx_load rfl ty_one_3 rfl (k3.cell (k := 0) rfl)) rfl rfl (Va (dx_eql rfl rfl rfl) rfl rfl ?_)))))))
         refine Ni (hK55 ?_)
         refine WC.cond rfl (fun c56 => ?_) (fun c56 => ?_)
         ·
          replace c56 := dT c56
          exact absurd hkt (by omega)
         ·
          replace c56 := dF c56
          refine WC.skip (hK54 (Rg (Pu rfl (Va (dx_fld (o1 := 4) rfl ty_fld_27_4_4 rfl rfl) rfl rfl (Va (dx_load rfl ty_one_25 rfl (k3.cell (k := 4) rfl)) rfl rfl (Pu rfl ?_))))))
          refine Ge (dx_idxF i rfl ty_slice_25 rfl rfl hit (by omega) (at_mapX hr_)) rfl rfl ?_
          rintro u57 _ ⟨rfl, p58⟩
          refine Va (dx_loadPN rfl ty_agg_27_5 rfl p58 rfl) rfl rfl ?_
          refine Ge (dx_cv rfl Tryz.func23 rfl rfl rfl (ih q rfl n r_ W39 _ hL (hct r_ hrm_) (hz.2.2.2.2 r_ hrm_) (hrq r_ hrm_) hrp_)) rfl rfl ?_
          rintro _ W60 ⟨rfl, b59⟩
          replace hnt := hnt.below b59
          replace hit := hit.below b59
          replace hct := hct.below b59
          replace k3 := k3.below b59
          replace hB := below_then hB b59
          replace hL := LL.below hL b59
          have hst_ : (commaJ ((pcs q t.er).take i)) ++ (prJ q r_.er) = commaJ ((pcs q t.er).take (i + 1)) := by rw [comma_add _ i _ hp_, if_pos hi0]; simp
          refine Va (dv_e (dx_addT (m := strOfNums (commaJ ((pcs q t.er).take i))) (n := strOfNums (prJ q r_.er)) rfl rfl rfl (by rw [strOfNums_size, strOfNums_size]; (try simp only [List.length_append, List.length_cons, List.length_nil]); omega)) (congrArg Value.string ((strOf_app (commaJ ((pcs q t.er).take i)) (prJ q r_.er)).trans (congrArg strOfNums hst_)))) rfl rfl (Pu rfl (Ni (hK43 (Rg (Pu rfl (Va (dx_add (r := (i : Int) + 1) rfl rfl rfl (wrap64_id (by omega))) rfl rfl (Pu rfl ?_)))))))
          refine Ni ?_
          exact hK38 (i + 1) ⟨(by omega), hB, hL, hnt, hit, hct, k3⟩ (by omega) (by repeat first | exact trivial | refine aR ?_ | refine aI (by omega) ?_)
       ·
        replace c42 := dF c42
        refine WC.exit ?_
        refine hK36 (Sq fun K61 hK61 => (Sq fun K62 hK62 => (Rg (Va (dx_fld (o1 := 0) rfl ty_fld_27_0_0 rfl rfl) rfl rfl (Va (dx_load rfl ty_one_3 rfl (k3.cell (k := 0) rfl)) rfl rfl (Va (dx_eql rfl rfl rfl) rfl rfl (Ni ?_)))))))
        refine hK62 ?_
        refine WC.cond rfl (fun c63 => ?_) (fun c63 => ?_)
        ·
         replace c63 := dT c63
         refine Sq fun K64 hK64 => (Rg (Pu rfl (Va (dv_e (dx_addT (m := strOfNums [91]) (n := strOfNums (commaJ ((pcs q t.er).take i))) rfl rfl rfl (by rw [strOfNums_size, strOfNums_size]; (try simp only [List.length_append, List.length_cons, List.length_nil]); omega)) (congrArg Value.string (strOf_app [91] (commaJ ((pcs q t.er).take i))))) rfl rfl (Va (dv_e (dx_addT (m := strOfNums ([91] ++ (commaJ ((pcs q t.er).take i)))) (n := strOfNums [93]) rfl rfl rfl (by rw [strOfNums_size, strOfNums_size]; (try simp only [List.length_append, List.length_cons, List.length_nil]); omega)) (congrArg Value.string (strOf_app ([91] ++ (commaJ ((pcs q t.er).take i))) [93]))) rfl rfl (Pu rfl (Ni (hK64 ?_)))))))
         exact WC.ret fun a_ ha_ => hQ (cv_ret1 rfl (.tmp rfl) (by have e_ : (pcs q t.er).take i = pcs q t.er := List.take_of_length_le (by omega); rw [hpr_, e_]; rfl) hB ha_)
        ·
         replace c63 := dF c63
         exact absurd hkt (by omega)
      ·
       replace c34 := dF c34
       exact absurd hkt (by omega)
     ·
      replace c33 := dF c33
      have hkn5 : ¬ t.kind = 5 := by omega
      refine Rg (Va (dx_eql rfl rfl rfl) rfl rfl (Pu rfl (Ni (hK31 ?_))))
      refine WC.cond rfl (fun c65 => ?_) (fun c65 => ?_)
      ·
       replace c65 := dT c65
       have hkt : t.kind = 6 := by omega
       refine Sq fun K66 hK66 => ?_
       obtain ⟨q, rfl, hrq, hln6⟩ := node_of hr (by first | exact .inl hkt | exact .inr hkt)
       replace hln6 := hln6 hkt
       have hpr_ := pr_6 (n := q) hkt
       have hpl_ := pcs_len6 (n := q) hkt hln6
       have hcm_ : (commaJ (pcs q t.er)).length + 2 ≤ 30000000 := by rw [hpr_, List.length_cons, List.length_append, List.length_singleton] at hpl0; omega
       refine Rg (Pu rfl (Ni (hK66 (Sq fun K67 hK67 => (Sq fun K68 hK68 => (Rg (Pu rfl ?_)))))))
       refine Ni (hK68 (WC.block ?_))
       refine WC.loop (fun (i : Nat) => [(1, .pointer (some ⟨w.heap.size, 0, none⟩)), (4, .int .i64 (i : Int)), (3, .string (strOfNums (commaJ ((pcs q t.er).take i))))]) (fun (i : Nat) W => i ≤ t.items.length ∧ Below w.heap.size w W ∧ LL (w.heap.size :: L) W ∧ RdF 1 (w.heap.size :: L) W t.nv (t.names.map eS) ∧ RdF 5 (w.heap.size :: L) W t.iv (t.items.map encT) ∧ RdTs n (w.heap.size :: L) W t.items ∧ Blk W w.heap.size [.int .i64 t.kind, .int .i64 t.num, .string t.text, t.nv, t.iv]) (fun (i : Nat) => t.items.length - i) 0 (by repeat first | exact trivial | refine aR ?_ | refine aI (by omega) ?_) ⟨Nat.zero_le _, hB, hL, hnt, hit, hct, k3⟩ ?_
       clear hnt hit hct k3 hB hL
       rintro K69 i W70 ⟨hi, hB, hL, hnt, hit, hct, k3⟩ hK69
       refine Sq fun K71 hK71 => (Sq fun K72 hK72 => ?_)
       have hcb : (commaJ ((pcs q t.er).take i)).length ≤ 30000000 := by obtain ⟨y_, hy_⟩ := comma_tail (pcs q t.er) i; have e_ := congrArg List.length hy_; rw [List.length_append] at e_; omega
       refine Rg (Pu rfl (Va (dx_fld (o1 := 4) rfl ty_fld_27_4_4 rfl rfl) rfl rfl (Va (dx_load rfl ty_one_25 rfl (k3.cell (k := 4) rfl)) rfl rfl (Va (dx_lenFM rfl ty_slice_25 rfl hit) rfl rfl (Va (dx_lss rfl rfl rfl) rfl rfl (Ni (hK72 ?_)))))))
       refine WC.cond rfl (fun c73 => ?_) (fun c73 => ?_)
       ·
        replace c73 := dT c73
        refine WC.skip (hK71 (Sq fun K74 hK74 => (WC.block (Sq fun K75 hK75 => (Sq fun K76 hK76 => ?_)))))
        obtain ⟨r_, hr_⟩ : ∃ x, t.items[i]? = some x := ⟨_, List.getElem?_eq_getElem (by omega)⟩
        have hrm_ := List.mem_of_getElem? hr_
        obtain ⟨a_, ha_⟩ : ∃ x, t.names[i]? = some x := ⟨_, List.getElem?_eq_getElem (by omega)⟩
        have hqa_ := quo_len a_
        have hqs_ := hz.2.2.2.1 a_ (List.mem_of_getElem? ha_)
        have hp_ := pcs_6 (n := q) hkt hr_ ha_
        have hcl_ := comma_mem hp_
        have hrp_ : (prJ q r_.er).length ≤ 30000000 := by (try rw [List.length_append, List.length_cons] at hcl_); omega
        refine Rg (Pu rfl (Va (dx_gtr rfl rfl rfl) rfl rfl (Ni (hK76 ?_))))
        refine WC.cond rfl (fun c77 => ?_) (fun c77 => ?_)
        ·
         replace c77 := dT c77
         have hi0 : ¬ i = 0 := by omega
         refine Rg (Pu rfl (Va (dv_e (dx_addT (m := strOfNums (commaJ ((pcs q t.er).take i))) (n := strOfNums [44]) rfl rfl rfl (by rw [strOfNums_size, strOfNums_size]; (try simp only [List.length_append, List.length_cons, List.length_nil]); omega)) (congrArg Value.string (strOf_app (commaJ ((pcs q t.er).take i)) [44]))) rfl rfl (Pu rfl (Ni (hK75 (Sq fun K78 hK78 => (Sq fun K79 hK79 => ?_)))))))
         refine Rg (Va (dx_fld (o1 := 0) rfl ty_fld_27_0_0 rfl rfl) rfl rfl (Va (dx_load rfl ty_one_3 rfl (k3.cell (k := 0) rfl)) rfl rfl (Va (dx_eql rfl rfl rfl) rfl rfl (Ni (hK79 ?_)))))
         refine WC.cond rfl (fun c80 => ?_) (fun c80 => ?_)
         ·
          replace c80 := dT c80
          refine Rg (Pu rfl (Va (dx_fld (o1 := 3) rfl ty_fld_27_3_3 rfl rfl) rfl rfl (Va (dx_load rfl ty_one_24 rfl (k3.cell (k := 3) rfl)) rfl rfl (Pu rfl ?_))))
          refine Ge (dx_idxF i rfl ty_slice_24 rfl rfl hnt (by omega) (at_mapX ha_)) rfl rfl ?_
          rintro u81 _ ⟨rfl, p82⟩
          refine Va (dx_loadP rfl ty_one_9 rfl p82) rfl rfl ?_
          refine Ge (dx_cv rfl Tryz.func47 rfl rfl rfl (rquote_v a_ W70 _ hL (hz.2.2.2.1 _ (List.mem_of_getElem? ha_)))) rfl rfl ?_
          rintro _ W84 ⟨rfl, b83⟩
          replace hnt := hnt.below b83
          replace hit := hit.below b83
          replace hct := hct.below b83
          replace k3 := k3.below b83
          replace hB := below_then hB b83
          replace hL := LL.below hL b83
          refine Va (dv_e (dx_addT (m := strOfNums ((commaJ ((pcs q t.er).take i)) ++ [44])) (n := strOfNums (quoJ a_)) rfl rfl rfl (by rw [strOfNums_size, strOfNums_size]; (try simp only [List.length_append, List.length_cons, List.length_nil]); omega)) (congrArg Value.string (strOf_app ((commaJ ((pcs q t.er).take i)) ++ [44]) (quoJ a_)))) rfl rfl (Va (dv_e (dx_addT (m := strOfNums (((commaJ ((pcs q t.er).take i)) ++ [44]) ++ (quoJ a_))) (n := strOfNums [58]) rfl rfl rfl (by rw [strOfNums_size, strOfNums_size]; (try simp only [List.length_append, List.length_cons, List.length_nil]); omega)) (congrArg Value.string (strOf_app (((commaJ ((pcs q t.er).take i)) ++ [44]) ++ (quoJ a_)) [58]))) rfl rfl (Pu rfl (Ni (hK78 (Rg (Pu rfl (Va (dx_fld (o1 := 4) rfl ty_fld_27_4_4 rfl rfl) rfl rfl ?_)))))))
          refine Va (dx_load rfl ty_one_25 rfl (k3.cell (k := 4) rfl)) rfl rfl (Pu rfl ?_)
          refine Ge (dx_idxF i rfl ty_slice_25 rfl rfl hit (by omega) (at_mapX hr_)) rfl rfl ?_
          rintro u85 _ ⟨rfl, p86⟩
          refine Va (dx_loadPN rfl ty_agg_27_5 rfl p86 rfl) rfl rfl ?_
          refine Ge (dx_cv rfl Tryz.func23 rfl rfl rfl (ih q rfl n r_ W84 _ hL (hct r_ hrm_) (hz.2.2.2.2 r_ hrm_) (hrq r_ hrm_) hrp_)) rfl rfl ?_
          rintro _ W88 ⟨rfl, b87⟩
          replace hnt := hnt.below b87
          replace hit := hit.below b87
          replace hct := hct.below b87
          replace k3 := k3.below b87
          replace hB := below_then hB b87
          replace hL := LL.below hL b87
          have hst_ : ((((commaJ ((pcs q t.er).take i)) ++ [44]) ++ (quoJ a_)) ++ [58]) ++ (prJ q r_.er) = commaJ ((pcs q t.er).take (i + 1)) := by rw [comma_add _ i _ hp_, if_neg hi0]; simp
          refine Va (dv_e (dx_addT (m := strOfNums ((((commaJ ((pcs q t.er).take i)) ++ [44]) ++ (quoJ a_)) ++ [58])) (n := strOfNums (prJ q r_.er)) rfl rfl rfl (by rw [strOfNums_size, strOfNums_size]; (try simp only [List.length_append, List.length_cons, List.length_nil]); omega)) (congrArg Value.string ((strOf_app ((((commaJ ((pcs q t.er).take i)) ++ [44]) ++ (quoJ a_)) ++ [58]) (prJ q r_.er)).trans (congrArg strOfNums hst_)))) rfl rfl (Pu rfl (Ni (hK74 (Rg (Pu rfl (Va (dx_add (r := (i : Int) + 1) rfl rfl rfl (wrap64_id (by omega))) rfl rfl (Pu rfl ?_)))))))
          refine Ni ?_
          exact hK69 (i + 1) ⟨(by omega), hB, hL, hnt, hit, hct, k3⟩ (by omega) (by repeat first | exact trivial | refine aR ?_ | refine aI (by omega) ?_)
         ·
          replace c80 := dF c80
          exact absurd hkt (by omega)
        ·
         replace c77 := dF c77
         have hi0 : i = 0 := by omega
         refine WC.skip (hK75 (Sq fun K89 hK89 => (Sq fun K90 hK90 => (Rg (Va (dx_fld (o1 := 0) rfl ty_fld_27_0_0 rfl rfl) rfl rfl (Va (dx_load rfl ty_one_3 rfl (k3.cell (k := 0) rfl)) rfl rfl (Va (dx_eql rfl rfl rfl) rfl rfl ?_)))))))
         refine Ni (hK90 ?_)
         refine WC.cond rfl (fun c91 => ?_) (fun c91 => ?_)
         ·
          replace c91 := dT c91
          refine Rg (Pu rfl (Va (dx_fld (o1 := 3) rfl ty_fld_27_3_3 rfl rfl) rfl rfl (Va (dx_load rfl ty_one_24 rfl (k3.cell (k := 3) rfl)) rfl rfl (Pu rfl ?_))))
          refine Ge (dx_idxF i rfl ty_slice_24 rfl rfl hnt (by omega) (at_mapX ha_)) rfl rfl ?_
          rintro u92 _ ⟨rfl, p93⟩
          refine Va (dx_loadP rfl ty_one_9 rfl p93) rfl rfl ?_
          refine Ge (dx_cv rfl Tryz.func47 rfl rfl rfl (rquote_v a_ W70 _ hL (hz.2.2.2.1 _ (List.mem_of_getElem? ha_)))) rfl rfl ?_
          rintro _ W95 ⟨rfl, b94⟩
          replace hnt := hnt.below b94
          replace hit := hit.below b94
          replace hct := hct.below b94
          replace k3 := k3.below b94
          replace hB := below_then hB b94
          replace hL := LL.below hL b94
          refine Va (dv_e (dx_addT (m := strOfNums (commaJ ((pcs q t.er).take i))) (n := strOfNums (quoJ a_)) rfl rfl rfl (by rw [strOfNums_size, strOfNums_size]; (try simp only [List.length_append, List.length_cons, List.length_nil]); omega)) (congrArg Value.string (strOf_app (commaJ ((pcs q t.er).take i)) (quoJ a_)))) rfl rfl (Va (dv_e (dx_addT (m := strOfNums ((commaJ ((pcs q t.er).take i)) ++ (quoJ a_))) (n := strOfNums [58]) rfl rfl rfl (by rw [strOfNums_size, strOfNums_size]; (try simp only [List.length_append, List.length_cons, List.length_nil]); omega)) (congrArg Value.string (strOf_app ((commaJ ((pcs q t.er).take i)) ++ (quoJ a_)) [58]))) rfl rfl (Pu rfl (Ni (hK89 (Rg (Pu rfl (Va (dx_fld (o1 := 4) rfl ty_fld_27_4_4 rfl rfl) rfl rfl ?_)))))))
          refine Va (dx_load rfl ty_one_25 rfl (k3.cell (k := 4) rfl)) rfl rfl (Pu rfl ?_)
          refine Ge (dx_idxF i rfl ty_slice_25 rfl rfl hit (by omega) (at_mapX hr_)) rfl rfl ?_
          rintro u96 _ ⟨rfl, p97⟩
          refine Va (dx_loadPN rfl ty_agg_27_5 rfl p97 rfl) rfl rfl ?_
          refine Ge (dx_cv rfl Tryz.func23 rfl rfl rfl (ih q rfl n r_ W95 _ hL (hct r_ hrm_) (hz.2.2.2.2 r_ hrm_) (hrq r_ hrm_) hrp_)) rfl rfl ?_
          rintro _ W99 ⟨rfl, b98⟩
          replace hnt := hnt.below b98
          replace hit := hit.below b98
          replace hct := hct.below b98
          replace k3 := k3.below b98
          replace hB := below_then hB b98
          replace hL := LL.below hL b98
          have hst_ : (((commaJ ((pcs q t.er).take i)) ++ (quoJ a_)) ++ [58]) ++ (prJ q r_.er) = commaJ ((pcs q t.er).take (i + 1)) := by rw [comma_add _ i _ hp_, if_pos hi0]; simp
          refine Va (dv_e (dx_addT (m := strOfNums (((commaJ ((pcs q t.er).take i)) ++ (quoJ a_)) ++ [58])) (n := strOfNums (prJ q r_.er)) rfl rfl rfl (by rw [strOfNums_size, strOfNums_size]; (try simp only [List.length_append, List.length_cons, List.length_nil]); omega)) (congrArg Value.string ((strOf_app (((commaJ ((pcs q t.er).take i)) ++ (quoJ a_)) ++ [58]) (prJ q r_.er)).trans (congrArg strOfNums hst_)))) rfl rfl (Pu rfl (Ni (hK74 (Rg (Pu rfl (Va (dx_add (r := (i : Int) + 1) rfl rfl rfl (wrap64_id (by omega))) rfl rfl (Pu rfl ?_)))))))
          refine Ni ?_
          exact hK69 (i + 1) ⟨(by omega), hB, hL, hnt, hit, hct, k3⟩ (by omega) (by repeat first | exact trivial | refine aR ?_ | refine aI (by omega) ?_)
         ·
          replace c91 := dF c91
          exact absurd hkt (by omega)
       ·
        replace c73 := dF c73
        refine WC.exit ?_
        refine hK67 (Sq fun K100 hK100 => (Sq fun K101 hK101 => (Rg (Va (dx_fld (o1 := 0) rfl ty_fld_27_0_0 rfl rfl) rfl rfl (Va (dx_load rfl ty_one_3 rfl (k3.cell (k := 0) rfl)) rfl rfl (Va (dx_eql rfl rfl rfl) rfl rfl (Ni ?_)))))))
        refine hK101 ?_
        refine WC.cond rfl (fun c102 => ?_) (fun c102 => ?_)
        ·
         replace c102 := dT c102
         exact absurd hkt (by omega)
        ·
         replace c102 := dF c102
         refine WC.skip (hK100 (Sq fun K103 hK103 => (Rg (Pu rfl (Va (dv_e (dx_addT (m := strOfNums [123]) (n := strOfNums (commaJ ((pcs q t.er).take i))) rfl rfl rfl (by rw [strOfNums_size, strOfNums_size]; (try simp only [List.length_append, List.length_cons, List.length_nil]); omega)) (congrArg Value.string (strOf_app [123] (commaJ ((pcs q t.er).take i))))) rfl rfl (Va (dv_e (dx_addT (m := strOfNums ([123] ++ (commaJ ((pcs q t.er).take i)))) (n := strOfNums [125]) rfl rfl rfl (by rw [strOfNums_size, strOfNums_size]; (try simp only [List.length_append, List.length_cons, List.length_nil]); omega)) (congrArg Value.string (strOf_app ([123] ++ (commaJ ((pcs q t.er).take i))) [125]))) rfl rfl (Pu rfl ?_)))))))
         refine Ni (hK103 ?_)
         exact WC.ret fun a_ ha_ => hQ (cv_ret1 rfl (.tmp rfl) (by have e_ : (pcs q t.er).take i = pcs q t.er := List.take_of_length_le (by omega); rw [hpr_, e_]; rfl) hB ha_)
      ·
       replace c65 := dF c65
       refine WC.skip (hK7 (Sq fun K104 hK104 => (Rg (Pu rfl (Ni (hK104 ?_))))))
       exact WC.ret fun a_ ha_ => hQ (cv_ret1 rfl (.tmp rfl) (by have hk0 : t.kind = 0 := Classical.byContradiction fun h0 => kinds_of hr h0 (by assumption) (by assumption) (by assumption) (by assumption) (by omega) (by omega); rw [show prJ m t.er = [110, 117, 108, 108] from (pr_l (by omega) (by omega)).trans (leafP_0 (by rw [er_kind]; assumption))]; rfl) hB ha_)

theorem rprint_all : ∀ m, RpAt m
 | 0 => fun n t w L hL ht hz hr hw => by
  cases n with
  | zero => exact ht.elim
  | succ k => exact rprint_step 0 (fun q h => by omega) k t w L hL ht hz hr hw
 | m + 1 => fun n t w L hL ht hz hr hw => by
  cases n with
  | zero => exact ht.elim
  | succ k => exact rprint_step (m + 1) (fun q h => by (obtain rfl : m = q := (by omega)); exact rprint_all m) k t w L hL ht hz hr hw

theorem prtX_long {j : Js} (h : rightJ upB 12 j = true) (hl : 8192 < (prJ 12 j).length) : prtS j = (⟨#[]⟩, 3) := by
 unfold prtS textJ; rw [if_pos h, if_pos hl]
theorem prtX_ok {j : Js} (h : rightJ upB 12 j = true) (hl : ¬ 8192 < (prJ 12 j).length) : prtS j = (strOfNums (prJ 12 j), 0) := by
 unfold prtS textJ; rw [if_pos h, if_neg hl]
set_option maxHeartbeats 1000000 in
theorem rPrint_v (n : Nat) (t : Tr) (w : World) (L : List Nat) (hL : LL L w) (ht : RdT (n + 1) L w t)  (hzt : SzT 1000000 (n + 1) t) (hpl0 : rightJ upB 12 t.er = true → (prJ 12 t.er).length ≤ 30000000) : CV Tryz.prog 10 [.agg #[.int .i64 t.kind, .int .i64 t.num, .string t.text, t.nv, t.iv]] w fun v W => v = .tuple #[.string (prtS t.er).1, .int .i64 (prtS t.er).2] := by
 refine cv_enter (N := 14) (f := [(0, .agg #[.int .i64 t.kind, .int .i64 t.num, .string t.text, t.nv, t.iv])]) Tryz.func10 rfl rfl rfl rfl fun Q hQ hE => ?_
 have hB := Below.refl w.heap.size w
 refine Sq fun K1 hK1 => ?_
 obtain ⟨hnt, hit, hct⟩ := ht
 replace hct : RdTs n (L) w t.items := hct
 refine Rg ?_
 refine Ge (dx_box rfl rfl rfl) rfl rfl ?_
 rintro _ W2 ⟨rfl, k3, b4, z5⟩
 have l6 := hB.size
 replace hnt := hnt.more b4 (Nat.le_refl _)
 replace hit := hit.more b4 (Nat.le_refl _)
 replace hct := hct.more b4 (Nat.le_refl _)
 replace hB := below_then hB b4
 replace hL := LL.more hL z5
 refine Pu rfl (Pu rfl (Ni (hK1 (Sq fun K7 hK7 => (Sq fun K8 hK8 => (Rg (Va (dx_loadN rfl ty_agg_27_5 rfl k3.range rfl) rfl rfl ?_)))))))
 refine Ge (dx_cv rfl Tryz.func22 rfl rfl rfl (rRight_v n t W2 _ hL (show RdT (n + 1) (w.heap.size :: L) W2 t from ⟨hnt, hit, hct⟩) hzt)) rfl rfl ?_
 rintro _ W10 ⟨rfl, b9⟩
 replace hnt := hnt.below b9
 replace hit := hit.below b9
 replace hct := hct.below b9
 replace k3 := k3.below b9
 replace hB := below_then hB b9
 replace hL := LL.below hL b9
 refine Va (dx_not rfl rfl) rfl rfl (Ni (hK8 ?_))
 refine WC.cond rfl (fun c11 => ?_) (fun c11 => ?_)
 ·
  replace c11 := bnot_t c11
  refine Sq fun K12 hK12 => (Rg (Pu rfl (Pu rfl (Ni (hK12 ?_)))))
  exact WC.ret fun a_ ha_ => hQ (cv_ret2 rfl (.tmp rfl) (.tmp rfl) (by rw [prt_no (by first | assumption | (simp_all; done))]) hB ha_)
 ·
  replace c11 := bnot_f c11
  refine WC.skip (hK7 (Sq fun K13 hK13 => ?_))
  have hrt : rightJ upB 12 t.er = true := by first | assumption | (simp_all; done)
  have hsz := strOfNums_size (prJ 12 t.er)
  refine Rg (Va (dx_loadN rfl ty_agg_27_5 rfl k3.range rfl) rfl rfl ?_)
  refine Ge (dx_cv rfl Tryz.func23 rfl rfl rfl (rprint_all 12 (n + 1) t W10 _ hL (show RdT (n + 1) (w.heap.size :: L) W10 t from ⟨hnt, hit, hct⟩) hzt hrt (hpl0 hrt))) rfl rfl ?_
  rintro _ W15 ⟨rfl, b14⟩
  replace hB := below_then hB b14
  refine Pu rfl (Ni (hK13 (Sq fun K16 hK16 => (Sq fun K17 hK17 => (Rg (Pu rfl (Va (dx_lenT rfl Tryz.underlying9 rfl) rfl rfl ?_)))))))
  refine Va (dx_gtr rfl rfl rfl) rfl rfl (Ni (hK17 ?_))
  refine WC.cond rfl (fun c18 => ?_) (fun c18 => ?_)
  ·
   replace c18 := dT c18
   refine Sq fun K19 hK19 => (Rg (Pu rfl (Pu rfl (Ni (hK19 ?_)))))
   exact WC.ret fun a_ ha_ => hQ (cv_ret2 rfl (.tmp rfl) (.tmp rfl) (by rw [prtX_long hrt (by omega)]) hB ha_)
  ·
   replace c18 := dF c18
   refine WC.skip (hK16 (Sq fun K20 hK20 => (Rg (Pu rfl (Pu rfl (Pu rfl (Ni ?_)))))))
   refine hK20 ?_
   exact WC.ret fun a_ ha_ => hQ (cv_ret2 rfl (.tmp rfl) (.tmp rfl) (by rw [prtX_ok hrt (by omega)]) hB ha_)

theorem rPar_u (s : ByteArray) (w : World) (L : List Nat) (hL : LL L w) : CV Tryz.prog 9 [.string s] w fun v W => ∃ (t : Tr) (e : Int), v = .tuple #[.agg #[.int .i64 t.kind, .int .i64 t.num, .string t.text, t.nv, t.iv], .int .i64 e] ∧ MkQ (parJ s) t e ∧ RdT 14 L W t :=
 (refParse_v s w L hL).mono fun v W _ k => by
  rcases k with ⟨t, e1, e2, e3⟩ | ⟨e, e1, e0, e2⟩
  · exact ⟨t, 0, e1, .inl ⟨rfl, e2⟩, e3⟩
  · exact ⟨leafT 0 0 ⟨#[]⟩, e, e1, .inr ⟨e0, e2, rfl⟩, leaf_rd _ _ _ _ _ _⟩
theorem sz_par14 {s : ByteArray} {t : Tr} (h : parJ s = .ok t.er) : SzT 1000000 14 t := (sz_par h).up
set_option maxHeartbeats 1000000 in
theorem rcanon_v (s : ByteArray) (w : World) (L : List Nat) (hL : LL L w)  : CV Tryz.prog 6 [.string s] w fun v W => v = .bool (canS s) := by
 refine cv_enter (N := 26) (f := [(0, .string s)]) Tryz.func6 rfl rfl rfl rfl fun Q hQ hE => ?_
 have hB := Below.refl w.heap.size w
 refine Sq fun K1 hK1 => (Rg (Pu rfl (Ni (hK1 (Sq fun K2 hK2 => (Rg (Pu rfl ?_)))))))
 refine Ge (dx_cv rfl Tryz.func9 rfl rfl rfl (rPar_u s w _ hL)) rfl rfl ?_
 rintro _ W4 ⟨⟨t, e, rfl, hte, ht⟩, b3⟩
 replace hB := below_then hB b3
 replace hL := LL.below hL b3
 refine Pu rfl (Pu rfl (Pu rfl ?_))
 refine Ge (dx_alloc rfl ty_zero_27 rfl) rfl rfl ?_
 rintro _ W5 ⟨rfl, k6, b7, z8⟩
 have l9 := hB.size
 replace ht := ht.more b7 (Nat.le_refl _)
 replace hB := below_then hB b7
 replace hL := LL.more hL z8
 refine WL.do (dx_store (cs' := [.int .i64 t.kind, .int .i64 t.num, .string t.text, t.nv, t.iv]) (vs := [.int .i64 t.kind, .int .i64 t.num, .string t.text, t.nv, t.iv]) rfl ty_size_27_5 rfl rfl rfl (oC rfl (oC rfl (oC rfl (oC (ht.1).one (oC (ht.2.1).one oc_nil))))) k6 rfl (nB rfl) rfl) rfl ?_
 rintro _ W10 ⟨k12, o11⟩
 clear k6
 replace ht := ht.only o11 (.head _)
 replace hB := o11.below hB l9
 replace hL := LL.only hL o11
 refine Pu rfl (Ni (hK2 (Sq fun K13 hK13 => (Sq fun K14 hK14 => (Rg (Pu rfl (Va (dx_neq rfl rfl rfl) rfl rfl ?_)))))))
 refine Ni (hK14 ?_)
 refine WC.cond rfl (fun c15 => ?_) (fun c15 => ?_)
 ·
  replace c15 := bnot_t c15
  replace c15 := dF c15
  refine Sq fun K16 hK16 => ?_
  have hpe := mkQ_1 hte (by first | assumption | omega)
  refine Rg (Pu rfl (Ni (hK16 ?_)))
  exact WC.ret fun a_ ha_ => hQ (cv_ret1 rfl (.tmp rfl) (by rw [can_e hpe]) hB ha_)
 ·
  replace c15 := bnot_f c15
  replace c15 := dT c15
  refine WC.skip (hK13 (Sq fun K17 hK17 => ?_))
  have hpk := mkQ_0 hte (by first | assumption | omega)
  refine Rg (Va (dx_loadN rfl ty_agg_27_5 rfl k12.range rfl) rfl rfl ?_)
  refine Ge (dx_cv rfl Tryz.func10 rfl rfl rfl (rPrint_v 13 t W10 _ hL ht (sz_par14 hpk) (fun _ => par_len hpk))) rfl rfl ?_
  rintro _ W19 ⟨rfl, b18⟩
  replace hB := below_then hB b18
  refine Pu rfl (Pu rfl (Pu rfl (Pu rfl (Pu rfl (Ni (hK17 (Sq fun K20 hK20 => ?_)))))))
  refine Rg (Pu rfl (Va (dx_eql rfl rfl rfl) rfl rfl (Pu rfl ?_)))
  refine WL.split 21 rfl (fun g21 => ?_) (fun g21 => ?_)
  ·
   replace g21 := dT g21
   refine Pu rfl (Pu rfl (Va (dx_eqlT rfl rfl rfl) rfl rfl (Pu rfl (Pu rfl (Ni (hK20 ?_))))))
   exact WC.ret fun a_ ha_ => hQ (cv_ret1 rfl (.tmp rfl) (by rw [can_k hpk, decide_eq_true (show (prtS t.er).2 = 0 by assumption)]; rfl) hB ha_)
  ·
   replace g21 := dF g21
   refine Of rfl (Of rfl (Of rfl (Pu rfl (Pu rfl (Ni (hK20 ?_))))))
   exact WC.ret fun a_ ha_ => hQ (cv_ret1 rfl (.tmp rfl) (by rw [can_k hpk, decide_eq_false (show ¬ (prtS t.er).2 = 0 by assumption)]; rfl) hB ha_)

set_option maxHeartbeats 1000000 in
theorem CanonTexts_v (s : ByteArray) (w : World) (L : List Nat) (hL : LL L w)   (htab : tabP w) : CV Tryz.prog 3 [.string s] w fun v W => v = .bool true := by
 refine cv_enter (N := 13) (f := [(0, .string s)]) Tryz.func3 rfl rfl rfl rfl fun Q hQ hE => ?_
 have hB := Below.refl w.heap.size w
 refine Sq fun K1 hK1 => (Rg (Pu rfl (Ni (hK1 (Sq fun K2 hK2 => (Sq fun K3 hK3 => (Rg ?_)))))))
 refine Ge (dx_cv rfl Tryz.func4 rfl rfl rfl (alive_v w _ hL (tabP_below htab hB))) rfl rfl ?_
 rintro _ W5 ⟨rfl, b4⟩
 replace hB := below_then hB b4
 replace hL := LL.below hL b4
 refine Va (dx_not rfl rfl) rfl rfl (Ni (hK3 (WC.condF rfl (WC.skip (hK2 (Sq fun K6 hK6 => (Sq fun K7 hK7 => ?_)))))))
 refine Rg (Pu rfl (Va (dx_lenT rfl Tryz.underlying9 rfl) rfl rfl (Va (dx_gtr rfl rfl rfl) rfl rfl (Ni (hK7 ?_)))))
 refine WC.cond rfl (fun c8 => ?_) (fun c8 => ?_)
 ·
  replace c8 := dT c8
  refine Sq fun K9 hK9 => (Rg (Pu rfl (Ni (hK9 ?_))))
  exact WC.ret fun a_ ha_ => hQ (cv_ret1 rfl (.tmp rfl) rfl hB ha_)
 ·
  replace c8 := dF c8
  refine WC.skip (hK6 (Sq fun K10 hK10 => (Rg (Pu rfl ?_))))
  refine Ge (dx_cv rfl Tryz.func5 rfl rfl rfl (canon_v s W5 _ hL (tabP_below htab hB))) rfl rfl ?_
  rintro _ W12 ⟨rfl, b11⟩
  replace hB := below_then hB b11
  replace hL := LL.below hL b11
  refine Pu rfl ?_
  refine Ge (dx_cv rfl Tryz.func6 rfl rfl rfl (rcanon_v s W12 _ hL)) rfl rfl ?_
  rintro _ W14 ⟨rfl, b13⟩
  replace hB := below_then hB b13
  refine Va (dx_eqB rfl Tryz.underlying4 rfl rfl) rfl rfl (Pu rfl (Ni (hK10 ?_)))
  exact WC.ret fun a_ ha_ => hQ (cv_ret1 rfl (.tmp rfl) (congrArg Value.bool (decide_eq_true rfl)) hB ha_)

end Go.Proofs.YtghpdnfdbhjmpaaGreatDoor
