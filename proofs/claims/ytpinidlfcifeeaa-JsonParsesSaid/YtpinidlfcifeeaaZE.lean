/- The place of a text in a rising list of texts. No program stands here. slices.Insert on rows of cells: some rows, of a block of their own, into a slic -/
import Derived.Shelf.Small.Bits
import Derived.Shelf.Strconv.Itoa0
import Derived.Shelf.Sort.Plain
import Derived.Ground.Names2Prog
import Derived.Shelf.Slices.ReverseS
import Derived.Shelf.Slices.Clone
import Derived.Shelf.Slices.Cells
import Derived.Shelf.Slices.In.SortNone
import Derived.Ground.SlgnProg
import Derived.Shelf.SlicesE.Clone
import Derived.Test.YtpinidlfcifeeaaProg
import Derived.Test.YtpinidlfcifeeaaZD
namespace Go.Proofs.Ytpinidlfcifeeaa
open Go.RowKit
set_option linter.unusedVariables false
set_option linter.unusedSimpArgs false
set_option maxRecDepth 8000
set_option maxHeartbeats 2000000

def lbT (x : ByteArray) : List ByteArray → Nat
 | [] => 0
 | a :: l => if sless a x = true then lbT x l + 1 else 0
abbrev Rises (l : List ByteArray) : Prop := l.Pairwise (fun a b => sless a b = true)
theorem lbT_le (x : ByteArray) : ∀ l : List ByteArray, lbT x l ≤ l.length
 | [] => Nat.le_refl _
 | a :: l => by
  unfold lbT
  have := lbT_le x l
  split
  · simpa using this
  · exact Nat.zero_le _
theorem lbT_eq {x : ByteArray} : ∀ {l : List ByteArray} {i : Nat}, i ≤ l.length → (∀ q a, q < i → l[q]? = some a → sless a x = true) → (∀ a, l[i]? = some a → sless a x = false) → lbT x l = i
 | [], i, hi, _, _ => by simp at hi; rw [hi]; rfl
 | a :: l, 0, _, _, h2 => by
  have := h2 a rfl
  unfold lbT
  rw [this]; rfl
 | a :: l, i + 1, hi, h1, h2 => by
  unfold lbT
  rw [if_pos (h1 0 a (Nat.succ_pos _) rfl)]
  rw [lbT_eq (i := i) (by simpa using hi) (fun q b hq hb => h1 (q + 1) b (by omega) (by simpa using hb)) (fun b hb => h2 b (by simpa using hb))]
def insA {α : Type} (i : Nat) (x : α) (l : List α) : List α := l.take i ++ ([x] ++ l.drop i)
theorem insA_len {α : Type} {i : Nat} {x : α} {l : List α} (h : i ≤ l.length) : (insA i x l).length = l.length + 1 := by
 unfold insA
 rw [List.length_append, List.length_append, List.length_take, List.length_drop, List.length_singleton]
 omega
theorem insA_map {α β : Type} (f : α → β) (i : Nat) (x : α) (l : List α) : (insA i x l).map f = insA i (f x) (l.map f) := by
 unfold insA
 rw [List.map_append, List.map_append, List.map_take, List.map_drop]; rfl
theorem mem_insA {α : Type} {i : Nat} {x y : α} {l : List α} : y ∈ insA i x l ↔ y = x ∨ y ∈ l := by
  unfold insA
  rw [List.mem_append, List.mem_append, List.mem_singleton]
  constructor
  · rintro (h | h | h)
    · exact .inr (List.mem_of_mem_take h)
    · exact .inl h
    · exact .inr (List.mem_of_mem_drop h)
  · rintro (h | h)
    · exact .inr (.inl h)
    · rw [← List.take_append_drop i l, List.mem_append] at h
      rcases h with h | h
      · exact .inl h
      · exact .inr (.inr h)
theorem rises_less {l : List ByteArray} (h : Rises l) {i j : Nat} {a b : ByteArray} (hij : i < j) (ha : l[i]? = some a) (hb : l[j]? = some b) : sless a b = true := by
 obtain ⟨hi, rfl⟩ := List.getElem?_eq_some_iff.1 ha
 obtain ⟨hj, rfl⟩ := List.getElem?_eq_some_iff.1 hb
 exact List.pairwise_iff_getElem.1 h i j hi hj hij
theorem rises_ahead {l : List ByteArray} (h : Rises l) {x a b : ByteArray} {i q : Nat} (hq : q ≤ i) (ha : l[i]? = some a) (hx : sless a x = true) (hb : l[q]? = some b) : sless b x = true := by
 rcases Nat.lt_or_eq_of_le hq with h1 | rfl
 · exact sless_trans _ _ _ (rises_less h h1 hb ha) hx
 · rw [ha] at hb; cases hb; exact hx
theorem rises_behind {l : List ByteArray} (h : Rises l) {x a b : ByteArray} {i q : Nat} (hq : i ≤ q) (ha : l[i]? = some a) (hx : sless a x = false) (hb : l[q]? = some b) : sless b x = false := by
  rcases Nat.lt_or_eq_of_le hq with h1 | rfl
  · have := rises_less h h1 ha hb
    cases hbx : sless b x with
    | false => rfl
    | true => rw [sless_trans _ _ _ this hbx] at hx; cases hx
  · rw [ha] at hb; cases hb; exact hx
theorem lb_ahead {x : ByteArray} : ∀ {l : List ByteArray} {q : Nat} {a : ByteArray}, q < lbT x l → l[q]? = some a → sless a x = true
  | [], q, a, h, _ => by simp [lbT] at h
  | b :: l, q, a, h, ha => by
    unfold lbT at h
    split at h
    · rename_i hb
      cases q with
      | zero => simp at ha; rw [← ha]; exact hb
      | succ q => exact lb_ahead (l := l) (q := q) (by omega) (by simpa using ha)
    · omega
theorem lb_at {x : ByteArray} : ∀ {l : List ByteArray} {a : ByteArray}, l[lbT x l]? = some a → sless a x = false
  | [], a, h => by simp at h
  | b :: l, a, h => by
    unfold lbT at h
    split at h
    · exact lb_at (l := l) (by simpa using h)
    · rename_i hb
      simp at h
      rw [← h]
      exact Bool.not_eq_true _ ▸ hb
theorem mem_lb {x : ByteArray} {l : List ByteArray} (h : Rises l) : x ∈ l ↔ l[lbT x l]? = some x := by
  constructor
  · intro hm
    obtain ⟨i, hi, he⟩ := List.mem_iff_getElem.1 hm
    have hx : l[i]? = some x := by rw [List.getElem?_eq_getElem hi, he]
    have h0 : lbT x l = i := lbT_eq (Nat.le_of_lt hi) (fun q a hq ha => rises_less h hq ha hx) (fun a ha => by rw [hx] at ha; cases ha; exact sless_irrefl _)
    rw [h0, hx]
  · exact fun hm => List.mem_of_getElem? hm
theorem rises_ins {x : ByteArray} {l : List ByteArray} (h : Rises l) (hn : l[lbT x l]? ≠ some x) : Rises (insA (lbT x l) x l) := by
  have e : l = l.take (lbT x l) ++ l.drop (lbT x l) := (List.take_append_drop _ _).symm
  have h' := h
  unfold Rises at h'
  rw [e, List.pairwise_append] at h'
  obtain ⟨h1, h2, h3⟩ := h'
  have hb : ∀ b ∈ l.drop (lbT x l), sless x b = true := fun b hb => by
    obtain ⟨q, hq, he⟩ := List.mem_iff_getElem.1 hb
    have hbq : l[lbT x l + q]? = some b := by rw [← List.getElem?_drop, List.getElem?_eq_getElem hq, he]
    have hlt : lbT x l < l.length := by rw [List.length_drop] at hq; omega
    have ha := List.getElem?_eq_getElem hlt
    have hf := rises_behind h (Nat.le_add_right _ q) ha (lb_at ha) hbq
    rcases sless_tri b x with ⟨p, _, _⟩ | ⟨_, p, _⟩ | rfl
    · rw [p] at hf; cases hf
    · exact p
    · have h0 : q = 0 := by
        rcases Nat.eq_zero_or_pos q with h0 | h0
        · exact h0
        · have := rises_less h (show lbT b l < lbT b l + q by omega) ha hbq
          rw [lb_at ha] at this; cases this
      rw [h0] at hbq
      exact absurd hbq hn
  unfold Rises insA
  rw [List.pairwise_append]
  refine ⟨h1, ?_, ?_⟩
  · rw [List.singleton_append, List.pairwise_cons]
    exact ⟨hb, h2⟩
  · intro a ha b hb'
    obtain ⟨q, hq, he⟩ := List.mem_iff_getElem.1 ha
    rw [List.length_take] at hq
    rw [List.getElem_take] at he
    have hax : sless a x = true := lb_ahead (l := l) (q := q) (by omega) (by rw [List.getElem?_eq_getElem (by omega), he])
    rw [List.singleton_append, List.mem_cons] at hb'
    rcases hb' with rfl | hb'
    · exact hax
    · exact sless_trans _ _ _ hax (hb b hb')
theorem del_tail {α : Type} {rs sp : List α} {i : Nat} (hi : i ≤ rs.length) : ((rs ++ sp).drop i).take (rs.length - i) = rs.drop i := by
 rw [List.drop_append_of_le_length hi, List.take_append_of_le_length (by rw [List.length_drop]; omega), List.take_of_length_le (by rw [List.length_drop]; omega)]
theorem ins_own_eq {s : Nat} {w : World} {rs vs tl : List (List Value)} {B i n c : Nat} (h : OwS s w (.slice (some ⟨B, 0, none⟩) (rs.take i ++ (vs ++ rs.drop i)).length ((rs.take i ++ (vs ++ rs.drop i)) ++ tl).length) (rs.take i ++ (vs ++ rs.drop i)) B) (hi : i ≤ rs.length) (hn : rs.length + vs.length = n) (hc : ((rs.take i ++ (vs ++ rs.drop i)) ++ tl).length = c) : OwS s w (.slice (some ⟨B, 0, none⟩) n c) (rs.take i ++ (vs ++ rs.drop i)) B := by
 have e : (rs.take i ++ (vs ++ rs.drop i)).length = n := by simp; omega
 rw [e, hc] at h
 exact h
theorem GrowB.new_or {B B' : Nat} {w w' : World} (h : GrowB B B' w w') : B' = B ∨ w.heap.size ≤ B' := h.new
set_option maxHeartbeats 1000000 in
theorem insertT_v (rs sp vs vp : List (List Value)) (i : Nat) (B C : Nat) (w : World) (L : List Nat) (hL : LL (B :: L) w) (hO : RwB 1 w B (rs ++ sp)) (hV : RwB 1 w C (vs ++ vp)) (hCB : C ≠ B) (hi : i ≤ rs.length) (hvs : vs ≠ []) (hsm : (rs.length + vs.length) * 16 ≤ 140737488355328) (hone : ∀ r ∈ rs, ∀ u ∈ r, u.oneCell' = true) (hvone : ∀ r ∈ vs, ∀ u ∈ r, u.oneCell' = true) : CW Try.prog 50 [.slice (some ⟨B, 0, none⟩) rs.length ((rs ++ sp).length), .int .i64 (i : Int), .slice (some ⟨C, 0, none⟩) vs.length ((vs ++ vp).length)] w B fun v W => ∃ B', OwS 1 W v (rs.take i ++ (vs ++ rs.drop i)) B' ∧ (B' = B ∨ w.heap.size ≤ B') := by
 refine cw_enter (N := 95) (f := [(0, .slice (some ⟨B, 0, none⟩) rs.length ((rs ++ sp).length)), (1, .int .i64 (i : Int)), (2, .slice (some ⟨C, 0, none⟩) vs.length ((vs ++ vp).length))]) Try.func50 rfl rfl rfl rfl fun Q hQ hE => ?_
 have hB := Chg.refl B w
 have hlen : (rs ++ sp).length = rs.length + sp.length := List.length_append
 have hm0 := List.length_pos_iff.2 hvs
 refine Sq fun K1 hK1 => (Rg (Pu rfl (Ni (hK1 (Sq fun K2 hK2 => (Rg (Pu rfl ?_)))))))
 refine Pu rfl (Va (dx_slL i rfl ty_slice_23 rfl rfl rfl (by omega) (by omega)) rfl rfl (Ni (hK2 (Sq fun K3 hK3 => (Rg (Pu rfl (Va (dx_len rfl Try.underlying23 rfl) rfl rfl ?_)))))))
 refine Pu rfl (Ni (hK3 (Sq fun K4 hK4 => (Sq fun K5 hK5 => (Rg (Pu rfl (Va (dx_eql rfl rfl rfl) rfl rfl ?_)))))))
 refine Ni (hK5 ?_)
 refine WC.cond rfl (fun c6 => ?_) (fun c6 => ?_)
 ·
  replace c6 := dT c6
  exfalso; omega
 ·
  replace c6 := dF c6
  refine WC.skip (hK4 (Sq fun K7 hK7 => (Rg (Pu rfl (Va (dx_len rfl Try.underlying23 rfl) rfl rfl (Pu rfl (Ni ?_)))))))
  refine hK7 (Sq fun K8 hK8 => (Sq fun K9 hK9 => (Rg (Pu rfl (Pu rfl (Va (dx_eql rfl rfl rfl) rfl rfl (Ni ?_)))))))
  refine hK9 ?_
  refine WC.cond rfl (fun c10 => ?_) (fun c10 => ?_)
  ·
   replace c10 := dT c10
   refine Sq fun K11 hK11 => (Rg (Pu rfl (Pu rfl ?_)))
   refine Ge (dx_apO' (rs := rs) (news := vs) rfl ty_ap_23 rfl rfl hO.own (hV.rd (L := []) (by simp)) hvone (by unfold maxLen; omega) (by omega)) rfl rfl ?_
   rintro u16 W12 ⟨B13, k14, g15⟩
   replace hB := hB.grow g15 (.inl rfl)
   refine Pu rfl (Ni (hK11 ?_))
   exact WC.ret fun a_ ha_ => hQ (cw_ret1 rfl (.tmp rfl) ⟨B13, (by have e : i = rs.length := (by omega); rw [e, List.take_length, List.drop_length, List.append_nil]; exact k14), g15.new_or⟩ hB ha_)
  ·
   replace c10 := dF c10
   refine WC.skip (hK8 (Sq fun K17 hK17 => (Sq fun K18 hK18 => (Rg (Pu rfl (Pu rfl (Va (dx_add (r := ((rs.length + vs.length : Nat) : Int)) rfl rfl rfl (by rw [wrap64_id (by omega)]; omega)) rfl rfl ?_)))))))
   refine Pu rfl (Va (dx_cap rfl Try.underlying23 rfl) rfl rfl (Va (dx_gtr rfl rfl rfl) rfl rfl (Ni (hK18 ?_))))
   refine WC.cond rfl (fun c19 => ?_) (fun c19 => ?_)
   ·
    replace c19 := dT c19
    refine Sq fun K20 hK20 => (Rg (Pu rfl (Pu rfl (Va (dx_slH i rfl ty_slice_23 rfl rfl rfl (by omega)) rfl rfl (Pu rfl (Pu rfl (Va (dx_add (r := ((rs.length + vs.length : Nat) : Int)) rfl rfl rfl (by rw [wrap64_id (by omega)]; omega)) rfl rfl ?_)))))))
    refine Pu rfl (Va (dx_sub (r := ((rs.length + vs.length - i : Nat) : Int)) rfl rfl rfl (by rw [wrap64_id (by omega)]; omega)) rfl rfl ?_)
    refine Ge (dx_apZ (rs.length + vs.length - i) (R := (rs ++ sp)) rfl ty_ap_23 Try.underlying3 rfl rfl rfl hO (by omega) (by omega) (by unfold maxLen; omega) (by omega)) rfl rfl ?_
    rintro _ W1 ⟨Z, rfl, hz1, hz2, kZ, bZ, zZ⟩
    have nB : B ≠ w.heap.size := Nat.ne_of_lt hO.lt
    have nC : C ≠ w.heap.size := Nat.ne_of_lt hV.lt
    replace hO := hO.below bZ
    replace hV := hV.below bZ
    replace hB := hB.thenB bZ
    have hz3 : Z.take i = rs.take i := (by rw [hz2]; exact List.take_append_of_le_length hi)
    have ez : i + (rs.length + vs.length - i) = rs.length + vs.length := (by omega)
    rw [ez] at hz1
    refine Pu rfl (Ni (hK20 (Sq fun K21 hK21 => (Rg (Pu rfl (Pu rfl (Va (dx_slL i rfl ty_slice_23 rfl rfl rfl (by omega) (by omega)) rfl rfl ?_)))))))
    refine Pu rfl ?_
    refine Ge (dx_cpV (B := w.heap.size) (R := Z) (news := vs) (lo := i) (n := (i + (rs.length + vs.length - i) - i)) rfl ty_slice_23 rfl (fun hn => by rw [offV_in (n := (i + (rs.length + vs.length - i) - i)) hn (by omega)]; simp) rfl kZ (hV.rd (L := []) (by simp)) (fun r hr => hvone r (List.mem_of_mem_take hr)) (by omega)) rfl rfl ?_
    rintro _ W22 ⟨rfl, k23, o24⟩
    replace hB := hB.only o24 (.inr (Nat.le_refl _))
    replace hO := hO.other o24 nB
    rw [List.take_of_length_le (l := vs) (by omega), show min vs.length (i + (rs.length + vs.length - i) - i) = vs.length by omega] at k23
    have l3 : (Z.take i ++ (vs ++ Z.drop (i + vs.length))).length = Z.length := (by simp; omega)
    have hg := ins_grow (vs := vs) hi hz1 hz3
    simp only at hg
    refine Ni (hK21 (Sq fun K25 hK25 => ?_))
    refine WC.drawM 8 [(some 46, .is (.slice (some ⟨w.heap.size, 0, none⟩) (i + (rs.length + vs.length - i)) Z.length)), (some 47, .is (.int .i64 (i : Int))), (some 48, .is (.int .i64 (vs.length : Int))), (some 49, .is (.int .i64 ((i + vs.length : Nat) : Int))), (some 50, .is (.slice (some ⟨w.heap.size, (offV Z.length (i + vs.length) 0 1), none⟩) ((i + (rs.length + vs.length - i)) - (i + vs.length)) (Z.length - (i + vs.length)))), (some 51, .is (.slice (some ⟨B, 0, none⟩) rs.length ((rs ++ sp).length))), (some 52, .is (.int .i64 (i : Int))), (some 53, .is (.slice (some ⟨B, (offV ((rs ++ sp).length) i 0 1), none⟩) (rs.length - i) ((rs ++ sp).length - i)))] [[], [], [], [1, 2], [0, 3], [], [], [5, 6]] (by kernel_rfl) (by kernel_rfl) (by kernel_rfl) (by kernel_rfl) (by kernel_rfl) (by kernel_rfl) (by kernel_rfl) (by exact trivial) ?_ ?_
    ·
     refine Dc (fun Wd hd => ?_) ?_
     ·
      exact Dd (dx_move rfl rfl) rfl
     refine Dc (fun Wd hd => ?_) ?_
     ·
      exact Dd (dx_move rfl rfl) rfl
     refine Dc (fun Wd hd => ?_) ?_
     ·
      exact Dd (dx_move rfl rfl) rfl
     refine Dc (fun Wd hd => ?_) ?_
     ·
      exact Dd (dx_add (r := ((i + vs.length : Nat) : Int)) rfl rfl rfl (by rw [wrap64_id (by omega)]; omega)) rfl
     refine Dc (fun Wd hd => ?_) ?_
     ·
      exact Dd (dx_slL (i + vs.length) rfl ty_slice_23 rfl rfl rfl (by omega) (by omega)) rfl
     refine Dc (fun Wd hd => ?_) ?_
     ·
      exact Dd (dx_move rfl rfl) rfl
     refine Dc (fun Wd hd => ?_) ?_
     ·
      exact Dd (dx_move rfl rfl) rfl
     refine Dc (fun Wd hd => ?_) ?_
     ·
      exact Dd (dx_slL i rfl ty_slice_23 rfl rfl rfl (by omega) (by omega)) rfl
     exact trivial
    ·
     intro W26 b27
     replace hO := hO.below b27
     replace k23 := k23.below b27
     replace hB := hB.thenB b27
     refine Ge (dx_cpV (B := w.heap.size) (R := (Z.take i ++ (vs ++ Z.drop (i + vs.length)))) (news := (((rs ++ sp).drop i).take (rs.length - i))) (lo := (i + vs.length)) (n := (i + (rs.length + vs.length - i) - (i + vs.length))) rfl ty_slice_23 rfl (fun hn => by rw [offV_in (n := (i + (rs.length + vs.length - i) - (i + vs.length))) hn (by omega)]; simp) rfl k23 (hO.part (L := []) (lo := i) (n := rs.length - i) (by simp) (fun hn => by rw [offV_in (n := rs.length - i) hn (by rw [hlen]; omega)]; simp) (by rw [hlen]; omega) (by rw [hlen]; omega)) (fun r hr => hone r (mem_tail hi (List.mem_of_mem_take hr))) (by omega)) rfl rfl ?_
     rintro _ W28 ⟨rfl, k29, o30⟩
     replace hB := hB.only o30 (.inr (Nat.le_refl _))
     rw [show ((rs ++ sp).drop i).take (rs.length - i) = rs.drop i from del_tail hi] at k29
     rw [List.take_of_length_le (l := rs.drop i) (by rw [List.length_drop]; omega), List.length_drop, show min (rs.length - i) (i + (rs.length + vs.length - i) - (i + vs.length)) = rs.length - i by omega, hg] at k29
     have hown := k29.own
     refine Ni (hK25 (Sq fun K31 hK31 => (Rg (Pu rfl (Pu rfl (Ni (hK31 ?_)))))))
     exact WC.ret fun a_ ha_ => hQ (cw_ret1 rfl (.tmp rfl) ⟨w.heap.size, ins_own_eq hown hi ez.symm (by simp; omega), .inr (Nat.le_refl _)⟩ hB ha_)
   ·
    replace c19 := dF c19
    refine WC.skip (hK17 (Sq fun K32 hK32 => (Rg (Pu rfl (Pu rfl (Pu rfl (Va (dx_add (r := ((rs.length + vs.length : Nat) : Int)) rfl rfl rfl (by rw [wrap64_id (by omega)]; omega)) rfl rfl ?_)))))))
    refine Va (dx_slH (rs.length + vs.length) rfl ty_slice_23 rfl rfl rfl (by omega)) rfl rfl (Pu rfl (Ni (hK32 (Sq fun K33 hK33 => (Sq fun K34 hK34 => (Rg (Pu rfl ?_)))))))
    refine Pu rfl (Pu rfl (Pu rfl (Va (dx_add (r := ((i + vs.length : Nat) : Int)) rfl rfl rfl (by rw [wrap64_id (by omega)]; omega)) rfl rfl (Va (dx_slL (i + vs.length) rfl ty_slice_23 rfl rfl rfl (by omega) (by omega)) rfl rfl (Va (dx_ovl (U := (rs ++ sp)) (V := (vs ++ vp)) (s := 1) (tR := 4) rfl Try.func76 (by kernel_rfl) (by kernel_rfl) (by kernel_rfl) (by kernel_rfl) ty_slice_23 rfl rfl hV hO hCB (by intro e; rw [e] at hlen; simp only [List.length_nil] at hlen; omega)) rfl rfl (Va (dx_not rfl rfl) rfl rfl (Ni ?_)))))))
    refine hK34 (WC.condT rfl (Sq fun K35 hK35 => ?_))
    refine WC.drawM 8 [(some 69, .is (.slice (some ⟨B, 0, none⟩) (rs.length + vs.length) ((rs ++ sp).length))), (some 70, .is (.int .i64 (i : Int))), (some 71, .is (.int .i64 (vs.length : Int))), (some 72, .is (.int .i64 ((i + vs.length : Nat) : Int))), (some 73, .is (.slice (some ⟨B, (offV ((rs ++ sp).length) (i + vs.length) 0 1), none⟩) ((rs.length + vs.length) - (i + vs.length)) ((rs ++ sp).length - (i + vs.length)))), (some 74, .is (.slice (some ⟨B, 0, none⟩) (rs.length + vs.length) ((rs ++ sp).length))), (some 75, .is (.int .i64 (i : Int))), (some 76, .is (.slice (some ⟨B, (offV ((rs ++ sp).length) i 0 1), none⟩) ((rs.length + vs.length) - i) ((rs ++ sp).length - i)))] [[], [], [], [1, 2], [0, 3], [], [], [5, 6]] (by kernel_rfl) (by kernel_rfl) (by kernel_rfl) (by kernel_rfl) (by kernel_rfl) (by kernel_rfl) (by kernel_rfl) (by exact trivial) ?_ ?_
    ·
     refine Dc (fun Wd hd => ?_) ?_
     ·
      exact Dd (dx_move rfl rfl) rfl
     refine Dc (fun Wd hd => ?_) ?_
     ·
      exact Dd (dx_move rfl rfl) rfl
     refine Dc (fun Wd hd => ?_) ?_
     ·
      exact Dd (dx_move rfl rfl) rfl
     refine Dc (fun Wd hd => ?_) ?_
     ·
      exact Dd (dx_add (r := ((i + vs.length : Nat) : Int)) rfl rfl rfl (by rw [wrap64_id (by omega)]; omega)) rfl
     refine Dc (fun Wd hd => ?_) ?_
     ·
      exact Dd (dx_slL (i + vs.length) rfl ty_slice_23 rfl rfl rfl (by omega) (by omega)) rfl
     refine Dc (fun Wd hd => ?_) ?_
     ·
      exact Dd (dx_move rfl rfl) rfl
     refine Dc (fun Wd hd => ?_) ?_
     ·
      exact Dd (dx_move rfl rfl) rfl
     refine Dc (fun Wd hd => ?_) ?_
     ·
      exact Dd (dx_slL i rfl ty_slice_23 rfl rfl rfl (by omega) (by omega)) rfl
     exact trivial
    ·
     intro W36 b37
     replace hO := hO.below b37
     replace hV := hV.below b37
     replace hB := hB.thenB b37
     refine Ge (dx_cpV (B := B) (R := (rs ++ sp)) (news := (((rs ++ sp).drop i).take (rs.length + vs.length - i))) (lo := (i + vs.length)) (n := (rs.length + vs.length - (i + vs.length))) rfl ty_slice_23 rfl (fun hn => by rw [offV_in (n := (rs.length + vs.length - (i + vs.length))) hn (by omega)]; simp) rfl hO (hO.part (L := []) (lo := i) (n := rs.length + vs.length - i) (by simp) (fun hn => by rw [offV_in (n := rs.length + vs.length - i) hn (by omega)]; simp) (by omega) (by omega)) (fun r hr => hone r (mem_tail2 hi (by omega) (by omega) hr)) (by omega)) rfl rfl ?_
     rintro _ W38 ⟨rfl, k39, o40⟩
     replace hB := hB.only o40 (.inl rfl)
     replace hV := hV.other o40 hCB
     have ll : (((rs ++ sp).drop i).take (rs.length + vs.length - i)).length = rs.length + vs.length - i := (by rw [List.length_take, List.length_drop]; omega)
     rw [ll, show min (rs.length + vs.length - i) (rs.length + vs.length - (i + vs.length)) = rs.length - i by omega, show rs.length + vs.length - (i + vs.length) = rs.length - i by omega] at k39
     have l3 : ((rs ++ sp).take (i + vs.length) ++ ((((rs ++ sp).drop i).take (rs.length + vs.length - i)).take (rs.length - i) ++ (rs ++ sp).drop (i + vs.length + (rs.length - i)))).length = (rs ++ sp).length := (by simp; omega)
     have hg := ins_room (vs := vs) (sp := sp) hi (by omega)
     simp only at hg
     refine Ni (hK35 (Sq fun K41 hK41 => (Rg (Pu rfl (Pu rfl (Va (dx_slL i rfl ty_slice_23 rfl rfl rfl (by omega) (by omega)) rfl rfl (Pu rfl ?_)))))))
     refine Ge (dx_cpV (B := B) (R := ((rs ++ sp).take (i + vs.length) ++ ((((rs ++ sp).drop i).take (rs.length + vs.length - i)).take (rs.length - i) ++ (rs ++ sp).drop (i + vs.length + (rs.length - i))))) (news := vs) (lo := i) (n := (rs.length + vs.length - i)) rfl ty_slice_23 rfl (fun hn => by rw [offV_in (n := (rs.length + vs.length - i)) hn (by omega)]; simp) rfl k39 (hV.rd (L := []) (by simp)) (fun r hr => hvone r (List.mem_of_mem_take hr)) (by omega)) rfl rfl ?_
     rintro _ W42 ⟨rfl, k43, o44⟩
     replace hB := hB.only o44 (.inl rfl)
     rw [List.take_of_length_le (l := vs) (by omega), show min vs.length (rs.length + vs.length - i) = vs.length by omega, hg] at k43
     have hown := k43.own
     refine Ni (hK41 (Sq fun K45 hK45 => (Rg (Pu rfl (Pu rfl (Ni (hK45 ?_)))))))
     exact WC.ret fun a_ ha_ => hQ (cw_ret1 rfl (.tmp rfl) ⟨B, ins_own_eq hown hi rfl (by simp; omega), .inl rfl⟩ hB ha_)

set_option maxHeartbeats 1000000 in
theorem insertNT_v (vs vp : List (List Value)) (C : Nat) (w : World) (L : List Nat) (hL : LL L w)   (hV : RwB 1 w C (vs ++ vp)) (hvs : vs ≠ []) (hsm : vs.length * 16 ≤ 140737488355328) : CV Try.prog 50 [.slice none 0 0, .int .i64 0, .slice (some ⟨C, 0, none⟩) vs.length ((vs ++ vp).length)] w fun v W => ∃ B, w.heap.size ≤ B ∧ OwS 1 W v vs B := by
 refine cv_enter (N := 95) (f := [(0, .slice none 0 0), (1, .int .i64 0), (2, .slice (some ⟨C, 0, none⟩) vs.length ((vs ++ vp).length))]) Try.func50 rfl rfl rfl rfl fun Q hQ hE => ?_
 have hB := Below.refl w.heap.size w
 have hm0 := List.length_pos_iff.2 hvs
 refine Sq fun K1 hK1 => (Rg (Pu rfl (Ni (hK1 (Sq fun K2 hK2 => (Rg (Pu rfl ?_)))))))
 refine Pu rfl (Va (dx_slN rfl ty_slice_23 rfl rfl) rfl rfl (Ni (hK2 (Sq fun K3 hK3 => (Rg (Pu rfl (Va (dx_len rfl Try.underlying23 rfl) rfl rfl ?_)))))))
 refine Pu rfl (Ni (hK3 (Sq fun K4 hK4 => (Sq fun K5 hK5 => (Rg (Pu rfl (Va (dx_eql rfl rfl rfl) rfl rfl ?_)))))))
 refine Ni (hK5 ?_)
 refine WC.cond rfl (fun c6 => ?_) (fun c6 => ?_)
 ·
  replace c6 := dT c6
  exfalso; omega
 ·
  replace c6 := dF c6
  refine WC.skip (hK4 (Sq fun K7 hK7 => (Rg (Pu rfl (Va (dx_len rfl Try.underlying23 rfl) rfl rfl (Pu rfl (Ni ?_)))))))
  refine hK7 (Sq fun K8 hK8 => (Sq fun K9 hK9 => (Rg (Pu rfl (Pu rfl (Va (dx_eql rfl rfl rfl) rfl rfl (Ni ?_)))))))
  refine hK9 ?_
  refine WC.cond rfl (fun c10 => ?_) (fun c10 => ?_)
  ·
   replace c10 := dT c10
   refine Sq fun K11 hK11 => (Rg (Pu rfl (Pu rfl ?_)))
   refine Ge (dx_apF (rs := []) (news := vs) rfl ty_ap_23 rfl rfl (RdF.nil (L := []) (by decide)) (hV.rd (L := []) (by simp)) hvs (by simp; unfold maxLen; omega) (by simp; omega)) rfl rfl ?_
   rintro u16 W12 ⟨k13, b14, z15⟩
   replace hB := below_then hB b14
   refine Pu rfl (Ni (hK11 ?_))
   exact WC.ret fun a_ ha_ => hQ (cv_ret1 rfl (.tmp rfl) ⟨w.heap.size, Nat.le_refl _, k13⟩ hB ha_)
  ·
   replace c10 := dF c10
   exact absurd rfl c10

set_option maxHeartbeats 1000000 in
theorem insertV_v (rs sp vs vp : List (List Value)) (i : Nat) (B C : Nat) (w : World) (L : List Nat) (hL : LL (B :: L) w) (hO : RwB 5 w B (rs ++ sp)) (hV : RwB 5 w C (vs ++ vp)) (hCB : C ≠ B) (hi : i ≤ rs.length) (hvs : vs ≠ []) (hsm : (rs.length + vs.length) * 80 ≤ 140737488355328) (hone : ∀ r ∈ rs, ∀ u ∈ r, u.oneCell' = true) (hvone : ∀ r ∈ vs, ∀ u ∈ r, u.oneCell' = true) : CW Try.prog 51 [.slice (some ⟨B, 0, none⟩) rs.length ((rs ++ sp).length), .int .i64 (i : Int), .slice (some ⟨C, 0, none⟩) vs.length ((vs ++ vp).length)] w B fun v W => ∃ B', OwS 5 W v (rs.take i ++ (vs ++ rs.drop i)) B' ∧ (B' = B ∨ w.heap.size ≤ B') := by
 refine cw_enter (N := 95) (f := [(0, .slice (some ⟨B, 0, none⟩) rs.length ((rs ++ sp).length)), (1, .int .i64 (i : Int)), (2, .slice (some ⟨C, 0, none⟩) vs.length ((vs ++ vp).length))]) Try.func51 rfl rfl rfl rfl fun Q hQ hE => ?_
 have hB := Chg.refl B w
 have hlen : (rs ++ sp).length = rs.length + sp.length := List.length_append
 have hm0 := List.length_pos_iff.2 hvs
 refine Sq fun K1 hK1 => (Rg (Pu rfl (Ni (hK1 (Sq fun K2 hK2 => (Rg (Pu rfl ?_)))))))
 refine Pu rfl (Va (dx_slL i rfl ty_slice_24 rfl rfl rfl (by omega) (by omega)) rfl rfl (Ni (hK2 (Sq fun K3 hK3 => (Rg (Pu rfl (Va (dx_len rfl Try.underlying24 rfl) rfl rfl ?_)))))))
 refine Pu rfl (Ni (hK3 (Sq fun K4 hK4 => (Sq fun K5 hK5 => (Rg (Pu rfl (Va (dx_eql rfl rfl rfl) rfl rfl ?_)))))))
 refine Ni (hK5 ?_)
 refine WC.cond rfl (fun c6 => ?_) (fun c6 => ?_)
 ·
  replace c6 := dT c6
  exfalso; omega
 ·
  replace c6 := dF c6
  refine WC.skip (hK4 (Sq fun K7 hK7 => (Rg (Pu rfl (Va (dx_len rfl Try.underlying24 rfl) rfl rfl (Pu rfl (Ni ?_)))))))
  refine hK7 (Sq fun K8 hK8 => (Sq fun K9 hK9 => (Rg (Pu rfl (Pu rfl (Va (dx_eql rfl rfl rfl) rfl rfl (Ni ?_)))))))
  refine hK9 ?_
  refine WC.cond rfl (fun c10 => ?_) (fun c10 => ?_)
  ·
   replace c10 := dT c10
   refine Sq fun K11 hK11 => (Rg (Pu rfl (Pu rfl ?_)))
   refine Ge (dx_apO' (rs := rs) (news := vs) rfl ty_ap_24 rfl rfl hO.own (hV.rd (L := []) (by simp)) hvone (by unfold maxLen; omega) (by omega)) rfl rfl ?_
   rintro u16 W12 ⟨B13, k14, g15⟩
   replace hB := hB.grow g15 (.inl rfl)
   refine Pu rfl (Ni (hK11 ?_))
   exact WC.ret fun a_ ha_ => hQ (cw_ret1 rfl (.tmp rfl) ⟨B13, (by have e : i = rs.length := (by omega); rw [e, List.take_length, List.drop_length, List.append_nil]; exact k14), g15.new_or⟩ hB ha_)
  ·
   replace c10 := dF c10
   refine WC.skip (hK8 (Sq fun K17 hK17 => (Sq fun K18 hK18 => (Rg (Pu rfl (Pu rfl (Va (dx_add (r := ((rs.length + vs.length : Nat) : Int)) rfl rfl rfl (by rw [wrap64_id (by omega)]; omega)) rfl rfl ?_)))))))
   refine Pu rfl (Va (dx_cap rfl Try.underlying24 rfl) rfl rfl (Va (dx_gtr rfl rfl rfl) rfl rfl (Ni (hK18 ?_))))
   refine WC.cond rfl (fun c19 => ?_) (fun c19 => ?_)
   ·
    replace c19 := dT c19
    refine Sq fun K20 hK20 => (Rg (Pu rfl (Pu rfl (Va (dx_slH i rfl ty_slice_24 rfl rfl rfl (by omega)) rfl rfl (Pu rfl (Pu rfl (Va (dx_add (r := ((rs.length + vs.length : Nat) : Int)) rfl rfl rfl (by rw [wrap64_id (by omega)]; omega)) rfl rfl ?_)))))))
    refine Pu rfl (Va (dx_sub (r := ((rs.length + vs.length - i : Nat) : Int)) rfl rfl rfl (by rw [wrap64_id (by omega)]; omega)) rfl rfl ?_)
    refine Ge (dx_apZ (rs.length + vs.length - i) (R := (rs ++ sp)) rfl ty_ap_24 Try.underlying3 rfl rfl rfl hO (by omega) (by omega) (by unfold maxLen; omega) (by omega)) rfl rfl ?_
    rintro _ W1 ⟨Z, rfl, hz1, hz2, kZ, bZ, zZ⟩
    have nB : B ≠ w.heap.size := Nat.ne_of_lt hO.lt
    have nC : C ≠ w.heap.size := Nat.ne_of_lt hV.lt
    replace hO := hO.below bZ
    replace hV := hV.below bZ
    replace hB := hB.thenB bZ
    have hz3 : Z.take i = rs.take i := (by rw [hz2]; exact List.take_append_of_le_length hi)
    have ez : i + (rs.length + vs.length - i) = rs.length + vs.length := (by omega)
    rw [ez] at hz1
    refine Pu rfl (Ni (hK20 (Sq fun K21 hK21 => (Rg (Pu rfl (Pu rfl (Va (dx_slL i rfl ty_slice_24 rfl rfl rfl (by omega) (by omega)) rfl rfl ?_)))))))
    refine Pu rfl ?_
    refine Ge (dx_cpV (B := w.heap.size) (R := Z) (news := vs) (lo := i) (n := (i + (rs.length + vs.length - i) - i)) rfl ty_slice_24 rfl (fun hn => by rw [offV_in (n := (i + (rs.length + vs.length - i) - i)) hn (by omega)]; simp) rfl kZ (hV.rd (L := []) (by simp)) (fun r hr => hvone r (List.mem_of_mem_take hr)) (by omega)) rfl rfl ?_
    rintro _ W22 ⟨rfl, k23, o24⟩
    replace hB := hB.only o24 (.inr (Nat.le_refl _))
    replace hO := hO.other o24 nB
    rw [List.take_of_length_le (l := vs) (by omega), show min vs.length (i + (rs.length + vs.length - i) - i) = vs.length by omega] at k23
    have l3 : (Z.take i ++ (vs ++ Z.drop (i + vs.length))).length = Z.length := (by simp; omega)
    have hg := ins_grow (vs := vs) hi hz1 hz3
    simp only at hg
    refine Ni (hK21 (Sq fun K25 hK25 => ?_))
    refine WC.drawM 8 [(some 46, .is (.slice (some ⟨w.heap.size, 0, none⟩) (i + (rs.length + vs.length - i)) Z.length)), (some 47, .is (.int .i64 (i : Int))), (some 48, .is (.int .i64 (vs.length : Int))), (some 49, .is (.int .i64 ((i + vs.length : Nat) : Int))), (some 50, .is (.slice (some ⟨w.heap.size, (offV Z.length (i + vs.length) 0 5), none⟩) ((i + (rs.length + vs.length - i)) - (i + vs.length)) (Z.length - (i + vs.length)))), (some 51, .is (.slice (some ⟨B, 0, none⟩) rs.length ((rs ++ sp).length))), (some 52, .is (.int .i64 (i : Int))), (some 53, .is (.slice (some ⟨B, (offV ((rs ++ sp).length) i 0 5), none⟩) (rs.length - i) ((rs ++ sp).length - i)))] [[], [], [], [1, 2], [0, 3], [], [], [5, 6]] (by kernel_rfl) (by kernel_rfl) (by kernel_rfl) (by kernel_rfl) (by kernel_rfl) (by kernel_rfl) (by kernel_rfl) (by exact trivial) ?_ ?_
    ·
     refine Dc (fun Wd hd => ?_) ?_
     ·
      exact Dd (dx_move rfl rfl) rfl
     refine Dc (fun Wd hd => ?_) ?_
     ·
      exact Dd (dx_move rfl rfl) rfl
     refine Dc (fun Wd hd => ?_) ?_
     ·
      exact Dd (dx_move rfl rfl) rfl
     refine Dc (fun Wd hd => ?_) ?_
     ·
      exact Dd (dx_add (r := ((i + vs.length : Nat) : Int)) rfl rfl rfl (by rw [wrap64_id (by omega)]; omega)) rfl
     refine Dc (fun Wd hd => ?_) ?_
     ·
      exact Dd (dx_slL (i + vs.length) rfl ty_slice_24 rfl rfl rfl (by omega) (by omega)) rfl
     refine Dc (fun Wd hd => ?_) ?_
     ·
      exact Dd (dx_move rfl rfl) rfl
     refine Dc (fun Wd hd => ?_) ?_
     ·
      exact Dd (dx_move rfl rfl) rfl
     refine Dc (fun Wd hd => ?_) ?_
     ·
      exact Dd (dx_slL i rfl ty_slice_24 rfl rfl rfl (by omega) (by omega)) rfl
     exact trivial
    ·
     intro W26 b27
     replace hO := hO.below b27
     replace k23 := k23.below b27
     replace hB := hB.thenB b27
     refine Ge (dx_cpV (B := w.heap.size) (R := (Z.take i ++ (vs ++ Z.drop (i + vs.length)))) (news := (((rs ++ sp).drop i).take (rs.length - i))) (lo := (i + vs.length)) (n := (i + (rs.length + vs.length - i) - (i + vs.length))) rfl ty_slice_24 rfl (fun hn => by rw [offV_in (n := (i + (rs.length + vs.length - i) - (i + vs.length))) hn (by omega)]; simp) rfl k23 (hO.part (L := []) (lo := i) (n := rs.length - i) (by simp) (fun hn => by rw [offV_in (n := rs.length - i) hn (by rw [hlen]; omega)]; simp) (by rw [hlen]; omega) (by rw [hlen]; omega)) (fun r hr => hone r (mem_tail hi (List.mem_of_mem_take hr))) (by omega)) rfl rfl ?_
     rintro _ W28 ⟨rfl, k29, o30⟩
     replace hB := hB.only o30 (.inr (Nat.le_refl _))
     rw [show ((rs ++ sp).drop i).take (rs.length - i) = rs.drop i from del_tail hi] at k29
     rw [List.take_of_length_le (l := rs.drop i) (by rw [List.length_drop]; omega), List.length_drop, show min (rs.length - i) (i + (rs.length + vs.length - i) - (i + vs.length)) = rs.length - i by omega, hg] at k29
     have hown := k29.own
     refine Ni (hK25 (Sq fun K31 hK31 => (Rg (Pu rfl (Pu rfl (Ni (hK31 ?_)))))))
     exact WC.ret fun a_ ha_ => hQ (cw_ret1 rfl (.tmp rfl) ⟨w.heap.size, ins_own_eq hown hi ez.symm (by simp; omega), .inr (Nat.le_refl _)⟩ hB ha_)
   ·
    replace c19 := dF c19
    refine WC.skip (hK17 (Sq fun K32 hK32 => (Rg (Pu rfl (Pu rfl (Pu rfl (Va (dx_add (r := ((rs.length + vs.length : Nat) : Int)) rfl rfl rfl (by rw [wrap64_id (by omega)]; omega)) rfl rfl ?_)))))))
    refine Va (dx_slH (rs.length + vs.length) rfl ty_slice_24 rfl rfl rfl (by omega)) rfl rfl (Pu rfl (Ni (hK32 (Sq fun K33 hK33 => (Sq fun K34 hK34 => (Rg (Pu rfl ?_)))))))
    refine Pu rfl (Pu rfl (Pu rfl (Va (dx_add (r := ((i + vs.length : Nat) : Int)) rfl rfl rfl (by rw [wrap64_id (by omega)]; omega)) rfl rfl (Va (dx_slL (i + vs.length) rfl ty_slice_24 rfl rfl rfl (by omega) (by omega)) rfl rfl (Va (dx_ovl (U := (rs ++ sp)) (V := (vs ++ vp)) (s := 5) (tR := 4) rfl Try.func78 (by kernel_rfl) (by kernel_rfl) (by kernel_rfl) (by kernel_rfl) ty_slice_24 rfl rfl hV hO hCB (by intro e; rw [e] at hlen; simp only [List.length_nil] at hlen; omega)) rfl rfl (Va (dx_not rfl rfl) rfl rfl (Ni ?_)))))))
    refine hK34 (WC.condT rfl (Sq fun K35 hK35 => ?_))
    refine WC.drawM 8 [(some 69, .is (.slice (some ⟨B, 0, none⟩) (rs.length + vs.length) ((rs ++ sp).length))), (some 70, .is (.int .i64 (i : Int))), (some 71, .is (.int .i64 (vs.length : Int))), (some 72, .is (.int .i64 ((i + vs.length : Nat) : Int))), (some 73, .is (.slice (some ⟨B, (offV ((rs ++ sp).length) (i + vs.length) 0 5), none⟩) ((rs.length + vs.length) - (i + vs.length)) ((rs ++ sp).length - (i + vs.length)))), (some 74, .is (.slice (some ⟨B, 0, none⟩) (rs.length + vs.length) ((rs ++ sp).length))), (some 75, .is (.int .i64 (i : Int))), (some 76, .is (.slice (some ⟨B, (offV ((rs ++ sp).length) i 0 5), none⟩) ((rs.length + vs.length) - i) ((rs ++ sp).length - i)))] [[], [], [], [1, 2], [0, 3], [], [], [5, 6]] (by kernel_rfl) (by kernel_rfl) (by kernel_rfl) (by kernel_rfl) (by kernel_rfl) (by kernel_rfl) (by kernel_rfl) (by exact trivial) ?_ ?_
    ·
     refine Dc (fun Wd hd => ?_) ?_
     ·
      exact Dd (dx_move rfl rfl) rfl
     refine Dc (fun Wd hd => ?_) ?_
     ·
      exact Dd (dx_move rfl rfl) rfl
     refine Dc (fun Wd hd => ?_) ?_
     ·
      exact Dd (dx_move rfl rfl) rfl
     refine Dc (fun Wd hd => ?_) ?_
     ·
      exact Dd (dx_add (r := ((i + vs.length : Nat) : Int)) rfl rfl rfl (by rw [wrap64_id (by omega)]; omega)) rfl
     refine Dc (fun Wd hd => ?_) ?_
     ·
      exact Dd (dx_slL (i + vs.length) rfl ty_slice_24 rfl rfl rfl (by omega) (by omega)) rfl
     refine Dc (fun Wd hd => ?_) ?_
     ·
      exact Dd (dx_move rfl rfl) rfl
     refine Dc (fun Wd hd => ?_) ?_
     ·
      exact Dd (dx_move rfl rfl) rfl
     refine Dc (fun Wd hd => ?_) ?_
     ·
      exact Dd (dx_slL i rfl ty_slice_24 rfl rfl rfl (by omega) (by omega)) rfl
     exact trivial
    ·
     intro W36 b37
     replace hO := hO.below b37
     replace hV := hV.below b37
     replace hB := hB.thenB b37
     refine Ge (dx_cpV (B := B) (R := (rs ++ sp)) (news := (((rs ++ sp).drop i).take (rs.length + vs.length - i))) (lo := (i + vs.length)) (n := (rs.length + vs.length - (i + vs.length))) rfl ty_slice_24 rfl (fun hn => by rw [offV_in (n := (rs.length + vs.length - (i + vs.length))) hn (by omega)]; simp) rfl hO (hO.part (L := []) (lo := i) (n := rs.length + vs.length - i) (by simp) (fun hn => by rw [offV_in (n := rs.length + vs.length - i) hn (by omega)]; simp) (by omega) (by omega)) (fun r hr => hone r (mem_tail2 hi (by omega) (by omega) hr)) (by omega)) rfl rfl ?_
     rintro _ W38 ⟨rfl, k39, o40⟩
     replace hB := hB.only o40 (.inl rfl)
     replace hV := hV.other o40 hCB
     have ll : (((rs ++ sp).drop i).take (rs.length + vs.length - i)).length = rs.length + vs.length - i := (by rw [List.length_take, List.length_drop]; omega)
     rw [ll, show min (rs.length + vs.length - i) (rs.length + vs.length - (i + vs.length)) = rs.length - i by omega, show rs.length + vs.length - (i + vs.length) = rs.length - i by omega] at k39
     have l3 : ((rs ++ sp).take (i + vs.length) ++ ((((rs ++ sp).drop i).take (rs.length + vs.length - i)).take (rs.length - i) ++ (rs ++ sp).drop (i + vs.length + (rs.length - i)))).length = (rs ++ sp).length := (by simp; omega)
     have hg := ins_room (vs := vs) (sp := sp) hi (by omega)
     simp only at hg
     refine Ni (hK35 (Sq fun K41 hK41 => (Rg (Pu rfl (Pu rfl (Va (dx_slL i rfl ty_slice_24 rfl rfl rfl (by omega) (by omega)) rfl rfl (Pu rfl ?_)))))))
     refine Ge (dx_cpV (B := B) (R := ((rs ++ sp).take (i + vs.length) ++ ((((rs ++ sp).drop i).take (rs.length + vs.length - i)).take (rs.length - i) ++ (rs ++ sp).drop (i + vs.length + (rs.length - i))))) (news := vs) (lo := i) (n := (rs.length + vs.length - i)) rfl ty_slice_24 rfl (fun hn => by rw [offV_in (n := (rs.length + vs.length - i)) hn (by omega)]; simp) rfl k39 (hV.rd (L := []) (by simp)) (fun r hr => hvone r (List.mem_of_mem_take hr)) (by omega)) rfl rfl ?_
     rintro _ W42 ⟨rfl, k43, o44⟩
     replace hB := hB.only o44 (.inl rfl)
     rw [List.take_of_length_le (l := vs) (by omega), show min vs.length (rs.length + vs.length - i) = vs.length by omega, hg] at k43
     have hown := k43.own
     refine Ni (hK41 (Sq fun K45 hK45 => (Rg (Pu rfl (Pu rfl (Ni (hK45 ?_)))))))
     exact WC.ret fun a_ ha_ => hQ (cw_ret1 rfl (.tmp rfl) ⟨B, ins_own_eq hown hi rfl (by simp; omega), .inl rfl⟩ hB ha_)

set_option maxHeartbeats 1000000 in
theorem insertNV_v (vs vp : List (List Value)) (C : Nat) (w : World) (L : List Nat) (hL : LL L w)   (hV : RwB 5 w C (vs ++ vp)) (hvs : vs ≠ []) (hsm : vs.length * 80 ≤ 140737488355328) : CV Try.prog 51 [.slice none 0 0, .int .i64 0, .slice (some ⟨C, 0, none⟩) vs.length ((vs ++ vp).length)] w fun v W => ∃ B, w.heap.size ≤ B ∧ OwS 5 W v vs B := by
 refine cv_enter (N := 95) (f := [(0, .slice none 0 0), (1, .int .i64 0), (2, .slice (some ⟨C, 0, none⟩) vs.length ((vs ++ vp).length))]) Try.func51 rfl rfl rfl rfl fun Q hQ hE => ?_
 have hB := Below.refl w.heap.size w
 have hm0 := List.length_pos_iff.2 hvs
 refine Sq fun K1 hK1 => (Rg (Pu rfl (Ni (hK1 (Sq fun K2 hK2 => (Rg (Pu rfl ?_)))))))
 refine Pu rfl (Va (dx_slN rfl ty_slice_24 rfl rfl) rfl rfl (Ni (hK2 (Sq fun K3 hK3 => (Rg (Pu rfl (Va (dx_len rfl Try.underlying24 rfl) rfl rfl ?_)))))))
 refine Pu rfl (Ni (hK3 (Sq fun K4 hK4 => (Sq fun K5 hK5 => (Rg (Pu rfl (Va (dx_eql rfl rfl rfl) rfl rfl ?_)))))))
 refine Ni (hK5 ?_)
 refine WC.cond rfl (fun c6 => ?_) (fun c6 => ?_)
 ·
  replace c6 := dT c6
  exfalso; omega
 ·
  replace c6 := dF c6
  refine WC.skip (hK4 (Sq fun K7 hK7 => (Rg (Pu rfl (Va (dx_len rfl Try.underlying24 rfl) rfl rfl (Pu rfl (Ni ?_)))))))
  refine hK7 (Sq fun K8 hK8 => (Sq fun K9 hK9 => (Rg (Pu rfl (Pu rfl (Va (dx_eql rfl rfl rfl) rfl rfl (Ni ?_)))))))
  refine hK9 ?_
  refine WC.cond rfl (fun c10 => ?_) (fun c10 => ?_)
  ·
   replace c10 := dT c10
   refine Sq fun K11 hK11 => (Rg (Pu rfl (Pu rfl ?_)))
   refine Ge (dx_apF (rs := []) (news := vs) rfl ty_ap_24 rfl rfl (RdF.nil (L := []) (by decide)) (hV.rd (L := []) (by simp)) hvs (by simp; unfold maxLen; omega) (by simp; omega)) rfl rfl ?_
   rintro u16 W12 ⟨k13, b14, z15⟩
   replace hB := below_then hB b14
   refine Pu rfl (Ni (hK11 ?_))
   exact WC.ret fun a_ ha_ => hQ (cv_ret1 rfl (.tmp rfl) ⟨w.heap.size, Nat.le_refl _, k13⟩ hB ha_)
  ·
   replace c10 := dF c10
   exact absurd rfl c10

section
variable {P : Program} {ops : Array Oper} {o : Oper} {N : Nat} {f : Fl} {w : World}
theorem dx_shr {t t' : TypeId} {x y : Operand} {K K2 : IntKind} {m n r : Int} (ho : o.op = .binOp .shr t x y t') (hx : ev f x = some (.int K m)) (hy : ev f y = some (.int K2 n)) (hn : 0 ≤ n) (hn2 : n ≤ K.bits) (hr : m / 2 ^ n.toNat = r) (hw : wantF ops o f = some true := by rfl) : DV P ops o N f w (.int K r) := fun a ha =>
 Does.shr (wantF_of ha hw) ho (ha.ev hx) (ha.ev hy) hn hn2 hr ⟨rfl, rfl⟩
end
theorem GrowB.of_chg {B B' : Nat} {w w' : World} (h : Chg B w w') (hn : B' = B ∨ w.heap.size ≤ B') : GrowB B B' w w' := ⟨h.os, h.tape, h.output, h.size, fun k hk hB => h.block k hk hB, hn⟩
theorem ChgV.grow {b B C D D' : Nat} {w W W' : World} (h : ChgV b B C w W) (g : GrowB D D' W W') (hD : b ≤ D) (hb : b ≤ W.heap.size) : ChgV b B C w W' := h.both ⟨g.os, g.tape, g.output, g.size, fun k hk _ _ => g.block k (by omega) (by omega)⟩
set_option maxHeartbeats 1000000 in
theorem nanC_v (x : ByteArray) (w : World) (L : List Nat) (hL : LL L w)  : CV Try.prog 94 [.string x] w fun v W => v = .bool false := by
 refine cv_enter (N := 6) (f := [(0, .string x)]) Try.func94 rfl rfl rfl rfl fun Q hQ hE => ?_
 have hB := Below.refl w.heap.size w
 refine WC.seq fun K1 hK1 => ?_
 refine WC.region ?_
 refine WL.val (dx_assign rfl rfl) rfl rfl ?_
 refine WL.nil ?_
 refine hK1 ?_
 refine WC.seq fun K2 hK2 => ?_
 refine WC.region ?_
 refine WL.val (dx_move rfl rfl) rfl rfl ?_
 refine WL.val (dx_move rfl rfl) rfl rfl ?_
 refine WL.val (dv_Fz (dx_neqT rfl rfl rfl) rfl) rfl rfl ?_
 refine WL.val (dx_assign rfl rfl) rfl rfl ?_
 refine WL.nil ?_
 refine hK2 ?_
 refine WC.ret fun a_ ha_ => ?_
 exact hQ (cv_ret1 rfl (.tmp rfl) rfl hB ha_)

set_option maxHeartbeats 1000000 in
theorem nanS_v (x : ByteArray) (w : World) (L : List Nat) (hL : LL L w)  : CV Try.prog 75 [.string x] w fun v W => v = .bool false := by
 refine cv_enter (N := 6) (f := [(0, .string x)]) Try.func75 rfl rfl rfl rfl fun Q hQ hE => ?_
 have hB := Below.refl w.heap.size w
 refine WC.seq fun K1 hK1 => ?_
 refine WC.region ?_
 refine WL.val (dx_assign rfl rfl) rfl rfl ?_
 refine WL.nil ?_
 refine hK1 ?_
 refine WC.seq fun K2 hK2 => ?_
 refine WC.region ?_
 refine WL.val (dx_move rfl rfl) rfl rfl ?_
 refine WL.val (dx_move rfl rfl) rfl rfl ?_
 refine WL.val (dv_Fz (dx_neqT rfl rfl rfl) rfl) rfl rfl ?_
 refine WL.val (dx_assign rfl rfl) rfl rfl ?_
 refine WL.nil ?_
 refine hK2 ?_
 refine WC.ret fun a_ ha_ => ?_
 exact hQ (cv_ret1 rfl (.tmp rfl) rfl hB ha_)

set_option maxHeartbeats 1000000 in
theorem lessC_v (x y : ByteArray) (w : World) (L : List Nat) (hL : LL L w)  : CV Try.prog 74 [.string x, .string y] w fun v W => v = .bool (sless x y) := by
 refine cv_enter (N := 17) (f := [(0, .string x), (1, .string y)]) Try.func74 rfl rfl rfl rfl fun Q hQ hE => ?_
 have hB := Below.refl w.heap.size w
 refine WC.seq fun K1 hK1 => (WC.region (Pu rfl (WL.nil (hK1 (WC.seq fun K2 hK2 => (WC.region (Pu rfl ?_)))))))
 refine WL.get (dx_cv rfl Try.func94 rfl rfl rfl (nanC_v x w _ hL)) rfl rfl ?_
 rintro _ W4 ⟨rfl, b3⟩
 replace hB := below_then hB b3
 refine Pu rfl (Of rfl (Of rfl (Of rfl (Pu rfl (Pu rfl (Pu rfl (Pu rfl ?_)))))))
 refine WL.val (dx_lssT rfl rfl rfl) rfl rfl (Pu rfl (Pu rfl (WL.nil (hK2 ?_))))
 exact WC.ret fun a_ ha_ => hQ (cv_ret1 rfl (.tmp rfl) rfl hB ha_)

set_option maxHeartbeats 1000000 in
theorem bsearch_v (ts : List ByteArray) (x : ByteArray) (tv : Value) (w : World) (L : List Nat) (hL : LL L w) (h3 : RdF 1 L w tv (ts.map eS))  (hr : Rises ts) (hsm : ts.length ≤ 1000000000000) : CV Try.prog 49 [tv, .string x] w fun v W => v = .tuple #[.int .i64 ((lbT x ts : Nat) : Int), .bool (decide (ts[lbT x ts]? = some x))] := by
 refine cv_enter (N := 54) (f := [(0, tv), (1, .string x)]) Try.func49 rfl rfl rfl rfl fun Q hQ hE => ?_
 have hB := Below.refl w.heap.size w
 have h3m : ts.length ≤ maxLen := by have := h3.len; rwa [List.length_map] at this
 unfold maxLen at h3m
 refine Sq fun K1 hK1 => (Rg (Pu rfl (Pu rfl (Ni (hK1 (Sq fun K2 hK2 => (Rg ?_)))))))
 refine Pu rfl (Va (dx_lenFM rfl ty_slice_23 rfl h3) rfl rfl (Pu rfl (Ni (hK2 (Sq fun K3 hK3 => (Rg (Pu rfl ?_)))))))
 refine Pu rfl (Pu rfl (Ni (hK3 (Sq fun K4 hK4 => (WC.block ?_)))))
 refine WC.loop2 (fun (i : Nat) (j : Nat) => [(0, tv), (1, .string x), (6, .int .i64 (ts.length : Int)), (7, .int .i64 (i : Int)), (8, .int .i64 (j : Int))]) (fun (i : Nat) (j : Nat) W => i ≤ j ∧ j ≤ ts.length ∧ (∀ q a, q < i → ts[q]? = some a → sless a x = true) ∧ (∀ q a, j ≤ q → ts[q]? = some a → sless a x = false) ∧ Below w.heap.size w W ∧ LL (L) W ∧ RdF 1 (L) W tv (ts.map eS)) (fun (i : Nat) (j : Nat) => j - i) 0 ts.length (by repeat first | exact trivial | exact And.intro rfl trivial | refine And.intro rfl ?_ | refine And.intro (congrArg (fun z : Int => some (Value.int .i64 z)) (by omega)) ?_) ⟨Nat.zero_le _, Nat.le_refl _, (fun q a hq => by omega), (fun q a hq ha => by rw [List.getElem?_eq_none hq] at ha; cases ha), hB, hL, h3⟩ ?_
 clear h3 hB hL
 rintro K5 i j W6 ⟨hi, hj, h1_, h2_, hB, hL, h3⟩ hK5
 refine Sq fun K7 hK7 => (Sq fun K8 hK8 => (Rg (Pu rfl (Pu rfl (Va (dx_lss rfl rfl rfl) rfl rfl (Ni (hK8 ?_)))))))
 refine WC.cond rfl (fun c9 => ?_) (fun c9 => ?_)
 ·
  replace c9 := dT c9
  refine WC.skip (hK7 (WC.block (Sq fun K10 hK10 => ?_)))
  obtain ⟨m, hm⟩ : ∃ k : Nat, k = (i + j) / 2 := ⟨_, rfl⟩
  have hm1 : i ≤ m ∧ m < j := by omega
  refine Rg (Pu rfl (Pu rfl (Va (dx_add (r := ((i + j : Nat) : Int)) rfl rfl rfl (by rw [wrap64_id (by omega)]; omega)) rfl rfl (Va (dx_conv (r := ((i + j : Nat) : Int)) rfl Try.underlying3 Try.underlying97 rfl (wrapu64_id (by omega))) rfl rfl (Va (dx_shr (r := (m : Int)) rfl rfl rfl (by decide) (by decide) (by show ((i + j : Nat) : Int) / 2 ^ 1 = _; omega)) rfl rfl (Va (dx_conv (r := (m : Int)) rfl Try.underlying97 Try.underlying3 rfl (wrap64_id (by omega))) rfl rfl (Pu rfl ?_)))))))
  refine Ni (hK10 (Sq fun K11 hK11 => (Rg (Pu rfl (Pu rfl ?_)))))
  obtain ⟨r12, e13⟩ : ∃ x, ts[m]? = some x := ⟨_, List.getElem?_eq_getElem (by omega)⟩
  refine Ge (dx_idxF m rfl ty_slice_23 rfl rfl h3 (by omega) (at_mapX e13)) rfl rfl ?_
  rintro u14 _ ⟨rfl, p15⟩
  refine Va (dx_loadP rfl ty_one_9 rfl p15) rfl rfl (Pu rfl ?_)
  refine Ge (dx_cv rfl Try.func74 rfl rfl rfl (lessC_v r12 x W6 _ hL)) rfl rfl ?_
  rintro _ W17 ⟨rfl, b16⟩
  replace h3 := h3.below b16
  replace hB := below_then hB b16
  replace hL := LL.below hL b16
  refine Ni (hK11 ?_)
  refine WC.cond rfl (fun c18 => ?_) (fun c18 => ?_)
  ·
   refine Rg (Pu rfl (Va (dx_add (r := ((m + 1 : Nat) : Int)) rfl rfl rfl (by rw [wrap64_id (by omega)]; omega)) rfl rfl (Pu rfl (Ni ?_))))
   exact hK5 (m + 1) j ⟨(by omega), (by omega), (fun q a hq ha => rises_ahead hr (i := m) (by omega) e13 c18 ha), h2_, hB, hL, h3⟩ (by omega) (by repeat first | exact trivial | exact And.intro rfl trivial | refine And.intro rfl ?_ | refine And.intro (congrArg (fun z : Int => some (Value.int .i64 z)) (by omega)) ?_)
  ·
   refine Rg (Pu rfl (Pu rfl (Ni ?_)))
   exact hK5 i m ⟨(by omega), (by omega), h1_, (fun q a hq ha => rises_behind hr (i := m) hq e13 (by first | exact c18 | exact Bool.not_eq_true _ ▸ c18) ha), hB, hL, h3⟩ (by omega) (by repeat first | exact trivial | exact And.intro rfl trivial | refine And.intro rfl ?_ | refine And.intro (congrArg (fun z : Int => some (Value.int .i64 z)) (by omega)) ?_)
 ·
  replace c9 := dF c9
  refine WC.exit ?_
  refine hK4 (Sq fun K19 hK19 => ?_)
  have hlb : lbT x ts = i := lbT_eq (by omega) h1_ (fun a ha => h2_ i a (by omega) ha)
  refine Rg (Pu rfl (Pu rfl (Pu rfl (Va (dx_lss rfl rfl rfl) rfl rfl (Pu rfl ?_)))))
  refine WL.split 35 rfl (fun g20 => ?_) (fun g20 => ?_)
  ·
   replace g20 := dT g20
   refine Pu rfl (Pu rfl ?_)
   obtain ⟨r21, e22⟩ : ∃ x, ts[i]? = some x := ⟨_, List.getElem?_eq_getElem (by omega)⟩
   refine Ge (dx_idxF i rfl ty_slice_23 rfl rfl h3 (by omega) (at_mapX e22)) rfl rfl ?_
   rintro u23 _ ⟨rfl, p24⟩
   refine Va (dx_loadP rfl ty_one_9 rfl p24) rfl rfl (Pu rfl (Va (dx_eqlT rfl rfl rfl) rfl rfl (Pu rfl ?_)))
   refine WL.split 42 rfl (fun g25 => ?_) (fun g25 => ?_)
   ·
    replace g25 := dT g25
    refine Of rfl (Of rfl (Of rfl (Of rfl (Of rfl (Of rfl (Of rfl (Of rfl ?_)))))))
    refine Of rfl (Pu rfl (Pu rfl (Pu rfl (Pu rfl (Ni (hK19 ?_))))))
    exact WC.ret fun a_ ha_ => hQ (cv_ret2 rfl (.tmp rfl) (.tmp rfl) (by rw [hlb]; exact congrArg (fun b => Value.tuple #[.int .i64 (i : Int), .bool b]) (decide_eq_true (by rw [e22]; congr 1 <;> assumption)).symm) hB ha_)
   ·
    replace g25 := dF g25
    refine Pu rfl (Pu rfl ?_)
    refine Ge (dx_idxF i rfl ty_slice_23 rfl rfl h3 (by omega) (at_mapX e22)) rfl rfl ?_
    rintro u26 _ ⟨rfl, p27⟩
    refine Va (dx_loadP rfl ty_one_9 rfl p27) rfl rfl ?_
    refine Ge (dx_cv rfl Try.func75 rfl rfl rfl (nanS_v r21 W6 _ hL)) rfl rfl ?_
    rintro _ W29 ⟨rfl, b28⟩
    replace hB := below_then hB b28
    refine Pu rfl (Of rfl (Of rfl (Pu rfl (Pu rfl (Pu rfl (Pu rfl (Pu rfl ?_)))))))
    refine Ni (hK19 ?_)
    exact WC.ret fun a_ ha_ => hQ (cv_ret2 rfl (.tmp rfl) (.tmp rfl) (by rw [hlb]; exact congrArg (fun b => Value.tuple #[.int .i64 (i : Int), .bool b]) (decide_eq_false (by rw [e22]; intro e_; cases e_; exact absurd rfl (by assumption))).symm) hB ha_)
  ·
   replace g20 := dF g20
   refine Of rfl (Of rfl (Of rfl (Of rfl (Of rfl (Of rfl (Of rfl (Of rfl ?_)))))))
   refine Of rfl (Of rfl (Of rfl (Of rfl (Of rfl (Of rfl (Of rfl (Of rfl ?_)))))))
   refine Of rfl (Pu rfl (Pu rfl (Pu rfl (Ni (hK19 ?_)))))
   exact WC.ret fun a_ ha_ => hQ (cv_ret2 rfl (.tmp rfl) (.tmp rfl) (by rw [hlb]; exact congrArg (fun b => Value.tuple #[.int .i64 (i : Int), .bool b]) (decide_eq_false (by rw [List.getElem?_eq_none (by omega)]; intro e_; cases e_)).symm) hB ha_)

theorem insOT_v (rs vs : List (List Value)) (i : Nat) (B C : Nat) (u y : Value) (w : World) (hO : OwS 1 w u rs B) (hV : OwS 1 w y vs C) (hCB : C ≠ B) (hi : i ≤ rs.length) (hvs : vs ≠ []) (hsm : (rs.length + vs.length) * 16 ≤ 140737488355328) (hone : ∀ r ∈ rs, ∀ u ∈ r, u.oneCell' = true) (hvone : ∀ r ∈ vs, ∀ u ∈ r, u.oneCell' = true) :
  CW Try.prog 50 [u, .int .i64 (i : Int), y] w B fun v W => ∃ B', OwS 1 W v (rs.take i ++ (vs ++ rs.drop i)) B' ∧ (B' = B ∨ w.heap.size ≤ B') := by
 have hlt := hO.lt
 obtain ⟨sp, rfl, h1⟩ := hO.open
 obtain ⟨vp, rfl, h2⟩ := hV.open
 exact insertT_v rs sp vs vp i B C w [] (fun x hx => by rw [List.mem_singleton.1 hx]; exact hlt) h1 h2 hCB hi hvs hsm hone hvone
theorem insNT_v (vs : List (List Value)) (C : Nat) (y : Value) (w : World) (i : Int) (hi : i = 0) (hV : OwS 1 w y vs C) (hvs : vs ≠ []) (hsm : vs.length * 16 ≤ 140737488355328) : CV Try.prog 50 [.slice none 0 0, .int .i64 i, y] w fun v W => ∃ B, w.heap.size ≤ B ∧ OwS 1 W v vs B := by
 subst hi
 obtain ⟨vp, rfl, h2⟩ := hV.open
 exact insertNT_v vs vp C w [] (LL.nil _) h2 hvs hsm
theorem insOV_v (rs vs : List (List Value)) (i : Nat) (B C : Nat) (u y : Value) (w : World) (hO : OwS 5 w u rs B) (hV : OwS 5 w y vs C) (hCB : C ≠ B) (hi : i ≤ rs.length) (hvs : vs ≠ []) (hsm : (rs.length + vs.length) * 80 ≤ 140737488355328) (hone : ∀ r ∈ rs, ∀ u ∈ r, u.oneCell' = true) (hvone : ∀ r ∈ vs, ∀ u ∈ r, u.oneCell' = true) :
  CW Try.prog 51 [u, .int .i64 (i : Int), y] w B fun v W => ∃ B', OwS 5 W v (rs.take i ++ (vs ++ rs.drop i)) B' ∧ (B' = B ∨ w.heap.size ≤ B') := by
 have hlt := hO.lt
 obtain ⟨sp, rfl, h1⟩ := hO.open
 obtain ⟨vp, rfl, h2⟩ := hV.open
 exact insertV_v rs sp vs vp i B C w [] (fun x hx => by rw [List.mem_singleton.1 hx]; exact hlt) h1 h2 hCB hi hvs hsm hone hvone
theorem insNV_v (vs : List (List Value)) (C : Nat) (y : Value) (w : World) (i : Int) (hi : i = 0) (hV : OwS 5 w y vs C) (hvs : vs ≠ []) (hsm : vs.length * 80 ≤ 140737488355328) : CV Try.prog 51 [.slice none 0 0, .int .i64 i, y] w fun v W => ∃ B, w.heap.size ≤ B ∧ OwS 5 W v vs B := by
 subst hi
 obtain ⟨vp, rfl, h2⟩ := hV.open
 exact insertNV_v vs vp C w [] (LL.nil _) h2 hvs hsm
abbrev StO := List ByteArray × List Js
def pairN (s : ByteArray) (vs : Nat → Except Int (Js × Nat)) (nm : ByteArray) (k1 : Nat) (st : StO) : Except Int (StO × Nat) :=
 if st.1[lbT nm st.1]? = some nm then .error 6 else if takeS s (blankS s k1) 58 = true then (match vs (blankS s (blankS s k1 + 1)) with
  | .error e => .error e
  | .ok (t, k5) => .ok ((insA (lbT nm st.1) nm st.1, insA (lbT nm st.1) t st.2), k5)) else .error 2
def pairS (s : ByteArray) (vs : Nat → Except Int (Js × Nat)) (k : Nat) (st : StO) : Except Int (StO × Nat) :=
 if takeS s k 34 = true then (match quoS s k with
  | none => .error 2
  | some (l, k1) => pairN s vs (strOfNums l) k1 st) else .error 2
section
variable {s nm : ByteArray} {vs : Nat → Except Int (Js × Nat)} {k k1 k2 k3 k4 k5 a : Nat} {st : StO} {l : List Int} {e c d : Int} {t : Js}
theorem pairS_0 (h : takeS s k 34 = false) : pairS s vs k st = .error 2 := by unfold pairS; rw [h]; rfl
theorem pairS_q (h : takeS s k 34 = true) (hq : quoS s k = none) : pairS s vs k st = .error 2 := by unfold pairS; rw [h, if_pos rfl, hq]
theorem pairS_n (h : takeS s k 34 = true) (hq : quoS s k = some (l, k1)) (hn : nm = strOfNums l) : pairS s vs k st = pairN s vs nm k1 st := by subst hn; unfold pairS; rw [h, if_pos rfl, hq]
theorem pairN_t (ha : a = lbT nm st.1) (h : st.1[a]? = some nm) : pairN s vs nm k1 st = .error 6 := by subst ha; unfold pairN; rw [if_pos h]
theorem pairN_c (ha : a = lbT nm st.1) (h : ¬ st.1[a]? = some nm) (e2 : k2 = blankS s k1) (q : takeS s k2 58 = false) : pairN s vs nm k1 st = .error 2 := by subst ha e2; unfold pairN; rw [if_neg h, q]; rfl
theorem pairN_e (ha : a = lbT nm st.1) (h : ¬ st.1[a]? = some nm) (e2 : k2 = blankS s k1) (q : takeS s k2 58 = true) (e3 : k3 = k2 + 1) (e4 : k4 = blankS s k3) (hv : vs k4 = .error e) : pairN s vs nm k1 st = .error e := by subst ha e4 e3 e2; unfold pairN; rw [if_neg h, q, if_pos rfl, hv]
theorem pairN_k (ha : a = lbT nm st.1) (h : ¬ st.1[a]? = some nm) (e2 : k2 = blankS s k1) (q : takeS s k2 58 = true) (e3 : k3 = k2 + 1) (e4 : k4 = blankS s k3) (hv : vs k4 = .ok (t, k5)) : pairN s vs nm k1 st = .ok ((insA a nm st.1, insA a t st.2), k5) := by subst ha e4 e3 e2; unfold pairN; rw [if_neg h, q, if_pos rfl, hv]
theorem take_nc (h2 : k < s.size → c = atS s k) (h : ¬ c = d) : takeS s k d = false := by
 unfold takeS
 cases hlt : decide (k < s.size) with
 | false => rfl
 | true => rw [Bool.true_and]; exact decide_eq_false (fun e => h ((h2 (of_decide_eq_true hlt)).trans e))
end
def MembI (n b : Nat) (L : List Nat) (nv : Value) (ns : List ByteArray) (iv : Value) (ts : List Tr) (W : World) : Prop := (∀ x ∈ L, x < b) ∧ ((nv = .slice none 0 0 ∧ iv = .slice none 0 0 ∧ ns = [] ∧ ts = []) ∨ ∃ Bn Bi, Bn ≠ Bi ∧ b ≤ Bn ∧ b ≤ Bi ∧ OwS 1 W nv (ns.map eS) Bn ∧ OwS 5 W iv (ts.map encT) Bi ∧ RdTs n (Bn :: Bi :: L) W ts)
theorem MembI.chgL {n b : Nat} {L : List Nat} {nv iv : Value} {ns : List ByteArray} {ts : List Tr} {W W' : World} (h : MembI n b L nv ns iv ts W) {P : Nat} (g : Chg P W W') (hP : P ∈ L) : MembI n b L nv ns iv ts W' := by
  obtain ⟨h0, h | ⟨Bn, Bi, h1, h2, h3, h4, h5, h6⟩⟩ := h
  · exact ⟨h0, .inl h⟩
  · have := h0 P hP
    exact ⟨h0, .inr ⟨Bn, Bi, h1, h2, h3, h4.chgL g (by omega), h5.chgL g (by omega), h6.chgL g (.tail _ (.tail _ hP))⟩⟩
theorem MembI.below {n b : Nat} {L : List Nat} {nv iv : Value} {ns : List ByteArray} {ts : List Tr} {W W' : World} (h : MembI n b L nv ns iv ts W) (g : Below W.heap.size W W') : MembI n b L nv ns iv ts W' := by
 obtain ⟨h0, h | ⟨Bn, Bi, h1, h2, h3, h4, h5, h6⟩⟩ := h
 · exact ⟨h0, .inl h⟩
 · exact ⟨h0, .inr ⟨Bn, Bi, h1, h2, h3, h4.below g, h5.below g, h6.below g⟩⟩
theorem MembI.only {n b : Nat} {L : List Nat} {nv iv : Value} {ns : List ByteArray} {ts : List Tr} {W W' : World} (h : MembI n b L nv ns iv ts W) {C : Nat} (g : Only C W W') (hC : C ∈ L) : MembI n b L nv ns iv ts W' := by
  obtain ⟨h0, h | ⟨Bn, Bi, h1, h2, h3, h4, h5, h6⟩⟩ := h
  · exact ⟨h0, .inl h⟩
  · have := h0 C hC
    exact ⟨h0, .inr ⟨Bn, Bi, h1, h2, h3, h4.other g (by omega), h5.other g (by omega), h6.only g (.tail _ (.tail _ hC))⟩⟩
theorem MembI.one {n b : Nat} {L : List Nat} {nv iv : Value} {ns : List ByteArray} {ts : List Tr} {W : World} (h : MembI n b L nv ns iv ts W) : nv.oneCell' = true ∧ iv.oneCell' = true := by
 obtain ⟨h0, ⟨rfl, rfl, _⟩ | ⟨Bn, Bi, h1, h2, h3, h4, h5, h6⟩⟩ := h
 · exact ⟨rfl, rfl⟩
 · exact ⟨h4.one, h5.one⟩
theorem MembI.tree {n b : Nat} {L L' : List Nat} {nv iv : Value} {ns : List ByteArray} {ts : List Tr} {W : World} (h : MembI n b L nv ns iv ts W) (hl : ∀ x, x ∈ L' → x ∈ L) (k m : Int) (t : ByteArray) : RdT (n + 1) L' W (.mk k m t nv ns iv ts) := by
 obtain ⟨h0, ⟨rfl, rfl, rfl, rfl⟩ | ⟨Bn, Bi, h1, h2, h3, h4, h5, h6⟩⟩ := h
 · exact ⟨RdF.nil (by decide), RdF.nil (by decide), fun c hc => by cases hc⟩
 · exact ⟨h4.rd (fun hx => by have := h0 Bn (hl Bn hx); omega), h5.rd (fun hx => by have := h0 Bi (hl Bi hx); omega), fun c hc => (h6 c hc).less fun x hx => .tail _ (.tail _ (hl x hx))⟩
abbrev vO (nv iv : Value) : List Value := [.int .i64 6, .int .i64 0, .string ⟨#[]⟩, nv, iv]
def PairI (n b V : Nat) (L : List Nat) (st : StO) (W : World) : Prop := ∃ nv iv ts, ts.map Tr.er = st.2 ∧ Rises st.1 ∧ st.1.length = ts.length ∧ Blk W V (vO nv iv) ∧ MembI n b L nv st.1 iv ts W
def ObjI (n b Bp V P : Nat) (L : List Nat) (st : StO) (W : World) : Prop := Blk W Bp [.pointer (some ⟨P, 0, none⟩)] ∧ PairI n b V L st W
theorem fiveO {V : Nat} {nv iv : Value} {W : World} (h : Blk W V (vO nv iv)) (h1 : nv.oneCell' = true) (h2 : iv.oneCell' = true) : FiveE V W := ⟨_, rfl, oc_cons rfl (oc_cons rfl (oc_cons rfl (oc_cons h1 (oc_cons h2 oc_nil)))), h⟩
theorem objI_five {n b Bp V P : Nat} {L : List Nat} : ∀ (st : StO) (W : World), ObjI n b Bp V P L st W → FiveE V W := fun _ _ ⟨_, _, _, _, _, _, _, h2, h3⟩ => fiveO h2 h3.one.1 h3.one.2
theorem objI_chg {n b Bp V P : Nat} {L : List Nat} (h1 : Bp ≠ P) (h2 : V ≠ P) (hP : P ∈ L) : ∀ (st : StO) (W W' : World), ObjI n b Bp V P L st W → Chg P W W' → ObjI n b Bp V P L st W' := fun _ _ _ ⟨a1, nv, iv, ts, he, hr, hl, a2, a3⟩ g => ⟨a1.chg g h1, nv, iv, ts, he, hr, hl, a2.chg g h2, a3.chgL g hP⟩
def objS (s : ByteArray) (vs : Nat → Except Int (Js × Nat)) (k : Nat) : Except Int (Js × Nat) := match memS s (pairS s vs) 125 k ([], []) with
 | .error e => .error e
 | .ok (st, k') => .ok (.mk 6 0 ⟨#[]⟩ st.1 st.2, k')
def H3 (A : Bool) (W0 : World) (D : Nat) (iv : Value) (rows : List (List Value)) (l8 : Bool) (W : World) : Prop := Chg D W0 W ∧ (A = false → l8 = false → OwS 5 W iv rows D)
def rel3 (A : Bool) (D : Nat) : RelL := fun k W W' => if k = 8 then (if A = true then Below W.heap.size W W' else Chg D W W') else Below W.heap.size W W'
def p7 (A : Bool) (W0 : World) (D : Nat) (tr : List Value) (u : Value) (W : World) : Prop := ∃ C, (A = false → C ≠ D) ∧ W0.heap.size ≤ C ∧ OwS 5 W u [tr] C
def p8 (A : Bool) (W0 : World) (D : Nat) (R : List (List Value)) (u : Value) (W : World) : Prop := ∃ B, ((A = false ∧ B = D) ∨ W0.heap.size ≤ B) ∧ OwS 5 W u R B
abbrev sd3 (A : Bool) (W0 : World) (V D a : Nat) (iv : Value) (tr : List Value) (R : List (List Value)) : List (Option Tmp × VS) :=
 [(some 65, .is (.pointer (some ⟨V, 0, none⟩))), (some 66, .is (.pointer (some ⟨V, 0, none⟩))), (some 67, .is (.pointer (some ⟨V, 0, none⟩))), (some 68, .is (.pointer (some ⟨V, 4, none⟩))), (some 69, .is iv), (some 70, .is (.int .i64 (a : Int))), (some 71, .is (.agg tr.toArray)), (some 72, .by (p7 A W0 D tr)), (some 73, .by (p8 A W0 D R))]
theorem p7_rel {A : Bool} {W0 W W' : World} {D i : Nat} {tr : List Value} {u : Value} (hr : rel3 A D i W W') (h : p7 A W0 D tr u W) : p7 A W0 D tr u W' := by
 obtain ⟨C, h1, h2, h3⟩ := h
 refine ⟨C, h1, h2, ?_⟩
 unfold rel3 at hr
 cases A with
 | true => simp at hr; exact h3.below hr
 | false =>
  split at hr
  · exact h3.chgL hr (h1 rfl)
  · exact h3.below hr
theorem p8_rel {A : Bool} {W0 W W' : World} {D i : Nat} {R : List (List Value)} {u : Value} (hi : i ≠ 8) (hr : rel3 A D i W W') (h : p8 A W0 D R u W) : p8 A W0 D R u W' := by
 obtain ⟨C, h1, h3⟩ := h
 unfold rel3 at hr
 rw [if_neg hi] at hr
 exact ⟨C, h1, h3.below hr⟩
theorem mono3 {A : Bool} {W0 : World} {V D a m : Nat} {iv : Value} {tr : List Value} {R : List (List Value)} {dl : List (List Nat)} : MonoL m (rel3 A D) (sd3 A W0 V D a iv tr R) dl := by
 intro i hi j hne hnd u W W' hr h
 match j, hne, h with
 | 0, _, h => exact h
 | 1, _, h => exact h
 | 2, _, h => exact h
 | 3, _, h => exact h
 | 4, _, h => exact h
 | 5, _, h => exact h
 | 6, _, h => exact h
 | 7, _, h => exact p7_rel hr h
 | 8, hne, h => exact p8_rel (fun e => hne e.symm) hr h
 | _ + 9, _, _ => exact trivial
theorem begin3 {A : Bool} {W0 : World} {D : Nat} {iv : Value} {rows : List (List Value)} (hA : A = false → OwS 5 W0 iv rows D) : H3 A W0 D iv rows false W0.drew := by
 have hb : Below W0.heap.size W0 W0.drew := below_draws (Below.refl _ _) 1
 exact ⟨(Chg.refl D W0).thenB hb, fun a _ => (hA a).below hb⟩
theorem rel_o3 {A : Bool} {D k : Nat} {W W' : World} (h8 : k ≠ 8) (h : Below W.heap.size W W') : rel3 A D k W W' := by unfold rel3; rw [if_neg h8]; exact h
theorem lit3 {A : Bool} {W0 W W' : World} {D : Nat} {iv : Value} {rows : List (List Value)} {l8 : Bool} (h : H3 A W0 D iv rows l8 W) (hb : Below W.heap.size W W') : H3 A W0 D iv rows l8 W' := ⟨h.1.thenB hb, fun a b => (h.2 a b).below hb⟩
theorem Chg.toBelow {D : Nat} {W W' : World} (h : Chg D W W') (hD : W.heap.size ≤ D) : Below W.heap.size W W' := ⟨h.os, h.tape, h.output, h.size, fun k hk => h.block k hk (by omega)⟩
theorem insN_map {α β : Type} (f : α → β) (x : α) (k : Nat) : (insA k x []).map f = [f x] := by
 unfold insA
 simp
abbrev PairAt (n : Nat) (vs : Nat → Except Int (Js × Nat)) (s : ByteArray) (dp : Nat) : Prop := ∀ (b V P : Nat) (L : List Nat) (ka : Nat) (st : StO) (W : World), LL L W → P ∈ L → V ∈ L → V ≠ P → (∀ x ∈ L, x < b) → b ≤ W.heap.size → ka ≤ s.size → Blk W P (psC s ka dp) → PairI n b V L st W → st.1.length ≤ ka →
 CX Try.prog 91 [.pointer (some ⟨P, 0, none⟩), .pointer (some ⟨V, 0, none⟩)] W (ChgV b P V) (fun v W' => (∃ k' st', v = .int .i64 0 ∧ pairS s vs ka st = .ok (st', k') ∧ ka < k' ∧ k' ≤ s.size ∧ st'.1.length ≤ k' ∧ PairI n b V L st' W' ∧ Blk W' P (psC s k' dp)) ∨ (∃ k' e, v = .int .i64 e ∧ e ≠ 0 ∧ pairS s vs ka st = .error e ∧ k' ≤ s.size ∧ FiveE V W' ∧ Blk W' P (psC s k' dp)))
abbrev ObjAt (n : Nat) (vs : Nat → Except Int (Js × Nat)) (s : ByteArray) (dp : Nat) : Prop := ∀ (b Bp V P : Nat) (L : List Nat) (ka : Nat) (st : StO) (W : World), LL L W → P ∈ L → V ∈ L → Bp ∈ L → Bp ≠ P → V ≠ P → Bp ≠ V → (∀ x ∈ L, x < b) → b ≤ W.heap.size → ka ≤ s.size → Blk W P (psC s ka dp) → ObjI n b Bp V P L st W → st.1.length ≤ ka →
 CX Try.prog 90 [.pointer (some ⟨Bp, 0, none⟩), .pointer (some ⟨V, 0, none⟩)] W (ChgV b P V) (fun v W' => (∃ k' st', v = .int .i64 0 ∧ pairS s vs ka st = .ok (st', k') ∧ ka < k' ∧ k' ≤ s.size ∧ st'.1.length ≤ k' ∧ ObjI n b Bp V P L st' W' ∧ Blk W' P (psC s k' dp)) ∨ (∃ k' e, v = .int .i64 e ∧ e ≠ 0 ∧ pairS s vs ka st = .error e ∧ k' ≤ s.size ∧ FiveE V W' ∧ Blk W' P (psC s k' dp)))
theorem bsearchA_v (ts : List ByteArray) (x : ByteArray) (tv : Value) (w : World) (L : List Nat) (hL : LL L w) (h3 : RdF 1 L w tv (ts.map eS)) (hr : Rises ts) (hsm : ts.length ≤ 1000000000000) : CV Try.prog 49 [tv, .string x] w fun v W => ∃ k : Nat, k = lbT x ts ∧ k ≤ ts.length ∧ v = .tuple #[.int .i64 (k : Int), .bool (decide (ts[k]? = some x))] :=
 (bsearch_v ts x tv w L hL h3 hr hsm).mono fun v w' _ h => ⟨_, rfl, lbT_le x ts, h⟩
set_option maxHeartbeats 1000000 in
theorem pair_v (n : Nat) (vs : Nat → Except Int (Js × Nat)) (s : ByteArray) (dp : Nat) (hs : s.size ≤ 1000000) (hv : ValAt (n + 1) vs s dp) : PairAt (n + 1) vs s dp := by
 intro b V P L ka st w hL hPL hVL hVP hLb hbw hk hp hI hlka
 obtain ⟨ns, js⟩ := st
 obtain ⟨nv, iv, ts, he, hris, hlen, hV, hI0, hI⟩ := hI
 simp only at he hris hlen hlka hI
 subst he
 have hsm : ts.length ≤ 1000000 := by omega
 rcases hI with ⟨rfl, rfl, rfl, rfl⟩ | ⟨Bn, Bi, hni, hbn, hbi, hOn, hOi, hts⟩
 ·
  refine cx_enter (N := 76) (f := [(0, .pointer (some ⟨P, 0, none⟩)), (1, .pointer (some ⟨V, 0, none⟩))]) Try.func91 rfl rfl rfl rfl fun Q hQ hE_ => ?_
  have hB := ChgV.refl b P V w
  refine Sq fun K1 hK1 => (Rg (Pu rfl (Ni (hK1 (Sq fun K2 hK2 => (Sq fun K3 hK3 => (Rg ?_)))))))
  refine Pu rfl (Va (dx_nilCheck rfl rfl) rfl rfl (Va (dx_fld (o1 := 0) rfl ty_fld_55_0_0 rfl rfl) rfl rfl ?_))
  refine Ge (dx_cv rfl Try.func59 rfl rfl rfl (peek_c s P ka dp w _ hL hPL hs (by omega) hp)) rfl rfl ?_
  rintro _ W25 ⟨⟨c19, rfl, hc20, hc21, hc22, hc23⟩, b24⟩
  replace hp := hp.below b24
  replace hV := hV.below b24
  replace hB := hB.both (.of_below (b24.mono (Nat.le_trans hbw hB.size)))
  replace hL := LL.below hL b24
  refine Va (dx_neq rfl rfl rfl) rfl rfl (Ni (hK3 ?_))
  refine WC.cond rfl (fun c26 => ?_) (fun c26 => ?_)
  ·
   replace c26 := bnot_t c26
   replace c26 := dF c26
   refine Sq fun K27 hK27 => (Rg (Pu rfl (Ni (hK27 ?_))))
   exact WC.ret fun a_ ha_ => hQ (cx_ret1 rfl (.tmp rfl) (.inr ⟨ka, 2, rfl, by decide, pairS_0 (take_nc hc22 (by assumption)), by omega, (fiveO hV rfl rfl), hp⟩) hB ha_)
  ·
   replace c26 := bnot_f c26
   replace c26 := dT c26
   refine WC.skip (hK2 (Sq fun K28 hK28 => (Rg (Pu rfl ?_))))
   refine Ge (dx_cw rfl Try.func62 rfl rfl rfl (quoted_v s P ka dp W25 _ hL hPL hs (by omega) hp (take_of (by rcases Nat.lt_or_ge ka s.size with h_ | h_; exact h_; (have := hc23 h_; omega)) (by have h_ : ka < s.size := (by rcases Nat.lt_or_ge ka s.size with h_ | h_; exact h_; (have := hc23 h_; omega)); have := hc22 h_; omega)))) rfl rfl ?_
   rintro _ W56 ⟨(⟨k42, l44, rfl, hw45, hw46, hw47, hw48, hw49, hp57⟩ | ⟨k43, rfl, hw50, hw51, hp57⟩), g55⟩
   ·
    replace hV := hV.chg g55 hVP
    replace hB := hB.chg g55 (Nat.le_trans hbw hB.size)
    replace hL := hL.chg g55
    obtain ⟨nm54, hnm⟩ : ∃ x, x = strOfNums l44 := ⟨_, rfl⟩
    rw [← hnm]
    refine Pu rfl (Pu rfl (Pu rfl (Pu rfl (Pu rfl (Ni (hK28 (Sq fun K58 hK58 => ?_)))))))
    refine Sq fun K59 hK59 => (Rg (Pu rfl (Va (dx_neq rfl rfl rfl) rfl rfl (Ni (hK59 (WC.condF rfl (WC.skip ?_)))))))
    refine hK58 (Sq fun K60 hK60 => (Rg (Pu rfl (Va (dx_nilCheck rfl rfl) rfl rfl (Va (dx_fld (o1 := 3) rfl ty_fld_26_3_3 rfl rfl) rfl rfl (Va (dx_load rfl ty_one_23 rfl (hV.cell (k := 3) rfl)) rfl rfl (Pu rfl ?_)))))))
    refine Ge (dx_cv rfl Try.func49 rfl rfl rfl (bsearchA_v ([] : List ByteArray) nm54 _ W56 [] (LL.nil _) (RdF.nil (L := []) (by decide)) hris (by first | omega | simp))) rfl rfl ?_
    rintro _ W62 ⟨⟨at_, hat, hatl, rfl⟩, b61⟩
    replace hp57 := hp57.below b61
    replace hV := hV.below b61
    replace hB := hB.both (.of_below (b61.mono (Nat.le_trans hbw hB.size)))
    replace hL := LL.below hL b61
    have hat0 : at_ = 0 := by simpa using hatl
    refine Pu rfl (Pu rfl (Pu rfl (Pu rfl (Pu rfl (Ni (hK60 (Sq fun K63 hK63 => ?_)))))))
    refine Sq fun K64 hK64 => (Rg (Pu rfl (Ni (hK64 ?_))))
    refine WC.cond rfl (fun c65 => ?_) (fun c65 => ?_)
    ·
     replace c65 := dT c65
     refine Sq fun K66 hK66 => (Rg (Pu rfl (Ni (hK66 ?_))))
     exact WC.ret fun a_ ha_ => hQ (cx_ret1 rfl (.tmp rfl) (.inr ⟨k42, 6, rfl, by decide, (pairS_n (take_of (by rcases Nat.lt_or_ge ka s.size with h_ | h_; exact h_; (have := hc23 h_; omega)) (by have h_ : ka < s.size := (by rcases Nat.lt_or_ge ka s.size with h_ | h_; exact h_; (have := hc23 h_; omega)); have := hc22 h_; omega)) hw45 hnm).trans (pairN_t hat (by assumption)), by omega, (fiveO hV rfl rfl), hp57⟩) hB ha_)
    ·
     replace c65 := dF c65
     refine WC.skip (hK63 (Sq fun K67 hK67 => (Rg (Pu rfl (Va (dx_nilCheck rfl rfl) rfl rfl (Va (dx_fld (o1 := 0) rfl ty_fld_55_0_0 rfl rfl) rfl rfl ?_))))))
     refine Ge (dx_cw rfl Try.func33 rfl rfl rfl (blanks_v s P k42 dp W62 _ hL hPL hs (by omega) hp57)) rfl rfl ?_
     rintro _ W78 ⟨hp79, g77⟩
     replace hV := hV.chg g77 hVP
     replace hB := hB.chg g77 (Nat.le_trans hbw hB.size)
     replace hL := hL.chg g77
     obtain ⟨k74, hk75⟩ : ∃ k, k = blankS s k42 := ⟨_, rfl⟩
     rw [← hk75] at hp79
     have hk76 := blankS_le (s := s) (k := k42) (by omega)
     rw [← hk75] at hk76
     refine Ni (hK67 (Sq fun K80 hK80 => (Sq fun K81 hK81 => (Rg (Pu rfl (Va (dx_nilCheck rfl rfl) rfl rfl (Va (dx_fld (o1 := 0) rfl ty_fld_55_0_0 rfl rfl) rfl rfl ?_)))))))
     refine Ge (dx_cw rfl Try.func58 rfl rfl rfl (take_v 58 s P k74 dp W78 _ hL hPL hs (by omega) hp79)) rfl rfl ?_
     rintro _ W92 ⟨⟨k88, rfl, hk89, hk90, hp93⟩, g91⟩
     replace hV := hV.chg g91 hVP
     replace hB := hB.chg g91 (Nat.le_trans hbw hB.size)
     replace hL := hL.chg g91
     cases hT94 : takeS s k74 58 with
     | false =>
      rw [hT94] at hk89
      replace hk89 : k74 = k88 := Eq.symm hk89
      subst hk89
      refine Va (dx_not rfl rfl) rfl rfl (Ni (hK81 (WC.condT rfl (Sq fun K95 hK95 => (Rg (Pu rfl (Ni ?_)))))))
      refine hK95 ?_
      exact WC.ret fun a_ ha_ => hQ (cx_ret1 rfl (.tmp rfl) (.inr ⟨k74, 2, rfl, by decide, (pairS_n (take_of (by rcases Nat.lt_or_ge ka s.size with h_ | h_; exact h_; (have := hc23 h_; omega)) (by have h_ : ka < s.size := (by rcases Nat.lt_or_ge ka s.size with h_ | h_; exact h_; (have := hc23 h_; omega)); have := hc22 h_; omega)) hw45 hnm).trans (by apply pairN_c (a := at_) <;> first | assumption | omega), by omega, (fiveO hV rfl rfl), hp93⟩) hB ha_)
     | true =>
      rw [hT94] at hk89
      have hthT94 := take_t hT94
      replace hk89 : k88 = k74 + 1 := hk89
      refine Va (dx_not rfl rfl) rfl rfl (Ni (hK81 (WC.condF rfl (WC.skip (hK80 (Sq fun K96 hK96 => (Rg ?_)))))))
      refine Pu rfl (Va (dx_nilCheck rfl rfl) rfl rfl (Va (dx_fld (o1 := 0) rfl ty_fld_55_0_0 rfl rfl) rfl rfl ?_))
      refine Ge (dx_cw rfl Try.func33 rfl rfl rfl (blanks_v s P k88 dp W92 _ hL hPL hs (by omega) hp93)) rfl rfl ?_
      rintro _ W107 ⟨hp108, g106⟩
      replace hV := hV.chg g106 hVP
      replace hB := hB.chg g106 (Nat.le_trans hbw hB.size)
      replace hL := hL.chg g106
      obtain ⟨k103, hk104⟩ : ∃ k, k = blankS s k88 := ⟨_, rfl⟩
      rw [← hk104] at hp108
      have hk105 := blankS_le (s := s) (k := k88) (by omega)
      rw [← hk104] at hk105
      refine Ni (hK96 (Sq fun K109 hK109 => (Rg (Pu rfl ?_))))
      refine Ge (dx_cw rfl Try.func34 rfl rfl rfl (hv P k103 W107 _ hL hPL (by omega) hp108)) rfl rfl ?_
      rintro _ W137 ⟨(⟨k123, t125, rfl, hw127, hw128, hw129, hw130, hp138⟩ | ⟨k124, e126, rfl, hw131, hw132, hw133, hp138⟩), g136⟩
      ·
       replace hV := hV.chg g136 hVP
       replace hB := hB.chg g136 (Nat.le_trans hbw hB.size)
       replace hL := hL.chg g136
       refine Pu rfl (Pu rfl (Pu rfl ?_))
       refine Ge (dx_alloc rfl ty_zero_26 rfl) rfl rfl ?_
       rintro _ W139 ⟨rfl, k140, b141, z142⟩
       have n143 : P ≠ W137.heap.size := Nat.ne_of_lt hp138.lt
       have n144 : V ≠ W137.heap.size := Nat.ne_of_lt hV.lt
       have l145 := hB.size
       replace hw128 := hw128.more b141 (Nat.le_refl _)
       replace hp138 := hp138.below b141
       replace hV := hV.below b141
       replace hB := hB.both (.of_below (b141.mono (Nat.le_trans hbw hB.size)))
       replace hL := LL.more hL z142
       refine WL.do (dx_store (cs' := [.int .i64 t125.kind, .int .i64 t125.num, .string t125.text, t125.nv, t125.iv]) (vs := [.int .i64 t125.kind, .int .i64 t125.num, .string t125.text, t125.nv, t125.iv]) rfl ty_size_26_5 rfl rfl rfl (oc_cons rfl (oc_cons rfl (oc_cons rfl (oc_cons (hw128.1).one (oc_cons (hw128.2.1).one oc_nil))))) k140 rfl (Nat.le_of_ble_eq_true rfl) rfl) rfl ?_
       rintro _ W146 ⟨k148, o147⟩
       replace hp138 := hp138.other o147 n143
       replace hV := hV.other o147 n144
       clear k140
       replace hw128 := hw128.only o147 (.head _)
       replace hB := hB.both (.of_only o147 (.inr (.inr (Nat.le_trans hbw l145))))
       replace hL := LL.only hL o147
       refine Pu rfl (Ni (hK109 (Sq fun K149 hK149 => (Sq fun K150 hK150 => (Rg (Pu rfl (Va (dx_neq rfl rfl rfl) rfl rfl ?_)))))))
       refine Ni (hK150 (WC.condF rfl (WC.skip (hK149 (Sq fun K151 hK151 => (Rg (Pu rfl ?_)))))))
       refine Pu rfl (Va (dx_nilCheck rfl rfl) rfl rfl (Va (dx_fld (o1 := 3) rfl ty_fld_26_3_3 rfl rfl) rfl rfl (Va (dx_load rfl ty_one_23 rfl (hV.cell (k := 3) rfl)) rfl rfl (Pu rfl (Pu rfl ?_)))))
       refine Ge (dx_lit1 (r := [.string nm54]) rfl ty_ap_23 (by decide) (by decide) rfl rfl rfl) rfl rfl ?_
       rintro u156 W152 ⟨k153, b154, z155⟩
       have l160 := hB.size
       replace hw128 := hw128.more b154 (Nat.le_refl _)
       replace hp138 := hp138.below b154
       replace hV := hV.below b154
       replace k148 := k148.below b154
       replace hB := hB.both (.of_below (b154.mono (Nat.le_trans hbw hB.size)))
       replace hL := LL.more hL z155
       refine Ge (dx_cv rfl Try.func50 rfl rfl rfl (insNT_v [eS nm54] W146.heap.size _ W152 _ (by omega) k153 (by simp) (by simp))) rfl rfl ?_
       rintro x161 W162 ⟨⟨B163, l168, k164⟩, g167⟩
       have n171 : V ≠ B163 := Nat.ne_of_lt (Nat.lt_of_lt_of_le hV.lt l168)
       have l174 := Nat.le_trans hB.size l168
       replace hw128 := hw128.more g167 l168
       replace hp138 := hp138.below g167
       replace hV := hV.below g167
       replace k148 := k148.below g167
       replace hB := hB.both (.of_below (g167.mono (Nat.le_trans hbw hB.size)))
       replace hL := LL.cons (LL.below hL g167) k164.lt
       rw [show [eS nm54] = ((insA at_ nm54 ([] : List ByteArray)).map eS) from (insN_map _ _ _).symm] at k164
       refine Va (dx_nilCheck rfl rfl) rfl rfl (Va (dx_fld (o1 := 3) rfl ty_fld_26_3_3 rfl rfl) rfl rfl ?_)
       refine WL.do (dx_store (cs' := [.int .i64 6, .int .i64 0, .string ⟨#[]⟩, x161, .slice none 0 0]) (vs := [x161]) rfl ty_size_23_1 rfl rfl (oc_one k164.one) (oc_cons k164.one oc_nil) hV rfl (Nat.le_of_ble_eq_true rfl) rfl) rfl ?_
       rintro _ W175 ⟨k177, o176⟩
       replace hp138 := hp138.other o176 hVP.symm
       replace k148 := k148.other o176 n144.symm
       replace k164 := k164.other o176 n171.symm
       clear hV
       replace hw128 := hw128.only o176 (.tail _ (.tail _ (.tail _ hVL)))
       replace hB := hB.both (.of_only o176 (.inr (.inl rfl)))
       replace hL := LL.only hL o176
       refine Ni (hK151 (Sq fun K178 hK178 => ?_))
       have hsW := hB.size
       refine WC.drawL (fun L_ W_ => H3 true W175 (W175.heap.size) (.slice none 0 0) [] (L_ 8) W_) 9 (rel3 true (W175.heap.size)) (sd3 true W175 V (W175.heap.size) at_ (.slice none 0 0) (encT t125) (([] : List (List Value)).take at_ ++ ([(encT t125)] ++ ([] : List (List Value)).drop at_))) [[], [], [1], [2], [3], [], [], [6], [4, 5, 7]] (by kernel_rfl) (by kernel_rfl) (by kernel_rfl) (by kernel_rfl) (by kernel_rfl) (by kernel_rfl) (by kernel_rfl) (begin3 (fun h => by cases h)) mono3 ?_ ?_
       ·
        refine ⟨fun L_ Wd hl hn hG => ?_, ?_⟩
        ·
         replace hG : H3 true W175 (W175.heap.size) (.slice none 0 0) [] (L_ 8) Wd := hG
         exact DV.dr (dx_move rfl rfl) ⟨rel_o3 (by decide) (Below.refl _ _), hG, rfl⟩
        refine ⟨fun L_ Wd hl hn hG => ?_, ?_⟩
        ·
         replace hG : H3 true W175 (W175.heap.size) (.slice none 0 0) [] (L_ 8) Wd := hG
         exact DV.dr (dx_move rfl rfl) ⟨rel_o3 (by decide) (Below.refl _ _), hG, rfl⟩
        refine ⟨fun L_ Wd hl hn hG => ?_, ?_⟩
        ·
         replace hG : H3 true W175 (W175.heap.size) (.slice none 0 0) [] (L_ 8) Wd := hG
         exact DV.dr (dx_nilCheck rfl rfl) ⟨rel_o3 (by decide) (Below.refl _ _), hG, rfl⟩
        refine ⟨fun L_ Wd hl hn hG => ?_, ?_⟩
        ·
         replace hG : H3 true W175 (W175.heap.size) (.slice none 0 0) [] (L_ 8) Wd := hG
         exact DV.dr (dx_fld (o1 := 4) rfl ty_fld_26_4_4 rfl rfl) ⟨rel_o3 (by decide) (Below.refl _ _), hG, rfl⟩
        refine ⟨fun L_ Wd hl hn hG => ?_, ?_⟩
        ·
         replace hG : H3 true W175 (W175.heap.size) (.slice none 0 0) [] (L_ 8) Wd := hG
         exact DV.dr (dx_load rfl ty_one_24 rfl ((k177.chg hG.1 (Nat.ne_of_lt k177.lt)).cell (k := 4) rfl)) ⟨rel_o3 (by decide) (Below.refl _ _), hG, rfl⟩
        refine ⟨fun L_ Wd hl hn hG => ?_, ?_⟩
        ·
         replace hG : H3 true W175 (W175.heap.size) (.slice none 0 0) [] (L_ 8) Wd := hG
         exact DV.dr (dx_move rfl rfl) ⟨rel_o3 (by decide) (Below.refl _ _), hG, rfl⟩
        refine ⟨fun L_ Wd hl hn hG => ?_, ?_⟩
        ·
         replace hG : H3 true W175 (W175.heap.size) (.slice none 0 0) [] (L_ 8) Wd := hG
         exact DV.dr (dx_loadN (cs := (encT t125)) rfl ty_agg_26_5 rfl ((k148.chg hG.1 (Nat.ne_of_lt k148.lt)).range) rfl) ⟨rel_o3 (by decide) (Below.refl _ _), hG, rfl⟩
        refine ⟨fun L_ Wd hl hn hG => ?_, ?_⟩
        ·
         replace hG : H3 true W175 (W175.heap.size) (.slice none 0 0) [] (L_ 8) Wd := hG
         have h8_ := hn 8 (by decide)
         refine (dx_lit1 (r := (encT t125)) rfl ty_ap_24 (by decide) (by decide) rfl rfl rfl).mono ?_
         rintro u W_ ⟨k1_, k2_, k3_⟩
         exact ⟨rel_o3 (by decide) k2_, lit3 hG k2_, ⟨Wd.heap.size, (fun h => by cases h), hG.1.size, k1_⟩⟩
        refine ⟨fun L_ Wd hl hn hG => ?_, ?_⟩
        ·
         intro u7 q7
         replace hG : H3 true W175 (W175.heap.size) (.slice none 0 0) [] (L_ 8) Wd := hG
         obtain ⟨C7, c1_, c2_, c3_⟩ := q7
         refine (dx_cv rfl Try.func51 rfl rfl rfl (insNV_v [(encT t125)] C7 _ Wd _ (by omega) c3_ (by simp) (by simp))).mono ?_
         rintro u W_ ⟨⟨B_, g0_, k1_⟩, gc_⟩
         exact ⟨(by unfold rel3; rw [if_pos rfl]; exact gc_), (show H3 true W175 (W175.heap.size) (.slice none 0 0) [] true W_ from ⟨hG.1.thenB gc_, fun h => by cases h⟩), ⟨B_, .inr (Nat.le_trans hG.1.size g0_), (by simpa using k1_)⟩⟩
        exact trivial
       ·
        intro We hGe
        obtain ⟨hc, -⟩ := (show H3 true W175 (W175.heap.size) (.slice none 0 0) [] true We from hGe)
        intro u7 q7 u8 q8
        obtain ⟨B179, g182, k180⟩ := q8
        clear q7
        have g181 := hc.toBelow (Nat.le_refl _)
        replace g182 : W175.heap.size ≤ B179 := by rcases g182 with h_ | h_; cases h_.1; exact h_
        rw [show (([] : List (List Value)).take at_ ++ ([(encT t125)] ++ ([] : List (List Value)).drop at_)) = ((insA at_ t125 ([] : List Tr)).map encT) from (insA_map encT at_ t125 []).symm] at k180
        have n185 : V ≠ B179 := Nat.ne_of_lt (Nat.lt_of_lt_of_le k177.lt g182)
        have n188 : B163 ≠ B179 := Nat.ne_of_lt (Nat.lt_of_lt_of_le k164.lt g182)
        have l189 := Nat.le_trans hB.size g182
        replace hw128 := hw128.more g181 g182
        replace hp138 := hp138.below g181
        replace k177 := k177.below g181
        replace k164 := k164.below g181
        replace hB := hB.both (.of_below (g181.mono (Nat.le_trans hbw hB.size)))
        replace hL := LL.cons (LL.below hL g181) k180.lt
        refine Va (dx_nilCheck rfl rfl) rfl rfl (Va (dx_fld (o1 := 4) rfl ty_fld_26_4_4 rfl rfl) rfl rfl ?_)
        refine WL.do (dx_store (cs' := [.int .i64 6, .int .i64 0, .string ⟨#[]⟩, x161, u8]) (vs := [u8]) rfl ty_size_24_1 rfl rfl (oc_one k180.one) (oc_cons k180.one oc_nil) k177 rfl (Nat.le_of_ble_eq_true rfl) rfl) rfl ?_
        rintro _ W190 ⟨k192, o191⟩
        replace hp138 := hp138.other o191 hVP.symm
        replace k164 := k164.other o191 n171.symm
        replace k180 := k180.other o191 n185.symm
        clear k177
        replace hw128 := hw128.only o191 (.tail _ (.tail _ (.tail _ (.tail _ hVL))))
        replace hB := hB.both (.of_only o191 (.inr (.inl rfl)))
        refine Ni (hK178 (Sq fun K193 hK193 => (Rg (Pu rfl (Ni (hK193 ?_))))))
        exact WC.ret fun a_ ha_ => hQ (cx_ret1 rfl (.tmp rfl) (.inl ⟨k123, (insA at_ nm54 ([] : List ByteArray), insA at_ t125.er ([] : List Js)), rfl, (pairS_n (take_of (by rcases Nat.lt_or_ge ka s.size with h_ | h_; exact h_; (have := hc23 h_; omega)) (by have h_ : ka < s.size := (by rcases Nat.lt_or_ge ka s.size with h_ | h_; exact h_; (have := hc23 h_; omega)); have := hc22 h_; omega)) hw45 hnm).trans (by apply pairN_k (a := at_) <;> first | assumption | omega), by omega, by omega, (by show (insA at_ nm54 ([] : List ByteArray)).length ≤ _; rw [insA_len (by omega)]; first | omega | (simp at hlka ⊢; omega)), ⟨x161, u8, insA at_ t125 [], insA_map _ _ _ _, (by rw [hat]; exact rises_ins hris (by rw [← hat]; assumption)), (by show (insA at_ nm54 ([] : List ByteArray)).length = _; rw [insA_len (by omega), insA_len (by first | omega | (simp at hatl ⊢; omega))]; first | omega | rfl), k192, hI0, .inr ⟨B163, B179, n188, by omega, by omega, k164, k180, (fun c hc_ => by rcases mem_insA.1 hc_ with rfl | h_; exact hw128.less (fun x hx => by simp only [List.mem_cons] at hx ⊢; rcases hx with h_ | h_ | h_ <;> simp [h_]); cases h_)⟩⟩, hp138⟩) hB ha_)
      ·
       replace hV := hV.chg g136 hVP
       replace hB := hB.chg g136 (Nat.le_trans hbw hB.size)
       refine Pu rfl (Pu rfl (Pu rfl ?_))
       refine Ge (dx_alloc rfl ty_zero_26 rfl) rfl rfl ?_
       rintro _ W194 ⟨rfl, k195, b196, z197⟩
       have n198 : P ≠ W137.heap.size := Nat.ne_of_lt hp138.lt
       have n199 : V ≠ W137.heap.size := Nat.ne_of_lt hV.lt
       have l200 := hB.size
       replace hp138 := hp138.below b196
       replace hV := hV.below b196
       replace hB := hB.both (.of_below (b196.mono (Nat.le_trans hbw hB.size)))
       refine WL.do (dx_store (cs' := zV) (vs := zV) rfl ty_size_26_5 rfl rfl rfl (oc_cons rfl (oc_cons rfl (oc_cons rfl (oc_cons rfl (oc_cons rfl oc_nil))))) k195 rfl (Nat.le_of_ble_eq_true rfl) rfl) rfl ?_
       rintro _ W201 ⟨k203, o202⟩
       replace hp138 := hp138.other o202 n198
       replace hV := hV.other o202 n199
       clear k195
       replace hB := hB.both (.of_only o202 (.inr (.inr (Nat.le_trans hbw l200))))
       refine Pu rfl (Ni (hK109 (Sq fun K204 hK204 => (Sq fun K205 hK205 => (Rg (Pu rfl (Va (dv_NT (dx_neq rfl rfl rfl) hw131) rfl rfl ?_)))))))
       refine Ni (hK205 (WC.condT rfl (Sq fun K206 hK206 => (Rg (Pu rfl (Pu rfl (Ni ?_)))))))
       refine hK206 ?_
       exact WC.ret fun a_ ha_ => hQ (cx_ret1 rfl (.tmp rfl) (.inr ⟨k124, e126, rfl, hw131, (pairS_n (take_of (by rcases Nat.lt_or_ge ka s.size with h_ | h_; exact h_; (have := hc23 h_; omega)) (by have h_ : ka < s.size := (by rcases Nat.lt_or_ge ka s.size with h_ | h_; exact h_; (have := hc23 h_; omega)); have := hc22 h_; omega)) hw45 hnm).trans (by apply pairN_e (a := at_) <;> first | assumption | omega), by omega, (fiveO hV rfl rfl), hp138⟩) hB ha_)
   ·
    replace hV := hV.chg g55 hVP
    replace hB := hB.chg g55 (Nat.le_trans hbw hB.size)
    refine Pu rfl (Pu rfl (Pu rfl (Pu rfl (Pu rfl (Ni (hK28 (Sq fun K207 hK207 => ?_)))))))
    refine Sq fun K208 hK208 => (Rg (Pu rfl (Va (dx_neq rfl rfl rfl) rfl rfl (Ni (hK208 (WC.condT rfl (Sq fun K209 hK209 => ?_)))))))
    refine Rg (Pu rfl (Pu rfl (Ni (hK209 ?_))))
    exact WC.ret fun a_ ha_ => hQ (cx_ret1 rfl (.tmp rfl) (.inr ⟨k43, 2, rfl, by decide, pairS_q (take_of (by rcases Nat.lt_or_ge ka s.size with h_ | h_; exact h_; (have := hc23 h_; omega)) (by have h_ : ka < s.size := (by rcases Nat.lt_or_ge ka s.size with h_ | h_; exact h_; (have := hc23 h_; omega)); have := hc22 h_; omega)) hw50, by omega, (fiveO hV rfl rfl), hp57⟩) hB ha_)
 have hBnP : Bn ≠ P := by have := hLb P hPL; omega
 have hBnV : Bn ≠ V := by have := hLb V hVL; omega
 have hBiP : Bi ≠ P := by have := hLb P hPL; omega
 have hBiV : Bi ≠ V := by have := hLb V hVL; omega
 replace hL := LL.cons (LL.cons hL hOi.lt) hOn.lt
 refine cx_enter (N := 76) (f := [(0, .pointer (some ⟨P, 0, none⟩)), (1, .pointer (some ⟨V, 0, none⟩))]) Try.func91 rfl rfl rfl rfl fun Q hQ hE_ => ?_
 have hB := ChgV.refl b P V w
 refine Sq fun K1 hK1 => (Rg (Pu rfl (Ni (hK1 (Sq fun K2 hK2 => (Sq fun K3 hK3 => (Rg ?_)))))))
 refine Pu rfl (Va (dx_nilCheck rfl rfl) rfl rfl (Va (dx_fld (o1 := 0) rfl ty_fld_55_0_0 rfl rfl) rfl rfl ?_))
 refine Ge (dx_cv rfl Try.func59 rfl rfl rfl (peek_c s P ka dp w _ hL (.tail _ (.tail _ hPL)) hs (by omega) hp)) rfl rfl ?_
 rintro _ W25 ⟨⟨c19, rfl, hc20, hc21, hc22, hc23⟩, b24⟩
 replace hts := hts.below b24
 replace hp := hp.below b24
 replace hV := hV.below b24
 replace hOn := hOn.below b24
 replace hOi := hOi.below b24
 replace hB := hB.both (.of_below (b24.mono (Nat.le_trans hbw hB.size)))
 replace hL := LL.below hL b24
 refine Va (dx_neq rfl rfl rfl) rfl rfl (Ni (hK3 ?_))
 refine WC.cond rfl (fun c26 => ?_) (fun c26 => ?_)
 ·
  replace c26 := bnot_t c26
  replace c26 := dF c26
  refine Sq fun K27 hK27 => (Rg (Pu rfl (Ni (hK27 ?_))))
  exact WC.ret fun a_ ha_ => hQ (cx_ret1 rfl (.tmp rfl) (.inr ⟨ka, 2, rfl, by decide, pairS_0 (take_nc hc22 (by assumption)), by omega, (fiveO hV hOn.one hOi.one), hp⟩) hB ha_)
 ·
  replace c26 := bnot_f c26
  replace c26 := dT c26
  refine WC.skip (hK2 (Sq fun K28 hK28 => (Rg (Pu rfl ?_))))
  refine Ge (dx_cw rfl Try.func62 rfl rfl rfl (quoted_v s P ka dp W25 _ hL (.tail _ (.tail _ hPL)) hs (by omega) hp (take_of (by rcases Nat.lt_or_ge ka s.size with h_ | h_; exact h_; (have := hc23 h_; omega)) (by have h_ : ka < s.size := (by rcases Nat.lt_or_ge ka s.size with h_ | h_; exact h_; (have := hc23 h_; omega)); have := hc22 h_; omega)))) rfl rfl ?_
  rintro _ W56 ⟨(⟨k42, l44, rfl, hw45, hw46, hw47, hw48, hw49, hp57⟩ | ⟨k43, rfl, hw50, hw51, hp57⟩), g55⟩
  ·
   replace hts := hts.chgL g55 (.tail _ (.tail _ hPL))
   replace hV := hV.chg g55 hVP
   replace hOn := hOn.chgL g55 hBnP
   replace hOi := hOi.chgL g55 hBiP
   replace hB := hB.chg g55 (Nat.le_trans hbw hB.size)
   replace hL := hL.chg g55
   obtain ⟨nm54, hnm⟩ : ∃ x, x = strOfNums l44 := ⟨_, rfl⟩
   rw [← hnm]
   refine Pu rfl (Pu rfl (Pu rfl (Pu rfl (Pu rfl (Ni (hK28 (Sq fun K58 hK58 => ?_)))))))
   refine Sq fun K59 hK59 => (Rg (Pu rfl (Va (dx_neq rfl rfl rfl) rfl rfl (Ni (hK59 (WC.condF rfl (WC.skip ?_)))))))
   refine hK58 (Sq fun K60 hK60 => (Rg (Pu rfl (Va (dx_nilCheck rfl rfl) rfl rfl (Va (dx_fld (o1 := 3) rfl ty_fld_26_3_3 rfl rfl) rfl rfl (Va (dx_load rfl ty_one_23 rfl (hV.cell (k := 3) rfl)) rfl rfl (Pu rfl ?_)))))))
   refine Ge (dx_cv rfl Try.func49 rfl rfl rfl (bsearchA_v ns nm54 _ W56 [] (LL.nil _) (hOn.rd (L := []) (by simp)) hris (by first | omega | simp))) rfl rfl ?_
   rintro _ W62 ⟨⟨at_, hat, hatl, rfl⟩, b61⟩
   replace hts := hts.below b61
   replace hp57 := hp57.below b61
   replace hV := hV.below b61
   replace hOn := hOn.below b61
   replace hOi := hOi.below b61
   replace hB := hB.both (.of_below (b61.mono (Nat.le_trans hbw hB.size)))
   replace hL := LL.below hL b61
   refine Pu rfl (Pu rfl (Pu rfl (Pu rfl (Pu rfl (Ni (hK60 (Sq fun K63 hK63 => ?_)))))))
   refine Sq fun K64 hK64 => (Rg (Pu rfl (Ni (hK64 ?_))))
   refine WC.cond rfl (fun c65 => ?_) (fun c65 => ?_)
   ·
    replace c65 := dT c65
    refine Sq fun K66 hK66 => (Rg (Pu rfl (Ni (hK66 ?_))))
    exact WC.ret fun a_ ha_ => hQ (cx_ret1 rfl (.tmp rfl) (.inr ⟨k42, 6, rfl, by decide, (pairS_n (take_of (by rcases Nat.lt_or_ge ka s.size with h_ | h_; exact h_; (have := hc23 h_; omega)) (by have h_ : ka < s.size := (by rcases Nat.lt_or_ge ka s.size with h_ | h_; exact h_; (have := hc23 h_; omega)); have := hc22 h_; omega)) hw45 hnm).trans (pairN_t hat (by assumption)), by omega, (fiveO hV hOn.one hOi.one), hp57⟩) hB ha_)
   ·
    replace c65 := dF c65
    refine WC.skip (hK63 (Sq fun K67 hK67 => (Rg (Pu rfl (Va (dx_nilCheck rfl rfl) rfl rfl (Va (dx_fld (o1 := 0) rfl ty_fld_55_0_0 rfl rfl) rfl rfl ?_))))))
    refine Ge (dx_cw rfl Try.func33 rfl rfl rfl (blanks_v s P k42 dp W62 _ hL (.tail _ (.tail _ hPL)) hs (by omega) hp57)) rfl rfl ?_
    rintro _ W78 ⟨hp79, g77⟩
    replace hts := hts.chgL g77 (.tail _ (.tail _ hPL))
    replace hV := hV.chg g77 hVP
    replace hOn := hOn.chgL g77 hBnP
    replace hOi := hOi.chgL g77 hBiP
    replace hB := hB.chg g77 (Nat.le_trans hbw hB.size)
    replace hL := hL.chg g77
    obtain ⟨k74, hk75⟩ : ∃ k, k = blankS s k42 := ⟨_, rfl⟩
    rw [← hk75] at hp79
    have hk76 := blankS_le (s := s) (k := k42) (by omega)
    rw [← hk75] at hk76
    refine Ni (hK67 (Sq fun K80 hK80 => (Sq fun K81 hK81 => (Rg (Pu rfl (Va (dx_nilCheck rfl rfl) rfl rfl (Va (dx_fld (o1 := 0) rfl ty_fld_55_0_0 rfl rfl) rfl rfl ?_)))))))
    refine Ge (dx_cw rfl Try.func58 rfl rfl rfl (take_v 58 s P k74 dp W78 _ hL (.tail _ (.tail _ hPL)) hs (by omega) hp79)) rfl rfl ?_
    rintro _ W92 ⟨⟨k88, rfl, hk89, hk90, hp93⟩, g91⟩
    replace hts := hts.chgL g91 (.tail _ (.tail _ hPL))
    replace hV := hV.chg g91 hVP
    replace hOn := hOn.chgL g91 hBnP
    replace hOi := hOi.chgL g91 hBiP
    replace hB := hB.chg g91 (Nat.le_trans hbw hB.size)
    replace hL := hL.chg g91
    cases hT94 : takeS s k74 58 with
    | false =>
     rw [hT94] at hk89
     replace hk89 : k74 = k88 := Eq.symm hk89
     subst hk89
     refine Va (dx_not rfl rfl) rfl rfl (Ni (hK81 (WC.condT rfl (Sq fun K95 hK95 => (Rg (Pu rfl (Ni ?_)))))))
     refine hK95 ?_
     exact WC.ret fun a_ ha_ => hQ (cx_ret1 rfl (.tmp rfl) (.inr ⟨k74, 2, rfl, by decide, (pairS_n (take_of (by rcases Nat.lt_or_ge ka s.size with h_ | h_; exact h_; (have := hc23 h_; omega)) (by have h_ : ka < s.size := (by rcases Nat.lt_or_ge ka s.size with h_ | h_; exact h_; (have := hc23 h_; omega)); have := hc22 h_; omega)) hw45 hnm).trans (by apply pairN_c (a := at_) <;> first | assumption | omega), by omega, (fiveO hV hOn.one hOi.one), hp93⟩) hB ha_)
    | true =>
     rw [hT94] at hk89
     have hthT94 := take_t hT94
     replace hk89 : k88 = k74 + 1 := hk89
     refine Va (dx_not rfl rfl) rfl rfl (Ni (hK81 (WC.condF rfl (WC.skip (hK80 (Sq fun K96 hK96 => (Rg ?_)))))))
     refine Pu rfl (Va (dx_nilCheck rfl rfl) rfl rfl (Va (dx_fld (o1 := 0) rfl ty_fld_55_0_0 rfl rfl) rfl rfl ?_))
     refine Ge (dx_cw rfl Try.func33 rfl rfl rfl (blanks_v s P k88 dp W92 _ hL (.tail _ (.tail _ hPL)) hs (by omega) hp93)) rfl rfl ?_
     rintro _ W107 ⟨hp108, g106⟩
     replace hts := hts.chgL g106 (.tail _ (.tail _ hPL))
     replace hV := hV.chg g106 hVP
     replace hOn := hOn.chgL g106 hBnP
     replace hOi := hOi.chgL g106 hBiP
     replace hB := hB.chg g106 (Nat.le_trans hbw hB.size)
     replace hL := hL.chg g106
     obtain ⟨k103, hk104⟩ : ∃ k, k = blankS s k88 := ⟨_, rfl⟩
     rw [← hk104] at hp108
     have hk105 := blankS_le (s := s) (k := k88) (by omega)
     rw [← hk104] at hk105
     refine Ni (hK96 (Sq fun K109 hK109 => (Rg (Pu rfl ?_))))
     refine Ge (dx_cw rfl Try.func34 rfl rfl rfl (hv P k103 W107 _ hL (.tail _ (.tail _ hPL)) (by omega) hp108)) rfl rfl ?_
     rintro _ W137 ⟨(⟨k123, t125, rfl, hw127, hw128, hw129, hw130, hp138⟩ | ⟨k124, e126, rfl, hw131, hw132, hw133, hp138⟩), g136⟩
     ·
      replace hts := hts.chgL g136 (.tail _ (.tail _ hPL))
      replace hV := hV.chg g136 hVP
      replace hOn := hOn.chgL g136 hBnP
      replace hOi := hOi.chgL g136 hBiP
      replace hB := hB.chg g136 (Nat.le_trans hbw hB.size)
      refine Pu rfl (Pu rfl (Pu rfl ?_))
      refine Ge (dx_alloc rfl ty_zero_26 rfl) rfl rfl ?_
      rintro _ W139 ⟨rfl, k140, b141, z142⟩
      have n143 : P ≠ W137.heap.size := Nat.ne_of_lt hp138.lt
      have n144 : V ≠ W137.heap.size := Nat.ne_of_lt hV.lt
      have n145 : Bn ≠ W137.heap.size := Nat.ne_of_lt hOn.lt
      have n146 : Bi ≠ W137.heap.size := Nat.ne_of_lt hOi.lt
      have l147 := hB.size
      replace hts := hts.more b141 (Nat.le_refl _)
      replace hw128 := hw128.more b141 (Nat.le_refl _)
      replace hp138 := hp138.below b141
      replace hV := hV.below b141
      replace hOn := hOn.below b141
      replace hOi := hOi.below b141
      replace hB := hB.both (.of_below (b141.mono (Nat.le_trans hbw hB.size)))
      refine WL.do (dx_store (cs' := [.int .i64 t125.kind, .int .i64 t125.num, .string t125.text, t125.nv, t125.iv]) (vs := [.int .i64 t125.kind, .int .i64 t125.num, .string t125.text, t125.nv, t125.iv]) rfl ty_size_26_5 rfl rfl rfl (oc_cons rfl (oc_cons rfl (oc_cons rfl (oc_cons (hw128.1).one (oc_cons (hw128.2.1).one oc_nil))))) k140 rfl (Nat.le_of_ble_eq_true rfl) rfl) rfl ?_
      rintro _ W148 ⟨k150, o149⟩
      replace hp138 := hp138.other o149 n143
      replace hV := hV.other o149 n144
      replace hOn := hOn.other o149 n145
      replace hOi := hOi.other o149 n146
      clear k140
      replace hts := hts.only o149 (.head _)
      replace hw128 := hw128.only o149 (.head _)
      replace hB := hB.both (.of_only o149 (.inr (.inr (Nat.le_trans hbw l147))))
      refine Pu rfl (Ni (hK109 (Sq fun K151 hK151 => (Sq fun K152 hK152 => (Rg (Pu rfl (Va (dx_neq rfl rfl rfl) rfl rfl ?_)))))))
      refine Ni (hK152 (WC.condF rfl (WC.skip (hK151 (Sq fun K153 hK153 => (Rg (Pu rfl ?_)))))))
      refine Pu rfl (Va (dx_nilCheck rfl rfl) rfl rfl (Va (dx_fld (o1 := 3) rfl ty_fld_26_3_3 rfl rfl) rfl rfl (Va (dx_load rfl ty_one_23 rfl (hV.cell (k := 3) rfl)) rfl rfl (Pu rfl (Pu rfl ?_)))))
      refine Ge (dx_lit1 (r := [.string nm54]) rfl ty_ap_23 (by decide) (by decide) rfl rfl rfl) rfl rfl ?_
      rintro u158 W154 ⟨k155, b156, z157⟩
      have n161 : Bn ≠ W148.heap.size := Nat.ne_of_lt hOn.lt
      have l164 := hB.size
      replace hts := hts.more b156 (Nat.le_refl _)
      replace hw128 := hw128.more b156 (Nat.le_refl _)
      replace hp138 := hp138.below b156
      replace hV := hV.below b156
      replace hOn := hOn.below b156
      replace hOi := hOi.below b156
      replace k150 := k150.below b156
      replace hB := hB.both (.of_below (b156.mono (Nat.le_trans hbw hB.size)))
      refine Ge (dx_cw rfl Try.func50 rfl rfl rfl (insOT_v _ [eS nm54] at_ Bn W148.heap.size _ _ W154 hOn k155 n161.symm (by rw [List.length_map]; omega) (by simp) (by rw [List.length_map, List.length_singleton]; omega) (oc_eS ns) (fun r hr => by rw [List.mem_singleton.1 hr]; exact (oc_cons rfl oc_nil)))) rfl rfl ?_
      rintro x165 W166 ⟨⟨B167, k168, g169⟩, g170⟩
      have g171 := GrowB.of_chg g170 g169
      have n175 : V ≠ B167 := hV.grow_ne g171 hBnV.symm
      have n176 : Bi ≠ B167 := hOi.grow_ne g171 hni.symm
      have l173 : b ≤ B167 := g171.le hbn (Nat.le_trans hbw hB.size)
      replace hts := hts.grow' g171 (.tail _ (.tail _ (.head _)))
      replace hw128 := hw128.grow' g171 (.tail _ (.tail _ (.head _)))
      replace hp138 := hp138.grow g171 hBnP.symm
      replace hV := hV.grow g171 hBnV.symm
      replace hOi := hOi.grow g171 hni.symm
      replace k150 := k150.grow g171 n145.symm
      replace hB := hB.grow g171 hbn (Nat.le_trans hbw hB.size)
      rw [show (ns.map eS).take at_ ++ ([eS nm54] ++ (ns.map eS).drop at_) = ((insA at_ nm54 ns).map eS) from (insA_map _ at_ _ _).symm] at k168
      refine Va (dx_nilCheck rfl rfl) rfl rfl (Va (dx_fld (o1 := 3) rfl ty_fld_26_3_3 rfl rfl) rfl rfl ?_)
      refine WL.do (dx_store (cs' := [.int .i64 6, .int .i64 0, .string ⟨#[]⟩, x165, iv]) (vs := [x165]) rfl ty_size_23_1 rfl rfl (oc_one k168.one) (oc_cons k168.one oc_nil) hV rfl (Nat.le_of_ble_eq_true rfl) rfl) rfl ?_
      rintro _ W179 ⟨k181, o180⟩
      replace hp138 := hp138.other o180 hVP.symm
      replace hOi := hOi.other o180 hBiV
      replace k150 := k150.other o180 n144.symm
      replace k168 := k168.other o180 n175.symm
      clear hV
      replace hts := hts.only o180 (.tail _ (.tail _ (.tail _ (.tail _ (.tail _ hVL)))))
      replace hw128 := hw128.only o180 (.tail _ (.tail _ (.tail _ (.tail _ (.tail _ hVL)))))
      replace hB := hB.both (.of_only o180 (.inr (.inl rfl)))
      refine Ni (hK153 (Sq fun K182 hK182 => ?_))
      have hsW := hB.size
      refine WC.drawL (fun L_ W_ => H3 false W179 Bi (iv) (ts.map encT) (L_ 8) W_) 9 (rel3 false Bi) (sd3 false W179 V Bi at_ (iv) (encT t125) ((ts.map encT).take at_ ++ ([(encT t125)] ++ (ts.map encT).drop at_))) [[], [], [1], [2], [3], [], [], [6], [4, 5, 7]] (by kernel_rfl) (by kernel_rfl) (by kernel_rfl) (by kernel_rfl) (by kernel_rfl) (by kernel_rfl) (by kernel_rfl) (begin3 (fun _ => hOi)) mono3 ?_ ?_
      ·
       refine ⟨fun L_ Wd hl hn hG => ?_, ?_⟩
       ·
        replace hG : H3 false W179 Bi (iv) (ts.map encT) (L_ 8) Wd := hG
        exact DV.dr (dx_move rfl rfl) ⟨rel_o3 (by decide) (Below.refl _ _), hG, rfl⟩
       refine ⟨fun L_ Wd hl hn hG => ?_, ?_⟩
       ·
        replace hG : H3 false W179 Bi (iv) (ts.map encT) (L_ 8) Wd := hG
        exact DV.dr (dx_move rfl rfl) ⟨rel_o3 (by decide) (Below.refl _ _), hG, rfl⟩
       refine ⟨fun L_ Wd hl hn hG => ?_, ?_⟩
       ·
        replace hG : H3 false W179 Bi (iv) (ts.map encT) (L_ 8) Wd := hG
        exact DV.dr (dx_nilCheck rfl rfl) ⟨rel_o3 (by decide) (Below.refl _ _), hG, rfl⟩
       refine ⟨fun L_ Wd hl hn hG => ?_, ?_⟩
       ·
        replace hG : H3 false W179 Bi (iv) (ts.map encT) (L_ 8) Wd := hG
        exact DV.dr (dx_fld (o1 := 4) rfl ty_fld_26_4_4 rfl rfl) ⟨rel_o3 (by decide) (Below.refl _ _), hG, rfl⟩
       refine ⟨fun L_ Wd hl hn hG => ?_, ?_⟩
       ·
        replace hG : H3 false W179 Bi (iv) (ts.map encT) (L_ 8) Wd := hG
        exact DV.dr (dx_load rfl ty_one_24 rfl ((k181.chg hG.1 hBiV.symm).cell (k := 4) rfl)) ⟨rel_o3 (by decide) (Below.refl _ _), hG, rfl⟩
       refine ⟨fun L_ Wd hl hn hG => ?_, ?_⟩
       ·
        replace hG : H3 false W179 Bi (iv) (ts.map encT) (L_ 8) Wd := hG
        exact DV.dr (dx_move rfl rfl) ⟨rel_o3 (by decide) (Below.refl _ _), hG, rfl⟩
       refine ⟨fun L_ Wd hl hn hG => ?_, ?_⟩
       ·
        replace hG : H3 false W179 Bi (iv) (ts.map encT) (L_ 8) Wd := hG
        exact DV.dr (dx_loadN (cs := (encT t125)) rfl ty_agg_26_5 rfl ((k150.chg hG.1 n146.symm).range) rfl) ⟨rel_o3 (by decide) (Below.refl _ _), hG, rfl⟩
       refine ⟨fun L_ Wd hl hn hG => ?_, ?_⟩
       ·
        replace hG : H3 false W179 Bi (iv) (ts.map encT) (L_ 8) Wd := hG
        have h8_ := hn 8 (by decide)
        refine (dx_lit1 (r := (encT t125)) rfl ty_ap_24 (by decide) (by decide) rfl rfl rfl).mono ?_
        rintro u W_ ⟨k1_, k2_, k3_⟩
        exact ⟨rel_o3 (by decide) k2_, lit3 hG k2_, ⟨Wd.heap.size, (fun a_ => Nat.ne_of_gt (hG.2 a_ h8_).lt), hG.1.size, k1_⟩⟩
       refine ⟨fun L_ Wd hl hn hG => ?_, ?_⟩
       ·
        intro u7 q7
        replace hG : H3 false W179 Bi (iv) (ts.map encT) (L_ 8) Wd := hG
        obtain ⟨C7, c1_, c2_, c3_⟩ := q7
        refine (dx_cw rfl Try.func51 rfl rfl rfl (insOV_v _ [(encT t125)] at_ Bi C7 _ _ Wd (hG.2 rfl hl) c3_ (c1_ rfl) (by rw [List.length_map]; omega) (by simp) (by rw [List.length_map, List.length_singleton]; omega) (oc_items hts) (fun r hr => by rw [List.mem_singleton.1 hr]; exact hw128.oc))).mono ?_
        rintro u W_ ⟨⟨B_, k1_, g0_⟩, gc_⟩
        exact ⟨(by unfold rel3; rw [if_pos rfl]; exact gc_), (show H3 false W179 Bi (iv) (ts.map encT) true W_ from ⟨hG.1.both gc_, fun _ h => by cases h⟩), ⟨B_, (by have := hG.1.size; rcases g0_ with g0_ | g0_; exact .inl ⟨rfl, g0_⟩; exact .inr (by omega)), k1_⟩⟩
       exact trivial
      ·
       intro We hGe
       obtain ⟨hc, -⟩ := (show H3 false W179 Bi (iv) (ts.map encT) true We from hGe)
       intro u7 q7 u8 q8
       obtain ⟨B183, g186, k184⟩ := q8
       clear q7
       have g185 := GrowB.of_chg hc (by rcases g186 with h_ | h_; exact .inl h_.2; exact .inr h_)
       have n189 : V ≠ B183 := k181.grow_ne g185 hBiV.symm
       have n192 : B167 ≠ B183 := k168.grow_ne g185 n176.symm
       have l187 : b ≤ B183 := g185.le hbi (Nat.le_trans hbw hB.size)
       replace hts := hts.grow' g185 (.tail _ (.tail _ (.tail _ (.tail _ (.head _)))))
       replace hw128 := hw128.grow' g185 (.tail _ (.tail _ (.tail _ (.tail _ (.head _)))))
       replace hp138 := hp138.grow g185 hBiP.symm
       replace k181 := k181.grow g185 hBiV.symm
       replace k168 := k168.grow g185 n176.symm
       replace hB := hB.grow g185 hbi (Nat.le_trans hbw hB.size)
       rw [show ((ts.map encT).take at_ ++ ([(encT t125)] ++ (ts.map encT).drop at_)) = ((insA at_ t125 ts).map encT) from (insA_map encT at_ t125 ts).symm] at k184
       refine Va (dx_nilCheck rfl rfl) rfl rfl (Va (dx_fld (o1 := 4) rfl ty_fld_26_4_4 rfl rfl) rfl rfl ?_)
       refine WL.do (dx_store (cs' := [.int .i64 6, .int .i64 0, .string ⟨#[]⟩, x165, u8]) (vs := [u8]) rfl ty_size_24_1 rfl rfl (oc_one k184.one) (oc_cons k184.one oc_nil) k181 rfl (Nat.le_of_ble_eq_true rfl) rfl) rfl ?_
       rintro _ W193 ⟨k195, o194⟩
       replace hp138 := hp138.other o194 hVP.symm
       replace k168 := k168.other o194 n175.symm
       replace k184 := k184.other o194 n189.symm
       clear k181
       replace hts := hts.only o194 (.tail _ (.tail _ (.tail _ (.tail _ (.tail _ (.tail _ hVL))))))
       replace hw128 := hw128.only o194 (.tail _ (.tail _ (.tail _ (.tail _ (.tail _ (.tail _ hVL))))))
       replace hB := hB.both (.of_only o194 (.inr (.inl rfl)))
       refine Ni (hK182 (Sq fun K196 hK196 => (Rg (Pu rfl (Ni (hK196 ?_))))))
       exact WC.ret fun a_ ha_ => hQ (cx_ret1 rfl (.tmp rfl) (.inl ⟨k123, (insA at_ nm54 ns, insA at_ t125.er (ts.map Tr.er)), rfl, (pairS_n (take_of (by rcases Nat.lt_or_ge ka s.size with h_ | h_; exact h_; (have := hc23 h_; omega)) (by have h_ : ka < s.size := (by rcases Nat.lt_or_ge ka s.size with h_ | h_; exact h_; (have := hc23 h_; omega)); have := hc22 h_; omega)) hw45 hnm).trans (by apply pairN_k (a := at_) <;> first | assumption | omega), by omega, by omega, (by show (insA at_ nm54 ns).length ≤ _; rw [insA_len (by omega)]; first | omega | (simp at hlka ⊢; omega)), ⟨x165, u8, insA at_ t125 ts, insA_map _ _ _ _, (by rw [hat]; exact rises_ins hris (by rw [← hat]; assumption)), (by show (insA at_ nm54 ns).length = _; rw [insA_len (by omega), insA_len (by first | omega | (simp at hatl ⊢; omega))]; first | omega | rfl), k195, hI0, .inr ⟨B167, B183, n192, by omega, by omega, k168, k184, (fun c hc_ => by rcases mem_insA.1 hc_ with rfl | h_; exact hw128.less (fun x hx => by simp only [List.mem_cons] at hx ⊢; rcases hx with h_ | h_ | h_ <;> simp [h_]); exact (hts c h_).less (fun x hx => by simp only [List.mem_cons] at hx ⊢; rcases hx with h_ | h_ | h_ <;> simp [h_]))⟩⟩, hp138⟩) hB ha_)
     ·
      replace hV := hV.chg g136 hVP
      replace hOn := hOn.chgL g136 hBnP
      replace hOi := hOi.chgL g136 hBiP
      replace hB := hB.chg g136 (Nat.le_trans hbw hB.size)
      refine Pu rfl (Pu rfl (Pu rfl ?_))
      refine Ge (dx_alloc rfl ty_zero_26 rfl) rfl rfl ?_
      rintro _ W197 ⟨rfl, k198, b199, z200⟩
      have n201 : P ≠ W137.heap.size := Nat.ne_of_lt hp138.lt
      have n202 : V ≠ W137.heap.size := Nat.ne_of_lt hV.lt
      have n203 : Bn ≠ W137.heap.size := Nat.ne_of_lt hOn.lt
      have n204 : Bi ≠ W137.heap.size := Nat.ne_of_lt hOi.lt
      have l205 := hB.size
      replace hp138 := hp138.below b199
      replace hV := hV.below b199
      replace hOn := hOn.below b199
      replace hOi := hOi.below b199
      replace hB := hB.both (.of_below (b199.mono (Nat.le_trans hbw hB.size)))
      refine WL.do (dx_store (cs' := zV) (vs := zV) rfl ty_size_26_5 rfl rfl rfl (oc_cons rfl (oc_cons rfl (oc_cons rfl (oc_cons rfl (oc_cons rfl oc_nil))))) k198 rfl (Nat.le_of_ble_eq_true rfl) rfl) rfl ?_
      rintro _ W206 ⟨k208, o207⟩
      replace hp138 := hp138.other o207 n201
      replace hV := hV.other o207 n202
      replace hOn := hOn.other o207 n203
      replace hOi := hOi.other o207 n204
      clear k198
      replace hB := hB.both (.of_only o207 (.inr (.inr (Nat.le_trans hbw l205))))
      refine Pu rfl (Ni (hK109 (Sq fun K209 hK209 => (Sq fun K210 hK210 => (Rg (Pu rfl (Va (dv_NT (dx_neq rfl rfl rfl) hw131) rfl rfl ?_)))))))
      refine Ni (hK210 (WC.condT rfl (Sq fun K211 hK211 => (Rg (Pu rfl (Pu rfl (Ni ?_)))))))
      refine hK211 ?_
      exact WC.ret fun a_ ha_ => hQ (cx_ret1 rfl (.tmp rfl) (.inr ⟨k124, e126, rfl, hw131, (pairS_n (take_of (by rcases Nat.lt_or_ge ka s.size with h_ | h_; exact h_; (have := hc23 h_; omega)) (by have h_ : ka < s.size := (by rcases Nat.lt_or_ge ka s.size with h_ | h_; exact h_; (have := hc23 h_; omega)); have := hc22 h_; omega)) hw45 hnm).trans (by apply pairN_e (a := at_) <;> first | assumption | omega), by omega, (fiveO hV hOn.one hOi.one), hp138⟩) hB ha_)
  ·
   replace hV := hV.chg g55 hVP
   replace hOn := hOn.chgL g55 hBnP
   replace hOi := hOi.chgL g55 hBiP
   replace hB := hB.chg g55 (Nat.le_trans hbw hB.size)
   refine Pu rfl (Pu rfl (Pu rfl (Pu rfl (Pu rfl (Ni (hK28 (Sq fun K212 hK212 => ?_)))))))
   refine Sq fun K213 hK213 => (Rg (Pu rfl (Va (dx_neq rfl rfl rfl) rfl rfl (Ni (hK213 (WC.condT rfl (Sq fun K214 hK214 => ?_)))))))
   refine Rg (Pu rfl (Pu rfl (Ni (hK214 ?_))))
   exact WC.ret fun a_ ha_ => hQ (cx_ret1 rfl (.tmp rfl) (.inr ⟨k43, 2, rfl, by decide, pairS_q (take_of (by rcases Nat.lt_or_ge ka s.size with h_ | h_; exact h_; (have := hc23 h_; omega)) (by have h_ : ka < s.size := (by rcases Nat.lt_or_ge ka s.size with h_ | h_; exact h_; (have := hc23 h_; omega)); have := hc22 h_; omega)) hw50, by omega, (fiveO hV hOn.one hOi.one), hp57⟩) hB ha_)

theorem ob1_v (n : Nat) (vs : Nat → Except Int (Js × Nat)) (s : ByteArray) (dp : Nat) (hc : PairAt n vs s dp) : ObjAt n vs s dp := by
 intro b Bp V P L ka st w hL hPL hVL hBL hBP hVP hBV hLb hbw hk hp hI hlka
 obtain ⟨hBp, hI⟩ := hI
 refine cx_enter (N := 5) (f := [(0, .pointer (some ⟨Bp, 0, none⟩)), (1, .pointer (some ⟨V, 0, none⟩))]) Try.func90 rfl rfl rfl rfl fun Q hQ hE_ => ?_
 have hB := ChgV.refl b P V w
 refine WC.seq fun K1 hK1 => (WC.region (Pu rfl (WL.nil (hK1 (WC.seq fun K2 hK2 => (WC.region (WL.val (dx_load rfl ty_one_51 rfl (hBp.cell (k := 0) rfl)) rfl rfl ?_)))))))
 refine WL.get (dx_cx rfl Try.func91 rfl rfl rfl (hc b V P L ka st w hL hPL hVL hVP hLb (Nat.le_trans hbw hB.size) hk hp hI hlka)) rfl rfl ?_
 rintro _ W17 ⟨(⟨k3, st4, rfl, h7, h8, h9, h10, h11, hp18⟩ | ⟨k5, e6, rfl, h7, h8, h9, h10, hp18⟩), g16⟩
 ·
  replace hB := hB.both g16
  replace hBp := hBp.chgV g16 (hLb Bp hBL) hBP hBV
  refine Pu rfl (WL.nil (hK2 ?_))
  exact WC.ret fun a_ ha_ => hQ (cx_ret1 rfl (.tmp rfl) (.inl ⟨k3, st4, rfl, h7, h8, h9, h10, ⟨hBp, h11⟩, hp18⟩) hB ha_)
 ·
  replace hB := hB.both g16
  refine Pu rfl (WL.nil (hK2 ?_))
  exact WC.ret fun a_ ha_ => hQ (cx_ret1 rfl (.tmp rfl) (.inr ⟨k5, e6, rfl, h7, h8, h9, h10, hp18⟩) hB ha_)

set_option maxHeartbeats 1000000 in
theorem object_v (n : Nat) (vs : Nat → Except Int (Js × Nat)) (s : ByteArray) (P ka dp : Nat) (w : World) (L : List Nat) (hL : LL L w) (hPL : P ∈ L) (hs : s.size ≤ 1000000) (hk : ka ≤ s.size) (hp : Blk w P (psC s ka dp))  (hq : takeS s ka 123 = true) (hc : ObjAt n vs s dp) : CW Try.prog 65 [.pointer (some ⟨P, 0, none⟩)] w P fun v W => (∃ k' t, v = .tuple #[.agg #[.int .i64 t.kind, .int .i64 t.num, .string t.text, t.nv, t.iv], .int .i64 0] ∧ objS s vs ka = .ok (t.er, k') ∧ RdT (n + 1) L W t ∧ ka < k' ∧ k' ≤ s.size ∧ Blk W P (psC s k' dp)) ∨ (∃ k' e cs, v = .tuple #[.agg (List.toArray cs), .int .i64 e] ∧ e ≠ 0 ∧ cs.length = 5 ∧ (∀ u ∈ cs, u.oneCell' = true) ∧ objS s vs ka = .error e ∧ k' ≤ s.size ∧ Blk W P (psC s k' dp)) := by
 refine cw_enter (N := 12) (f := [(0, .pointer (some ⟨P, 0, none⟩))]) Try.func65 rfl rfl rfl rfl fun Q hQ hE => ?_
 have hB := Chg.refl P w
 have hL0 := hL
 refine Sq fun K1 hK1 => (Rg ?_)
 refine Ge (dx_box (cs := [.pointer (some ⟨P, 0, none⟩)]) rfl rfl rfl) rfl rfl ?_
 rintro _ W2 ⟨rfl, k3, b4, z5⟩
 have n6 : P ≠ w.heap.size := Nat.ne_of_lt hp.lt
 have l7 := hB.size
 replace hp := hp.below b4
 replace hB := Chg.thenB hB b4
 replace hL := LL.more hL z5
 refine Ge (dx_alloc rfl ty_zero_26 rfl) rfl rfl ?_
 rintro _ W8 ⟨rfl, k9, b10, z11⟩
 have n12 : P ≠ W2.heap.size := Nat.ne_of_lt hp.lt
 have l14 := hB.size
 replace hp := hp.below b10
 replace k3 := k3.below b10
 replace hB := Chg.thenB hB b10
 replace hL := LL.more hL z11
 refine Pu rfl (Ni (hK1 (Sq fun K15 hK15 => (Rg (Va (dx_build rfl rfl (built_of_O (cs := [.int .i64 6, .int .i64 0, .string ⟨#[]⟩, .slice none 0 0, .slice none 0 0]) (by kernel_rfl) (oc_cons rfl oc_nil))) rfl rfl ?_)))))
 refine Ge (dx_alloc rfl ty_zero_26 rfl) rfl rfl ?_
 rintro _ W16 ⟨rfl, k17, b18, z19⟩
 have n20 : P ≠ W8.heap.size := Nat.ne_of_lt hp.lt
 have n21 : w.heap.size ≠ W8.heap.size := Nat.ne_of_lt k3.lt
 have n22 : W2.heap.size ≠ W8.heap.size := Nat.ne_of_lt k9.lt
 have l23 := hB.size
 replace hp := hp.below b18
 replace k3 := k3.below b18
 replace k9 := k9.below b18
 replace hB := Chg.thenB hB b18
 replace hL := LL.more hL z19
 refine WL.do (dx_store (cs' := [.int .i64 6, .int .i64 0, .string ⟨#[]⟩, .slice none 0 0, .slice none 0 0]) (vs := [.int .i64 6, .int .i64 0, .string ⟨#[]⟩, .slice none 0 0, .slice none 0 0]) rfl ty_size_26_5 rfl rfl rfl (oc_cons rfl (oc_cons rfl (oc_cons rfl (oc_cons rfl (oc_cons rfl oc_nil))))) k17 rfl (Nat.le_of_ble_eq_true rfl) rfl) rfl ?_
 rintro _ W24 ⟨k26, o25⟩
 replace hp := hp.other o25 n20
 replace k3 := k3.other o25 n21
 replace k9 := k9.other o25 n22
 clear k17
 replace hB := Chg.only hB o25 (.inr l23)
 replace hL := LL.only hL o25
 refine Ni (hK15 (Sq fun K27 hK27 => (Rg (Va (dx_load rfl ty_one_51 rfl (k3.cell (k := 0) rfl)) rfl rfl (Va (dx_func rfl rfl rfl) rfl rfl ?_)))))
 refine Ge (dx_cx rfl Try.func88 rfl rfl rfl (members_v (ObjI n W24.heap.size (w.heap.size) (W8.heap.size) P (W8.heap.size :: W2.heap.size :: w.heap.size :: L)) (FiveE (W8.heap.size)) (pairS s vs) 123 125 _ W24.heap.size (W8.heap.size) ([], []) (fun st => st.1.length) s P ka dp W24 _ hL (.tail _ (.tail _ (.tail _ hPL))) hs (by omega) hp (Nat.le_refl _) objI_five ⟨objI_chg n6.symm n20.symm (.tail _ (.tail _ (.tail _ hPL))), ⟨k3, _, _, [], rfl, List.Pairwise.nil, rfl, k26, hL, .inl ⟨rfl, rfl, rfl, rfl⟩⟩⟩ (Nat.zero_le _) hq (fun W_ L_ k_ st_ h1_ h2_ h3_ h4_ h5_ h6_ h7_ => ⟨90, #[], #[.pointer (some ⟨w.heap.size, 0, none⟩), .pointer (some ⟨W8.heap.size, 0, none⟩)], _, rfl, Try.func90, rfl, rfl, hc W24.heap.size (w.heap.size) (W8.heap.size) P (W8.heap.size :: W2.heap.size :: w.heap.size :: L) k_ st_ W_ (fun x hx => Nat.lt_of_lt_of_le (hL x hx) h3_) (.tail _ (.tail _ (.tail _ hPL))) (.head _) (.tail _ (.tail _ (.head _))) n6.symm n20.symm n21 hL h3_ h4_ h5_ h6_ h7_⟩))) rfl rfl ?_
 rintro _ W53 ⟨(⟨k28, st29, rfl, hm35, hm36, hm37, ⟨hBp50, nv32, iv33, ts34, hm38, hm45, hm46, hV49, hm39⟩, hp54⟩ | ⟨k30, e31, rfl, hm40, hm41, hm42, ⟨cs51, hm43, hm44, hV49⟩, hp54⟩), g52⟩
 ·
  replace hB := ChgV.toChg hB g52 hB.size l23
  replace k9 := k9.chgV g52 k9.lt n12.symm n22
  refine Pu rfl (Ni (hK27 (Sq fun K55 hK55 => (Rg (Va (dx_loadN rfl ty_agg_26_5 rfl hV49.range rfl) rfl rfl (Pu rfl ?_))))))
  refine WL.do (dx_store (cs' := [.int .i64 6, .int .i64 0, .string ⟨#[]⟩, nv32, iv33]) (vs := [.int .i64 6, .int .i64 0, .string ⟨#[]⟩, nv32, iv33]) rfl ty_size_26_5 rfl rfl rfl (oc_cons rfl (oc_cons rfl (oc_cons rfl (oc_cons hm39.one.1 (oc_cons hm39.one.2 oc_nil))))) k9 rfl (Nat.le_of_ble_eq_true rfl) rfl) rfl ?_
  rintro _ W56 ⟨k58, o57⟩
  replace hp54 := hp54.other o57 n12
  clear k9
  replace hm39 := hm39.only o57 (.tail _ (.head _))
  replace hB := Chg.only hB o57 (.inr l14)
  refine Pu rfl (Ni (hK55 ?_))
  exact WC.ret fun a_ ha_ => hQ (cw_ret2 rfl (.agg rfl ty_agg_26_5 k58.range rfl) (.tmp rfl) (.inl ⟨k28, .mk 6 0 ⟨#[]⟩ nv32 st29.1 iv33 ts34, rfl, (by unfold objS; rw [hm35, Tr.er_mk, hm38]), hm39.tree (fun x hx => (.tail _ (.tail _ (.tail _ hx)))) 6 0 ⟨#[]⟩, by omega, by omega, hp54⟩) hB ha_)
 ·
  replace hB := ChgV.toChg hB g52 hB.size l23
  replace k9 := k9.chgV g52 k9.lt n12.symm n22
  refine Pu rfl (Ni (hK27 (Sq fun K59 hK59 => (Rg (Va (dx_loadN (cs := cs51) rfl ty_agg_26_5 rfl hV49.range hm43) rfl rfl (Pu rfl ?_))))))
  refine WL.do (dx_storeW (vs := cs51) rfl ty_size_26_5 rfl rfl rfl hm44 k9 hm43 rfl) rfl ?_
  rintro _ W60 ⟨k62, o61⟩
  replace hp54 := hp54.other o61 n12
  clear k9
  replace hB := Chg.only hB o61 (.inr l14)
  refine Pu rfl (Ni (hK59 ?_))
  exact WC.ret fun a_ ha_ => hQ (cw_ret2 rfl (.agg rfl ty_agg_26_5 k62.range hm43) (.tmp rfl) (.inr ⟨k30, e31, cs51, rfl, hm40, hm43, hm44, (by unfold objS; rw [hm41]), by omega, hp54⟩) hB ha_)

def valD (s : ByteArray) : Nat → Nat → Except Int (Js × Nat)
 | 0 => fun k => valB s 12 (.error 4) (.error 4) k
 | m + 1 => fun k => valB s (12 - (m + 1)) (listS s (valD s m) k) (objS s (valD s m) k) k
theorem val_at (s : ByteArray) (hs : s.size ≤ 1000000) : ∀ m dp, m ≤ 12 → dp + m = 12 → ValAt (m + 1) (valD s m) s dp
 | 0, dp, _, hd => fun P ka w L hL hPL hk hp => by
  obtain rfl : dp = 12 := by omega
  exact value_v 0 (.error 4) (.error 4) s P ka 12 w L hL hPL hs hk hp (Nat.le_refl _) (fun h => absurd rfl h) (fun h => absurd rfl h)
 | m + 1, dp, hm, hd => fun P ka w L hL hPL hk hp => by
  have ih := val_at s hs m (dp + 1) (by omega) (by omega)
  have e : dp = 12 - (m + 1) := by omega
  show CW _ _ _ _ _ fun v W => (∃ k' t, v = .tuple #[.agg #[.int .i64 t.kind, .int .i64 t.num, .string t.text, t.nv, t.iv], .int .i64 0] ∧ valB s (12 - (m + 1)) (listS s (valD s m) ka) (objS s (valD s m) ka) ka = .ok (t.er, k') ∧ RdT (m + 1 + 1) L W t ∧ ka < k' ∧ k' ≤ s.size ∧ Blk W P (psC s k' dp)) ∨ (∃ k' e, v = .tuple #[.agg #[.int .i64 0, .int .i64 0, .string ⟨#[]⟩, .slice none 0 0, .slice none 0 0], .int .i64 e] ∧ e ≠ 0 ∧ valB s (12 - (m + 1)) (listS s (valD s m) ka) (objS s (valD s m) ka) ka = .error e ∧ k' ≤ s.size ∧ Blk W P (psC s k' dp))
  rw [← e]
  exact value_v (m + 1) (listS s (valD s m) ka) (objS s (valD s m) ka) s P ka dp w L hL hPL hs hk hp (by omega)
   (fun _ hq W L' h1 h2 d hd' h4 => by subst hd'; exact list_v (m + 1) (valD s m) s P ka (dp + 1) W L' h1 h2 hs hk h4 hq (one_v m (valD s m) s (dp + 1) hs ih))
   (fun _ hq W L' h1 h2 d hd' h4 => by subst hd'; exact object_v (m + 1) (valD s m) s P ka (dp + 1) W L' h1 h2 hs hk h4 hq (ob1_v (m + 1) (valD s m) s (dp + 1) (pair_v m (valD s m) s (dp + 1) hs ih)))
def parJ (s : ByteArray) : Except Int Js := parS s (valD s 12)
theorem jParse_v (s : ByteArray) (w : World) (L : List Nat) (hL : LL L w) : CV Try.prog 12 [.string s] w fun v W => (∃ t, v = .tuple #[.agg #[.int .i64 t.kind, .int .i64 t.num, .string t.text, t.nv, t.iv], .int .i64 0] ∧ parJ s = .ok t.er ∧ RdT 13 L W t) ∨ (∃ e, v = .tuple #[.agg #[.int .i64 0, .int .i64 0, .string ⟨#[]⟩, .slice none 0 0, .slice none 0 0], .int .i64 e] ∧ e ≠ 0 ∧ parJ s = .error e) :=
 parse_v 12 (valD s 12) s w L hL (fun h dq hd => by subst hd; exact val_at s (by omega) 12 0 (by omega) rfl)
theorem encI1 {r : Int} (h : r < 128) : encI r = [r] := by rw [encI, if_pos h]
theorem encI2 {r : Int} (h0 : 128 ≤ r) (h : r < 2048) : encI r = [192 + r / 64, 128 + r % 64] := by rw [encI, if_neg (by omega), if_pos h]
theorem encI3 {r : Int} (h0 : 2048 ≤ r) (h : r < 65536) : encI r = [224 + r / 4096, 128 + r / 64 % 64, 128 + r % 64] := by rw [encI, if_neg (by omega), if_neg (by omega), if_pos h]
theorem encI4 {r : Int} (h0 : 65536 ≤ r) : encI r = [240 + r / 262144, 128 + r / 4096 % 64, 128 + r / 64 % 64, 128 + r % 64] := by rw [encI, if_neg (by omega), if_neg (by omega), if_neg (by omega)]
theorem some_eq {r r' : Int} {n n' : Nat} (h : r = r') (k : n = n') : (some (r, n) : Option (Int × Nat)) = some (r', n') := by rw [h, k]

theorem fst_enc (r : Int) (t : List Int) (h : isRuneB r = true) : fstS (encI r ++ t) = some (r, (encI r).length) := by
  have hr : 0 ≤ r ∧ r ≤ 1114111 ∧ (r < 55296 ∨ 57343 < r) := by simp [isRuneB] at h; omega
  by_cases a : r < 128
  · rw [encI1 a, fst1_yes (by simpa [at0_cons_zero] using a) (by simp)]
    exact some_eq rfl rfl
  by_cases b : r < 2048
  · rw [encI2 (by omega) b]
    simp only [List.cons_append, List.nil_append]
    rw [fst2_yes (by simp only [at0_cons_zero]; omega) (by simp) (by simp only [at0_cons_succ, at0_cons_zero]; omega) (by simp only [at0_cons_succ, at0_cons_zero]; omega)]
    exact some_eq (by simp only [at0_cons_succ, at0_cons_zero]; omega) rfl
  by_cases c : r < 65536
  · rw [encI3 (by omega) c]
    simp only [List.cons_append, List.nil_append]
    have e1 : ∀ x y z : Int, at0 (x :: y :: z :: t) 1 = y := fun _ _ _ => rfl
    have e2 : ∀ x y z : Int, at0 (x :: y :: z :: t) 2 = z := fun _ _ _ => rfl
    rw [fst3_yes (by simp only [at0_cons_zero]; omega) (by simp) (by simp only [e1, e2]; omega) (by simp only [e1, e2, at0_cons_zero]; omega)]
    exact some_eq (by simp only [e1, e2, at0_cons_zero]; omega) rfl
  · rw [encI4 (by omega)]
    simp only [List.cons_append, List.nil_append]
    have e1 : ∀ x y z u : Int, at0 (x :: y :: z :: u :: t) 1 = y := fun _ _ _ _ => rfl
    have e2 : ∀ x y z u : Int, at0 (x :: y :: z :: u :: t) 2 = z := fun _ _ _ _ => rfl
    have e3 : ∀ x y z u : Int, at0 (x :: y :: z :: u :: t) 3 = u := fun _ _ _ _ => rfl
    rw [fst4_yes (by simp only [at0_cons_zero]; omega) (by simp) (by simp only [e1, e2, e3]; omega) (by simp only [e1, e2, e3, at0_cons_zero]; omega)]
    exact some_eq (by simp only [e1, e2, e3, at0_cons_zero]; omega) rfl

theorem take_at (l : List Int) : ∀ n, n ≤ l.length → l.take n = (List.range n).map (at0 l) := by
  intro n hn
  apply List.ext_getElem
  · simp; omega
  · intro i h1 h2
    simp at h1 h2
    simp [at0, show i < l.length by omega]

theorem okS_some {x : Int} {k : Nat} {r : Int} {n : Nat} (h : okS x k = some (r, n)) : x = r ∧ k = n ∧ isRuneB r = true ∧ widthI r = n := by
  unfold okS at h
  split at h
  · rename_i hq
    simp only [Option.some.injEq, Prod.mk.injEq] at h
    obtain ⟨rfl, rfl⟩ := h
    simp only [Bool.and_eq_true, beq_iff_eq] at hq
    exact ⟨rfl, rfl, hq⟩
  · cases h

theorem fst_dec {l : List Int} {r : Int} {n : Nat} (hb : Bytes l) (h : fstS l = some (r, n)) : isRuneB r = true ∧ l.take n = encI r := by
  have z := (hb.at 0).1
  have hn := fstS_bounds h
  rw [take_at l n hn.2.2.1]
  unfold fstS at h
  split at h
  · cases h
  split at h
  · simp only [Option.some.injEq, Prod.mk.injEq] at h
    obtain ⟨rfl, rfl⟩ := h
    exact ⟨isRune_yes (by omega), by rw [encI1 (by omega)]; rfl⟩
  split at h
  · cases h
  split at h
  · split at h
    · rename_i hq
      obtain ⟨h1, h2, h3, h4⟩ := okS_some h
      subst h2
      simp [contB] at hq
      have : 128 ≤ r ∧ r < 2048 := by unfold widthI at h4; omega
      refine ⟨h3, ?_⟩
      rw [encI2 (by omega) (by omega)]
      simp only [List.range, List.range.loop, List.map]
      congr 1
      · omega
      · congr 1
        omega
    · cases h
  split at h
  · split at h
    · rename_i hq
      obtain ⟨h1, h2, h3, h4⟩ := okS_some h
      subst h2
      simp [contB] at hq
      have : 2048 ≤ r ∧ r < 65536 := by unfold widthI at h4; omega
      refine ⟨h3, ?_⟩
      rw [encI3 (by omega) (by omega)]
      simp only [List.range, List.range.loop, List.map]
      congr 1
      · omega
      · congr 1
        · omega
        · congr 1
          omega
    · cases h
  split at h
  · split at h
    · rename_i hq
      obtain ⟨h1, h2, h3, h4⟩ := okS_some h
      subst h2
      simp [contB] at hq
      have : 65536 ≤ r := by unfold widthI at h4; omega
      refine ⟨h3, ?_⟩
      rw [encI4 (by omega)]
      simp only [List.range, List.range.loop, List.map]
      congr 1
      · omega
      · congr 1
        · omega
        · congr 1
          · omega
          · congr 1
            omega
    · cases h
  · cases h

theorem dec_enc : ∀ (l bs : List Int), encS l = some bs → decS bs = some l := by
  intro l
  induction l with
  | nil => intro bs h; cases h; exact decS_nil
  | cons r t ih =>
    intro bs h
    simp only [encS] at h
    split at h
    · rename_i hr
      cases ht : encS t with
      | none => rw [ht] at h; cases h
      | some ts =>
        rw [ht] at h
        cases h
        have hl := encI_len r
        rw [decS_some (by intro e; have := congrArg List.length e; simp at this; simp [this] at hl) (fst_enc r ts hr), List.drop_left, ih ts ht]
        rfl
    · cases h

theorem enc_dec (n : Nat) : ∀ (bs l : List Int), bs.length ≤ n → Bytes bs → decS bs = some l → encS l = some bs := by
  induction n with
  | zero =>
    intro bs l hn hb h
    obtain rfl : bs = [] := List.eq_nil_of_length_eq_zero (by omega)
    rw [decS_nil] at h
    cases h
    rfl
  | succ n ih =>
    intro bs l hn hb h
    by_cases he : bs = []
    · subst he
      rw [decS_nil] at h
      cases h
      rfl
    · rcases hf : fstS bs with _ | ⟨r, k⟩
      · rw [decS_none he hf] at h; cases h
      · rw [decS_some he hf] at h
        have hk := fstS_bounds hf
        obtain ⟨hr, ht⟩ := fst_dec hb hf
        cases hd : decS (bs.drop k) with
        | none => rw [hd] at h; cases h
        | some m =>
          rw [hd] at h
          cases h
          have := ih (bs.drop k) m (by simp; omega) (hb.drop k) hd
          simp only [encS, hr, if_true, this, Option.map_some]
          rw [← ht, List.take_append_drop]

theorem refDec_v (s : ByteArray) (sv : Value) (w : World) (L : List Nat) (hL : LL L w) (h1 : RdF 1 L w sv ((sb s).map e8)) (hs : s.size ≤ 1000000) : CV Try.prog 66 [sv] w fun v _ => ∃ u, v = .tuple #[u, .int .i64 (if upB s = true then 0 else 2)] := by
 refine Calls.mono (ref_decode_any sv (sb s) w (rdI_of h1) (sb_bytes _) (by rw [sb_length]; omega)) fun e w' h => ?_
 obtain ⟨u, c, he, hb, h⟩ := h
 refine ⟨_, he, ⟨u, ?_⟩, hb⟩
 unfold upB
 rcases h with ⟨rs, hd, hc, _⟩ | ⟨hd, hc, _⟩ <;> rw [hd, hc] <;> rfl
set_option maxHeartbeats 1000000 in
theorem refUp_v (s : ByteArray) (sv : Value) (w : World) (L : List Nat) (hL : LL L w) (h1 : RdF 1 L w sv ((sb s).map e8))  (hs : s.size ≤ 1000000) : CV Try.prog 36 [sv] w fun v W => v = .bool (upB s) := by
 refine cv_enter (N := 12) (f := [(0, sv)]) Try.func36 rfl rfl rfl rfl fun Q hQ hE => ?_
 have hB := Below.refl w.heap.size w
 refine WC.seq fun K1 hK1 => (WC.region (Pu rfl (WL.nil (hK1 (WC.seq fun K2 hK2 => (WC.region (Pu rfl ?_)))))))
 refine WL.get (dx_cv rfl Try.func66 rfl rfl rfl (refDec_v s _ w _ hL h1 hs)) rfl rfl ?_
 rintro _ W4 ⟨⟨du, rfl⟩, b3⟩
 replace hB := below_then hB b3
 refine Pu rfl (Pu rfl (Pu rfl (Pu rfl (Pu rfl (WL.nil (hK2 (WC.seq fun K5 hK5 => ?_)))))))
 refine WC.region (Pu rfl (WL.val (dx_eql rfl rfl rfl) rfl rfl (Pu rfl (WL.nil (hK5 ?_)))))
 exact WC.ret fun a_ ha_ => hQ (cv_ret1 rfl (.tmp rfl) (by cases upB s <;> simp) hB ha_)

theorem idxX_ge {α : Type} {p : α → Bool} : ∀ (xs : List α) (i : Nat), idxX p (xs.drop i) i = -1 ∨ (i : Int) ≤ idxX p (xs.drop i) i := fun xs i => by
  have h := idxX_lt (p := p) (xs.drop i) i
  rcases Int.lt_or_le (idxX p (xs.drop i) i) 0 with h1 | h1
  · left
    omega
  · right
    obtain ⟨k, a, e, _⟩ := idxX_is (p := p) (xs.drop i) i (by omega) h1
    omega
set_option maxHeartbeats 1000000 in
theorem rGet_v (n : Nat) (t : Tr) (name : ByteArray) (w : World) (L : List Nat) (hL : LL L w) (ht : RdT (n + 1) L w t) : CV Try.prog 18 [.agg #[.int .i64 t.kind, .int .i64 t.num, .string t.text, t.nv, t.iv], .string name] w fun v W => v = .tuple #[.agg (encT (getT t name).1).toArray, .bool (getT t name).2] := by
 refine cv_enter (N := 39) (f := [(0, .agg #[.int .i64 t.kind, .int .i64 t.num, .string t.text, t.nv, t.iv]), (1, .string name)]) Try.func18 rfl rfl rfl rfl fun Q hQ hE => ?_
 have hB := Below.refl w.heap.size w
 refine Sq fun K1 hK1 => ?_
 obtain ⟨hnt, hit, hct⟩ := ht
 replace hct : RdTs n (L) w t.items := hct
 have hil0 := hit.len
 rw [List.length_map] at hil0
 unfold maxLen at hil0
 refine Rg ?_
 refine Ge (dx_box rfl rfl rfl) rfl rfl ?_
 rintro _ W2 ⟨rfl, k3, b4, z5⟩
 have l6 := hB.size
 replace hnt := hnt.more b4 (Nat.le_refl _)
 replace hit := hit.more b4 (Nat.le_refl _)
 replace hct := hct.more b4 (Nat.le_refl _)
 replace hB := below_then hB b4
 replace hL := LL.more hL z5
 refine Ge (dx_alloc rfl ty_zero_26 rfl) rfl rfl ?_
 rintro _ W7 ⟨rfl, k8, b9, z10⟩
 have l12 := hB.size
 replace hnt := hnt.more b9 (Nat.le_refl _)
 replace hit := hit.more b9 (Nat.le_refl _)
 replace hct := hct.more b9 (Nat.le_refl _)
 replace k3 := k3.below b9
 replace hB := below_then hB b9
 replace hL := LL.more hL z10
 refine Pu rfl (Ni (hK1 (Sq fun K13 hK13 => (Sq fun K14 hK14 => (Rg (Pu rfl (Ni ?_)))))))
 refine hK14 (WC.block ?_)
 refine WC.loop (fun (i : Nat) => [(1, .string name), (2, .pointer (some ⟨w.heap.size, 0, none⟩)), (4, .pointer (some ⟨W2.heap.size, 0, none⟩)), (6, .int .i64 (i : Int))]) (fun (i : Nat) W => i ≤ t.names.length ∧ idxX (fun x => decide (name = x)) t.names 0 = idxX (fun x => decide (name = x)) (t.names.drop i) i ∧ Below w.heap.size w W ∧ LL (W2.heap.size :: w.heap.size :: L) W ∧ RdF 1 (W2.heap.size :: w.heap.size :: L) W t.nv (t.names.map eS) ∧ RdF 5 (W2.heap.size :: w.heap.size :: L) W t.iv (t.items.map encT) ∧ RdTs n (W2.heap.size :: w.heap.size :: L) W t.items ∧ Blk W w.heap.size [.int .i64 t.kind, .int .i64 t.num, .string t.text, t.nv, t.iv] ∧ Blk W W2.heap.size [.int .i64 0, .int .i64 0, .string ⟨#[]⟩, .slice none 0 0, .slice none 0 0]) (fun (i : Nat) => t.names.length - i) 0 (by repeat first | exact trivial | exact And.intro rfl trivial | refine And.intro rfl ?_ | refine And.intro (congrArg (fun z : Int => some (Value.int .i64 z)) (by omega)) ?_) ⟨Nat.zero_le _, rfl, hB, hL, hnt, hit, hct, k3, k8⟩ ?_
 clear hnt hit hct k3 k8 hB hL
 rintro K15 i W16 ⟨hi, hv, hB, hL, hnt, hit, hct, k3, k8⟩ hK15
 refine Sq fun K17 hK17 => (Sq fun K18 hK18 => (Rg (Pu rfl (Va (dx_fld (o1 := 3) rfl ty_fld_26_3_3 rfl rfl) rfl rfl (Va (dx_load rfl ty_one_23 rfl (k3.cell (k := 3) rfl)) rfl rfl (Va (dx_lenFM rfl ty_slice_23 rfl hnt) rfl rfl (Va (dx_lss rfl rfl rfl) rfl rfl ?_)))))))
 refine Pu rfl ?_
 refine WL.split 12 rfl (fun g19 => ?_) (fun g19 => ?_)
 ·
  replace g19 := dT g19
  refine Pu rfl (Va (dx_fld (o1 := 4) rfl ty_fld_26_4_4 rfl rfl) rfl rfl (Va (dx_load rfl ty_one_24 rfl (k3.cell (k := 4) rfl)) rfl rfl (Va (dx_lenFM rfl ty_slice_24 rfl hit) rfl rfl (Va (dx_lss rfl rfl rfl) rfl rfl (Pu rfl (Pu rfl ?_))))))
  refine WL.split 19 rfl (fun g20 => ?_) (fun g20 => ?_)
  ·
   replace g20 := dT g20
   refine Va (dx_fld (o1 := 0) rfl ty_fld_26_0_0 rfl rfl) rfl rfl (Va (dx_load rfl ty_one_3 rfl (k3.cell (k := 0) rfl)) rfl rfl (Va (dx_eql rfl rfl rfl) rfl rfl (Pu rfl (Ni (hK18 ?_)))))
   refine WC.cond rfl (fun c21 => ?_) (fun c21 => ?_)
   ·
    replace c21 := dT c21
    refine WC.skip (hK17 (Sq fun K22 hK22 => (WC.block (Sq fun K23 hK23 => (Rg (Va (dx_fld (o1 := 3) rfl ty_fld_26_3_3 rfl rfl) rfl rfl (Va (dx_load rfl ty_one_23 rfl (k3.cell (k := 3) rfl)) rfl rfl ?_)))))))
    refine Pu rfl ?_
    obtain ⟨r24, e25⟩ : ∃ x, t.names[i]? = some x := ⟨_, List.getElem?_eq_getElem (by omega)⟩
    refine Ge (dx_idxF i rfl ty_slice_23 rfl rfl hnt (by omega) (at_mapX e25)) rfl rfl ?_
    rintro u26 _ ⟨rfl, p27⟩
    refine Va (dx_loadP rfl ty_one_9 rfl p27) rfl rfl (Pu rfl (Va (dx_eqlT rfl rfl rfl) rfl rfl (Ni (hK23 ?_))))
    refine WC.cond rfl (fun c28 => ?_) (fun c28 => ?_)
    ·
     replace c28 := dT c28
     refine Sq fun K29 hK29 => ?_
     obtain ⟨r30, e31⟩ : ∃ x, t.items[i]? = some x := ⟨_, List.getElem?_eq_getElem (by omega)⟩
     have hrr := hct r30 (List.mem_of_getElem? e31)
     refine Rg (Va (dx_fld (o1 := 4) rfl ty_fld_26_4_4 rfl rfl) rfl rfl (Va (dx_load rfl ty_one_24 rfl (k3.cell (k := 4) rfl)) rfl rfl (Pu rfl ?_)))
     refine Ge (dx_idxF i rfl ty_slice_24 rfl rfl hit (by omega) (at_mapX e31)) rfl rfl ?_
     rintro u32 _ ⟨rfl, p33⟩
     refine Va (dx_loadPN rfl ty_agg_26_5 rfl p33 rfl) rfl rfl ?_
     refine WL.do (dx_storeW (vs := encT r30) rfl ty_size_26_5 rfl rfl rfl hrr.oc k8 rfl rfl) rfl ?_
     rintro _ W34 ⟨k36, o35⟩
     clear k8
     replace hB := o35.below hB l12
     refine Pu rfl (Ni (hK29 ?_))
     exact WC.ret fun a_ ha_ => hQ (cv_ret2 rfl (.agg rfl ty_agg_26_5 k36.range rfl) (.tmp rfl) (by have hk0 : idxX (fun x => decide (name = x)) t.names 0 = (i : Int) := (by rw [hv]; exact idxX_here e25 (decide_eq_true (by first | (exact Eq.symm (by assumption)) | simp_all))); have e : getT t name = (r30, true) := (by unfold getT; rw [if_pos ⟨by assumption, by omega, by omega⟩, hk0, Int.toNat_natCast, e31]; rfl); rw [e] <;> rfl) hB ha_)
    ·
     replace c28 := dF c28
     refine WC.skip (hK22 (Rg (Pu rfl (Va (dx_add (r := (i : Int) + 1) rfl rfl rfl (wrap64_id (by omega))) rfl rfl (Pu rfl (Ni ?_))))))
     exact hK15 (i + 1) ⟨(by omega), (by rw [hv]; exact idxX_step e25 (decide_eq_false (fun e => by first | (exact absurd e.symm (by assumption)) | simp_all))), hB, hL, hnt, hit, hct, k3, k8⟩ (by omega) (by repeat first | exact trivial | exact And.intro rfl trivial | refine And.intro rfl ?_ | refine And.intro (congrArg (fun z : Int => some (Value.int .i64 z)) (by omega)) ?_)
   ·
    replace c21 := dF c21
    refine WC.exit ?_
    refine hK13 (Sq fun K37 hK37 => (Rg (Va (dx_build rfl rfl (built_of_O (cs := zV) (by kernel_rfl) oc_nil)) rfl rfl ?_)))
    refine WL.do (dx_store (cs' := zV) (vs := zV) rfl ty_size_26_5 rfl rfl rfl (oc_cons rfl (oc_cons rfl (oc_cons rfl (oc_cons rfl (oc_cons rfl oc_nil))))) k8 rfl (Nat.le_of_ble_eq_true rfl) rfl) rfl ?_
    rintro _ W38 ⟨k40, o39⟩
    clear k8
    replace hB := o39.below hB l12
    refine Pu rfl (Ni (hK37 ?_))
    exact WC.ret fun a_ ha_ => hQ (cv_ret2 rfl (.agg rfl ty_agg_26_5 k40.range rfl) (.tmp rfl) (by have e : getT t name = (noT, false) := (by unfold getT; rw [if_neg (by rintro ⟨q1, q2, q3⟩; have hge := idxX_ge (p := fun x => decide (name = x)) t.names i; rw [← hv] at hge; have hlt := idxX_lt (p := fun x => decide (name = x)) t.names 0; first | omega | (simp_all; done) | (simp_all <;> omega))]); rw [e] <;> rfl) hB ha_)
  ·
   replace g20 := dF g20
   refine Of rfl (Of rfl (Of rfl (Pu rfl (Ni (hK18 (WC.condF rfl ?_))))))
   refine WC.exit ?_
   refine hK13 (Sq fun K41 hK41 => (Rg (Va (dx_build rfl rfl (built_of_O (cs := zV) (by kernel_rfl) oc_nil)) rfl rfl ?_)))
   refine WL.do (dx_store (cs' := zV) (vs := zV) rfl ty_size_26_5 rfl rfl rfl (oc_cons rfl (oc_cons rfl (oc_cons rfl (oc_cons rfl (oc_cons rfl oc_nil))))) k8 rfl (Nat.le_of_ble_eq_true rfl) rfl) rfl ?_
   rintro _ W42 ⟨k44, o43⟩
   clear k8
   replace hB := o43.below hB l12
   refine Pu rfl (Ni (hK41 ?_))
   exact WC.ret fun a_ ha_ => hQ (cv_ret2 rfl (.agg rfl ty_agg_26_5 k44.range rfl) (.tmp rfl) (by have e : getT t name = (noT, false) := (by unfold getT; rw [if_neg (by rintro ⟨q1, q2, q3⟩; have hge := idxX_ge (p := fun x => decide (name = x)) t.names i; rw [← hv] at hge; have hlt := idxX_lt (p := fun x => decide (name = x)) t.names 0; first | omega | (simp_all; done) | (simp_all <;> omega))]); rw [e] <;> rfl) hB ha_)
 ·
  replace g19 := dF g19
  refine Of rfl (Of rfl (Of rfl (Of rfl (Of rfl (Pu rfl (Pu rfl (Of rfl ?_)))))))
  refine Of rfl (Of rfl (Pu rfl (Ni (hK18 (WC.condF rfl ?_)))))
  refine WC.exit ?_
  refine hK13 (Sq fun K45 hK45 => (Rg (Va (dx_build rfl rfl (built_of_O (cs := zV) (by kernel_rfl) oc_nil)) rfl rfl ?_)))
  refine WL.do (dx_store (cs' := zV) (vs := zV) rfl ty_size_26_5 rfl rfl rfl (oc_cons rfl (oc_cons rfl (oc_cons rfl (oc_cons rfl (oc_cons rfl oc_nil))))) k8 rfl (Nat.le_of_ble_eq_true rfl) rfl) rfl ?_
  rintro _ W46 ⟨k48, o47⟩
  clear k8
  replace hB := o47.below hB l12
  refine Pu rfl (Ni (hK45 ?_))
  exact WC.ret fun a_ ha_ => hQ (cv_ret2 rfl (.agg rfl ty_agg_26_5 k48.range rfl) (.tmp rfl) (by have e : getT t name = (noT, false) := (by unfold getT; rw [if_neg (by rintro ⟨q1, q2, q3⟩; have hge := idxX_ge (p := fun x => decide (name = x)) t.names i; rw [← hv] at hge; have hlt := idxX_lt (p := fun x => decide (name = x)) t.names 0; first | omega | (simp_all; done) | (simp_all <;> omega))]); rw [e] <;> rfl) hB ha_)

abbrev RefSameAt (n : Nat) : Prop := ∀ (p q : Tr) (w : World) (L : List Nat), LL L w → RdT n L w p → RdT n L w q → CV Try.prog 39 [.agg #[.int .i64 p.kind, .int .i64 p.num, .string p.text, p.nv, p.iv], .agg #[.int .i64 q.kind, .int .i64 q.num, .string q.text, q.nv, q.iv]] w fun x W => x = .bool (eqJ p.er q.er)
set_option maxHeartbeats 2000000 in
theorem refSame_step (n : Nat) (ih : RefSameAt n) (p q : Tr) (w : World) (L : List Nat) (hL : LL L w) (htp : RdT (n + 1) L w p) (htq : RdT (n + 1) L w q) : CV Try.prog 39 [.agg #[.int .i64 p.kind, .int .i64 p.num, .string p.text, p.nv, p.iv], .agg #[.int .i64 q.kind, .int .i64 q.num, .string q.text, q.nv, q.iv]] w fun v W => v = .bool (eqJ p.er q.er) := by
 refine cv_enter (N := 81) (f := [(0, .agg #[.int .i64 p.kind, .int .i64 p.num, .string p.text, p.nv, p.iv]), (1, .agg #[.int .i64 q.kind, .int .i64 q.num, .string q.text, q.nv, q.iv])]) Try.func39 rfl rfl rfl rfl fun Q hQ hE => ?_
 have hB := Below.refl w.heap.size w
 refine Sq fun K1 hK1 => ?_
 obtain ⟨hnp, hip, hcp⟩ := htp
 replace hcp : RdTs n (L) w p.items := hcp
 obtain ⟨hnq, hiq, hcq⟩ := htq
 replace hcq : RdTs n (L) w q.items := hcq
 have hil0 := hip.len
 rw [List.length_map] at hil0
 have hnl0 := hnp.len
 rw [List.length_map] at hnl0
 unfold maxLen at hil0 hnl0
 refine Rg ?_
 refine Ge (dx_box rfl rfl rfl) rfl rfl ?_
 rintro _ W2 ⟨rfl, k3, b4, z5⟩
 have l6 := hB.size
 replace hnp := hnp.more b4 (Nat.le_refl _)
 replace hip := hip.more b4 (Nat.le_refl _)
 replace hcp := hcp.more b4 (Nat.le_refl _)
 replace hnq := hnq.more b4 (Nat.le_refl _)
 replace hiq := hiq.more b4 (Nat.le_refl _)
 replace hcq := hcq.more b4 (Nat.le_refl _)
 replace hB := below_then hB b4
 replace hL := LL.more hL z5
 refine Ge (dx_box rfl rfl rfl) rfl rfl ?_
 rintro _ W7 ⟨rfl, k8, b9, z10⟩
 have l12 := hB.size
 replace hnp := hnp.more b9 (Nat.le_refl _)
 replace hip := hip.more b9 (Nat.le_refl _)
 replace hcp := hcp.more b9 (Nat.le_refl _)
 replace hnq := hnq.more b9 (Nat.le_refl _)
 replace hiq := hiq.more b9 (Nat.le_refl _)
 replace hcq := hcq.more b9 (Nat.le_refl _)
 replace k3 := k3.below b9
 replace hB := below_then hB b9
 replace hL := LL.more hL z10
 refine Pu rfl (Ni (hK1 (Sq fun K13 hK13 => (Sq fun K14 hK14 => (Rg (Va (dx_fld (o1 := 0) rfl ty_fld_26_0_0 rfl rfl) rfl rfl (Va (dx_load rfl ty_one_3 rfl (k3.cell (k := 0) rfl)) rfl rfl ?_)))))))
 refine Va (dx_fld (o1 := 0) rfl ty_fld_26_0_0 rfl rfl) rfl rfl (Va (dx_load rfl ty_one_3 rfl (k8.cell (k := 0) rfl)) rfl rfl (Va (dx_neq rfl rfl rfl) rfl rfl (Pu rfl ?_)))
 refine WL.split 12 rfl (fun g15 => ?_) (fun g15 => ?_)
 ·
  replace g15 := bnot_t g15
  replace g15 := dF g15
  refine Of rfl (Of rfl (Of rfl (Of rfl (Of rfl (Pu rfl (Pu rfl (Of rfl ?_)))))))
  refine Of rfl (Of rfl (Of rfl (Of rfl (Pu rfl (Pu rfl (Of rfl (Of rfl ?_)))))))
  refine Of rfl (Of rfl (Of rfl (Of rfl (Of rfl (Pu rfl (Pu rfl (Of rfl ?_)))))))
  refine Of rfl (Of rfl (Of rfl (Of rfl (Of rfl (Of rfl (Pu rfl (Ni ?_)))))))
  refine hK14 (WC.condT rfl (Sq fun K16 hK16 => (Rg (Pu rfl (Ni (hK16 ?_))))))
  exact WC.ret fun a_ ha_ => hQ (cv_ret1 rfl (.tmp rfl) (by rw [eqJ_f (fun e => by obtain ⟨e1, e2, e3, e4, _⟩ := er_parts e; have e5 := er_len e; have e6 := congrArg List.length e4; first | contradiction | (exact absurd e3 (by assumption)) | omega)]) hB ha_)
 ·
  replace g15 := bnot_f g15
  replace g15 := dT g15
  refine Va (dx_fld (o1 := 1) rfl ty_fld_26_1_1 rfl rfl) rfl rfl (Va (dx_load rfl ty_one_3 rfl (k3.cell (k := 1) rfl)) rfl rfl (Va (dx_fld (o1 := 1) rfl ty_fld_26_1_1 rfl rfl) rfl rfl (Va (dx_load rfl ty_one_3 rfl (k8.cell (k := 1) rfl)) rfl rfl (Va (dx_neq rfl rfl rfl) rfl rfl (Pu rfl (Pu rfl ?_))))))
  refine WL.split 19 rfl (fun g17 => ?_) (fun g17 => ?_)
  ·
   replace g17 := bnot_t g17
   replace g17 := dF g17
   refine Of rfl (Of rfl (Of rfl (Of rfl (Of rfl (Pu rfl (Pu rfl (Of rfl ?_)))))))
   refine Of rfl (Of rfl (Of rfl (Of rfl (Of rfl (Of rfl (Pu rfl (Pu rfl ?_)))))))
   refine Of rfl (Of rfl (Of rfl (Of rfl (Of rfl (Of rfl (Of rfl (Pu rfl ?_)))))))
   refine Ni (hK14 (WC.condT rfl (Sq fun K18 hK18 => (Rg (Pu rfl (Ni (hK18 ?_)))))))
   exact WC.ret fun a_ ha_ => hQ (cv_ret1 rfl (.tmp rfl) (by rw [eqJ_f (fun e => by obtain ⟨e1, e2, e3, e4, _⟩ := er_parts e; have e5 := er_len e; have e6 := congrArg List.length e4; first | contradiction | (exact absurd e3 (by assumption)) | omega)]) hB ha_)
  ·
   replace g17 := bnot_f g17
   replace g17 := dT g17
   refine Va (dx_fld (o1 := 2) rfl ty_fld_26_2_2 rfl rfl) rfl rfl (Va (dx_load rfl ty_one_9 rfl (k3.cell (k := 2) rfl)) rfl rfl (Va (dx_fld (o1 := 2) rfl ty_fld_26_2_2 rfl rfl) rfl rfl (Va (dx_load rfl ty_one_9 rfl (k8.cell (k := 2) rfl)) rfl rfl (Va (dx_neqT rfl rfl rfl) rfl rfl (Pu rfl (Pu rfl ?_))))))
   refine WL.split 26 rfl (fun g19 => ?_) (fun g19 => ?_)
   ·
    replace g19 := bnot_t g19
    replace g19 := dF g19
    refine Of rfl (Of rfl (Of rfl (Of rfl (Of rfl (Of rfl (Of rfl (Pu rfl ?_)))))))
    refine Pu rfl (Of rfl (Of rfl (Of rfl (Of rfl (Of rfl (Of rfl (Of rfl ?_)))))))
    refine Pu rfl (Ni (hK14 (WC.condT rfl (Sq fun K20 hK20 => (Rg (Pu rfl (Ni ?_)))))))
    refine hK20 ?_
    exact WC.ret fun a_ ha_ => hQ (cv_ret1 rfl (.tmp rfl) (by rw [eqJ_f (fun e => by obtain ⟨e1, e2, e3, e4, _⟩ := er_parts e; have e5 := er_len e; have e6 := congrArg List.length e4; first | contradiction | (exact absurd e3 (by assumption)) | omega)]) hB ha_)
   ·
    replace g19 := bnot_f g19
    replace g19 := dT g19
    refine Va (dx_fld (o1 := 3) rfl ty_fld_26_3_3 rfl rfl) rfl rfl (Va (dx_load rfl ty_one_23 rfl (k3.cell (k := 3) rfl)) rfl rfl (Va (dx_lenFM rfl ty_slice_23 rfl hnp) rfl rfl (Va (dx_fld (o1 := 3) rfl ty_fld_26_3_3 rfl rfl) rfl rfl (Va (dx_load rfl ty_one_23 rfl (k8.cell (k := 3) rfl)) rfl rfl (Va (dx_lenFM rfl ty_slice_23 rfl hnq) rfl rfl (Va (dx_neq rfl rfl rfl) rfl rfl (Pu rfl ?_)))))))
    refine Pu rfl ?_
    refine WL.split 35 rfl (fun g21 => ?_) (fun g21 => ?_)
    ·
     replace g21 := bnot_t g21
     replace g21 := dF g21
     refine Of rfl (Of rfl (Of rfl (Of rfl (Of rfl (Of rfl (Of rfl (Pu rfl ?_)))))))
     refine Ni (hK14 (WC.condT rfl (Sq fun K22 hK22 => (Rg (Pu rfl (Ni (hK22 ?_)))))))
     exact WC.ret fun a_ ha_ => hQ (cv_ret1 rfl (.tmp rfl) (by rw [eqJ_f (fun e => by obtain ⟨e1, e2, e3, e4, _⟩ := er_parts e; have e5 := er_len e; have e6 := congrArg List.length e4; first | contradiction | (exact absurd e3 (by assumption)) | omega)]) hB ha_)
    ·
     replace g21 := bnot_f g21
     replace g21 := dT g21
     refine Va (dx_fld (o1 := 4) rfl ty_fld_26_4_4 rfl rfl) rfl rfl (Va (dx_load rfl ty_one_24 rfl (k3.cell (k := 4) rfl)) rfl rfl (Va (dx_lenFM rfl ty_slice_24 rfl hip) rfl rfl (Va (dx_fld (o1 := 4) rfl ty_fld_26_4_4 rfl rfl) rfl rfl (Va (dx_load rfl ty_one_24 rfl (k8.cell (k := 4) rfl)) rfl rfl (Va (dx_lenFM rfl ty_slice_24 rfl hiq) rfl rfl (Va (dx_neq rfl rfl rfl) rfl rfl (Pu rfl ?_)))))))
     refine Ni (hK14 ?_)
     refine WC.cond rfl (fun c23 => ?_) (fun c23 => ?_)
     ·
      replace c23 := bnot_t c23
      replace c23 := dF c23
      refine Sq fun K24 hK24 => (Rg (Pu rfl (Ni (hK24 ?_))))
      exact WC.ret fun a_ ha_ => hQ (cv_ret1 rfl (.tmp rfl) (by rw [eqJ_f (fun e => by obtain ⟨e1, e2, e3, e4, _⟩ := er_parts e; have e5 := er_len e; have e6 := congrArg List.length e4; first | contradiction | (exact absurd e3 (by assumption)) | omega)]) hB ha_)
     ·
      replace c23 := bnot_f c23
      replace c23 := dT c23
      refine WC.skip (hK13 (Sq fun K25 hK25 => (Sq fun K26 hK26 => ?_)))
      have hln : p.items.length = q.items.length := by omega
      have hnn : p.names.length = q.names.length := by omega
      refine Rg (Pu rfl (Ni (hK26 (WC.block ?_))))
      refine WC.loop (fun (i : Nat) => [(2, .pointer (some ⟨w.heap.size, 0, none⟩)), (3, .pointer (some ⟨W2.heap.size, 0, none⟩)), (5, .int .i64 (i : Int))]) (fun (i : Nat) W => i ≤ p.names.length ∧ p.names.take i = q.names.take i ∧ Below w.heap.size w W ∧ LL (W2.heap.size :: w.heap.size :: L) W ∧ RdF 1 (W2.heap.size :: w.heap.size :: L) W p.nv (p.names.map eS) ∧ RdF 5 (W2.heap.size :: w.heap.size :: L) W p.iv (p.items.map encT) ∧ RdTs n (W2.heap.size :: w.heap.size :: L) W p.items ∧ RdF 1 (W2.heap.size :: w.heap.size :: L) W q.nv (q.names.map eS) ∧ RdF 5 (W2.heap.size :: w.heap.size :: L) W q.iv (q.items.map encT) ∧ RdTs n (W2.heap.size :: w.heap.size :: L) W q.items ∧ Blk W w.heap.size [.int .i64 p.kind, .int .i64 p.num, .string p.text, p.nv, p.iv] ∧ Blk W W2.heap.size [.int .i64 q.kind, .int .i64 q.num, .string q.text, q.nv, q.iv]) (fun (i : Nat) => p.names.length - i) 0 (by repeat first | exact trivial | exact And.intro rfl trivial | refine And.intro rfl ?_ | refine And.intro (congrArg (fun z : Int => some (Value.int .i64 z)) (by omega)) ?_) ⟨Nat.zero_le _, rfl, hB, hL, hnp, hip, hcp, hnq, hiq, hcq, k3, k8⟩ ?_
      clear hnp hip hcp hnq hiq hcq k3 k8 hB hL
      rintro K27 i W28 ⟨hi, hv, hB, hL, hnp, hip, hcp, hnq, hiq, hcq, k3, k8⟩ hK27
      refine Sq fun K29 hK29 => (Sq fun K30 hK30 => (Rg (Pu rfl (Va (dx_fld (o1 := 3) rfl ty_fld_26_3_3 rfl rfl) rfl rfl (Va (dx_load rfl ty_one_23 rfl (k3.cell (k := 3) rfl)) rfl rfl (Va (dx_lenFM rfl ty_slice_23 rfl hnp) rfl rfl (Va (dx_lss rfl rfl rfl) rfl rfl ?_)))))))
      refine Ni (hK30 ?_)
      refine WC.cond rfl (fun c31 => ?_) (fun c31 => ?_)
      ·
       replace c31 := dT c31
       refine WC.skip (hK29 (Sq fun K32 hK32 => (WC.block (Sq fun K33 hK33 => ?_))))
       obtain ⟨r34, e35⟩ : ∃ x, p.names[i]? = some x := ⟨_, List.getElem?_eq_getElem (by omega)⟩
       obtain ⟨r36, e37⟩ : ∃ x, q.names[i]? = some x := ⟨_, List.getElem?_eq_getElem (by omega)⟩
       refine WC.drawM 10 [(some 51, .is (.pointer (some ⟨w.heap.size, 3, none⟩))), (some 52, .is (p.nv)), (some 53, .is (.int .i64 (i : Int))), (some 54, .by fun u W => PtR (W2.heap.size :: w.heap.size :: L) W u [.string r34]), (some 55, .is (.string r34)), (some 56, .is (.pointer (some ⟨W2.heap.size, 3, none⟩))), (some 57, .is (q.nv)), (some 58, .is (.int .i64 (i : Int))), (some 59, .by fun u W => PtR (W2.heap.size :: w.heap.size :: L) W u [.string r36]), (some 60, .is (.string r36))] [[], [0], [], [1, 2], [3], [], [5], [], [6, 7], [8]] (by kernel_rfl) (by kernel_rfl) (by kernel_rfl) (by kernel_rfl) (by kernel_rfl) (by kernel_rfl) (by kernel_rfl) ⟨fun _ _ _ hb h => h.below hb, fun _ _ _ hb h => h.below hb, trivial⟩ ?_ ?_
       ·
        refine Dc (fun Wd hd => ?_) ?_
        ·
         exact Dd (dx_fld (o1 := 3) rfl ty_fld_26_3_3 rfl rfl) rfl
        refine Dc (fun Wd hd => ?_) ?_
        ·
         have k3 := k3.below hd
         exact Dd (dx_load rfl ty_one_23 rfl (k3.cell (k := 3) rfl)) rfl
        refine Dc (fun Wd hd => ?_) ?_
        ·
         exact Dd (dx_move rfl rfl) rfl
        refine Dc (fun Wd hd => ?_) ?_
        ·
         have hnp := hnp.below hd
         exact (dx_idxF i rfl ty_slice_23 rfl rfl hnp (by omega) (at_mapX e35)).mono (fun v W' h => ⟨by rw [← h.1]; exact Below.refl _ _, by rw [← h.1]; exact h.2⟩)
        refine Dc (fun Wd hd => ?_) ?_
        ·
         intro u6_3 p6_3
         exact Dd (dx_loadP rfl ty_one_9 rfl p6_3) rfl
        refine Dc (fun Wd hd => ?_) ?_
        ·
         exact Dd (dx_fld (o1 := 3) rfl ty_fld_26_3_3 rfl rfl) rfl
        refine Dc (fun Wd hd => ?_) ?_
        ·
         have k8 := k8.below hd
         exact Dd (dx_load rfl ty_one_23 rfl (k8.cell (k := 3) rfl)) rfl
        refine Dc (fun Wd hd => ?_) ?_
        ·
         exact Dd (dx_move rfl rfl) rfl
        refine Dc (fun Wd hd => ?_) ?_
        ·
         have hnq := hnq.below hd
         exact (dx_idxF i rfl ty_slice_23 rfl rfl hnq (by omega) (at_mapX e37)).mono (fun v W' h => ⟨by rw [← h.1]; exact Below.refl _ _, by rw [← h.1]; exact h.2⟩)
        refine Dc (fun Wd hd => ?_) ?_
        ·
         intro u6_8 p6_8
         exact Dd (dx_loadP rfl ty_one_9 rfl p6_8) rfl
        exact trivial
       ·
        intro W38 b39
        intro u6_3 p6_3
        intro u6_8 p6_8
        replace hnp := hnp.below b39
        replace hip := hip.below b39
        replace hcp := hcp.below b39
        replace hnq := hnq.below b39
        replace hiq := hiq.below b39
        replace hcq := hcq.below b39
        replace k3 := k3.below b39
        replace k8 := k8.below b39
        replace hB := below_then hB b39
        replace hL := LL.below hL b39
        refine Va (dx_neqT rfl rfl rfl) rfl rfl (Ni (hK33 ?_))
        refine WC.cond rfl (fun c40 => ?_) (fun c40 => ?_)
        ·
         replace c40 := bnot_t c40
         replace c40 := dF c40
         refine Sq fun K41 hK41 => (Rg (Pu rfl (Ni (hK41 ?_))))
         exact WC.ret fun a_ ha_ => hQ (cv_ret1 rfl (.tmp rfl) (by rw [eqJ_f (fun e => by obtain ⟨e1, e2, e3, e4, _⟩ := er_parts e; rw [e4, e37] at e35; cases e35; exact absurd rfl (by assumption))]) hB ha_)
        ·
         replace c40 := bnot_f c40
         replace c40 := dT c40
         refine WC.skip (hK32 (Rg (Pu rfl (Va (dx_add (r := (i : Int) + 1) rfl rfl rfl (wrap64_id (by omega))) rfl rfl (Pu rfl (Ni ?_))))))
         exact hK27 (i + 1) ⟨(by omega), (by rw [List.take_add_one, List.take_add_one, hv, e35, e37, show r34 = r36 by first | assumption | exact Classical.not_not.1 (by assumption)]), hB, hL, hnp, hip, hcp, hnq, hiq, hcq, k3, k8⟩ (by omega) (by repeat first | exact trivial | exact And.intro rfl trivial | refine And.intro rfl ?_ | refine And.intro (congrArg (fun z : Int => some (Value.int .i64 z)) (by omega)) ?_)
      ·
       replace c31 := dF c31
       refine WC.exit ?_
       refine hK25 (Sq fun K42 hK42 => (Sq fun K43 hK43 => ?_))
       have hns : p.names = q.names := by rw [List.take_of_length_le (by omega), List.take_of_length_le (by omega)] at hv; exact hv
       refine Rg (Pu rfl (Ni (hK43 (WC.block ?_))))
       refine WC.loop (fun (i : Nat) => [(2, .pointer (some ⟨w.heap.size, 0, none⟩)), (3, .pointer (some ⟨W2.heap.size, 0, none⟩)), (6, .int .i64 (i : Int))]) (fun (i : Nat) W => i ≤ p.items.length ∧ (∀ k x y, k < i → p.items[k]? = some x → q.items[k]? = some y → x.er = y.er) ∧ Below w.heap.size w W ∧ LL (W2.heap.size :: w.heap.size :: L) W ∧ RdF 1 (W2.heap.size :: w.heap.size :: L) W p.nv (p.names.map eS) ∧ RdF 5 (W2.heap.size :: w.heap.size :: L) W p.iv (p.items.map encT) ∧ RdTs n (W2.heap.size :: w.heap.size :: L) W p.items ∧ RdF 1 (W2.heap.size :: w.heap.size :: L) W q.nv (q.names.map eS) ∧ RdF 5 (W2.heap.size :: w.heap.size :: L) W q.iv (q.items.map encT) ∧ RdTs n (W2.heap.size :: w.heap.size :: L) W q.items ∧ Blk W w.heap.size [.int .i64 p.kind, .int .i64 p.num, .string p.text, p.nv, p.iv] ∧ Blk W W2.heap.size [.int .i64 q.kind, .int .i64 q.num, .string q.text, q.nv, q.iv]) (fun (i : Nat) => p.items.length - i) 0 (by repeat first | exact trivial | exact And.intro rfl trivial | refine And.intro rfl ?_ | refine And.intro (congrArg (fun z : Int => some (Value.int .i64 z)) (by omega)) ?_) ⟨Nat.zero_le _, (fun k x y hk => by omega), hB, hL, hnp, hip, hcp, hnq, hiq, hcq, k3, k8⟩ ?_
       clear hnp hip hcp hnq hiq hcq k3 k8 hB hL
       rintro K44 i W45 ⟨hi, hw, hB, hL, hnp, hip, hcp, hnq, hiq, hcq, k3, k8⟩ hK44
       refine Sq fun K46 hK46 => (Sq fun K47 hK47 => (Rg (Pu rfl (Va (dx_fld (o1 := 4) rfl ty_fld_26_4_4 rfl rfl) rfl rfl (Va (dx_load rfl ty_one_24 rfl (k3.cell (k := 4) rfl)) rfl rfl (Va (dx_lenFM rfl ty_slice_24 rfl hip) rfl rfl (Va (dx_lss rfl rfl rfl) rfl rfl ?_)))))))
       refine Ni (hK47 ?_)
       refine WC.cond rfl (fun c48 => ?_) (fun c48 => ?_)
       ·
        replace c48 := dT c48
        refine WC.skip (hK46 (Sq fun K49 hK49 => (WC.block (Sq fun K50 hK50 => ?_))))
        obtain ⟨r51, e52⟩ : ∃ x, p.items[i]? = some x := ⟨_, List.getElem?_eq_getElem (by omega)⟩
        obtain ⟨r53, e54⟩ : ∃ x, q.items[i]? = some x := ⟨_, List.getElem?_eq_getElem (by omega)⟩
        refine WC.drawM 10 [(some 69, .is (.pointer (some ⟨w.heap.size, 4, none⟩))), (some 70, .is (p.iv)), (some 71, .is (.int .i64 (i : Int))), (some 72, .by fun u W => PtR (W2.heap.size :: w.heap.size :: L) W u (encT r51)), (some 73, .is (.agg #[.int .i64 r51.kind, .int .i64 r51.num, .string r51.text, r51.nv, r51.iv])), (some 74, .is (.pointer (some ⟨W2.heap.size, 4, none⟩))), (some 75, .is (q.iv)), (some 76, .is (.int .i64 (i : Int))), (some 77, .by fun u W => PtR (W2.heap.size :: w.heap.size :: L) W u (encT r53)), (some 78, .is (.agg #[.int .i64 r53.kind, .int .i64 r53.num, .string r53.text, r53.nv, r53.iv]))] [[], [0], [], [1, 2], [3], [], [5], [], [6, 7], [8]] (by kernel_rfl) (by kernel_rfl) (by kernel_rfl) (by kernel_rfl) (by kernel_rfl) (by kernel_rfl) (by kernel_rfl) ⟨fun _ _ _ hb h => h.below hb, fun _ _ _ hb h => h.below hb, trivial⟩ ?_ ?_
        ·
         refine Dc (fun Wd hd => ?_) ?_
         ·
          exact Dd (dx_fld (o1 := 4) rfl ty_fld_26_4_4 rfl rfl) rfl
         refine Dc (fun Wd hd => ?_) ?_
         ·
          have k3 := k3.below hd
          exact Dd (dx_load rfl ty_one_24 rfl (k3.cell (k := 4) rfl)) rfl
         refine Dc (fun Wd hd => ?_) ?_
         ·
          exact Dd (dx_move rfl rfl) rfl
         refine Dc (fun Wd hd => ?_) ?_
         ·
          have hip := hip.below hd
          exact (dx_idxF i rfl ty_slice_24 rfl rfl hip (by omega) (at_mapX e52)).mono (fun v W' h => ⟨by rw [← h.1]; exact Below.refl _ _, by rw [← h.1]; exact h.2⟩)
         refine Dc (fun Wd hd => ?_) ?_
         ·
          intro u11_3 p11_3
          exact Dd (dx_loadPN rfl ty_agg_26_5 rfl p11_3 rfl) rfl
         refine Dc (fun Wd hd => ?_) ?_
         ·
          exact Dd (dx_fld (o1 := 4) rfl ty_fld_26_4_4 rfl rfl) rfl
         refine Dc (fun Wd hd => ?_) ?_
         ·
          have k8 := k8.below hd
          exact Dd (dx_load rfl ty_one_24 rfl (k8.cell (k := 4) rfl)) rfl
         refine Dc (fun Wd hd => ?_) ?_
         ·
          exact Dd (dx_move rfl rfl) rfl
         refine Dc (fun Wd hd => ?_) ?_
         ·
          have hiq := hiq.below hd
          exact (dx_idxF i rfl ty_slice_24 rfl rfl hiq (by omega) (at_mapX e54)).mono (fun v W' h => ⟨by rw [← h.1]; exact Below.refl _ _, by rw [← h.1]; exact h.2⟩)
         refine Dc (fun Wd hd => ?_) ?_
         ·
          intro u11_8 p11_8
          exact Dd (dx_loadPN rfl ty_agg_26_5 rfl p11_8 rfl) rfl
         exact trivial
        ·
         intro W55 b56
         intro u11_3 p11_3
         intro u11_8 p11_8
         replace hnp := hnp.below b56
         replace hip := hip.below b56
         replace hcp := hcp.below b56
         replace hnq := hnq.below b56
         replace hiq := hiq.below b56
         replace hcq := hcq.below b56
         replace k3 := k3.below b56
         replace k8 := k8.below b56
         replace hB := below_then hB b56
         replace hL := LL.below hL b56
         refine Ge (dx_cv rfl Try.func39 rfl rfl rfl (ih r51 r53 W55 _ hL (hcp r51 (List.mem_of_getElem? e52)) (hcq r53 (List.mem_of_getElem? e54)))) rfl rfl ?_
         rintro _ W58 ⟨rfl, b57⟩
         replace hnp := hnp.below b57
         replace hip := hip.below b57
         replace hcp := hcp.below b57
         replace hnq := hnq.below b57
         replace hiq := hiq.below b57
         replace hcq := hcq.below b57
         replace k3 := k3.below b57
         replace k8 := k8.below b57
         replace hB := below_then hB b57
         replace hL := LL.below hL b57
         refine Va (dx_not rfl rfl) rfl rfl (Ni (hK50 ?_))
         refine WC.cond rfl (fun c59 => ?_) (fun c59 => ?_)
         ·
          replace c59 := bnot_t c59
          refine Sq fun K60 hK60 => (Rg (Pu rfl (Ni (hK60 ?_))))
          exact WC.ret fun a_ ha_ => hQ (cv_ret1 rfl (.tmp rfl) (by rw [eqJ_f (fun e => by have hce := er_item e e52 e54; have := eqJ_t hce; simp_all)]) hB ha_)
         ·
          replace c59 := bnot_f c59
          refine WC.skip (hK49 (Rg (Pu rfl (Va (dx_add (r := (i : Int) + 1) rfl rfl rfl (wrap64_id (by omega))) rfl rfl (Pu rfl (Ni ?_))))))
          have hce : r51.er = r53.er := Classical.byContradiction fun hn_ => by have := eqJ_f hn_; simp_all
          exact hK44 (i + 1) ⟨(by omega), (fun k x y hk hx hy => by rcases Nat.lt_or_ge k i with hl | hl; exact hw k x y hl hx hy; obtain rfl : k = i := (by omega); rw [e52] at hx; rw [e54] at hy; cases hx; cases hy; exact hce), hB, hL, hnp, hip, hcp, hnq, hiq, hcq, k3, k8⟩ (by omega) (by repeat first | exact trivial | exact And.intro rfl trivial | refine And.intro rfl ?_ | refine And.intro (congrArg (fun z : Int => some (Value.int .i64 z)) (by omega)) ?_)
       ·
        replace c48 := dF c48
        refine WC.exit ?_
        refine hK42 (Sq fun K61 hK61 => (Rg (Pu rfl (Ni (hK61 ?_)))))
        exact WC.ret fun a_ ha_ => hQ (cv_ret1 rfl (.tmp rfl) (by rw [eqJ_t (er_eq (by first | assumption | simp_all) (by first | assumption | simp_all) (by first | assumption | simp_all) hns hln (fun k c d hc hd => hw k c d (by have := (List.getElem?_eq_some_iff.1 hc).1; omega) hc hd))]) hB ha_)

theorem refSame_all : ∀ n, RefSameAt n
 | 0 => fun p q _ _ _ h => h.elim
 | n + 1 => fun p q w L hL h1 h2 => refSame_step n (refSame_all n) p q w L hL h1 h2
set_option maxHeartbeats 1000000 in
theorem alike_v (n : Nat) (p q : Tr) (w : World) (L : List Nat) (hL : LL L w) (htp : RdT (n + 1) L w p) (htq : RdT (n + 1) L w q) : CV Try.prog 14 [.agg #[.int .i64 p.kind, .int .i64 p.num, .string p.text, p.nv, p.iv], .agg #[.int .i64 q.kind, .int .i64 q.num, .string q.text, q.nv, q.iv]] w fun v W => v = .bool (eqJ p.er q.er) := by
 refine cv_enter (N := 8) (f := [(0, .agg #[.int .i64 p.kind, .int .i64 p.num, .string p.text, p.nv, p.iv]), (1, .agg #[.int .i64 q.kind, .int .i64 q.num, .string q.text, q.nv, q.iv])]) Try.func14 rfl rfl rfl rfl fun Q hQ hE => ?_
 have hB := Below.refl w.heap.size w
 refine Sq fun K1 hK1 => ?_
 obtain ⟨hnp, hip, hcp⟩ := htp
 replace hcp : RdTs n (L) w p.items := hcp
 obtain ⟨hnq, hiq, hcq⟩ := htq
 replace hcq : RdTs n (L) w q.items := hcq
 refine Rg ?_
 refine Ge (dx_box rfl rfl rfl) rfl rfl ?_
 rintro _ W2 ⟨rfl, k3, b4, z5⟩
 have l6 := hB.size
 replace hnp := hnp.more b4 (Nat.le_refl _)
 replace hip := hip.more b4 (Nat.le_refl _)
 replace hcp := hcp.more b4 (Nat.le_refl _)
 replace hnq := hnq.more b4 (Nat.le_refl _)
 replace hiq := hiq.more b4 (Nat.le_refl _)
 replace hcq := hcq.more b4 (Nat.le_refl _)
 replace hB := below_then hB b4
 replace hL := LL.more hL z5
 refine Ge (dx_box rfl rfl rfl) rfl rfl ?_
 rintro _ W7 ⟨rfl, k8, b9, z10⟩
 have l12 := hB.size
 replace hnp := hnp.more b9 (Nat.le_refl _)
 replace hip := hip.more b9 (Nat.le_refl _)
 replace hcp := hcp.more b9 (Nat.le_refl _)
 replace hnq := hnq.more b9 (Nat.le_refl _)
 replace hiq := hiq.more b9 (Nat.le_refl _)
 replace hcq := hcq.more b9 (Nat.le_refl _)
 replace k3 := k3.below b9
 replace hB := below_then hB b9
 replace hL := LL.more hL z10
 refine Pu rfl (Ni (hK1 (Sq fun K13 hK13 => (Rg (Va (dx_loadN rfl ty_agg_26_5 rfl k3.range rfl) rfl rfl (Va (dx_loadN rfl ty_agg_26_5 rfl k8.range rfl) rfl rfl ?_))))))
 refine Ge (dx_cv rfl Try.func39 rfl rfl rfl (refSame_all (n + 1) p q W7 _ hL (show RdT (n + 1) (W2.heap.size :: w.heap.size :: L) W7 p from ⟨hnp, hip, hcp⟩) (show RdT (n + 1) (W2.heap.size :: w.heap.size :: L) W7 q from ⟨hnq, hiq, hcq⟩))) rfl rfl ?_
 rintro _ W15 ⟨rfl, b14⟩
 replace hB := below_then hB b14
 refine Pu rfl (Ni (hK13 ?_))
 exact WC.ret fun a_ ha_ => hQ (cv_ret1 rfl (.tmp rfl) rfl hB ha_)

section
variable {P : Program} {ops : Array Oper} {o : Oper} {N : Nat} {f : Fl} {w : World}
end
def noJ : Js := .mk 0 0 ⟨#[]⟩ [] []
def getJ (j : Js) (name : ByteArray) : Js × Bool := if j.kind = 6 ∧ 0 ≤ idxX (fun x => decide (name = x)) j.names 0 ∧ (idxX (fun x => decide (name = x)) j.names 0).toNat < j.items.length then ((j.items[(idxX (fun x => decide (name = x)) j.names 0).toNat]?).getD noJ, true) else (noJ, false)
theorem getT_er (t : Tr) (name : ByteArray) : ((getT t name).1.er, (getT t name).2) = getJ t.er name := by
  unfold getT getJ
  rw [er_kind, er_names, er_items, List.length_map]
  split
  · rename_i h
    rw [List.getElem?_map, List.getElem?_eq_getElem h.2.2]; rfl
  · unfold noT noJ; rw [Tr.er_mk]; rfl
theorem pa1 : parJ { data := #[123, 34, 98, 34, 58, 32, 91, 49, 44, 32, 45, 50, 93, 44, 32, 34, 97, 34, 58, 32, 34, 92, 117, 48, 48, 101, 57, 34, 125] } = .ok (.mk 6 0 ⟨#[]⟩ [⟨#[97]⟩, ⟨#[98]⟩] [.mk 4 0 ⟨#[195, 169]⟩ [] [], .mk 5 0 ⟨#[]⟩ [] [.mk 3 1 ⟨#[]⟩ [] [], .mk 3 (-2) ⟨#[]⟩ [] []]]) := by kernel_rfl
theorem pa2 : parJ { data := #[49, 46, 53] } = .error 2 := by kernel_rfl
theorem pa3 : parJ { data := #[123, 34, 97, 34, 58, 49, 44, 34, 97, 34, 58, 50, 125] } = .error 6 := by kernel_rfl
theorem alP1 (w : World) (L : List Nat) (hL : LL L w) : CV Try.prog 12 [.string { data := #[123, 34, 98, 34, 58, 32, 91, 49, 44, 32, 45, 50, 93, 44, 32, 34, 97, 34, 58, 32, 34, 92, 117, 48, 48, 101, 57, 34, 125] }] w fun v W => ∃ t, v = .tuple #[.agg #[.int .i64 t.kind, .int .i64 t.num, .string t.text, t.nv, t.iv], .int .i64 0] ∧ getJ t.er ⟨#[97]⟩ = (.mk 4 0 ⟨#[195, 169]⟩ [] [], true) ∧ deepJ 13 t.er = 2 ∧ RdT 13 L W t :=
  (jParse_v { data := #[123, 34, 98, 34, 58, 32, 91, 49, 44, 32, 45, 50, 93, 44, 32, 34, 97, 34, 58, 32, 34, 92, 117, 48, 48, 101, 57, 34, 125] } w L hL).mono fun v W _ h => by
    rcases h with ⟨t, rfl, h1, h2⟩ | ⟨e, rfl, h0, h1⟩
    · rw [pa1] at h1
      have h1 := (Except.ok.inj h1).symm
      exact ⟨t, rfl, by rw [h1]; kernel_rfl, by rw [h1]; kernel_rfl, h2⟩
    · rw [pa1] at h1; cases h1
theorem alP2 (w : World) (L : List Nat) (hL : LL L w) : CV Try.prog 12 [.string { data := #[49, 46, 53] }] w fun v W => v = .tuple #[.agg #[.int .i64 0, .int .i64 0, .string ⟨#[]⟩, .slice none 0 0, .slice none 0 0], .int .i64 2] :=
 (jParse_v { data := #[49, 46, 53] } w L hL).mono fun v W _ h => by
  rcases h with ⟨t, rfl, h1, h2⟩ | ⟨e, rfl, h0, h1⟩
  · rw [pa2] at h1; cases h1
  · rw [pa2] at h1; cases h1; rfl
theorem alP3 (w : World) (L : List Nat) (hL : LL L w) : CV Try.prog 12 [.string { data := #[123, 34, 97, 34, 58, 49, 44, 34, 97, 34, 58, 50, 125] }] w fun v W => v = .tuple #[.agg #[.int .i64 0, .int .i64 0, .string ⟨#[]⟩, .slice none 0 0, .slice none 0 0], .int .i64 6] :=
 (jParse_v { data := #[123, 34, 97, 34, 58, 49, 44, 34, 97, 34, 58, 50, 125] } w L hL).mono fun v W _ h => by
  rcases h with ⟨t, rfl, h1, h2⟩ | ⟨e, rfl, h0, h1⟩
  · rw [pa3] at h1; cases h1
  · rw [pa3] at h1; cases h1; rfl
theorem alG (t : Tr) (w : World) (L : List Nat) (hL : LL L w) (ht : RdT 13 L w t) (hg : getJ t.er ⟨#[97]⟩ = (.mk 4 0 ⟨#[195, 169]⟩ [] [], true)) : CV Try.prog 17 [.agg #[.int .i64 t.kind, .int .i64 t.num, .string t.text, t.nv, t.iv], .string ⟨#[97]⟩] w fun v W => ∃ a, v = .tuple #[.agg #[.int .i64 a.kind, .int .i64 a.num, .string a.text, a.nv, a.iv], .bool true] ∧ a.text = ⟨#[195, 169]⟩ ∧ RdT 13 L W a :=
 (jGet_v 12 t ⟨#[97]⟩ w L hL ht).mono fun v W hb h => by
  subst h
  have e := (getT_er t ⟨#[97]⟩).trans hg
  simp only [Prod.mk.injEq] at e
  refine ⟨(getT t ⟨#[97]⟩).1, by rw [e.2]; rfl, ?_, (getT_rd ht _).below hb⟩
  rw [← er_text, e.1]; rfl
set_option maxHeartbeats 1000000 in
theorem alive_v  (w : World) (L : List Nat) (hL : LL L w)  : CV Try.prog 11 [] w fun v W => v = .bool true := by
 refine cv_enter (N := 49) (f := []) Try.func11 rfl rfl rfl rfl fun Q hQ hE => ?_
 have hB := Below.refl w.heap.size w
 refine Sq fun K1 hK1 => (Rg (Pu rfl (Ni (hK1 (Sq fun K2 hK2 => (Rg ?_))))))
 refine Ge (dx_cv rfl Try.func12 rfl rfl rfl (alP1 w _ hL)) rfl rfl ?_
 rintro _ W4 ⟨⟨t, rfl, hgj, hdj, ht⟩, b3⟩
 replace hB := below_then hB b3
 replace hL := LL.below hL b3
 obtain ⟨hnt, hit, hct⟩ := ht
 replace hct : RdTs 12 (L) W4 t.items := hct
 refine Pu rfl (Pu rfl (Pu rfl ?_))
 refine Ge (dx_alloc rfl ty_zero_26 rfl) rfl rfl ?_
 rintro _ W5 ⟨rfl, k6, b7, z8⟩
 have l9 := hB.size
 replace hnt := hnt.more b7 (Nat.le_refl _)
 replace hit := hit.more b7 (Nat.le_refl _)
 replace hct := hct.more b7 (Nat.le_refl _)
 replace hB := below_then hB b7
 replace hL := LL.more hL z8
 refine WL.do (dx_store (cs' := [.int .i64 t.kind, .int .i64 t.num, .string t.text, t.nv, t.iv]) (vs := [.int .i64 t.kind, .int .i64 t.num, .string t.text, t.nv, t.iv]) rfl ty_size_26_5 rfl rfl rfl (oc_cons rfl (oc_cons rfl (oc_cons rfl (oc_cons hnt.one (oc_cons hit.one oc_nil))))) k6 rfl (Nat.le_of_ble_eq_true rfl) rfl) rfl ?_
 rintro _ W10 ⟨k12, o11⟩
 clear k6
 replace hnt := hnt.only o11 (.head _)
 replace hit := hit.only o11 (.head _)
 replace hct := hct.only o11 (.head _)
 replace hB := o11.below hB l9
 replace hL := LL.only hL o11
 refine Pu rfl (Ni (hK2 (Sq fun K13 hK13 => (Rg ?_))))
 refine Ge (dx_cv rfl Try.func12 rfl rfl rfl (alP2 W10 _ hL)) rfl rfl ?_
 rintro _ W15 ⟨rfl, b14⟩
 replace hnt := hnt.below b14
 replace hit := hit.below b14
 replace hct := hct.below b14
 replace k12 := k12.below b14
 replace hB := below_then hB b14
 replace hL := LL.below hL b14
 refine Pu rfl (Pu rfl (Pu rfl ?_))
 refine Ge (dx_alloc rfl ty_zero_26 rfl) rfl rfl ?_
 rintro _ W16 ⟨rfl, k17, b18, z19⟩
 have n20 : W4.heap.size ≠ W15.heap.size := Nat.ne_of_lt k12.lt
 have l21 := hB.size
 replace hnt := hnt.more b18 (Nat.le_refl _)
 replace hit := hit.more b18 (Nat.le_refl _)
 replace hct := hct.more b18 (Nat.le_refl _)
 replace k12 := k12.below b18
 replace hB := below_then hB b18
 replace hL := LL.more hL z19
 refine WL.do (dx_store (cs' := zV) (vs := zV) rfl ty_size_26_5 rfl rfl rfl (oc_cons rfl (oc_cons rfl (oc_cons rfl (oc_cons rfl (oc_cons rfl oc_nil))))) k17 rfl (Nat.le_of_ble_eq_true rfl) rfl) rfl ?_
 rintro _ W22 ⟨k24, o23⟩
 replace k12 := k12.other o23 n20
 clear k17
 replace hnt := hnt.only o23 (.head _)
 replace hit := hit.only o23 (.head _)
 replace hct := hct.only o23 (.head _)
 replace hB := o23.below hB l21
 replace hL := LL.only hL o23
 refine Pu rfl (Ni (hK13 (Sq fun K25 hK25 => (Rg ?_))))
 refine Ge (dx_cv rfl Try.func12 rfl rfl rfl (alP3 W22 _ hL)) rfl rfl ?_
 rintro _ W27 ⟨rfl, b26⟩
 replace hnt := hnt.below b26
 replace hit := hit.below b26
 replace hct := hct.below b26
 replace k12 := k12.below b26
 replace hB := below_then hB b26
 replace hL := LL.below hL b26
 refine Pu rfl (Pu rfl (Pu rfl ?_))
 refine Ge (dx_alloc rfl ty_zero_26 rfl) rfl rfl ?_
 rintro _ W28 ⟨rfl, k29, b30, z31⟩
 have n32 : W4.heap.size ≠ W27.heap.size := Nat.ne_of_lt k12.lt
 have l34 := hB.size
 replace hnt := hnt.more b30 (Nat.le_refl _)
 replace hit := hit.more b30 (Nat.le_refl _)
 replace hct := hct.more b30 (Nat.le_refl _)
 replace k12 := k12.below b30
 replace hB := below_then hB b30
 replace hL := LL.more hL z31
 refine WL.do (dx_store (cs' := zV) (vs := zV) rfl ty_size_26_5 rfl rfl rfl (oc_cons rfl (oc_cons rfl (oc_cons rfl (oc_cons rfl (oc_cons rfl oc_nil))))) k29 rfl (Nat.le_of_ble_eq_true rfl) rfl) rfl ?_
 rintro _ W35 ⟨k37, o36⟩
 replace k12 := k12.other o36 n32
 clear k29
 replace hnt := hnt.only o36 (.head _)
 replace hit := hit.only o36 (.head _)
 replace hct := hct.only o36 (.head _)
 replace hB := o36.below hB l34
 replace hL := LL.only hL o36
 refine Pu rfl (Ni (hK25 (Sq fun K38 hK38 => (Rg (Va (dx_loadN rfl ty_agg_26_5 rfl k12.range rfl) rfl rfl ?_)))))
 refine Ge (dx_cv rfl Try.func17 rfl rfl rfl (alG t W35 _ hL (show RdT (12 + 1) (W27.heap.size :: W15.heap.size :: W4.heap.size :: L) W35 t from ⟨hnt, hit, hct⟩) hgj)) rfl rfl ?_
 rintro _ W40 ⟨⟨a, rfl, htx, ha⟩, b39⟩
 replace hnt := hnt.below b39
 replace hit := hit.below b39
 replace hct := hct.below b39
 replace k12 := k12.below b39
 replace hB := below_then hB b39
 replace hL := LL.below hL b39
 obtain ⟨hna, hia, hca⟩ := ha
 replace hca : RdTs 12 (W27.heap.size :: W15.heap.size :: W4.heap.size :: L) W40 a.items := hca
 refine Pu rfl (Pu rfl (Pu rfl ?_))
 refine Ge (dx_alloc rfl ty_zero_26 rfl) rfl rfl ?_
 rintro _ W41 ⟨rfl, k42, b43, z44⟩
 have n45 : W4.heap.size ≠ W40.heap.size := Nat.ne_of_lt k12.lt
 have l48 := hB.size
 replace hnt := hnt.more b43 (Nat.le_refl _)
 replace hit := hit.more b43 (Nat.le_refl _)
 replace hct := hct.more b43 (Nat.le_refl _)
 replace hna := hna.more b43 (Nat.le_refl _)
 replace hia := hia.more b43 (Nat.le_refl _)
 replace k12 := k12.below b43
 replace hB := below_then hB b43
 replace hL := LL.more hL z44
 refine WL.do (dx_store (cs' := [.int .i64 a.kind, .int .i64 a.num, .string a.text, a.nv, a.iv]) (vs := [.int .i64 a.kind, .int .i64 a.num, .string a.text, a.nv, a.iv]) rfl ty_size_26_5 rfl rfl rfl (oc_cons rfl (oc_cons rfl (oc_cons rfl (oc_cons hna.one (oc_cons hia.one oc_nil))))) k42 rfl (Nat.le_of_ble_eq_true rfl) rfl) rfl ?_
 rintro _ W49 ⟨k51, o50⟩
 replace k12 := k12.other o50 n45
 clear k42
 replace hnt := hnt.only o50 (.head _)
 replace hit := hit.only o50 (.head _)
 replace hct := hct.only o50 (.head _)
 replace hB := o50.below hB l48
 replace hL := LL.only hL o50
 refine Pu rfl (Ni (hK38 (Sq fun K52 hK52 => (Rg (Pu rfl (Va (dx_eql rfl rfl rfl) rfl rfl (Pu rfl ?_)))))))
 refine Pu rfl (Va (dx_eql rfl rfl rfl) rfl rfl (Pu rfl (Pu rfl (Pu rfl (Va (dx_eql rfl rfl rfl) rfl rfl (Pu rfl (Pu rfl ?_)))))))
 refine Pu rfl (Pu rfl (Pu rfl (Va (dx_fld (o1 := 2) rfl ty_fld_26_2_2 rfl rfl) rfl rfl (Va (dx_load rfl ty_one_9 rfl (k51.cell (k := 2) rfl)) rfl rfl (Va (dv_T (dx_eqlT rfl rfl rfl) htx) rfl rfl (Pu rfl (Pu rfl ?_)))))))
 refine Va (dx_loadN rfl ty_agg_26_5 rfl k12.range rfl) rfl rfl ?_
 refine Ge (dx_cv rfl Try.func20 rfl rfl rfl (jDeep_v 12 t W49 _ hL (show RdT (12 + 1) (W40.heap.size :: W27.heap.size :: W15.heap.size :: W4.heap.size :: L) W49 t from ⟨hnt, hit, hct⟩))) rfl rfl ?_
 rintro _ W54 ⟨rfl, b53⟩
 replace hB := below_then hB b53
 refine Va (dv_T (dx_eql rfl rfl rfl) (by rw [hdj]; rfl)) rfl rfl (Pu rfl (Pu rfl (Ni (hK52 ?_))))
 exact WC.ret fun a_ ha_ => hQ (cv_ret1 rfl (.tmp rfl) rfl hB ha_)


section
variable {P : Program} {ops : Array Oper} {md : Region.Mode}
end
abbrev SV := List (Option Tmp × Option Value)
section
variable {P : Program} {N : Nat} {sv : SV} {dl : List (List Nat)}
end
def vB : Value → Option Nat
 | .slice (some a) _ _ => some a.block
 | .pointer (some a) => some a.block
 | _ => none
theorem OwS.vB {s : Nat} {w : World} {u : Value} {rs : List (List Value)} {B : Nat} (h : OwS s w u rs B) : vB u = some B := by
 obtain ⟨h0, hr, cap, sp, rfl, _⟩ := h
 rfl
theorem NewW.lt {s b : Nat} {w : World} {u : Value} {rs : List (List Value)} (h : NewW s b rs u w) {B : Nat} (hB : Go.Proofs.Ytpinidlfcifeeaa.vB u = some B) : b ≤ B ∧ B < w.heap.size := by
 rcases h with ⟨rfl, _⟩ | ⟨C, h1, h2⟩
 · cases hB
 · rw [h2.vB] at hB; cases hB; exact ⟨h1, h2.lt⟩
theorem NewW.one {s b : Nat} {w : World} {u : Value} {rs : List (List Value)} (h : NewW s b rs u w) : u.oneCell' = true := by
 rcases h with ⟨rfl, _⟩ | ⟨C, h1, h2⟩
 · rfl
 · exact h2.one
def putJ (j : Js) (nm : ByteArray) (x : Js) : Js := if j.names[lbT nm j.names]? = some nm then .mk 6 0 ⟨#[]⟩ j.names (j.items.set (lbT nm j.names) x) else .mk 6 0 ⟨#[]⟩ (insA (lbT nm j.names) nm j.names) (insA (lbT nm j.names) x j.items)

end Go.Proofs.Ytpinidlfcifeeaa
namespace Go.Proofs
open Go.Shelf
end Go.Proofs
namespace Go.Proofs.Ytpinidlfcifeeaa
open Go.RowKit
set_option linter.unusedVariables false
set_option linter.unusedSimpArgs false
set_option maxRecDepth 8000
set_option maxHeartbeats 2000000

theorem MembI.le {n b : Nat} {L L' : List Nat} {nv iv : Value} {ns : List ByteArray} {ts : List Tr} {W : World} (h : MembI n b L nv ns iv ts W) (hl : ∀ x, x ∈ L' → x ∈ L) : MembI n b L' nv ns iv ts W := by
  obtain ⟨h0, h | ⟨Bn, Bi, h1, h2, h3, h4, h5, h6⟩⟩ := h
  · exact ⟨fun x hx => h0 x (hl x hx), .inl h⟩
  · exact ⟨fun x hx => h0 x (hl x hx), .inr ⟨Bn, Bi, h1, h2, h3, h4, h5, fun c hc => (h6 c hc).less fun x hx => by
      simp only [List.mem_cons] at hx ⊢
      rcases hx with h_ | h_ | h_
      · exact .inl h_
      · exact .inr (.inl h_)
      · exact .inr (.inr (hl x h_))⟩⟩
def AgL (w1 : World) (L0 L : List Nat) (w : World) : Prop := (∀ x ∈ L, x < w1.heap.size → x ∈ L0) ∧ Agree L0 w1 w
theorem Agree.trans' {L : List Nat} {w w' w'' : World} (h : Agree L w w') (k : Agree L w' w'') : Agree L w w'' := ⟨Nat.le_trans h.1 k.1, fun i hi hlt => (k.2 i hi (Nat.lt_of_lt_of_le hlt h.1)).trans (h.2 i hi hlt)⟩
section
variable {w1 w w' : World} {L0 L : List Nat}
theorem AgL.below (h : AgL w1 L0 L w) (hb : Below w.heap.size w w') : AgL w1 L0 L w' := ⟨h.1, h.2.trans' (.of_below hb)⟩
theorem AgL.more (h : AgL w1 L0 L w) (hb : Below w.heap.size w w') {B : Nat} (hB : w.heap.size ≤ B) : AgL w1 L0 (B :: L) w' := ⟨fun x hx hlt => by
 rcases List.mem_cons.1 hx with rfl | hx
 · exact absurd hlt (Nat.not_lt.2 (Nat.le_trans h.2.1 hB))
 · exact h.1 x hx hlt, h.2.trans' (.of_below hb)⟩
theorem AgL.only (h : AgL w1 L0 L w) {C : Nat} (ho : Only C w w') (hC : C ∈ L) : AgL w1 L0 L w' := ⟨h.1, ⟨by rw [ho.size]; exact h.2.1, fun k hk hlt => (ho.block k (fun e => hk (h.1 k (e ▸ hC) hlt))).trans (h.2.2 k hk hlt)⟩⟩
theorem AgL.grow' (h : AgL w1 L0 L w) {B B' : Nat} (g : GrowB B B' w w') (hB : B ∈ L) : AgL w1 L0 (B' :: L) w' := ⟨fun x hx hlt => by
  rcases List.mem_cons.1 hx with rfl | hx
  · rcases g.new with rfl | hn
    · exact h.1 _ hB hlt
    · exact absurd hlt (Nat.not_lt.2 (Nat.le_trans h.2.1 hn))
  · exact h.1 x hx hlt, ⟨Nat.le_trans h.2.1 g.size, fun k hk hlt => (g.block k (Nat.lt_of_lt_of_le hlt h.2.1) (fun e => hk (h.1 k (e ▸ hB) hlt))).trans (h.2.2 k hk hlt)⟩⟩
theorem AgL.less (h : AgL w1 L0 L w) {L' : List Nat} (hl : ∀ x, x ∈ L' → x ∈ L) : AgL w1 L0 L' w := ⟨fun x hx => h.1 x (hl x hx), h.2⟩
theorem AgL.add (h : AgL w1 L0 L w) {B : Nat} (hB : w1.heap.size ≤ B) : AgL w1 L0 (B :: L) w := ⟨fun x hx hlt => by
 rcases List.mem_cons.1 hx with rfl | hx
 · exact absurd hlt (Nat.not_lt.2 hB)
 · exact h.1 x hx hlt, h.2⟩
theorem AgL.rd {s : Nat} {v : Value} {rs : List (List Value)} (h : AgL w1 L0 L w) (k : RdF s L0 w1 v rs) : RdF s L w v rs := by
 have k2 := k.agree h.2
 obtain ⟨h0, hl, a, cap, rfl, c1, c2, c3, c4⟩ := k2
 refine ⟨h0, hl, a, cap, rfl, c1, c2, c3, fun hn => ?_⟩
 obtain ⟨X, q, e, hX, hr⟩ := c4 hn
 exact ⟨X, q, e, fun hx => hX (h.1 X hx (rdf_lt k e hn)), hr⟩
theorem AgL.rt (h : AgL w1 L0 L w) : ∀ {n : Nat} {t : Tr}, RdT n L0 w1 t → RdT n L w t
 | 0, _, k => k
 | _ + 1, _, k => ⟨h.rd k.1, h.rd k.2.1, fun c hc => h.rt (k.2.2 c hc)⟩
end
theorem dv_e {P : Program} {ops : Array Oper} {o : Oper} {N : Nat} {f : Fl} {w : World} {u v : Value} (h : DV P ops o N f w u) (e : u = v) : DV P ops o N f w v := e ▸ h
theorem idx_none {x : ByteArray} {l : List ByteArray} (h : x ∉ l) : ¬ 0 ≤ idxX (fun y => decide (x = y)) l 0 := fun h0 => by
 obtain ⟨k, a, e, ha, hp, _⟩ := idxX_is l 0 (Int.le_refl _) h0
 exact h ((of_decide_eq_true hp) ▸ List.mem_of_getElem? ha)
theorem rises_uniq {l : List ByteArray} (h : Rises l) {i j : Nat} {a : ByteArray} (hi : l[i]? = some a) (hj : l[j]? = some a) : i = j := by
 rcases Nat.lt_trichotomy i j with h1 | h1 | h1
 · have := rises_less h h1 hi hj; rw [sless_irrefl] at this; cases this
 · exact h1
 · have := rises_less h h1 hj hi; rw [sless_irrefl] at this; cases this
theorem getJ_some {j : Js} {nm : ByteArray} {k : Nat} {x : Js} (hk : j.kind = 6) (hr : Rises j.names) (hn : j.names[k]? = some nm) (hx : j.items[k]? = some x) : getJ j nm = (x, true) := by
  have hlt := (List.getElem?_eq_some_iff.1 hx).1
  have h0 : idxX (fun y => decide (nm = y)) j.names 0 = (k : Int) := by
    rcases Int.lt_or_le (idxX (fun y => decide (nm = y)) j.names 0) 0 with h1 | h1
    · have := idxX_no j.names 0 (Int.le_refl _) h1 nm (List.mem_of_getElem? hn)
      exact absurd rfl (of_decide_eq_false this)
    · obtain ⟨k', a, e, ha, hp, _⟩ := idxX_is j.names 0 (Int.le_refl _) h1
      have hp := of_decide_eq_true hp
      subst hp
      have := rises_uniq hr ha hn
      rw [e, this]; omega
  unfold getJ
  rw [if_pos ⟨hk, by rw [h0]; omega, by rw [h0]; simpa using hlt⟩, h0, Int.toNat_natCast, hx]
  rfl
theorem getJ_none {j : Js} {nm : ByteArray} (h : nm ∉ j.names) : getJ j nm = (noJ, false) := by
 unfold getJ
 rw [if_neg (fun ⟨_, h1, _⟩ => idx_none h h1)]
theorem insA_at {α : Type} {i : Nat} {x : α} {l : List α} (h : i ≤ l.length) : (insA i x l)[i]? = some x := by
 unfold insA
 rw [List.getElem?_append_right (by rw [List.length_take]; omega), List.length_take, show i - min i l.length = 0 by omega]
 rfl
theorem insA_lt {α : Type} {i k : Nat} {x : α} {l : List α} (h : i ≤ l.length) (hk : k < i) : (insA i x l)[k]? = l[k]? := by
 unfold insA
 rw [List.getElem?_append_left (by rw [List.length_take]; omega), List.getElem?_take, if_pos hk]
theorem insA_ge {α : Type} {i k : Nat} {x : α} {l : List α} (h : i ≤ l.length) (hk : i ≤ k) : (insA i x l)[k + 1]? = l[k]? := by
 unfold insA
 rw [List.getElem?_append_right (by rw [List.length_take]; omega), List.length_take, show k + 1 - min i l.length = (k - i) + 1 by omega, List.singleton_append, List.getElem?_cons_succ, List.getElem?_drop]
 congr 1; omega
theorem rises_J : ∀ {l : List ByteArray}, Rises l → risesJ l = true
 | [], _ => rfl
 | [a], _ => rfl
 | a :: b :: l, h => by
  unfold risesJ
  rw [rises_J (List.pairwise_cons.1 h).2, (List.pairwise_cons.1 h).1 b (.head _)]; rfl
theorem mk_right {up : ByteArray → Bool} {n : Nat} {ns : List ByteArray} {ts : List Js} (hl : ns.length = ts.length) (hr : Rises ns) (hu : ∀ a ∈ ns, up a = true) (ht : ∀ x ∈ ts, rightJ up n x = true) : rightJ up (n + 1) (.mk 6 0 ⟨#[]⟩ ns ts) = true := by
 rw [rightJ, Bool.or_eq_true]
 right
 rw [Bool.and_eq_true, List.all_eq_true]
 refine ⟨?_, ht⟩
 simp only [nodeJ, Js.num, Js.text, Js.kind, Js.names, Js.items, hl, rises_J hr]
 simp
 exact hu
def SzJ (m : Nat) : Nat → Js → Prop
 | 0, _ => False
 | n + 1, j => j.text.size ≤ m ∧ j.names.length ≤ m ∧ j.items.length ≤ m ∧ (∀ s ∈ j.names, s.size ≤ m) ∧ ∀ c ∈ j.items, SzJ m n c
theorem szT_J {m : Nat} : ∀ {n : Nat} {t : Tr}, SzT m n t ↔ SzJ m n t.er
 | 0, _ => Iff.rfl
 | n + 1, t => by
  unfold SzT SzJ
  rw [er_text, er_names, er_items, List.length_map]
  refine and_congr Iff.rfl (and_congr Iff.rfl (and_congr Iff.rfl (and_congr Iff.rfl ⟨fun h c hc => ?_, fun h c hc => szT_J.2 (h c.er (List.mem_map.2 ⟨c, hc, rfl⟩))⟩)))
  obtain ⟨t', ht', rfl⟩ := List.mem_map.1 hc
  exact szT_J.1 (h t' ht')
theorem SzJ.le {m m' : Nat} (hm : m ≤ m') : ∀ {n : Nat} {j : Js}, SzJ m n j → SzJ m' n j
 | 0, _, h => h
 | _ + 1, _, h => ⟨Nat.le_trans h.1 hm, Nat.le_trans h.2.1 hm, Nat.le_trans h.2.2.1 hm, fun s hs => Nat.le_trans (h.2.2.2.1 s hs) hm, fun c hc => (h.2.2.2.2 c hc).le hm⟩
theorem SzJ.up {m : Nat} : ∀ {n : Nat} {j : Js}, SzJ m n j → SzJ m (n + 1) j
 | 0, _, h => h.elim
 | _ + 1, _, h => ⟨h.1, h.2.1, h.2.2.1, h.2.2.2.1, fun c hc => (h.2.2.2.2 c hc).up⟩
theorem rightE_v (n : Nat) (t : Tr) (b : Bool) (w : World) (L : List Nat) (hL : LL L w) (ht : RdT (n + 1) L w t) (hz : SzT 1000000 (n + 1) t) (h : rightJ upB 12 t.er = b) : CV Try.prog 15 [.agg #[.int .i64 t.kind, .int .i64 t.num, .string t.text, t.nv, t.iv]] w fun v W => v = .bool b := by
 have e := jRight_v n t w L hL ht hz
 rw [h] at e
 exact e
theorem alikeE_v (n : Nat) (a b : Tr) (w : World) (L : List Nat) (hL : LL L w) (h1 : RdT (n + 1) L w a) (h2 : RdT (n + 1) L w b) (h : a.er = b.er) : CV Try.prog 14 [.agg #[.int .i64 a.kind, .int .i64 a.num, .string a.text, a.nv, a.iv], .agg #[.int .i64 b.kind, .int .i64 b.num, .string b.text, b.nv, b.iv]] w fun v W => v = .bool true := by
 have e := alike_v n a b w L hL h1 h2
 rw [eqJ_t h] at e
 exact e
def OKL (l : List Int) : Prop := ∃ rs, encS rs = some l
theorem ok_nil : OKL [] := ⟨[], rfl⟩
theorem ok_cons {r : Int} {l : List Int} (hr : isRuneB r = true) (h : OKL l) : OKL (encI r ++ l) := by
 obtain ⟨rs, h⟩ := h
 exact ⟨r :: rs, by simp only [encS, hr, if_true, h, Option.map_some]⟩
theorem enc_split {r : Int} {t l : List Int} (h : encS (r :: t) = some l) : isRuneB r = true ∧ ∃ ts, encS t = some ts ∧ l = encI r ++ ts := by
  simp only [encS] at h
  split at h
  · rename_i hr
    cases ht : encS t with
    | none => rw [ht] at h; cases h
    | some ts => rw [ht] at h; cases h; exact ⟨hr, ts, rfl, rfl⟩
  · cases h
theorem ok_app {b : List Int} (hb : OKL b) : ∀ (rs a : List Int), encS rs = some a → OKL (a ++ b)
 | [], a, h => by cases h; exact hb
 | r :: t, a, h => by
  obtain ⟨hr, ts, ht, rfl⟩ := enc_split h
  rw [List.append_assoc]
  exact ok_cons hr (ok_app hb t ts ht)
theorem OKL.app {a b : List Int} (ha : OKL a) (hb : OKL b) : OKL (a ++ b) := by obtain ⟨rs, h⟩ := ha; exact ok_app hb rs a h
theorem ok_bytes : ∀ (rs l : List Int), encS rs = some l → Bytes l
 | [], l, h => by cases h; exact fun x hx => by cases hx
 | r :: t, l, h => by
  obtain ⟨hr, ts, ht, rfl⟩ := enc_split h
  exact (encI_bytes (isRune_range hr).1 (isRune_range hr).2).append (ok_bytes t ts ht)
theorem OKL.bytes {l : List Int} (h : OKL l) : Bytes l := by obtain ⟨rs, h⟩ := h; exact ok_bytes rs l h
theorem ok_rune {r : Int} (h : isRuneB r = true) : OKL (encI r) := by have := ok_cons h ok_nil; rwa [List.append_nil] at this
theorem ok_one {c : Int} (h0 : 0 ≤ c) (h : c < 128) : OKL [c] := by
 have := ok_rune (r := c) (by unfold isRuneB; simp; omega)
 rwa [encI1 h] at this
theorem ok_of_up {s : ByteArray} (h : upB s = true) : OKL (sb s) := by
 unfold upB at h
 cases hd : decS (sb s) with
 | none => rw [hd] at h; cases h
 | some rs => exact ⟨rs, enc_dec _ _ rs (Nat.le_refl _) (sb_bytes s) hd⟩
theorem up_of_ok {l : List Int} (h : OKL l) : upB (strOfNums l) = true := by
 have hB := h.bytes
 obtain ⟨rs, h⟩ := h
 unfold upB
 rw [sb_strOf hB, dec_enc rs l h]
 rfl
theorem enc_hi {r : Int} (h : 128 ≤ r) : ∀ x ∈ encI r, 128 ≤ x := by
  intro x hx
  unfold encI at hx
  rw [if_neg (by omega)] at hx
  split at hx
  · simp at hx; omega
  · split at hx
    · simp at hx; omega
    · simp at hx; omega
theorem ok_cut : ∀ (rs a b : List Int) (c : Int), encS rs = some (a ++ c :: b) → c < 128 → OKL a ∧ OKL b
  | [], a, b, c, h, _ => by
    have := Option.some.inj h
    cases a <;> cases this
  | r :: t, a, b, c, h, hc => by
    obtain ⟨hr, ts, ht, e⟩ := enc_split h
    by_cases hlo : r < 128
    · rw [encI1 hlo] at e
      cases a with
      | nil =>
        rw [List.nil_append, List.singleton_append] at e
        injection e with e1 e2
        exact ⟨ok_nil, ⟨t, by rw [ht, e2]⟩⟩
      | cons x a' =>
        rw [List.cons_append, List.singleton_append] at e
        injection e with e1 e2
        obtain ⟨h1, h2⟩ := ok_cut t a' b c (by rw [ht, e2]) hc
        have := ok_cons hr h1
        rw [encI1 hlo, List.singleton_append, ← e1] at this
        exact ⟨this, h2⟩
    · rcases List.append_eq_append_iff.1 e.symm with ⟨a', rfl, e2⟩ | ⟨c', e1, e2⟩
      · obtain ⟨h1, h2⟩ := ok_cut t a' b c (by rw [ht, e2]) hc
        exact ⟨ok_cons hr h1, h2⟩
      · cases c' with
        | nil =>
          obtain ⟨h1, h2⟩ := ok_cut t [] b c (by rw [ht]; exact congrArg some e2.symm) hc
          rw [List.append_nil] at e1
          exact ⟨by rw [← e1]; exact ok_rune hr, h2⟩
        | cons x c'' =>
          rw [List.cons_append] at e2
          injection e2 with e2 e3
          have := enc_hi (r := r) (by omega) x (by rw [e1]; simp)
          omega
theorem cut_at {l : List Int} {k : Nat} {c : Int} (h : OKL l) (hk : l[k]? = some c) (hc : c < 128) : OKL (l.take k) ∧ OKL (l.drop (k + 1)) := by
 obtain ⟨hlt, he⟩ := List.getElem?_eq_some_iff.1 hk
 obtain ⟨rs, h⟩ := h
 refine ok_cut rs _ _ c ?_ hc
 rw [h, ← he, ← List.drop_eq_getElem_cons hlt, List.take_append_drop]
theorem sb_at {s : ByteArray} {k : Nat} (h : k < s.size) : (sb s)[k]? = some (atS s k) := by
 unfold sb atS
 rw [List.getElem?_map, Array.getElem?_toList, Array.getElem?_eq_getElem (show k < s.data.size from h)]
 rfl
def EndA (s : ByteArray) (k : Nat) : Prop := ∃ j, k = j + 1 ∧ j < s.size ∧ atS s j < 128
theorem EndA.le {s : ByteArray} {k : Nat} (h : EndA s k) : k ≤ s.size := by obtain ⟨j, rfl, h, _⟩ := h; omega
theorem EndA.ok {s : ByteArray} {k : Nat} (h : EndA s k) (hs : OKL (sb s)) : OKL ((sb s).drop k) := by
 obtain ⟨j, rfl, h1, h2⟩ := h
 exact (cut_at hs (sb_at h1) h2).2
theorem hexD_hi {c : Int} (h : 0 ≤ hexD c) : c < 128 := by
 unfold hexD at h
 repeat' split at h
 all_goals omega
theorem fourN_last {s : ByteArray} : ∀ (n k : Nat) (r q : Int), fourN s (n + 1) k r = some q → k + n < s.size ∧ atS s (k + n) < 128
  | 0, k, r, q, h => by
    rw [fourN] at h
    split at h
    · rename_i hc
      rw [Bool.and_eq_true, decide_eq_true_eq, decide_eq_true_eq] at hc
      exact ⟨hc.1, hexD_hi hc.2⟩
    · cases h
  | n + 1, k, r, q, h => by
    rw [fourN] at h
    split at h
    · have := fourN_last n (k + 1) _ q h
      rw [show k + (n + 1) = k + 1 + n by omega]
      exact this
    · cases h
theorem four_last {s : ByteArray} {k : Nat} {r : Int} (h : fourS s k = some r) : EndA s (k + 4) := by
 have := fourN_last 3 k 0 r h
 exact ⟨k + 3, rfl, this.1, this.2⟩
theorem escR_ok {s : ByteArray} {k k' : Nat} {r : Int} (h : escR s k = some (r, k')) : k + 4 ≤ k' ∧ EndA s k' := by
  unfold escR at h
  split at h
  · cases h
  · rename_i r0 h4
    split at h
    · cases h; exact ⟨Nat.le_refl _, four_last h4⟩
    · split at h
      · split at h
        · cases h
        · rename_i q0 h6
          split at h
          · cases h
          · cases h; exact ⟨by omega, four_last h6⟩
      · cases h
theorem escB_ok {s : ByteArray} {k k' : Nat} {l : List Int} (h : escB s k = some (l, k')) : OKL l ∧ k + l.length ≤ k' ∧ EndA s k' := by
  unfold escB at h
  split at h
  · split at h
    · cases h
    · rename_i r k2 hr
      split at h
      · rename_i hrune
        cases h
        have h1 := escR_ok hr
        have h2 := encI_len r
        exact ⟨ok_rune hrune, by omega, h1.2⟩
      · cases h
  · split at h
    · rename_i hlt
      have h0 := (atS_lo s k).1
      have e : ∀ c : Int, atS s k < 128 → EndA s (k + 1) := fun c hc => ⟨k, rfl, hlt, hc⟩
      split at h
      · cases h; exact ⟨ok_one h0 (by omega), by simp, e 0 (by omega)⟩
      · split at h
        · cases h; exact ⟨ok_one (by decide) (by decide), by simp, e 0 (by omega)⟩
        · split at h
          · cases h; exact ⟨ok_one (by decide) (by decide), by simp, e 0 (by omega)⟩
          · split at h
            · cases h; exact ⟨ok_one (by decide) (by decide), by simp, e 0 (by omega)⟩
            · split at h
              · cases h; exact ⟨ok_one (by decide) (by decide), by simp, e 0 (by omega)⟩
              · split at h
                · cases h; exact ⟨ok_one (by decide) (by decide), by simp, e 0 (by omega)⟩
                · cases h
    · cases h
theorem qN_ok {s : ByteArray} (hs : OKL (sb s)) : ∀ (n k k0 : Nat) (o0 l : List Int) (k' : Nat), k0 ≤ k → k ≤ s.size → OKL ((sb s).drop k0) → OKL o0 → (o0 ++ ((sb s).drop k0).take (k - k0)).length ≤ k → qN s n k (o0 ++ ((sb s).drop k0).take (k - k0)) = some (l, k') → OKL l ∧ l.length ≤ k' ∧ k < k' ∧ k' ≤ s.size
  | 0, _, _, _, _, _, _, _, _, _, _, h => by rw [qN] at h; cases h
  | n + 1, k, k0, o0, l, k', hk0, hk, hd, ho, hlen, h => by
    rw [qN] at h
    split at h
    · rename_i hlt
      have hat : ((sb s).drop k0)[k - k0]? = some (atS s k) := by rw [List.getElem?_drop, show k0 + (k - k0) = k by omega]; exact sb_at hlt
      split at h
      · cases h
      · split at h
        · rename_i hq
          cases h
          exact ⟨ho.app (cut_at hd hat (by omega)).1, by omega, by omega, by omega⟩
        · split at h
          · rename_i hb
            split at h
            · cases h
            · rename_i l1 k2 he
              obtain ⟨e1, e2, e3⟩ := escB_ok he
              have ho2 := (ho.app (cut_at hd hat (by omega)).1).app e1
              have := qN_ok hs n k2 k2 _ l k' (Nat.le_refl _) e3.le (e3.ok hs) ho2 (by rw [Nat.sub_self, List.take_zero, List.append_nil, List.length_append]; omega) (by rw [Nat.sub_self, List.take_zero, List.append_nil]; exact h)
              exact ⟨this.1, this.2.1, by omega, this.2.2.2⟩
          · have et : ((sb s).drop k0).take (k + 1 - k0) = ((sb s).drop k0).take (k - k0) ++ [atS s k] := by rw [show k + 1 - k0 = (k - k0) + 1 by omega, List.take_add_one, hat]; rfl
            have := qN_ok hs n (k + 1) k0 o0 l k' (by omega) (by omega) hd ho (by rw [et, ← List.append_assoc, List.length_append]; simp only [List.length_cons, List.length_nil]; omega) (by rw [et, ← List.append_assoc]; exact h)
            exact ⟨this.1, this.2.1, by omega, this.2.2.2⟩
    · cases h
theorem quo_ok {s : ByteArray} {k k' : Nat} {l : List Int} (hs : OKL (sb s)) (ht : takeS s k 34 = true) (h : quoS s k = some (l, k')) : OKL l ∧ l.length ≤ k' ∧ k < k' ∧ k' ≤ s.size := by
 obtain ⟨h1, h2⟩ := take_t ht
 have he : EndA s (k + 1) := ⟨k, rfl, h1, by omega⟩
 have := qN_ok hs (s.size + 1) (k + 1) (k + 1) [] l k' (Nat.le_refl _) (by omega) (he.ok hs) ok_nil (by rw [Nat.sub_self, List.take_zero]; simp) (by rw [Nat.sub_self, List.take_zero]; exact h)
 exact ⟨this.1, this.2.1, by omega, this.2.2.2⟩
theorem accN_in {s : ByteArray} : ∀ (i k : Nat) (n m : Int), 0 ≤ n → n ≤ 9007199254740991 → (∀ j, k ≤ j → j < k + i → 48 ≤ atS s j ∧ atS s j ≤ 57) → accN s i k n = some m → 0 ≤ m ∧ m ≤ 9007199254740991
 | 0, _, n, m, h0, h1, _, h => by rw [accN] at h; cases h; exact ⟨h0, h1⟩
 | i + 1, k, n, m, h0, h1, hd, h => by
  rw [accN] at h
  have := hd k (Nat.le_refl _) (by omega)
  split at h
  · cases h
  · exact accN_in i (k + 1) _ m (by omega) (by omega) (fun j h1 h2 => hd j (by omega) (by omega)) h
theorem numT_in {s : ByteArray} {b : Bool} {k k' : Nat} {n : Int} (h : numT s b k = .ok (n, k')) : -9007199254740991 ≤ n ∧ n ≤ 9007199254740991 := by
  unfold numT at h
  split at h
  · split at h
    · cases h
    · cases h; decide
  · split at h
    · cases h
    · split at h
      · cases h
      · rename_i m hm
        have hr := accN_in _ _ _ _ (by decide) (by decide) (fun j h1 h2 => digS_all h1 (by omega)) hm
        cases h
        split <;> omega
theorem numS_in {s : ByteArray} {k k' : Nat} {n : Int} (h : numS s k = .ok (n, k')) : -9007199254740991 ≤ n ∧ n ≤ 9007199254740991 := by
 unfold numS at h
 split at h
 · exact numT_in h
 · exact numT_in h
section
variable {P : Program} {ops : Array Oper} {o : Oper} {N : Nat} {f : Fl} {w : World}
theorem dx_lit8 {t bytes : Nat} {K : IntKind} {n0 n1 n2 n3 n4 n5 n6 n7 : Int} (ho : o.op = .buildSlice t 8 #[(0, .const (.int K n0)), (1, .const (.int K n1)), (2, .const (.int K n2)), (3, .const (.int K n3)), (4, .const (.int K n4)), (5, .const (.int K n5)), (6, .const (.int K n6)), (7, .const (.int K n7))]) (ht : apB P t 1 bytes = true) (hw : wantF ops o f = some true := by rfl) : DR P ops o N f w (NewO 1 w ([n0, n1, n2, n3, n4, n5, n6, n7].map fun n => [.int K n])) := by
 obtain ⟨e, i, Z, hu, hi, hZ, hs, rfl, hzs⟩ := of_apB ht
 refine dx_lit (ps := [(0, .int K n0), (1, .int K n1), (2, .int K n2), (3, .int K n3), (4, .int K n4), (5, .int K n5), (6, .int K n6), (7, .int K n7)]) (rs := [n0, n1, n2, n3, n4, n5, n6, n7].map fun n => [.int K n]) ho hu hi hZ hs (by decide) (by simp [evl, ev]) (by omega) ?_ (by simp) rfl (by unfold maxLen; omega) hw
 rw [if_neg (by decide)]
 have hl : ∀ c : Array Value, c.size = 8 → Instr.fill (fun k => some (k * 1, 1)) c [(0, .int K n0), (1, .int K n1), (2, .int K n2), (3, .int K n3), (4, .int K n4), (5, .int K n5), (6, .int K n6), (7, .int K n7)] = some #[.int K n0, .int K n1, .int K n2, .int K n3, .int K n4, .int K n5, .int K n6, .int K n7] := fun c hc => by
  obtain ⟨l⟩ := c
  match l, hc with
  | [a, b, c, d, e, f, g, h], _ => simp [Instr.fill, Value.cells]
 exact hl _ (by simp)
end
theorem fourN_in {s : ByteArray} : ∀ (n k : Nat) (r q : Int), 0 ≤ r → fourN s n k r = some q → 0 ≤ q ∧ q < (r + 1) * 16 ^ n ∧ (n = 0 ∨ k + n ≤ s.size)
  | 0, k, r, q, h0, h => by rw [fourN] at h; cases h; exact ⟨h0, by simp; omega, .inl rfl⟩
  | n + 1, k, r, q, h0, h => by
    rw [fourN] at h
    split at h
    · rename_i hc
      rw [Bool.and_eq_true, decide_eq_true_eq, decide_eq_true_eq] at hc
      have h16 := hexD_in (c := atS s k) (by omega)
      have h17 := hexD_le (atS s k)
      obtain ⟨a, b, c⟩ := fourN_in n (k + 1) _ q (by omega) h
      refine ⟨a, Int.lt_of_lt_of_le b ?_, .inr (by omega)⟩
      rw [Int.pow_succ, ← Int.mul_assoc, Int.mul_right_comm]
      exact Int.mul_le_mul_of_nonneg_right (by omega) (Int.pow_nonneg (by decide))
    · cases h
theorem four_rng {s : ByteArray} {k : Nat} {r : Int} (h : fourS s k = some r) : 0 ≤ r ∧ r ≤ 65535 ∧ k + 4 ≤ s.size := by
 obtain ⟨a, b, c⟩ := fourN_in 4 k 0 r (by decide) h
 exact ⟨a, by simp at b; omega, by omega⟩
theorem refEncode_cv (u : Value) (r : Int) (w : World) (h : RdI .i32 w u [r]) : CV Try.prog 123 [u] w fun v W => (∃ x, v = .tuple #[x, .int .i64 0] ∧ isRuneB r = true ∧ NewW 1 w.heap.size ((encI r).map e8) x W) ∨ (v = .tuple #[.slice none 0 0, .int .i64 2] ∧ isRuneB r = false) :=
  Calls.mono (ref_encode_any u [r] w h (show 1 ≤ 1000000 by decide)) fun e w' h => by
    obtain ⟨v, c, rfl, hb, h⟩ := h
    refine ⟨_, rfl, ?_, hb⟩
    rcases h with ⟨bs, h1, rfl, h2, h3, h4⟩ | ⟨h1, rfl, rfl⟩
    · cases hr : isRuneB r with
      | false => rw [encS, hr] at h1; cases h1
      | true =>
        rw [encS, hr] at h1
        obtain rfl : encI r ++ [] = bs := Option.some.inj h1
        rw [List.append_nil] at h4
        exact .inl ⟨v, rfl, rfl, .of_row h4⟩
    · cases hr : isRuneB r with
      | true => rw [encS, hr] at h1; cases h1
      | false => exact .inr ⟨rfl, rfl⟩
theorem from_to {i : Nat} (h : i < 8) : ∃ c d : Int, atS ⟨#[34, 92, 47, 98, 102, 110, 114, 116]⟩ i = c ∧ ([34, 92, 47, 8, 12, 10, 13, 9] : List Int)[i]? = some d ∧ ((c = 34 ∧ d = 34) ∨ (c = 92 ∧ d = 92) ∨ (c = 47 ∧ d = 47) ∨ (c = 98 ∧ d = 8) ∨ (c = 102 ∧ d = 12) ∨ (c = 110 ∧ d = 10) ∨ (c = 114 ∧ d = 13) ∨ (c = 116 ∧ d = 9)) := by
 refine ⟨_, _, rfl, List.getElem?_eq_getElem (by simpa using h), ?_⟩
 match i, h with
 | 0, _ => simp; decide
 | 1, _ => simp; decide
 | 2, _ => simp; decide
 | 3, _ => simp; decide
 | 4, _ => simp; decide
 | 5, _ => simp; decide
 | 6, _ => simp; decide
 | 7, _ => simp; decide
 | n + 8, h => omega
theorem from_all {c : Int} (h : ∀ i, i < 8 → c ≠ atS ⟨#[34, 92, 47, 98, 102, 110, 114, 116]⟩ i) : c ≠ 34 ∧ c ≠ 92 ∧ c ≠ 47 ∧ c ≠ 98 ∧ c ≠ 102 ∧ c ≠ 110 ∧ c ≠ 114 ∧ c ≠ 116 := ⟨h 0 (by decide), h 1 (by decide), h 2 (by decide), h 3 (by decide), h 4 (by decide), h 5 (by decide), h 6 (by decide), h 7 (by decide)⟩
theorem escB_to {s : ByteArray} {k : Nat} {c d : Int} (h : k < s.size) (hc : atS s k = c) (hd : (c = 34 ∧ d = 34) ∨ (c = 92 ∧ d = 92) ∨ (c = 47 ∧ d = 47) ∨ (c = 98 ∧ d = 8) ∨ (c = 102 ∧ d = 12) ∨ (c = 110 ∧ d = 10) ∨ (c = 114 ∧ d = 13) ∨ (c = 116 ∧ d = 9)) : escB s k = some ([d], k + 1) := by
 have t : takeS s k 117 = false := by unfold takeS; rw [decide_eq_true h, Bool.true_and]; exact decide_eq_false (by omega)
 rw [escB_g t h hc]
 rcases hd with ⟨rfl, rfl⟩ | ⟨rfl, rfl⟩ | ⟨rfl, rfl⟩ | ⟨rfl, rfl⟩ | ⟨rfl, rfl⟩ | ⟨rfl, rfl⟩ | ⟨rfl, rfl⟩ | ⟨rfl, rfl⟩ <;> rfl
theorem escB_none {s : ByteArray} {k : Nat} {c : Int} (h : k < s.size) (hc : atS s k = c) (hu : c ≠ 117) (hn : c ≠ 34 ∧ c ≠ 92 ∧ c ≠ 47 ∧ c ≠ 98 ∧ c ≠ 102 ∧ c ≠ 110 ∧ c ≠ 114 ∧ c ≠ 116) : escB s k = none := by
 have t : takeS s k 117 = false := by unfold takeS; rw [decide_eq_true h, Bool.true_and]; exact decide_eq_false (by omega)
 rw [escB_g t h hc, if_neg (by omega), if_neg (by omega), if_neg (by omega), if_neg (by omega), if_neg (by omega), if_neg (by omega)]
def escN (s : ByteArray) (k : Nat) : Int × Nat := match fourS s (k + 1) with
 | none => (-1, k + 5)
 | some r => if 55296 ≤ r ∧ r ≤ 56319 ∧ beginS s ⟨#[92, 117]⟩ (k + 5) = true then (match fourS s (k + 7) with
  | none => (r, k + 5)
  | some q => if 56320 ≤ q ∧ q ≤ 57343 then (65536 + (r - 55296) * 1024 + (q - 56320), k + 11) else (r, k + 5)) else (r, k + 5)
theorem begin_two {s : ByteArray} {k : Nat} (hk : k ≤ s.size) : beginS s ⟨#[92, 117]⟩ k = (takeS s k 92 && takeS s (k + 1) 117) := by
 rw [begin_word hk]
 unfold wordS
 show ((List.range 2).all fun i => takeS s (k + i) (atS ⟨#[92, 117]⟩ i)) = _
 rw [show List.range 2 = [0, 1] from rfl]
 simp only [List.all_cons, List.all_nil, Bool.and_true]
 rfl
theorem escB_N {s : ByteArray} {k : Nat} (h : k < s.size) (hc : atS s k = 117) : escB s k = if isRuneB (escN s k).1 = true then some (encI (escN s k).1, (escN s k).2) else none := by
  have t : takeS s k 117 = true := by unfold takeS; rw [decide_eq_true h, Bool.true_and]; exact decide_eq_true hc
  have hm : isRuneB (-1) = false := by decide
  have hs : ∀ r : Int, 55296 ≤ r → r ≤ 56319 → isRuneB r = false := fun r h1 h2 => by
    unfold isRuneB
    simp; omega
  suffices hh : ∀ p : Int × Nat, escN s k = p → escB s k = if isRuneB p.1 = true then some (encI p.1, p.2) else none from hh _ rfl
  intro p hp
  unfold escN at hp
  have no : ∀ {r : Int} {k' : Nat}, isRuneB r = false → (if isRuneB ((r, k') : Int × Nat).1 = true then some (encI ((r, k') : Int × Nat).1, ((r, k') : Int × Nat).2) else none) = none := fun h => if_neg fun h_ => by cases h.symm.trans h_
  cases h4 : fourS s (k + 1) with
  | none => rw [h4] at hp; subst hp; exact (escB_n t rfl (escR_n h4)).trans (no hm).symm
  | some r =>
    obtain ⟨r0, r1, r2⟩ := four_rng h4
    rw [h4] at hp
    dsimp only at hp
    by_cases hr : 55296 ≤ r ∧ r ≤ 56319
    · have hr' : ¬ (r < 55296 ∨ 56319 < r) := by omega
      cases t1 : takeS s (k + 5) 92 with
      | false => rw [if_neg (fun h_ => by rw [begin_two (by omega), t1] at h_; cases h_.2.2)] at hp; subst hp; exact (escB_n t rfl (escR_b h4 hr' rfl t1)).trans (no (hs r hr.1 hr.2)).symm
      | true =>
        cases t2 : takeS s (k + 5 + 1) 117 with
        | false => rw [if_neg (fun h_ => by rw [begin_two (by omega), t1, t2] at h_; cases h_.2.2)] at hp; subst hp; exact (escB_n t rfl (escR_b' h4 hr' rfl t1 rfl t2)).trans (no (hs r hr.1 hr.2)).symm
        | true =>
          rw [if_pos ⟨hr.1, hr.2, by rw [begin_two (by omega), t1, t2]; rfl⟩] at hp
          cases h7 : fourS s (k + 7) with
          | none => rw [h7] at hp; subst hp; exact (escB_n t rfl (escR_c h4 hr' rfl t1 rfl t2 rfl h7)).trans (no (hs r hr.1 hr.2)).symm
          | some q =>
            rw [h7] at hp
            dsimp only at hp
            by_cases hq : 56320 ≤ q ∧ q ≤ 57343
            · rw [if_pos hq] at hp
              subst hp
              have e := escR_e h4 hr' rfl t1 rfl t2 rfl h7 (show ¬ (q < 56320 ∨ 57343 < q) by omega) rfl
              by_cases hb : isRuneB (65536 + (r - 55296) * 1024 + (q - 56320)) = true
              · exact (escB_r t rfl e hb).trans (if_pos hb).symm
              · exact (escB_x t rfl e (Bool.eq_false_iff.2 hb)).trans (no (Bool.eq_false_iff.2 hb)).symm
            · rw [if_neg hq] at hp; subst hp; exact (escB_n t rfl (escR_d h4 hr' rfl t1 rfl t2 rfl h7 (by omega))).trans (no (hs r hr.1 hr.2)).symm
    · rw [if_neg (fun h_ => hr ⟨h_.1, h_.2.1⟩)] at hp
      subst hp
      have e := escR_a h4 (show r < 55296 ∨ 56319 < r by omega) rfl
      by_cases hb : isRuneB r = true
      · exact (escB_r t rfl e hb).trans (if_pos hb).symm
      · exact (escB_x t rfl e (Bool.eq_false_iff.2 hb)).trans (no (Bool.eq_false_iff.2 hb)).symm
section
variable {s : ByteArray} {k y : Nat} {r q x : Int}
theorem escN_n (h : fourS s (k + 1) = none) (ex : x = -1) (ey : y = k + 5) : escN s k = (x, y) := by subst ex ey; unfold escN; rw [h]
theorem escN_a (h : fourS s (k + 1) = some r) (hr : ¬ (55296 ≤ r ∧ r ≤ 56319)) (ex : x = r) (ey : y = k + 5) : escN s k = (x, y) := by
 subst ex ey; unfold escN; rw [h]; dsimp only; rw [if_neg fun h_ => hr ⟨h_.1, h_.2.1⟩]
theorem escN_b (h : fourS s (k + 1) = some r) (hb : beginS s ⟨#[92, 117]⟩ (k + 5) = false) (ex : x = r) (ey : y = k + 5) : escN s k = (x, y) := by
 subst ex ey; unfold escN; rw [h]; dsimp only; rw [if_neg fun h_ => by rw [hb] at h_; cases h_.2.2]
theorem escN_c (h : fourS s (k + 1) = some r) (hr : 55296 ≤ r) (hr' : r ≤ 56319) (hb : beginS s ⟨#[92, 117]⟩ (k + 5) = true) (h7 : fourS s (k + 7) = none) (ex : x = r) (ey : y = k + 5) : escN s k = (x, y) := by
 subst ex ey; unfold escN; rw [h]; dsimp only; rw [if_pos ⟨hr, hr', hb⟩, h7]
theorem escN_d (h : fourS s (k + 1) = some r) (hr : 55296 ≤ r) (hr' : r ≤ 56319) (hb : beginS s ⟨#[92, 117]⟩ (k + 5) = true) (h7 : fourS s (k + 7) = some q) (hq : ¬ (56320 ≤ q ∧ q ≤ 57343)) (ex : x = r) (ey : y = k + 5) : escN s k = (x, y) := by
 subst ex ey; unfold escN; rw [h]; dsimp only; rw [if_pos ⟨hr, hr', hb⟩, h7]; dsimp only; rw [if_neg hq]
theorem escN_e (h : fourS s (k + 1) = some r) (hr : 55296 ≤ r) (hr' : r ≤ 56319) (hb : beginS s ⟨#[92, 117]⟩ (k + 5) = true) (h7 : fourS s (k + 7) = some q) (hq : 56320 ≤ q) (hq' : q ≤ 57343) (ex : x = 65536 + (r - 55296) * 1024 + (q - 56320)) (ey : y = k + 11) : escN s k = (x, y) := by
 subst ex ey; unfold escN; rw [h]; dsimp only; rw [if_pos ⟨hr, hr', hb⟩, h7]; dsimp only; rw [if_pos ⟨hq, hq'⟩]
theorem escB_N1 (h : k < s.size) (hc : atS s k = 117) (e : escN s k = (x, y)) (hr : isRuneB x = true) : escB s k = some (encI x, y) := by rw [escB_N h hc, e]; exact if_pos hr
theorem escB_N0 (h : k < s.size) (hc : atS s k = 117) (e : escN s k = (x, y)) (hr : isRuneB x = false) : escB s k = none := by rw [escB_N h hc, e]; exact if_neg fun h_ => by cases hr.symm.trans h_
theorem begin_le (h : beginS s ⟨#[92, 117]⟩ (k + 5) = true) : k + 7 ≤ s.size := by
 unfold beginS at h
 rw [Bool.and_eq_true, decide_eq_true_eq] at h
 exact h.1
theorem escB_end (h : k = s.size) : escB s k = none := escB_e (by unfold takeS; rw [decide_eq_false (by omega)]; rfl) (by omega)
end
theorem row_one {R : List (List Value)} {i : Nat} {r : List Value} (h : R[i]? = some r) : (R.drop i).take (i + 1 - i) = [r] := by
 obtain ⟨hl, he⟩ := List.getElem?_eq_some_iff.1 h
 rw [List.drop_eq_getElem_cons hl, he, show i + 1 - i = 1 by omega]
 rfl
theorem lit_row {sp : List (List Value)} {i : Nat} {d : Int} (h : ([34, 92, 47, 8, 12, 10, 13, 9] : List Int)[i]? = some d) : ((([34, 92, 47, 8, 12, 10, 13, 9] : List Int).map fun n => [Value.int .u8 n]) ++ sp)[i]? = some (e8 d) := by
 have hl := (List.getElem?_eq_some_iff.1 h).1
 rw [List.getElem?_append_left (by rw [List.length_map]; exact hl), List.getElem?_map, h]
 rfl
theorem refFour_c (s : ByteArray) (ka : Nat) (w : World) (L : List Nat) (hL : LL L w) (hs : s.size ≤ 1000000) (hk : ka ≤ s.size) : CV Try.prog 122 [.string s, .int .i64 (ka : Int)] w fun v W => (∃ r, v = .int .i64 r ∧ fourS s ka = some r ∧ 0 ≤ r ∧ r ≤ 65535 ∧ ka + 4 ≤ s.size) ∨ (v = .int .i64 (-1) ∧ fourS s ka = none) :=
 (refFour_v s ka w L hL hs hk).mono fun v W _ h => by
  subst h
  cases h4 : fourS s ka with
  | none => exact .inr ⟨rfl, rfl⟩
  | some r => obtain ⟨a, b, c⟩ := four_rng h4; exact .inl ⟨r, rfl, rfl, a, b, c⟩
abbrev lit8 : List (List Value) := ([34, 92, 47, 8, 12, 10, 13, 9] : List Int).map fun n => [Value.int .u8 n]
def litR (w : World) (B c : Nat) : Prop := ∃ sp, c = (lit8 ++ sp).length ∧ RwB 1 w B (lit8 ++ sp)
theorem litR.below {w w' : World} {B c : Nat} (h : litR w B c) (hb : Below w.heap.size w w') : litR w' B c := by obtain ⟨sp, e, h⟩ := h; exact ⟨sp, e, h.below hb⟩
theorem litR.len {w : World} {B c : Nat} (h : litR w B c) : 8 ≤ c := by obtain ⟨sp, rfl, h⟩ := h; rw [List.length_append]; exact Nat.le_add_right _ _
theorem litR.row {w : World} {B c i : Nat} {d : Int} (h : litR w B c) (hi : i < 8) (hd : ([34, 92, 47, 8, 12, 10, 13, 9] : List Int)[i]? = some d) : RdF 1 [] w (.slice (some ⟨B, offV c i 0 1, none⟩) (i + 1 - i) (c - i)) ([d].map e8) := by
 have hc := h.len
 obtain ⟨sp, rfl, h⟩ := h
 have hp := h.part (L := []) (by simp) (lo := i) (n := i + 1 - i) (c := (lit8 ++ sp).length - i) (o1 := offV (lit8 ++ sp).length i 0 1) (fun _ => by rw [offV_in (n := 1) (by decide) (by omega)]; omega) (by omega) (by omega)
 rw [row_one (lit_row hd)] at hp
 exact hp
set_option maxHeartbeats 1000000 in
theorem refEsc_v (s : ByteArray) (ka : Nat) (w : World) (L : List Nat) (hL : LL L w)   (hs : s.size ≤ 1000000) (hk : ka ≤ s.size) : CV Try.prog 93 [.string s, .int .i64 (ka : Int)] w fun v W => (∃ (l : List Int) (k' : Nat), v = .tuple #[.string (strOfNums l), .int .i64 (k' : Int)] ∧ escB s ka = some (l, k') ∧ Bytes l ∧ ka + l.length ≤ k' ∧ k' ≤ s.size) ∨ (v = .tuple #[.string ⟨#[]⟩, .int .i64 (-1)] ∧ escB s ka = none) := by
 refine cv_enter (N := 89) (f := [(0, .string s), (1, .int .i64 (ka : Int))]) Try.func93 rfl rfl rfl rfl fun Q hQ hE => ?_
 have hB := Below.refl w.heap.size w
 refine Sq fun K1 hK1 => (Rg (Pu rfl (Pu rfl (Ni (hK1 (Sq fun K2 hK2 => (Sq fun K3 hK3 => ?_)))))))
 refine Rg (Pu rfl (Pu rfl (Va (dx_lenT rfl Try.underlying9 rfl) rfl rfl (Va (dx_geq rfl rfl rfl) rfl rfl (Ni (hK3 ?_))))))
 refine WC.cond rfl (fun c4 => ?_) (fun c4 => ?_)
 ·
  replace c4 := dT c4
  refine Sq fun K5 hK5 => (Rg (Pu rfl (Pu rfl (Ni (hK5 ?_)))))
  exact WC.ret fun a_ ha_ => hQ (cv_ret2 rfl (.tmp rfl) (.tmp rfl) (.inr ⟨rfl, escB_end (by omega)⟩) hB ha_)
 ·
  replace c4 := dF c4
  refine WC.skip (hK2 (Sq fun K6 hK6 => (Rg (Pu rfl (Ni (hK6 (Sq fun K7 hK7 => ?_)))))))
  have hF8 : (⟨#[34, 92, 47, 98, 102, 110, 114, 116]⟩ : ByteArray).size = 8 := rfl
  refine Rg ?_
  refine Ge (dx_lit8 rfl ty_ap_50) rfl rfl ?_
  rintro _ W8 ⟨k10, b9, z11⟩
  replace hB := below_then hB b9
  replace hL := LL.below hL b9
  obtain ⟨c, rfl, h7⟩ : ∃ c, _ = Value.slice (some ⟨w.heap.size, 0, none⟩) 8 c ∧ litR W8 (w.heap.size) c := (by obtain ⟨sp, e_, h_⟩ := k10.open; exact ⟨_, e_, sp, rfl, h_⟩)
  have h7c := h7.len
  refine Pu rfl (Ni (hK7 (Sq fun K13 hK13 => (Sq fun K14 hK14 => (Rg (Pu rfl (Ni ?_)))))))
  refine hK14 (WC.block ?_)
  refine WC.loop (fun (i : Nat) => [(0, .string s), (1, .int .i64 (ka : Int)), (6, .string ({ data := #[34, 92, 47, 98, 102, 110, 114, 116] })), (7, .slice (some ⟨w.heap.size, 0, none⟩) 8 c), (8, .int .i64 (i : Int))]) (fun (i : Nat) W => i ≤ 8 ∧ (∀ j, j < i → atS s ka ≠ atS ⟨#[34, 92, 47, 98, 102, 110, 114, 116]⟩ j) ∧ Below w.heap.size w W ∧ LL (L) W ∧ litR W (w.heap.size) c) (fun (i : Nat) => 8 - i) 0 (by repeat first | exact trivial | exact And.intro rfl trivial | refine And.intro rfl ?_ | refine And.intro (congrArg (fun z : Int => some (Value.int .i64 z)) (by omega)) ?_) ⟨(by omega), (fun j hj => by omega), hB, hL, h7⟩ ?_
  clear h7 hB hL
  rintro K15 i W16 ⟨hi, hv, hB, hL, h7⟩ hK15
  refine Sq fun K17 hK17 => (Sq fun K18 hK18 => (Rg (Pu rfl (Va (dx_lss rfl rfl rfl) rfl rfl (Ni (hK18 ?_))))))
  refine WC.cond rfl (fun c19 => ?_) (fun c19 => ?_)
  ·
   replace c19 := dT c19
   refine WC.skip (hK17 (Sq fun K20 hK20 => (WC.block (Sq fun K21 hK21 => ?_))))
   refine WC.drawM 6 [(some 22, .is (.string s)), (some 23, .is (.int .i64 (ka : Int))), (some 24, .is (.int .u8 (atS s ka))), (some 25, .is (.string ({ data := #[34, 92, 47, 98, 102, 110, 114, 116] }))), (some 26, .is (.int .i64 (i : Int))), (some 27, .is (.int .u8 (atS ({ data := #[34, 92, 47, 98, 102, 110, 114, 116] }) i)))] [[], [], [0, 1], [], [], [3, 4]] (by kernel_rfl) (by kernel_rfl) (by kernel_rfl) (by kernel_rfl) (by kernel_rfl) (by kernel_rfl) (by kernel_rfl) (by exact trivial) ?_ ?_
   ·
    refine Dc (fun Wd hd => ?_) ?_
    ·
     exact Dd (dx_move rfl rfl) rfl
    refine Dc (fun Wd hd => ?_) ?_
    ·
     exact Dd (dx_move rfl rfl) rfl
    refine Dc (fun Wd hd => ?_) ?_
    ·
     exact Dd (dx_at ka rfl Try.underlying9 rfl rfl (by omega) (by omega)) rfl
    refine Dc (fun Wd hd => ?_) ?_
    ·
     exact Dd (dx_move rfl rfl) rfl
    refine Dc (fun Wd hd => ?_) ?_
    ·
     exact Dd (dx_move rfl rfl) rfl
    refine Dc (fun Wd hd => ?_) ?_
    ·
     exact Dd (dx_at i rfl Try.underlying9 rfl rfl (by omega) (by omega)) rfl
    exact trivial
   ·
    intro W22 b23
    replace h7 := h7.below b23
    replace hB := below_then hB b23
    replace hL := LL.below hL b23
    refine Va (dx_eql rfl rfl rfl) rfl rfl (Ni (hK21 ?_))
    refine WC.cond rfl (fun c24 => ?_) (fun c24 => ?_)
    ·
     replace c24 := dT c24
     refine Sq fun K25 hK25 => ?_
     obtain ⟨c0, d0, hc0, hd0, hcd⟩ := from_to (i := i) (by omega)
     refine Rg (Pu rfl (Pu rfl (Pu rfl (Va (dx_add (r := ((i + 1 : Nat) : Int)) rfl rfl rfl (by rw [wrap64_id (by omega)]; omega)) rfl rfl (Va (dx_slLH (s := 1) i (i + 1) rfl ty_slice_50 rfl rfl rfl rfl rfl (by omega) (by omega)) rfl rfl (Va (dx_bs (l := [d0]) rfl Try.underlying50 Try.underlying9 Try.underlying5 rfl (h7.row (by omega) hd0)) rfl rfl (Pu rfl ?_)))))))
     refine Va (dx_add (r := ((ka + 1 : Nat) : Int)) rfl rfl rfl (by rw [wrap64_id (by omega)]; omega)) rfl rfl (Pu rfl (Pu rfl (Ni (hK25 ?_))))
     exact WC.ret fun a_ ha_ => hQ (cv_ret2 rfl (.tmp rfl) (.tmp rfl) (.inl ⟨[d0], ka + 1, rfl, escB_to (by omega) rfl (by rw [show atS s ka = c0 by omega]; exact hcd), bytes_one (by omega), by show ka + 1 ≤ _; omega, by omega⟩) hB ha_)
    ·
     replace c24 := dF c24
     refine WC.skip (hK20 (Rg (Pu rfl (Va (dx_add (r := (i : Int) + 1) rfl rfl rfl (wrap64_id (by omega))) rfl rfl (Pu rfl (Ni ?_))))))
     exact hK15 (i + 1) ⟨(by omega), (fun j hj => by rcases Nat.lt_or_ge j i with h_ | h_; exact hv j h_; (obtain rfl : j = i := by omega); first | assumption | omega), hB, hL, h7⟩ (by omega) (by repeat first | exact trivial | exact And.intro rfl trivial | refine And.intro rfl ?_ | refine And.intro (congrArg (fun z : Int => some (Value.int .i64 z)) (by omega)) ?_)
  ·
   replace c19 := dF c19
   refine WC.exit ?_
   refine hK13 (Sq fun K26 hK26 => (Sq fun K27 hK27 => (Rg (Pu rfl (Pu rfl (Va (dx_at ka rfl Try.underlying9 rfl rfl (by omega) (by omega)) rfl rfl (Va (dx_neq rfl rfl rfl) rfl rfl ?_)))))))
   refine Ni (hK27 ?_)
   refine WC.cond rfl (fun c28 => ?_) (fun c28 => ?_)
   ·
    replace c28 := bnot_t c28
    replace c28 := dF c28
    refine Sq fun K29 hK29 => (Rg (Pu rfl (Pu rfl (Ni (hK29 ?_)))))
    exact WC.ret fun a_ ha_ => hQ (cv_ret2 rfl (.tmp rfl) (.tmp rfl) (.inr ⟨rfl, escB_none (by omega) rfl (by omega) (from_all fun j hj => hv j (by omega))⟩) hB ha_)
   ·
    replace c28 := bnot_f c28
    replace c28 := dT c28
    refine WC.skip (hK26 (Sq fun K30 hK30 => (Rg (Pu rfl (Pu rfl (Va (dx_add (r := ((ka + 1 : Nat) : Int)) rfl rfl rfl (by rw [wrap64_id (by omega)]; omega)) rfl rfl ?_))))))
    refine Ge (dx_cv rfl Try.func122 rfl rfl rfl (refFour_c s (ka + 1) W16 _ hL hs (by omega))) rfl rfl ?_
    rintro _ W44 ⟨(⟨r37, rfl, hf38, hf39, hf40, hf41⟩ | ⟨rfl, hf42⟩), g43⟩
    ·
     replace hB := below_then hB g43
     replace hL := LL.below hL g43
     refine Pu rfl (Ni (hK30 (Sq fun K46 hK46 => (Rg (Pu rfl (Va (dx_add (r := ((ka + 5 : Nat) : Int)) rfl rfl rfl (by rw [wrap64_id (by omega)]; omega)) rfl rfl (Pu rfl ?_)))))))
     refine Ni (hK46 (Sq fun K47 hK47 => (Sq fun K48 hK48 => (Rg (Pu rfl (Va (dx_geq rfl rfl rfl) rfl rfl (Pu rfl ?_)))))))
     refine WL.split 49 rfl (fun g49 => ?_) (fun g49 => ?_)
     ·
      replace g49 := dT g49
      refine Pu rfl (Va (dx_leq rfl rfl rfl) rfl rfl (Pu rfl (Pu rfl ?_)))
      refine WL.split 53 rfl (fun g50 => ?_) (fun g50 => ?_)
      ·
       replace g50 := dT g50
       refine Pu rfl (Pu rfl ?_)
       refine Ge (dx_cv rfl Try.func67 rfl rfl rfl (refBegins_v s ({ data := #[92, 117] }) (ka + 5) W44 _ hL hs (by omega) (by decide))) rfl rfl ?_
       rintro _ W52 ⟨rfl, b51⟩
       replace hB := below_then hB b51
       replace hL := LL.below hL b51
       refine Pu rfl (Ni (hK48 ?_))
       refine WC.cond rfl (fun c53 => ?_) (fun c53 => ?_)
       ·
        refine Sq fun K54 hK54 => ?_
        have hb7 : ka + 7 ≤ s.size := begin_le (by assumption)
        refine Rg (Pu rfl (Pu rfl (Va (dx_add (r := ((ka + 7 : Nat) : Int)) rfl rfl rfl (by rw [wrap64_id (by omega)]; omega)) rfl rfl ?_)))
        refine Ge (dx_cv rfl Try.func122 rfl rfl rfl (refFour_c s (ka + 7) W52 _ hL hs (by omega))) rfl rfl ?_
        rintro _ W68 ⟨(⟨r61, rfl, hf62, hf63, hf64, hf65⟩ | ⟨rfl, hf66⟩), g67⟩
        ·
         replace hB := below_then hB g67
         refine Pu rfl (Ni (hK54 (Sq fun K70 hK70 => (Rg (Pu rfl (Va (dx_geq rfl rfl rfl) rfl rfl (Pu rfl ?_)))))))
         refine WL.split 64 rfl (fun g71 => ?_) (fun g71 => ?_)
         ·
          replace g71 := dT g71
          refine Pu rfl (Va (dx_leq rfl rfl rfl) rfl rfl (Pu rfl (Ni (hK70 ?_))))
          refine WC.cond rfl (fun c72 => ?_) (fun c72 => ?_)
          ·
           replace c72 := dT c72
           refine Sq fun K73 hK73 => (Rg (Pu rfl (Va (dx_sub (r := r37 - 55296) rfl rfl rfl (wrap64_id (by omega))) rfl rfl (Va (dx_mul (r := (r37 - 55296) * 1024) rfl rfl rfl (wrap64_id (by omega))) rfl rfl (Va (dx_add (r := 65536 + ((r37 - 55296) * 1024)) rfl rfl rfl (wrap64_id (by omega))) rfl rfl (Pu rfl (Va (dx_add (r := (65536 + ((r37 - 55296) * 1024)) + r61) rfl rfl rfl (wrap64_id (by omega))) rfl rfl ?_)))))))
           refine Va (dx_sub (r := ((65536 + ((r37 - 55296) * 1024)) + r61) - 56320) rfl rfl rfl (wrap64_id (by omega))) rfl rfl (Pu rfl (Ni (hK73 (Rg (Pu rfl (Va (dx_add (r := ((ka + 11 : Nat) : Int)) rfl rfl rfl (by rw [wrap64_id (by omega)]; omega)) rfl rfl (Pu rfl ?_)))))))
           refine Ni (hK47 (Sq fun K74 hK74 => (Rg (Pu rfl (Va (dx_conv (r := ((65536 + ((r37 - 55296) * 1024)) + r61) - 56320) rfl Try.underlying3 Try.underlying21 rfl (wrap32_id (by omega))) rfl rfl ?_)))))
           refine Ge (dx_lit1 (r := [.int .i32 (((65536 + ((r37 - 55296) * 1024)) + r61) - 56320)]) rfl ty_ap_86 (by decide) (by decide) rfl rfl rfl) rfl rfl ?_
           rintro u79 W75 ⟨k76, b77, z78⟩
           have l80 := hB.size
           replace hB := below_then hB b77
           refine Ge (dx_cv rfl Try.func123 rfl rfl rfl (refEncode_cv u79 (((65536 + ((r37 - 55296) * 1024)) + r61) - 56320) W75 (rdI32_of (k76.rd (L := []) (by simp))))) rfl rfl ?_
           rintro _ W88 ⟨(⟨x84, rfl, hr85, hN86⟩ | ⟨rfl, hr85⟩), g87⟩
           ·
            replace hB := below_then hB g87
            refine Pu rfl (Pu rfl (Pu rfl (Pu rfl (Pu rfl (Ni (hK74 (Sq fun K90 hK90 => ?_)))))))
            refine Sq fun K91 hK91 => (Rg (Pu rfl (Va (dx_neq rfl rfl rfl) rfl rfl (Ni (hK91 (WC.condF rfl (WC.skip ?_)))))))
            refine hK90 (Sq fun K92 hK92 => (Rg (Pu rfl (Va (dx_bs (l := encI (((65536 + ((r37 - 55296) * 1024)) + r61) - 56320)) rfl Try.underlying50 Try.underlying9 Try.underlying5 rfl (hN86.rd (L := []) (by simp))) rfl rfl (Pu rfl (Pu rfl (Pu rfl ?_)))))))
            refine Ni (hK92 ?_)
            exact WC.ret fun a_ ha_ => hQ (cv_ret2 rfl (.tmp rfl) (.tmp rfl) (.inl ⟨encI (((65536 + ((r37 - 55296) * 1024)) + r61) - 56320), ka + 11, rfl, escB_N1 (by omega) (by omega) (by first | exact escN_n (by assumption) (by omega) rfl | (apply escN_a <;> first | assumption | rfl | omega; done) | (apply escN_b <;> first | assumption | rfl | omega; done) | (apply escN_c <;> first | assumption | rfl | omega; done) | (apply escN_d <;> first | assumption | rfl | omega; done) | (apply escN_e <;> first | assumption | rfl | omega; done)) hr85, encI_bytes (isRune_in hr85).1 (isRune_in hr85).2, (by have := encI_len (((65536 + ((r37 - 55296) * 1024)) + r61) - 56320); omega), by omega⟩) hB ha_)
           ·
            replace hB := below_then hB g87
            refine Pu rfl (Pu rfl (Pu rfl (Pu rfl (Pu rfl (Ni (hK74 (Sq fun K93 hK93 => ?_)))))))
            refine Sq fun K94 hK94 => (Rg (Pu rfl (Va (dx_neq rfl rfl rfl) rfl rfl (Ni (hK94 (WC.condT rfl (Sq fun K95 hK95 => ?_)))))))
            refine Rg (Pu rfl (Pu rfl (Ni (hK95 ?_))))
            exact WC.ret fun a_ ha_ => hQ (cv_ret2 rfl (.tmp rfl) (.tmp rfl) (.inr ⟨rfl, escB_N0 (x := (((65536 + ((r37 - 55296) * 1024)) + r61) - 56320)) (by omega) (by omega) (by first | exact escN_n (by assumption) (by omega) rfl | (apply escN_a <;> first | assumption | rfl | omega; done) | (apply escN_b <;> first | assumption | rfl | omega; done) | (apply escN_c <;> first | assumption | rfl | omega; done) | (apply escN_d <;> first | assumption | rfl | omega; done) | (apply escN_e <;> first | assumption | rfl | omega; done)) (by assumption)⟩) hB ha_)
          ·
           replace c72 := dF c72
           refine WC.skip (hK47 (Sq fun K96 hK96 => (Rg (Pu rfl (Va (dx_conv (r := r37) rfl Try.underlying3 Try.underlying21 rfl (wrap32_id (by omega))) rfl rfl ?_)))))
           refine Ge (dx_lit1 (r := [.int .i32 r37]) rfl ty_ap_86 (by decide) (by decide) rfl rfl rfl) rfl rfl ?_
           rintro u101 W97 ⟨k98, b99, z100⟩
           have l102 := hB.size
           replace hB := below_then hB b99
           refine Ge (dx_cv rfl Try.func123 rfl rfl rfl (refEncode_cv u101 r37 W97 (rdI32_of (k98.rd (L := []) (by simp))))) rfl rfl ?_
           rintro _ W110 ⟨(⟨x106, rfl, hr107, hN108⟩ | ⟨rfl, hr107⟩), g109⟩
           ·
            replace hB := below_then hB g109
            refine Pu rfl (Pu rfl (Pu rfl (Pu rfl (Pu rfl (Ni (hK96 (Sq fun K112 hK112 => ?_)))))))
            refine Sq fun K113 hK113 => (Rg (Pu rfl (Va (dx_neq rfl rfl rfl) rfl rfl (Ni (hK113 (WC.condF rfl (WC.skip ?_)))))))
            refine hK112 (Sq fun K114 hK114 => (Rg (Pu rfl (Va (dx_bs (l := encI r37) rfl Try.underlying50 Try.underlying9 Try.underlying5 rfl (hN108.rd (L := []) (by simp))) rfl rfl (Pu rfl (Pu rfl (Pu rfl ?_)))))))
            refine Ni (hK114 ?_)
            exact WC.ret fun a_ ha_ => hQ (cv_ret2 rfl (.tmp rfl) (.tmp rfl) (.inl ⟨encI r37, ka + 5, rfl, escB_N1 (by omega) (by omega) (by first | exact escN_n (by assumption) (by omega) rfl | (apply escN_a <;> first | assumption | rfl | omega; done) | (apply escN_b <;> first | assumption | rfl | omega; done) | (apply escN_c <;> first | assumption | rfl | omega; done) | (apply escN_d <;> first | assumption | rfl | omega; done) | (apply escN_e <;> first | assumption | rfl | omega; done)) hr107, encI_bytes (isRune_in hr107).1 (isRune_in hr107).2, (by have := encI_len r37; omega), by omega⟩) hB ha_)
           ·
            replace hB := below_then hB g109
            refine Pu rfl (Pu rfl (Pu rfl (Pu rfl (Pu rfl (Ni (hK96 (Sq fun K115 hK115 => ?_)))))))
            refine Sq fun K116 hK116 => (Rg (Pu rfl (Va (dx_neq rfl rfl rfl) rfl rfl (Ni (hK116 (WC.condT rfl (Sq fun K117 hK117 => ?_)))))))
            refine Rg (Pu rfl (Pu rfl (Ni (hK117 ?_))))
            exact WC.ret fun a_ ha_ => hQ (cv_ret2 rfl (.tmp rfl) (.tmp rfl) (.inr ⟨rfl, escB_N0 (x := r37) (by omega) (by omega) (by first | exact escN_n (by assumption) (by omega) rfl | (apply escN_a <;> first | assumption | rfl | omega; done) | (apply escN_b <;> first | assumption | rfl | omega; done) | (apply escN_c <;> first | assumption | rfl | omega; done) | (apply escN_d <;> first | assumption | rfl | omega; done) | (apply escN_e <;> first | assumption | rfl | omega; done)) (by assumption)⟩) hB ha_)
         ·
          replace g71 := dF g71
          refine Of rfl (Of rfl (Pu rfl (Ni (hK70 (WC.condF rfl (WC.skip (hK47 ?_)))))))
          refine Sq fun K118 hK118 => (Rg (Pu rfl (Va (dx_conv (r := r37) rfl Try.underlying3 Try.underlying21 rfl (wrap32_id (by omega))) rfl rfl ?_)))
          refine Ge (dx_lit1 (r := [.int .i32 r37]) rfl ty_ap_86 (by decide) (by decide) rfl rfl rfl) rfl rfl ?_
          rintro u123 W119 ⟨k120, b121, z122⟩
          have l124 := hB.size
          replace hB := below_then hB b121
          refine Ge (dx_cv rfl Try.func123 rfl rfl rfl (refEncode_cv u123 r37 W119 (rdI32_of (k120.rd (L := []) (by simp))))) rfl rfl ?_
          rintro _ W132 ⟨(⟨x128, rfl, hr129, hN130⟩ | ⟨rfl, hr129⟩), g131⟩
          ·
           replace hB := below_then hB g131
           refine Pu rfl (Pu rfl (Pu rfl (Pu rfl (Pu rfl (Ni (hK118 (Sq fun K134 hK134 => ?_)))))))
           refine Sq fun K135 hK135 => (Rg (Pu rfl (Va (dx_neq rfl rfl rfl) rfl rfl (Ni (hK135 (WC.condF rfl (WC.skip ?_)))))))
           refine hK134 (Sq fun K136 hK136 => (Rg (Pu rfl (Va (dx_bs (l := encI r37) rfl Try.underlying50 Try.underlying9 Try.underlying5 rfl (hN130.rd (L := []) (by simp))) rfl rfl (Pu rfl (Pu rfl (Pu rfl ?_)))))))
           refine Ni (hK136 ?_)
           exact WC.ret fun a_ ha_ => hQ (cv_ret2 rfl (.tmp rfl) (.tmp rfl) (.inl ⟨encI r37, ka + 5, rfl, escB_N1 (by omega) (by omega) (by first | exact escN_n (by assumption) (by omega) rfl | (apply escN_a <;> first | assumption | rfl | omega; done) | (apply escN_b <;> first | assumption | rfl | omega; done) | (apply escN_c <;> first | assumption | rfl | omega; done) | (apply escN_d <;> first | assumption | rfl | omega; done) | (apply escN_e <;> first | assumption | rfl | omega; done)) hr129, encI_bytes (isRune_in hr129).1 (isRune_in hr129).2, (by have := encI_len r37; omega), by omega⟩) hB ha_)
          ·
           replace hB := below_then hB g131
           refine Pu rfl (Pu rfl (Pu rfl (Pu rfl (Pu rfl (Ni (hK118 (Sq fun K137 hK137 => ?_)))))))
           refine Sq fun K138 hK138 => (Rg (Pu rfl (Va (dx_neq rfl rfl rfl) rfl rfl (Ni (hK138 (WC.condT rfl (Sq fun K139 hK139 => ?_)))))))
           refine Rg (Pu rfl (Pu rfl (Ni (hK139 ?_))))
           exact WC.ret fun a_ ha_ => hQ (cv_ret2 rfl (.tmp rfl) (.tmp rfl) (.inr ⟨rfl, escB_N0 (x := r37) (by omega) (by omega) (by first | exact escN_n (by assumption) (by omega) rfl | (apply escN_a <;> first | assumption | rfl | omega; done) | (apply escN_b <;> first | assumption | rfl | omega; done) | (apply escN_c <;> first | assumption | rfl | omega; done) | (apply escN_d <;> first | assumption | rfl | omega; done) | (apply escN_e <;> first | assumption | rfl | omega; done)) (by assumption)⟩) hB ha_)
        ·
         replace hB := below_then hB g67
         refine Pu rfl (Ni (hK54 (Sq fun K140 hK140 => (Rg (Pu rfl (Va (dx_geq rfl rfl rfl) rfl rfl (Pu rfl ?_)))))))
         refine Of rfl (Of rfl (Pu rfl (Ni (hK140 (WC.condF rfl (WC.skip (hK47 ?_)))))))
         refine Sq fun K141 hK141 => (Rg (Pu rfl (Va (dx_conv (r := r37) rfl Try.underlying3 Try.underlying21 rfl (wrap32_id (by omega))) rfl rfl ?_)))
         refine Ge (dx_lit1 (r := [.int .i32 r37]) rfl ty_ap_86 (by decide) (by decide) rfl rfl rfl) rfl rfl ?_
         rintro u146 W142 ⟨k143, b144, z145⟩
         have l147 := hB.size
         replace hB := below_then hB b144
         refine Ge (dx_cv rfl Try.func123 rfl rfl rfl (refEncode_cv u146 r37 W142 (rdI32_of (k143.rd (L := []) (by simp))))) rfl rfl ?_
         rintro _ W155 ⟨(⟨x151, rfl, hr152, hN153⟩ | ⟨rfl, hr152⟩), g154⟩
         ·
          replace hB := below_then hB g154
          refine Pu rfl (Pu rfl (Pu rfl (Pu rfl (Pu rfl (Ni (hK141 (Sq fun K157 hK157 => ?_)))))))
          refine Sq fun K158 hK158 => (Rg (Pu rfl (Va (dx_neq rfl rfl rfl) rfl rfl (Ni (hK158 (WC.condF rfl (WC.skip ?_)))))))
          refine hK157 (Sq fun K159 hK159 => (Rg (Pu rfl (Va (dx_bs (l := encI r37) rfl Try.underlying50 Try.underlying9 Try.underlying5 rfl (hN153.rd (L := []) (by simp))) rfl rfl (Pu rfl (Pu rfl (Pu rfl ?_)))))))
          refine Ni (hK159 ?_)
          exact WC.ret fun a_ ha_ => hQ (cv_ret2 rfl (.tmp rfl) (.tmp rfl) (.inl ⟨encI r37, ka + 5, rfl, escB_N1 (by omega) (by omega) (by first | exact escN_n (by assumption) (by omega) rfl | (apply escN_a <;> first | assumption | rfl | omega; done) | (apply escN_b <;> first | assumption | rfl | omega; done) | (apply escN_c <;> first | assumption | rfl | omega; done) | (apply escN_d <;> first | assumption | rfl | omega; done) | (apply escN_e <;> first | assumption | rfl | omega; done)) hr152, encI_bytes (isRune_in hr152).1 (isRune_in hr152).2, (by have := encI_len r37; omega), by omega⟩) hB ha_)
         ·
          replace hB := below_then hB g154
          refine Pu rfl (Pu rfl (Pu rfl (Pu rfl (Pu rfl (Ni (hK141 (Sq fun K160 hK160 => ?_)))))))
          refine Sq fun K161 hK161 => (Rg (Pu rfl (Va (dx_neq rfl rfl rfl) rfl rfl (Ni (hK161 (WC.condT rfl (Sq fun K162 hK162 => ?_)))))))
          refine Rg (Pu rfl (Pu rfl (Ni (hK162 ?_))))
          exact WC.ret fun a_ ha_ => hQ (cv_ret2 rfl (.tmp rfl) (.tmp rfl) (.inr ⟨rfl, escB_N0 (x := r37) (by omega) (by omega) (by first | exact escN_n (by assumption) (by omega) rfl | (apply escN_a <;> first | assumption | rfl | omega; done) | (apply escN_b <;> first | assumption | rfl | omega; done) | (apply escN_c <;> first | assumption | rfl | omega; done) | (apply escN_d <;> first | assumption | rfl | omega; done) | (apply escN_e <;> first | assumption | rfl | omega; done)) (by assumption)⟩) hB ha_)
       ·
        refine WC.skip (hK47 (Sq fun K163 hK163 => (Rg (Pu rfl (Va (dx_conv (r := r37) rfl Try.underlying3 Try.underlying21 rfl (wrap32_id (by omega))) rfl rfl ?_)))))
        refine Ge (dx_lit1 (r := [.int .i32 r37]) rfl ty_ap_86 (by decide) (by decide) rfl rfl rfl) rfl rfl ?_
        rintro u168 W164 ⟨k165, b166, z167⟩
        have l169 := hB.size
        replace hB := below_then hB b166
        refine Ge (dx_cv rfl Try.func123 rfl rfl rfl (refEncode_cv u168 r37 W164 (rdI32_of (k165.rd (L := []) (by simp))))) rfl rfl ?_
        rintro _ W177 ⟨(⟨x173, rfl, hr174, hN175⟩ | ⟨rfl, hr174⟩), g176⟩
        ·
         replace hB := below_then hB g176
         refine Pu rfl (Pu rfl (Pu rfl (Pu rfl (Pu rfl (Ni (hK163 (Sq fun K179 hK179 => ?_)))))))
         refine Sq fun K180 hK180 => (Rg (Pu rfl (Va (dx_neq rfl rfl rfl) rfl rfl (Ni (hK180 (WC.condF rfl (WC.skip ?_)))))))
         refine hK179 (Sq fun K181 hK181 => (Rg (Pu rfl (Va (dx_bs (l := encI r37) rfl Try.underlying50 Try.underlying9 Try.underlying5 rfl (hN175.rd (L := []) (by simp))) rfl rfl (Pu rfl (Pu rfl (Pu rfl ?_)))))))
         refine Ni (hK181 ?_)
         exact WC.ret fun a_ ha_ => hQ (cv_ret2 rfl (.tmp rfl) (.tmp rfl) (.inl ⟨encI r37, ka + 5, rfl, escB_N1 (by omega) (by omega) (by first | exact escN_n (by assumption) (by omega) rfl | (apply escN_a <;> first | assumption | rfl | omega; done) | (apply escN_b <;> first | assumption | rfl | omega; done) | (apply escN_c <;> first | assumption | rfl | omega; done) | (apply escN_d <;> first | assumption | rfl | omega; done) | (apply escN_e <;> first | assumption | rfl | omega; done)) hr174, encI_bytes (isRune_in hr174).1 (isRune_in hr174).2, (by have := encI_len r37; omega), by omega⟩) hB ha_)
        ·
         replace hB := below_then hB g176
         refine Pu rfl (Pu rfl (Pu rfl (Pu rfl (Pu rfl (Ni (hK163 (Sq fun K182 hK182 => ?_)))))))
         refine Sq fun K183 hK183 => (Rg (Pu rfl (Va (dx_neq rfl rfl rfl) rfl rfl (Ni (hK183 (WC.condT rfl (Sq fun K184 hK184 => ?_)))))))
         refine Rg (Pu rfl (Pu rfl (Ni (hK184 ?_))))
         exact WC.ret fun a_ ha_ => hQ (cv_ret2 rfl (.tmp rfl) (.tmp rfl) (.inr ⟨rfl, escB_N0 (x := r37) (by omega) (by omega) (by first | exact escN_n (by assumption) (by omega) rfl | (apply escN_a <;> first | assumption | rfl | omega; done) | (apply escN_b <;> first | assumption | rfl | omega; done) | (apply escN_c <;> first | assumption | rfl | omega; done) | (apply escN_d <;> first | assumption | rfl | omega; done) | (apply escN_e <;> first | assumption | rfl | omega; done)) (by assumption)⟩) hB ha_)
      ·
       replace g50 := dF g50
       refine Of rfl (Of rfl (Of rfl (Pu rfl (Ni (hK48 (WC.condF rfl (WC.skip ?_)))))))
       refine hK47 (Sq fun K185 hK185 => (Rg (Pu rfl (Va (dx_conv (r := r37) rfl Try.underlying3 Try.underlying21 rfl (wrap32_id (by omega))) rfl rfl ?_))))
       refine Ge (dx_lit1 (r := [.int .i32 r37]) rfl ty_ap_86 (by decide) (by decide) rfl rfl rfl) rfl rfl ?_
       rintro u190 W186 ⟨k187, b188, z189⟩
       have l191 := hB.size
       replace hB := below_then hB b188
       refine Ge (dx_cv rfl Try.func123 rfl rfl rfl (refEncode_cv u190 r37 W186 (rdI32_of (k187.rd (L := []) (by simp))))) rfl rfl ?_
       rintro _ W199 ⟨(⟨x195, rfl, hr196, hN197⟩ | ⟨rfl, hr196⟩), g198⟩
       ·
        replace hB := below_then hB g198
        refine Pu rfl (Pu rfl (Pu rfl (Pu rfl (Pu rfl (Ni (hK185 (Sq fun K201 hK201 => ?_)))))))
        refine Sq fun K202 hK202 => (Rg (Pu rfl (Va (dx_neq rfl rfl rfl) rfl rfl (Ni (hK202 (WC.condF rfl (WC.skip ?_)))))))
        refine hK201 (Sq fun K203 hK203 => (Rg (Pu rfl (Va (dx_bs (l := encI r37) rfl Try.underlying50 Try.underlying9 Try.underlying5 rfl (hN197.rd (L := []) (by simp))) rfl rfl (Pu rfl (Pu rfl (Pu rfl ?_)))))))
        refine Ni (hK203 ?_)
        exact WC.ret fun a_ ha_ => hQ (cv_ret2 rfl (.tmp rfl) (.tmp rfl) (.inl ⟨encI r37, ka + 5, rfl, escB_N1 (by omega) (by omega) (by first | exact escN_n (by assumption) (by omega) rfl | (apply escN_a <;> first | assumption | rfl | omega; done) | (apply escN_b <;> first | assumption | rfl | omega; done) | (apply escN_c <;> first | assumption | rfl | omega; done) | (apply escN_d <;> first | assumption | rfl | omega; done) | (apply escN_e <;> first | assumption | rfl | omega; done)) hr196, encI_bytes (isRune_in hr196).1 (isRune_in hr196).2, (by have := encI_len r37; omega), by omega⟩) hB ha_)
       ·
        replace hB := below_then hB g198
        refine Pu rfl (Pu rfl (Pu rfl (Pu rfl (Pu rfl (Ni (hK185 (Sq fun K204 hK204 => ?_)))))))
        refine Sq fun K205 hK205 => (Rg (Pu rfl (Va (dx_neq rfl rfl rfl) rfl rfl (Ni (hK205 (WC.condT rfl (Sq fun K206 hK206 => ?_)))))))
        refine Rg (Pu rfl (Pu rfl (Ni (hK206 ?_))))
        exact WC.ret fun a_ ha_ => hQ (cv_ret2 rfl (.tmp rfl) (.tmp rfl) (.inr ⟨rfl, escB_N0 (x := r37) (by omega) (by omega) (by first | exact escN_n (by assumption) (by omega) rfl | (apply escN_a <;> first | assumption | rfl | omega; done) | (apply escN_b <;> first | assumption | rfl | omega; done) | (apply escN_c <;> first | assumption | rfl | omega; done) | (apply escN_d <;> first | assumption | rfl | omega; done) | (apply escN_e <;> first | assumption | rfl | omega; done)) (by assumption)⟩) hB ha_)
     ·
      replace g49 := dF g49
      refine Of rfl (Of rfl (Pu rfl (Pu rfl (Of rfl (Of rfl (Of rfl (Pu rfl ?_)))))))
      refine Ni (hK48 (WC.condF rfl (WC.skip (hK47 (Sq fun K207 hK207 => (Rg (Pu rfl ?_)))))))
      refine Va (dx_conv (r := r37) rfl Try.underlying3 Try.underlying21 rfl (wrap32_id (by omega))) rfl rfl ?_
      refine Ge (dx_lit1 (r := [.int .i32 r37]) rfl ty_ap_86 (by decide) (by decide) rfl rfl rfl) rfl rfl ?_
      rintro u212 W208 ⟨k209, b210, z211⟩
      have l213 := hB.size
      replace hB := below_then hB b210
      refine Ge (dx_cv rfl Try.func123 rfl rfl rfl (refEncode_cv u212 r37 W208 (rdI32_of (k209.rd (L := []) (by simp))))) rfl rfl ?_
      rintro _ W221 ⟨(⟨x217, rfl, hr218, hN219⟩ | ⟨rfl, hr218⟩), g220⟩
      ·
       replace hB := below_then hB g220
       refine Pu rfl (Pu rfl (Pu rfl (Pu rfl (Pu rfl (Ni (hK207 (Sq fun K223 hK223 => ?_)))))))
       refine Sq fun K224 hK224 => (Rg (Pu rfl (Va (dx_neq rfl rfl rfl) rfl rfl (Ni (hK224 (WC.condF rfl (WC.skip ?_)))))))
       refine hK223 (Sq fun K225 hK225 => (Rg (Pu rfl (Va (dx_bs (l := encI r37) rfl Try.underlying50 Try.underlying9 Try.underlying5 rfl (hN219.rd (L := []) (by simp))) rfl rfl (Pu rfl (Pu rfl (Pu rfl ?_)))))))
       refine Ni (hK225 ?_)
       exact WC.ret fun a_ ha_ => hQ (cv_ret2 rfl (.tmp rfl) (.tmp rfl) (.inl ⟨encI r37, ka + 5, rfl, escB_N1 (by omega) (by omega) (by first | exact escN_n (by assumption) (by omega) rfl | (apply escN_a <;> first | assumption | rfl | omega; done) | (apply escN_b <;> first | assumption | rfl | omega; done) | (apply escN_c <;> first | assumption | rfl | omega; done) | (apply escN_d <;> first | assumption | rfl | omega; done) | (apply escN_e <;> first | assumption | rfl | omega; done)) hr218, encI_bytes (isRune_in hr218).1 (isRune_in hr218).2, (by have := encI_len r37; omega), by omega⟩) hB ha_)
      ·
       replace hB := below_then hB g220
       refine Pu rfl (Pu rfl (Pu rfl (Pu rfl (Pu rfl (Ni (hK207 (Sq fun K226 hK226 => ?_)))))))
       refine Sq fun K227 hK227 => (Rg (Pu rfl (Va (dx_neq rfl rfl rfl) rfl rfl (Ni (hK227 (WC.condT rfl (Sq fun K228 hK228 => ?_)))))))
       refine Rg (Pu rfl (Pu rfl (Ni (hK228 ?_))))
       exact WC.ret fun a_ ha_ => hQ (cv_ret2 rfl (.tmp rfl) (.tmp rfl) (.inr ⟨rfl, escB_N0 (x := r37) (by omega) (by omega) (by first | exact escN_n (by assumption) (by omega) rfl | (apply escN_a <;> first | assumption | rfl | omega; done) | (apply escN_b <;> first | assumption | rfl | omega; done) | (apply escN_c <;> first | assumption | rfl | omega; done) | (apply escN_d <;> first | assumption | rfl | omega; done) | (apply escN_e <;> first | assumption | rfl | omega; done)) (by assumption)⟩) hB ha_)
    ·
     replace hB := below_then hB g43
     refine Pu rfl (Ni (hK30 (Sq fun K229 hK229 => (Rg (Pu rfl (Va (dx_add (r := ((ka + 5 : Nat) : Int)) rfl rfl rfl (by rw [wrap64_id (by omega)]; omega)) rfl rfl (Pu rfl ?_)))))))
     refine Ni (hK229 (Sq fun K230 hK230 => (Sq fun K231 hK231 => (Rg (Pu rfl (Va (dx_geq rfl rfl rfl) rfl rfl (Pu rfl ?_)))))))
     refine Of rfl (Of rfl (Pu rfl (Pu rfl (Of rfl (Of rfl (Of rfl (Pu rfl ?_)))))))
     refine Ni (hK231 (WC.condF rfl (WC.skip (hK230 (Sq fun K232 hK232 => (Rg (Pu rfl ?_)))))))
     refine Va (dx_conv (r := (-1)) rfl Try.underlying3 Try.underlying21 rfl (by decide)) rfl rfl ?_
     refine Ge (dx_lit1 (r := [.int .i32 (-1)]) rfl ty_ap_86 (by decide) (by decide) rfl rfl rfl) rfl rfl ?_
     rintro u237 W233 ⟨k234, b235, z236⟩
     have l238 := hB.size
     replace hB := below_then hB b235
     refine Ge (dx_cv rfl Try.func123 rfl rfl rfl (refEncode_cv u237 (-1) W233 (rdI32_of (k234.rd (L := []) (by simp))))) rfl rfl ?_
     rintro _ W246 ⟨(⟨x242, rfl, hr243, hN244⟩ | ⟨rfl, hr243⟩), g245⟩
     ·
      replace hB := below_then hB g245
      refine Pu rfl (Pu rfl (Pu rfl (Pu rfl (Pu rfl (Ni (hK232 (Sq fun K248 hK248 => ?_)))))))
      refine Sq fun K249 hK249 => (Rg (Pu rfl (Va (dx_neq rfl rfl rfl) rfl rfl (Ni (hK249 (WC.condF rfl (WC.skip ?_)))))))
      refine hK248 (Sq fun K250 hK250 => (Rg (Pu rfl (Va (dx_bs (l := encI (-1)) rfl Try.underlying50 Try.underlying9 Try.underlying5 rfl (hN244.rd (L := []) (by simp))) rfl rfl (Pu rfl (Pu rfl (Pu rfl ?_)))))))
      refine Ni (hK250 ?_)
      exact WC.ret fun a_ ha_ => hQ (cv_ret2 rfl (.tmp rfl) (.tmp rfl) (absurd hr243 (by decide)) hB ha_)
     ·
      replace hB := below_then hB g245
      refine Pu rfl (Pu rfl (Pu rfl (Pu rfl (Pu rfl (Ni (hK232 (Sq fun K251 hK251 => ?_)))))))
      refine Sq fun K252 hK252 => (Rg (Pu rfl (Va (dx_neq rfl rfl rfl) rfl rfl (Ni (hK252 (WC.condT rfl (Sq fun K253 hK253 => ?_)))))))
      refine Rg (Pu rfl (Pu rfl (Ni (hK253 ?_))))
      exact WC.ret fun a_ ha_ => hQ (cv_ret2 rfl (.tmp rfl) (.tmp rfl) (.inr ⟨rfl, escB_N0 (x := (-1)) (by omega) (by omega) (by first | exact escN_n (by assumption) (by omega) rfl | (apply escN_a <;> first | assumption | rfl | omega; done) | (apply escN_b <;> first | assumption | rfl | omega; done) | (apply escN_c <;> first | assumption | rfl | omega; done) | (apply escN_d <;> first | assumption | rfl | omega; done) | (apply escN_e <;> first | assumption | rfl | omega; done)) (by assumption)⟩) hB ha_)

theorem refEsc_at {s : ByteArray} (hs : s.size ≤ 1000000) : EscAt s := fun k w L hL hk => refEsc_v s k w L hL hs hk
section
variable {P : Program} {N : Nat} {Q : Exit → Act → World → Prop} {f : Fl} {w : World}
theorem WC.loop4 {α β γ δ : Type} {c : Code} (fr : α → β → γ → δ → Fl) (I : α → β → γ → δ → World → Prop) (μ : α → β → γ → δ → Nat) (a0 : α) (b0 : β) (c0 : γ) (d0 : δ) (hs : Sub (fr a0 b0 c0 d0) f) (h0 : I a0 b0 c0 d0 w)
  (round : ∀ (K : Act → World → Prop) a b c' d w, I a b c' d w → (∀ {f' w'} (a' : α) (b' : β) (c'' : γ) (d' : δ), I a' b' c'' d' w' → μ a' b' c'' d' < μ a b c' d → Sub (fr a' b' c'' d') f' → ∀ x, Fr N x f' → K x w') → WC P N c (Exit.then K Q) (fr a b c' d) w) : WC P N (.loop c) Q f w :=
 WC.loop (σ := α × β × γ × δ) (fun s => fr s.1 s.2.1 s.2.2.1 s.2.2.2) (fun s => I s.1 s.2.1 s.2.2.1 s.2.2.2) (fun s => μ s.1 s.2.1 s.2.2.1 s.2.2.2) (a0, b0, c0, d0) hs h0 fun K s w hI hK => round K s.1 s.2.1 s.2.2.1 s.2.2.2 w hI fun a' b' c' d' h1 h2 h3 => hK (a', b', c', d') h1 h2 h3
end
end Go.Proofs.Ytpinidlfcifeeaa
