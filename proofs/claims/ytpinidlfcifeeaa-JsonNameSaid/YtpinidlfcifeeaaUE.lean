/- A name, a colon and a value; an object. An object; values of every text. Trees in the reference. Trees in the reference: deep, Get, same, Weigh. A slice of two structures of five cells that is written out. No program stands here. The fixed fact; what is too great. Trees in lists; what is asked of trees. A region whose order is drawn, any operation of which may write: an invariant of what has run, of its values and of the world. No program stands here. -/
import Derived.Test.YtpinidlfcifeeaaUD
namespace Go.Proofs.Ytpinidlfcifeeaa
open Go.RowKit
set_option linter.unusedVariables false
set_option linter.unusedSimpArgs false
set_option maxRecDepth 8000

abbrev StO := List ByteArray × List Js
def pairN (s : ByteArray) (vs : Nat → Except Int (Js × Nat)) (nm : ByteArray) (k1 : Nat) (st : StO) : Except Int (StO × Nat) :=
 if st.1[lbT nm st.1]? = some nm then .error 6 else if takeS s (blankS s k1) 58 = true then (match vs (blankS s (blankS s k1 + 1)) with
  | .error e => .error e
  | .ok (t, k5) => .ok ((insA (lbT nm st.1) nm st.1, insA (lbT nm st.1) t st.2), k5)) else .error 2
def pairS (s : ByteArray) (vs : Nat → Except Int (Js × Nat)) (k : Nat) (st : StO) : Except Int (StO × Nat) :=
 if takeS s k 34 = true then (match quoS s k with
  | none => .error 2
  | some (l, k1) => pairN s vs (strOfNums l) k1 st) else .error 2
section
variable {s nm : ByteArray} {vs : Nat → Except Int (Js × Nat)} {k k1 k2 k3 k4 k5 a : Nat} {st : StO} {l : List Int} {e c d : Int} {t : Js}
theorem pairS_0 (h : takeS s k 34 = false) : pairS s vs k st = .error 2 := by unfold pairS; rw [h]; rfl
theorem pairS_q (h : takeS s k 34 = true) (hq : quoS s k = none) : pairS s vs k st = .error 2 := by unfold pairS; rw [h, if_pos rfl, hq]
theorem pairS_n (h : takeS s k 34 = true) (hq : quoS s k = some (l, k1)) (hn : nm = strOfNums l) : pairS s vs k st = pairN s vs nm k1 st := by subst hn; unfold pairS; rw [h, if_pos rfl, hq]
theorem pairN_t (ha : a = lbT nm st.1) (h : st.1[a]? = some nm) : pairN s vs nm k1 st = .error 6 := by subst ha; unfold pairN; rw [if_pos h]
theorem pairN_c (ha : a = lbT nm st.1) (h : ¬ st.1[a]? = some nm) (e2 : k2 = blankS s k1) (q : takeS s k2 58 = false) : pairN s vs nm k1 st = .error 2 := by subst ha e2; unfold pairN; rw [if_neg h, q]; rfl
theorem pairN_e (ha : a = lbT nm st.1) (h : ¬ st.1[a]? = some nm) (e2 : k2 = blankS s k1) (q : takeS s k2 58 = true) (e3 : k3 = k2 + 1) (e4 : k4 = blankS s k3) (hv : vs k4 = .error e) : pairN s vs nm k1 st = .error e := by subst ha e4 e3 e2; unfold pairN; rw [if_neg h, q, if_pos rfl, hv]
theorem pairN_k (ha : a = lbT nm st.1) (h : ¬ st.1[a]? = some nm) (e2 : k2 = blankS s k1) (q : takeS s k2 58 = true) (e3 : k3 = k2 + 1) (e4 : k4 = blankS s k3) (hv : vs k4 = .ok (t, k5)) : pairN s vs nm k1 st = .ok ((insA a nm st.1, insA a t st.2), k5) := by subst ha e4 e3 e2; unfold pairN; rw [if_neg h, q, if_pos rfl, hv]
theorem take_nc (h2 : k < s.size → c = atS s k) (h : ¬ c = d) : takeS s k d = false := by
 unfold takeS
 cases hlt : decide (k < s.size) with
 | false => rfl
 | true => rw [Bool.true_and]; exact decide_eq_false (fun e => h ((h2 (of_decide_eq_true hlt)).trans e))
end
/-- Names and items that a call gathers: nil, or rows of its own in two blocks, whose trees lie elsewhere. -/
def MembI (n b : Nat) (L : List Nat) (nv : Value) (ns : List ByteArray) (iv : Value) (ts : List Tr) (W : World) : Prop := (∀ x ∈ L, x < b) ∧ ((nv = .slice none 0 0 ∧ iv = .slice none 0 0 ∧ ns = [] ∧ ts = []) ∨ ∃ Bn Bi, Bn ≠ Bi ∧ b ≤ Bn ∧ b ≤ Bi ∧ OwS 1 W nv (ns.map eS) Bn ∧ OwS 5 W iv (ts.map encT) Bi ∧ RdTs n (Bn :: Bi :: L) W ts)
theorem MembI.chgL {n b : Nat} {L : List Nat} {nv iv : Value} {ns : List ByteArray} {ts : List Tr} {W W' : World} (h : MembI n b L nv ns iv ts W) {P : Nat} (g : Chg P W W') (hP : P ∈ L) : MembI n b L nv ns iv ts W' := by
  obtain ⟨h0, h | ⟨Bn, Bi, h1, h2, h3, h4, h5, h6⟩⟩ := h
  · exact ⟨h0, .inl h⟩
  · have := h0 P hP
    exact ⟨h0, .inr ⟨Bn, Bi, h1, h2, h3, h4.chgL g (by omega), h5.chgL g (by omega), h6.chgL g (.tail _ (.tail _ hP))⟩⟩
theorem MembI.below {n b : Nat} {L : List Nat} {nv iv : Value} {ns : List ByteArray} {ts : List Tr} {W W' : World} (h : MembI n b L nv ns iv ts W) (g : Below W.heap.size W W') : MembI n b L nv ns iv ts W' := by
  obtain ⟨h0, h | ⟨Bn, Bi, h1, h2, h3, h4, h5, h6⟩⟩ := h
  · exact ⟨h0, .inl h⟩
  · exact ⟨h0, .inr ⟨Bn, Bi, h1, h2, h3, h4.below g, h5.below g, h6.below g⟩⟩
theorem MembI.only {n b : Nat} {L : List Nat} {nv iv : Value} {ns : List ByteArray} {ts : List Tr} {W W' : World} (h : MembI n b L nv ns iv ts W) {C : Nat} (g : Only C W W') (hC : C ∈ L) : MembI n b L nv ns iv ts W' := by
  obtain ⟨h0, h | ⟨Bn, Bi, h1, h2, h3, h4, h5, h6⟩⟩ := h
  · exact ⟨h0, .inl h⟩
  · have := h0 C hC
    exact ⟨h0, .inr ⟨Bn, Bi, h1, h2, h3, h4.other g (by omega), h5.other g (by omega), h6.only g (.tail _ (.tail _ hC))⟩⟩
theorem MembI.one {n b : Nat} {L : List Nat} {nv iv : Value} {ns : List ByteArray} {ts : List Tr} {W : World} (h : MembI n b L nv ns iv ts W) : nv.oneCell' = true ∧ iv.oneCell' = true := by
  obtain ⟨h0, ⟨rfl, rfl, _⟩ | ⟨Bn, Bi, h1, h2, h3, h4, h5, h6⟩⟩ := h
  · exact ⟨rfl, rfl⟩
  · exact ⟨h4.one, h5.one⟩
theorem MembI.tree {n b : Nat} {L L' : List Nat} {nv iv : Value} {ns : List ByteArray} {ts : List Tr} {W : World} (h : MembI n b L nv ns iv ts W) (hl : ∀ x, x ∈ L' → x ∈ L) (k m : Int) (t : ByteArray) : RdT (n + 1) L' W (.mk k m t nv ns iv ts) := by
  obtain ⟨h0, ⟨rfl, rfl, rfl, rfl⟩ | ⟨Bn, Bi, h1, h2, h3, h4, h5, h6⟩⟩ := h
  · exact ⟨RdF.nil (by decide), RdF.nil (by decide), fun c hc => by cases hc⟩
  · exact ⟨h4.rd (fun hx => by have := h0 Bn (hl Bn hx); omega), h5.rd (fun hx => by have := h0 Bi (hl Bi hx); omega), fun c hc => (h6 c hc).less fun x hx => .tail _ (.tail _ (hl x hx))⟩
abbrev vO (nv iv : Value) : List Value := [.int .i64 6, .int .i64 0, .string ⟨#[]⟩, nv, iv]
def PairI (n b V : Nat) (L : List Nat) (st : StO) (W : World) : Prop := ∃ nv iv ts, ts.map Tr.er = st.2 ∧ Rises st.1 ∧ st.1.length = ts.length ∧ Blk W V (vO nv iv) ∧ MembI n b L nv st.1 iv ts W
def ObjI (n b Bp V P : Nat) (L : List Nat) (st : StO) (W : World) : Prop := Blk W Bp [.pointer (some ⟨P, 0, none⟩)] ∧ PairI n b V L st W
theorem fiveO {V : Nat} {nv iv : Value} {W : World} (h : Blk W V (vO nv iv)) (h1 : nv.oneCell' = true) (h2 : iv.oneCell' = true) : FiveE V W := ⟨_, rfl, oc_cons rfl (oc_cons rfl (oc_cons rfl (oc_cons h1 (oc_cons h2 oc_nil)))), h⟩
theorem objI_five {n b Bp V P : Nat} {L : List Nat} : ∀ (st : StO) (W : World), ObjI n b Bp V P L st W → FiveE V W := fun _ _ ⟨_, _, _, _, _, _, _, h2, h3⟩ => fiveO h2 h3.one.1 h3.one.2
theorem objI_chg {n b Bp V P : Nat} {L : List Nat} (h1 : Bp ≠ P) (h2 : V ≠ P) (hP : P ∈ L) : ∀ (st : StO) (W W' : World), ObjI n b Bp V P L st W → Chg P W W' → ObjI n b Bp V P L st W' := fun _ _ _ ⟨a1, nv, iv, ts, he, hr, hl, a2, a3⟩ g => ⟨a1.chg g h1, nv, iv, ts, he, hr, hl, a2.chg g h2, a3.chgL g hP⟩
def objS (s : ByteArray) (vs : Nat → Except Int (Js × Nat)) (k : Nat) : Except Int (Js × Nat) := match memS s (pairS s vs) 125 k ([], []) with
 | .error e => .error e
 | .ok (st, k') => .ok (.mk 6 0 ⟨#[]⟩ st.1 st.2, k')
def H3 (A : Bool) (W0 : World) (D : Nat) (iv : Value) (rows : List (List Value)) (l8 : Bool) (W : World) : Prop := Chg D W0 W ∧ (A = false → l8 = false → OwS 5 W iv rows D)
def rel3 (A : Bool) (D : Nat) : RelL := fun k W W' => if k = 8 then (if A = true then Below W.heap.size W W' else Chg D W W') else Below W.heap.size W W'
def p7 (A : Bool) (W0 : World) (D : Nat) (tr : List Value) (u : Value) (W : World) : Prop := ∃ C, (A = false → C ≠ D) ∧ W0.heap.size ≤ C ∧ OwS 5 W u [tr] C
def p8 (A : Bool) (W0 : World) (D : Nat) (R : List (List Value)) (u : Value) (W : World) : Prop := ∃ B, ((A = false ∧ B = D) ∨ W0.heap.size ≤ B) ∧ OwS 5 W u R B
abbrev sd3 (A : Bool) (W0 : World) (V D a : Nat) (iv : Value) (tr : List Value) (R : List (List Value)) : List (Option Tmp × VS) :=
 [(some 65, .is (.pointer (some ⟨V, 0, none⟩))), (some 66, .is (.pointer (some ⟨V, 0, none⟩))), (some 67, .is (.pointer (some ⟨V, 0, none⟩))), (some 68, .is (.pointer (some ⟨V, 4, none⟩))), (some 69, .is iv), (some 70, .is (.int .i64 (a : Int))), (some 71, .is (.agg tr.toArray)), (some 72, .by (p7 A W0 D tr)), (some 73, .by (p8 A W0 D R))]
theorem p7_rel {A : Bool} {W0 W W' : World} {D i : Nat} {tr : List Value} {u : Value} (hr : rel3 A D i W W') (h : p7 A W0 D tr u W) : p7 A W0 D tr u W' := by
  obtain ⟨C, h1, h2, h3⟩ := h
  refine ⟨C, h1, h2, ?_⟩
  unfold rel3 at hr
  cases A with
  | true => simp at hr; exact h3.below hr
  | false =>
    split at hr
    · exact h3.chgL hr (h1 rfl)
    · exact h3.below hr
theorem p8_rel {A : Bool} {W0 W W' : World} {D i : Nat} {R : List (List Value)} {u : Value} (hi : i ≠ 8) (hr : rel3 A D i W W') (h : p8 A W0 D R u W) : p8 A W0 D R u W' := by
 obtain ⟨C, h1, h3⟩ := h
 unfold rel3 at hr
 rw [if_neg hi] at hr
 exact ⟨C, h1, h3.below hr⟩
theorem mono3 {A : Bool} {W0 : World} {V D a m : Nat} {iv : Value} {tr : List Value} {R : List (List Value)} {dl : List (List Nat)} : MonoL m (rel3 A D) (sd3 A W0 V D a iv tr R) dl := by
 intro i hi j hne hnd u W W' hr h
 match j, hne, h with
 | 0, _, h => exact h
 | 1, _, h => exact h
 | 2, _, h => exact h
 | 3, _, h => exact h
 | 4, _, h => exact h
 | 5, _, h => exact h
 | 6, _, h => exact h
 | 7, _, h => exact p7_rel hr h
 | 8, hne, h => exact p8_rel (fun e => hne e.symm) hr h
 | _ + 9, _, _ => exact trivial
theorem begin3 {A : Bool} {W0 : World} {D : Nat} {iv : Value} {rows : List (List Value)} (hA : A = false → OwS 5 W0 iv rows D) : H3 A W0 D iv rows false W0.drew := by
 have hb : Below W0.heap.size W0 W0.drew := below_draws (Below.refl _ _) 1
 exact ⟨(Chg.refl D W0).thenB hb, fun a _ => (hA a).below hb⟩
theorem rel_o3 {A : Bool} {D k : Nat} {W W' : World} (h8 : k ≠ 8) (h : Below W.heap.size W W') : rel3 A D k W W' := by unfold rel3; rw [if_neg h8]; exact h
theorem lit3 {A : Bool} {W0 W W' : World} {D : Nat} {iv : Value} {rows : List (List Value)} {l8 : Bool} (h : H3 A W0 D iv rows l8 W) (hb : Below W.heap.size W W') : H3 A W0 D iv rows l8 W' := ⟨h.1.thenB hb, fun a b => (h.2 a b).below hb⟩
theorem Chg.toBelow {D : Nat} {W W' : World} (h : Chg D W W') (hD : W.heap.size ≤ D) : Below W.heap.size W W' := ⟨h.os, h.tape, h.output, h.size, fun k hk => h.block k hk (by omega)⟩
theorem insN_map {α β : Type} (f : α → β) (x : α) (k : Nat) : (insA k x []).map f = [f x] := by
 unfold insA
 simp
abbrev PairAt (n : Nat) (vs : Nat → Except Int (Js × Nat)) (s : ByteArray) (dp : Nat) : Prop := ∀ (b V P : Nat) (L : List Nat) (ka : Nat) (st : StO) (W : World), LL L W → P ∈ L → V ∈ L → V ≠ P → (∀ x ∈ L, x < b) → b ≤ W.heap.size → ka ≤ s.size → Blk W P (psC s ka dp) → PairI n b V L st W → st.1.length ≤ ka →
 CX Try.prog 91 [.pointer (some ⟨P, 0, none⟩), .pointer (some ⟨V, 0, none⟩)] W (ChgV b P V) (fun v W' => (∃ k' st', v = .int .i64 0 ∧ pairS s vs ka st = .ok (st', k') ∧ ka < k' ∧ k' ≤ s.size ∧ st'.1.length ≤ k' ∧ PairI n b V L st' W' ∧ Blk W' P (psC s k' dp)) ∨ (∃ k' e, v = .int .i64 e ∧ e ≠ 0 ∧ pairS s vs ka st = .error e ∧ k' ≤ s.size ∧ FiveE V W' ∧ Blk W' P (psC s k' dp)))
abbrev ObjAt (n : Nat) (vs : Nat → Except Int (Js × Nat)) (s : ByteArray) (dp : Nat) : Prop := ∀ (b Bp V P : Nat) (L : List Nat) (ka : Nat) (st : StO) (W : World), LL L W → P ∈ L → V ∈ L → Bp ∈ L → Bp ≠ P → V ≠ P → Bp ≠ V → (∀ x ∈ L, x < b) → b ≤ W.heap.size → ka ≤ s.size → Blk W P (psC s ka dp) → ObjI n b Bp V P L st W → st.1.length ≤ ka →
 CX Try.prog 90 [.pointer (some ⟨Bp, 0, none⟩), .pointer (some ⟨V, 0, none⟩)] W (ChgV b P V) (fun v W' => (∃ k' st', v = .int .i64 0 ∧ pairS s vs ka st = .ok (st', k') ∧ ka < k' ∧ k' ≤ s.size ∧ st'.1.length ≤ k' ∧ ObjI n b Bp V P L st' W' ∧ Blk W' P (psC s k' dp)) ∨ (∃ k' e, v = .int .i64 e ∧ e ≠ 0 ∧ pairS s vs ka st = .error e ∧ k' ≤ s.size ∧ FiveE V W' ∧ Blk W' P (psC s k' dp)))
theorem bsearchA_v (ts : List ByteArray) (x : ByteArray) (tv : Value) (w : World) (L : List Nat) (hL : LL L w) (h3 : RdF 1 L w tv (ts.map eS)) (hr : Rises ts) (hsm : ts.length ≤ 1000000000000) : CV Try.prog 49 [tv, .string x] w fun v W => ∃ k : Nat, k = lbT x ts ∧ k ≤ ts.length ∧ v = .tuple #[.int .i64 (k : Int), .bool (decide (ts[k]? = some x))] :=
 (bsearch_v ts x tv w L hL h3 hr hsm).mono fun v w' _ h => ⟨_, rfl, lbT_le x ts, h⟩
set_option maxHeartbeats 1000000 in
theorem pair_v (n : Nat) (vs : Nat → Except Int (Js × Nat)) (s : ByteArray) (dp : Nat) (hs : s.size ≤ 1000000) (hv : ValAt (n + 1) vs s dp) : PairAt (n + 1) vs s dp := by
 intro b V P L ka st w hL hPL hVL hVP hLb hbw hk hp hI hlka
 obtain ⟨ns, js⟩ := st
 obtain ⟨nv, iv, ts, he, hris, hlen, hV, hI0, hI⟩ := hI
 simp only at he hris hlen hlka hI
 subst he
 have hsm : ts.length ≤ 1000000 := by omega
 rcases hI with ⟨rfl, rfl, rfl, rfl⟩ | ⟨Bn, Bi, hni, hbn, hbi, hOn, hOi, hts⟩
 ·
  refine cx_enter (N := 76) (f := [(0, .pointer (some ⟨P, 0, none⟩)), (1, .pointer (some ⟨V, 0, none⟩))]) Try.func91 rfl rfl rfl rfl fun Q hQ hE_ => ?_
  have hB := ChgV.refl b P V w
  refine WC.seq fun K1 hK1 => ?_
  refine WC.region ?_
  refine WL.val (dx_assign rfl rfl) rfl rfl ?_
  refine WL.nil ?_
  refine hK1 ?_
  refine WC.seq fun K2 hK2 => ?_
  refine WC.seq fun K3 hK3 => ?_
  refine WC.region ?_
  refine WL.val (dx_move rfl rfl) rfl rfl ?_
  refine WL.val (dx_nilCheck rfl rfl) rfl rfl ?_
  refine WL.val (dx_fld (o1 := 0) rfl ty_fld_55_0_0 rfl rfl) rfl rfl ?_
  refine WL.get (dx_cv rfl Try.func59 rfl rfl rfl (peek_c s P ka dp w _ hL hPL hs (by omega) hp)) rfl rfl ?_
  rintro _ W25 ⟨⟨c19, rfl, hc20, hc21, hc22, hc23⟩, b24⟩
  replace hp := hp.below b24
  replace hV := hV.below b24
  replace hB := hB.both (.of_below (b24.mono (Nat.le_trans hbw hB.size)))
  replace hL := LL.below hL b24
  refine WL.val (dx_neq rfl rfl rfl) rfl rfl ?_
  refine WL.nil ?_
  refine hK3 ?_
  refine WC.cond rfl (fun c26 => ?_) (fun c26 => ?_)
  ·
   replace c26 := bnot_t c26
   replace c26 := of_decide_eq_false c26
   refine WC.seq fun K27 hK27 => ?_
   refine WC.region ?_
   refine WL.val (dx_assign rfl rfl) rfl rfl ?_
   refine WL.nil ?_
   refine hK27 ?_
   refine WC.ret fun a_ ha_ => ?_
   exact hQ (cx_ret1 rfl (.tmp rfl) (.inr ⟨ka, 2, rfl, by decide, pairS_0 (take_nc hc22 (by assumption)), by omega, (fiveO hV rfl rfl), hp⟩) hB ha_)
  ·
   replace c26 := bnot_f c26
   replace c26 := of_decide_eq_true c26
   refine WC.skip ?_
   refine hK2 ?_
   refine WC.seq fun K28 hK28 => ?_
   refine WC.region ?_
   refine WL.val (dx_move rfl rfl) rfl rfl ?_
   refine WL.get (dx_cw rfl Try.func62 rfl rfl rfl (quoted_v s P ka dp W25 _ hL hPL hs (by omega) hp (take_of (by rcases Nat.lt_or_ge ka s.size with h_ | h_; exact h_; (have := hc23 h_; omega)) (by have h_ : ka < s.size := (by rcases Nat.lt_or_ge ka s.size with h_ | h_; exact h_; (have := hc23 h_; omega)); have := hc22 h_; omega)))) rfl rfl ?_
   rintro _ W56 ⟨(⟨k42, l44, rfl, hw45, hw46, hw47, hw48, hw49, hp57⟩ | ⟨k43, rfl, hw50, hw51, hp57⟩), g55⟩
   ·
    replace hV := hV.chg g55 hVP
    replace hB := hB.chg g55 (Nat.le_trans hbw hB.size)
    replace hL := hL.chg g55
    obtain ⟨nm54, hnm⟩ : ∃ x, x = strOfNums l44 := ⟨_, rfl⟩
    rw [← hnm]
    refine WL.val (dx_move rfl rfl) rfl rfl ?_
    refine WL.val (dx_extract rfl rfl rfl) rfl rfl ?_
    refine WL.val (dx_extract rfl rfl rfl) rfl rfl ?_
    refine WL.val (dx_assign rfl rfl) rfl rfl ?_
    refine WL.val (dx_assign rfl rfl) rfl rfl ?_
    refine WL.nil ?_
    refine hK28 ?_
    refine WC.seq fun K58 hK58 => ?_
    refine WC.seq fun K59 hK59 => ?_
    refine WC.region ?_
    refine WL.val (dx_move rfl rfl) rfl rfl ?_
    refine WL.val (dx_neq rfl rfl rfl) rfl rfl ?_
    refine WL.nil ?_
    refine hK59 ?_
    refine WC.condF rfl ?_
    refine WC.skip ?_
    refine hK58 ?_
    refine WC.seq fun K60 hK60 => ?_
    refine WC.region ?_
    refine WL.val (dx_move rfl rfl) rfl rfl ?_
    refine WL.val (dx_nilCheck rfl rfl) rfl rfl ?_
    refine WL.val (dx_fld (o1 := 3) rfl ty_fld_26_3_3 rfl rfl) rfl rfl ?_
    refine WL.val (dx_load rfl ty_one_23 rfl (hV.cell (k := 3) rfl)) rfl rfl ?_
    refine WL.val (dx_move rfl rfl) rfl rfl ?_
    refine WL.get (dx_cv rfl Try.func49 rfl rfl rfl (bsearchA_v ([] : List ByteArray) nm54 _ W56 [] (LL.nil _) (RdF.nil (L := []) (by decide)) hris (by first | omega | simp))) rfl rfl ?_
    rintro _ W62 ⟨⟨at_, hat, hatl, rfl⟩, b61⟩
    replace hp57 := hp57.below b61
    replace hV := hV.below b61
    replace hB := hB.both (.of_below (b61.mono (Nat.le_trans hbw hB.size)))
    replace hL := LL.below hL b61
    have hat0 : at_ = 0 := by simpa using hatl
    refine WL.val (dx_move rfl rfl) rfl rfl ?_
    refine WL.val (dx_extract rfl rfl rfl) rfl rfl ?_
    refine WL.val (dx_extract rfl rfl rfl) rfl rfl ?_
    refine WL.val (dx_assign rfl rfl) rfl rfl ?_
    refine WL.val (dx_assign rfl rfl) rfl rfl ?_
    refine WL.nil ?_
    refine hK60 ?_
    refine WC.seq fun K63 hK63 => ?_
    refine WC.seq fun K64 hK64 => ?_
    refine WC.region ?_
    refine WL.val (dx_move rfl rfl) rfl rfl ?_
    refine WL.nil ?_
    refine hK64 ?_
    refine WC.cond rfl (fun c65 => ?_) (fun c65 => ?_)
    ·
     replace c65 := of_decide_eq_true c65
     refine WC.seq fun K66 hK66 => ?_
     refine WC.region ?_
     refine WL.val (dx_assign rfl rfl) rfl rfl ?_
     refine WL.nil ?_
     refine hK66 ?_
     refine WC.ret fun a_ ha_ => ?_
     exact hQ (cx_ret1 rfl (.tmp rfl) (.inr ⟨k42, 6, rfl, by decide, (pairS_n (take_of (by rcases Nat.lt_or_ge ka s.size with h_ | h_; exact h_; (have := hc23 h_; omega)) (by have h_ : ka < s.size := (by rcases Nat.lt_or_ge ka s.size with h_ | h_; exact h_; (have := hc23 h_; omega)); have := hc22 h_; omega)) hw45 hnm).trans (pairN_t hat (by assumption)), by omega, (fiveO hV rfl rfl), hp57⟩) hB ha_)
    ·
     replace c65 := of_decide_eq_false c65
     refine WC.skip ?_
     refine hK63 ?_
     refine WC.seq fun K67 hK67 => ?_
     refine WC.region ?_
     refine WL.val (dx_move rfl rfl) rfl rfl ?_
     refine WL.val (dx_nilCheck rfl rfl) rfl rfl ?_
     refine WL.val (dx_fld (o1 := 0) rfl ty_fld_55_0_0 rfl rfl) rfl rfl ?_
     refine WL.get (dx_cw rfl Try.func33 rfl rfl rfl (blanks_v s P k42 dp W62 _ hL hPL hs (by omega) hp57)) rfl rfl ?_
     rintro _ W78 ⟨hp79, g77⟩
     replace hV := hV.chg g77 hVP
     replace hB := hB.chg g77 (Nat.le_trans hbw hB.size)
     replace hL := hL.chg g77
     obtain ⟨k74, hk75⟩ : ∃ k, k = blankS s k42 := ⟨_, rfl⟩
     rw [← hk75] at hp79
     have hk76 := blankS_le (s := s) (k := k42) (by omega)
     rw [← hk75] at hk76
     refine WL.nil ?_
     refine hK67 ?_
     refine WC.seq fun K80 hK80 => ?_
     refine WC.seq fun K81 hK81 => ?_
     refine WC.region ?_
     refine WL.val (dx_move rfl rfl) rfl rfl ?_
     refine WL.val (dx_nilCheck rfl rfl) rfl rfl ?_
     refine WL.val (dx_fld (o1 := 0) rfl ty_fld_55_0_0 rfl rfl) rfl rfl ?_
     refine WL.get (dx_cw rfl Try.func58 rfl rfl rfl (take_v 58 s P k74 dp W78 _ hL hPL hs (by omega) hp79)) rfl rfl ?_
     rintro _ W92 ⟨⟨k88, rfl, hk89, hk90, hp93⟩, g91⟩
     replace hV := hV.chg g91 hVP
     replace hB := hB.chg g91 (Nat.le_trans hbw hB.size)
     replace hL := hL.chg g91
     cases hT94 : takeS s k74 58 with
     | false =>
      rw [hT94] at hk89
      replace hk89 : k74 = k88 := Eq.symm hk89
      subst hk89
      refine WL.val (dx_not rfl rfl) rfl rfl ?_
      refine WL.nil ?_
      refine hK81 ?_
      refine WC.condT rfl ?_
      refine WC.seq fun K95 hK95 => ?_
      refine WC.region ?_
      refine WL.val (dx_assign rfl rfl) rfl rfl ?_
      refine WL.nil ?_
      refine hK95 ?_
      refine WC.ret fun a_ ha_ => ?_
      exact hQ (cx_ret1 rfl (.tmp rfl) (.inr ⟨k74, 2, rfl, by decide, (pairS_n (take_of (by rcases Nat.lt_or_ge ka s.size with h_ | h_; exact h_; (have := hc23 h_; omega)) (by have h_ : ka < s.size := (by rcases Nat.lt_or_ge ka s.size with h_ | h_; exact h_; (have := hc23 h_; omega)); have := hc22 h_; omega)) hw45 hnm).trans (by apply pairN_c (a := at_) <;> first | assumption | omega), by omega, (fiveO hV rfl rfl), hp93⟩) hB ha_)
     | true =>
      rw [hT94] at hk89
      have hthT94 := take_t hT94
      replace hk89 : k88 = k74 + 1 := hk89
      refine WL.val (dx_not rfl rfl) rfl rfl ?_
      refine WL.nil ?_
      refine hK81 ?_
      refine WC.condF rfl ?_
      refine WC.skip ?_
      refine hK80 ?_
      refine WC.seq fun K96 hK96 => ?_
      refine WC.region ?_
      refine WL.val (dx_move rfl rfl) rfl rfl ?_
      refine WL.val (dx_nilCheck rfl rfl) rfl rfl ?_
      refine WL.val (dx_fld (o1 := 0) rfl ty_fld_55_0_0 rfl rfl) rfl rfl ?_
      refine WL.get (dx_cw rfl Try.func33 rfl rfl rfl (blanks_v s P k88 dp W92 _ hL hPL hs (by omega) hp93)) rfl rfl ?_
      rintro _ W107 ⟨hp108, g106⟩
      replace hV := hV.chg g106 hVP
      replace hB := hB.chg g106 (Nat.le_trans hbw hB.size)
      replace hL := hL.chg g106
      obtain ⟨k103, hk104⟩ : ∃ k, k = blankS s k88 := ⟨_, rfl⟩
      rw [← hk104] at hp108
      have hk105 := blankS_le (s := s) (k := k88) (by omega)
      rw [← hk104] at hk105
      refine WL.nil ?_
      refine hK96 ?_
      refine WC.seq fun K109 hK109 => ?_
      refine WC.region ?_
      refine WL.val (dx_move rfl rfl) rfl rfl ?_
      refine WL.get (dx_cw rfl Try.func34 rfl rfl rfl (hv P k103 W107 _ hL hPL (by omega) hp108)) rfl rfl ?_
      rintro _ W137 ⟨(⟨k123, t125, rfl, hw127, hw128, hw129, hw130, hp138⟩ | ⟨k124, e126, rfl, hw131, hw132, hw133, hp138⟩), g136⟩
      ·
       replace hV := hV.chg g136 hVP
       replace hB := hB.chg g136 (Nat.le_trans hbw hB.size)
       replace hL := hL.chg g136
       refine WL.val (dx_move rfl rfl) rfl rfl ?_
       refine WL.val (dx_extract rfl rfl rfl) rfl rfl ?_
       refine WL.val (dx_extract rfl rfl rfl) rfl rfl ?_
       refine WL.get (dx_alloc rfl ty_zero_26 rfl) rfl rfl ?_
       rintro _ W139 ⟨rfl, k140, b141, z142⟩
       have n143 : P ≠ W137.heap.size := Nat.ne_of_lt hp138.lt
       have n144 : V ≠ W137.heap.size := Nat.ne_of_lt hV.lt
       have l145 := hB.size
       replace hw128 := hw128.more b141 (Nat.le_refl _)
       replace hp138 := hp138.below b141
       replace hV := hV.below b141
       replace hB := hB.both (.of_below (b141.mono (Nat.le_trans hbw hB.size)))
       replace hL := LL.more hL z142
       refine WL.do (dx_store (cs' := [.int .i64 t125.kind, .int .i64 t125.num, .string t125.text, t125.nv, t125.iv]) (vs := [.int .i64 t125.kind, .int .i64 t125.num, .string t125.text, t125.nv, t125.iv]) rfl ty_size_26_5 rfl rfl rfl (oc_cons rfl (oc_cons rfl (oc_cons rfl (oc_cons (hw128.1).one (oc_cons (hw128.2.1).one oc_nil))))) k140 rfl (Nat.le_of_ble_eq_true rfl) rfl) rfl ?_
       rintro _ W146 ⟨k148, o147⟩
       replace hp138 := hp138.other o147 n143
       replace hV := hV.other o147 n144
       clear k140
       replace hw128 := hw128.only o147 (.head _)
       replace hB := hB.both (.of_only o147 (.inr (.inr (Nat.le_trans hbw l145))))
       replace hL := LL.only hL o147
       refine WL.val (dx_assign rfl rfl) rfl rfl ?_
       refine WL.nil ?_
       refine hK109 ?_
       refine WC.seq fun K149 hK149 => ?_
       refine WC.seq fun K150 hK150 => ?_
       refine WC.region ?_
       refine WL.val (dx_move rfl rfl) rfl rfl ?_
       refine WL.val (dx_neq rfl rfl rfl) rfl rfl ?_
       refine WL.nil ?_
       refine hK150 ?_
       refine WC.condF rfl ?_
       refine WC.skip ?_
       refine hK149 ?_
       refine WC.seq fun K151 hK151 => ?_
       refine WC.region ?_
       refine WL.val (dx_move rfl rfl) rfl rfl ?_
       refine WL.val (dx_move rfl rfl) rfl rfl ?_
       refine WL.val (dx_nilCheck rfl rfl) rfl rfl ?_
       refine WL.val (dx_fld (o1 := 3) rfl ty_fld_26_3_3 rfl rfl) rfl rfl ?_
       refine WL.val (dx_load rfl ty_one_23 rfl (hV.cell (k := 3) rfl)) rfl rfl ?_
       refine WL.val (dx_move rfl rfl) rfl rfl ?_
       refine WL.val (dx_move rfl rfl) rfl rfl ?_
       refine WL.get (dx_lit1 (r := [.string nm54]) rfl ty_ap_23 (by decide) (by decide) rfl rfl rfl) rfl rfl ?_
       rintro u156 W152 ⟨k153, b154, z155⟩
       have n158 : V ≠ W146.heap.size := Nat.ne_of_lt hV.lt
       have n159 : W137.heap.size ≠ W146.heap.size := Nat.ne_of_lt k148.lt
       have l160 := hB.size
       replace hw128 := hw128.more b154 (Nat.le_refl _)
       replace hp138 := hp138.below b154
       replace hV := hV.below b154
       replace k148 := k148.below b154
       replace hB := hB.both (.of_below (b154.mono (Nat.le_trans hbw hB.size)))
       replace hL := LL.more hL z155
       refine WL.get (dx_cv rfl Try.func50 rfl rfl rfl (insNT_v [eS nm54] W146.heap.size _ W152 _ (by omega) k153 (by simp) (by simp))) rfl rfl ?_
       rintro x161 W162 ⟨⟨B163, l168, k164⟩, g167⟩
       have n171 : V ≠ B163 := Nat.ne_of_lt (Nat.lt_of_lt_of_le hV.lt l168)
       have l174 := Nat.le_trans hB.size l168
       replace hw128 := hw128.more g167 l168
       replace hp138 := hp138.below g167
       replace hV := hV.below g167
       replace k148 := k148.below g167
       replace k153 := k153.below g167
       replace hB := hB.both (.of_below (g167.mono (Nat.le_trans hbw hB.size)))
       replace hL := LL.cons (LL.below hL g167) k164.lt
       rw [show [eS nm54] = ((insA at_ nm54 ([] : List ByteArray)).map eS) from (insN_map _ _ _).symm] at k164
       refine WL.val (dx_nilCheck rfl rfl) rfl rfl ?_
       refine WL.val (dx_fld (o1 := 3) rfl ty_fld_26_3_3 rfl rfl) rfl rfl ?_
       refine WL.do (dx_store (cs' := [.int .i64 6, .int .i64 0, .string ⟨#[]⟩, x161, .slice none 0 0]) (vs := [x161]) rfl ty_size_23_1 rfl rfl (oc_one k164.one) (oc_cons k164.one oc_nil) hV rfl (Nat.le_of_ble_eq_true rfl) rfl) rfl ?_
       rintro _ W175 ⟨k177, o176⟩
       replace hp138 := hp138.other o176 hVP.symm
       replace k148 := k148.other o176 n144.symm
       replace k153 := k153.other o176 n158.symm
       replace k164 := k164.other o176 n171.symm
       clear hV
       replace hw128 := hw128.only o176 (.tail _ (.tail _ (.tail _ hVL)))
       replace hB := hB.both (.of_only o176 (.inr (.inl rfl)))
       replace hL := LL.only hL o176
       refine WL.nil ?_
       refine hK151 ?_
       refine WC.seq fun K178 hK178 => ?_
       have hsW := hB.size
       refine WC.drawL (fun L_ W_ => H3 true W175 (W175.heap.size) (.slice none 0 0) [] (L_ 8) W_) 9 (rel3 true (W175.heap.size)) (sd3 true W175 V (W175.heap.size) at_ (.slice none 0 0) (encT t125) (([] : List (List Value)).take at_ ++ ([(encT t125)] ++ ([] : List (List Value)).drop at_))) [[], [], [1], [2], [3], [], [], [6], [4, 5, 7]] (by kernel_rfl) (by kernel_rfl) (by kernel_rfl) (by kernel_rfl) (by kernel_rfl) (by kernel_rfl) (by kernel_rfl) (begin3 (fun h => by cases h)) mono3 ?_ ?_
       ·
        refine ⟨fun L_ Wd hl hn hG => ?_, ?_⟩
        ·
         replace hG : H3 true W175 (W175.heap.size) (.slice none 0 0) [] (L_ 8) Wd := hG
         exact DV.dr (dx_move rfl rfl) ⟨rel_o3 (by decide) (Below.refl _ _), hG, rfl⟩
        refine ⟨fun L_ Wd hl hn hG => ?_, ?_⟩
        ·
         replace hG : H3 true W175 (W175.heap.size) (.slice none 0 0) [] (L_ 8) Wd := hG
         exact DV.dr (dx_move rfl rfl) ⟨rel_o3 (by decide) (Below.refl _ _), hG, rfl⟩
        refine ⟨fun L_ Wd hl hn hG => ?_, ?_⟩
        ·
         replace hG : H3 true W175 (W175.heap.size) (.slice none 0 0) [] (L_ 8) Wd := hG
         exact DV.dr (dx_nilCheck rfl rfl) ⟨rel_o3 (by decide) (Below.refl _ _), hG, rfl⟩
        refine ⟨fun L_ Wd hl hn hG => ?_, ?_⟩
        ·
         replace hG : H3 true W175 (W175.heap.size) (.slice none 0 0) [] (L_ 8) Wd := hG
         exact DV.dr (dx_fld (o1 := 4) rfl ty_fld_26_4_4 rfl rfl) ⟨rel_o3 (by decide) (Below.refl _ _), hG, rfl⟩
        refine ⟨fun L_ Wd hl hn hG => ?_, ?_⟩
        ·
         replace hG : H3 true W175 (W175.heap.size) (.slice none 0 0) [] (L_ 8) Wd := hG
         exact DV.dr (dx_load rfl ty_one_24 rfl ((k177.chg hG.1 (Nat.ne_of_lt k177.lt)).cell (k := 4) rfl)) ⟨rel_o3 (by decide) (Below.refl _ _), hG, rfl⟩
        refine ⟨fun L_ Wd hl hn hG => ?_, ?_⟩
        ·
         replace hG : H3 true W175 (W175.heap.size) (.slice none 0 0) [] (L_ 8) Wd := hG
         exact DV.dr (dx_move rfl rfl) ⟨rel_o3 (by decide) (Below.refl _ _), hG, rfl⟩
        refine ⟨fun L_ Wd hl hn hG => ?_, ?_⟩
        ·
         replace hG : H3 true W175 (W175.heap.size) (.slice none 0 0) [] (L_ 8) Wd := hG
         exact DV.dr (dx_loadN (cs := (encT t125)) rfl ty_agg_26_5 rfl ((k148.chg hG.1 (Nat.ne_of_lt k148.lt)).range) rfl) ⟨rel_o3 (by decide) (Below.refl _ _), hG, rfl⟩
        refine ⟨fun L_ Wd hl hn hG => ?_, ?_⟩
        ·
         replace hG : H3 true W175 (W175.heap.size) (.slice none 0 0) [] (L_ 8) Wd := hG
         have h8_ := hn 8 (by decide)
         refine (dx_lit1 (r := (encT t125)) rfl ty_ap_24 (by decide) (by decide) rfl rfl rfl).mono ?_
         rintro u W_ ⟨k1_, k2_, k3_⟩
         exact ⟨rel_o3 (by decide) k2_, lit3 hG k2_, ⟨Wd.heap.size, (fun h => by cases h), hG.1.size, k1_⟩⟩
        refine ⟨fun L_ Wd hl hn hG => ?_, ?_⟩
        ·
         intro u7 q7
         replace hG : H3 true W175 (W175.heap.size) (.slice none 0 0) [] (L_ 8) Wd := hG
         obtain ⟨C7, c1_, c2_, c3_⟩ := q7
         refine (dx_cv rfl Try.func51 rfl rfl rfl (insNV_v [(encT t125)] C7 _ Wd _ (by omega) c3_ (by simp) (by simp))).mono ?_
         rintro u W_ ⟨⟨B_, g0_, k1_⟩, gc_⟩
         exact ⟨(by unfold rel3; rw [if_pos rfl]; exact gc_), (show H3 true W175 (W175.heap.size) (.slice none 0 0) [] true W_ from ⟨hG.1.thenB gc_, fun h => by cases h⟩), ⟨B_, .inr (Nat.le_trans hG.1.size g0_), (by simpa using k1_)⟩⟩
        exact trivial
       ·
        intro We hGe
        obtain ⟨hc, -⟩ := (show H3 true W175 (W175.heap.size) (.slice none 0 0) [] true We from hGe)
        intro u7 q7 u8 q8
        obtain ⟨B179, g182, k180⟩ := q8
        clear q7
        have g181 := hc.toBelow (Nat.le_refl _)
        replace g182 : W175.heap.size ≤ B179 := by rcases g182 with h_ | h_; cases h_.1; exact h_
        rw [show (([] : List (List Value)).take at_ ++ ([(encT t125)] ++ ([] : List (List Value)).drop at_)) = ((insA at_ t125 ([] : List Tr)).map encT) from (insA_map encT at_ t125 []).symm] at k180
        have n185 : V ≠ B179 := Nat.ne_of_lt (Nat.lt_of_lt_of_le k177.lt g182)
        have n188 : B163 ≠ B179 := Nat.ne_of_lt (Nat.lt_of_lt_of_le k164.lt g182)
        have l189 := Nat.le_trans hB.size g182
        replace hw128 := hw128.more g181 g182
        replace hp138 := hp138.below g181
        replace k177 := k177.below g181
        replace k148 := k148.below g181
        replace k153 := k153.below g181
        replace k164 := k164.below g181
        replace hB := hB.both (.of_below (g181.mono (Nat.le_trans hbw hB.size)))
        replace hL := LL.cons (LL.below hL g181) k180.lt
        refine WL.val (dx_nilCheck rfl rfl) rfl rfl ?_
        refine WL.val (dx_fld (o1 := 4) rfl ty_fld_26_4_4 rfl rfl) rfl rfl ?_
        refine WL.do (dx_store (cs' := [.int .i64 6, .int .i64 0, .string ⟨#[]⟩, x161, u8]) (vs := [u8]) rfl ty_size_24_1 rfl rfl (oc_one k180.one) (oc_cons k180.one oc_nil) k177 rfl (Nat.le_of_ble_eq_true rfl) rfl) rfl ?_
        rintro _ W190 ⟨k192, o191⟩
        replace hp138 := hp138.other o191 hVP.symm
        replace k148 := k148.other o191 n144.symm
        replace k153 := k153.other o191 n158.symm
        replace k164 := k164.other o191 n171.symm
        replace k180 := k180.other o191 n185.symm
        clear k177
        replace hw128 := hw128.only o191 (.tail _ (.tail _ (.tail _ (.tail _ hVL))))
        replace hB := hB.both (.of_only o191 (.inr (.inl rfl)))
        replace hL := LL.only hL o191
        refine WL.nil ?_
        refine hK178 ?_
        refine WC.seq fun K193 hK193 => ?_
        refine WC.region ?_
        refine WL.val (dx_assign rfl rfl) rfl rfl ?_
        refine WL.nil ?_
        refine hK193 ?_
        refine WC.ret fun a_ ha_ => ?_
        exact hQ (cx_ret1 rfl (.tmp rfl) (.inl ⟨k123, (insA at_ nm54 ([] : List ByteArray), insA at_ t125.er ([] : List Js)), rfl, (pairS_n (take_of (by rcases Nat.lt_or_ge ka s.size with h_ | h_; exact h_; (have := hc23 h_; omega)) (by have h_ : ka < s.size := (by rcases Nat.lt_or_ge ka s.size with h_ | h_; exact h_; (have := hc23 h_; omega)); have := hc22 h_; omega)) hw45 hnm).trans (by apply pairN_k (a := at_) <;> first | assumption | omega), by omega, by omega, (by show (insA at_ nm54 ([] : List ByteArray)).length ≤ _; rw [insA_len (by omega)]; first | omega | (simp at hlka ⊢; omega)), ⟨x161, u8, insA at_ t125 [], insA_map _ _ _ _, (by rw [hat]; exact rises_ins hris (by rw [← hat]; assumption)), (by show (insA at_ nm54 ([] : List ByteArray)).length = _; rw [insA_len (by omega), insA_len (by first | omega | (simp at hatl ⊢; omega))]; first | omega | rfl), k192, hI0, .inr ⟨B163, B179, n188, by omega, by omega, k164, k180, (fun c hc_ => by rcases mem_insA.1 hc_ with rfl | h_; exact hw128.less (fun x hx => by simp only [List.mem_cons] at hx ⊢; rcases hx with h_ | h_ | h_ <;> simp [h_]); cases h_)⟩⟩, hp138⟩) hB ha_)
      ·
       replace hV := hV.chg g136 hVP
       replace hB := hB.chg g136 (Nat.le_trans hbw hB.size)
       replace hL := hL.chg g136
       refine WL.val (dx_move rfl rfl) rfl rfl ?_
       refine WL.val (dx_extract rfl rfl rfl) rfl rfl ?_
       refine WL.val (dx_extract rfl rfl rfl) rfl rfl ?_
       refine WL.get (dx_alloc rfl ty_zero_26 rfl) rfl rfl ?_
       rintro _ W194 ⟨rfl, k195, b196, z197⟩
       have n198 : P ≠ W137.heap.size := Nat.ne_of_lt hp138.lt
       have n199 : V ≠ W137.heap.size := Nat.ne_of_lt hV.lt
       have l200 := hB.size
       replace hp138 := hp138.below b196
       replace hV := hV.below b196
       replace hB := hB.both (.of_below (b196.mono (Nat.le_trans hbw hB.size)))
       replace hL := LL.more hL z197
       refine WL.do (dx_store (cs' := [.int .i64 0, .int .i64 0, .string ⟨#[]⟩, .slice none 0 0, .slice none 0 0]) (vs := [.int .i64 0, .int .i64 0, .string ⟨#[]⟩, .slice none 0 0, .slice none 0 0]) rfl ty_size_26_5 rfl rfl rfl (oc_cons rfl (oc_cons rfl (oc_cons rfl (oc_cons rfl (oc_cons rfl oc_nil))))) k195 rfl (Nat.le_of_ble_eq_true rfl) rfl) rfl ?_
       rintro _ W201 ⟨k203, o202⟩
       replace hp138 := hp138.other o202 n198
       replace hV := hV.other o202 n199
       clear k195
       replace hB := hB.both (.of_only o202 (.inr (.inr (Nat.le_trans hbw l200))))
       replace hL := LL.only hL o202
       refine WL.val (dx_assign rfl rfl) rfl rfl ?_
       refine WL.nil ?_
       refine hK109 ?_
       refine WC.seq fun K204 hK204 => ?_
       refine WC.seq fun K205 hK205 => ?_
       refine WC.region ?_
       refine WL.val (dx_move rfl rfl) rfl rfl ?_
       refine WL.val (dv_NT (dx_neq rfl rfl rfl) hw131) rfl rfl ?_
       refine WL.nil ?_
       refine hK205 ?_
       refine WC.condT rfl ?_
       refine WC.seq fun K206 hK206 => ?_
       refine WC.region ?_
       refine WL.val (dx_move rfl rfl) rfl rfl ?_
       refine WL.val (dx_assign rfl rfl) rfl rfl ?_
       refine WL.nil ?_
       refine hK206 ?_
       refine WC.ret fun a_ ha_ => ?_
       exact hQ (cx_ret1 rfl (.tmp rfl) (.inr ⟨k124, e126, rfl, hw131, (pairS_n (take_of (by rcases Nat.lt_or_ge ka s.size with h_ | h_; exact h_; (have := hc23 h_; omega)) (by have h_ : ka < s.size := (by rcases Nat.lt_or_ge ka s.size with h_ | h_; exact h_; (have := hc23 h_; omega)); have := hc22 h_; omega)) hw45 hnm).trans (by apply pairN_e (a := at_) <;> first | assumption | omega), by omega, (fiveO hV rfl rfl), hp138⟩) hB ha_)
   ·
    replace hV := hV.chg g55 hVP
    replace hB := hB.chg g55 (Nat.le_trans hbw hB.size)
    replace hL := hL.chg g55
    refine WL.val (dx_move rfl rfl) rfl rfl ?_
    refine WL.val (dx_extract rfl rfl rfl) rfl rfl ?_
    refine WL.val (dx_extract rfl rfl rfl) rfl rfl ?_
    refine WL.val (dx_assign rfl rfl) rfl rfl ?_
    refine WL.val (dx_assign rfl rfl) rfl rfl ?_
    refine WL.nil ?_
    refine hK28 ?_
    refine WC.seq fun K207 hK207 => ?_
    refine WC.seq fun K208 hK208 => ?_
    refine WC.region ?_
    refine WL.val (dx_move rfl rfl) rfl rfl ?_
    refine WL.val (dx_neq rfl rfl rfl) rfl rfl ?_
    refine WL.nil ?_
    refine hK208 ?_
    refine WC.condT rfl ?_
    refine WC.seq fun K209 hK209 => ?_
    refine WC.region ?_
    refine WL.val (dx_move rfl rfl) rfl rfl ?_
    refine WL.val (dx_assign rfl rfl) rfl rfl ?_
    refine WL.nil ?_
    refine hK209 ?_
    refine WC.ret fun a_ ha_ => ?_
    exact hQ (cx_ret1 rfl (.tmp rfl) (.inr ⟨k43, 2, rfl, by decide, pairS_q (take_of (by rcases Nat.lt_or_ge ka s.size with h_ | h_; exact h_; (have := hc23 h_; omega)) (by have h_ : ka < s.size := (by rcases Nat.lt_or_ge ka s.size with h_ | h_; exact h_; (have := hc23 h_; omega)); have := hc22 h_; omega)) hw50, by omega, (fiveO hV rfl rfl), hp57⟩) hB ha_)
 have hBnP : Bn ≠ P := by have := hLb P hPL; omega
 have hBnV : Bn ≠ V := by have := hLb V hVL; omega
 have hBiP : Bi ≠ P := by have := hLb P hPL; omega
 have hBiV : Bi ≠ V := by have := hLb V hVL; omega
 replace hL := LL.cons (LL.cons hL hOi.lt) hOn.lt
 refine cx_enter (N := 76) (f := [(0, .pointer (some ⟨P, 0, none⟩)), (1, .pointer (some ⟨V, 0, none⟩))]) Try.func91 rfl rfl rfl rfl fun Q hQ hE_ => ?_
 have hB := ChgV.refl b P V w
 refine WC.seq fun K1 hK1 => ?_
 refine WC.region ?_
 refine WL.val (dx_assign rfl rfl) rfl rfl ?_
 refine WL.nil ?_
 refine hK1 ?_
 refine WC.seq fun K2 hK2 => ?_
 refine WC.seq fun K3 hK3 => ?_
 refine WC.region ?_
 refine WL.val (dx_move rfl rfl) rfl rfl ?_
 refine WL.val (dx_nilCheck rfl rfl) rfl rfl ?_
 refine WL.val (dx_fld (o1 := 0) rfl ty_fld_55_0_0 rfl rfl) rfl rfl ?_
 refine WL.get (dx_cv rfl Try.func59 rfl rfl rfl (peek_c s P ka dp w _ hL (.tail _ (.tail _ hPL)) hs (by omega) hp)) rfl rfl ?_
 rintro _ W25 ⟨⟨c19, rfl, hc20, hc21, hc22, hc23⟩, b24⟩
 replace hts := hts.below b24
 replace hp := hp.below b24
 replace hV := hV.below b24
 replace hOn := hOn.below b24
 replace hOi := hOi.below b24
 replace hB := hB.both (.of_below (b24.mono (Nat.le_trans hbw hB.size)))
 replace hL := LL.below hL b24
 refine WL.val (dx_neq rfl rfl rfl) rfl rfl ?_
 refine WL.nil ?_
 refine hK3 ?_
 refine WC.cond rfl (fun c26 => ?_) (fun c26 => ?_)
 ·
  replace c26 := bnot_t c26
  replace c26 := of_decide_eq_false c26
  refine WC.seq fun K27 hK27 => ?_
  refine WC.region ?_
  refine WL.val (dx_assign rfl rfl) rfl rfl ?_
  refine WL.nil ?_
  refine hK27 ?_
  refine WC.ret fun a_ ha_ => ?_
  exact hQ (cx_ret1 rfl (.tmp rfl) (.inr ⟨ka, 2, rfl, by decide, pairS_0 (take_nc hc22 (by assumption)), by omega, (fiveO hV hOn.one hOi.one), hp⟩) hB ha_)
 ·
  replace c26 := bnot_f c26
  replace c26 := of_decide_eq_true c26
  refine WC.skip ?_
  refine hK2 ?_
  refine WC.seq fun K28 hK28 => ?_
  refine WC.region ?_
  refine WL.val (dx_move rfl rfl) rfl rfl ?_
  refine WL.get (dx_cw rfl Try.func62 rfl rfl rfl (quoted_v s P ka dp W25 _ hL (.tail _ (.tail _ hPL)) hs (by omega) hp (take_of (by rcases Nat.lt_or_ge ka s.size with h_ | h_; exact h_; (have := hc23 h_; omega)) (by have h_ : ka < s.size := (by rcases Nat.lt_or_ge ka s.size with h_ | h_; exact h_; (have := hc23 h_; omega)); have := hc22 h_; omega)))) rfl rfl ?_
  rintro _ W56 ⟨(⟨k42, l44, rfl, hw45, hw46, hw47, hw48, hw49, hp57⟩ | ⟨k43, rfl, hw50, hw51, hp57⟩), g55⟩
  ·
   replace hts := hts.chgL g55 (.tail _ (.tail _ hPL))
   replace hV := hV.chg g55 hVP
   replace hOn := hOn.chgL g55 hBnP
   replace hOi := hOi.chgL g55 hBiP
   replace hB := hB.chg g55 (Nat.le_trans hbw hB.size)
   replace hL := hL.chg g55
   obtain ⟨nm54, hnm⟩ : ∃ x, x = strOfNums l44 := ⟨_, rfl⟩
   rw [← hnm]
   refine WL.val (dx_move rfl rfl) rfl rfl ?_
   refine WL.val (dx_extract rfl rfl rfl) rfl rfl ?_
   refine WL.val (dx_extract rfl rfl rfl) rfl rfl ?_
   refine WL.val (dx_assign rfl rfl) rfl rfl ?_
   refine WL.val (dx_assign rfl rfl) rfl rfl ?_
   refine WL.nil ?_
   refine hK28 ?_
   refine WC.seq fun K58 hK58 => ?_
   refine WC.seq fun K59 hK59 => ?_
   refine WC.region ?_
   refine WL.val (dx_move rfl rfl) rfl rfl ?_
   refine WL.val (dx_neq rfl rfl rfl) rfl rfl ?_
   refine WL.nil ?_
   refine hK59 ?_
   refine WC.condF rfl ?_
   refine WC.skip ?_
   refine hK58 ?_
   refine WC.seq fun K60 hK60 => ?_
   refine WC.region ?_
   refine WL.val (dx_move rfl rfl) rfl rfl ?_
   refine WL.val (dx_nilCheck rfl rfl) rfl rfl ?_
   refine WL.val (dx_fld (o1 := 3) rfl ty_fld_26_3_3 rfl rfl) rfl rfl ?_
   refine WL.val (dx_load rfl ty_one_23 rfl (hV.cell (k := 3) rfl)) rfl rfl ?_
   refine WL.val (dx_move rfl rfl) rfl rfl ?_
   refine WL.get (dx_cv rfl Try.func49 rfl rfl rfl (bsearchA_v ns nm54 _ W56 [] (LL.nil _) (hOn.rd (L := []) (by simp)) hris (by first | omega | simp))) rfl rfl ?_
   rintro _ W62 ⟨⟨at_, hat, hatl, rfl⟩, b61⟩
   replace hts := hts.below b61
   replace hp57 := hp57.below b61
   replace hV := hV.below b61
   replace hOn := hOn.below b61
   replace hOi := hOi.below b61
   replace hB := hB.both (.of_below (b61.mono (Nat.le_trans hbw hB.size)))
   replace hL := LL.below hL b61
   refine WL.val (dx_move rfl rfl) rfl rfl ?_
   refine WL.val (dx_extract rfl rfl rfl) rfl rfl ?_
   refine WL.val (dx_extract rfl rfl rfl) rfl rfl ?_
   refine WL.val (dx_assign rfl rfl) rfl rfl ?_
   refine WL.val (dx_assign rfl rfl) rfl rfl ?_
   refine WL.nil ?_
   refine hK60 ?_
   refine WC.seq fun K63 hK63 => ?_
   refine WC.seq fun K64 hK64 => ?_
   refine WC.region ?_
   refine WL.val (dx_move rfl rfl) rfl rfl ?_
   refine WL.nil ?_
   refine hK64 ?_
   refine WC.cond rfl (fun c65 => ?_) (fun c65 => ?_)
   ·
    replace c65 := of_decide_eq_true c65
    refine WC.seq fun K66 hK66 => ?_
    refine WC.region ?_
    refine WL.val (dx_assign rfl rfl) rfl rfl ?_
    refine WL.nil ?_
    refine hK66 ?_
    refine WC.ret fun a_ ha_ => ?_
    exact hQ (cx_ret1 rfl (.tmp rfl) (.inr ⟨k42, 6, rfl, by decide, (pairS_n (take_of (by rcases Nat.lt_or_ge ka s.size with h_ | h_; exact h_; (have := hc23 h_; omega)) (by have h_ : ka < s.size := (by rcases Nat.lt_or_ge ka s.size with h_ | h_; exact h_; (have := hc23 h_; omega)); have := hc22 h_; omega)) hw45 hnm).trans (pairN_t hat (by assumption)), by omega, (fiveO hV hOn.one hOi.one), hp57⟩) hB ha_)
   ·
    replace c65 := of_decide_eq_false c65
    refine WC.skip ?_
    refine hK63 ?_
    refine WC.seq fun K67 hK67 => ?_
    refine WC.region ?_
    refine WL.val (dx_move rfl rfl) rfl rfl ?_
    refine WL.val (dx_nilCheck rfl rfl) rfl rfl ?_
    refine WL.val (dx_fld (o1 := 0) rfl ty_fld_55_0_0 rfl rfl) rfl rfl ?_
    refine WL.get (dx_cw rfl Try.func33 rfl rfl rfl (blanks_v s P k42 dp W62 _ hL (.tail _ (.tail _ hPL)) hs (by omega) hp57)) rfl rfl ?_
    rintro _ W78 ⟨hp79, g77⟩
    replace hts := hts.chgL g77 (.tail _ (.tail _ hPL))
    replace hV := hV.chg g77 hVP
    replace hOn := hOn.chgL g77 hBnP
    replace hOi := hOi.chgL g77 hBiP
    replace hB := hB.chg g77 (Nat.le_trans hbw hB.size)
    replace hL := hL.chg g77
    obtain ⟨k74, hk75⟩ : ∃ k, k = blankS s k42 := ⟨_, rfl⟩
    rw [← hk75] at hp79
    have hk76 := blankS_le (s := s) (k := k42) (by omega)
    rw [← hk75] at hk76
    refine WL.nil ?_
    refine hK67 ?_
    refine WC.seq fun K80 hK80 => ?_
    refine WC.seq fun K81 hK81 => ?_
    refine WC.region ?_
    refine WL.val (dx_move rfl rfl) rfl rfl ?_
    refine WL.val (dx_nilCheck rfl rfl) rfl rfl ?_
    refine WL.val (dx_fld (o1 := 0) rfl ty_fld_55_0_0 rfl rfl) rfl rfl ?_
    refine WL.get (dx_cw rfl Try.func58 rfl rfl rfl (take_v 58 s P k74 dp W78 _ hL (.tail _ (.tail _ hPL)) hs (by omega) hp79)) rfl rfl ?_
    rintro _ W92 ⟨⟨k88, rfl, hk89, hk90, hp93⟩, g91⟩
    replace hts := hts.chgL g91 (.tail _ (.tail _ hPL))
    replace hV := hV.chg g91 hVP
    replace hOn := hOn.chgL g91 hBnP
    replace hOi := hOi.chgL g91 hBiP
    replace hB := hB.chg g91 (Nat.le_trans hbw hB.size)
    replace hL := hL.chg g91
    cases hT94 : takeS s k74 58 with
    | false =>
     rw [hT94] at hk89
     replace hk89 : k74 = k88 := Eq.symm hk89
     subst hk89
     refine WL.val (dx_not rfl rfl) rfl rfl ?_
     refine WL.nil ?_
     refine hK81 ?_
     refine WC.condT rfl ?_
     refine WC.seq fun K95 hK95 => ?_
     refine WC.region ?_
     refine WL.val (dx_assign rfl rfl) rfl rfl ?_
     refine WL.nil ?_
     refine hK95 ?_
     refine WC.ret fun a_ ha_ => ?_
     exact hQ (cx_ret1 rfl (.tmp rfl) (.inr ⟨k74, 2, rfl, by decide, (pairS_n (take_of (by rcases Nat.lt_or_ge ka s.size with h_ | h_; exact h_; (have := hc23 h_; omega)) (by have h_ : ka < s.size := (by rcases Nat.lt_or_ge ka s.size with h_ | h_; exact h_; (have := hc23 h_; omega)); have := hc22 h_; omega)) hw45 hnm).trans (by apply pairN_c (a := at_) <;> first | assumption | omega), by omega, (fiveO hV hOn.one hOi.one), hp93⟩) hB ha_)
    | true =>
     rw [hT94] at hk89
     have hthT94 := take_t hT94
     replace hk89 : k88 = k74 + 1 := hk89
     refine WL.val (dx_not rfl rfl) rfl rfl ?_
     refine WL.nil ?_
     refine hK81 ?_
     refine WC.condF rfl ?_
     refine WC.skip ?_
     refine hK80 ?_
     refine WC.seq fun K96 hK96 => ?_
     refine WC.region ?_
     refine WL.val (dx_move rfl rfl) rfl rfl ?_
     refine WL.val (dx_nilCheck rfl rfl) rfl rfl ?_
     refine WL.val (dx_fld (o1 := 0) rfl ty_fld_55_0_0 rfl rfl) rfl rfl ?_
     refine WL.get (dx_cw rfl Try.func33 rfl rfl rfl (blanks_v s P k88 dp W92 _ hL (.tail _ (.tail _ hPL)) hs (by omega) hp93)) rfl rfl ?_
     rintro _ W107 ⟨hp108, g106⟩
     replace hts := hts.chgL g106 (.tail _ (.tail _ hPL))
     replace hV := hV.chg g106 hVP
     replace hOn := hOn.chgL g106 hBnP
     replace hOi := hOi.chgL g106 hBiP
     replace hB := hB.chg g106 (Nat.le_trans hbw hB.size)
     replace hL := hL.chg g106
     obtain ⟨k103, hk104⟩ : ∃ k, k = blankS s k88 := ⟨_, rfl⟩
     rw [← hk104] at hp108
     have hk105 := blankS_le (s := s) (k := k88) (by omega)
     rw [← hk104] at hk105
     refine WL.nil ?_
     refine hK96 ?_
     refine WC.seq fun K109 hK109 => ?_
     refine WC.region ?_
     refine WL.val (dx_move rfl rfl) rfl rfl ?_
     refine WL.get (dx_cw rfl Try.func34 rfl rfl rfl (hv P k103 W107 _ hL (.tail _ (.tail _ hPL)) (by omega) hp108)) rfl rfl ?_
     rintro _ W137 ⟨(⟨k123, t125, rfl, hw127, hw128, hw129, hw130, hp138⟩ | ⟨k124, e126, rfl, hw131, hw132, hw133, hp138⟩), g136⟩
     ·
      replace hts := hts.chgL g136 (.tail _ (.tail _ hPL))
      replace hV := hV.chg g136 hVP
      replace hOn := hOn.chgL g136 hBnP
      replace hOi := hOi.chgL g136 hBiP
      replace hB := hB.chg g136 (Nat.le_trans hbw hB.size)
      replace hL := hL.chg g136
      refine WL.val (dx_move rfl rfl) rfl rfl ?_
      refine WL.val (dx_extract rfl rfl rfl) rfl rfl ?_
      refine WL.val (dx_extract rfl rfl rfl) rfl rfl ?_
      refine WL.get (dx_alloc rfl ty_zero_26 rfl) rfl rfl ?_
      rintro _ W139 ⟨rfl, k140, b141, z142⟩
      have n143 : P ≠ W137.heap.size := Nat.ne_of_lt hp138.lt
      have n144 : V ≠ W137.heap.size := Nat.ne_of_lt hV.lt
      have n145 : Bn ≠ W137.heap.size := Nat.ne_of_lt hOn.lt
      have n146 : Bi ≠ W137.heap.size := Nat.ne_of_lt hOi.lt
      have l147 := hB.size
      replace hts := hts.more b141 (Nat.le_refl _)
      replace hw128 := hw128.more b141 (Nat.le_refl _)
      replace hp138 := hp138.below b141
      replace hV := hV.below b141
      replace hOn := hOn.below b141
      replace hOi := hOi.below b141
      replace hB := hB.both (.of_below (b141.mono (Nat.le_trans hbw hB.size)))
      replace hL := LL.more hL z142
      refine WL.do (dx_store (cs' := [.int .i64 t125.kind, .int .i64 t125.num, .string t125.text, t125.nv, t125.iv]) (vs := [.int .i64 t125.kind, .int .i64 t125.num, .string t125.text, t125.nv, t125.iv]) rfl ty_size_26_5 rfl rfl rfl (oc_cons rfl (oc_cons rfl (oc_cons rfl (oc_cons (hw128.1).one (oc_cons (hw128.2.1).one oc_nil))))) k140 rfl (Nat.le_of_ble_eq_true rfl) rfl) rfl ?_
      rintro _ W148 ⟨k150, o149⟩
      replace hp138 := hp138.other o149 n143
      replace hV := hV.other o149 n144
      replace hOn := hOn.other o149 n145
      replace hOi := hOi.other o149 n146
      clear k140
      replace hts := hts.only o149 (.head _)
      replace hw128 := hw128.only o149 (.head _)
      replace hB := hB.both (.of_only o149 (.inr (.inr (Nat.le_trans hbw l147))))
      replace hL := LL.only hL o149
      refine WL.val (dx_assign rfl rfl) rfl rfl ?_
      refine WL.nil ?_
      refine hK109 ?_
      refine WC.seq fun K151 hK151 => ?_
      refine WC.seq fun K152 hK152 => ?_
      refine WC.region ?_
      refine WL.val (dx_move rfl rfl) rfl rfl ?_
      refine WL.val (dx_neq rfl rfl rfl) rfl rfl ?_
      refine WL.nil ?_
      refine hK152 ?_
      refine WC.condF rfl ?_
      refine WC.skip ?_
      refine hK151 ?_
      refine WC.seq fun K153 hK153 => ?_
      refine WC.region ?_
      refine WL.val (dx_move rfl rfl) rfl rfl ?_
      refine WL.val (dx_move rfl rfl) rfl rfl ?_
      refine WL.val (dx_nilCheck rfl rfl) rfl rfl ?_
      refine WL.val (dx_fld (o1 := 3) rfl ty_fld_26_3_3 rfl rfl) rfl rfl ?_
      refine WL.val (dx_load rfl ty_one_23 rfl (hV.cell (k := 3) rfl)) rfl rfl ?_
      refine WL.val (dx_move rfl rfl) rfl rfl ?_
      refine WL.val (dx_move rfl rfl) rfl rfl ?_
      refine WL.get (dx_lit1 (r := [.string nm54]) rfl ty_ap_23 (by decide) (by decide) rfl rfl rfl) rfl rfl ?_
      rintro u158 W154 ⟨k155, b156, z157⟩
      have n159 : P ≠ W148.heap.size := Nat.ne_of_lt hp138.lt
      have n160 : V ≠ W148.heap.size := Nat.ne_of_lt hV.lt
      have n161 : Bn ≠ W148.heap.size := Nat.ne_of_lt hOn.lt
      have n162 : Bi ≠ W148.heap.size := Nat.ne_of_lt hOi.lt
      have l164 := hB.size
      replace hts := hts.more b156 (Nat.le_refl _)
      replace hw128 := hw128.more b156 (Nat.le_refl _)
      replace hp138 := hp138.below b156
      replace hV := hV.below b156
      replace hOn := hOn.below b156
      replace hOi := hOi.below b156
      replace k150 := k150.below b156
      replace hB := hB.both (.of_below (b156.mono (Nat.le_trans hbw hB.size)))
      replace hL := LL.more hL z157
      refine WL.get (dx_cw rfl Try.func50 rfl rfl rfl (insOT_v _ [eS nm54] at_ Bn W148.heap.size _ _ W154 hOn k155 n161.symm (by rw [List.length_map]; omega) (by simp) (by rw [List.length_map, List.length_singleton]; omega) (oc_eS ns) (fun r hr => by rw [List.mem_singleton.1 hr]; exact (oc_cons rfl oc_nil)))) rfl rfl ?_
      rintro x165 W166 ⟨⟨B167, k168, g169⟩, g170⟩
      have g171 := GrowB.of_chg g170 g169
      have n175 : V ≠ B167 := hV.grow_ne g171 hBnV.symm
      have n176 : Bi ≠ B167 := hOi.grow_ne g171 hni.symm
      have l173 : b ≤ B167 := g171.le hbn (Nat.le_trans hbw hB.size)
      replace hts := hts.grow' g171 (.tail _ (.tail _ (.head _)))
      replace hw128 := hw128.grow' g171 (.tail _ (.tail _ (.head _)))
      replace hp138 := hp138.grow g171 hBnP.symm
      replace hV := hV.grow g171 hBnV.symm
      replace hOi := hOi.grow g171 hni.symm
      replace k150 := k150.grow g171 n145.symm
      replace k155 := k155.grow g171 n161.symm
      replace hB := hB.grow g171 hbn (Nat.le_trans hbw hB.size)
      replace hL := LL.grow hL g171 k168.lt
      rw [show (ns.map eS).take at_ ++ ([eS nm54] ++ (ns.map eS).drop at_) = ((insA at_ nm54 ns).map eS) from (insA_map _ at_ _ _).symm] at k168
      refine WL.val (dx_nilCheck rfl rfl) rfl rfl ?_
      refine WL.val (dx_fld (o1 := 3) rfl ty_fld_26_3_3 rfl rfl) rfl rfl ?_
      refine WL.do (dx_store (cs' := [.int .i64 6, .int .i64 0, .string ⟨#[]⟩, x165, iv]) (vs := [x165]) rfl ty_size_23_1 rfl rfl (oc_one k168.one) (oc_cons k168.one oc_nil) hV rfl (Nat.le_of_ble_eq_true rfl) rfl) rfl ?_
      rintro _ W179 ⟨k181, o180⟩
      replace hp138 := hp138.other o180 hVP.symm
      replace hOi := hOi.other o180 hBiV
      replace k150 := k150.other o180 n144.symm
      replace k155 := k155.other o180 n160.symm
      replace k168 := k168.other o180 n175.symm
      clear hV
      replace hts := hts.only o180 (.tail _ (.tail _ (.tail _ (.tail _ (.tail _ hVL)))))
      replace hw128 := hw128.only o180 (.tail _ (.tail _ (.tail _ (.tail _ (.tail _ hVL)))))
      replace hB := hB.both (.of_only o180 (.inr (.inl rfl)))
      replace hL := LL.only hL o180
      refine WL.nil ?_
      refine hK153 ?_
      refine WC.seq fun K182 hK182 => ?_
      have hsW := hB.size
      refine WC.drawL (fun L_ W_ => H3 false W179 Bi (iv) (ts.map encT) (L_ 8) W_) 9 (rel3 false Bi) (sd3 false W179 V Bi at_ (iv) (encT t125) ((ts.map encT).take at_ ++ ([(encT t125)] ++ (ts.map encT).drop at_))) [[], [], [1], [2], [3], [], [], [6], [4, 5, 7]] (by kernel_rfl) (by kernel_rfl) (by kernel_rfl) (by kernel_rfl) (by kernel_rfl) (by kernel_rfl) (by kernel_rfl) (begin3 (fun _ => hOi)) mono3 ?_ ?_
      ·
       refine ⟨fun L_ Wd hl hn hG => ?_, ?_⟩
       ·
        replace hG : H3 false W179 Bi (iv) (ts.map encT) (L_ 8) Wd := hG
        exact DV.dr (dx_move rfl rfl) ⟨rel_o3 (by decide) (Below.refl _ _), hG, rfl⟩
       refine ⟨fun L_ Wd hl hn hG => ?_, ?_⟩
       ·
        replace hG : H3 false W179 Bi (iv) (ts.map encT) (L_ 8) Wd := hG
        exact DV.dr (dx_move rfl rfl) ⟨rel_o3 (by decide) (Below.refl _ _), hG, rfl⟩
       refine ⟨fun L_ Wd hl hn hG => ?_, ?_⟩
       ·
        replace hG : H3 false W179 Bi (iv) (ts.map encT) (L_ 8) Wd := hG
        exact DV.dr (dx_nilCheck rfl rfl) ⟨rel_o3 (by decide) (Below.refl _ _), hG, rfl⟩
       refine ⟨fun L_ Wd hl hn hG => ?_, ?_⟩
       ·
        replace hG : H3 false W179 Bi (iv) (ts.map encT) (L_ 8) Wd := hG
        exact DV.dr (dx_fld (o1 := 4) rfl ty_fld_26_4_4 rfl rfl) ⟨rel_o3 (by decide) (Below.refl _ _), hG, rfl⟩
       refine ⟨fun L_ Wd hl hn hG => ?_, ?_⟩
       ·
        replace hG : H3 false W179 Bi (iv) (ts.map encT) (L_ 8) Wd := hG
        exact DV.dr (dx_load rfl ty_one_24 rfl ((k181.chg hG.1 hBiV.symm).cell (k := 4) rfl)) ⟨rel_o3 (by decide) (Below.refl _ _), hG, rfl⟩
       refine ⟨fun L_ Wd hl hn hG => ?_, ?_⟩
       ·
        replace hG : H3 false W179 Bi (iv) (ts.map encT) (L_ 8) Wd := hG
        exact DV.dr (dx_move rfl rfl) ⟨rel_o3 (by decide) (Below.refl _ _), hG, rfl⟩
       refine ⟨fun L_ Wd hl hn hG => ?_, ?_⟩
       ·
        replace hG : H3 false W179 Bi (iv) (ts.map encT) (L_ 8) Wd := hG
        exact DV.dr (dx_loadN (cs := (encT t125)) rfl ty_agg_26_5 rfl ((k150.chg hG.1 n146.symm).range) rfl) ⟨rel_o3 (by decide) (Below.refl _ _), hG, rfl⟩
       refine ⟨fun L_ Wd hl hn hG => ?_, ?_⟩
       ·
        replace hG : H3 false W179 Bi (iv) (ts.map encT) (L_ 8) Wd := hG
        have h8_ := hn 8 (by decide)
        refine (dx_lit1 (r := (encT t125)) rfl ty_ap_24 (by decide) (by decide) rfl rfl rfl).mono ?_
        rintro u W_ ⟨k1_, k2_, k3_⟩
        exact ⟨rel_o3 (by decide) k2_, lit3 hG k2_, ⟨Wd.heap.size, (fun a_ => Nat.ne_of_gt (hG.2 a_ h8_).lt), hG.1.size, k1_⟩⟩
       refine ⟨fun L_ Wd hl hn hG => ?_, ?_⟩
       ·
        intro u7 q7
        replace hG : H3 false W179 Bi (iv) (ts.map encT) (L_ 8) Wd := hG
        obtain ⟨C7, c1_, c2_, c3_⟩ := q7
        refine (dx_cw rfl Try.func51 rfl rfl rfl (insOV_v _ [(encT t125)] at_ Bi C7 _ _ Wd (hG.2 rfl hl) c3_ (c1_ rfl) (by rw [List.length_map]; omega) (by simp) (by rw [List.length_map, List.length_singleton]; omega) (oc_items hts) (fun r hr => by rw [List.mem_singleton.1 hr]; exact hw128.oc))).mono ?_
        rintro u W_ ⟨⟨B_, k1_, g0_⟩, gc_⟩
        exact ⟨(by unfold rel3; rw [if_pos rfl]; exact gc_), (show H3 false W179 Bi (iv) (ts.map encT) true W_ from ⟨hG.1.both gc_, fun _ h => by cases h⟩), ⟨B_, (by have := hG.1.size; rcases g0_ with g0_ | g0_; exact .inl ⟨rfl, g0_⟩; exact .inr (by omega)), k1_⟩⟩
       exact trivial
      ·
       intro We hGe
       obtain ⟨hc, -⟩ := (show H3 false W179 Bi (iv) (ts.map encT) true We from hGe)
       intro u7 q7 u8 q8
       obtain ⟨B183, g186, k184⟩ := q8
       clear q7
       have g185 := GrowB.of_chg hc (by rcases g186 with h_ | h_; exact .inl h_.2; exact .inr h_)
       have n188 : P ≠ B183 := hp138.grow_ne g185 hBiP.symm
       have n189 : V ≠ B183 := k181.grow_ne g185 hBiV.symm
       have n192 : B167 ≠ B183 := k168.grow_ne g185 n176.symm
       have l187 : b ≤ B183 := g185.le hbi (Nat.le_trans hbw hB.size)
       replace hts := hts.grow' g185 (.tail _ (.tail _ (.tail _ (.tail _ (.head _)))))
       replace hw128 := hw128.grow' g185 (.tail _ (.tail _ (.tail _ (.tail _ (.head _)))))
       replace hp138 := hp138.grow g185 hBiP.symm
       replace k181 := k181.grow g185 hBiV.symm
       replace k150 := k150.grow g185 n146.symm
       replace k155 := k155.grow g185 n162.symm
       replace k168 := k168.grow g185 n176.symm
       replace hB := hB.grow g185 hbi (Nat.le_trans hbw hB.size)
       replace hL := LL.grow hL g185 k184.lt
       rw [show ((ts.map encT).take at_ ++ ([(encT t125)] ++ (ts.map encT).drop at_)) = ((insA at_ t125 ts).map encT) from (insA_map encT at_ t125 ts).symm] at k184
       refine WL.val (dx_nilCheck rfl rfl) rfl rfl ?_
       refine WL.val (dx_fld (o1 := 4) rfl ty_fld_26_4_4 rfl rfl) rfl rfl ?_
       refine WL.do (dx_store (cs' := [.int .i64 6, .int .i64 0, .string ⟨#[]⟩, x165, u8]) (vs := [u8]) rfl ty_size_24_1 rfl rfl (oc_one k184.one) (oc_cons k184.one oc_nil) k181 rfl (Nat.le_of_ble_eq_true rfl) rfl) rfl ?_
       rintro _ W193 ⟨k195, o194⟩
       replace hp138 := hp138.other o194 hVP.symm
       replace k150 := k150.other o194 n144.symm
       replace k155 := k155.other o194 n160.symm
       replace k168 := k168.other o194 n175.symm
       replace k184 := k184.other o194 n189.symm
       clear k181
       replace hts := hts.only o194 (.tail _ (.tail _ (.tail _ (.tail _ (.tail _ (.tail _ hVL))))))
       replace hw128 := hw128.only o194 (.tail _ (.tail _ (.tail _ (.tail _ (.tail _ (.tail _ hVL))))))
       replace hB := hB.both (.of_only o194 (.inr (.inl rfl)))
       replace hL := LL.only hL o194
       refine WL.nil ?_
       refine hK182 ?_
       refine WC.seq fun K196 hK196 => ?_
       refine WC.region ?_
       refine WL.val (dx_assign rfl rfl) rfl rfl ?_
       refine WL.nil ?_
       refine hK196 ?_
       refine WC.ret fun a_ ha_ => ?_
       exact hQ (cx_ret1 rfl (.tmp rfl) (.inl ⟨k123, (insA at_ nm54 ns, insA at_ t125.er (ts.map Tr.er)), rfl, (pairS_n (take_of (by rcases Nat.lt_or_ge ka s.size with h_ | h_; exact h_; (have := hc23 h_; omega)) (by have h_ : ka < s.size := (by rcases Nat.lt_or_ge ka s.size with h_ | h_; exact h_; (have := hc23 h_; omega)); have := hc22 h_; omega)) hw45 hnm).trans (by apply pairN_k (a := at_) <;> first | assumption | omega), by omega, by omega, (by show (insA at_ nm54 ns).length ≤ _; rw [insA_len (by omega)]; first | omega | (simp at hlka ⊢; omega)), ⟨x165, u8, insA at_ t125 ts, insA_map _ _ _ _, (by rw [hat]; exact rises_ins hris (by rw [← hat]; assumption)), (by show (insA at_ nm54 ns).length = _; rw [insA_len (by omega), insA_len (by first | omega | (simp at hatl ⊢; omega))]; first | omega | rfl), k195, hI0, .inr ⟨B167, B183, n192, by omega, by omega, k168, k184, (fun c hc_ => by rcases mem_insA.1 hc_ with rfl | h_; exact hw128.less (fun x hx => by simp only [List.mem_cons] at hx ⊢; rcases hx with h_ | h_ | h_ <;> simp [h_]); exact (hts c h_).less (fun x hx => by simp only [List.mem_cons] at hx ⊢; rcases hx with h_ | h_ | h_ <;> simp [h_]))⟩⟩, hp138⟩) hB ha_)
     ·
      replace hts := hts.chgL g136 (.tail _ (.tail _ hPL))
      replace hV := hV.chg g136 hVP
      replace hOn := hOn.chgL g136 hBnP
      replace hOi := hOi.chgL g136 hBiP
      replace hB := hB.chg g136 (Nat.le_trans hbw hB.size)
      replace hL := hL.chg g136
      refine WL.val (dx_move rfl rfl) rfl rfl ?_
      refine WL.val (dx_extract rfl rfl rfl) rfl rfl ?_
      refine WL.val (dx_extract rfl rfl rfl) rfl rfl ?_
      refine WL.get (dx_alloc rfl ty_zero_26 rfl) rfl rfl ?_
      rintro _ W197 ⟨rfl, k198, b199, z200⟩
      have n201 : P ≠ W137.heap.size := Nat.ne_of_lt hp138.lt
      have n202 : V ≠ W137.heap.size := Nat.ne_of_lt hV.lt
      have n203 : Bn ≠ W137.heap.size := Nat.ne_of_lt hOn.lt
      have n204 : Bi ≠ W137.heap.size := Nat.ne_of_lt hOi.lt
      have l205 := hB.size
      replace hts := hts.more b199 (Nat.le_refl _)
      replace hp138 := hp138.below b199
      replace hV := hV.below b199
      replace hOn := hOn.below b199
      replace hOi := hOi.below b199
      replace hB := hB.both (.of_below (b199.mono (Nat.le_trans hbw hB.size)))
      replace hL := LL.more hL z200
      refine WL.do (dx_store (cs' := [.int .i64 0, .int .i64 0, .string ⟨#[]⟩, .slice none 0 0, .slice none 0 0]) (vs := [.int .i64 0, .int .i64 0, .string ⟨#[]⟩, .slice none 0 0, .slice none 0 0]) rfl ty_size_26_5 rfl rfl rfl (oc_cons rfl (oc_cons rfl (oc_cons rfl (oc_cons rfl (oc_cons rfl oc_nil))))) k198 rfl (Nat.le_of_ble_eq_true rfl) rfl) rfl ?_
      rintro _ W206 ⟨k208, o207⟩
      replace hp138 := hp138.other o207 n201
      replace hV := hV.other o207 n202
      replace hOn := hOn.other o207 n203
      replace hOi := hOi.other o207 n204
      clear k198
      replace hts := hts.only o207 (.head _)
      replace hB := hB.both (.of_only o207 (.inr (.inr (Nat.le_trans hbw l205))))
      replace hL := LL.only hL o207
      refine WL.val (dx_assign rfl rfl) rfl rfl ?_
      refine WL.nil ?_
      refine hK109 ?_
      refine WC.seq fun K209 hK209 => ?_
      refine WC.seq fun K210 hK210 => ?_
      refine WC.region ?_
      refine WL.val (dx_move rfl rfl) rfl rfl ?_
      refine WL.val (dv_NT (dx_neq rfl rfl rfl) hw131) rfl rfl ?_
      refine WL.nil ?_
      refine hK210 ?_
      refine WC.condT rfl ?_
      refine WC.seq fun K211 hK211 => ?_
      refine WC.region ?_
      refine WL.val (dx_move rfl rfl) rfl rfl ?_
      refine WL.val (dx_assign rfl rfl) rfl rfl ?_
      refine WL.nil ?_
      refine hK211 ?_
      refine WC.ret fun a_ ha_ => ?_
      exact hQ (cx_ret1 rfl (.tmp rfl) (.inr ⟨k124, e126, rfl, hw131, (pairS_n (take_of (by rcases Nat.lt_or_ge ka s.size with h_ | h_; exact h_; (have := hc23 h_; omega)) (by have h_ : ka < s.size := (by rcases Nat.lt_or_ge ka s.size with h_ | h_; exact h_; (have := hc23 h_; omega)); have := hc22 h_; omega)) hw45 hnm).trans (by apply pairN_e (a := at_) <;> first | assumption | omega), by omega, (fiveO hV hOn.one hOi.one), hp138⟩) hB ha_)
  ·
   replace hts := hts.chgL g55 (.tail _ (.tail _ hPL))
   replace hV := hV.chg g55 hVP
   replace hOn := hOn.chgL g55 hBnP
   replace hOi := hOi.chgL g55 hBiP
   replace hB := hB.chg g55 (Nat.le_trans hbw hB.size)
   replace hL := hL.chg g55
   refine WL.val (dx_move rfl rfl) rfl rfl ?_
   refine WL.val (dx_extract rfl rfl rfl) rfl rfl ?_
   refine WL.val (dx_extract rfl rfl rfl) rfl rfl ?_
   refine WL.val (dx_assign rfl rfl) rfl rfl ?_
   refine WL.val (dx_assign rfl rfl) rfl rfl ?_
   refine WL.nil ?_
   refine hK28 ?_
   refine WC.seq fun K212 hK212 => ?_
   refine WC.seq fun K213 hK213 => ?_
   refine WC.region ?_
   refine WL.val (dx_move rfl rfl) rfl rfl ?_
   refine WL.val (dx_neq rfl rfl rfl) rfl rfl ?_
   refine WL.nil ?_
   refine hK213 ?_
   refine WC.condT rfl ?_
   refine WC.seq fun K214 hK214 => ?_
   refine WC.region ?_
   refine WL.val (dx_move rfl rfl) rfl rfl ?_
   refine WL.val (dx_assign rfl rfl) rfl rfl ?_
   refine WL.nil ?_
   refine hK214 ?_
   refine WC.ret fun a_ ha_ => ?_
   exact hQ (cx_ret1 rfl (.tmp rfl) (.inr ⟨k43, 2, rfl, by decide, pairS_q (take_of (by rcases Nat.lt_or_ge ka s.size with h_ | h_; exact h_; (have := hc23 h_; omega)) (by have h_ : ka < s.size := (by rcases Nat.lt_or_ge ka s.size with h_ | h_; exact h_; (have := hc23 h_; omega)); have := hc22 h_; omega)) hw50, by omega, (fiveO hV hOn.one hOi.one), hp57⟩) hB ha_)

end Go.Proofs.Ytpinidlfcifeeaa
namespace Go.Proofs.Ytpinidlfcifeeaa
open Go.RowKit
set_option linter.unusedVariables false
set_option linter.unusedSimpArgs false
set_option maxRecDepth 8000

theorem ob1_v (n : Nat) (vs : Nat → Except Int (Js × Nat)) (s : ByteArray) (dp : Nat) (hc : PairAt n vs s dp) : ObjAt n vs s dp := by
 intro b Bp V P L ka st w hL hPL hVL hBL hBP hVP hBV hLb hbw hk hp hI hlka
 obtain ⟨hBp, hI⟩ := hI
 refine cx_enter (N := 5) (f := [(0, .pointer (some ⟨Bp, 0, none⟩)), (1, .pointer (some ⟨V, 0, none⟩))]) Try.func90 rfl rfl rfl rfl fun Q hQ hE_ => ?_
 have hB := ChgV.refl b P V w
 refine WC.seq fun K1 hK1 => ?_
 refine WC.region ?_
 refine WL.val (dx_assign rfl rfl) rfl rfl ?_
 refine WL.nil ?_
 refine hK1 ?_
 refine WC.seq fun K2 hK2 => ?_
 refine WC.region ?_
 refine WL.val (dx_load rfl ty_one_51 rfl (hBp.cell (k := 0) rfl)) rfl rfl ?_
 refine WL.get (dx_cx rfl Try.func91 rfl rfl rfl (hc b V P L ka st w hL hPL hVL hVP hLb (Nat.le_trans hbw hB.size) hk hp hI hlka)) rfl rfl ?_
 rintro _ W17 ⟨(⟨k3, st4, rfl, h7, h8, h9, h10, h11, hp18⟩ | ⟨k5, e6, rfl, h7, h8, h9, h10, hp18⟩), g16⟩
 ·
  replace hB := hB.both g16
  replace hL := hL.chgV g16
  replace hBp := hBp.chgV g16 (hLb Bp hBL) hBP hBV
  refine WL.val (dx_assign rfl rfl) rfl rfl ?_
  refine WL.nil ?_
  refine hK2 ?_
  refine WC.ret fun a_ ha_ => ?_
  exact hQ (cx_ret1 rfl (.tmp rfl) (.inl ⟨k3, st4, rfl, h7, h8, h9, h10, ⟨hBp, h11⟩, hp18⟩) hB ha_)
 ·
  replace hB := hB.both g16
  replace hL := hL.chgV g16
  replace hBp := hBp.chgV g16 (hLb Bp hBL) hBP hBV
  refine WL.val (dx_assign rfl rfl) rfl rfl ?_
  refine WL.nil ?_
  refine hK2 ?_
  refine WC.ret fun a_ ha_ => ?_
  exact hQ (cx_ret1 rfl (.tmp rfl) (.inr ⟨k5, e6, rfl, h7, h8, h9, h10, hp18⟩) hB ha_)

set_option maxHeartbeats 1000000 in
theorem object_v (n : Nat) (vs : Nat → Except Int (Js × Nat)) (s : ByteArray) (P ka dp : Nat) (w : World) (L : List Nat) (hL : LL L w) (hPL : P ∈ L) (hs : s.size ≤ 1000000) (hk : ka ≤ s.size) (hp : Blk w P (psC s ka dp))  (hq : takeS s ka 123 = true) (hc : ObjAt n vs s dp) : CW Try.prog 65 [.pointer (some ⟨P, 0, none⟩)] w P fun v W => (∃ k' t, v = .tuple #[.agg #[.int .i64 t.kind, .int .i64 t.num, .string t.text, t.nv, t.iv], .int .i64 0] ∧ objS s vs ka = .ok (t.er, k') ∧ RdT (n + 1) L W t ∧ ka < k' ∧ k' ≤ s.size ∧ Blk W P (psC s k' dp)) ∨ (∃ k' e cs, v = .tuple #[.agg (List.toArray cs), .int .i64 e] ∧ e ≠ 0 ∧ cs.length = 5 ∧ (∀ u ∈ cs, u.oneCell' = true) ∧ objS s vs ka = .error e ∧ k' ≤ s.size ∧ Blk W P (psC s k' dp)) := by
 refine cw_enter (N := 12) (f := [(0, .pointer (some ⟨P, 0, none⟩))]) Try.func65 rfl rfl rfl rfl fun Q hQ hE => ?_
 have hB := Chg.refl P w
 have hL0 := hL
 refine WC.seq fun K1 hK1 => ?_
 refine WC.region ?_
 refine WL.get (dx_box (cs := [.pointer (some ⟨P, 0, none⟩)]) rfl rfl rfl) rfl rfl ?_
 rintro _ W2 ⟨rfl, k3, b4, z5⟩
 have n6 : P ≠ w.heap.size := Nat.ne_of_lt hp.lt
 have l7 := hB.size
 replace hp := hp.below b4
 replace hB := Chg.thenB hB b4
 replace hL := LL.more hL z5
 refine WL.get (dx_alloc rfl ty_zero_26 rfl) rfl rfl ?_
 rintro _ W8 ⟨rfl, k9, b10, z11⟩
 have n12 : P ≠ W2.heap.size := Nat.ne_of_lt hp.lt
 have n13 : w.heap.size ≠ W2.heap.size := Nat.ne_of_lt k3.lt
 have l14 := hB.size
 replace hp := hp.below b10
 replace k3 := k3.below b10
 replace hB := Chg.thenB hB b10
 replace hL := LL.more hL z11
 refine WL.val (dx_assign rfl rfl) rfl rfl ?_
 refine WL.nil ?_
 refine hK1 ?_
 refine WC.seq fun K15 hK15 => ?_
 refine WC.region ?_
 refine WL.val (dx_build rfl rfl (built_of_O (cs := [.int .i64 6, .int .i64 0, .string ⟨#[]⟩, .slice none 0 0, .slice none 0 0]) (by kernel_rfl) (oc_cons rfl oc_nil))) rfl rfl ?_
 refine WL.get (dx_alloc rfl ty_zero_26 rfl) rfl rfl ?_
 rintro _ W16 ⟨rfl, k17, b18, z19⟩
 have n20 : P ≠ W8.heap.size := Nat.ne_of_lt hp.lt
 have n21 : w.heap.size ≠ W8.heap.size := Nat.ne_of_lt k3.lt
 have n22 : W2.heap.size ≠ W8.heap.size := Nat.ne_of_lt k9.lt
 have l23 := hB.size
 replace hp := hp.below b18
 replace k3 := k3.below b18
 replace k9 := k9.below b18
 replace hB := Chg.thenB hB b18
 replace hL := LL.more hL z19
 refine WL.do (dx_store (cs' := [.int .i64 6, .int .i64 0, .string ⟨#[]⟩, .slice none 0 0, .slice none 0 0]) (vs := [.int .i64 6, .int .i64 0, .string ⟨#[]⟩, .slice none 0 0, .slice none 0 0]) rfl ty_size_26_5 rfl rfl rfl (oc_cons rfl (oc_cons rfl (oc_cons rfl (oc_cons rfl (oc_cons rfl oc_nil))))) k17 rfl (Nat.le_of_ble_eq_true rfl) rfl) rfl ?_
 rintro _ W24 ⟨k26, o25⟩
 replace hp := hp.other o25 n20
 replace k3 := k3.other o25 n21
 replace k9 := k9.other o25 n22
 clear k17
 replace hB := Chg.only hB o25 (.inr l23)
 replace hL := LL.only hL o25
 refine WL.nil ?_
 refine hK15 ?_
 refine WC.seq fun K27 hK27 => ?_
 refine WC.region ?_
 refine WL.val (dx_load rfl ty_one_51 rfl (k3.cell (k := 0) rfl)) rfl rfl ?_
 refine WL.val (dx_func rfl rfl rfl) rfl rfl ?_
 refine WL.get (dx_cx rfl Try.func88 rfl rfl rfl (members_v (ObjI n W24.heap.size (w.heap.size) (W8.heap.size) P (W8.heap.size :: W2.heap.size :: w.heap.size :: L)) (FiveE (W8.heap.size)) (pairS s vs) 123 125 _ W24.heap.size (W8.heap.size) ([], []) (fun st => st.1.length) s P ka dp W24 _ hL (.tail _ (.tail _ (.tail _ hPL))) hs (by omega) hp (Nat.le_refl _) objI_five ⟨objI_chg n6.symm n20.symm (.tail _ (.tail _ (.tail _ hPL))), ⟨k3, _, _, [], rfl, List.Pairwise.nil, rfl, k26, hL, .inl ⟨rfl, rfl, rfl, rfl⟩⟩⟩ (Nat.zero_le _) hq (fun W_ L_ k_ st_ h1_ h2_ h3_ h4_ h5_ h6_ h7_ => ⟨90, #[], #[.pointer (some ⟨w.heap.size, 0, none⟩), .pointer (some ⟨W8.heap.size, 0, none⟩)], _, rfl, Try.func90, rfl, rfl, hc W24.heap.size (w.heap.size) (W8.heap.size) P (W8.heap.size :: W2.heap.size :: w.heap.size :: L) k_ st_ W_ (fun x hx => Nat.lt_of_lt_of_le (hL x hx) h3_) (.tail _ (.tail _ (.tail _ hPL))) (.head _) (.tail _ (.tail _ (.head _))) n6.symm n20.symm n21 hL h3_ h4_ h5_ h6_ h7_⟩))) rfl rfl ?_
 rintro _ W53 ⟨(⟨k28, st29, rfl, hm35, hm36, hm37, ⟨hBp50, nv32, iv33, ts34, hm38, hm45, hm46, hV49, hm39⟩, hp54⟩ | ⟨k30, e31, rfl, hm40, hm41, hm42, ⟨cs51, hm43, hm44, hV49⟩, hp54⟩), g52⟩
 ·
  replace hB := ChgV.toChg hB g52 hB.size l23
  replace hL := hL.chgV g52
  replace k9 := k9.chgV g52 k9.lt n12.symm n22
  refine WL.val (dx_assign rfl rfl) rfl rfl ?_
  refine WL.nil ?_
  refine hK27 ?_
  refine WC.seq fun K55 hK55 => ?_
  refine WC.region ?_
  refine WL.val (dx_loadN rfl ty_agg_26_5 rfl hV49.range rfl) rfl rfl ?_
  refine WL.val (dx_move rfl rfl) rfl rfl ?_
  refine WL.do (dx_store (cs' := [.int .i64 6, .int .i64 0, .string ⟨#[]⟩, nv32, iv33]) (vs := [.int .i64 6, .int .i64 0, .string ⟨#[]⟩, nv32, iv33]) rfl ty_size_26_5 rfl rfl rfl (oc_cons rfl (oc_cons rfl (oc_cons rfl (oc_cons hm39.one.1 (oc_cons hm39.one.2 oc_nil))))) k9 rfl (Nat.le_of_ble_eq_true rfl) rfl) rfl ?_
  rintro _ W56 ⟨k58, o57⟩
  replace hp54 := hp54.other o57 n12
  replace hBp50 := hBp50.other o57 n13
  replace hV49 := hV49.other o57 n22.symm
  clear k9
  replace hm39 := hm39.only o57 (.tail _ (.head _))
  replace hB := Chg.only hB o57 (.inr l14)
  replace hL := LL.only hL o57
  refine WL.val (dx_assign rfl rfl) rfl rfl ?_
  refine WL.nil ?_
  refine hK55 ?_
  refine WC.ret fun a_ ha_ => ?_
  exact hQ (cw_ret2 rfl (.agg rfl ty_agg_26_5 k58.range rfl) (.tmp rfl) (.inl ⟨k28, .mk 6 0 ⟨#[]⟩ nv32 st29.1 iv33 ts34, rfl, (by unfold objS; rw [hm35, Tr.er_mk, hm38]), hm39.tree (fun x hx => (.tail _ (.tail _ (.tail _ hx)))) 6 0 ⟨#[]⟩, by omega, by omega, hp54⟩) hB ha_)
 ·
  replace hB := ChgV.toChg hB g52 hB.size l23
  replace hL := hL.chgV g52
  replace k9 := k9.chgV g52 k9.lt n12.symm n22
  refine WL.val (dx_assign rfl rfl) rfl rfl ?_
  refine WL.nil ?_
  refine hK27 ?_
  refine WC.seq fun K59 hK59 => ?_
  refine WC.region ?_
  refine WL.val (dx_loadN (cs := cs51) rfl ty_agg_26_5 rfl hV49.range hm43) rfl rfl ?_
  refine WL.val (dx_move rfl rfl) rfl rfl ?_
  refine WL.do (dx_storeW (vs := cs51) rfl ty_size_26_5 rfl rfl rfl hm44 k9 hm43 rfl) rfl ?_
  rintro _ W60 ⟨k62, o61⟩
  replace hp54 := hp54.other o61 n12
  replace hV49 := hV49.other o61 n22.symm
  clear k9
  replace hB := Chg.only hB o61 (.inr l14)
  replace hL := LL.only hL o61
  refine WL.val (dx_assign rfl rfl) rfl rfl ?_
  refine WL.nil ?_
  refine hK59 ?_
  refine WC.ret fun a_ ha_ => ?_
  exact hQ (cw_ret2 rfl (.agg rfl ty_agg_26_5 k62.range hm43) (.tmp rfl) (.inr ⟨k30, e31, cs51, rfl, hm40, hm43, hm44, (by unfold objS; rw [hm41]), by omega, hp54⟩) hB ha_)

/-- What stands at a place, so many steps ahead of the deepest. -/
def valD (s : ByteArray) : Nat → Nat → Except Int (Js × Nat)
 | 0 => fun k => valB s 12 (.error 4) (.error 4) k
 | m + 1 => fun k => valB s (12 - (m + 1)) (listS s (valD s m) k) (objS s (valD s m) k) k
theorem val_at (s : ByteArray) (hs : s.size ≤ 1000000) : ∀ m dp, m ≤ 12 → dp + m = 12 → ValAt (m + 1) (valD s m) s dp
 | 0, dp, _, hd => fun P ka w L hL hPL hk hp => by
  obtain rfl : dp = 12 := by omega
  exact value_v 0 (.error 4) (.error 4) s P ka 12 w L hL hPL hs hk hp (Nat.le_refl _) (fun h => absurd rfl h) (fun h => absurd rfl h)
 | m + 1, dp, hm, hd => fun P ka w L hL hPL hk hp => by
  have ih := val_at s hs m (dp + 1) (by omega) (by omega)
  have e : dp = 12 - (m + 1) := by omega
  show CW _ _ _ _ _ fun v W => (∃ k' t, v = .tuple #[.agg #[.int .i64 t.kind, .int .i64 t.num, .string t.text, t.nv, t.iv], .int .i64 0] ∧ valB s (12 - (m + 1)) (listS s (valD s m) ka) (objS s (valD s m) ka) ka = .ok (t.er, k') ∧ RdT (m + 1 + 1) L W t ∧ ka < k' ∧ k' ≤ s.size ∧ Blk W P (psC s k' dp)) ∨ (∃ k' e, v = .tuple #[.agg #[.int .i64 0, .int .i64 0, .string ⟨#[]⟩, .slice none 0 0, .slice none 0 0], .int .i64 e] ∧ e ≠ 0 ∧ valB s (12 - (m + 1)) (listS s (valD s m) ka) (objS s (valD s m) ka) ka = .error e ∧ k' ≤ s.size ∧ Blk W P (psC s k' dp))
  rw [← e]
  exact value_v (m + 1) (listS s (valD s m) ka) (objS s (valD s m) ka) s P ka dp w L hL hPL hs hk hp (by omega)
   (fun _ hq W L' h1 h2 d hd' h4 => by subst hd'; exact list_v (m + 1) (valD s m) s P ka (dp + 1) W L' h1 h2 hs hk h4 hq (one_v m (valD s m) s (dp + 1) hs ih))
   (fun _ hq W L' h1 h2 d hd' h4 => by subst hd'; exact object_v (m + 1) (valD s m) s P ka (dp + 1) W L' h1 h2 hs hk h4 hq (ob1_v (m + 1) (valD s m) s (dp + 1) (pair_v m (valD s m) s (dp + 1) hs ih)))
def parJ (s : ByteArray) : Except Int Js := parS s (valD s 12)
theorem jParse_v (s : ByteArray) (w : World) (L : List Nat) (hL : LL L w) : CV Try.prog 12 [.string s] w fun v W => (∃ t, v = .tuple #[.agg #[.int .i64 t.kind, .int .i64 t.num, .string t.text, t.nv, t.iv], .int .i64 0] ∧ parJ s = .ok t.er ∧ RdT 13 L W t) ∨ (∃ e, v = .tuple #[.agg #[.int .i64 0, .int .i64 0, .string ⟨#[]⟩, .slice none 0 0, .slice none 0 0], .int .i64 e] ∧ e ≠ 0 ∧ parJ s = .error e) :=
 parse_v 12 (valD s 12) s w L hL (fun h dq hd => by subst hd; exact val_at s (by omega) 12 0 (by omega) rfl)
end Go.Proofs.Ytpinidlfcifeeaa
namespace Go.Proofs.Ytpinidlfcifeeaa
open Go.RowKit
set_option linter.unusedVariables false
set_option linter.unusedSimpArgs false
set_option maxRecDepth 8000

end Go.Proofs.Ytpinidlfcifeeaa
namespace Go.Proofs.Ytpinidlfcifeeaa
open Go.RowKit
set_option linter.unusedVariables false
set_option linter.unusedSimpArgs false
set_option maxRecDepth 8000

abbrev RefSameAt (n : Nat) : Prop := ∀ (p q : Tr) (w : World) (L : List Nat), LL L w → RdT n L w p → RdT n L w q → CV Try.prog 39 [.agg #[.int .i64 p.kind, .int .i64 p.num, .string p.text, p.nv, p.iv], .agg #[.int .i64 q.kind, .int .i64 q.num, .string q.text, q.nv, q.iv]] w fun x W => x = .bool (eqJ p.er q.er)
set_option maxHeartbeats 2000000 in
theorem refSame_step (n : Nat) (ih : RefSameAt n) (p q : Tr) (w : World) (L : List Nat) (hL : LL L w) (htp : RdT (n + 1) L w p) (htq : RdT (n + 1) L w q) : CV Try.prog 39 [.agg #[.int .i64 p.kind, .int .i64 p.num, .string p.text, p.nv, p.iv], .agg #[.int .i64 q.kind, .int .i64 q.num, .string q.text, q.nv, q.iv]] w fun v W => v = .bool (eqJ p.er q.er) := by
 refine cv_enter (N := 81) (f := [(0, .agg #[.int .i64 p.kind, .int .i64 p.num, .string p.text, p.nv, p.iv]), (1, .agg #[.int .i64 q.kind, .int .i64 q.num, .string q.text, q.nv, q.iv])]) Try.func39 rfl rfl rfl rfl fun Q hQ hE => ?_
 have hB := Below.refl w.heap.size w
 refine WC.seq fun K1 hK1 => ?_
 obtain ⟨hnp, hip, hcp⟩ := htp
 replace hcp : RdTs n (L) w p.items := hcp
 obtain ⟨hnq, hiq, hcq⟩ := htq
 replace hcq : RdTs n (L) w q.items := hcq
 have hil0 := hip.len
 rw [List.length_map] at hil0
 have hnl0 := hnp.len
 rw [List.length_map] at hnl0
 unfold maxLen at hil0 hnl0
 refine WC.region ?_
 refine WL.get (dx_box rfl rfl rfl) rfl rfl ?_
 rintro _ W2 ⟨rfl, k3, b4, z5⟩
 have l6 := hB.size
 replace hnp := hnp.more b4 (Nat.le_refl _)
 replace hip := hip.more b4 (Nat.le_refl _)
 replace hcp := hcp.more b4 (Nat.le_refl _)
 replace hnq := hnq.more b4 (Nat.le_refl _)
 replace hiq := hiq.more b4 (Nat.le_refl _)
 replace hcq := hcq.more b4 (Nat.le_refl _)
 replace hB := below_then hB b4
 replace hL := LL.more hL z5
 refine WL.get (dx_box rfl rfl rfl) rfl rfl ?_
 rintro _ W7 ⟨rfl, k8, b9, z10⟩
 have l12 := hB.size
 replace hnp := hnp.more b9 (Nat.le_refl _)
 replace hip := hip.more b9 (Nat.le_refl _)
 replace hcp := hcp.more b9 (Nat.le_refl _)
 replace hnq := hnq.more b9 (Nat.le_refl _)
 replace hiq := hiq.more b9 (Nat.le_refl _)
 replace hcq := hcq.more b9 (Nat.le_refl _)
 replace k3 := k3.below b9
 replace hB := below_then hB b9
 replace hL := LL.more hL z10
 refine WL.val (dx_assign rfl rfl) rfl rfl ?_
 refine WL.nil ?_
 refine hK1 ?_
 refine WC.seq fun K13 hK13 => ?_
 refine WC.seq fun K14 hK14 => ?_
 refine WC.region ?_
 refine WL.val (dx_fld (o1 := 0) rfl ty_fld_26_0_0 rfl rfl) rfl rfl ?_
 refine WL.val (dx_load rfl ty_one_3 rfl (k3.cell (k := 0) rfl)) rfl rfl ?_
 refine WL.val (dx_fld (o1 := 0) rfl ty_fld_26_0_0 rfl rfl) rfl rfl ?_
 refine WL.val (dx_load rfl ty_one_3 rfl (k8.cell (k := 0) rfl)) rfl rfl ?_
 refine WL.val (dx_neq rfl rfl rfl) rfl rfl ?_
 refine WL.val (dx_move rfl rfl) rfl rfl ?_
 refine WL.split 12 rfl (fun g15 => ?_) (fun g15 => ?_)
 ·
  replace g15 := bnot_t g15
  replace g15 := of_decide_eq_false g15
  refine WL.off rfl rfl rfl ?_
  refine WL.off rfl rfl rfl ?_
  refine WL.off rfl rfl rfl ?_
  refine WL.off rfl rfl rfl ?_
  refine WL.off rfl rfl rfl ?_
  refine WL.val (dx_pick rfl rfl rfl) rfl rfl ?_
  refine WL.val (dx_move rfl rfl) rfl rfl ?_
  refine WL.off rfl rfl rfl ?_
  refine WL.off rfl rfl rfl ?_
  refine WL.off rfl rfl rfl ?_
  refine WL.off rfl rfl rfl ?_
  refine WL.off rfl rfl rfl ?_
  refine WL.val (dx_pick rfl rfl rfl) rfl rfl ?_
  refine WL.val (dx_move rfl rfl) rfl rfl ?_
  refine WL.off rfl rfl rfl ?_
  refine WL.off rfl rfl rfl ?_
  refine WL.off rfl rfl rfl ?_
  refine WL.off rfl rfl rfl ?_
  refine WL.off rfl rfl rfl ?_
  refine WL.off rfl rfl rfl ?_
  refine WL.off rfl rfl rfl ?_
  refine WL.val (dx_pick rfl rfl rfl) rfl rfl ?_
  refine WL.val (dx_move rfl rfl) rfl rfl ?_
  refine WL.off rfl rfl rfl ?_
  refine WL.off rfl rfl rfl ?_
  refine WL.off rfl rfl rfl ?_
  refine WL.off rfl rfl rfl ?_
  refine WL.off rfl rfl rfl ?_
  refine WL.off rfl rfl rfl ?_
  refine WL.off rfl rfl rfl ?_
  refine WL.val (dx_pick rfl rfl rfl) rfl rfl ?_
  refine WL.nil ?_
  refine hK14 ?_
  refine WC.condT rfl ?_
  refine WC.seq fun K16 hK16 => ?_
  refine WC.region ?_
  refine WL.val (dx_assign rfl rfl) rfl rfl ?_
  refine WL.nil ?_
  refine hK16 ?_
  refine WC.ret fun a_ ha_ => ?_
  exact hQ (cv_ret1 rfl (.tmp rfl) (by rw [eqJ_f (fun e => by obtain ⟨e1, e2, e3, e4, _⟩ := er_parts e; have e5 := er_len e; have e6 := congrArg List.length e4; first | contradiction | (exact absurd e3 (by assumption)) | omega)]) hB ha_)
 ·
  replace g15 := bnot_f g15
  replace g15 := of_decide_eq_true g15
  refine WL.val (dx_fld (o1 := 1) rfl ty_fld_26_1_1 rfl rfl) rfl rfl ?_
  refine WL.val (dx_load rfl ty_one_3 rfl (k3.cell (k := 1) rfl)) rfl rfl ?_
  refine WL.val (dx_fld (o1 := 1) rfl ty_fld_26_1_1 rfl rfl) rfl rfl ?_
  refine WL.val (dx_load rfl ty_one_3 rfl (k8.cell (k := 1) rfl)) rfl rfl ?_
  refine WL.val (dx_neq rfl rfl rfl) rfl rfl ?_
  refine WL.val (dx_pick rfl rfl rfl) rfl rfl ?_
  refine WL.val (dx_move rfl rfl) rfl rfl ?_
  refine WL.split 19 rfl (fun g17 => ?_) (fun g17 => ?_)
  ·
   replace g17 := bnot_t g17
   replace g17 := of_decide_eq_false g17
   refine WL.off rfl rfl rfl ?_
   refine WL.off rfl rfl rfl ?_
   refine WL.off rfl rfl rfl ?_
   refine WL.off rfl rfl rfl ?_
   refine WL.off rfl rfl rfl ?_
   refine WL.val (dx_pick rfl rfl rfl) rfl rfl ?_
   refine WL.val (dx_move rfl rfl) rfl rfl ?_
   refine WL.off rfl rfl rfl ?_
   refine WL.off rfl rfl rfl ?_
   refine WL.off rfl rfl rfl ?_
   refine WL.off rfl rfl rfl ?_
   refine WL.off rfl rfl rfl ?_
   refine WL.off rfl rfl rfl ?_
   refine WL.off rfl rfl rfl ?_
   refine WL.val (dx_pick rfl rfl rfl) rfl rfl ?_
   refine WL.val (dx_move rfl rfl) rfl rfl ?_
   refine WL.off rfl rfl rfl ?_
   refine WL.off rfl rfl rfl ?_
   refine WL.off rfl rfl rfl ?_
   refine WL.off rfl rfl rfl ?_
   refine WL.off rfl rfl rfl ?_
   refine WL.off rfl rfl rfl ?_
   refine WL.off rfl rfl rfl ?_
   refine WL.val (dx_pick rfl rfl rfl) rfl rfl ?_
   refine WL.nil ?_
   refine hK14 ?_
   refine WC.condT rfl ?_
   refine WC.seq fun K18 hK18 => ?_
   refine WC.region ?_
   refine WL.val (dx_assign rfl rfl) rfl rfl ?_
   refine WL.nil ?_
   refine hK18 ?_
   refine WC.ret fun a_ ha_ => ?_
   exact hQ (cv_ret1 rfl (.tmp rfl) (by rw [eqJ_f (fun e => by obtain ⟨e1, e2, e3, e4, _⟩ := er_parts e; have e5 := er_len e; have e6 := congrArg List.length e4; first | contradiction | (exact absurd e3 (by assumption)) | omega)]) hB ha_)
  ·
   replace g17 := bnot_f g17
   replace g17 := of_decide_eq_true g17
   refine WL.val (dx_fld (o1 := 2) rfl ty_fld_26_2_2 rfl rfl) rfl rfl ?_
   refine WL.val (dx_load rfl ty_one_9 rfl (k3.cell (k := 2) rfl)) rfl rfl ?_
   refine WL.val (dx_fld (o1 := 2) rfl ty_fld_26_2_2 rfl rfl) rfl rfl ?_
   refine WL.val (dx_load rfl ty_one_9 rfl (k8.cell (k := 2) rfl)) rfl rfl ?_
   refine WL.val (dx_neqT rfl rfl rfl) rfl rfl ?_
   refine WL.val (dx_pick rfl rfl rfl) rfl rfl ?_
   refine WL.val (dx_move rfl rfl) rfl rfl ?_
   refine WL.split 26 rfl (fun g19 => ?_) (fun g19 => ?_)
   ·
    replace g19 := bnot_t g19
    replace g19 := of_decide_eq_false g19
    refine WL.off rfl rfl rfl ?_
    refine WL.off rfl rfl rfl ?_
    refine WL.off rfl rfl rfl ?_
    refine WL.off rfl rfl rfl ?_
    refine WL.off rfl rfl rfl ?_
    refine WL.off rfl rfl rfl ?_
    refine WL.off rfl rfl rfl ?_
    refine WL.val (dx_pick rfl rfl rfl) rfl rfl ?_
    refine WL.val (dx_move rfl rfl) rfl rfl ?_
    refine WL.off rfl rfl rfl ?_
    refine WL.off rfl rfl rfl ?_
    refine WL.off rfl rfl rfl ?_
    refine WL.off rfl rfl rfl ?_
    refine WL.off rfl rfl rfl ?_
    refine WL.off rfl rfl rfl ?_
    refine WL.off rfl rfl rfl ?_
    refine WL.val (dx_pick rfl rfl rfl) rfl rfl ?_
    refine WL.nil ?_
    refine hK14 ?_
    refine WC.condT rfl ?_
    refine WC.seq fun K20 hK20 => ?_
    refine WC.region ?_
    refine WL.val (dx_assign rfl rfl) rfl rfl ?_
    refine WL.nil ?_
    refine hK20 ?_
    refine WC.ret fun a_ ha_ => ?_
    exact hQ (cv_ret1 rfl (.tmp rfl) (by rw [eqJ_f (fun e => by obtain ⟨e1, e2, e3, e4, _⟩ := er_parts e; have e5 := er_len e; have e6 := congrArg List.length e4; first | contradiction | (exact absurd e3 (by assumption)) | omega)]) hB ha_)
   ·
    replace g19 := bnot_f g19
    replace g19 := of_decide_eq_true g19
    refine WL.val (dx_fld (o1 := 3) rfl ty_fld_26_3_3 rfl rfl) rfl rfl ?_
    refine WL.val (dx_load rfl ty_one_23 rfl (k3.cell (k := 3) rfl)) rfl rfl ?_
    refine WL.val (dx_lenFM rfl ty_slice_23 rfl hnp) rfl rfl ?_
    refine WL.val (dx_fld (o1 := 3) rfl ty_fld_26_3_3 rfl rfl) rfl rfl ?_
    refine WL.val (dx_load rfl ty_one_23 rfl (k8.cell (k := 3) rfl)) rfl rfl ?_
    refine WL.val (dx_lenFM rfl ty_slice_23 rfl hnq) rfl rfl ?_
    refine WL.val (dx_neq rfl rfl rfl) rfl rfl ?_
    refine WL.val (dx_pick rfl rfl rfl) rfl rfl ?_
    refine WL.val (dx_move rfl rfl) rfl rfl ?_
    refine WL.split 35 rfl (fun g21 => ?_) (fun g21 => ?_)
    ·
     replace g21 := bnot_t g21
     replace g21 := of_decide_eq_false g21
     refine WL.off rfl rfl rfl ?_
     refine WL.off rfl rfl rfl ?_
     refine WL.off rfl rfl rfl ?_
     refine WL.off rfl rfl rfl ?_
     refine WL.off rfl rfl rfl ?_
     refine WL.off rfl rfl rfl ?_
     refine WL.off rfl rfl rfl ?_
     refine WL.val (dx_pick rfl rfl rfl) rfl rfl ?_
     refine WL.nil ?_
     refine hK14 ?_
     refine WC.condT rfl ?_
     refine WC.seq fun K22 hK22 => ?_
     refine WC.region ?_
     refine WL.val (dx_assign rfl rfl) rfl rfl ?_
     refine WL.nil ?_
     refine hK22 ?_
     refine WC.ret fun a_ ha_ => ?_
     exact hQ (cv_ret1 rfl (.tmp rfl) (by rw [eqJ_f (fun e => by obtain ⟨e1, e2, e3, e4, _⟩ := er_parts e; have e5 := er_len e; have e6 := congrArg List.length e4; first | contradiction | (exact absurd e3 (by assumption)) | omega)]) hB ha_)
    ·
     replace g21 := bnot_f g21
     replace g21 := of_decide_eq_true g21
     refine WL.val (dx_fld (o1 := 4) rfl ty_fld_26_4_4 rfl rfl) rfl rfl ?_
     refine WL.val (dx_load rfl ty_one_24 rfl (k3.cell (k := 4) rfl)) rfl rfl ?_
     refine WL.val (dx_lenFM rfl ty_slice_24 rfl hip) rfl rfl ?_
     refine WL.val (dx_fld (o1 := 4) rfl ty_fld_26_4_4 rfl rfl) rfl rfl ?_
     refine WL.val (dx_load rfl ty_one_24 rfl (k8.cell (k := 4) rfl)) rfl rfl ?_
     refine WL.val (dx_lenFM rfl ty_slice_24 rfl hiq) rfl rfl ?_
     refine WL.val (dx_neq rfl rfl rfl) rfl rfl ?_
     refine WL.val (dx_pick rfl rfl rfl) rfl rfl ?_
     refine WL.nil ?_
     refine hK14 ?_
     refine WC.cond rfl (fun c23 => ?_) (fun c23 => ?_)
     ·
      replace c23 := bnot_t c23
      replace c23 := of_decide_eq_false c23
      refine WC.seq fun K24 hK24 => ?_
      refine WC.region ?_
      refine WL.val (dx_assign rfl rfl) rfl rfl ?_
      refine WL.nil ?_
      refine hK24 ?_
      refine WC.ret fun a_ ha_ => ?_
      exact hQ (cv_ret1 rfl (.tmp rfl) (by rw [eqJ_f (fun e => by obtain ⟨e1, e2, e3, e4, _⟩ := er_parts e; have e5 := er_len e; have e6 := congrArg List.length e4; first | contradiction | (exact absurd e3 (by assumption)) | omega)]) hB ha_)
     ·
      replace c23 := bnot_f c23
      replace c23 := of_decide_eq_true c23
      refine WC.skip ?_
      refine hK13 ?_
      refine WC.seq fun K25 hK25 => ?_
      refine WC.seq fun K26 hK26 => ?_
      have hln : p.items.length = q.items.length := by omega
      have hnn : p.names.length = q.names.length := by omega
      refine WC.region ?_
      refine WL.val (dx_assign rfl rfl) rfl rfl ?_
      refine WL.nil ?_
      refine hK26 ?_
      refine WC.block ?_
      refine WC.loop (fun (i : Nat) => [(2, .pointer (some ⟨w.heap.size, 0, none⟩)), (3, .pointer (some ⟨W2.heap.size, 0, none⟩)), (5, .int .i64 (i : Int))]) (fun (i : Nat) W => i ≤ p.names.length ∧ p.names.take i = q.names.take i ∧ Below w.heap.size w W ∧ LL (W2.heap.size :: w.heap.size :: L) W ∧ RdF 1 (W2.heap.size :: w.heap.size :: L) W p.nv (p.names.map eS) ∧ RdF 5 (W2.heap.size :: w.heap.size :: L) W p.iv (p.items.map encT) ∧ RdTs n (W2.heap.size :: w.heap.size :: L) W p.items ∧ RdF 1 (W2.heap.size :: w.heap.size :: L) W q.nv (q.names.map eS) ∧ RdF 5 (W2.heap.size :: w.heap.size :: L) W q.iv (q.items.map encT) ∧ RdTs n (W2.heap.size :: w.heap.size :: L) W q.items ∧ Blk W w.heap.size [.int .i64 p.kind, .int .i64 p.num, .string p.text, p.nv, p.iv] ∧ Blk W W2.heap.size [.int .i64 q.kind, .int .i64 q.num, .string q.text, q.nv, q.iv]) (fun (i : Nat) => p.names.length - i) 0 (by repeat first | exact trivial | exact And.intro rfl trivial | refine And.intro rfl ?_ | refine And.intro (congrArg (fun z : Int => some (Value.int .i64 z)) (by omega)) ?_ | refine And.intro (congrArg (fun z : Bool => some (Value.bool z)) (by first | exact (decide_eq_true (by omega)).symm | exact (decide_eq_false (by omega)).symm)) ?_) ⟨Nat.zero_le _, rfl, hB, hL, hnp, hip, hcp, hnq, hiq, hcq, k3, k8⟩ ?_
      clear hnp hip hcp hnq hiq hcq k3 k8 hB hL
      rintro K27 i W28 ⟨hi, hv, hB, hL, hnp, hip, hcp, hnq, hiq, hcq, k3, k8⟩ hK27
      refine WC.seq fun K29 hK29 => ?_
      refine WC.seq fun K30 hK30 => ?_
      refine WC.region ?_
      refine WL.val (dx_move rfl rfl) rfl rfl ?_
      refine WL.val (dx_fld (o1 := 3) rfl ty_fld_26_3_3 rfl rfl) rfl rfl ?_
      refine WL.val (dx_load rfl ty_one_23 rfl (k3.cell (k := 3) rfl)) rfl rfl ?_
      refine WL.val (dx_lenFM rfl ty_slice_23 rfl hnp) rfl rfl ?_
      refine WL.val (dx_lss rfl rfl rfl) rfl rfl ?_
      refine WL.nil ?_
      refine hK30 ?_
      refine WC.cond rfl (fun c31 => ?_) (fun c31 => ?_)
      ·
       replace c31 := of_decide_eq_true c31
       refine WC.skip ?_
       refine hK29 ?_
       refine WC.seq fun K32 hK32 => ?_
       refine WC.block ?_
       refine WC.seq fun K33 hK33 => ?_
       obtain ⟨r34, e35⟩ : ∃ x, p.names[i]? = some x := ⟨_, List.getElem?_eq_getElem (by omega)⟩
       obtain ⟨r36, e37⟩ : ∃ x, q.names[i]? = some x := ⟨_, List.getElem?_eq_getElem (by omega)⟩
       refine WC.drawM 10 [(some 51, .is (.pointer (some ⟨w.heap.size, 3, none⟩))), (some 52, .is (p.nv)), (some 53, .is (.int .i64 (i : Int))), (some 54, .by fun u W => PtR (W2.heap.size :: w.heap.size :: L) W u [.string r34]), (some 55, .is (.string r34)), (some 56, .is (.pointer (some ⟨W2.heap.size, 3, none⟩))), (some 57, .is (q.nv)), (some 58, .is (.int .i64 (i : Int))), (some 59, .by fun u W => PtR (W2.heap.size :: w.heap.size :: L) W u [.string r36]), (some 60, .is (.string r36))] [[], [0], [], [1, 2], [3], [], [5], [], [6, 7], [8]] (by kernel_rfl) (by kernel_rfl) (by kernel_rfl) (by kernel_rfl) (by kernel_rfl) (by kernel_rfl) (by kernel_rfl) ⟨fun _ _ _ hb h => h.below hb, fun _ _ _ hb h => h.below hb, trivial⟩ ?_ ?_
       ·
        refine DSteps.cons (fun Wd hd => ?_) ?_
        ·
         exact DV.dr (dx_fld (o1 := 3) rfl ty_fld_26_3_3 rfl rfl) ⟨Below.refl _ _, rfl⟩
        refine DSteps.cons (fun Wd hd => ?_) ?_
        ·
         have k3 := k3.below hd
         exact DV.dr (dx_load rfl ty_one_23 rfl (k3.cell (k := 3) rfl)) ⟨Below.refl _ _, rfl⟩
        refine DSteps.cons (fun Wd hd => ?_) ?_
        ·
         exact DV.dr (dx_move rfl rfl) ⟨Below.refl _ _, rfl⟩
        refine DSteps.cons (fun Wd hd => ?_) ?_
        ·
         have hnp := hnp.below hd
         exact (dx_idxF i rfl ty_slice_23 rfl rfl hnp (by omega) (at_mapX e35)).mono (fun v W' h => ⟨by rw [← h.1]; exact Below.refl _ _, by rw [← h.1]; exact h.2⟩)
        refine DSteps.cons (fun Wd hd => ?_) ?_
        ·
         intro u6_3 p6_3
         exact DV.dr (dx_loadP rfl ty_one_9 rfl p6_3) ⟨Below.refl _ _, rfl⟩
        refine DSteps.cons (fun Wd hd => ?_) ?_
        ·
         exact DV.dr (dx_fld (o1 := 3) rfl ty_fld_26_3_3 rfl rfl) ⟨Below.refl _ _, rfl⟩
        refine DSteps.cons (fun Wd hd => ?_) ?_
        ·
         have k8 := k8.below hd
         exact DV.dr (dx_load rfl ty_one_23 rfl (k8.cell (k := 3) rfl)) ⟨Below.refl _ _, rfl⟩
        refine DSteps.cons (fun Wd hd => ?_) ?_
        ·
         exact DV.dr (dx_move rfl rfl) ⟨Below.refl _ _, rfl⟩
        refine DSteps.cons (fun Wd hd => ?_) ?_
        ·
         have hnq := hnq.below hd
         exact (dx_idxF i rfl ty_slice_23 rfl rfl hnq (by omega) (at_mapX e37)).mono (fun v W' h => ⟨by rw [← h.1]; exact Below.refl _ _, by rw [← h.1]; exact h.2⟩)
        refine DSteps.cons (fun Wd hd => ?_) ?_
        ·
         intro u6_8 p6_8
         exact DV.dr (dx_loadP rfl ty_one_9 rfl p6_8) ⟨Below.refl _ _, rfl⟩
        exact trivial
       ·
        intro W38 b39
        intro u6_3 p6_3
        intro u6_8 p6_8
        replace hnp := hnp.below b39
        replace hip := hip.below b39
        replace hcp := hcp.below b39
        replace hnq := hnq.below b39
        replace hiq := hiq.below b39
        replace hcq := hcq.below b39
        replace k3 := k3.below b39
        replace k8 := k8.below b39
        replace hB := below_then hB b39
        replace hL := LL.below hL b39
        refine WL.val (dx_neqT rfl rfl rfl) rfl rfl ?_
        refine WL.nil ?_
        refine hK33 ?_
        refine WC.cond rfl (fun c40 => ?_) (fun c40 => ?_)
        ·
         replace c40 := bnot_t c40
         replace c40 := of_decide_eq_false c40
         refine WC.seq fun K41 hK41 => ?_
         refine WC.region ?_
         refine WL.val (dx_assign rfl rfl) rfl rfl ?_
         refine WL.nil ?_
         refine hK41 ?_
         refine WC.ret fun a_ ha_ => ?_
         exact hQ (cv_ret1 rfl (.tmp rfl) (by rw [eqJ_f (fun e => by obtain ⟨e1, e2, e3, e4, _⟩ := er_parts e; rw [e4, e37] at e35; cases e35; exact absurd rfl (by assumption))]) hB ha_)
        ·
         replace c40 := bnot_f c40
         replace c40 := of_decide_eq_true c40
         refine WC.skip ?_
         refine hK32 ?_
         refine WC.region ?_
         refine WL.val (dx_move rfl rfl) rfl rfl ?_
         refine WL.val (dx_add (r := (i : Int) + 1) rfl rfl rfl (wrap64_id (by omega))) rfl rfl ?_
         refine WL.val (dx_assign rfl rfl) rfl rfl ?_
         refine WL.nil ?_
         exact hK27 (i + 1) ⟨(by omega), (by rw [List.take_add_one, List.take_add_one, hv, e35, e37, show r34 = r36 by first | assumption | exact Classical.not_not.1 (by assumption)]), hB, hL, hnp, hip, hcp, hnq, hiq, hcq, k3, k8⟩ (by omega) (by repeat first | exact trivial | exact And.intro rfl trivial | refine And.intro rfl ?_ | refine And.intro (congrArg (fun z : Int => some (Value.int .i64 z)) (by omega)) ?_ | refine And.intro (congrArg (fun z : Bool => some (Value.bool z)) (by first | exact (decide_eq_true (by omega)).symm | exact (decide_eq_false (by omega)).symm)) ?_)
      ·
       replace c31 := of_decide_eq_false c31
       refine WC.exit ?_
       refine hK25 ?_
       refine WC.seq fun K42 hK42 => ?_
       refine WC.seq fun K43 hK43 => ?_
       have hns : p.names = q.names := by rw [List.take_of_length_le (by omega), List.take_of_length_le (by omega)] at hv; exact hv
       refine WC.region ?_
       refine WL.val (dx_assign rfl rfl) rfl rfl ?_
       refine WL.nil ?_
       refine hK43 ?_
       refine WC.block ?_
       refine WC.loop (fun (i : Nat) => [(2, .pointer (some ⟨w.heap.size, 0, none⟩)), (3, .pointer (some ⟨W2.heap.size, 0, none⟩)), (6, .int .i64 (i : Int))]) (fun (i : Nat) W => i ≤ p.items.length ∧ (∀ k x y, k < i → p.items[k]? = some x → q.items[k]? = some y → x.er = y.er) ∧ Below w.heap.size w W ∧ LL (W2.heap.size :: w.heap.size :: L) W ∧ RdF 1 (W2.heap.size :: w.heap.size :: L) W p.nv (p.names.map eS) ∧ RdF 5 (W2.heap.size :: w.heap.size :: L) W p.iv (p.items.map encT) ∧ RdTs n (W2.heap.size :: w.heap.size :: L) W p.items ∧ RdF 1 (W2.heap.size :: w.heap.size :: L) W q.nv (q.names.map eS) ∧ RdF 5 (W2.heap.size :: w.heap.size :: L) W q.iv (q.items.map encT) ∧ RdTs n (W2.heap.size :: w.heap.size :: L) W q.items ∧ Blk W w.heap.size [.int .i64 p.kind, .int .i64 p.num, .string p.text, p.nv, p.iv] ∧ Blk W W2.heap.size [.int .i64 q.kind, .int .i64 q.num, .string q.text, q.nv, q.iv]) (fun (i : Nat) => p.items.length - i) 0 (by repeat first | exact trivial | exact And.intro rfl trivial | refine And.intro rfl ?_ | refine And.intro (congrArg (fun z : Int => some (Value.int .i64 z)) (by omega)) ?_ | refine And.intro (congrArg (fun z : Bool => some (Value.bool z)) (by first | exact (decide_eq_true (by omega)).symm | exact (decide_eq_false (by omega)).symm)) ?_) ⟨Nat.zero_le _, (fun k x y hk => by omega), hB, hL, hnp, hip, hcp, hnq, hiq, hcq, k3, k8⟩ ?_
       clear hnp hip hcp hnq hiq hcq k3 k8 hB hL
       rintro K44 i W45 ⟨hi, hw, hB, hL, hnp, hip, hcp, hnq, hiq, hcq, k3, k8⟩ hK44
       refine WC.seq fun K46 hK46 => ?_
       refine WC.seq fun K47 hK47 => ?_
       refine WC.region ?_
       refine WL.val (dx_move rfl rfl) rfl rfl ?_
       refine WL.val (dx_fld (o1 := 4) rfl ty_fld_26_4_4 rfl rfl) rfl rfl ?_
       refine WL.val (dx_load rfl ty_one_24 rfl (k3.cell (k := 4) rfl)) rfl rfl ?_
       refine WL.val (dx_lenFM rfl ty_slice_24 rfl hip) rfl rfl ?_
       refine WL.val (dx_lss rfl rfl rfl) rfl rfl ?_
       refine WL.nil ?_
       refine hK47 ?_
       refine WC.cond rfl (fun c48 => ?_) (fun c48 => ?_)
       ·
        replace c48 := of_decide_eq_true c48
        refine WC.skip ?_
        refine hK46 ?_
        refine WC.seq fun K49 hK49 => ?_
        refine WC.block ?_
        refine WC.seq fun K50 hK50 => ?_
        obtain ⟨r51, e52⟩ : ∃ x, p.items[i]? = some x := ⟨_, List.getElem?_eq_getElem (by omega)⟩
        obtain ⟨r53, e54⟩ : ∃ x, q.items[i]? = some x := ⟨_, List.getElem?_eq_getElem (by omega)⟩
        refine WC.drawM 10 [(some 69, .is (.pointer (some ⟨w.heap.size, 4, none⟩))), (some 70, .is (p.iv)), (some 71, .is (.int .i64 (i : Int))), (some 72, .by fun u W => PtR (W2.heap.size :: w.heap.size :: L) W u (encT r51)), (some 73, .is (.agg #[.int .i64 r51.kind, .int .i64 r51.num, .string r51.text, r51.nv, r51.iv])), (some 74, .is (.pointer (some ⟨W2.heap.size, 4, none⟩))), (some 75, .is (q.iv)), (some 76, .is (.int .i64 (i : Int))), (some 77, .by fun u W => PtR (W2.heap.size :: w.heap.size :: L) W u (encT r53)), (some 78, .is (.agg #[.int .i64 r53.kind, .int .i64 r53.num, .string r53.text, r53.nv, r53.iv]))] [[], [0], [], [1, 2], [3], [], [5], [], [6, 7], [8]] (by kernel_rfl) (by kernel_rfl) (by kernel_rfl) (by kernel_rfl) (by kernel_rfl) (by kernel_rfl) (by kernel_rfl) ⟨fun _ _ _ hb h => h.below hb, fun _ _ _ hb h => h.below hb, trivial⟩ ?_ ?_
        ·
         refine DSteps.cons (fun Wd hd => ?_) ?_
         ·
          exact DV.dr (dx_fld (o1 := 4) rfl ty_fld_26_4_4 rfl rfl) ⟨Below.refl _ _, rfl⟩
         refine DSteps.cons (fun Wd hd => ?_) ?_
         ·
          have k3 := k3.below hd
          exact DV.dr (dx_load rfl ty_one_24 rfl (k3.cell (k := 4) rfl)) ⟨Below.refl _ _, rfl⟩
         refine DSteps.cons (fun Wd hd => ?_) ?_
         ·
          exact DV.dr (dx_move rfl rfl) ⟨Below.refl _ _, rfl⟩
         refine DSteps.cons (fun Wd hd => ?_) ?_
         ·
          have hip := hip.below hd
          exact (dx_idxF i rfl ty_slice_24 rfl rfl hip (by omega) (at_mapX e52)).mono (fun v W' h => ⟨by rw [← h.1]; exact Below.refl _ _, by rw [← h.1]; exact h.2⟩)
         refine DSteps.cons (fun Wd hd => ?_) ?_
         ·
          intro u11_3 p11_3
          exact DV.dr (dx_loadPN rfl ty_agg_26_5 rfl p11_3 rfl) ⟨Below.refl _ _, rfl⟩
         refine DSteps.cons (fun Wd hd => ?_) ?_
         ·
          exact DV.dr (dx_fld (o1 := 4) rfl ty_fld_26_4_4 rfl rfl) ⟨Below.refl _ _, rfl⟩
         refine DSteps.cons (fun Wd hd => ?_) ?_
         ·
          have k8 := k8.below hd
          exact DV.dr (dx_load rfl ty_one_24 rfl (k8.cell (k := 4) rfl)) ⟨Below.refl _ _, rfl⟩
         refine DSteps.cons (fun Wd hd => ?_) ?_
         ·
          exact DV.dr (dx_move rfl rfl) ⟨Below.refl _ _, rfl⟩
         refine DSteps.cons (fun Wd hd => ?_) ?_
         ·
          have hiq := hiq.below hd
          exact (dx_idxF i rfl ty_slice_24 rfl rfl hiq (by omega) (at_mapX e54)).mono (fun v W' h => ⟨by rw [← h.1]; exact Below.refl _ _, by rw [← h.1]; exact h.2⟩)
         refine DSteps.cons (fun Wd hd => ?_) ?_
         ·
          intro u11_8 p11_8
          exact DV.dr (dx_loadPN rfl ty_agg_26_5 rfl p11_8 rfl) ⟨Below.refl _ _, rfl⟩
         exact trivial
        ·
         intro W55 b56
         intro u11_3 p11_3
         intro u11_8 p11_8
         replace hnp := hnp.below b56
         replace hip := hip.below b56
         replace hcp := hcp.below b56
         replace hnq := hnq.below b56
         replace hiq := hiq.below b56
         replace hcq := hcq.below b56
         replace k3 := k3.below b56
         replace k8 := k8.below b56
         replace hB := below_then hB b56
         replace hL := LL.below hL b56
         refine WL.get (dx_cv rfl Try.func39 rfl rfl rfl (ih r51 r53 W55 _ hL (hcp r51 (List.mem_of_getElem? e52)) (hcq r53 (List.mem_of_getElem? e54)))) rfl rfl ?_
         rintro _ W58 ⟨rfl, b57⟩
         replace hnp := hnp.below b57
         replace hip := hip.below b57
         replace hcp := hcp.below b57
         replace hnq := hnq.below b57
         replace hiq := hiq.below b57
         replace hcq := hcq.below b57
         replace p11_3 := p11_3.below b57
         replace p11_8 := p11_8.below b57
         replace k3 := k3.below b57
         replace k8 := k8.below b57
         replace hB := below_then hB b57
         replace hL := LL.below hL b57
         refine WL.val (dx_not rfl rfl) rfl rfl ?_
         refine WL.nil ?_
         refine hK50 ?_
         refine WC.cond rfl (fun c59 => ?_) (fun c59 => ?_)
         ·
          replace c59 := bnot_t c59
          refine WC.seq fun K60 hK60 => ?_
          refine WC.region ?_
          refine WL.val (dx_assign rfl rfl) rfl rfl ?_
          refine WL.nil ?_
          refine hK60 ?_
          refine WC.ret fun a_ ha_ => ?_
          exact hQ (cv_ret1 rfl (.tmp rfl) (by rw [eqJ_f (fun e => by have hce := er_item e e52 e54; have := eqJ_t hce; simp_all)]) hB ha_)
         ·
          replace c59 := bnot_f c59
          refine WC.skip ?_
          refine hK49 ?_
          refine WC.region ?_
          refine WL.val (dx_move rfl rfl) rfl rfl ?_
          refine WL.val (dx_add (r := (i : Int) + 1) rfl rfl rfl (wrap64_id (by omega))) rfl rfl ?_
          refine WL.val (dx_assign rfl rfl) rfl rfl ?_
          refine WL.nil ?_
          have hce : r51.er = r53.er := Classical.byContradiction fun hn_ => by have := eqJ_f hn_; simp_all
          exact hK44 (i + 1) ⟨(by omega), (fun k x y hk hx hy => by rcases Nat.lt_or_ge k i with hl | hl; exact hw k x y hl hx hy; obtain rfl : k = i := (by omega); rw [e52] at hx; rw [e54] at hy; cases hx; cases hy; exact hce), hB, hL, hnp, hip, hcp, hnq, hiq, hcq, k3, k8⟩ (by omega) (by repeat first | exact trivial | exact And.intro rfl trivial | refine And.intro rfl ?_ | refine And.intro (congrArg (fun z : Int => some (Value.int .i64 z)) (by omega)) ?_ | refine And.intro (congrArg (fun z : Bool => some (Value.bool z)) (by first | exact (decide_eq_true (by omega)).symm | exact (decide_eq_false (by omega)).symm)) ?_)
       ·
        replace c48 := of_decide_eq_false c48
        refine WC.exit ?_
        refine hK42 ?_
        refine WC.seq fun K61 hK61 => ?_
        refine WC.region ?_
        refine WL.val (dx_assign rfl rfl) rfl rfl ?_
        refine WL.nil ?_
        refine hK61 ?_
        refine WC.ret fun a_ ha_ => ?_
        exact hQ (cv_ret1 rfl (.tmp rfl) (by rw [eqJ_t (er_eq (by first | assumption | simp_all) (by first | assumption | simp_all) (by first | assumption | simp_all) hns hln (fun k c d hc hd => hw k c d (by have := (List.getElem?_eq_some_iff.1 hc).1; omega) hc hd))]) hB ha_)

theorem refSame_all : ∀ n, RefSameAt n
 | 0 => fun p q _ _ _ h => h.elim
 | n + 1 => fun p q w L hL h1 h2 => refSame_step n (refSame_all n) p q w L hL h1 h2
set_option maxHeartbeats 1000000 in
theorem alike_v (n : Nat) (p q : Tr) (w : World) (L : List Nat) (hL : LL L w) (htp : RdT (n + 1) L w p) (htq : RdT (n + 1) L w q) : CV Try.prog 14 [.agg #[.int .i64 p.kind, .int .i64 p.num, .string p.text, p.nv, p.iv], .agg #[.int .i64 q.kind, .int .i64 q.num, .string q.text, q.nv, q.iv]] w fun v W => v = .bool (eqJ p.er q.er) := by
 refine cv_enter (N := 8) (f := [(0, .agg #[.int .i64 p.kind, .int .i64 p.num, .string p.text, p.nv, p.iv]), (1, .agg #[.int .i64 q.kind, .int .i64 q.num, .string q.text, q.nv, q.iv])]) Try.func14 rfl rfl rfl rfl fun Q hQ hE => ?_
 have hB := Below.refl w.heap.size w
 refine WC.seq fun K1 hK1 => ?_
 obtain ⟨hnp, hip, hcp⟩ := htp
 replace hcp : RdTs n (L) w p.items := hcp
 obtain ⟨hnq, hiq, hcq⟩ := htq
 replace hcq : RdTs n (L) w q.items := hcq
 refine WC.region ?_
 refine WL.get (dx_box rfl rfl rfl) rfl rfl ?_
 rintro _ W2 ⟨rfl, k3, b4, z5⟩
 have l6 := hB.size
 replace hnp := hnp.more b4 (Nat.le_refl _)
 replace hip := hip.more b4 (Nat.le_refl _)
 replace hcp := hcp.more b4 (Nat.le_refl _)
 replace hnq := hnq.more b4 (Nat.le_refl _)
 replace hiq := hiq.more b4 (Nat.le_refl _)
 replace hcq := hcq.more b4 (Nat.le_refl _)
 replace hB := below_then hB b4
 replace hL := LL.more hL z5
 refine WL.get (dx_box rfl rfl rfl) rfl rfl ?_
 rintro _ W7 ⟨rfl, k8, b9, z10⟩
 have l12 := hB.size
 replace hnp := hnp.more b9 (Nat.le_refl _)
 replace hip := hip.more b9 (Nat.le_refl _)
 replace hcp := hcp.more b9 (Nat.le_refl _)
 replace hnq := hnq.more b9 (Nat.le_refl _)
 replace hiq := hiq.more b9 (Nat.le_refl _)
 replace hcq := hcq.more b9 (Nat.le_refl _)
 replace k3 := k3.below b9
 replace hB := below_then hB b9
 replace hL := LL.more hL z10
 refine WL.val (dx_assign rfl rfl) rfl rfl ?_
 refine WL.nil ?_
 refine hK1 ?_
 refine WC.seq fun K13 hK13 => ?_
 refine WC.region ?_
 refine WL.val (dx_loadN rfl ty_agg_26_5 rfl k3.range rfl) rfl rfl ?_
 refine WL.val (dx_loadN rfl ty_agg_26_5 rfl k8.range rfl) rfl rfl ?_
 refine WL.get (dx_cv rfl Try.func39 rfl rfl rfl (refSame_all (n + 1) p q W7 _ hL (show RdT (n + 1) (W2.heap.size :: w.heap.size :: L) W7 p from ⟨hnp, hip, hcp⟩) (show RdT (n + 1) (W2.heap.size :: w.heap.size :: L) W7 q from ⟨hnq, hiq, hcq⟩))) rfl rfl ?_
 rintro _ W15 ⟨rfl, b14⟩
 replace hnp := hnp.below b14
 replace hip := hip.below b14
 replace hcp := hcp.below b14
 replace hnq := hnq.below b14
 replace hiq := hiq.below b14
 replace hcq := hcq.below b14
 replace k3 := k3.below b14
 replace k8 := k8.below b14
 replace hB := below_then hB b14
 replace hL := LL.below hL b14
 refine WL.val (dx_assign rfl rfl) rfl rfl ?_
 refine WL.nil ?_
 refine hK13 ?_
 refine WC.ret fun a_ ha_ => ?_
 exact hQ (cv_ret1 rfl (.tmp rfl) rfl hB ha_)

abbrev WeighAt (n : Nat) : Prop := ∀ (t : Tr) (most : Nat) (w : World) (L : List Nat), LL L w → RdT n L w t → most ≤ 1000000 → CV Try.prog 28 [.agg #[.int .i64 t.kind, .int .i64 t.num, .string t.text, t.nv, t.iv], .int .i64 (most : Int)] w fun v W => ∃ z : Int, v = .int .i64 z ∧ 1 ≤ z ∧ z ≤ 3 * (most : Int) + 3 ∧ (z ≤ (most : Int) → SzT most n t)
set_option maxHeartbeats 2000000 in
theorem weigh_step (n : Nat) (ih : WeighAt n) (t : Tr) (most : Nat) (w : World) (L : List Nat) (hL : LL L w) (ht : RdT (n + 1) L w t)  (hrm : most ≤ 1000000) : CV Try.prog 28 [.agg #[.int .i64 t.kind, .int .i64 t.num, .string t.text, t.nv, t.iv], .int .i64 (most : Int)] w fun v W => ∃ z : Int, v = .int .i64 z ∧ 1 ≤ z ∧ z ≤ 3 * (most : Int) + 3 ∧ (z ≤ (most : Int) → SzT most (n + 1) t) := by
 refine cv_enter (N := 61) (f := [(0, .agg #[.int .i64 t.kind, .int .i64 t.num, .string t.text, t.nv, t.iv]), (1, .int .i64 (most : Int))]) Try.func28 rfl rfl rfl rfl fun Q hQ hE => ?_
 have hB := Below.refl w.heap.size w
 refine WC.seq fun K1 hK1 => ?_
 obtain ⟨hnt, hit, hct⟩ := ht
 replace hct : RdTs n (L) w t.items := hct
 have hil0 := hit.len
 rw [List.length_map] at hil0
 have hnl0 := hnt.len
 rw [List.length_map] at hnl0
 unfold maxLen at hil0 hnl0
 refine WC.region ?_
 refine WL.get (dx_box rfl rfl rfl) rfl rfl ?_
 rintro _ W2 ⟨rfl, k3, b4, z5⟩
 have l6 := hB.size
 replace hnt := hnt.more b4 (Nat.le_refl _)
 replace hit := hit.more b4 (Nat.le_refl _)
 replace hct := hct.more b4 (Nat.le_refl _)
 replace hB := below_then hB b4
 replace hL := LL.more hL z5
 refine WL.val (dx_assign rfl rfl) rfl rfl ?_
 refine WL.nil ?_
 refine hK1 ?_
 refine WC.seq fun K7 hK7 => ?_
 refine WC.region ?_
 refine WL.val (dx_fld (o1 := 2) rfl ty_fld_26_2_2 rfl rfl) rfl rfl ?_
 refine WL.val (dx_load rfl ty_one_9 rfl (k3.cell (k := 2) rfl)) rfl rfl ?_
 refine WL.val (dx_lenT rfl Try.underlying9 rfl) rfl rfl ?_
 refine WL.val (dx_move rfl rfl) rfl rfl ?_
 refine WL.val (dx_min rfl rfl rfl) rfl rfl ?_
 refine WL.val (dx_add (r := 1 + (if (most : Int) < ((t.text).size : Int) then (most : Int) else ((t.text).size : Int))) rfl rfl rfl (wrap64_id (by omega))) rfl rfl ?_
 refine WL.val (dx_assign rfl rfl) rfl rfl ?_
 refine WL.nil ?_
 refine hK7 ?_
 refine WC.seq fun K8 hK8 => ?_
 refine WC.seq fun K9 hK9 => ?_
 refine WC.region ?_
 refine WL.val (dx_assign rfl rfl) rfl rfl ?_
 refine WL.nil ?_
 refine hK9 ?_
 refine WC.block ?_
 have hz0 := (show True from trivial)
 refine WC.loop2 (fun (i : Nat) (z : Int) => [(1, .int .i64 (most : Int)), (2, .pointer (some ⟨w.heap.size, 0, none⟩)), (6, .int .i64 (i : Int)), (5, .int .i64 z)]) (fun (i : Nat) (z : Int) W => i ≤ t.names.length ∧ (1 + (i : Int) ≤ z) ∧ z ≤ 3 * (most : Int) + 3 ∧ (z ≤ (most : Int) → t.text.size ≤ most ∧ ∀ k a, k < i → t.names[k]? = some a → a.size ≤ most) ∧ Below w.heap.size w W ∧ LL (w.heap.size :: L) W ∧ RdF 1 (w.heap.size :: L) W t.nv (t.names.map eS) ∧ RdF 5 (w.heap.size :: L) W t.iv (t.items.map encT) ∧ RdTs n (w.heap.size :: L) W t.items ∧ Blk W w.heap.size [.int .i64 t.kind, .int .i64 t.num, .string t.text, t.nv, t.iv]) (fun (i : Nat) (z : Int) => t.names.length - i) 0 (1 + (if (most : Int) < ((t.text).size : Int) then (most : Int) else ((t.text).size : Int))) (by repeat first | exact trivial | exact And.intro rfl trivial | refine And.intro rfl ?_ | refine And.intro (congrArg (fun z : Int => some (Value.int .i64 z)) (by omega)) ?_ | refine And.intro (congrArg (fun z : Bool => some (Value.bool z)) (by first | exact (decide_eq_true (by omega)).symm | exact (decide_eq_false (by omega)).symm)) ?_) ⟨Nat.zero_le _, (by omega), (by omega), (fun hh => ⟨by omega, fun k a hk => by omega⟩), hB, hL, hnt, hit, hct, k3⟩ ?_
 clear hnt hit hct k3 hB hL
 rintro K10 i z W11 ⟨hi, hz1, hz2, hs, hB, hL, hnt, hit, hct, k3⟩ hK10
 refine WC.seq fun K12 hK12 => ?_
 refine WC.seq fun K13 hK13 => ?_
 refine WC.region ?_
 refine WL.val (dx_move rfl rfl) rfl rfl ?_
 refine WL.val (dx_fld (o1 := 3) rfl ty_fld_26_3_3 rfl rfl) rfl rfl ?_
 refine WL.val (dx_load rfl ty_one_23 rfl (k3.cell (k := 3) rfl)) rfl rfl ?_
 refine WL.val (dx_lenFM rfl ty_slice_23 rfl hnt) rfl rfl ?_
 refine WL.val (dx_lss rfl rfl rfl) rfl rfl ?_
 refine WL.val (dx_move rfl rfl) rfl rfl ?_
 refine WL.split 19 rfl (fun g14 => ?_) (fun g14 => ?_)
 ·
  replace g14 := of_decide_eq_true g14
  refine WL.val (dx_move rfl rfl) rfl rfl ?_
  refine WL.val (dx_move rfl rfl) rfl rfl ?_
  refine WL.val (dx_leq rfl rfl rfl) rfl rfl ?_
  refine WL.val (dx_pick rfl rfl rfl) rfl rfl ?_
  refine WL.nil ?_
  refine hK13 ?_
  refine WC.cond rfl (fun c15 => ?_) (fun c15 => ?_)
  ·
   replace c15 := of_decide_eq_true c15
   refine WC.skip ?_
   refine hK12 ?_
   refine WC.seq fun K16 hK16 => ?_
   refine WC.block ?_
   refine WC.region ?_
   refine WL.val (dx_move rfl rfl) rfl rfl ?_
   refine WL.val (dx_add (r := z + 1) rfl rfl rfl (wrap64_id (by omega))) rfl rfl ?_
   refine WL.val (dx_fld (o1 := 3) rfl ty_fld_26_3_3 rfl rfl) rfl rfl ?_
   refine WL.val (dx_load rfl ty_one_23 rfl (k3.cell (k := 3) rfl)) rfl rfl ?_
   refine WL.val (dx_move rfl rfl) rfl rfl ?_
   obtain ⟨r17, e18⟩ : ∃ x, t.names[i]? = some x := ⟨_, List.getElem?_eq_getElem (by omega)⟩
   refine WL.get (dx_idxF i rfl ty_slice_23 rfl rfl hnt (by omega) (at_mapX e18)) rfl rfl ?_
   rintro u19 _ ⟨rfl, p20⟩
   refine WL.val (dx_loadP rfl ty_one_9 rfl p20) rfl rfl ?_
   refine WL.val (dx_lenT rfl Try.underlying9 rfl) rfl rfl ?_
   refine WL.val (dx_move rfl rfl) rfl rfl ?_
   refine WL.val (dx_min rfl rfl rfl) rfl rfl ?_
   refine WL.val (dx_add (r := (z + 1) + (if (most : Int) < (r17.size : Int) then (most : Int) else (r17.size : Int))) rfl rfl rfl (wrap64_id (by omega))) rfl rfl ?_
   refine WL.val (dx_assign rfl rfl) rfl rfl ?_
   refine WL.nil ?_
   refine hK16 ?_
   refine WC.region ?_
   refine WL.val (dx_move rfl rfl) rfl rfl ?_
   refine WL.val (dx_add (r := (i : Int) + 1) rfl rfl rfl (wrap64_id (by omega))) rfl rfl ?_
   refine WL.val (dx_assign rfl rfl) rfl rfl ?_
   refine WL.nil ?_
   exact hK10 (i + 1) ((z + 1) + (if (most : Int) < (r17.size : Int) then (most : Int) else (r17.size : Int))) ⟨(by omega), (by omega), (by omega), (fun hh => ⟨by have := (hs (by omega)).1; omega, fun k a hk ha => by rcases Nat.lt_or_ge k i with hl | hl; exact (hs (by omega)).2 k a hl ha; obtain rfl : k = i := (by omega); rw [e18] at ha; cases ha; omega⟩), hB, hL, hnt, hit, hct, k3⟩ (by omega) (by repeat first | exact trivial | exact And.intro rfl trivial | refine And.intro rfl ?_ | refine And.intro (congrArg (fun z : Int => some (Value.int .i64 z)) (by omega)) ?_ | refine And.intro (congrArg (fun z : Bool => some (Value.bool z)) (by first | exact (decide_eq_true (by omega)).symm | exact (decide_eq_false (by omega)).symm)) ?_)
  ·
   replace c15 := of_decide_eq_false c15
   refine WC.exit ?_
   refine hK8 ?_
   refine WC.seq fun K21 hK21 => ?_
   refine WC.seq fun K22 hK22 => ?_
   refine WC.region ?_
   refine WL.val (dx_assign rfl rfl) rfl rfl ?_
   refine WL.nil ?_
   refine hK22 ?_
   refine WC.block ?_
   have hnames : z ≤ (most : Int) → t.text.size ≤ most ∧ t.names.length ≤ most ∧ ∀ a ∈ t.names, a.size ≤ most := fun hh => by have hie : i = t.names.length := (by omega); refine ⟨(hs hh).1, by omega, fun a ha => ?_⟩; obtain ⟨k, hk⟩ := List.getElem?_of_mem ha; exact (hs hh).2 k a (by have := (List.getElem?_eq_some_iff.1 hk).1; omega) hk
   refine WC.loop2 (fun (j : Nat) (y : Int) => [(1, .int .i64 (most : Int)), (2, .pointer (some ⟨w.heap.size, 0, none⟩)), (7, .int .i64 (j : Int)), (5, .int .i64 y)]) (fun (j : Nat) (y : Int) W => j ≤ t.items.length ∧ (1 + (j : Int) ≤ y) ∧ y ≤ 3 * (most : Int) + 3 ∧ (y ≤ (most : Int) → (t.text.size ≤ most ∧ t.names.length ≤ most ∧ ∀ a ∈ t.names, a.size ≤ most) ∧ ∀ k c, k < j → t.items[k]? = some c → SzT most n c) ∧ Below w.heap.size w W ∧ LL (w.heap.size :: L) W ∧ RdF 1 (w.heap.size :: L) W t.nv (t.names.map eS) ∧ RdF 5 (w.heap.size :: L) W t.iv (t.items.map encT) ∧ RdTs n (w.heap.size :: L) W t.items ∧ Blk W w.heap.size [.int .i64 t.kind, .int .i64 t.num, .string t.text, t.nv, t.iv]) (fun (j : Nat) (y : Int) => t.items.length - j) 0 z (by repeat first | exact trivial | exact And.intro rfl trivial | refine And.intro rfl ?_ | refine And.intro (congrArg (fun z : Int => some (Value.int .i64 z)) (by omega)) ?_ | refine And.intro (congrArg (fun z : Bool => some (Value.bool z)) (by first | exact (decide_eq_true (by omega)).symm | exact (decide_eq_false (by omega)).symm)) ?_) ⟨Nat.zero_le _, (by omega), (by omega), (fun hh => ⟨hnames hh, fun k c hk => by omega⟩), hB, hL, hnt, hit, hct, k3⟩ ?_
   clear hnt hit hct k3 hB hL
   rintro K23 j y W24 ⟨hj, hy1, hy2, ht2, hB, hL, hnt, hit, hct, k3⟩ hK23
   refine WC.seq fun K25 hK25 => ?_
   refine WC.seq fun K26 hK26 => ?_
   refine WC.region ?_
   refine WL.val (dx_move rfl rfl) rfl rfl ?_
   refine WL.val (dx_fld (o1 := 4) rfl ty_fld_26_4_4 rfl rfl) rfl rfl ?_
   refine WL.val (dx_load rfl ty_one_24 rfl (k3.cell (k := 4) rfl)) rfl rfl ?_
   refine WL.val (dx_lenFM rfl ty_slice_24 rfl hit) rfl rfl ?_
   refine WL.val (dx_lss rfl rfl rfl) rfl rfl ?_
   refine WL.val (dx_move rfl rfl) rfl rfl ?_
   refine WL.split 42 rfl (fun g27 => ?_) (fun g27 => ?_)
   ·
    replace g27 := of_decide_eq_true g27
    refine WL.val (dx_move rfl rfl) rfl rfl ?_
    refine WL.val (dx_move rfl rfl) rfl rfl ?_
    refine WL.val (dx_leq rfl rfl rfl) rfl rfl ?_
    refine WL.val (dx_pick rfl rfl rfl) rfl rfl ?_
    refine WL.nil ?_
    refine hK26 ?_
    refine WC.cond rfl (fun c28 => ?_) (fun c28 => ?_)
    ·
     replace c28 := of_decide_eq_true c28
     refine WC.skip ?_
     refine hK25 ?_
     refine WC.seq fun K29 hK29 => ?_
     refine WC.block ?_
     obtain ⟨mm, hmm⟩ : ∃ k : Nat, (k : Int) = (most : Int) - y := ⟨((most : Int) - y).toNat, by omega⟩
     refine WC.region ?_
     refine WL.val (dx_move rfl rfl) rfl rfl ?_
     refine WL.val (dx_fld (o1 := 4) rfl ty_fld_26_4_4 rfl rfl) rfl rfl ?_
     refine WL.val (dx_load rfl ty_one_24 rfl (k3.cell (k := 4) rfl)) rfl rfl ?_
     refine WL.val (dx_move rfl rfl) rfl rfl ?_
     obtain ⟨r30, e31⟩ : ∃ x, t.items[j]? = some x := ⟨_, List.getElem?_eq_getElem (by omega)⟩
     refine WL.get (dx_idxF j rfl ty_slice_24 rfl rfl hit (by omega) (at_mapX e31)) rfl rfl ?_
     rintro u32 _ ⟨rfl, p33⟩
     refine WL.val (dx_loadPN rfl ty_agg_26_5 rfl p33 rfl) rfl rfl ?_
     refine WL.val (dx_move rfl rfl) rfl rfl ?_
     refine WL.val (dx_move rfl rfl) rfl rfl ?_
     refine WL.val (dx_sub (r := (mm : Int)) rfl rfl rfl (by rw [wrap64_id (by omega)]; omega)) rfl rfl ?_
     refine WL.get (dx_cv rfl Try.func28 rfl rfl rfl (ih r30 mm W24 _ hL (hct r30 (List.mem_of_getElem? e31)) (by omega))) rfl rfl ?_
     rintro _ W35 ⟨⟨wz, rfl, hw1, hw2, hws⟩, b34⟩
     replace hnt := hnt.below b34
     replace hit := hit.below b34
     replace hct := hct.below b34
     replace p33 := p33.below b34
     replace k3 := k3.below b34
     replace hB := below_then hB b34
     replace hL := LL.below hL b34
     refine WL.val (dx_add (r := y + wz) rfl rfl rfl (wrap64_id (by omega))) rfl rfl ?_
     refine WL.val (dx_assign rfl rfl) rfl rfl ?_
     refine WL.nil ?_
     refine hK29 ?_
     refine WC.region ?_
     refine WL.val (dx_move rfl rfl) rfl rfl ?_
     refine WL.val (dx_add (r := (j : Int) + 1) rfl rfl rfl (wrap64_id (by omega))) rfl rfl ?_
     refine WL.val (dx_assign rfl rfl) rfl rfl ?_
     refine WL.nil ?_
     exact hK23 (j + 1) (y + wz) ⟨(by omega), (by omega), (by omega), (fun hh => by obtain ⟨q1, q2⟩ := ht2 (by omega); exact ⟨q1, fun k a hk ha => by rcases Nat.lt_or_ge k j with hl | hl; exact q2 k a hl ha; obtain rfl : k = j := (by omega); rw [e31] at ha; cases ha; exact (hws (by omega)).le (by omega)⟩), hB, hL, hnt, hit, hct, k3⟩ (by omega) (by repeat first | exact trivial | exact And.intro rfl trivial | refine And.intro rfl ?_ | refine And.intro (congrArg (fun z : Int => some (Value.int .i64 z)) (by omega)) ?_ | refine And.intro (congrArg (fun z : Bool => some (Value.bool z)) (by first | exact (decide_eq_true (by omega)).symm | exact (decide_eq_false (by omega)).symm)) ?_)
    ·
     replace c28 := of_decide_eq_false c28
     refine WC.exit ?_
     refine hK21 ?_
     refine WC.seq fun K36 hK36 => ?_
     refine WC.region ?_
     refine WL.val (dx_move rfl rfl) rfl rfl ?_
     refine WL.val (dx_assign rfl rfl) rfl rfl ?_
     refine WL.nil ?_
     refine hK36 ?_
     refine WC.ret fun a_ ha_ => ?_
     exact hQ (cv_ret1 rfl (.tmp rfl) ⟨_, rfl, by omega, by omega, fun hh => by obtain ⟨⟨q1, q2, q3⟩, q4⟩ := ht2 hh; have hje : j = t.items.length := (by omega); exact ⟨q1, q2, by omega, q3, fun c hc => by obtain ⟨k, hk⟩ := List.getElem?_of_mem hc; exact q4 k c (by have := (List.getElem?_eq_some_iff.1 hk).1; omega) hk⟩⟩ hB ha_)
   ·
    replace g27 := of_decide_eq_false g27
    refine WL.off rfl rfl rfl ?_
    refine WL.off rfl rfl rfl ?_
    refine WL.off rfl rfl rfl ?_
    refine WL.val (dx_pick rfl rfl rfl) rfl rfl ?_
    refine WL.nil ?_
    refine hK26 ?_
    refine WC.condF rfl ?_
    refine WC.exit ?_
    refine hK21 ?_
    refine WC.seq fun K37 hK37 => ?_
    refine WC.region ?_
    refine WL.val (dx_move rfl rfl) rfl rfl ?_
    refine WL.val (dx_assign rfl rfl) rfl rfl ?_
    refine WL.nil ?_
    refine hK37 ?_
    refine WC.ret fun a_ ha_ => ?_
    exact hQ (cv_ret1 rfl (.tmp rfl) ⟨_, rfl, by omega, by omega, fun hh => by obtain ⟨⟨q1, q2, q3⟩, q4⟩ := ht2 hh; have hje : j = t.items.length := (by omega); exact ⟨q1, q2, by omega, q3, fun c hc => by obtain ⟨k, hk⟩ := List.getElem?_of_mem hc; exact q4 k c (by have := (List.getElem?_eq_some_iff.1 hk).1; omega) hk⟩⟩ hB ha_)
 ·
  replace g14 := of_decide_eq_false g14
  refine WL.off rfl rfl rfl ?_
  refine WL.off rfl rfl rfl ?_
  refine WL.off rfl rfl rfl ?_
  refine WL.val (dx_pick rfl rfl rfl) rfl rfl ?_
  refine WL.nil ?_
  refine hK13 ?_
  refine WC.condF rfl ?_
  refine WC.exit ?_
  refine hK8 ?_
  refine WC.seq fun K38 hK38 => ?_
  refine WC.seq fun K39 hK39 => ?_
  refine WC.region ?_
  refine WL.val (dx_assign rfl rfl) rfl rfl ?_
  refine WL.nil ?_
  refine hK39 ?_
  refine WC.block ?_
  have hnames : z ≤ (most : Int) → t.text.size ≤ most ∧ t.names.length ≤ most ∧ ∀ a ∈ t.names, a.size ≤ most := fun hh => by have hie : i = t.names.length := (by omega); refine ⟨(hs hh).1, by omega, fun a ha => ?_⟩; obtain ⟨k, hk⟩ := List.getElem?_of_mem ha; exact (hs hh).2 k a (by have := (List.getElem?_eq_some_iff.1 hk).1; omega) hk
  refine WC.loop2 (fun (j : Nat) (y : Int) => [(1, .int .i64 (most : Int)), (2, .pointer (some ⟨w.heap.size, 0, none⟩)), (7, .int .i64 (j : Int)), (5, .int .i64 y)]) (fun (j : Nat) (y : Int) W => j ≤ t.items.length ∧ (1 + (j : Int) ≤ y) ∧ y ≤ 3 * (most : Int) + 3 ∧ (y ≤ (most : Int) → (t.text.size ≤ most ∧ t.names.length ≤ most ∧ ∀ a ∈ t.names, a.size ≤ most) ∧ ∀ k c, k < j → t.items[k]? = some c → SzT most n c) ∧ Below w.heap.size w W ∧ LL (w.heap.size :: L) W ∧ RdF 1 (w.heap.size :: L) W t.nv (t.names.map eS) ∧ RdF 5 (w.heap.size :: L) W t.iv (t.items.map encT) ∧ RdTs n (w.heap.size :: L) W t.items ∧ Blk W w.heap.size [.int .i64 t.kind, .int .i64 t.num, .string t.text, t.nv, t.iv]) (fun (j : Nat) (y : Int) => t.items.length - j) 0 z (by repeat first | exact trivial | exact And.intro rfl trivial | refine And.intro rfl ?_ | refine And.intro (congrArg (fun z : Int => some (Value.int .i64 z)) (by omega)) ?_ | refine And.intro (congrArg (fun z : Bool => some (Value.bool z)) (by first | exact (decide_eq_true (by omega)).symm | exact (decide_eq_false (by omega)).symm)) ?_) ⟨Nat.zero_le _, (by omega), (by omega), (fun hh => ⟨hnames hh, fun k c hk => by omega⟩), hB, hL, hnt, hit, hct, k3⟩ ?_
  clear hnt hit hct k3 hB hL
  rintro K40 j y W41 ⟨hj, hy1, hy2, ht2, hB, hL, hnt, hit, hct, k3⟩ hK40
  refine WC.seq fun K42 hK42 => ?_
  refine WC.seq fun K43 hK43 => ?_
  refine WC.region ?_
  refine WL.val (dx_move rfl rfl) rfl rfl ?_
  refine WL.val (dx_fld (o1 := 4) rfl ty_fld_26_4_4 rfl rfl) rfl rfl ?_
  refine WL.val (dx_load rfl ty_one_24 rfl (k3.cell (k := 4) rfl)) rfl rfl ?_
  refine WL.val (dx_lenFM rfl ty_slice_24 rfl hit) rfl rfl ?_
  refine WL.val (dx_lss rfl rfl rfl) rfl rfl ?_
  refine WL.val (dx_move rfl rfl) rfl rfl ?_
  refine WL.split 42 rfl (fun g44 => ?_) (fun g44 => ?_)
  ·
   replace g44 := of_decide_eq_true g44
   refine WL.val (dx_move rfl rfl) rfl rfl ?_
   refine WL.val (dx_move rfl rfl) rfl rfl ?_
   refine WL.val (dx_leq rfl rfl rfl) rfl rfl ?_
   refine WL.val (dx_pick rfl rfl rfl) rfl rfl ?_
   refine WL.nil ?_
   refine hK43 ?_
   refine WC.cond rfl (fun c45 => ?_) (fun c45 => ?_)
   ·
    replace c45 := of_decide_eq_true c45
    refine WC.skip ?_
    refine hK42 ?_
    refine WC.seq fun K46 hK46 => ?_
    refine WC.block ?_
    obtain ⟨mm, hmm⟩ : ∃ k : Nat, (k : Int) = (most : Int) - y := ⟨((most : Int) - y).toNat, by omega⟩
    refine WC.region ?_
    refine WL.val (dx_move rfl rfl) rfl rfl ?_
    refine WL.val (dx_fld (o1 := 4) rfl ty_fld_26_4_4 rfl rfl) rfl rfl ?_
    refine WL.val (dx_load rfl ty_one_24 rfl (k3.cell (k := 4) rfl)) rfl rfl ?_
    refine WL.val (dx_move rfl rfl) rfl rfl ?_
    obtain ⟨r47, e48⟩ : ∃ x, t.items[j]? = some x := ⟨_, List.getElem?_eq_getElem (by omega)⟩
    refine WL.get (dx_idxF j rfl ty_slice_24 rfl rfl hit (by omega) (at_mapX e48)) rfl rfl ?_
    rintro u49 _ ⟨rfl, p50⟩
    refine WL.val (dx_loadPN rfl ty_agg_26_5 rfl p50 rfl) rfl rfl ?_
    refine WL.val (dx_move rfl rfl) rfl rfl ?_
    refine WL.val (dx_move rfl rfl) rfl rfl ?_
    refine WL.val (dx_sub (r := (mm : Int)) rfl rfl rfl (by rw [wrap64_id (by omega)]; omega)) rfl rfl ?_
    refine WL.get (dx_cv rfl Try.func28 rfl rfl rfl (ih r47 mm W41 _ hL (hct r47 (List.mem_of_getElem? e48)) (by omega))) rfl rfl ?_
    rintro _ W52 ⟨⟨wz, rfl, hw1, hw2, hws⟩, b51⟩
    replace hnt := hnt.below b51
    replace hit := hit.below b51
    replace hct := hct.below b51
    replace p50 := p50.below b51
    replace k3 := k3.below b51
    replace hB := below_then hB b51
    replace hL := LL.below hL b51
    refine WL.val (dx_add (r := y + wz) rfl rfl rfl (wrap64_id (by omega))) rfl rfl ?_
    refine WL.val (dx_assign rfl rfl) rfl rfl ?_
    refine WL.nil ?_
    refine hK46 ?_
    refine WC.region ?_
    refine WL.val (dx_move rfl rfl) rfl rfl ?_
    refine WL.val (dx_add (r := (j : Int) + 1) rfl rfl rfl (wrap64_id (by omega))) rfl rfl ?_
    refine WL.val (dx_assign rfl rfl) rfl rfl ?_
    refine WL.nil ?_
    exact hK40 (j + 1) (y + wz) ⟨(by omega), (by omega), (by omega), (fun hh => by obtain ⟨q1, q2⟩ := ht2 (by omega); exact ⟨q1, fun k a hk ha => by rcases Nat.lt_or_ge k j with hl | hl; exact q2 k a hl ha; obtain rfl : k = j := (by omega); rw [e48] at ha; cases ha; exact (hws (by omega)).le (by omega)⟩), hB, hL, hnt, hit, hct, k3⟩ (by omega) (by repeat first | exact trivial | exact And.intro rfl trivial | refine And.intro rfl ?_ | refine And.intro (congrArg (fun z : Int => some (Value.int .i64 z)) (by omega)) ?_ | refine And.intro (congrArg (fun z : Bool => some (Value.bool z)) (by first | exact (decide_eq_true (by omega)).symm | exact (decide_eq_false (by omega)).symm)) ?_)
   ·
    replace c45 := of_decide_eq_false c45
    refine WC.exit ?_
    refine hK38 ?_
    refine WC.seq fun K53 hK53 => ?_
    refine WC.region ?_
    refine WL.val (dx_move rfl rfl) rfl rfl ?_
    refine WL.val (dx_assign rfl rfl) rfl rfl ?_
    refine WL.nil ?_
    refine hK53 ?_
    refine WC.ret fun a_ ha_ => ?_
    exact hQ (cv_ret1 rfl (.tmp rfl) ⟨_, rfl, by omega, by omega, fun hh => by obtain ⟨⟨q1, q2, q3⟩, q4⟩ := ht2 hh; have hje : j = t.items.length := (by omega); exact ⟨q1, q2, by omega, q3, fun c hc => by obtain ⟨k, hk⟩ := List.getElem?_of_mem hc; exact q4 k c (by have := (List.getElem?_eq_some_iff.1 hk).1; omega) hk⟩⟩ hB ha_)
  ·
   replace g44 := of_decide_eq_false g44
   refine WL.off rfl rfl rfl ?_
   refine WL.off rfl rfl rfl ?_
   refine WL.off rfl rfl rfl ?_
   refine WL.val (dx_pick rfl rfl rfl) rfl rfl ?_
   refine WL.nil ?_
   refine hK43 ?_
   refine WC.condF rfl ?_
   refine WC.exit ?_
   refine hK38 ?_
   refine WC.seq fun K54 hK54 => ?_
   refine WC.region ?_
   refine WL.val (dx_move rfl rfl) rfl rfl ?_
   refine WL.val (dx_assign rfl rfl) rfl rfl ?_
   refine WL.nil ?_
   refine hK54 ?_
   refine WC.ret fun a_ ha_ => ?_
   exact hQ (cv_ret1 rfl (.tmp rfl) ⟨_, rfl, by omega, by omega, fun hh => by obtain ⟨⟨q1, q2, q3⟩, q4⟩ := ht2 hh; have hje : j = t.items.length := (by omega); exact ⟨q1, q2, by omega, q3, fun c hc => by obtain ⟨k, hk⟩ := List.getElem?_of_mem hc; exact q4 k c (by have := (List.getElem?_eq_some_iff.1 hk).1; omega) hk⟩⟩ hB ha_)

theorem weigh_all : ∀ n, WeighAt n
 | 0 => fun t _ _ _ _ h => h.elim
 | n + 1 => fun t most w L hL ht hr => weigh_step n (weigh_all n) t most w L hL ht hr
end Go.Proofs.Ytpinidlfcifeeaa
namespace Go.Proofs.Ytpinidlfcifeeaa
open Go.RowKit
set_option linter.unusedVariables false
section
variable {P : Program} {ops : Array Oper} {o : Oper} {N : Nat} {f : Fl} {w : World}
theorem fill_two5 {a0 a1 a2 a3 a4 b0 b1 b2 b3 b4 : Value} : ∀ c : Array Value, c.size = 10 → Instr.fill (fun k => some (k * 5, 5)) c [(0, .agg #[a0, a1, a2, a3, a4]), (1, .agg #[b0, b1, b2, b3, b4])] = some #[a0, a1, a2, a3, a4, b0, b1, b2, b3, b4] := fun c hc => by
 obtain ⟨l⟩ := c
 match l, hc with
 | [x0, x1, x2, x3, x4, y0, y1, y2, y3, y4], _ => simp [Instr.fill, Value.cells]
theorem dx_lit25 {t bytes : Nat} {x y : Operand} {a0 a1 a2 a3 a4 b0 b1 b2 b3 b4 : Value} (ho : o.op = .buildSlice t 2 #[(0, x), (1, y)]) (ht : apB P t 5 bytes = true) (hx : ev f x = some (.agg #[a0, a1, a2, a3, a4])) (hy : ev f y = some (.agg #[b0, b1, b2, b3, b4])) (hw : wantF ops o f = some true := by rfl) : DR P ops o N f w (NewO 5 w [[a0, a1, a2, a3, a4], [b0, b1, b2, b3, b4]]) := by
 obtain ⟨e, i, Z, hu, hi, hZ, hs, rfl, hzs⟩ := of_apB ht
 refine dx_lit (ps := [(0, .agg #[a0, a1, a2, a3, a4]), (1, .agg #[b0, b1, b2, b3, b4])]) (rs := [[a0, a1, a2, a3, a4], [b0, b1, b2, b3, b4]]) ho hu hi hZ hs (by decide) (by simp [evl, hx, hy]) (by omega) ?_ (by simp) rfl (by unfold maxLen; omega) hw
 rw [if_neg (by decide)]
 exact fill_two5 _ (by simp)
end
end Go.Proofs.Ytpinidlfcifeeaa
namespace Go.Proofs.Ytpinidlfcifeeaa
open Go.RowKit
set_option linter.unusedVariables false
set_option linter.unusedSimpArgs false
set_option maxRecDepth 8000

def noJ : Js := .mk 0 0 ⟨#[]⟩ [] []
def getJ (j : Js) (name : ByteArray) : Js × Bool := if j.kind = 6 ∧ 0 ≤ idxX (fun x => decide (name = x)) j.names 0 ∧ (idxX (fun x => decide (name = x)) j.names 0).toNat < j.items.length then ((j.items[(idxX (fun x => decide (name = x)) j.names 0).toNat]?).getD noJ, true) else (noJ, false)
theorem getT_er (t : Tr) (name : ByteArray) : ((getT t name).1.er, (getT t name).2) = getJ t.er name := by
  unfold getT getJ
  rw [er_kind, er_names, er_items, List.length_map]
  split
  · rename_i h
    rw [List.getElem?_map, List.getElem?_eq_getElem h.2.2]; rfl
  · unfold noT noJ; rw [Tr.er_mk]; rfl
theorem pa1 : parJ { data := #[123, 34, 98, 34, 58, 32, 91, 49, 44, 32, 45, 50, 93, 44, 32, 34, 97, 34, 58, 32, 34, 92, 117, 48, 48, 101, 57, 34, 125] } = .ok (.mk 6 0 ⟨#[]⟩ [⟨#[97]⟩, ⟨#[98]⟩] [.mk 4 0 ⟨#[195, 169]⟩ [] [], .mk 5 0 ⟨#[]⟩ [] [.mk 3 1 ⟨#[]⟩ [] [], .mk 3 (-2) ⟨#[]⟩ [] []]]) := by kernel_rfl
theorem pa2 : parJ { data := #[49, 46, 53] } = .error 2 := by kernel_rfl
theorem pa3 : parJ { data := #[123, 34, 97, 34, 58, 49, 44, 34, 97, 34, 58, 50, 125] } = .error 6 := by kernel_rfl
theorem alP1 (w : World) (L : List Nat) (hL : LL L w) : CV Try.prog 12 [.string { data := #[123, 34, 98, 34, 58, 32, 91, 49, 44, 32, 45, 50, 93, 44, 32, 34, 97, 34, 58, 32, 34, 92, 117, 48, 48, 101, 57, 34, 125] }] w fun v W => ∃ t, v = .tuple #[.agg #[.int .i64 t.kind, .int .i64 t.num, .string t.text, t.nv, t.iv], .int .i64 0] ∧ getJ t.er ⟨#[97]⟩ = (.mk 4 0 ⟨#[195, 169]⟩ [] [], true) ∧ deepJ 13 t.er = 2 ∧ RdT 13 L W t :=
  (jParse_v { data := #[123, 34, 98, 34, 58, 32, 91, 49, 44, 32, 45, 50, 93, 44, 32, 34, 97, 34, 58, 32, 34, 92, 117, 48, 48, 101, 57, 34, 125] } w L hL).mono fun v W _ h => by
    rcases h with ⟨t, rfl, h1, h2⟩ | ⟨e, rfl, h0, h1⟩
    · rw [pa1] at h1
      have h1 := (Except.ok.inj h1).symm
      exact ⟨t, rfl, by rw [h1]; kernel_rfl, by rw [h1]; kernel_rfl, h2⟩
    · rw [pa1] at h1; cases h1
theorem alP2 (w : World) (L : List Nat) (hL : LL L w) : CV Try.prog 12 [.string { data := #[49, 46, 53] }] w fun v W => v = .tuple #[.agg #[.int .i64 0, .int .i64 0, .string ⟨#[]⟩, .slice none 0 0, .slice none 0 0], .int .i64 2] :=
  (jParse_v { data := #[49, 46, 53] } w L hL).mono fun v W _ h => by
    rcases h with ⟨t, rfl, h1, h2⟩ | ⟨e, rfl, h0, h1⟩
    · rw [pa2] at h1; cases h1
    · rw [pa2] at h1; cases h1; rfl
theorem alP3 (w : World) (L : List Nat) (hL : LL L w) : CV Try.prog 12 [.string { data := #[123, 34, 97, 34, 58, 49, 44, 34, 97, 34, 58, 50, 125] }] w fun v W => v = .tuple #[.agg #[.int .i64 0, .int .i64 0, .string ⟨#[]⟩, .slice none 0 0, .slice none 0 0], .int .i64 6] :=
  (jParse_v { data := #[123, 34, 97, 34, 58, 49, 44, 34, 97, 34, 58, 50, 125] } w L hL).mono fun v W _ h => by
    rcases h with ⟨t, rfl, h1, h2⟩ | ⟨e, rfl, h0, h1⟩
    · rw [pa3] at h1; cases h1
    · rw [pa3] at h1; cases h1; rfl
theorem alG (t : Tr) (w : World) (L : List Nat) (hL : LL L w) (ht : RdT 13 L w t) (hg : getJ t.er ⟨#[97]⟩ = (.mk 4 0 ⟨#[195, 169]⟩ [] [], true)) : CV Try.prog 17 [.agg #[.int .i64 t.kind, .int .i64 t.num, .string t.text, t.nv, t.iv], .string ⟨#[97]⟩] w fun v W => ∃ a, v = .tuple #[.agg #[.int .i64 a.kind, .int .i64 a.num, .string a.text, a.nv, a.iv], .bool true] ∧ a.text = ⟨#[195, 169]⟩ ∧ RdT 13 L W a :=
 (jGet_v 12 t ⟨#[97]⟩ w L hL ht).mono fun v W hb h => by
  subst h
  have e := (getT_er t ⟨#[97]⟩).trans hg
  simp only [Prod.mk.injEq] at e
  refine ⟨(getT t ⟨#[97]⟩).1, by rw [e.2]; rfl, ?_, (getT_rd ht _).below hb⟩
  rw [← er_text, e.1]; rfl
set_option maxHeartbeats 1000000 in
theorem alive_v  (w : World) (L : List Nat) (hL : LL L w)  : CV Try.prog 11 [] w fun v W => v = .bool true := by
 refine cv_enter (N := 49) (f := []) Try.func11 rfl rfl rfl rfl fun Q hQ hE => ?_
 have hB := Below.refl w.heap.size w
 refine WC.seq fun K1 hK1 => ?_
 refine WC.region ?_
 refine WL.val (dx_assign rfl rfl) rfl rfl ?_
 refine WL.nil ?_
 refine hK1 ?_
 refine WC.seq fun K2 hK2 => ?_
 refine WC.region ?_
 refine WL.get (dx_cv rfl Try.func12 rfl rfl rfl (alP1 w _ hL)) rfl rfl ?_
 rintro _ W4 ⟨⟨t, rfl, hgj, hdj, ht⟩, b3⟩
 replace hB := below_then hB b3
 replace hL := LL.below hL b3
 obtain ⟨hnt, hit, hct⟩ := ht
 replace hct : RdTs 12 (L) W4 t.items := hct
 refine WL.val (dx_move rfl rfl) rfl rfl ?_
 refine WL.val (dx_extract rfl rfl rfl) rfl rfl ?_
 refine WL.val (dx_extract rfl rfl rfl) rfl rfl ?_
 refine WL.get (dx_alloc rfl ty_zero_26 rfl) rfl rfl ?_
 rintro _ W5 ⟨rfl, k6, b7, z8⟩
 have l9 := hB.size
 replace hnt := hnt.more b7 (Nat.le_refl _)
 replace hit := hit.more b7 (Nat.le_refl _)
 replace hct := hct.more b7 (Nat.le_refl _)
 replace hB := below_then hB b7
 replace hL := LL.more hL z8
 refine WL.do (dx_store (cs' := [.int .i64 t.kind, .int .i64 t.num, .string t.text, t.nv, t.iv]) (vs := [.int .i64 t.kind, .int .i64 t.num, .string t.text, t.nv, t.iv]) rfl ty_size_26_5 rfl rfl rfl (oc_cons rfl (oc_cons rfl (oc_cons rfl (oc_cons hnt.one (oc_cons hit.one oc_nil))))) k6 rfl (Nat.le_of_ble_eq_true rfl) rfl) rfl ?_
 rintro _ W10 ⟨k12, o11⟩
 clear k6
 replace hnt := hnt.only o11 (.head _)
 replace hit := hit.only o11 (.head _)
 replace hct := hct.only o11 (.head _)
 replace hB := o11.below hB l9
 replace hL := LL.only hL o11
 refine WL.val (dx_assign rfl rfl) rfl rfl ?_
 refine WL.nil ?_
 refine hK2 ?_
 refine WC.seq fun K13 hK13 => ?_
 refine WC.region ?_
 refine WL.get (dx_cv rfl Try.func12 rfl rfl rfl (alP2 W10 _ hL)) rfl rfl ?_
 rintro _ W15 ⟨rfl, b14⟩
 replace hnt := hnt.below b14
 replace hit := hit.below b14
 replace hct := hct.below b14
 replace k12 := k12.below b14
 replace hB := below_then hB b14
 replace hL := LL.below hL b14
 refine WL.val (dx_move rfl rfl) rfl rfl ?_
 refine WL.val (dx_extract rfl rfl rfl) rfl rfl ?_
 refine WL.val (dx_extract rfl rfl rfl) rfl rfl ?_
 refine WL.get (dx_alloc rfl ty_zero_26 rfl) rfl rfl ?_
 rintro _ W16 ⟨rfl, k17, b18, z19⟩
 have n20 : W4.heap.size ≠ W15.heap.size := Nat.ne_of_lt k12.lt
 have l21 := hB.size
 replace hnt := hnt.more b18 (Nat.le_refl _)
 replace hit := hit.more b18 (Nat.le_refl _)
 replace hct := hct.more b18 (Nat.le_refl _)
 replace k12 := k12.below b18
 replace hB := below_then hB b18
 replace hL := LL.more hL z19
 refine WL.do (dx_store (cs' := [.int .i64 0, .int .i64 0, .string ⟨#[]⟩, .slice none 0 0, .slice none 0 0]) (vs := [.int .i64 0, .int .i64 0, .string ⟨#[]⟩, .slice none 0 0, .slice none 0 0]) rfl ty_size_26_5 rfl rfl rfl (oc_cons rfl (oc_cons rfl (oc_cons rfl (oc_cons rfl (oc_cons rfl oc_nil))))) k17 rfl (Nat.le_of_ble_eq_true rfl) rfl) rfl ?_
 rintro _ W22 ⟨k24, o23⟩
 replace k12 := k12.other o23 n20
 clear k17
 replace hnt := hnt.only o23 (.head _)
 replace hit := hit.only o23 (.head _)
 replace hct := hct.only o23 (.head _)
 replace hB := o23.below hB l21
 replace hL := LL.only hL o23
 refine WL.val (dx_assign rfl rfl) rfl rfl ?_
 refine WL.nil ?_
 refine hK13 ?_
 refine WC.seq fun K25 hK25 => ?_
 refine WC.region ?_
 refine WL.get (dx_cv rfl Try.func12 rfl rfl rfl (alP3 W22 _ hL)) rfl rfl ?_
 rintro _ W27 ⟨rfl, b26⟩
 replace hnt := hnt.below b26
 replace hit := hit.below b26
 replace hct := hct.below b26
 replace k12 := k12.below b26
 replace k24 := k24.below b26
 replace hB := below_then hB b26
 replace hL := LL.below hL b26
 refine WL.val (dx_move rfl rfl) rfl rfl ?_
 refine WL.val (dx_extract rfl rfl rfl) rfl rfl ?_
 refine WL.val (dx_extract rfl rfl rfl) rfl rfl ?_
 refine WL.get (dx_alloc rfl ty_zero_26 rfl) rfl rfl ?_
 rintro _ W28 ⟨rfl, k29, b30, z31⟩
 have n32 : W4.heap.size ≠ W27.heap.size := Nat.ne_of_lt k12.lt
 have n33 : W15.heap.size ≠ W27.heap.size := Nat.ne_of_lt k24.lt
 have l34 := hB.size
 replace hnt := hnt.more b30 (Nat.le_refl _)
 replace hit := hit.more b30 (Nat.le_refl _)
 replace hct := hct.more b30 (Nat.le_refl _)
 replace k12 := k12.below b30
 replace k24 := k24.below b30
 replace hB := below_then hB b30
 replace hL := LL.more hL z31
 refine WL.do (dx_store (cs' := [.int .i64 0, .int .i64 0, .string ⟨#[]⟩, .slice none 0 0, .slice none 0 0]) (vs := [.int .i64 0, .int .i64 0, .string ⟨#[]⟩, .slice none 0 0, .slice none 0 0]) rfl ty_size_26_5 rfl rfl rfl (oc_cons rfl (oc_cons rfl (oc_cons rfl (oc_cons rfl (oc_cons rfl oc_nil))))) k29 rfl (Nat.le_of_ble_eq_true rfl) rfl) rfl ?_
 rintro _ W35 ⟨k37, o36⟩
 replace k12 := k12.other o36 n32
 replace k24 := k24.other o36 n33
 clear k29
 replace hnt := hnt.only o36 (.head _)
 replace hit := hit.only o36 (.head _)
 replace hct := hct.only o36 (.head _)
 replace hB := o36.below hB l34
 replace hL := LL.only hL o36
 refine WL.val (dx_assign rfl rfl) rfl rfl ?_
 refine WL.nil ?_
 refine hK25 ?_
 refine WC.seq fun K38 hK38 => ?_
 refine WC.region ?_
 refine WL.val (dx_loadN rfl ty_agg_26_5 rfl k12.range rfl) rfl rfl ?_
 refine WL.get (dx_cv rfl Try.func17 rfl rfl rfl (alG t W35 _ hL (show RdT (12 + 1) (W27.heap.size :: W15.heap.size :: W4.heap.size :: L) W35 t from ⟨hnt, hit, hct⟩) hgj)) rfl rfl ?_
 rintro _ W40 ⟨⟨a, rfl, htx, ha⟩, b39⟩
 replace hnt := hnt.below b39
 replace hit := hit.below b39
 replace hct := hct.below b39
 replace k12 := k12.below b39
 replace k24 := k24.below b39
 replace k37 := k37.below b39
 replace hB := below_then hB b39
 replace hL := LL.below hL b39
 obtain ⟨hna, hia, hca⟩ := ha
 replace hca : RdTs 12 (W27.heap.size :: W15.heap.size :: W4.heap.size :: L) W40 a.items := hca
 refine WL.val (dx_move rfl rfl) rfl rfl ?_
 refine WL.val (dx_extract rfl rfl rfl) rfl rfl ?_
 refine WL.val (dx_extract rfl rfl rfl) rfl rfl ?_
 refine WL.get (dx_alloc rfl ty_zero_26 rfl) rfl rfl ?_
 rintro _ W41 ⟨rfl, k42, b43, z44⟩
 have n45 : W4.heap.size ≠ W40.heap.size := Nat.ne_of_lt k12.lt
 have n46 : W15.heap.size ≠ W40.heap.size := Nat.ne_of_lt k24.lt
 have n47 : W27.heap.size ≠ W40.heap.size := Nat.ne_of_lt k37.lt
 have l48 := hB.size
 replace hnt := hnt.more b43 (Nat.le_refl _)
 replace hit := hit.more b43 (Nat.le_refl _)
 replace hct := hct.more b43 (Nat.le_refl _)
 replace hna := hna.more b43 (Nat.le_refl _)
 replace hia := hia.more b43 (Nat.le_refl _)
 replace hca := hca.more b43 (Nat.le_refl _)
 replace k12 := k12.below b43
 replace k24 := k24.below b43
 replace k37 := k37.below b43
 replace hB := below_then hB b43
 replace hL := LL.more hL z44
 refine WL.do (dx_store (cs' := [.int .i64 a.kind, .int .i64 a.num, .string a.text, a.nv, a.iv]) (vs := [.int .i64 a.kind, .int .i64 a.num, .string a.text, a.nv, a.iv]) rfl ty_size_26_5 rfl rfl rfl (oc_cons rfl (oc_cons rfl (oc_cons rfl (oc_cons hna.one (oc_cons hia.one oc_nil))))) k42 rfl (Nat.le_of_ble_eq_true rfl) rfl) rfl ?_
 rintro _ W49 ⟨k51, o50⟩
 replace k12 := k12.other o50 n45
 replace k24 := k24.other o50 n46
 replace k37 := k37.other o50 n47
 clear k42
 replace hnt := hnt.only o50 (.head _)
 replace hit := hit.only o50 (.head _)
 replace hct := hct.only o50 (.head _)
 replace hna := hna.only o50 (.head _)
 replace hia := hia.only o50 (.head _)
 replace hca := hca.only o50 (.head _)
 replace hB := o50.below hB l48
 replace hL := LL.only hL o50
 refine WL.val (dx_assign rfl rfl) rfl rfl ?_
 refine WL.nil ?_
 refine hK38 ?_
 refine WC.seq fun K52 hK52 => ?_
 refine WC.region ?_
 refine WL.val (dx_move rfl rfl) rfl rfl ?_
 refine WL.val (dx_eql rfl rfl rfl) rfl rfl ?_
 refine WL.val (dx_move rfl rfl) rfl rfl ?_
 refine WL.val (dx_move rfl rfl) rfl rfl ?_
 refine WL.val (dx_eql rfl rfl rfl) rfl rfl ?_
 refine WL.val (dx_pick rfl rfl rfl) rfl rfl ?_
 refine WL.val (dx_move rfl rfl) rfl rfl ?_
 refine WL.val (dx_move rfl rfl) rfl rfl ?_
 refine WL.val (dx_eql rfl rfl rfl) rfl rfl ?_
 refine WL.val (dx_pick rfl rfl rfl) rfl rfl ?_
 refine WL.val (dx_move rfl rfl) rfl rfl ?_
 refine WL.val (dx_move rfl rfl) rfl rfl ?_
 refine WL.val (dx_pick rfl rfl rfl) rfl rfl ?_
 refine WL.val (dx_move rfl rfl) rfl rfl ?_
 refine WL.val (dx_fld (o1 := 2) rfl ty_fld_26_2_2 rfl rfl) rfl rfl ?_
 refine WL.val (dx_load rfl ty_one_9 rfl (k51.cell (k := 2) rfl)) rfl rfl ?_
 refine WL.val (dv_T (dx_eqlT rfl rfl rfl) htx) rfl rfl ?_
 refine WL.val (dx_pick rfl rfl rfl) rfl rfl ?_
 refine WL.val (dx_move rfl rfl) rfl rfl ?_
 refine WL.val (dx_loadN rfl ty_agg_26_5 rfl k12.range rfl) rfl rfl ?_
 refine WL.get (dx_cv rfl Try.func20 rfl rfl rfl (jDeep_v 12 t W49 _ hL (show RdT (12 + 1) (W40.heap.size :: W27.heap.size :: W15.heap.size :: W4.heap.size :: L) W49 t from ⟨hnt, hit, hct⟩))) rfl rfl ?_
 rintro _ W54 ⟨rfl, b53⟩
 replace hnt := hnt.below b53
 replace hit := hit.below b53
 replace hct := hct.below b53
 replace hna := hna.below b53
 replace hia := hia.below b53
 replace hca := hca.below b53
 replace k12 := k12.below b53
 replace k24 := k24.below b53
 replace k37 := k37.below b53
 replace k51 := k51.below b53
 replace hB := below_then hB b53
 replace hL := LL.below hL b53
 refine WL.val (dv_T (dx_eql rfl rfl rfl) (by rw [hdj]; rfl)) rfl rfl ?_
 refine WL.val (dx_pick rfl rfl rfl) rfl rfl ?_
 refine WL.val (dx_assign rfl rfl) rfl rfl ?_
 refine WL.nil ?_
 refine hK52 ?_
 refine WC.ret fun a_ ha_ => ?_
 exact hQ (cv_ret1 rfl (.tmp rfl) rfl hB ha_)

set_option maxHeartbeats 1000000 in
theorem great_v (n : Nat) (ts : List Tr) (sv : Value) (w : World) (L : List Nat) (hL : LL L w) (h1 : RdF 5 L w sv (ts.map encT)) (hts : RdTs (n + 1) L w ts)  (hsm : ts.length ≤ 100) : CV Try.prog 16 [sv] w fun v W => ∃ b, v = .bool b ∧ (b = false → ∀ t ∈ ts, SzT 1000 (n + 1) t) := by
 refine cv_enter (N := 20) (f := [(0, sv)]) Try.func16 rfl rfl rfl rfl fun Q hQ hE => ?_
 have hB := Below.refl w.heap.size w
 have h1m : ts.length ≤ maxLen := by have := h1.len; rwa [List.length_map] at this
 unfold maxLen at h1m
 refine WC.seq fun K1 hK1 => ?_
 refine WC.region ?_
 refine WL.val (dx_assign rfl rfl) rfl rfl ?_
 refine WL.nil ?_
 refine hK1 ?_
 refine WC.seq fun K2 hK2 => ?_
 refine WC.region ?_
 refine WL.val (dx_assign rfl rfl) rfl rfl ?_
 refine WL.nil ?_
 refine hK2 ?_
 refine WC.seq fun K3 hK3 => ?_
 refine WC.seq fun K4 hK4 => ?_
 refine WC.region ?_
 refine WL.val (dx_assign rfl rfl) rfl rfl ?_
 refine WL.nil ?_
 refine hK4 ?_
 refine WC.block ?_
 refine WC.loop2 (fun (i : Nat) (z : Int) => [(0, sv), (4, .int .i64 (i : Int)), (3, .int .i64 z)]) (fun (i : Nat) (z : Int) W => i ≤ ts.length ∧ 0 ≤ z ∧ z ≤ 3003 * (i : Int) ∧ (z ≤ 1000 → ∀ k a, k < i → ts[k]? = some a → SzT 1000 (n + 1) a) ∧ Below w.heap.size w W ∧ LL (L) W ∧ RdF 5 (L) W sv (ts.map encT) ∧ RdTs (n + 1) (L) W ts) (fun (i : Nat) (z : Int) => ts.length - i) 0 0 (by repeat first | exact trivial | exact And.intro rfl trivial | refine And.intro rfl ?_ | refine And.intro (congrArg (fun z : Int => some (Value.int .i64 z)) (by omega)) ?_ | refine And.intro (congrArg (fun z : Bool => some (Value.bool z)) (by first | exact (decide_eq_true (by omega)).symm | exact (decide_eq_false (by omega)).symm)) ?_) ⟨Nat.zero_le _, (by omega), (by omega), (fun _ k a hk => by omega), hB, hL, h1, hts⟩ ?_
 clear h1 hts hB hL
 rintro K5 i z W6 ⟨hi, hz0, hz1, hs, hB, hL, h1, hts⟩ hK5
 refine WC.seq fun K7 hK7 => ?_
 refine WC.seq fun K8 hK8 => ?_
 refine WC.region ?_
 refine WL.val (dx_move rfl rfl) rfl rfl ?_
 refine WL.val (dx_move rfl rfl) rfl rfl ?_
 refine WL.val (dx_lenFM rfl ty_slice_24 rfl h1) rfl rfl ?_
 refine WL.val (dx_lss rfl rfl rfl) rfl rfl ?_
 refine WL.nil ?_
 refine hK8 ?_
 refine WC.cond rfl (fun c9 => ?_) (fun c9 => ?_)
 ·
  replace c9 := of_decide_eq_true c9
  refine WC.skip ?_
  refine hK7 ?_
  refine WC.seq fun K10 hK10 => ?_
  refine WC.block ?_
  refine WC.region ?_
  refine WL.val (dx_move rfl rfl) rfl rfl ?_
  refine WL.val (dx_move rfl rfl) rfl rfl ?_
  refine WL.val (dx_move rfl rfl) rfl rfl ?_
  obtain ⟨r11, e12⟩ : ∃ x, ts[i]? = some x := ⟨_, List.getElem?_eq_getElem (by omega)⟩
  refine WL.get (dx_idxF i rfl ty_slice_24 rfl rfl h1 (by omega) (at_mapX e12)) rfl rfl ?_
  rintro u13 _ ⟨rfl, p14⟩
  refine WL.val (dx_loadPN rfl ty_agg_26_5 rfl p14 rfl) rfl rfl ?_
  refine WL.get (dx_cv rfl Try.func28 rfl rfl rfl (weigh_all (n + 1) r11 1000 W6 _ hL (hts r11 (List.mem_of_getElem? e12)) (by omega))) rfl rfl ?_
  rintro _ W16 ⟨⟨wz, rfl, hw1, hw2, hws⟩, b15⟩
  replace h1 := h1.below b15
  replace hts := hts.below b15
  replace p14 := p14.below b15
  replace hB := below_then hB b15
  replace hL := LL.below hL b15
  refine WL.val (dx_add (r := z + wz) rfl rfl rfl (wrap64_id (by omega))) rfl rfl ?_
  refine WL.val (dx_assign rfl rfl) rfl rfl ?_
  refine WL.nil ?_
  refine hK10 ?_
  refine WC.region ?_
  refine WL.val (dx_move rfl rfl) rfl rfl ?_
  refine WL.val (dx_add (r := (i : Int) + 1) rfl rfl rfl (wrap64_id (by omega))) rfl rfl ?_
  refine WL.val (dx_assign rfl rfl) rfl rfl ?_
  refine WL.nil ?_
  exact hK5 (i + 1) (z + wz) ⟨(by omega), (by omega), (by omega), (fun hh k a hk ha => by rcases Nat.lt_or_ge k i with hl | hl; exact hs (by omega) k a hl ha; obtain rfl : k = i := (by omega); rw [e12] at ha; cases ha; exact hws (by omega)), hB, hL, h1, hts⟩ (by omega) (by repeat first | exact trivial | exact And.intro rfl trivial | refine And.intro rfl ?_ | refine And.intro (congrArg (fun z : Int => some (Value.int .i64 z)) (by omega)) ?_ | refine And.intro (congrArg (fun z : Bool => some (Value.bool z)) (by first | exact (decide_eq_true (by omega)).symm | exact (decide_eq_false (by omega)).symm)) ?_)
 ·
  replace c9 := of_decide_eq_false c9
  refine WC.exit ?_
  refine hK3 ?_
  refine WC.seq fun K17 hK17 => ?_
  refine WC.region ?_
  refine WL.val (dx_move rfl rfl) rfl rfl ?_
  refine WL.val (dx_gtr rfl rfl rfl) rfl rfl ?_
  refine WL.val (dx_assign rfl rfl) rfl rfl ?_
  refine WL.nil ?_
  refine hK17 ?_
  refine WC.ret fun a_ ha_ => ?_
  exact hQ (cv_ret1 rfl (.tmp rfl) ⟨_, rfl, fun hb t ht => by obtain ⟨k, hk⟩ := List.getElem?_of_mem ht; exact hs (by have := of_decide_eq_false hb; omega) k t (by have := (List.getElem?_eq_some_iff.1 hk).1; omega) hk⟩ hB ha_)

end Go.Proofs.Ytpinidlfcifeeaa
namespace Go.Proofs.Ytpinidlfcifeeaa
open Go.RowKit
set_option linter.unusedVariables false
set_option linter.unusedSimpArgs false
set_option maxRecDepth 8000

theorem maxJ_iff {f : Js → Nat} {n : Nat} : ∀ {l : List Js}, maxJ f l ≤ n ↔ ∀ j ∈ l, f j ≤ n
 | [] => by simp [maxJ]
 | j :: l => by rw [maxJ, Nat.max_le, maxJ_iff (l := l)]; simp
theorem leaf_kind {up : ByteArray → Bool} {j : Js} (h : leafJ up j = true) : ¬ (j.kind = 5 ∨ j.kind = 6) := by
 unfold leafJ at h
 rintro (e | e) <;> rw [e] at h <;> simp at h
theorem node_kind {up : ByteArray → Bool} {j : Js} (h : nodeJ up j = true) : j.kind = 5 ∨ j.kind = 6 := by
  unfold nodeJ at h
  simp only [Bool.and_eq_true, Bool.or_eq_true, decide_eq_true_eq] at h
  rcases h.2 with h | h
  · exact .inl h.1
  · exact .inr h.1
theorem right_deep (up : ByteArray → Bool) : ∀ (n : Nat) (j : Js), rightJ up n j = true ↔ rightJ up (n + 1) j = true ∧ deepJ (n + 2) j ≤ n
  | 0, j => by
    rw [rightJ, rightJ, deepJ]
    constructor
    · intro h
      rw [if_neg (leaf_kind h), h]; simp
    · rintro ⟨h1, h2⟩
      rw [Bool.or_eq_true] at h1
      rcases h1 with h1 | h1
      · exact h1
      · rw [Bool.and_eq_true] at h1
        rw [if_pos (node_kind h1.1)] at h2; omega
  | n + 1, j => by
    rw [rightJ, rightJ, deepJ, Bool.or_eq_true, Bool.or_eq_true, Bool.and_eq_true, Bool.and_eq_true, List.all_eq_true, List.all_eq_true]
    constructor
    · rintro (h | ⟨h1, h2⟩)
      · exact ⟨.inl h, by rw [if_neg (leaf_kind h)]; omega⟩
      · refine ⟨.inr ⟨h1, fun x hx => ((right_deep up n x).1 (h2 x hx)).1⟩, ?_⟩
        rw [if_pos (node_kind h1)]
        have := maxJ_iff.2 fun x hx => ((right_deep up n x).1 (h2 x hx)).2
        omega
    · rintro ⟨h | ⟨h1, h2⟩, h3⟩
      · exact .inl h
      · rw [if_pos (node_kind h1)] at h3
        have h4 : maxJ (deepJ (n + 2)) j.items ≤ n := by omega
        exact .inr ⟨h1, fun x hx => (right_deep up n x).2 ⟨h2 x hx, maxJ_iff.1 h4 x hx⟩⟩
end Go.Proofs.Ytpinidlfcifeeaa
namespace Go.Proofs.Ytpinidlfcifeeaa
open Go.RowKit
set_option linter.unusedVariables false
set_option linter.unusedSimpArgs false
section
variable {P : Program} {ops : Array Oper} {md : Region.Mode}
/-- As wpAny_factsD, where G speaks of the values too; where what waits for one is not asked to bear it. G holds throughout, said of which operations have run; what is shown of an operation (F) bears what others do to the world (R). -/
theorem wpAny_factsV {Q : Exit → Act → World → Prop} (hb : ordB md ops = true) (a : Act) (G : (Nat → Bool) → (Nat → Value) → World → Prop) (F : Facts) (R : Nat → (Nat → Value) → World → World → Prop)
    (hF : ∀ i f w w' j g, R i f w w' → j ≠ i → i ∉ depsAt md ops j → F j g w → F j g w')
    (hstep : ∀ i o, ops[i]? = some o → ∀ L f w, L i = false → (∀ j, i ∈ depsAt md ops j → L j = false) → (∀ j ∈ depsOf md o, L j = true) → G L f w → (∀ j ∈ depsOf md o, F j (restr f (j :: depsAt md ops j)) w) →
      Does P ops o (putDeps ops f (depsOf md o) a) w fun v w' => R i (restr f (depsOf md o)) w w' ∧ G (upd L i true) (upd f i v) w' ∧ F i (restr (upd f i v) (i :: depsOf md o)) w')
    (hend : ∀ L f w, (∀ j, L j = decide (j < ops.size)) → G L f w → (∀ j, j < ops.size → F j (restr f (j :: depsAt md ops j)) w) → Q .normal (putDeps ops f (List.range ops.size) a) w) :
    ∀ (fuel : Nat) (listed : Array Bool) (f : Nat → Value) (a' : Act) (w : World), listed.size = ops.size → (listed.toList.countP (fun b => !b) ≤ fuel) →
      (∀ j, listed.getD j false = true → ∀ k ∈ depsAt md ops j, listed.getD k false = true) →
      Agrees ops (fun j => listed.getD j false = true) f a a' → G (fun j => listed.getD j false) f w → (∀ j, listed.getD j false = true → F j (restr f (j :: depsAt md ops j)) w) → wpAny P md ops Q fuel listed a' w := by
  have ho := ordB_own hb
  have fin : ∀ (listed : Array Bool) (f : Nat → Value) (a' : Act) (w : World), listed.size = ops.size → Region.ready md ops listed = [] →
      Agrees ops (fun j => listed.getD j false = true) f a a' → G (fun j => listed.getD j false) f w → (∀ j, listed.getD j false = true → F j (restr f (j :: depsAt md ops j)) w) → Q .normal a' w := by
    intro listed f a' w hsz hr hag hg hf
    have hl := all_listed hb hsz hr
    have hout : ∀ j, listed.getD j false = true → j < ops.size := by
      intro j h
      rcases Nat.lt_or_ge j ops.size with h' | h'
      · exact h'
      · simp [Array.getElem?_eq_none (by omega : listed.size ≤ j)] at h
    have e : a' = putDeps ops f (List.range ops.size) a := by
      refine hag.unique ((Agrees.of ho f a (List.range ops.size)).congr (fun j => ?_) (fun _ _ => rfl))
      rw [List.mem_range]
      exact ⟨hl j, hout j⟩
    rw [e]
    refine hend _ f w (fun j => ?_) hg fun j hj => hf j (hl j hj)
    by_cases hj : j < ops.size
    · rw [hl j hj]; simp [hj]
    · have : ¬ listed.getD j false = true := fun h => hj (hout j h)
      rw [Bool.not_eq_true] at this
      rw [this]; simp [hj]
  intro fuel
  induction fuel with
  | zero =>
    intro listed f a' w hsz hc hcl hag hg hf
    have hr : Region.ready md ops listed = [] := by
      rw [List.eq_nil_iff_forall_not_mem]
      intro j hj
      obtain ⟨h0, o, hoj, _⟩ := mem_ready.1 hj
      have hjs : j < ops.size := (Array.getElem?_eq_some_iff.1 hoj).1
      have hc0 : listed.toList.countP (fun b => !b) = 0 := by omega
      rw [List.countP_eq_zero] at hc0
      have h1 := hc0 listed[j] (by simp)
      rw [Array.getD_eq_getD_getElem?, Array.getElem?_eq_getElem (by omega)] at h0
      simp only [Option.getD_some] at h0
      rw [h0] at h1
      exact h1 rfl
    exact ⟨hr, fin listed f a' w hsz hr hag hg hf⟩
  | succ fuel ih =>
    intro listed f a' w hsz hc hcl hag hg hf
    refine ⟨fun hr => fin listed f a' w hsz hr hag hg hf, fun i hi => ?_⟩
    obtain ⟨h0, o, hoi, hdep⟩ := mem_ready.1 hi
    have his : i < ops.size := (Array.getElem?_eq_some_iff.1 hoi).1
    obtain ⟨hsel, hlt, hlook⟩ := ordB_deps hb hoi
    have hdl : ∀ j ∈ depsOf md o, listed.getD j false = true := by
      intro j hj
      obtain ⟨e, he, rfl⟩ := List.mem_map.1 hj
      obtain ⟨he1, he2⟩ := List.mem_filter.1 he
      exact hdep e (by simpa using he1) he2
    have hun : ¬ listed.getD i false = true := by
      intro h
      rw [Array.getD_eq_getD_getElem?, Array.getElem?_eq_getElem (by omega)] at h0 h
      simp only [Option.getD_some] at h0 h
      rw [h0] at h
      cases h
    have hA := Agrees.of ho f a (depsOf md o)
    have hdst : o.dst = dstAt ops i := by simp [dstAt, hoi]
    have hset : ∀ j, (listed.setIfInBounds i true).getD j false = upd (fun j => listed.getD j false) i true j := by
      intro j
      unfold upd
      by_cases e : j = i
      · subst e
        simp [Array.getD_eq_getD_getElem?, hsz, his]
      · rw [getD_set_ne false (fun h => e h.symm), if_neg e]
    refine Does.wpOp hoi hsel (a := putDeps ops f (depsOf md o) a) (by rw [hag.size, hA.size]) (fun t ht => ?_)
      (hstep i o hoi (fun j => listed.getD j false) f w (by simpa using hun) (fun j hj => by
        rw [← Bool.not_eq_true]
        exact fun h => hun (hcl j h i hj)) hdl hg fun j hj => hf j (hdl j hj)) fun v w' hR => ?_
    · by_cases hts : t < a.tmps.size
      · by_cases e : ∃ j, dstAt ops j = some t
        · obtain ⟨j, hd⟩ := e
          have hj' : j < ops.size := by
            rcases Nat.lt_or_ge j ops.size with h | h
            · exact h
            · simp [dstAt, Array.getElem?_eq_none h] at hd
          have hl := hlook j t hj' hd
          by_cases hjd : j ∈ depsOf md o
          · rw [hag.put j t (hdl j hjd) hd hts, hA.put j t hjd hd hts]
          · have hjl : ¬ listed.getD j false = true := by
              intro hjl
              rcases hl.1 ht with h | h | h
              · exact hun (h ▸ hjl)
              · exact hjd h
              · exact hun (hcl j hjl i h)
            rw [hag.same t (fun k hk hkd => hjl (ho k j t hkd hd ▸ hk)), hA.same t (fun k hk hkd => hjd (ho k j t hkd hd ▸ hk))]
        · have hn : ∀ j, dstAt ops j ≠ some t := fun j hj => e ⟨j, hj⟩
          rw [hag.same t (fun j _ => hn j), hA.same t (fun j _ => hn j)]
      · rw [Array.getElem?_eq_none (by rw [hag.size]; exact Nat.le_of_not_lt hts), Array.getElem?_eq_none (by rw [hA.size]; exact Nat.le_of_not_lt hts)]
    · obtain ⟨hR1, hR3, hR2⟩ := hR
      have hset' : ∀ j, (listed.setIfInBounds i true).getD j false = true ↔ (j = i ∨ listed.getD j false = true) := by
        intro j
        rw [hset j]
        unfold upd
        by_cases e : j = i <;> simp [e]
      rw [hdst]
      refine ih (listed.setIfInBounds i true) (upd f i v) _ w' (by simp [hsz]) ?_ ?_ ?_ (by rw [show (fun j => (listed.setIfInBounds i true).getD j false) = upd (fun j => listed.getD j false) i true from funext hset]; exact hR3) ?_
      · have hc2 : (listed.setIfInBounds i true).toList.countP (fun b => !b) + 1 ≤ listed.toList.countP (fun b => !b) := by
          rw [Array.toList_setIfInBounds]
          have hlen : i < listed.toList.length := by simpa [hsz] using his
          have hli : listed.toList[i] = false := by
            rw [Array.getD_eq_getD_getElem?, Array.getElem?_eq_getElem (by omega)] at h0
            simpa using h0
          rw [List.countP_set hlen, hli]
          have : 0 < listed.toList.countP (fun b => !b) := List.countP_pos_iff.2 ⟨false, by rw [← hli]; exact List.getElem_mem _, rfl⟩
          simp only [Bool.not_false, Bool.not_true, if_true, Bool.false_eq_true, if_false]
          omega
        omega
      · intro j hj k hk
        rw [hset'] at hj ⊢
        rcases hj with rfl | hj
        · rw [depsAt_eq hoi] at hk
          exact .inr (hdl k hk)
        · exact .inr (hcl j hj k hk)
      · exact hag.step ho i v hset' (fun j hji _ => by simp [upd, hji]) (by simp [upd])
      · intro j hj
        rw [hset'] at hj
        by_cases e : j = i
        · subst e
          rw [depsAt_eq hoi]
          exact hR2
        · have hjl := hj.resolve_left e
          have hnc : (j :: depsAt md ops j).contains i = false := by
            rw [← Bool.not_eq_true, List.contains_iff_mem, List.mem_cons]
            rintro (h | h)
            · exact e h.symm
            · exact hun (hcl j hjl i h)
          rw [restr_upd hnc]
          exact hF i _ w w' j _ hR1 e (fun h => hun (hcl j hjl i h)) (hf j hjl)
end
/-- Where the operations' values go, and those that are known ahead. -/
abbrev SV := List (Option Tmp × Option Value)
def sdV (g : Nat → Value) : Nat → SV → List (Option Tmp × VS)
 | _, [] => []
 | k, (d, some v) :: l => (d, .is v) :: sdV g (k + 1) l
 | k, (d, none) :: l => (d, .is (g k)) :: sdV g (k + 1) l
def okV (sv : SV) (k : Nat) (u : Value) : Prop := match sv[k]? with
 | some (_, some v) => u = v
 | _ => True
theorem sdV_fst (g : Nat → Value) : ∀ (k : Nat) (sv : SV), (sdV g k sv).map (·.1) = sv.map (·.1)
 | _, [] => rfl
 | k, (d, some v) :: l => by rw [sdV, List.map_cons, List.map_cons, sdV_fst g (k + 1) l]
 | k, (d, none) :: l => by rw [sdV, List.map_cons, List.map_cons, sdV_fst g (k + 1) l]
theorem sdV_at (g : Nat → Value) (W : World) : ∀ (sv : SV) (k j : Nat), okV sv j (g (k + j)) → okAt (sdV g k sv) j (g (k + j)) W
 | [], k, j, _ => by unfold okAt sdV; simp
 | (d, some v) :: l, k, 0, h => h
 | (d, none) :: l, k, 0, h => rfl
 | (d, some v) :: l, k, j + 1, h => by
  have := sdV_at g W l (k + 1) j (by rw [show k + 1 + j = k + (j + 1) by omega]; simpa [okV] using h)
  rw [show k + 1 + j = k + (j + 1) by omega] at this
  simpa [okAt, sdV] using this
 | (d, none) :: l, k, j + 1, h => by
  have := sdV_at g W l (k + 1) j (by rw [show k + 1 + j = k + (j + 1) by omega]; simpa [okV] using h)
  rw [show k + 1 + j = k + (j + 1) by omega] at this
  simpa [okAt, sdV] using this
def inV (N : Nat) (sv : SV) : Bool := sv.all fun p => match p.1 with
 | some d => decide (d < N)
 | none => true
theorem inV_in (g : Nat → Value) {N : Nat} : ∀ (k : Nat) (sv : SV), inV N sv = true → inN N (sdV g k sv) = true
 | _, [], _ => rfl
 | k, (d, some v) :: l, h => by
  unfold inV at h
  rw [List.all_cons, Bool.and_eq_true] at h
  unfold inN sdV
  rw [List.all_cons, Bool.and_eq_true]
  exact ⟨h.1, inV_in g (k + 1) l h.2⟩
 | k, (d, none) :: l, h => by
  unfold inV at h
  rw [List.all_cons, Bool.and_eq_true] at h
  unfold inN sdV
  rw [List.all_cons, Bool.and_eq_true]
  exact ⟨h.1, inV_in g (k + 1) l h.2⟩
/-- The steps: from what has run (L), its values (g), and what holds of them (G). -/
def DStepsV (P : Program) (ops : Array Oper) (N : Nat) (G : (Nat → Bool) → (Nat → Value) → World → Prop) (sv : SV) (dl : List (List Nat)) (f : Fl) : Nat → List Oper → Prop
 | _, [] => True
 | k, o :: l => (∀ L g W, L k = false → (∀ j, k ∈ (dl[j]?).getD [] → L j = false) → (∀ j ∈ (dl[k]?).getD [], L j = true) → G L g W → DStep P ops o N W (sdV g 0 sv) (fun v W' => G (upd L k true) (upd g k v) W' ∧ okV sv k v) ((dl[k]?).getD []) f) ∧ DStepsV P ops N G sv dl f (k + 1) l
section
variable {P : Program} {N : Nat} {sv : SV} {dl : List (List Nat)}
theorem WC.drawV {id : Nat} {f : Fl} {w : World} {Q : Exit → Act → World → Prop} (G : (Nat → Bool) → (Nat → Value) → World → Prop) (m : Nat) {ops : List Oper} (sv : SV) (dl : List (List Nat)) (hm : P.follows .mixedOrders = true) (hb : ordB .any ops.toArray = true) (hbp : ordB .any (ops.take m).toArray = true) (ht : tailB .any ops.toArray (ops.take m).length = true) (hdl : (ops.take m).map (depsOf .any) = dl)
    (hds : (ops.take m).map (·.dst) = sv.map (·.1)) (hN : inV N sv = true) (hG0 : ∀ g, G (fun _ => false) g w.drew) (hst : DStepsV P (ops.take m).toArray N G sv dl f 0 (ops.take m))
    (hend : ∀ g W, G (fun j => decide (j < (ops.take m).length)) g W → DEnd (fun f W => WL P ops.toArray Q N (ops.drop m) f W) W (sdV g 0 sv) f) : WC P N (.region id ops.toArray true) Q f w := fun a ha => by
  obtain ⟨pre, hpre⟩ : ∃ pre, pre = ops.take m := ⟨_, rfl⟩
  obtain ⟨suf, hsuf⟩ : ∃ suf, suf = ops.drop m := ⟨_, rfl⟩
  have hops : pre ++ suf = ops := by rw [hpre, hsuf]; exact List.take_append_drop m ops
  rw [← hpre] at hbp ht hdl hds hst hend
  rw [← hsuf] at hend
  clear hpre hsuf
  subst hops
  have hlen : dl.length = sv.length := by rw [← hdl, List.length_map, ← List.length_map (f := (·.dst)), hds, List.length_map]
  have hpl : pre.length = dl.length := by rw [← hdl, List.length_map]
  refine wp_region_any hm ?_
  have hrep : Array.replicate (pre ++ suf).toArray.size false = Array.replicate pre.toArray.size false ++ Array.replicate suf.length false := by
    simp [Array.replicate_append_replicate]
  rw [hrep]
  have hsz : (pre ++ suf).toArray.size = pre.toArray.size + suf.length := by simp
  rw [hsz]
  refine pre_tail (pre := pre.toArray) (suf := suf) hb hbp (by simp) (by simpa using ht) pre.toArray.size _ (by simp) (fun j hj => by simp [Array.getD_eq_getD_getElem?, Array.getElem?_replicate] at hj; split at hj <;> simp_all) a w.drew ?_
  have hda : ∀ j, depsAt .any pre.toArray j = (dl[j]?).getD [] := by
    intro j
    subst hdl
    simp only [depsAt, List.getElem?_map, List.getElem?_toArray]
  have hF0 : ∀ j, (Array.replicate pre.toArray.size false).getD j false = true → False := fun j hj => by simp [Array.getD_eq_getD_getElem?, Array.getElem?_replicate] at hj; split at hj <;> simp_all
  have hds' : ∀ g, pre.map (·.dst) = (sdV g 0 sv).map (·.1) := fun g => by rw [hds, sdV_fst]
  refine wpAny_factsV hbp a G (fun j g W => okV sv j (g j)) (fun i _ W W' => True) ?_ ?_ ?_ pre.toArray.size _ (fun _ => undef) a w.drew (by simp) (by
      have := List.countP_le_length (p := fun b => !b) (l := (Array.replicate pre.toArray.size false).toList)
      simpa using this) (fun j hj => (hF0 j hj).elim) (Agrees.start fun j hj => hF0 j hj) (by
      have e : (fun j => (Array.replicate pre.toArray.size false).getD j false) = fun _ => false := by
        funext j
        cases hj : (Array.replicate pre.toArray.size false).getD j false with
        | false => rfl
        | true => exact (hF0 j hj).elim
      rw [e]
      exact hG0 _) (fun j hj => (hF0 j hj).elim)
  · intro i g W W' j g' hB hne hnd h
    exact h
  · intro i o hoi L g W hLi hdn hdd hG hd
    have key : ∀ (l : List Oper) (k : Nat), DStepsV P pre.toArray N G sv dl f k l → ∀ j o, l[j]? = some o → ∀ L g W, L (k + j) = false → (∀ q, (k + j) ∈ (dl[q]?).getD [] → L q = false) → (∀ q ∈ (dl[k + j]?).getD [], L q = true) → G L g W → DStep P pre.toArray o N W (sdV g 0 sv) (fun v W' => G (upd L (k + j) true) (upd g (k + j) v) W' ∧ okV sv (k + j) v) ((dl[k + j]?).getD []) f := by
      intro l
      induction l with
      | nil => intro k _ j o h; simp at h
      | cons x l ih =>
        intro k hs j o h
        cases j with
        | zero =>
          simp only [List.getElem?_cons_zero, Option.some.injEq] at h
          subst h
          exact hs.1
        | succ j =>
          have := ih (k + 1) hs.2 j o (by simpa using h)
          rw [show k + (j + 1) = k + 1 + j by omega]
          exact this
    have hdo : depsOf .any o = (dl[i]?).getD [] := by rw [← hda i, depsAt_eq hoi]
    have hk := key pre 0 hst i o (by simpa using hoi) L g W (by rw [Nat.zero_add]; exact hLi) (by rw [Nat.zero_add]; intro q hq; exact hdn q (by rw [hda q]; exact hq)) (by rw [Nat.zero_add, ← hdo]; exact hdd) hG
    rw [Nat.zero_add] at hk
    rw [hdo] at hd ⊢
    rw [putL_eq (ds := (sdV g 0 sv).map (·.1)) (by simpa using hds' g)]
    have hH : HypL (fun j g' w => okAt (sdV g 0 sv) j (g' j) w) dl g W ((dl[i]?).getD []) := HypL.of _ fun j hj => by
      have h := hd j hj
      rw [hda j] at h
      rw [restr_self] at h ⊢
      have := sdV_at g W sv 0 j (by rw [Nat.zero_add]; exact h)
      rwa [Nat.zero_add] at this
    refine (DStep.to (inV_in g 0 sv hN) _ f a hk ha hH).mono fun v W' h => ⟨trivial, h.1, ?_⟩
    simp only [restr_self]
    rw [show upd g i v i = v by simp [upd]]
    exact h.2
  · intro L g W hL hG hd
    rw [putL_eq (ds := (sdV g 0 sv).map (·.1)) (by simpa using hds' g)]
    have hsl : (sdV g 0 sv).length = sv.length := by rw [← List.length_map (f := (·.1)), sdV_fst, List.length_map]
    have hH : HypL (fun j g' w => okAt (sdV g 0 sv) j (g' j) w) dl g W (List.range' 0 (sdV g 0 sv).length) := HypL.of _ fun j hj => by
      have hj' : j < pre.toArray.size := by
        simp [List.mem_range'] at hj
        simp
        omega
      have h := hd j hj'
      rw [hda j] at h
      rw [restr_self] at h ⊢
      have := sdV_at g W sv 0 j (by rw [Nat.zero_add]; exact h)
      rwa [Nat.zero_add] at this
    have hLe : L = fun j => decide (j < pre.length) := by
      funext j
      rw [hL j]
      simp
    rw [hLe] at hG
    have hfin := DEnd.to (Q := fun a W => wpList P (pre ++ suf).toArray Q suf a W) (inV_in g 0 sv hN) (fun f h a ha => h a ha) (sdV g 0 sv) 0 f a (by simp) (hend g W hG) ha hH
    show wpOps P (pre ++ suf).toArray Q (List.range' pre.toArray.size suf.length) _ _
    rw [wpOps_eq_wpList suf pre.toArray.size (fun j => by simp [List.getElem?_append_right])]
    rw [List.range_eq_range', show pre.toArray.size = (sdV g 0 sv).length by rw [hsl]; simp; omega]
    exact hfin
end
end Go.Proofs.Ytpinidlfcifeeaa
