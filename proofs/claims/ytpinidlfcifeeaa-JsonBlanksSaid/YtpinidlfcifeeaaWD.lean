/- A name, a colon and a value; an object. An object; values of every text. Blanks around the signs outside of texts. Runes and bytes, there and back: pl -/
import Derived.Shelf.Small.Bits
import Derived.Shelf.Strconv.Itoa0
import Derived.Shelf.Sort.Plain
import Derived.Shelf.Slices.In.SortNone
import Derived.Test.YtpinidlfcifeeaaProg
import Derived.Sort.Grow
import Derived.WalkKit
import Derived.Shelf.SlSortCmp.InsertionK
import Derived.Shelf.SlLaysF0
import Derived.Shelf.Lay
import Derived.Ground.SlsfProg
import Derived.Shelf.SlSortCmp.WholeK
import Derived.Shelf.SlSortCmp.NoneTotal
import Derived.Test.YtpinidlfcifeeaaWC
namespace Go.Proofs.Ytpinidlfcifeeaa
open Go.RowKit
set_option linter.unusedVariables false
set_option linter.unusedSimpArgs false
set_option maxRecDepth 8000
set_option maxHeartbeats 2000000

abbrev StO := List ByteArray × List Js
def pairN (s : ByteArray) (vs : Nat → Except Int (Js × Nat)) (nm : ByteArray) (k1 : Nat) (st : StO) : Except Int (StO × Nat) :=
 if st.1[lbT nm st.1]? = some nm then .error 6 else if takeS s (blankS s k1) 58 = true then (match vs (blankS s (blankS s k1 + 1)) with
  | .error e => .error e
  | .ok (t, k5) => .ok ((insA (lbT nm st.1) nm st.1, insA (lbT nm st.1) t st.2), k5)) else .error 2
def pairS (s : ByteArray) (vs : Nat → Except Int (Js × Nat)) (k : Nat) (st : StO) : Except Int (StO × Nat) :=
 if takeS s k 34 = true then (match quoS s k with
  | none => .error 2
  | some (l, k1) => pairN s vs (strOfNums l) k1 st) else .error 2
section
variable {s nm : ByteArray} {vs : Nat → Except Int (Js × Nat)} {k k1 k2 k3 k4 k5 a : Nat} {st : StO} {l : List Int} {e c d : Int} {t : Js}
theorem pairS_0 (h : takeS s k 34 = false) : pairS s vs k st = .error 2 := by unfold pairS; rw [h]; rfl
theorem pairS_q (h : takeS s k 34 = true) (hq : quoS s k = none) : pairS s vs k st = .error 2 := by unfold pairS; rw [h, if_pos rfl, hq]
theorem pairS_n (h : takeS s k 34 = true) (hq : quoS s k = some (l, k1)) (hn : nm = strOfNums l) : pairS s vs k st = pairN s vs nm k1 st := by subst hn; unfold pairS; rw [h, if_pos rfl, hq]
theorem pairN_t (ha : a = lbT nm st.1) (h : st.1[a]? = some nm) : pairN s vs nm k1 st = .error 6 := by subst ha; unfold pairN; rw [if_pos h]
theorem pairN_c (ha : a = lbT nm st.1) (h : ¬ st.1[a]? = some nm) (e2 : k2 = blankS s k1) (q : takeS s k2 58 = false) : pairN s vs nm k1 st = .error 2 := by subst ha e2; unfold pairN; rw [if_neg h, q]; rfl
theorem pairN_e (ha : a = lbT nm st.1) (h : ¬ st.1[a]? = some nm) (e2 : k2 = blankS s k1) (q : takeS s k2 58 = true) (e3 : k3 = k2 + 1) (e4 : k4 = blankS s k3) (hv : vs k4 = .error e) : pairN s vs nm k1 st = .error e := by subst ha e4 e3 e2; unfold pairN; rw [if_neg h, q, if_pos rfl, hv]
theorem pairN_k (ha : a = lbT nm st.1) (h : ¬ st.1[a]? = some nm) (e2 : k2 = blankS s k1) (q : takeS s k2 58 = true) (e3 : k3 = k2 + 1) (e4 : k4 = blankS s k3) (hv : vs k4 = .ok (t, k5)) : pairN s vs nm k1 st = .ok ((insA a nm st.1, insA a t st.2), k5) := by subst ha e4 e3 e2; unfold pairN; rw [if_neg h, q, if_pos rfl, hv]
theorem take_nc (h2 : k < s.size → c = atS s k) (h : ¬ c = d) : takeS s k d = false := by
 unfold takeS
 cases hlt : decide (k < s.size) with
 | false => rfl
 | true => rw [Bool.true_and]; exact decide_eq_false (fun e => h ((h2 (of_decide_eq_true hlt)).trans e))
end
def MembI (n b : Nat) (L : List Nat) (nv : Value) (ns : List ByteArray) (iv : Value) (ts : List Tr) (W : World) : Prop := (∀ x ∈ L, x < b) ∧ ((nv = .slice none 0 0 ∧ iv = .slice none 0 0 ∧ ns = [] ∧ ts = []) ∨ ∃ Bn Bi, Bn ≠ Bi ∧ b ≤ Bn ∧ b ≤ Bi ∧ OwS 1 W nv (ns.map eS) Bn ∧ OwS 5 W iv (ts.map encT) Bi ∧ RdTs n (Bn :: Bi :: L) W ts)
theorem MembI.chgL {n b : Nat} {L : List Nat} {nv iv : Value} {ns : List ByteArray} {ts : List Tr} {W W' : World} (h : MembI n b L nv ns iv ts W) {P : Nat} (g : Chg P W W') (hP : P ∈ L) : MembI n b L nv ns iv ts W' := by
  obtain ⟨h0, h | ⟨Bn, Bi, h1, h2, h3, h4, h5, h6⟩⟩ := h
  · exact ⟨h0, .inl h⟩
  · have := h0 P hP
    exact ⟨h0, .inr ⟨Bn, Bi, h1, h2, h3, h4.chgL g (by omega), h5.chgL g (by omega), h6.chgL g (.tail _ (.tail _ hP))⟩⟩
theorem MembI.below {n b : Nat} {L : List Nat} {nv iv : Value} {ns : List ByteArray} {ts : List Tr} {W W' : World} (h : MembI n b L nv ns iv ts W) (g : Below W.heap.size W W') : MembI n b L nv ns iv ts W' := by
 obtain ⟨h0, h | ⟨Bn, Bi, h1, h2, h3, h4, h5, h6⟩⟩ := h
 · exact ⟨h0, .inl h⟩
 · exact ⟨h0, .inr ⟨Bn, Bi, h1, h2, h3, h4.below g, h5.below g, h6.below g⟩⟩
theorem MembI.only {n b : Nat} {L : List Nat} {nv iv : Value} {ns : List ByteArray} {ts : List Tr} {W W' : World} (h : MembI n b L nv ns iv ts W) {C : Nat} (g : Only C W W') (hC : C ∈ L) : MembI n b L nv ns iv ts W' := by
  obtain ⟨h0, h | ⟨Bn, Bi, h1, h2, h3, h4, h5, h6⟩⟩ := h
  · exact ⟨h0, .inl h⟩
  · have := h0 C hC
    exact ⟨h0, .inr ⟨Bn, Bi, h1, h2, h3, h4.other g (by omega), h5.other g (by omega), h6.only g (.tail _ (.tail _ hC))⟩⟩
theorem MembI.one {n b : Nat} {L : List Nat} {nv iv : Value} {ns : List ByteArray} {ts : List Tr} {W : World} (h : MembI n b L nv ns iv ts W) : nv.oneCell' = true ∧ iv.oneCell' = true := by
 obtain ⟨h0, ⟨rfl, rfl, _⟩ | ⟨Bn, Bi, h1, h2, h3, h4, h5, h6⟩⟩ := h
 · exact ⟨rfl, rfl⟩
 · exact ⟨h4.one, h5.one⟩
theorem MembI.tree {n b : Nat} {L L' : List Nat} {nv iv : Value} {ns : List ByteArray} {ts : List Tr} {W : World} (h : MembI n b L nv ns iv ts W) (hl : ∀ x, x ∈ L' → x ∈ L) (k m : Int) (t : ByteArray) : RdT (n + 1) L' W (.mk k m t nv ns iv ts) := by
 obtain ⟨h0, ⟨rfl, rfl, rfl, rfl⟩ | ⟨Bn, Bi, h1, h2, h3, h4, h5, h6⟩⟩ := h
 · exact ⟨RdF.nil (by decide), RdF.nil (by decide), fun c hc => by cases hc⟩
 · exact ⟨h4.rd (fun hx => by have := h0 Bn (hl Bn hx); omega), h5.rd (fun hx => by have := h0 Bi (hl Bi hx); omega), fun c hc => (h6 c hc).less fun x hx => .tail _ (.tail _ (hl x hx))⟩
abbrev vO (nv iv : Value) : List Value := [.int .i64 6, .int .i64 0, .string ⟨#[]⟩, nv, iv]
def PairI (n b V : Nat) (L : List Nat) (st : StO) (W : World) : Prop := ∃ nv iv ts, ts.map Tr.er = st.2 ∧ Rises st.1 ∧ st.1.length = ts.length ∧ Blk W V (vO nv iv) ∧ MembI n b L nv st.1 iv ts W
def ObjI (n b Bp V P : Nat) (L : List Nat) (st : StO) (W : World) : Prop := Blk W Bp [.pointer (some ⟨P, 0, none⟩)] ∧ PairI n b V L st W
theorem fiveO {V : Nat} {nv iv : Value} {W : World} (h : Blk W V (vO nv iv)) (h1 : nv.oneCell' = true) (h2 : iv.oneCell' = true) : FiveE V W := ⟨_, rfl, oc_cons rfl (oc_cons rfl (oc_cons rfl (oc_cons h1 (oc_cons h2 oc_nil)))), h⟩
theorem objI_five {n b Bp V P : Nat} {L : List Nat} : ∀ (st : StO) (W : World), ObjI n b Bp V P L st W → FiveE V W := fun _ _ ⟨_, _, _, _, _, _, _, h2, h3⟩ => fiveO h2 h3.one.1 h3.one.2
theorem objI_chg {n b Bp V P : Nat} {L : List Nat} (h1 : Bp ≠ P) (h2 : V ≠ P) (hP : P ∈ L) : ∀ (st : StO) (W W' : World), ObjI n b Bp V P L st W → Chg P W W' → ObjI n b Bp V P L st W' := fun _ _ _ ⟨a1, nv, iv, ts, he, hr, hl, a2, a3⟩ g => ⟨a1.chg g h1, nv, iv, ts, he, hr, hl, a2.chg g h2, a3.chgL g hP⟩
def objS (s : ByteArray) (vs : Nat → Except Int (Js × Nat)) (k : Nat) : Except Int (Js × Nat) := match memS s (pairS s vs) 125 k ([], []) with
 | .error e => .error e
 | .ok (st, k') => .ok (.mk 6 0 ⟨#[]⟩ st.1 st.2, k')
def H3 (A : Bool) (W0 : World) (D : Nat) (iv : Value) (rows : List (List Value)) (l8 : Bool) (W : World) : Prop := Chg D W0 W ∧ (A = false → l8 = false → OwS 5 W iv rows D)
def rel3 (A : Bool) (D : Nat) : RelL := fun k W W' => if k = 8 then (if A = true then Below W.heap.size W W' else Chg D W W') else Below W.heap.size W W'
def p7 (A : Bool) (W0 : World) (D : Nat) (tr : List Value) (u : Value) (W : World) : Prop := ∃ C, (A = false → C ≠ D) ∧ W0.heap.size ≤ C ∧ OwS 5 W u [tr] C
def p8 (A : Bool) (W0 : World) (D : Nat) (R : List (List Value)) (u : Value) (W : World) : Prop := ∃ B, ((A = false ∧ B = D) ∨ W0.heap.size ≤ B) ∧ OwS 5 W u R B
abbrev sd3 (A : Bool) (W0 : World) (V D a : Nat) (iv : Value) (tr : List Value) (R : List (List Value)) : List (Option Tmp × VS) :=
 [(some 65, .is (.pointer (some ⟨V, 0, none⟩))), (some 66, .is (.pointer (some ⟨V, 0, none⟩))), (some 67, .is (.pointer (some ⟨V, 0, none⟩))), (some 68, .is (.pointer (some ⟨V, 4, none⟩))), (some 69, .is iv), (some 70, .is (.int .i64 (a : Int))), (some 71, .is (.agg tr.toArray)), (some 72, .by (p7 A W0 D tr)), (some 73, .by (p8 A W0 D R))]
theorem p7_rel {A : Bool} {W0 W W' : World} {D i : Nat} {tr : List Value} {u : Value} (hr : rel3 A D i W W') (h : p7 A W0 D tr u W) : p7 A W0 D tr u W' := by
 obtain ⟨C, h1, h2, h3⟩ := h
 refine ⟨C, h1, h2, ?_⟩
 unfold rel3 at hr
 cases A with
 | true => simp at hr; exact h3.below hr
 | false =>
  split at hr
  · exact h3.chgL hr (h1 rfl)
  · exact h3.below hr
theorem p8_rel {A : Bool} {W0 W W' : World} {D i : Nat} {R : List (List Value)} {u : Value} (hi : i ≠ 8) (hr : rel3 A D i W W') (h : p8 A W0 D R u W) : p8 A W0 D R u W' := by
 obtain ⟨C, h1, h3⟩ := h
 unfold rel3 at hr
 rw [if_neg hi] at hr
 exact ⟨C, h1, h3.below hr⟩
theorem mono3 {A : Bool} {W0 : World} {V D a m : Nat} {iv : Value} {tr : List Value} {R : List (List Value)} {dl : List (List Nat)} : MonoL m (rel3 A D) (sd3 A W0 V D a iv tr R) dl := by
 intro i hi j hne hnd u W W' hr h
 match j, hne, h with
 | 0, _, h => exact h
 | 1, _, h => exact h
 | 2, _, h => exact h
 | 3, _, h => exact h
 | 4, _, h => exact h
 | 5, _, h => exact h
 | 6, _, h => exact h
 | 7, _, h => exact p7_rel hr h
 | 8, hne, h => exact p8_rel (fun e => hne e.symm) hr h
 | _ + 9, _, _ => exact trivial
theorem begin3 {A : Bool} {W0 : World} {D : Nat} {iv : Value} {rows : List (List Value)} (hA : A = false → OwS 5 W0 iv rows D) : H3 A W0 D iv rows false W0.drew := by
 have hb : Below W0.heap.size W0 W0.drew := below_draws (Below.refl _ _) 1
 exact ⟨(Chg.refl D W0).thenB hb, fun a _ => (hA a).below hb⟩
theorem rel_o3 {A : Bool} {D k : Nat} {W W' : World} (h8 : k ≠ 8) (h : Below W.heap.size W W') : rel3 A D k W W' := by unfold rel3; rw [if_neg h8]; exact h
theorem lit3 {A : Bool} {W0 W W' : World} {D : Nat} {iv : Value} {rows : List (List Value)} {l8 : Bool} (h : H3 A W0 D iv rows l8 W) (hb : Below W.heap.size W W') : H3 A W0 D iv rows l8 W' := ⟨h.1.thenB hb, fun a b => (h.2 a b).below hb⟩
theorem Chg.toBelow {D : Nat} {W W' : World} (h : Chg D W W') (hD : W.heap.size ≤ D) : Below W.heap.size W W' := ⟨h.os, h.tape, h.output, h.size, fun k hk => h.block k hk (by omega)⟩
theorem insN_map {α β : Type} (f : α → β) (x : α) (k : Nat) : (insA k x []).map f = [f x] := by
 unfold insA
 simp
abbrev PairAt (n : Nat) (vs : Nat → Except Int (Js × Nat)) (s : ByteArray) (dp : Nat) : Prop := ∀ (b V P : Nat) (L : List Nat) (ka : Nat) (st : StO) (W : World), LL L W → P ∈ L → V ∈ L → V ≠ P → (∀ x ∈ L, x < b) → b ≤ W.heap.size → ka ≤ s.size → Blk W P (psC s ka dp) → PairI n b V L st W → st.1.length ≤ ka →
 CX Try.prog 91 [.pointer (some ⟨P, 0, none⟩), .pointer (some ⟨V, 0, none⟩)] W (ChgV b P V) (fun v W' => (∃ k' st', v = .int .i64 0 ∧ pairS s vs ka st = .ok (st', k') ∧ ka < k' ∧ k' ≤ s.size ∧ st'.1.length ≤ k' ∧ PairI n b V L st' W' ∧ Blk W' P (psC s k' dp)) ∨ (∃ k' e, v = .int .i64 e ∧ e ≠ 0 ∧ pairS s vs ka st = .error e ∧ k' ≤ s.size ∧ FiveE V W' ∧ Blk W' P (psC s k' dp)))
abbrev ObjAt (n : Nat) (vs : Nat → Except Int (Js × Nat)) (s : ByteArray) (dp : Nat) : Prop := ∀ (b Bp V P : Nat) (L : List Nat) (ka : Nat) (st : StO) (W : World), LL L W → P ∈ L → V ∈ L → Bp ∈ L → Bp ≠ P → V ≠ P → Bp ≠ V → (∀ x ∈ L, x < b) → b ≤ W.heap.size → ka ≤ s.size → Blk W P (psC s ka dp) → ObjI n b Bp V P L st W → st.1.length ≤ ka →
 CX Try.prog 90 [.pointer (some ⟨Bp, 0, none⟩), .pointer (some ⟨V, 0, none⟩)] W (ChgV b P V) (fun v W' => (∃ k' st', v = .int .i64 0 ∧ pairS s vs ka st = .ok (st', k') ∧ ka < k' ∧ k' ≤ s.size ∧ st'.1.length ≤ k' ∧ ObjI n b Bp V P L st' W' ∧ Blk W' P (psC s k' dp)) ∨ (∃ k' e, v = .int .i64 e ∧ e ≠ 0 ∧ pairS s vs ka st = .error e ∧ k' ≤ s.size ∧ FiveE V W' ∧ Blk W' P (psC s k' dp)))
theorem bsearchA_v (ts : List ByteArray) (x : ByteArray) (tv : Value) (w : World) (L : List Nat) (hL : LL L w) (h3 : RdF 1 L w tv (ts.map eS)) (hr : Rises ts) (hsm : ts.length ≤ 1000000000000) : CV Try.prog 49 [tv, .string x] w fun v W => ∃ k : Nat, k = lbT x ts ∧ k ≤ ts.length ∧ v = .tuple #[.int .i64 (k : Int), .bool (decide (ts[k]? = some x))] :=
 (bsearch_v ts x tv w L hL h3 hr hsm).mono fun v w' _ h => ⟨_, rfl, lbT_le x ts, h⟩
set_option maxHeartbeats 1000000 in
theorem pair_v (n : Nat) (vs : Nat → Except Int (Js × Nat)) (s : ByteArray) (dp : Nat) (hs : s.size ≤ 1000000) (hv : ValAt (n + 1) vs s dp) : PairAt (n + 1) vs s dp := by
 intro b V P L ka st w hL hPL hVL hVP hLb hbw hk hp hI hlka
 obtain ⟨ns, js⟩ := st
 obtain ⟨nv, iv, ts, he, hris, hlen, hV, hI0, hI⟩ := hI
 simp only at he hris hlen hlka hI
 subst he
 have hsm : ts.length ≤ 1000000 := by omega
 rcases hI with ⟨rfl, rfl, rfl, rfl⟩ | ⟨Bn, Bi, hni, hbn, hbi, hOn, hOi, hts⟩
 ·
  refine cx_enter (N := 76) (f := [(0, .pointer (some ⟨P, 0, none⟩)), (1, .pointer (some ⟨V, 0, none⟩))]) Try.func91 rfl rfl rfl rfl fun Q hQ hE_ => ?_
  have hB := ChgV.refl b P V w
  refine Sq fun K1 hK1 => (Rg (Pu rfl (Ni (hK1 (Sq fun K2 hK2 => (Sq fun K3 hK3 => (Rg ?_)))))))
  refine Pu rfl (Va (dx_nilCheck rfl rfl) rfl rfl (Va (dx_fld (o1 := 0) rfl ty_fld_55_0_0 rfl rfl) rfl rfl ?_))
  refine Ge (dx_cv rfl Try.func59 rfl rfl rfl (peek_c s P ka dp w _ hL hPL hs (by omega) hp)) rfl rfl ?_
  rintro _ W25 ⟨⟨c19, rfl, hc20, hc21, hc22, hc23⟩, b24⟩
  replace hp := hp.below b24
  replace hV := hV.below b24
  replace hB := hB.both (.of_below (b24.mono (Nat.le_trans hbw hB.size)))
  replace hL := LL.below hL b24
  refine Va (dx_neq rfl rfl rfl) rfl rfl (Ni (hK3 ?_))
  refine WC.cond rfl (fun c26 => ?_) (fun c26 => ?_)
  ·
   replace c26 := bnot_t c26
   replace c26 := dF c26
   refine Sq fun K27 hK27 => (Rg (Pu rfl (Ni (hK27 ?_))))
   exact WC.ret fun a_ ha_ => hQ (cx_ret1 rfl (.tmp rfl) (.inr ⟨ka, 2, rfl, by decide, pairS_0 (take_nc hc22 (by assumption)), by omega, (fiveO hV rfl rfl), hp⟩) hB ha_)
  ·
   replace c26 := bnot_f c26
   replace c26 := dT c26
   refine WC.skip (hK2 (Sq fun K28 hK28 => (Rg (Pu rfl ?_))))
   refine Ge (dx_cw rfl Try.func62 rfl rfl rfl (quoted_v s P ka dp W25 _ hL hPL hs (by omega) hp (take_of (by rcases Nat.lt_or_ge ka s.size with h_ | h_; exact h_; (have := hc23 h_; omega)) (by have h_ : ka < s.size := (by rcases Nat.lt_or_ge ka s.size with h_ | h_; exact h_; (have := hc23 h_; omega)); have := hc22 h_; omega)))) rfl rfl ?_
   rintro _ W56 ⟨(⟨k42, l44, rfl, hw45, hw46, hw47, hw48, hw49, hp57⟩ | ⟨k43, rfl, hw50, hw51, hp57⟩), g55⟩
   ·
    replace hV := hV.chg g55 hVP
    replace hB := hB.chg g55 (Nat.le_trans hbw hB.size)
    replace hL := hL.chg g55
    obtain ⟨nm54, hnm⟩ : ∃ x, x = strOfNums l44 := ⟨_, rfl⟩
    rw [← hnm]
    refine Pu rfl (Pu rfl (Pu rfl (Pu rfl (Pu rfl (Ni (hK28 (Sq fun K58 hK58 => ?_)))))))
    refine Sq fun K59 hK59 => (Rg (Pu rfl (Va (dx_neq rfl rfl rfl) rfl rfl (Ni (hK59 (WC.condF rfl (WC.skip ?_)))))))
    refine hK58 (Sq fun K60 hK60 => (Rg (Pu rfl (Va (dx_nilCheck rfl rfl) rfl rfl (Va (dx_fld (o1 := 3) rfl ty_fld_26_3_3 rfl rfl) rfl rfl (Va (dx_load rfl ty_one_23 rfl (hV.cell (k := 3) rfl)) rfl rfl (Pu rfl ?_)))))))
    refine Ge (dx_cv rfl Try.func49 rfl rfl rfl (bsearchA_v ([] : List ByteArray) nm54 _ W56 [] (LL.nil _) (RdF.nil (L := []) (by decide)) hris (by first | omega | simp))) rfl rfl ?_
    rintro _ W62 ⟨⟨at_, hat, hatl, rfl⟩, b61⟩
    replace hp57 := hp57.below b61
    replace hV := hV.below b61
    replace hB := hB.both (.of_below (b61.mono (Nat.le_trans hbw hB.size)))
    replace hL := LL.below hL b61
    have hat0 : at_ = 0 := by simpa using hatl
    refine Pu rfl (Pu rfl (Pu rfl (Pu rfl (Pu rfl (Ni (hK60 (Sq fun K63 hK63 => ?_)))))))
    refine Sq fun K64 hK64 => (Rg (Pu rfl (Ni (hK64 ?_))))
    refine WC.cond rfl (fun c65 => ?_) (fun c65 => ?_)
    ·
     replace c65 := dT c65
     refine Sq fun K66 hK66 => (Rg (Pu rfl (Ni (hK66 ?_))))
     exact WC.ret fun a_ ha_ => hQ (cx_ret1 rfl (.tmp rfl) (.inr ⟨k42, 6, rfl, by decide, (pairS_n (take_of (by rcases Nat.lt_or_ge ka s.size with h_ | h_; exact h_; (have := hc23 h_; omega)) (by have h_ : ka < s.size := (by rcases Nat.lt_or_ge ka s.size with h_ | h_; exact h_; (have := hc23 h_; omega)); have := hc22 h_; omega)) hw45 hnm).trans (pairN_t hat (by assumption)), by omega, (fiveO hV rfl rfl), hp57⟩) hB ha_)
    ·
     replace c65 := dF c65
     refine WC.skip (hK63 (Sq fun K67 hK67 => (Rg (Pu rfl (Va (dx_nilCheck rfl rfl) rfl rfl (Va (dx_fld (o1 := 0) rfl ty_fld_55_0_0 rfl rfl) rfl rfl ?_))))))
     refine Ge (dx_cw rfl Try.func33 rfl rfl rfl (blanks_v s P k42 dp W62 _ hL hPL hs (by omega) hp57)) rfl rfl ?_
     rintro _ W78 ⟨hp79, g77⟩
     replace hV := hV.chg g77 hVP
     replace hB := hB.chg g77 (Nat.le_trans hbw hB.size)
     replace hL := hL.chg g77
     obtain ⟨k74, hk75⟩ : ∃ k, k = blankS s k42 := ⟨_, rfl⟩
     rw [← hk75] at hp79
     have hk76 := blankS_le (s := s) (k := k42) (by omega)
     rw [← hk75] at hk76
     refine Ni (hK67 (Sq fun K80 hK80 => (Sq fun K81 hK81 => (Rg (Pu rfl (Va (dx_nilCheck rfl rfl) rfl rfl (Va (dx_fld (o1 := 0) rfl ty_fld_55_0_0 rfl rfl) rfl rfl ?_)))))))
     refine Ge (dx_cw rfl Try.func58 rfl rfl rfl (take_v 58 s P k74 dp W78 _ hL hPL hs (by omega) hp79)) rfl rfl ?_
     rintro _ W92 ⟨⟨k88, rfl, hk89, hk90, hp93⟩, g91⟩
     replace hV := hV.chg g91 hVP
     replace hB := hB.chg g91 (Nat.le_trans hbw hB.size)
     replace hL := hL.chg g91
     cases hT94 : takeS s k74 58 with
     | false =>
      rw [hT94] at hk89
      replace hk89 : k74 = k88 := Eq.symm hk89
      subst hk89
      refine Va (dx_not rfl rfl) rfl rfl (Ni (hK81 (WC.condT rfl (Sq fun K95 hK95 => (Rg (Pu rfl (Ni ?_)))))))
      refine hK95 ?_
      exact WC.ret fun a_ ha_ => hQ (cx_ret1 rfl (.tmp rfl) (.inr ⟨k74, 2, rfl, by decide, (pairS_n (take_of (by rcases Nat.lt_or_ge ka s.size with h_ | h_; exact h_; (have := hc23 h_; omega)) (by have h_ : ka < s.size := (by rcases Nat.lt_or_ge ka s.size with h_ | h_; exact h_; (have := hc23 h_; omega)); have := hc22 h_; omega)) hw45 hnm).trans (by apply pairN_c (a := at_) <;> first | assumption | omega), by omega, (fiveO hV rfl rfl), hp93⟩) hB ha_)
     | true =>
      rw [hT94] at hk89
      have hthT94 := take_t hT94
      replace hk89 : k88 = k74 + 1 := hk89
      refine Va (dx_not rfl rfl) rfl rfl (Ni (hK81 (WC.condF rfl (WC.skip (hK80 (Sq fun K96 hK96 => (Rg ?_)))))))
      refine Pu rfl (Va (dx_nilCheck rfl rfl) rfl rfl (Va (dx_fld (o1 := 0) rfl ty_fld_55_0_0 rfl rfl) rfl rfl ?_))
      refine Ge (dx_cw rfl Try.func33 rfl rfl rfl (blanks_v s P k88 dp W92 _ hL hPL hs (by omega) hp93)) rfl rfl ?_
      rintro _ W107 ⟨hp108, g106⟩
      replace hV := hV.chg g106 hVP
      replace hB := hB.chg g106 (Nat.le_trans hbw hB.size)
      replace hL := hL.chg g106
      obtain ⟨k103, hk104⟩ : ∃ k, k = blankS s k88 := ⟨_, rfl⟩
      rw [← hk104] at hp108
      have hk105 := blankS_le (s := s) (k := k88) (by omega)
      rw [← hk104] at hk105
      refine Ni (hK96 (Sq fun K109 hK109 => (Rg (Pu rfl ?_))))
      refine Ge (dx_cw rfl Try.func34 rfl rfl rfl (hv P k103 W107 _ hL hPL (by omega) hp108)) rfl rfl ?_
      rintro _ W137 ⟨(⟨k123, t125, rfl, hw127, hw128, hw129, hw130, hp138⟩ | ⟨k124, e126, rfl, hw131, hw132, hw133, hp138⟩), g136⟩
      ·
       replace hV := hV.chg g136 hVP
       replace hB := hB.chg g136 (Nat.le_trans hbw hB.size)
       replace hL := hL.chg g136
       refine Pu rfl (Pu rfl (Pu rfl ?_))
       refine Ge (dx_alloc rfl ty_zero_26 rfl) rfl rfl ?_
       rintro _ W139 ⟨rfl, k140, b141, z142⟩
       have n143 : P ≠ W137.heap.size := Nat.ne_of_lt hp138.lt
       have n144 : V ≠ W137.heap.size := Nat.ne_of_lt hV.lt
       have l145 := hB.size
       replace hw128 := hw128.more b141 (Nat.le_refl _)
       replace hp138 := hp138.below b141
       replace hV := hV.below b141
       replace hB := hB.both (.of_below (b141.mono (Nat.le_trans hbw hB.size)))
       replace hL := LL.more hL z142
       refine WL.do (dx_store (cs' := [.int .i64 t125.kind, .int .i64 t125.num, .string t125.text, t125.nv, t125.iv]) (vs := [.int .i64 t125.kind, .int .i64 t125.num, .string t125.text, t125.nv, t125.iv]) rfl ty_size_26_5 rfl rfl rfl (oc_cons rfl (oc_cons rfl (oc_cons rfl (oc_cons (hw128.1).one (oc_cons (hw128.2.1).one oc_nil))))) k140 rfl (Nat.le_of_ble_eq_true rfl) rfl) rfl ?_
       rintro _ W146 ⟨k148, o147⟩
       replace hp138 := hp138.other o147 n143
       replace hV := hV.other o147 n144
       clear k140
       replace hw128 := hw128.only o147 (.head _)
       replace hB := hB.both (.of_only o147 (.inr (.inr (Nat.le_trans hbw l145))))
       replace hL := LL.only hL o147
       refine Pu rfl (Ni (hK109 (Sq fun K149 hK149 => (Sq fun K150 hK150 => (Rg (Pu rfl (Va (dx_neq rfl rfl rfl) rfl rfl ?_)))))))
       refine Ni (hK150 (WC.condF rfl (WC.skip (hK149 (Sq fun K151 hK151 => (Rg (Pu rfl ?_)))))))
       refine Pu rfl (Va (dx_nilCheck rfl rfl) rfl rfl (Va (dx_fld (o1 := 3) rfl ty_fld_26_3_3 rfl rfl) rfl rfl (Va (dx_load rfl ty_one_23 rfl (hV.cell (k := 3) rfl)) rfl rfl (Pu rfl (Pu rfl ?_)))))
       refine Ge (dx_lit1 (r := [.string nm54]) rfl ty_ap_23 (by decide) (by decide) rfl rfl rfl) rfl rfl ?_
       rintro u156 W152 ⟨k153, b154, z155⟩
       have l160 := hB.size
       replace hw128 := hw128.more b154 (Nat.le_refl _)
       replace hp138 := hp138.below b154
       replace hV := hV.below b154
       replace k148 := k148.below b154
       replace hB := hB.both (.of_below (b154.mono (Nat.le_trans hbw hB.size)))
       replace hL := LL.more hL z155
       refine Ge (dx_cv rfl Try.func50 rfl rfl rfl (insNT_v [eS nm54] W146.heap.size _ W152 _ (by omega) k153 (by simp) (by simp))) rfl rfl ?_
       rintro x161 W162 ⟨⟨B163, l168, k164⟩, g167⟩
       have n171 : V ≠ B163 := Nat.ne_of_lt (Nat.lt_of_lt_of_le hV.lt l168)
       have l174 := Nat.le_trans hB.size l168
       replace hw128 := hw128.more g167 l168
       replace hp138 := hp138.below g167
       replace hV := hV.below g167
       replace k148 := k148.below g167
       replace hB := hB.both (.of_below (g167.mono (Nat.le_trans hbw hB.size)))
       replace hL := LL.cons (LL.below hL g167) k164.lt
       rw [show [eS nm54] = ((insA at_ nm54 ([] : List ByteArray)).map eS) from (insN_map _ _ _).symm] at k164
       refine Va (dx_nilCheck rfl rfl) rfl rfl (Va (dx_fld (o1 := 3) rfl ty_fld_26_3_3 rfl rfl) rfl rfl ?_)
       refine WL.do (dx_store (cs' := [.int .i64 6, .int .i64 0, .string ⟨#[]⟩, x161, .slice none 0 0]) (vs := [x161]) rfl ty_size_23_1 rfl rfl (oc_one k164.one) (oc_cons k164.one oc_nil) hV rfl (Nat.le_of_ble_eq_true rfl) rfl) rfl ?_
       rintro _ W175 ⟨k177, o176⟩
       replace hp138 := hp138.other o176 hVP.symm
       replace k148 := k148.other o176 n144.symm
       replace k164 := k164.other o176 n171.symm
       clear hV
       replace hw128 := hw128.only o176 (.tail _ (.tail _ (.tail _ hVL)))
       replace hB := hB.both (.of_only o176 (.inr (.inl rfl)))
       replace hL := LL.only hL o176
       refine Ni (hK151 (Sq fun K178 hK178 => ?_))
       have hsW := hB.size
       refine WC.drawL (fun L_ W_ => H3 true W175 (W175.heap.size) (.slice none 0 0) [] (L_ 8) W_) 9 (rel3 true (W175.heap.size)) (sd3 true W175 V (W175.heap.size) at_ (.slice none 0 0) (encT t125) (([] : List (List Value)).take at_ ++ ([(encT t125)] ++ ([] : List (List Value)).drop at_))) [[], [], [1], [2], [3], [], [], [6], [4, 5, 7]] (by kernel_rfl) (by kernel_rfl) (by kernel_rfl) (by kernel_rfl) (by kernel_rfl) (by kernel_rfl) (by kernel_rfl) (begin3 (fun h => by cases h)) mono3 ?_ ?_
       ·
        refine ⟨fun L_ Wd hl hn hG => ?_, ?_⟩
        ·
         replace hG : H3 true W175 (W175.heap.size) (.slice none 0 0) [] (L_ 8) Wd := hG
         exact DV.dr (dx_move rfl rfl) ⟨rel_o3 (by decide) (Below.refl _ _), hG, rfl⟩
        refine ⟨fun L_ Wd hl hn hG => ?_, ?_⟩
        ·
         replace hG : H3 true W175 (W175.heap.size) (.slice none 0 0) [] (L_ 8) Wd := hG
         exact DV.dr (dx_move rfl rfl) ⟨rel_o3 (by decide) (Below.refl _ _), hG, rfl⟩
        refine ⟨fun L_ Wd hl hn hG => ?_, ?_⟩
        ·
         replace hG : H3 true W175 (W175.heap.size) (.slice none 0 0) [] (L_ 8) Wd := hG
         exact DV.dr (dx_nilCheck rfl rfl) ⟨rel_o3 (by decide) (Below.refl _ _), hG, rfl⟩
        refine ⟨fun L_ Wd hl hn hG => ?_, ?_⟩
        ·
         replace hG : H3 true W175 (W175.heap.size) (.slice none 0 0) [] (L_ 8) Wd := hG
         exact DV.dr (dx_fld (o1 := 4) rfl ty_fld_26_4_4 rfl rfl) ⟨rel_o3 (by decide) (Below.refl _ _), hG, rfl⟩
        refine ⟨fun L_ Wd hl hn hG => ?_, ?_⟩
        ·
         replace hG : H3 true W175 (W175.heap.size) (.slice none 0 0) [] (L_ 8) Wd := hG
         exact DV.dr (dx_load rfl ty_one_24 rfl ((k177.chg hG.1 (Nat.ne_of_lt k177.lt)).cell (k := 4) rfl)) ⟨rel_o3 (by decide) (Below.refl _ _), hG, rfl⟩
        refine ⟨fun L_ Wd hl hn hG => ?_, ?_⟩
        ·
         replace hG : H3 true W175 (W175.heap.size) (.slice none 0 0) [] (L_ 8) Wd := hG
         exact DV.dr (dx_move rfl rfl) ⟨rel_o3 (by decide) (Below.refl _ _), hG, rfl⟩
        refine ⟨fun L_ Wd hl hn hG => ?_, ?_⟩
        ·
         replace hG : H3 true W175 (W175.heap.size) (.slice none 0 0) [] (L_ 8) Wd := hG
         exact DV.dr (dx_loadN (cs := (encT t125)) rfl ty_agg_26_5 rfl ((k148.chg hG.1 (Nat.ne_of_lt k148.lt)).range) rfl) ⟨rel_o3 (by decide) (Below.refl _ _), hG, rfl⟩
        refine ⟨fun L_ Wd hl hn hG => ?_, ?_⟩
        ·
         replace hG : H3 true W175 (W175.heap.size) (.slice none 0 0) [] (L_ 8) Wd := hG
         have h8_ := hn 8 (by decide)
         refine (dx_lit1 (r := (encT t125)) rfl ty_ap_24 (by decide) (by decide) rfl rfl rfl).mono ?_
         rintro u W_ ⟨k1_, k2_, k3_⟩
         exact ⟨rel_o3 (by decide) k2_, lit3 hG k2_, ⟨Wd.heap.size, (fun h => by cases h), hG.1.size, k1_⟩⟩
        refine ⟨fun L_ Wd hl hn hG => ?_, ?_⟩
        ·
         intro u7 q7
         replace hG : H3 true W175 (W175.heap.size) (.slice none 0 0) [] (L_ 8) Wd := hG
         obtain ⟨C7, c1_, c2_, c3_⟩ := q7
         refine (dx_cv rfl Try.func51 rfl rfl rfl (insNV_v [(encT t125)] C7 _ Wd _ (by omega) c3_ (by simp) (by simp))).mono ?_
         rintro u W_ ⟨⟨B_, g0_, k1_⟩, gc_⟩
         exact ⟨(by unfold rel3; rw [if_pos rfl]; exact gc_), (show H3 true W175 (W175.heap.size) (.slice none 0 0) [] true W_ from ⟨hG.1.thenB gc_, fun h => by cases h⟩), ⟨B_, .inr (Nat.le_trans hG.1.size g0_), (by simpa using k1_)⟩⟩
        exact trivial
       ·
        intro We hGe
        obtain ⟨hc, -⟩ := (show H3 true W175 (W175.heap.size) (.slice none 0 0) [] true We from hGe)
        intro u7 q7 u8 q8
        obtain ⟨B179, g182, k180⟩ := q8
        clear q7
        have g181 := hc.toBelow (Nat.le_refl _)
        replace g182 : W175.heap.size ≤ B179 := by rcases g182 with h_ | h_; cases h_.1; exact h_
        rw [show (([] : List (List Value)).take at_ ++ ([(encT t125)] ++ ([] : List (List Value)).drop at_)) = ((insA at_ t125 ([] : List Tr)).map encT) from (insA_map encT at_ t125 []).symm] at k180
        have n185 : V ≠ B179 := Nat.ne_of_lt (Nat.lt_of_lt_of_le k177.lt g182)
        have n188 : B163 ≠ B179 := Nat.ne_of_lt (Nat.lt_of_lt_of_le k164.lt g182)
        have l189 := Nat.le_trans hB.size g182
        replace hw128 := hw128.more g181 g182
        replace hp138 := hp138.below g181
        replace k177 := k177.below g181
        replace k164 := k164.below g181
        replace hB := hB.both (.of_below (g181.mono (Nat.le_trans hbw hB.size)))
        replace hL := LL.cons (LL.below hL g181) k180.lt
        refine Va (dx_nilCheck rfl rfl) rfl rfl (Va (dx_fld (o1 := 4) rfl ty_fld_26_4_4 rfl rfl) rfl rfl ?_)
        refine WL.do (dx_store (cs' := [.int .i64 6, .int .i64 0, .string ⟨#[]⟩, x161, u8]) (vs := [u8]) rfl ty_size_24_1 rfl rfl (oc_one k180.one) (oc_cons k180.one oc_nil) k177 rfl (Nat.le_of_ble_eq_true rfl) rfl) rfl ?_
        rintro _ W190 ⟨k192, o191⟩
        replace hp138 := hp138.other o191 hVP.symm
        replace k164 := k164.other o191 n171.symm
        replace k180 := k180.other o191 n185.symm
        clear k177
        replace hw128 := hw128.only o191 (.tail _ (.tail _ (.tail _ (.tail _ hVL))))
        replace hB := hB.both (.of_only o191 (.inr (.inl rfl)))
        refine Ni (hK178 (Sq fun K193 hK193 => (Rg (Pu rfl (Ni (hK193 ?_))))))
        exact WC.ret fun a_ ha_ => hQ (cx_ret1 rfl (.tmp rfl) (.inl ⟨k123, (insA at_ nm54 ([] : List ByteArray), insA at_ t125.er ([] : List Js)), rfl, (pairS_n (take_of (by rcases Nat.lt_or_ge ka s.size with h_ | h_; exact h_; (have := hc23 h_; omega)) (by have h_ : ka < s.size := (by rcases Nat.lt_or_ge ka s.size with h_ | h_; exact h_; (have := hc23 h_; omega)); have := hc22 h_; omega)) hw45 hnm).trans (by apply pairN_k (a := at_) <;> first | assumption | omega), by omega, by omega, (by show (insA at_ nm54 ([] : List ByteArray)).length ≤ _; rw [insA_len (by omega)]; first | omega | (simp at hlka ⊢; omega)), ⟨x161, u8, insA at_ t125 [], insA_map _ _ _ _, (by rw [hat]; exact rises_ins hris (by rw [← hat]; assumption)), (by show (insA at_ nm54 ([] : List ByteArray)).length = _; rw [insA_len (by omega), insA_len (by first | omega | (simp at hatl ⊢; omega))]; first | omega | rfl), k192, hI0, .inr ⟨B163, B179, n188, by omega, by omega, k164, k180, (fun c hc_ => by rcases mem_insA.1 hc_ with rfl | h_; exact hw128.less (fun x hx => by simp only [List.mem_cons] at hx ⊢; rcases hx with h_ | h_ | h_ <;> simp [h_]); cases h_)⟩⟩, hp138⟩) hB ha_)
      ·
       replace hV := hV.chg g136 hVP
       replace hB := hB.chg g136 (Nat.le_trans hbw hB.size)
       refine Pu rfl (Pu rfl (Pu rfl ?_))
       refine Ge (dx_alloc rfl ty_zero_26 rfl) rfl rfl ?_
       rintro _ W194 ⟨rfl, k195, b196, z197⟩
       have n198 : P ≠ W137.heap.size := Nat.ne_of_lt hp138.lt
       have n199 : V ≠ W137.heap.size := Nat.ne_of_lt hV.lt
       have l200 := hB.size
       replace hp138 := hp138.below b196
       replace hV := hV.below b196
       replace hB := hB.both (.of_below (b196.mono (Nat.le_trans hbw hB.size)))
       refine WL.do (dx_store (cs' := zV) (vs := zV) rfl ty_size_26_5 rfl rfl rfl (oc_cons rfl (oc_cons rfl (oc_cons rfl (oc_cons rfl (oc_cons rfl oc_nil))))) k195 rfl (Nat.le_of_ble_eq_true rfl) rfl) rfl ?_
       rintro _ W201 ⟨k203, o202⟩
       replace hp138 := hp138.other o202 n198
       replace hV := hV.other o202 n199
       clear k195
       replace hB := hB.both (.of_only o202 (.inr (.inr (Nat.le_trans hbw l200))))
       refine Pu rfl (Ni (hK109 (Sq fun K204 hK204 => (Sq fun K205 hK205 => (Rg (Pu rfl (Va (dv_NT (dx_neq rfl rfl rfl) hw131) rfl rfl ?_)))))))
       refine Ni (hK205 (WC.condT rfl (Sq fun K206 hK206 => (Rg (Pu rfl (Pu rfl (Ni ?_)))))))
       refine hK206 ?_
       exact WC.ret fun a_ ha_ => hQ (cx_ret1 rfl (.tmp rfl) (.inr ⟨k124, e126, rfl, hw131, (pairS_n (take_of (by rcases Nat.lt_or_ge ka s.size with h_ | h_; exact h_; (have := hc23 h_; omega)) (by have h_ : ka < s.size := (by rcases Nat.lt_or_ge ka s.size with h_ | h_; exact h_; (have := hc23 h_; omega)); have := hc22 h_; omega)) hw45 hnm).trans (by apply pairN_e (a := at_) <;> first | assumption | omega), by omega, (fiveO hV rfl rfl), hp138⟩) hB ha_)
   ·
    replace hV := hV.chg g55 hVP
    replace hB := hB.chg g55 (Nat.le_trans hbw hB.size)
    refine Pu rfl (Pu rfl (Pu rfl (Pu rfl (Pu rfl (Ni (hK28 (Sq fun K207 hK207 => ?_)))))))
    refine Sq fun K208 hK208 => (Rg (Pu rfl (Va (dx_neq rfl rfl rfl) rfl rfl (Ni (hK208 (WC.condT rfl (Sq fun K209 hK209 => ?_)))))))
    refine Rg (Pu rfl (Pu rfl (Ni (hK209 ?_))))
    exact WC.ret fun a_ ha_ => hQ (cx_ret1 rfl (.tmp rfl) (.inr ⟨k43, 2, rfl, by decide, pairS_q (take_of (by rcases Nat.lt_or_ge ka s.size with h_ | h_; exact h_; (have := hc23 h_; omega)) (by have h_ : ka < s.size := (by rcases Nat.lt_or_ge ka s.size with h_ | h_; exact h_; (have := hc23 h_; omega)); have := hc22 h_; omega)) hw50, by omega, (fiveO hV rfl rfl), hp57⟩) hB ha_)
 have hBnP : Bn ≠ P := by have := hLb P hPL; omega
 have hBnV : Bn ≠ V := by have := hLb V hVL; omega
 have hBiP : Bi ≠ P := by have := hLb P hPL; omega
 have hBiV : Bi ≠ V := by have := hLb V hVL; omega
 replace hL := LL.cons (LL.cons hL hOi.lt) hOn.lt
 refine cx_enter (N := 76) (f := [(0, .pointer (some ⟨P, 0, none⟩)), (1, .pointer (some ⟨V, 0, none⟩))]) Try.func91 rfl rfl rfl rfl fun Q hQ hE_ => ?_
 have hB := ChgV.refl b P V w
 refine Sq fun K1 hK1 => (Rg (Pu rfl (Ni (hK1 (Sq fun K2 hK2 => (Sq fun K3 hK3 => (Rg ?_)))))))
 refine Pu rfl (Va (dx_nilCheck rfl rfl) rfl rfl (Va (dx_fld (o1 := 0) rfl ty_fld_55_0_0 rfl rfl) rfl rfl ?_))
 refine Ge (dx_cv rfl Try.func59 rfl rfl rfl (peek_c s P ka dp w _ hL (.tail _ (.tail _ hPL)) hs (by omega) hp)) rfl rfl ?_
 rintro _ W25 ⟨⟨c19, rfl, hc20, hc21, hc22, hc23⟩, b24⟩
 replace hts := hts.below b24
 replace hp := hp.below b24
 replace hV := hV.below b24
 replace hOn := hOn.below b24
 replace hOi := hOi.below b24
 replace hB := hB.both (.of_below (b24.mono (Nat.le_trans hbw hB.size)))
 replace hL := LL.below hL b24
 refine Va (dx_neq rfl rfl rfl) rfl rfl (Ni (hK3 ?_))
 refine WC.cond rfl (fun c26 => ?_) (fun c26 => ?_)
 ·
  replace c26 := bnot_t c26
  replace c26 := dF c26
  refine Sq fun K27 hK27 => (Rg (Pu rfl (Ni (hK27 ?_))))
  exact WC.ret fun a_ ha_ => hQ (cx_ret1 rfl (.tmp rfl) (.inr ⟨ka, 2, rfl, by decide, pairS_0 (take_nc hc22 (by assumption)), by omega, (fiveO hV hOn.one hOi.one), hp⟩) hB ha_)
 ·
  replace c26 := bnot_f c26
  replace c26 := dT c26
  refine WC.skip (hK2 (Sq fun K28 hK28 => (Rg (Pu rfl ?_))))
  refine Ge (dx_cw rfl Try.func62 rfl rfl rfl (quoted_v s P ka dp W25 _ hL (.tail _ (.tail _ hPL)) hs (by omega) hp (take_of (by rcases Nat.lt_or_ge ka s.size with h_ | h_; exact h_; (have := hc23 h_; omega)) (by have h_ : ka < s.size := (by rcases Nat.lt_or_ge ka s.size with h_ | h_; exact h_; (have := hc23 h_; omega)); have := hc22 h_; omega)))) rfl rfl ?_
  rintro _ W56 ⟨(⟨k42, l44, rfl, hw45, hw46, hw47, hw48, hw49, hp57⟩ | ⟨k43, rfl, hw50, hw51, hp57⟩), g55⟩
  ·
   replace hts := hts.chgL g55 (.tail _ (.tail _ hPL))
   replace hV := hV.chg g55 hVP
   replace hOn := hOn.chgL g55 hBnP
   replace hOi := hOi.chgL g55 hBiP
   replace hB := hB.chg g55 (Nat.le_trans hbw hB.size)
   replace hL := hL.chg g55
   obtain ⟨nm54, hnm⟩ : ∃ x, x = strOfNums l44 := ⟨_, rfl⟩
   rw [← hnm]
   refine Pu rfl (Pu rfl (Pu rfl (Pu rfl (Pu rfl (Ni (hK28 (Sq fun K58 hK58 => ?_)))))))
   refine Sq fun K59 hK59 => (Rg (Pu rfl (Va (dx_neq rfl rfl rfl) rfl rfl (Ni (hK59 (WC.condF rfl (WC.skip ?_)))))))
   refine hK58 (Sq fun K60 hK60 => (Rg (Pu rfl (Va (dx_nilCheck rfl rfl) rfl rfl (Va (dx_fld (o1 := 3) rfl ty_fld_26_3_3 rfl rfl) rfl rfl (Va (dx_load rfl ty_one_23 rfl (hV.cell (k := 3) rfl)) rfl rfl (Pu rfl ?_)))))))
   refine Ge (dx_cv rfl Try.func49 rfl rfl rfl (bsearchA_v ns nm54 _ W56 [] (LL.nil _) (hOn.rd (L := []) (by simp)) hris (by first | omega | simp))) rfl rfl ?_
   rintro _ W62 ⟨⟨at_, hat, hatl, rfl⟩, b61⟩
   replace hts := hts.below b61
   replace hp57 := hp57.below b61
   replace hV := hV.below b61
   replace hOn := hOn.below b61
   replace hOi := hOi.below b61
   replace hB := hB.both (.of_below (b61.mono (Nat.le_trans hbw hB.size)))
   replace hL := LL.below hL b61
   refine Pu rfl (Pu rfl (Pu rfl (Pu rfl (Pu rfl (Ni (hK60 (Sq fun K63 hK63 => ?_)))))))
   refine Sq fun K64 hK64 => (Rg (Pu rfl (Ni (hK64 ?_))))
   refine WC.cond rfl (fun c65 => ?_) (fun c65 => ?_)
   ·
    replace c65 := dT c65
    refine Sq fun K66 hK66 => (Rg (Pu rfl (Ni (hK66 ?_))))
    exact WC.ret fun a_ ha_ => hQ (cx_ret1 rfl (.tmp rfl) (.inr ⟨k42, 6, rfl, by decide, (pairS_n (take_of (by rcases Nat.lt_or_ge ka s.size with h_ | h_; exact h_; (have := hc23 h_; omega)) (by have h_ : ka < s.size := (by rcases Nat.lt_or_ge ka s.size with h_ | h_; exact h_; (have := hc23 h_; omega)); have := hc22 h_; omega)) hw45 hnm).trans (pairN_t hat (by assumption)), by omega, (fiveO hV hOn.one hOi.one), hp57⟩) hB ha_)
   ·
    replace c65 := dF c65
    refine WC.skip (hK63 (Sq fun K67 hK67 => (Rg (Pu rfl (Va (dx_nilCheck rfl rfl) rfl rfl (Va (dx_fld (o1 := 0) rfl ty_fld_55_0_0 rfl rfl) rfl rfl ?_))))))
    refine Ge (dx_cw rfl Try.func33 rfl rfl rfl (blanks_v s P k42 dp W62 _ hL (.tail _ (.tail _ hPL)) hs (by omega) hp57)) rfl rfl ?_
    rintro _ W78 ⟨hp79, g77⟩
    replace hts := hts.chgL g77 (.tail _ (.tail _ hPL))
    replace hV := hV.chg g77 hVP
    replace hOn := hOn.chgL g77 hBnP
    replace hOi := hOi.chgL g77 hBiP
    replace hB := hB.chg g77 (Nat.le_trans hbw hB.size)
    replace hL := hL.chg g77
    obtain ⟨k74, hk75⟩ : ∃ k, k = blankS s k42 := ⟨_, rfl⟩
    rw [← hk75] at hp79
    have hk76 := blankS_le (s := s) (k := k42) (by omega)
    rw [← hk75] at hk76
    refine Ni (hK67 (Sq fun K80 hK80 => (Sq fun K81 hK81 => (Rg (Pu rfl (Va (dx_nilCheck rfl rfl) rfl rfl (Va (dx_fld (o1 := 0) rfl ty_fld_55_0_0 rfl rfl) rfl rfl ?_)))))))
    refine Ge (dx_cw rfl Try.func58 rfl rfl rfl (take_v 58 s P k74 dp W78 _ hL (.tail _ (.tail _ hPL)) hs (by omega) hp79)) rfl rfl ?_
    rintro _ W92 ⟨⟨k88, rfl, hk89, hk90, hp93⟩, g91⟩
    replace hts := hts.chgL g91 (.tail _ (.tail _ hPL))
    replace hV := hV.chg g91 hVP
    replace hOn := hOn.chgL g91 hBnP
    replace hOi := hOi.chgL g91 hBiP
    replace hB := hB.chg g91 (Nat.le_trans hbw hB.size)
    replace hL := hL.chg g91
    cases hT94 : takeS s k74 58 with
    | false =>
     rw [hT94] at hk89
     replace hk89 : k74 = k88 := Eq.symm hk89
     subst hk89
     refine Va (dx_not rfl rfl) rfl rfl (Ni (hK81 (WC.condT rfl (Sq fun K95 hK95 => (Rg (Pu rfl (Ni ?_)))))))
     refine hK95 ?_
     exact WC.ret fun a_ ha_ => hQ (cx_ret1 rfl (.tmp rfl) (.inr ⟨k74, 2, rfl, by decide, (pairS_n (take_of (by rcases Nat.lt_or_ge ka s.size with h_ | h_; exact h_; (have := hc23 h_; omega)) (by have h_ : ka < s.size := (by rcases Nat.lt_or_ge ka s.size with h_ | h_; exact h_; (have := hc23 h_; omega)); have := hc22 h_; omega)) hw45 hnm).trans (by apply pairN_c (a := at_) <;> first | assumption | omega), by omega, (fiveO hV hOn.one hOi.one), hp93⟩) hB ha_)
    | true =>
     rw [hT94] at hk89
     have hthT94 := take_t hT94
     replace hk89 : k88 = k74 + 1 := hk89
     refine Va (dx_not rfl rfl) rfl rfl (Ni (hK81 (WC.condF rfl (WC.skip (hK80 (Sq fun K96 hK96 => (Rg ?_)))))))
     refine Pu rfl (Va (dx_nilCheck rfl rfl) rfl rfl (Va (dx_fld (o1 := 0) rfl ty_fld_55_0_0 rfl rfl) rfl rfl ?_))
     refine Ge (dx_cw rfl Try.func33 rfl rfl rfl (blanks_v s P k88 dp W92 _ hL (.tail _ (.tail _ hPL)) hs (by omega) hp93)) rfl rfl ?_
     rintro _ W107 ⟨hp108, g106⟩
     replace hts := hts.chgL g106 (.tail _ (.tail _ hPL))
     replace hV := hV.chg g106 hVP
     replace hOn := hOn.chgL g106 hBnP
     replace hOi := hOi.chgL g106 hBiP
     replace hB := hB.chg g106 (Nat.le_trans hbw hB.size)
     replace hL := hL.chg g106
     obtain ⟨k103, hk104⟩ : ∃ k, k = blankS s k88 := ⟨_, rfl⟩
     rw [← hk104] at hp108
     have hk105 := blankS_le (s := s) (k := k88) (by omega)
     rw [← hk104] at hk105
     refine Ni (hK96 (Sq fun K109 hK109 => (Rg (Pu rfl ?_))))
     refine Ge (dx_cw rfl Try.func34 rfl rfl rfl (hv P k103 W107 _ hL (.tail _ (.tail _ hPL)) (by omega) hp108)) rfl rfl ?_
     rintro _ W137 ⟨(⟨k123, t125, rfl, hw127, hw128, hw129, hw130, hp138⟩ | ⟨k124, e126, rfl, hw131, hw132, hw133, hp138⟩), g136⟩
     ·
      replace hts := hts.chgL g136 (.tail _ (.tail _ hPL))
      replace hV := hV.chg g136 hVP
      replace hOn := hOn.chgL g136 hBnP
      replace hOi := hOi.chgL g136 hBiP
      replace hB := hB.chg g136 (Nat.le_trans hbw hB.size)
      refine Pu rfl (Pu rfl (Pu rfl ?_))
      refine Ge (dx_alloc rfl ty_zero_26 rfl) rfl rfl ?_
      rintro _ W139 ⟨rfl, k140, b141, z142⟩
      have n143 : P ≠ W137.heap.size := Nat.ne_of_lt hp138.lt
      have n144 : V ≠ W137.heap.size := Nat.ne_of_lt hV.lt
      have n145 : Bn ≠ W137.heap.size := Nat.ne_of_lt hOn.lt
      have n146 : Bi ≠ W137.heap.size := Nat.ne_of_lt hOi.lt
      have l147 := hB.size
      replace hts := hts.more b141 (Nat.le_refl _)
      replace hw128 := hw128.more b141 (Nat.le_refl _)
      replace hp138 := hp138.below b141
      replace hV := hV.below b141
      replace hOn := hOn.below b141
      replace hOi := hOi.below b141
      replace hB := hB.both (.of_below (b141.mono (Nat.le_trans hbw hB.size)))
      refine WL.do (dx_store (cs' := [.int .i64 t125.kind, .int .i64 t125.num, .string t125.text, t125.nv, t125.iv]) (vs := [.int .i64 t125.kind, .int .i64 t125.num, .string t125.text, t125.nv, t125.iv]) rfl ty_size_26_5 rfl rfl rfl (oc_cons rfl (oc_cons rfl (oc_cons rfl (oc_cons (hw128.1).one (oc_cons (hw128.2.1).one oc_nil))))) k140 rfl (Nat.le_of_ble_eq_true rfl) rfl) rfl ?_
      rintro _ W148 ⟨k150, o149⟩
      replace hp138 := hp138.other o149 n143
      replace hV := hV.other o149 n144
      replace hOn := hOn.other o149 n145
      replace hOi := hOi.other o149 n146
      clear k140
      replace hts := hts.only o149 (.head _)
      replace hw128 := hw128.only o149 (.head _)
      replace hB := hB.both (.of_only o149 (.inr (.inr (Nat.le_trans hbw l147))))
      refine Pu rfl (Ni (hK109 (Sq fun K151 hK151 => (Sq fun K152 hK152 => (Rg (Pu rfl (Va (dx_neq rfl rfl rfl) rfl rfl ?_)))))))
      refine Ni (hK152 (WC.condF rfl (WC.skip (hK151 (Sq fun K153 hK153 => (Rg (Pu rfl ?_)))))))
      refine Pu rfl (Va (dx_nilCheck rfl rfl) rfl rfl (Va (dx_fld (o1 := 3) rfl ty_fld_26_3_3 rfl rfl) rfl rfl (Va (dx_load rfl ty_one_23 rfl (hV.cell (k := 3) rfl)) rfl rfl (Pu rfl (Pu rfl ?_)))))
      refine Ge (dx_lit1 (r := [.string nm54]) rfl ty_ap_23 (by decide) (by decide) rfl rfl rfl) rfl rfl ?_
      rintro u158 W154 ⟨k155, b156, z157⟩
      have n161 : Bn ≠ W148.heap.size := Nat.ne_of_lt hOn.lt
      have l164 := hB.size
      replace hts := hts.more b156 (Nat.le_refl _)
      replace hw128 := hw128.more b156 (Nat.le_refl _)
      replace hp138 := hp138.below b156
      replace hV := hV.below b156
      replace hOn := hOn.below b156
      replace hOi := hOi.below b156
      replace k150 := k150.below b156
      replace hB := hB.both (.of_below (b156.mono (Nat.le_trans hbw hB.size)))
      refine Ge (dx_cw rfl Try.func50 rfl rfl rfl (insOT_v _ [eS nm54] at_ Bn W148.heap.size _ _ W154 hOn k155 n161.symm (by rw [List.length_map]; omega) (by simp) (by rw [List.length_map, List.length_singleton]; omega) (oc_eS ns) (fun r hr => by rw [List.mem_singleton.1 hr]; exact (oc_cons rfl oc_nil)))) rfl rfl ?_
      rintro x165 W166 ⟨⟨B167, k168, g169⟩, g170⟩
      have g171 := GrowB.of_chg g170 g169
      have n175 : V ≠ B167 := hV.grow_ne g171 hBnV.symm
      have n176 : Bi ≠ B167 := hOi.grow_ne g171 hni.symm
      have l173 : b ≤ B167 := g171.le hbn (Nat.le_trans hbw hB.size)
      replace hts := hts.grow' g171 (.tail _ (.tail _ (.head _)))
      replace hw128 := hw128.grow' g171 (.tail _ (.tail _ (.head _)))
      replace hp138 := hp138.grow g171 hBnP.symm
      replace hV := hV.grow g171 hBnV.symm
      replace hOi := hOi.grow g171 hni.symm
      replace k150 := k150.grow g171 n145.symm
      replace hB := hB.grow g171 hbn (Nat.le_trans hbw hB.size)
      rw [show (ns.map eS).take at_ ++ ([eS nm54] ++ (ns.map eS).drop at_) = ((insA at_ nm54 ns).map eS) from (insA_map _ at_ _ _).symm] at k168
      refine Va (dx_nilCheck rfl rfl) rfl rfl (Va (dx_fld (o1 := 3) rfl ty_fld_26_3_3 rfl rfl) rfl rfl ?_)
      refine WL.do (dx_store (cs' := [.int .i64 6, .int .i64 0, .string ⟨#[]⟩, x165, iv]) (vs := [x165]) rfl ty_size_23_1 rfl rfl (oc_one k168.one) (oc_cons k168.one oc_nil) hV rfl (Nat.le_of_ble_eq_true rfl) rfl) rfl ?_
      rintro _ W179 ⟨k181, o180⟩
      replace hp138 := hp138.other o180 hVP.symm
      replace hOi := hOi.other o180 hBiV
      replace k150 := k150.other o180 n144.symm
      replace k168 := k168.other o180 n175.symm
      clear hV
      replace hts := hts.only o180 (.tail _ (.tail _ (.tail _ (.tail _ (.tail _ hVL)))))
      replace hw128 := hw128.only o180 (.tail _ (.tail _ (.tail _ (.tail _ (.tail _ hVL)))))
      replace hB := hB.both (.of_only o180 (.inr (.inl rfl)))
      refine Ni (hK153 (Sq fun K182 hK182 => ?_))
      have hsW := hB.size
      refine WC.drawL (fun L_ W_ => H3 false W179 Bi (iv) (ts.map encT) (L_ 8) W_) 9 (rel3 false Bi) (sd3 false W179 V Bi at_ (iv) (encT t125) ((ts.map encT).take at_ ++ ([(encT t125)] ++ (ts.map encT).drop at_))) [[], [], [1], [2], [3], [], [], [6], [4, 5, 7]] (by kernel_rfl) (by kernel_rfl) (by kernel_rfl) (by kernel_rfl) (by kernel_rfl) (by kernel_rfl) (by kernel_rfl) (begin3 (fun _ => hOi)) mono3 ?_ ?_
      ·
       refine ⟨fun L_ Wd hl hn hG => ?_, ?_⟩
       ·
        replace hG : H3 false W179 Bi (iv) (ts.map encT) (L_ 8) Wd := hG
        exact DV.dr (dx_move rfl rfl) ⟨rel_o3 (by decide) (Below.refl _ _), hG, rfl⟩
       refine ⟨fun L_ Wd hl hn hG => ?_, ?_⟩
       ·
        replace hG : H3 false W179 Bi (iv) (ts.map encT) (L_ 8) Wd := hG
        exact DV.dr (dx_move rfl rfl) ⟨rel_o3 (by decide) (Below.refl _ _), hG, rfl⟩
       refine ⟨fun L_ Wd hl hn hG => ?_, ?_⟩
       ·
        replace hG : H3 false W179 Bi (iv) (ts.map encT) (L_ 8) Wd := hG
        exact DV.dr (dx_nilCheck rfl rfl) ⟨rel_o3 (by decide) (Below.refl _ _), hG, rfl⟩
       refine ⟨fun L_ Wd hl hn hG => ?_, ?_⟩
       ·
        replace hG : H3 false W179 Bi (iv) (ts.map encT) (L_ 8) Wd := hG
        exact DV.dr (dx_fld (o1 := 4) rfl ty_fld_26_4_4 rfl rfl) ⟨rel_o3 (by decide) (Below.refl _ _), hG, rfl⟩
       refine ⟨fun L_ Wd hl hn hG => ?_, ?_⟩
       ·
        replace hG : H3 false W179 Bi (iv) (ts.map encT) (L_ 8) Wd := hG
        exact DV.dr (dx_load rfl ty_one_24 rfl ((k181.chg hG.1 hBiV.symm).cell (k := 4) rfl)) ⟨rel_o3 (by decide) (Below.refl _ _), hG, rfl⟩
       refine ⟨fun L_ Wd hl hn hG => ?_, ?_⟩
       ·
        replace hG : H3 false W179 Bi (iv) (ts.map encT) (L_ 8) Wd := hG
        exact DV.dr (dx_move rfl rfl) ⟨rel_o3 (by decide) (Below.refl _ _), hG, rfl⟩
       refine ⟨fun L_ Wd hl hn hG => ?_, ?_⟩
       ·
        replace hG : H3 false W179 Bi (iv) (ts.map encT) (L_ 8) Wd := hG
        exact DV.dr (dx_loadN (cs := (encT t125)) rfl ty_agg_26_5 rfl ((k150.chg hG.1 n146.symm).range) rfl) ⟨rel_o3 (by decide) (Below.refl _ _), hG, rfl⟩
       refine ⟨fun L_ Wd hl hn hG => ?_, ?_⟩
       ·
        replace hG : H3 false W179 Bi (iv) (ts.map encT) (L_ 8) Wd := hG
        have h8_ := hn 8 (by decide)
        refine (dx_lit1 (r := (encT t125)) rfl ty_ap_24 (by decide) (by decide) rfl rfl rfl).mono ?_
        rintro u W_ ⟨k1_, k2_, k3_⟩
        exact ⟨rel_o3 (by decide) k2_, lit3 hG k2_, ⟨Wd.heap.size, (fun a_ => Nat.ne_of_gt (hG.2 a_ h8_).lt), hG.1.size, k1_⟩⟩
       refine ⟨fun L_ Wd hl hn hG => ?_, ?_⟩
       ·
        intro u7 q7
        replace hG : H3 false W179 Bi (iv) (ts.map encT) (L_ 8) Wd := hG
        obtain ⟨C7, c1_, c2_, c3_⟩ := q7
        refine (dx_cw rfl Try.func51 rfl rfl rfl (insOV_v _ [(encT t125)] at_ Bi C7 _ _ Wd (hG.2 rfl hl) c3_ (c1_ rfl) (by rw [List.length_map]; omega) (by simp) (by rw [List.length_map, List.length_singleton]; omega) (oc_items hts) (fun r hr => by rw [List.mem_singleton.1 hr]; exact hw128.oc))).mono ?_
        rintro u W_ ⟨⟨B_, k1_, g0_⟩, gc_⟩
        exact ⟨(by unfold rel3; rw [if_pos rfl]; exact gc_), (show H3 false W179 Bi (iv) (ts.map encT) true W_ from ⟨hG.1.both gc_, fun _ h => by cases h⟩), ⟨B_, (by have := hG.1.size; rcases g0_ with g0_ | g0_; exact .inl ⟨rfl, g0_⟩; exact .inr (by omega)), k1_⟩⟩
       exact trivial
      ·
       intro We hGe
       obtain ⟨hc, -⟩ := (show H3 false W179 Bi (iv) (ts.map encT) true We from hGe)
       intro u7 q7 u8 q8
       obtain ⟨B183, g186, k184⟩ := q8
       clear q7
       have g185 := GrowB.of_chg hc (by rcases g186 with h_ | h_; exact .inl h_.2; exact .inr h_)
       have n189 : V ≠ B183 := k181.grow_ne g185 hBiV.symm
       have n192 : B167 ≠ B183 := k168.grow_ne g185 n176.symm
       have l187 : b ≤ B183 := g185.le hbi (Nat.le_trans hbw hB.size)
       replace hts := hts.grow' g185 (.tail _ (.tail _ (.tail _ (.tail _ (.head _)))))
       replace hw128 := hw128.grow' g185 (.tail _ (.tail _ (.tail _ (.tail _ (.head _)))))
       replace hp138 := hp138.grow g185 hBiP.symm
       replace k181 := k181.grow g185 hBiV.symm
       replace k168 := k168.grow g185 n176.symm
       replace hB := hB.grow g185 hbi (Nat.le_trans hbw hB.size)
       rw [show ((ts.map encT).take at_ ++ ([(encT t125)] ++ (ts.map encT).drop at_)) = ((insA at_ t125 ts).map encT) from (insA_map encT at_ t125 ts).symm] at k184
       refine Va (dx_nilCheck rfl rfl) rfl rfl (Va (dx_fld (o1 := 4) rfl ty_fld_26_4_4 rfl rfl) rfl rfl ?_)
       refine WL.do (dx_store (cs' := [.int .i64 6, .int .i64 0, .string ⟨#[]⟩, x165, u8]) (vs := [u8]) rfl ty_size_24_1 rfl rfl (oc_one k184.one) (oc_cons k184.one oc_nil) k181 rfl (Nat.le_of_ble_eq_true rfl) rfl) rfl ?_
       rintro _ W193 ⟨k195, o194⟩
       replace hp138 := hp138.other o194 hVP.symm
       replace k168 := k168.other o194 n175.symm
       replace k184 := k184.other o194 n189.symm
       clear k181
       replace hts := hts.only o194 (.tail _ (.tail _ (.tail _ (.tail _ (.tail _ (.tail _ hVL))))))
       replace hw128 := hw128.only o194 (.tail _ (.tail _ (.tail _ (.tail _ (.tail _ (.tail _ hVL))))))
       replace hB := hB.both (.of_only o194 (.inr (.inl rfl)))
       refine Ni (hK182 (Sq fun K196 hK196 => (Rg (Pu rfl (Ni (hK196 ?_))))))
       exact WC.ret fun a_ ha_ => hQ (cx_ret1 rfl (.tmp rfl) (.inl ⟨k123, (insA at_ nm54 ns, insA at_ t125.er (ts.map Tr.er)), rfl, (pairS_n (take_of (by rcases Nat.lt_or_ge ka s.size with h_ | h_; exact h_; (have := hc23 h_; omega)) (by have h_ : ka < s.size := (by rcases Nat.lt_or_ge ka s.size with h_ | h_; exact h_; (have := hc23 h_; omega)); have := hc22 h_; omega)) hw45 hnm).trans (by apply pairN_k (a := at_) <;> first | assumption | omega), by omega, by omega, (by show (insA at_ nm54 ns).length ≤ _; rw [insA_len (by omega)]; first | omega | (simp at hlka ⊢; omega)), ⟨x165, u8, insA at_ t125 ts, insA_map _ _ _ _, (by rw [hat]; exact rises_ins hris (by rw [← hat]; assumption)), (by show (insA at_ nm54 ns).length = _; rw [insA_len (by omega), insA_len (by first | omega | (simp at hatl ⊢; omega))]; first | omega | rfl), k195, hI0, .inr ⟨B167, B183, n192, by omega, by omega, k168, k184, (fun c hc_ => by rcases mem_insA.1 hc_ with rfl | h_; exact hw128.less (fun x hx => by simp only [List.mem_cons] at hx ⊢; rcases hx with h_ | h_ | h_ <;> simp [h_]); exact (hts c h_).less (fun x hx => by simp only [List.mem_cons] at hx ⊢; rcases hx with h_ | h_ | h_ <;> simp [h_]))⟩⟩, hp138⟩) hB ha_)
     ·
      replace hV := hV.chg g136 hVP
      replace hOn := hOn.chgL g136 hBnP
      replace hOi := hOi.chgL g136 hBiP
      replace hB := hB.chg g136 (Nat.le_trans hbw hB.size)
      refine Pu rfl (Pu rfl (Pu rfl ?_))
      refine Ge (dx_alloc rfl ty_zero_26 rfl) rfl rfl ?_
      rintro _ W197 ⟨rfl, k198, b199, z200⟩
      have n201 : P ≠ W137.heap.size := Nat.ne_of_lt hp138.lt
      have n202 : V ≠ W137.heap.size := Nat.ne_of_lt hV.lt
      have n203 : Bn ≠ W137.heap.size := Nat.ne_of_lt hOn.lt
      have n204 : Bi ≠ W137.heap.size := Nat.ne_of_lt hOi.lt
      have l205 := hB.size
      replace hp138 := hp138.below b199
      replace hV := hV.below b199
      replace hOn := hOn.below b199
      replace hOi := hOi.below b199
      replace hB := hB.both (.of_below (b199.mono (Nat.le_trans hbw hB.size)))
      refine WL.do (dx_store (cs' := zV) (vs := zV) rfl ty_size_26_5 rfl rfl rfl (oc_cons rfl (oc_cons rfl (oc_cons rfl (oc_cons rfl (oc_cons rfl oc_nil))))) k198 rfl (Nat.le_of_ble_eq_true rfl) rfl) rfl ?_
      rintro _ W206 ⟨k208, o207⟩
      replace hp138 := hp138.other o207 n201
      replace hV := hV.other o207 n202
      replace hOn := hOn.other o207 n203
      replace hOi := hOi.other o207 n204
      clear k198
      replace hB := hB.both (.of_only o207 (.inr (.inr (Nat.le_trans hbw l205))))
      refine Pu rfl (Ni (hK109 (Sq fun K209 hK209 => (Sq fun K210 hK210 => (Rg (Pu rfl (Va (dv_NT (dx_neq rfl rfl rfl) hw131) rfl rfl ?_)))))))
      refine Ni (hK210 (WC.condT rfl (Sq fun K211 hK211 => (Rg (Pu rfl (Pu rfl (Ni ?_)))))))
      refine hK211 ?_
      exact WC.ret fun a_ ha_ => hQ (cx_ret1 rfl (.tmp rfl) (.inr ⟨k124, e126, rfl, hw131, (pairS_n (take_of (by rcases Nat.lt_or_ge ka s.size with h_ | h_; exact h_; (have := hc23 h_; omega)) (by have h_ : ka < s.size := (by rcases Nat.lt_or_ge ka s.size with h_ | h_; exact h_; (have := hc23 h_; omega)); have := hc22 h_; omega)) hw45 hnm).trans (by apply pairN_e (a := at_) <;> first | assumption | omega), by omega, (fiveO hV hOn.one hOi.one), hp138⟩) hB ha_)
  ·
   replace hV := hV.chg g55 hVP
   replace hOn := hOn.chgL g55 hBnP
   replace hOi := hOi.chgL g55 hBiP
   replace hB := hB.chg g55 (Nat.le_trans hbw hB.size)
   refine Pu rfl (Pu rfl (Pu rfl (Pu rfl (Pu rfl (Ni (hK28 (Sq fun K212 hK212 => ?_)))))))
   refine Sq fun K213 hK213 => (Rg (Pu rfl (Va (dx_neq rfl rfl rfl) rfl rfl (Ni (hK213 (WC.condT rfl (Sq fun K214 hK214 => ?_)))))))
   refine Rg (Pu rfl (Pu rfl (Ni (hK214 ?_))))
   exact WC.ret fun a_ ha_ => hQ (cx_ret1 rfl (.tmp rfl) (.inr ⟨k43, 2, rfl, by decide, pairS_q (take_of (by rcases Nat.lt_or_ge ka s.size with h_ | h_; exact h_; (have := hc23 h_; omega)) (by have h_ : ka < s.size := (by rcases Nat.lt_or_ge ka s.size with h_ | h_; exact h_; (have := hc23 h_; omega)); have := hc22 h_; omega)) hw50, by omega, (fiveO hV hOn.one hOi.one), hp57⟩) hB ha_)

theorem ob1_v (n : Nat) (vs : Nat → Except Int (Js × Nat)) (s : ByteArray) (dp : Nat) (hc : PairAt n vs s dp) : ObjAt n vs s dp := by
 intro b Bp V P L ka st w hL hPL hVL hBL hBP hVP hBV hLb hbw hk hp hI hlka
 obtain ⟨hBp, hI⟩ := hI
 refine cx_enter (N := 5) (f := [(0, .pointer (some ⟨Bp, 0, none⟩)), (1, .pointer (some ⟨V, 0, none⟩))]) Try.func90 rfl rfl rfl rfl fun Q hQ hE_ => ?_
 have hB := ChgV.refl b P V w
 refine WC.seq fun K1 hK1 => (WC.region (Pu rfl (WL.nil (hK1 (WC.seq fun K2 hK2 => (WC.region (WL.val (dx_load rfl ty_one_51 rfl (hBp.cell (k := 0) rfl)) rfl rfl ?_)))))))
 refine WL.get (dx_cx rfl Try.func91 rfl rfl rfl (hc b V P L ka st w hL hPL hVL hVP hLb (Nat.le_trans hbw hB.size) hk hp hI hlka)) rfl rfl ?_
 rintro _ W17 ⟨(⟨k3, st4, rfl, h7, h8, h9, h10, h11, hp18⟩ | ⟨k5, e6, rfl, h7, h8, h9, h10, hp18⟩), g16⟩
 ·
  replace hB := hB.both g16
  replace hBp := hBp.chgV g16 (hLb Bp hBL) hBP hBV
  refine Pu rfl (WL.nil (hK2 ?_))
  exact WC.ret fun a_ ha_ => hQ (cx_ret1 rfl (.tmp rfl) (.inl ⟨k3, st4, rfl, h7, h8, h9, h10, ⟨hBp, h11⟩, hp18⟩) hB ha_)
 ·
  replace hB := hB.both g16
  refine Pu rfl (WL.nil (hK2 ?_))
  exact WC.ret fun a_ ha_ => hQ (cx_ret1 rfl (.tmp rfl) (.inr ⟨k5, e6, rfl, h7, h8, h9, h10, hp18⟩) hB ha_)

set_option maxHeartbeats 1000000 in
theorem object_v (n : Nat) (vs : Nat → Except Int (Js × Nat)) (s : ByteArray) (P ka dp : Nat) (w : World) (L : List Nat) (hL : LL L w) (hPL : P ∈ L) (hs : s.size ≤ 1000000) (hk : ka ≤ s.size) (hp : Blk w P (psC s ka dp))  (hq : takeS s ka 123 = true) (hc : ObjAt n vs s dp) : CW Try.prog 65 [.pointer (some ⟨P, 0, none⟩)] w P fun v W => (∃ k' t, v = .tuple #[.agg #[.int .i64 t.kind, .int .i64 t.num, .string t.text, t.nv, t.iv], .int .i64 0] ∧ objS s vs ka = .ok (t.er, k') ∧ RdT (n + 1) L W t ∧ ka < k' ∧ k' ≤ s.size ∧ Blk W P (psC s k' dp)) ∨ (∃ k' e cs, v = .tuple #[.agg (List.toArray cs), .int .i64 e] ∧ e ≠ 0 ∧ cs.length = 5 ∧ (∀ u ∈ cs, u.oneCell' = true) ∧ objS s vs ka = .error e ∧ k' ≤ s.size ∧ Blk W P (psC s k' dp)) := by
 refine cw_enter (N := 12) (f := [(0, .pointer (some ⟨P, 0, none⟩))]) Try.func65 rfl rfl rfl rfl fun Q hQ hE => ?_
 have hB := Chg.refl P w
 have hL0 := hL
 refine Sq fun K1 hK1 => (Rg ?_)
 refine Ge (dx_box (cs := [.pointer (some ⟨P, 0, none⟩)]) rfl rfl rfl) rfl rfl ?_
 rintro _ W2 ⟨rfl, k3, b4, z5⟩
 have n6 : P ≠ w.heap.size := Nat.ne_of_lt hp.lt
 have l7 := hB.size
 replace hp := hp.below b4
 replace hB := Chg.thenB hB b4
 replace hL := LL.more hL z5
 refine Ge (dx_alloc rfl ty_zero_26 rfl) rfl rfl ?_
 rintro _ W8 ⟨rfl, k9, b10, z11⟩
 have n12 : P ≠ W2.heap.size := Nat.ne_of_lt hp.lt
 have l14 := hB.size
 replace hp := hp.below b10
 replace k3 := k3.below b10
 replace hB := Chg.thenB hB b10
 replace hL := LL.more hL z11
 refine Pu rfl (Ni (hK1 (Sq fun K15 hK15 => (Rg (Va (dx_build rfl rfl (built_of_O (cs := [.int .i64 6, .int .i64 0, .string ⟨#[]⟩, .slice none 0 0, .slice none 0 0]) (by kernel_rfl) (oc_cons rfl oc_nil))) rfl rfl ?_)))))
 refine Ge (dx_alloc rfl ty_zero_26 rfl) rfl rfl ?_
 rintro _ W16 ⟨rfl, k17, b18, z19⟩
 have n20 : P ≠ W8.heap.size := Nat.ne_of_lt hp.lt
 have n21 : w.heap.size ≠ W8.heap.size := Nat.ne_of_lt k3.lt
 have n22 : W2.heap.size ≠ W8.heap.size := Nat.ne_of_lt k9.lt
 have l23 := hB.size
 replace hp := hp.below b18
 replace k3 := k3.below b18
 replace k9 := k9.below b18
 replace hB := Chg.thenB hB b18
 replace hL := LL.more hL z19
 refine WL.do (dx_store (cs' := [.int .i64 6, .int .i64 0, .string ⟨#[]⟩, .slice none 0 0, .slice none 0 0]) (vs := [.int .i64 6, .int .i64 0, .string ⟨#[]⟩, .slice none 0 0, .slice none 0 0]) rfl ty_size_26_5 rfl rfl rfl (oc_cons rfl (oc_cons rfl (oc_cons rfl (oc_cons rfl (oc_cons rfl oc_nil))))) k17 rfl (Nat.le_of_ble_eq_true rfl) rfl) rfl ?_
 rintro _ W24 ⟨k26, o25⟩
 replace hp := hp.other o25 n20
 replace k3 := k3.other o25 n21
 replace k9 := k9.other o25 n22
 clear k17
 replace hB := Chg.only hB o25 (.inr l23)
 replace hL := LL.only hL o25
 refine Ni (hK15 (Sq fun K27 hK27 => (Rg (Va (dx_load rfl ty_one_51 rfl (k3.cell (k := 0) rfl)) rfl rfl (Va (dx_func rfl rfl rfl) rfl rfl ?_)))))
 refine Ge (dx_cx rfl Try.func88 rfl rfl rfl (members_v (ObjI n W24.heap.size (w.heap.size) (W8.heap.size) P (W8.heap.size :: W2.heap.size :: w.heap.size :: L)) (FiveE (W8.heap.size)) (pairS s vs) 123 125 _ W24.heap.size (W8.heap.size) ([], []) (fun st => st.1.length) s P ka dp W24 _ hL (.tail _ (.tail _ (.tail _ hPL))) hs (by omega) hp (Nat.le_refl _) objI_five ⟨objI_chg n6.symm n20.symm (.tail _ (.tail _ (.tail _ hPL))), ⟨k3, _, _, [], rfl, List.Pairwise.nil, rfl, k26, hL, .inl ⟨rfl, rfl, rfl, rfl⟩⟩⟩ (Nat.zero_le _) hq (fun W_ L_ k_ st_ h1_ h2_ h3_ h4_ h5_ h6_ h7_ => ⟨90, #[], #[.pointer (some ⟨w.heap.size, 0, none⟩), .pointer (some ⟨W8.heap.size, 0, none⟩)], _, rfl, Try.func90, rfl, rfl, hc W24.heap.size (w.heap.size) (W8.heap.size) P (W8.heap.size :: W2.heap.size :: w.heap.size :: L) k_ st_ W_ (fun x hx => Nat.lt_of_lt_of_le (hL x hx) h3_) (.tail _ (.tail _ (.tail _ hPL))) (.head _) (.tail _ (.tail _ (.head _))) n6.symm n20.symm n21 hL h3_ h4_ h5_ h6_ h7_⟩))) rfl rfl ?_
 rintro _ W53 ⟨(⟨k28, st29, rfl, hm35, hm36, hm37, ⟨hBp50, nv32, iv33, ts34, hm38, hm45, hm46, hV49, hm39⟩, hp54⟩ | ⟨k30, e31, rfl, hm40, hm41, hm42, ⟨cs51, hm43, hm44, hV49⟩, hp54⟩), g52⟩
 ·
  replace hB := ChgV.toChg hB g52 hB.size l23
  replace k9 := k9.chgV g52 k9.lt n12.symm n22
  refine Pu rfl (Ni (hK27 (Sq fun K55 hK55 => (Rg (Va (dx_loadN rfl ty_agg_26_5 rfl hV49.range rfl) rfl rfl (Pu rfl ?_))))))
  refine WL.do (dx_store (cs' := [.int .i64 6, .int .i64 0, .string ⟨#[]⟩, nv32, iv33]) (vs := [.int .i64 6, .int .i64 0, .string ⟨#[]⟩, nv32, iv33]) rfl ty_size_26_5 rfl rfl rfl (oc_cons rfl (oc_cons rfl (oc_cons rfl (oc_cons hm39.one.1 (oc_cons hm39.one.2 oc_nil))))) k9 rfl (Nat.le_of_ble_eq_true rfl) rfl) rfl ?_
  rintro _ W56 ⟨k58, o57⟩
  replace hp54 := hp54.other o57 n12
  clear k9
  replace hm39 := hm39.only o57 (.tail _ (.head _))
  replace hB := Chg.only hB o57 (.inr l14)
  refine Pu rfl (Ni (hK55 ?_))
  exact WC.ret fun a_ ha_ => hQ (cw_ret2 rfl (.agg rfl ty_agg_26_5 k58.range rfl) (.tmp rfl) (.inl ⟨k28, .mk 6 0 ⟨#[]⟩ nv32 st29.1 iv33 ts34, rfl, (by unfold objS; rw [hm35, Tr.er_mk, hm38]), hm39.tree (fun x hx => (.tail _ (.tail _ (.tail _ hx)))) 6 0 ⟨#[]⟩, by omega, by omega, hp54⟩) hB ha_)
 ·
  replace hB := ChgV.toChg hB g52 hB.size l23
  replace k9 := k9.chgV g52 k9.lt n12.symm n22
  refine Pu rfl (Ni (hK27 (Sq fun K59 hK59 => (Rg (Va (dx_loadN (cs := cs51) rfl ty_agg_26_5 rfl hV49.range hm43) rfl rfl (Pu rfl ?_))))))
  refine WL.do (dx_storeW (vs := cs51) rfl ty_size_26_5 rfl rfl rfl hm44 k9 hm43 rfl) rfl ?_
  rintro _ W60 ⟨k62, o61⟩
  replace hp54 := hp54.other o61 n12
  clear k9
  replace hB := Chg.only hB o61 (.inr l14)
  refine Pu rfl (Ni (hK59 ?_))
  exact WC.ret fun a_ ha_ => hQ (cw_ret2 rfl (.agg rfl ty_agg_26_5 k62.range hm43) (.tmp rfl) (.inr ⟨k30, e31, cs51, rfl, hm40, hm43, hm44, (by unfold objS; rw [hm41]), by omega, hp54⟩) hB ha_)

def valD (s : ByteArray) : Nat → Nat → Except Int (Js × Nat)
 | 0 => fun k => valB s 12 (.error 4) (.error 4) k
 | m + 1 => fun k => valB s (12 - (m + 1)) (listS s (valD s m) k) (objS s (valD s m) k) k
theorem val_at (s : ByteArray) (hs : s.size ≤ 1000000) : ∀ m dp, m ≤ 12 → dp + m = 12 → ValAt (m + 1) (valD s m) s dp
 | 0, dp, _, hd => fun P ka w L hL hPL hk hp => by
  obtain rfl : dp = 12 := by omega
  exact value_v 0 (.error 4) (.error 4) s P ka 12 w L hL hPL hs hk hp (Nat.le_refl _) (fun h => absurd rfl h) (fun h => absurd rfl h)
 | m + 1, dp, hm, hd => fun P ka w L hL hPL hk hp => by
  have ih := val_at s hs m (dp + 1) (by omega) (by omega)
  have e : dp = 12 - (m + 1) := by omega
  show CW _ _ _ _ _ fun v W => (∃ k' t, v = .tuple #[.agg #[.int .i64 t.kind, .int .i64 t.num, .string t.text, t.nv, t.iv], .int .i64 0] ∧ valB s (12 - (m + 1)) (listS s (valD s m) ka) (objS s (valD s m) ka) ka = .ok (t.er, k') ∧ RdT (m + 1 + 1) L W t ∧ ka < k' ∧ k' ≤ s.size ∧ Blk W P (psC s k' dp)) ∨ (∃ k' e, v = .tuple #[.agg #[.int .i64 0, .int .i64 0, .string ⟨#[]⟩, .slice none 0 0, .slice none 0 0], .int .i64 e] ∧ e ≠ 0 ∧ valB s (12 - (m + 1)) (listS s (valD s m) ka) (objS s (valD s m) ka) ka = .error e ∧ k' ≤ s.size ∧ Blk W P (psC s k' dp))
  rw [← e]
  exact value_v (m + 1) (listS s (valD s m) ka) (objS s (valD s m) ka) s P ka dp w L hL hPL hs hk hp (by omega)
   (fun _ hq W L' h1 h2 d hd' h4 => by subst hd'; exact list_v (m + 1) (valD s m) s P ka (dp + 1) W L' h1 h2 hs hk h4 hq (one_v m (valD s m) s (dp + 1) hs ih))
   (fun _ hq W L' h1 h2 d hd' h4 => by subst hd'; exact object_v (m + 1) (valD s m) s P ka (dp + 1) W L' h1 h2 hs hk h4 hq (ob1_v (m + 1) (valD s m) s (dp + 1) (pair_v m (valD s m) s (dp + 1) hs ih)))
def parJ (s : ByteArray) : Except Int Js := parS s (valD s 12)
theorem jParse_v (s : ByteArray) (w : World) (L : List Nat) (hL : LL L w) : CV Try.prog 12 [.string s] w fun v W => (∃ t, v = .tuple #[.agg #[.int .i64 t.kind, .int .i64 t.num, .string t.text, t.nv, t.iv], .int .i64 0] ∧ parJ s = .ok t.er ∧ RdT 13 L W t) ∨ (∃ e, v = .tuple #[.agg #[.int .i64 0, .int .i64 0, .string ⟨#[]⟩, .slice none 0 0, .slice none 0 0], .int .i64 e] ∧ e ≠ 0 ∧ parJ s = .error e) :=
 parse_v 12 (valD s 12) s w L hL (fun h dq hd => by subst hd; exact val_at s (by omega) 12 0 (by omega) rfl)
def stN (q : Nat) (c : Int) : Nat := if q = 2 then 1 else if q = 1 then (if c = 92 then 2 else if c = 34 then 0 else 1) else if c = 34 then 1 else 0
def isSign (c : Int) : Bool := decide (c = 91) || (decide (c = 93) || (decide (c = 123) || (decide (c = 125) || (decide (c = 44) || decide (c = 58)))))
structure Wide (s t : ByteArray) (st pos : Nat → Nat) : Prop where
 at_ : ∀ k, k < s.size → pos k < t.size ∧ atS t (pos k) = atS s k
 fin : pos s.size = t.size
 blank : ∀ k j, k < s.size → pos k < j → j < pos (k + 1) → isBlank (atS t j) = true
 lead : ∀ j, j < pos 0 → isBlank (atS t j) = true
 le : ∀ k, k < s.size → pos k < pos (k + 1)
 near : ∀ k, k < s.size → pos (k + 1) = pos k + 1 ∨ (st k = 0 ∧ isSign (atS s k) = true) ∨ (k + 1 < s.size ∧ st (k + 1) = 0 ∧ isSign (atS s (k + 1)) = true)
 s0 : st 0 = 0
 step : ∀ k, k < s.size → st (k + 1) = stN (st k) (atS s k)
def RO {α : Type} (R : Nat → Nat → Prop) : Option (α × Nat) → Option (α × Nat) → Prop
 | none, none => True
 | some (a, k), some (b, j) => a = b ∧ R k j
 | _, _ => False
def RX {α : Type} (R : Nat → Nat → Prop) : Except Int (α × Nat) → Except Int (α × Nat) → Prop
 | .error d, .error e => d = e
 | .ok (a, k), .ok (b, j) => a = b ∧ R k j
 | _, _ => False
theorem RO.mono {α : Type} {R R' : Nat → Nat → Prop} {x y : Option (α × Nat)} (h : RO R x y) (hr : ∀ k j, R k j → R' k j) : RO R' x y := by
 match x, y, h with
 | none, none, _ => trivial
 | some (a, k), some (b, j), h => exact ⟨h.1, hr k j h.2⟩
theorem RX.mono {α : Type} {R R' : Nat → Nat → Prop} {x y : Except Int (α × Nat)} (h : RX R x y) (hr : ∀ k j, R k j → R' k j) : RX R' x y := by
 match x, y, h with
 | .error d, .error e, h => exact h
 | .ok (a, k), .ok (b, j), h => exact ⟨h.1, hr k j h.2⟩
theorem RO.cases {α : Type} {R : Nat → Nat → Prop} {x y : Option (α × Nat)} (h : RO R x y) : (x = none ∧ y = none) ∨ ∃ a k j, x = some (a, k) ∧ y = some (a, j) ∧ R k j := by
 match x, y, h with
 | none, none, _ => exact .inl ⟨rfl, rfl⟩
 | some (a, k), some (b, j), h => obtain ⟨rfl, h⟩ := h; exact .inr ⟨a, k, j, rfl, rfl, h⟩
theorem RX.cases {α : Type} {R : Nat → Nat → Prop} {x y : Except Int (α × Nat)} (h : RX R x y) : (∃ e, x = .error e ∧ y = .error e) ∨ ∃ a k j, x = .ok (a, k) ∧ y = .ok (a, j) ∧ R k j := by
 match x, y, h with
 | .error d, .error e, h => obtain rfl : d = e := h; exact .inl ⟨d, rfl, rfl⟩
 | .ok (a, k), .ok (b, j), h => obtain ⟨rfl, h⟩ := h; exact .inr ⟨a, k, j, rfl, rfl, h⟩
section
variable {s t : ByteArray} {st pos : Nat → Nat}
def GWd (s t : ByteArray) (st pos : Nat → Nat) (k j : Nat) : Prop := k ≤ s.size ∧ st k = 0 ∧ j ≤ pos k ∧ ∀ i, j ≤ i → i < pos k → isBlank (atS t i) = true
def FWd (s t : ByteArray) (st pos : Nat → Nat) (k j : Nat) : Prop := GWd s t st pos k j ∧ (j = pos k ∨ (k < s.size ∧ isSign (atS s k) = true))
theorem Wide.posle (h : Wide s t st pos) {k : Nat} (hk : k ≤ s.size) : pos k ≤ t.size := by
 rcases Nat.lt_or_eq_of_le hk with h1 | rfl
 · exact Nat.le_of_lt (h.at_ k h1).1
 · rw [h.fin]; exact Nat.le_refl _
theorem Wide.lt (h : Wide s t st pos) {k : Nat} (hk : k ≤ s.size) : k < s.size ↔ pos k < t.size := by
  constructor
  · exact fun h1 => (h.at_ k h1).1
  · intro h1
    rcases Nat.lt_or_eq_of_le hk with h2 | rfl
    · exact h2
    · rw [h.fin] at h1; omega
theorem sign_no34 {c : Int} (h : isSign c = true) : c ≠ 34 := by
 rintro rfl; revert h; decide
theorem Wide.next (h : Wide s t st pos) {k : Nat} (hk : k < s.size) (h0 : st k = 0) (hc : atS s k ≠ 34) : GWd s t st pos (k + 1) (pos k + 1) := by
 refine ⟨hk, ?_, h.le k hk, fun i h1 h2 => h.blank k i hk h1 h2⟩
 rw [h.step k hk, h0]; unfold stN
 rw [if_neg (by decide), if_neg (by decide), if_neg hc]
theorem Wide.nextF (h : Wide s t st pos) {k : Nat} (hk : k < s.size) (h0 : st k = 0) (hc : atS s k ≠ 34) (hs : isSign (atS s k) = false) : FWd s t st pos (k + 1) (pos k + 1) := by
 refine ⟨h.next hk h0 hc, ?_⟩
 rcases h.near k hk with h1 | ⟨_, h1⟩ | ⟨h1, h2, h3⟩
 · exact .inl h1.symm
 · rw [hs] at h1; cases h1
 · exact .inr ⟨h1, h3⟩
theorem Wide.exact (h : Wide s t st pos) {k : Nat} (hk : k ≤ s.size) (h0 : st k = 0) : GWd s t st pos k (pos k) := ⟨hk, h0, Nat.le_refl _, fun i h1 h2 => by omega⟩
theorem Wide.exactF (h : Wide s t st pos) {k : Nat} (hk : k ≤ s.size) (h0 : st k = 0) : FWd s t st pos k (pos k) := ⟨h.exact hk h0, .inl rfl⟩
theorem Wide.start (h : Wide s t st pos) : GWd s t st pos 0 0 := ⟨Nat.zero_le _, h.s0, Nat.zero_le _, fun i _ h2 => h.lead i h2⟩
theorem blank_over (t : ByteArray) : ∀ (n j m : Nat), m - j = n → j ≤ m → m ≤ t.size → (∀ i, j ≤ i → i < m → isBlank (atS t i) = true) → blankS t j = blankS t m
 | 0, j, m, h1, h2, _, _ => by rw [show j = m by omega]
 | n + 1, j, m, h1, h2, h3, h4 => by
  rw [blank_go (by omega) (h4 j (Nat.le_refl _) (by omega))]
  exact blank_over t n (j + 1) m (by omega) (by omega) h3 (fun i h5 h6 => h4 i (by omega) h6)
theorem Wide.blanks (h : Wide s t st pos) : ∀ (n k j : Nat), s.size - k = n → GWd s t st pos k j → blankS t j = pos (blankS s k) ∧ blankS s k ≤ s.size ∧ st (blankS s k) = 0 ∧ k ≤ blankS s k ∧ j ≤ pos (blankS s k)
  | n, k, j, hn, ⟨h1, h2, h3, h4⟩ => by
    have e := blank_over t _ j (pos k) rfl h3 (h.posle h1) h4
    rw [e]
    by_cases hb : k < s.size ∧ isBlank (atS s k) = true
    · have ha := h.at_ k hb.1
      have hne : atS s k ≠ 34 := by rintro e; rw [e] at hb; exact absurd hb.2 (by decide)
      rw [blank_go ha.1 (by rw [ha.2]; exact hb.2), blank_go hb.1 hb.2]
      have := h.blanks (s.size - (k + 1)) (k + 1) (pos k + 1) rfl (h.next hb.1 h2 hne)
      omega
    · rw [blank_stop hb, blank_stop (fun ⟨q1, q2⟩ => by
        have q3 := (h.lt h1).2 q1
        rw [(h.at_ k q3).2] at q2
        exact hb ⟨q3, q2⟩)]
      exact ⟨rfl, h1, h2, Nat.le_refl _, h3⟩
termination_by n k j => s.size - k
decreasing_by have := hb.1; omega
theorem Wide.take (h : Wide s t st pos) {k : Nat} (hk : k ≤ s.size) (c : Int) : takeS t (pos k) c = takeS s k c := by
  unfold takeS
  by_cases h1 : k < s.size
  · have := h.at_ k h1
    rw [decide_eq_true h1, decide_eq_true this.1, this.2]
  · rw [decide_eq_false h1, decide_eq_false (fun h2 => h1 ((h.lt hk).2 h2)), Bool.false_and, Bool.false_and]
theorem take_tt {s : ByteArray} {k : Nat} {c : Int} (h : takeS s k c = true) : k < s.size ∧ atS s k = c := by
 unfold takeS at h
 rw [Bool.and_eq_true, decide_eq_true_eq, decide_eq_true_eq] at h
 exact h
theorem Wide.test (h : Wide s t st pos) {k j : Nat} (hf : FWd s t st pos k j) {p : Int → Prop} (h1 : ∀ c, p c → isSign c = false) (h2 : ∀ c, p c → isBlank c = false) : (j < t.size ∧ p (atS t j)) ↔ (k < s.size ∧ p (atS s k)) := by
  obtain ⟨⟨g1, g2, g3, g4⟩, rfl | ⟨q1, q2⟩⟩ := hf
  · constructor
    · rintro ⟨a, b⟩
      have c := (h.lt g1).2 a
      exact ⟨c, (h.at_ k c).2 ▸ b⟩
    · rintro ⟨a, b⟩
      exact ⟨(h.at_ k a).1, (h.at_ k a).2.symm ▸ b⟩
  · rcases Nat.lt_or_eq_of_le g3 with g5 | rfl
    · constructor
      · rintro ⟨a, b⟩
        have := h2 _ b
        rw [g4 j (Nat.le_refl _) g5] at this; cases this
      · rintro ⟨a, b⟩
        have := h1 _ b
        rw [q2] at this; cases this
    · constructor
      · rintro ⟨a, b⟩
        exact ⟨q1, (h.at_ k q1).2 ▸ b⟩
      · rintro ⟨a, b⟩
        exact ⟨(h.at_ k a).1, (h.at_ k a).2.symm ▸ b⟩
theorem Wide.tok (h : Wide s t st pos) {k j : Nat} (hf : FWd s t st pos k j) (hk : k < s.size) (h1 : isSign (atS s k) = false) (h3 : atS s k ≠ 34) : j = pos k ∧ j < t.size ∧ atS t j = atS s k ∧ FWd s t st pos (k + 1) (j + 1) := by
 obtain ⟨⟨g1, g2, g3, g4⟩, rfl | ⟨q1, q2⟩⟩ := hf
 · exact ⟨rfl, (h.at_ k hk).1, (h.at_ k hk).2, h.nextF hk g2 h3 h1⟩
 · rw [h1] at q2; cases q2
theorem Wide.takeF (h : Wide s t st pos) {k j : Nat} (hf : FWd s t st pos k j) {c : Int} (h1 : isSign c = false) (h2 : isBlank c = false) : takeS t j c = takeS s k c := by
 have := h.test hf (p := fun x => x = c) (fun _ e => e ▸ h1) (fun _ e => e ▸ h2)
 unfold takeS
 rw [Bool.eq_iff_iff, Bool.and_eq_true, Bool.and_eq_true, decide_eq_true_eq, decide_eq_true_eq, decide_eq_true_eq, decide_eq_true_eq]
 exact this
-- words
theorem Wide.wordN (h : Wide s t st pos) {k j : Nat} (hf : FWd s t st pos k j) (w : ByteArray) (hw : ∀ i, i < w.size → isSign (atS w i) = false ∧ isBlank (atS w i) = false ∧ atS w i ≠ 34) : ∀ n, n ≤ w.size → ((∀ i, i < n → takeS s (k + i) (atS w i) = true) ↔ (∀ i, i < n → takeS t (j + i) (atS w i) = true)) ∧ ((∀ i, i < n → takeS s (k + i) (atS w i) = true) → FWd s t st pos (k + n) (j + n))
  | 0, _ => ⟨⟨fun _ i hi => by omega, fun _ i hi => by omega⟩, fun _ => hf⟩
  | n + 1, hn => by
    obtain ⟨h1, h2⟩ := h.wordN hf w hw n (by omega)
    obtain ⟨w1, w2, w3⟩ := hw n (by omega)
    refine ⟨⟨fun ha i hi => ?_, fun ha i hi => ?_⟩, fun ha => ?_⟩
    · have hb : ∀ i, i < n → takeS s (k + i) (atS w i) = true := fun i hi => ha i (by omega)
      rcases Nat.lt_or_eq_of_le (Nat.lt_succ_iff.1 hi) with h3 | rfl
      · exact h1.1 hb i h3
      · rw [h.takeF (h2 hb) w1 w2]; exact ha i hi
    · have hb : ∀ i, i < n → takeS s (k + i) (atS w i) = true := h1.2 fun i hi => ha i (by omega)
      rcases Nat.lt_or_eq_of_le (Nat.lt_succ_iff.1 hi) with h3 | rfl
      · exact hb i h3
      · rw [← h.takeF (h2 hb) w1 w2]; exact ha i hi
    · have hb : ∀ i, i < n → takeS s (k + i) (atS w i) = true := fun i hi => ha i (by omega)
      obtain ⟨a, b⟩ := take_tt (ha n (by omega))
      exact (h.tok (h2 hb) a (b ▸ w1) (b ▸ w3)).2.2.2
theorem Wide.word (h : Wide s t st pos) {k j : Nat} (hf : FWd s t st pos k j) (w : ByteArray) (kd : Int) (hw : ∀ i, i < w.size → isSign (atS w i) = false ∧ isBlank (atS w i) = false ∧ atS w i ≠ 34) : RX (fun a b => FWd s t st pos a b ∧ k ≤ a ∧ j ≤ b) (wordR s w kd k) (wordR t w kd j) := by
 obtain ⟨h1, h2⟩ := h.wordN hf w hw w.size (Nat.le_refl _)
 have e : wordS s w k = wordS t w j := by
  unfold wordS
  rw [Bool.eq_iff_iff, List.all_eq_true, List.all_eq_true]
  simpa only [List.mem_range] using h1
 unfold wordR
 rw [← e]
 cases hq : wordS s w k with
 | false => exact rfl
 | true =>
  rw [if_pos rfl, if_pos rfl]
  unfold wordS at hq
  rw [List.all_eq_true] at hq
  exact ⟨rfl, h2 (fun i hi => hq i (List.mem_range.2 hi)), by omega, by omega⟩
-- numbers
theorem dig_sign {c : Int} (h : isDig c = true) : isSign c = false ∧ isBlank c = false ∧ c ≠ 34 := by
 unfold isDig at h
 rw [Bool.and_eq_true, decide_eq_true_eq, decide_eq_true_eq] at h
 refine ⟨?_, ?_, by omega⟩
 · unfold isSign; simp; omega
 · unfold isBlank; simp; omega
theorem Wide.dig (h : Wide s t st pos) : ∀ (n k j : Nat), s.size - k = n → FWd s t st pos k j → FWd s t st pos (digS s k) (digS t j) ∧ (∃ m, digS s k = k + m ∧ digS t j = j + m ∧ ∀ i, i < m → atS t (j + i) = atS s (k + i))
  | n, k, j, hn, hf => by
    have ht := h.test hf (p := fun c => isDig c = true) (fun c hc => (dig_sign hc).1) (fun c hc => (dig_sign hc).2.1)
    by_cases hd : k < s.size ∧ isDig (atS s k) = true
    · obtain ⟨d1, d2, d3⟩ := dig_sign hd.2
      obtain ⟨q1, q2, q3, q4⟩ := h.tok hf hd.1 d1 d3
      have hd2 := ht.2 hd
      rw [dig_go hd.1 hd.2, dig_go hd2.1 hd2.2]
      obtain ⟨r1, m, r2, r3, r4⟩ := h.dig (s.size - (k + 1)) (k + 1) (j + 1) rfl q4
      refine ⟨r1, m + 1, by omega, by omega, fun i hi => ?_⟩
      cases i with
      | zero => exact q3
      | succ i => have := r4 i (by omega); rw [show j + (i + 1) = j + 1 + i by omega, show k + (i + 1) = k + 1 + i by omega]; exact this
    · rw [dig_stop hd, dig_stop (fun q => hd (ht.1 q))]
      exact ⟨hf, 0, rfl, rfl, fun i hi => by omega⟩
termination_by n k j => s.size - k
decreasing_by have := hd.1; omega
theorem acc_same (s t : ByteArray) : ∀ (i k j : Nat) (n : Int), (∀ q, q < i → atS t (j + q) = atS s (k + q)) → accN t i j n = accN s i k n
 | 0, k, j, n, _ => rfl
 | i + 1, k, j, n, h => by
  have e : atS t j = atS s k := h 0 (by omega)
  have ih := fun n => acc_same s t i (k + 1) (j + 1) n fun q hq => by have := h (q + 1) (by omega); rw [show j + 1 + q = j + (q + 1) by omega, show k + 1 + q = k + (q + 1) by omega]; exact this
  rw [accN, accN, e, ih]
theorem Wide.numT2 (h : Wide s t st pos) {k j : Nat} (hf : FWd s t st pos k j) (m : Bool) : RX (fun a b => FWd s t st pos a b ∧ k ≤ a ∧ j ≤ b) (numT s m k) (numT t m j) := by
  have h48 := h.test hf (p := fun c => c = 48) (fun c hc => by subst hc; decide) (fun c hc => by subst hc; decide)
  unfold numT
  by_cases hz : k < s.size ∧ atS s k = 48
  · rw [if_pos hz, if_pos (h48.2 hz)]
    cases m with
    | true => exact rfl
    | false => exact ⟨rfl, (h.tok hf hz.1 (by rw [hz.2]; decide) (by rw [hz.2]; decide)).2.2.2, by omega, by omega⟩
  · rw [if_neg hz, if_neg (fun q => hz (h48.1 q))]
    obtain ⟨r1, n, r2, r3, r4⟩ := h.dig _ k j rfl hf
    rw [r2, r3] at r1 ⊢
    by_cases hn : n = 0
    · rw [if_pos (by omega), if_pos (by omega)]; exact rfl
    · rw [if_neg (by omega), if_neg (by omega), show j + n - j = n by omega, show k + n - k = n by omega, acc_same s t n k j 0 r4]
      cases accN s n k 0 with
      | none => exact rfl
      | some v => exact ⟨rfl, r1, by omega, by omega⟩
theorem Wide.num (h : Wide s t st pos) {k j : Nat} (hf : FWd s t st pos k j) : RX (fun a b => FWd s t st pos a b ∧ k ≤ a ∧ j ≤ b) (numR s k) (numR t j) := by
 have q : RX (fun a b => FWd s t st pos a b ∧ k ≤ a ∧ j ≤ b) (numS s k) (numS t j) := by
  unfold numS
  rw [h.takeF hf (c := 45) (by decide) (by decide)]
  cases hq : takeS s k 45 with
  | false => exact h.numT2 hf false
  | true =>
   obtain ⟨a, b⟩ := take_tt hq
   exact (h.numT2 (h.tok hf a (by rw [b]; decide) (by rw [b]; decide)).2.2.2 true).mono fun a b ⟨x, y, z⟩ => ⟨x, by omega, by omega⟩
 unfold numR
 rcases q.cases with ⟨e, h1, h2⟩ | ⟨a, k', j', h1, h2, h3⟩
 · rw [h1, h2]; exact rfl
 · rw [h1, h2]; exact ⟨rfl, h3⟩
-- within a text
def ZWd (s : ByteArray) (st pos : Nat → Nat) (k j : Nat) : Prop := k ≤ s.size ∧ st k ≠ 0 ∧ j = pos k
theorem Wide.zlt (h : Wide s t st pos) {k j : Nat} (hz : ZWd s st pos k j) : (j < t.size ↔ k < s.size) ∧ (k < s.size → atS t j = atS s k) := by
 obtain ⟨a, b, rfl⟩ := hz
 exact ⟨(h.lt a).symm, fun q => (h.at_ k q).2⟩
theorem Wide.znext (h : Wide s t st pos) {k j : Nat} (hz : ZWd s st pos k j) (hk : k < s.size) (hn : stN (st k) (atS s k) ≠ 0) : ZWd s st pos (k + 1) (j + 1) := by
 obtain ⟨a, b, rfl⟩ := hz
 have e := h.step k hk
 refine ⟨hk, e ▸ hn, ?_⟩
 rcases h.near k hk with h1 | ⟨h1, _⟩ | ⟨_, h1, _⟩
 · exact h1.symm
 · exact absurd h1 b
 · exact absurd (e ▸ h1) hn
theorem st1 {c : Int} (h1 : c ≠ 34) (h2 : c ≠ 92) : stN 1 c = 1 := by unfold stN; rw [if_neg (by decide), if_pos rfl, if_neg h2, if_neg h1]
theorem hexD_no {c : Int} (h : 0 ≤ hexD c) : c ≠ 34 ∧ c ≠ 92 := by
 unfold hexD at h
 constructor <;> rintro rfl <;> revert h <;> decide
theorem Wide.four (h : Wide s t st pos) : ∀ (n k j : Nat) (r : Int), ZWd s st pos k j → st k = 1 → fourN t n j r = fourN s n k r ∧ (fourN s n k r ≠ none → ZWd s st pos (k + n) (j + n) ∧ st (k + n) = 1)
  | 0, k, j, r, hz, h1 => ⟨rfl, fun _ => ⟨hz, h1⟩⟩
  | n + 1, k, j, r, hz, h1 => by
    obtain ⟨a, b⟩ := h.zlt hz
    rw [fourN, fourN]
    by_cases hk : k < s.size
    · rw [decide_eq_true hk, decide_eq_true (a.2 hk), b hk]
      by_cases hx : 0 ≤ hexD (atS s k)
      · rw [decide_eq_true hx, Bool.and_self, if_pos rfl, if_pos rfl]
        obtain ⟨x1, x2⟩ := hexD_no hx
        have hs : stN (st k) (atS s k) = 1 := by rw [h1]; exact st1 x1 x2
        have := h.four n (k + 1) (j + 1) (r * 16 + hexD (atS s k)) (h.znext hz hk (by rw [hs]; decide)) (by rw [h.step k hk]; exact hs)
        rw [show k + (n + 1) = k + 1 + n by omega, show j + (n + 1) = j + 1 + n by omega]
        exact this
      · rw [decide_eq_false hx, Bool.and_false, if_neg (by decide), if_neg (by decide)]
        exact ⟨rfl, fun q => absurd rfl q⟩
    · rw [decide_eq_false hk, decide_eq_false (fun q => hk (a.1 q)), Bool.false_and, Bool.false_and, if_neg (by decide), if_neg (by decide)]
      exact ⟨rfl, fun q => absurd rfl q⟩
theorem Wide.takeZ (h : Wide s t st pos) {k j : Nat} (hz : ZWd s st pos k j) (c : Int) : takeS t j c = takeS s k c := by
 obtain ⟨a, b, rfl⟩ := hz
 exact h.take a c
theorem Wide.escR2 (h : Wide s t st pos) {k j : Nat} (hz : ZWd s st pos k j) (h1 : st k = 1) : RO (fun a b => ZWd s st pos a b ∧ st a = 1 ∧ k ≤ a ∧ j ≤ b) (escR s k) (escR t j) := by
  obtain ⟨a, b⟩ := h.four 4 k j 0 hz h1
  unfold escR fourS
  rw [a]
  cases hq : fourN s 4 k 0 with
  | none => trivial
  | some r =>
    obtain ⟨z4, s4⟩ := b (by rw [hq]; exact fun q => by cases q)
    dsimp only
    by_cases hr : r < 55296 ∨ 56319 < r
    · rw [if_pos hr, if_pos hr]; exact ⟨rfl, z4, s4, by omega, by omega⟩
    · rw [if_neg hr, if_neg hr, h.takeZ z4]
      cases q1 : takeS s (k + 4) 92 with
      | false => rw [Bool.false_and, Bool.false_and, if_neg (by decide), if_neg (by decide)]; trivial
      | true =>
        obtain ⟨l4, c4⟩ := take_tt q1
        have e5 : stN (st (k + 4)) (atS s (k + 4)) = 2 := by rw [s4, c4]; rfl
        have z5 := h.znext z4 l4 (by rw [e5]; decide)
        have s5 : st (k + 5) = 2 := by rw [h.step _ l4]; exact e5
        rw [Bool.true_and, Bool.true_and, h.takeZ z5]
        cases q2 : takeS s (k + 5) 117 with
        | false => rw [if_neg (by decide), if_neg (by decide)]; trivial
        | true =>
          obtain ⟨l5, c5⟩ := take_tt q2
          have e6 : stN (st (k + 5)) (atS s (k + 5)) = 1 := by rw [s5]; rfl
          have z6 := h.znext z5 l5 (by rw [e6]; decide)
          have s6 : st (k + 6) = 1 := by rw [h.step _ l5]; exact e6
          rw [if_pos rfl, if_pos rfl]
          obtain ⟨a6, b6⟩ := h.four 4 (k + 6) (j + 6) 0 z6 s6
          rw [a6]
          cases hq6 : fourN s 4 (k + 6) 0 with
          | none => trivial
          | some q =>
            obtain ⟨z10, s10⟩ := b6 (by rw [hq6]; exact fun q => by cases q)
            dsimp only
            by_cases hr2 : q < 56320 ∨ 57343 < q
            · rw [if_pos hr2, if_pos hr2]; trivial
            · rw [if_neg hr2, if_neg hr2]; exact ⟨rfl, z10, s10, by omega, by omega⟩
theorem Wide.escB2 (h : Wide s t st pos) {k j : Nat} (hz : ZWd s st pos k j) (h1 : st k = 2) : RO (fun a b => ZWd s st pos a b ∧ st a = 1 ∧ k ≤ a ∧ j ≤ b) (escB s k) (escB t j) := by
  obtain ⟨a, b⟩ := h.zlt hz
  unfold escB
  rw [h.takeZ hz]
  have nx : k < s.size → ZWd s st pos (k + 1) (j + 1) ∧ st (k + 1) = 1 := fun hk => ⟨h.znext hz hk (by rw [h1]; exact Nat.one_ne_zero), by rw [h.step k hk, h1]; rfl⟩
  cases q : takeS s k 117 with
  | true =>
    obtain ⟨l, c⟩ := take_tt q
    rw [if_pos rfl, if_pos rfl]
    have := h.escR2 (nx l).1 (nx l).2
    rcases this.cases with ⟨x, y⟩ | ⟨r, k', j', x, y, z1, z2, z3, z4⟩
    · rw [x, y]; trivial
    · rw [x, y]
      dsimp only
      cases isRuneB r with
      | false => trivial
      | true => exact ⟨rfl, z1, z2, by omega, by omega⟩
  | false =>
    simp only [Bool.false_eq_true, if_false]
    by_cases hk : k < s.size
    · rw [if_pos hk, if_pos (a.2 hk), b hk]
      have n1 := nx hk
      have fin : ∀ v : List Int, RO (fun a b => ZWd s st pos a b ∧ st a = 1 ∧ k ≤ a ∧ j ≤ b) (some (v, k + 1)) (some (v, j + 1)) := fun v => ⟨rfl, n1.1, n1.2, by omega, by omega⟩
      repeat' split
      all_goals first | exact fin _ | trivial
    · rw [if_neg hk, if_neg (fun q => hk (a.1 q))]; trivial
theorem Wide.qN2 (h : Wide s t st pos) : ∀ (f f' k j : Nat) (out : List Int), s.size - k < f → t.size - j < f' → ZWd s st pos k j → st k = 1 → RO (fun a b => FWd s t st pos a b ∧ k ≤ a ∧ j ≤ b) (qN s f k out) (qN t f' j out)
  | 0, _, k, j, out, h1, _, _, _ => by omega
  | _ + 1, 0, k, j, out, _, h2, _, _ => by omega
  | f + 1, f' + 1, k, j, out, h1, h2, hz, hs => by
    obtain ⟨a, b⟩ := h.zlt hz
    rw [qN, qN]
    by_cases hk : k < s.size
    · have hj := a.2 hk
      rw [if_pos hk, if_pos hj, b hk]
      by_cases c1 : atS s k < 32
      · rw [if_pos c1, if_pos c1]; trivial
      rw [if_neg c1, if_neg c1]
      by_cases c2 : atS s k = 34
      · rw [if_pos c2, if_pos c2]
        refine ⟨rfl, ?_, by omega, by omega⟩
        obtain ⟨z1, z2, rfl⟩ := hz
        have e : st (k + 1) = 0 := by rw [h.step k hk, hs, c2]; rfl
        refine ⟨⟨hk, e, h.le k hk, fun i q1 q2 => h.blank k i hk q1 q2⟩, ?_⟩
        rcases h.near k hk with h3 | ⟨h3, _⟩ | ⟨h3, _, h4⟩
        · exact .inl h3.symm
        · exact absurd h3 z2
        · exact .inr ⟨h3, h4⟩
      rw [if_neg c2, if_neg c2]
      by_cases c3 : atS s k = 92
      · rw [if_pos c3, if_pos c3]
        have e : stN (st k) (atS s k) = 2 := by rw [hs, c3]; rfl
        have z1 := h.znext hz hk (by rw [e]; decide)
        have s1 : st (k + 1) = 2 := by rw [h.step k hk]; exact e
        rcases (h.escB2 z1 s1).cases with ⟨x, y⟩ | ⟨l, k', j', x, y, z3, z4, z5, z6⟩
        · rw [x, y]; trivial
        · rw [x, y]
          exact (h.qN2 f f' k' j' (out ++ l) (by omega) (by omega) z3 z4).mono fun a b ⟨q1, q2, q3⟩ => ⟨q1, by omega, by omega⟩
      · rw [if_neg c3, if_neg c3]
        have e : stN (st k) (atS s k) = 1 := by rw [hs]; exact st1 c2 c3
        exact (h.qN2 f f' (k + 1) (j + 1) _ (by omega) (by omega) (h.znext hz hk (by rw [e]; decide)) (by rw [h.step k hk]; exact e)).mono fun a b ⟨q1, q2, q3⟩ => ⟨q1, by omega, by omega⟩
    · rw [if_neg hk, if_neg (fun q => hk (a.1 q))]; trivial
theorem Wide.quo (h : Wide s t st pos) {k : Nat} (hk : k < s.size) (h0 : st k = 0) (hc : atS s k = 34) : RO (fun a b => FWd s t st pos a b ∧ k ≤ a ∧ pos k ≤ b) (quoS s k) (quoS t (pos k)) := by
 have e : st (k + 1) = 1 := by rw [h.step k hk, h0, hc]; rfl
 have hp : pos (k + 1) = pos k + 1 := by
  rcases h.near k hk with h1 | ⟨_, h1⟩ | ⟨_, h1, _⟩
  · exact h1
  · exact absurd hc (sign_no34 h1)
  · rw [e] at h1; cases h1
 exact (h.qN2 (s.size + 1) (t.size + 1) (k + 1) (pos k + 1) [] (by omega) (by omega) ⟨hk, by rw [e]; decide, hp.symm⟩ e).mono fun a b ⟨q1, q2, q3⟩ => ⟨q1, by omega, by omega⟩
-- what stands between two brackets
def GGWd (s t : ByteArray) (st pos : Nat → Nat) (k j a b : Nat) : Prop := GWd s t st pos a b ∧ k ≤ a ∧ j ≤ b
theorem Wide.sgn (h : Wide s t st pos) {k : Nat} (h0 : st k = 0) {c : Int} (ht : takeS s k c = true) (hc : c ≠ 34) : GWd s t st pos (k + 1) (pos k + 1) := by
 obtain ⟨a, b⟩ := take_tt ht
 exact h.next a h0 (by rw [b]; exact hc)
theorem Wide.memL2 (h : Wide s t st pos) {σ : Type} {one one' : Nat → σ → Except Int (σ × Nat)} {la : Int} (hla : la ≠ 34) (H : ∀ k x, k ≤ s.size → st k = 0 → RX (GGWd s t st pos k (pos k)) (one k x) (one' (pos k) x)) : ∀ (f f' k j : Nat) (x : σ), s.size - k < f → t.size - j < f' → GWd s t st pos k j → RX (GGWd s t st pos k j) (memL s one la f k x) (memL t one' la f' j x)
  | 0, _, k, j, x, h1, _, _ => by omega
  | _ + 1, 0, k, j, x, _, h2, _ => by omega
  | f + 1, f' + 1, k, j, x, h1, h2, hg => by
    obtain ⟨b1, b2, b3, b4, b5⟩ := h.blanks _ k j rfl hg
    rw [memL, memL, b1]
    rcases (H (blankS s k) x b2 b3).cases with ⟨e, x1, x2⟩ | ⟨y, k2, j2, x1, x2, g, g2, g3⟩
    · rw [x1, x2]; exact rfl
    · rw [x1, x2]
      dsimp only
      obtain ⟨d1, d2, d3, d4, d5⟩ := h.blanks _ k2 j2 rfl g
      rw [d1, h.take d2, h.take d2]
      cases q1 : takeS s (blankS s k2) la with
      | true => rw [if_pos rfl, if_pos rfl]; exact ⟨rfl, h.sgn d3 q1 hla, by omega, by omega⟩
      | false =>
        simp only [Bool.false_eq_true, if_false]
        cases q2 : takeS s (blankS s k2) 44 with
        | false => exact rfl
        | true =>
          rw [if_pos rfl, if_pos rfl]
          have l1 := (take_tt q2).1
          have l2 : pos (blankS s k2 + 1) ≤ t.size := h.posle (show blankS s k2 + 1 ≤ s.size from l1)
          have l3 := h.le _ l1
          exact (h.memL2 hla H f f' _ _ y (by omega) (by omega) (h.sgn d3 q2 (by decide))).mono fun a b ⟨q1, q2, q3⟩ => ⟨q1, by omega, by omega⟩
theorem Wide.memS2 (h : Wide s t st pos) {σ : Type} {one one' : Nat → σ → Except Int (σ × Nat)} {la : Int} (hla : la ≠ 34) (H : ∀ k x, k ≤ s.size → st k = 0 → RX (GGWd s t st pos k (pos k)) (one k x) (one' (pos k) x)) {k : Nat} (hk : k < s.size) (h0 : st k = 0) (hc : atS s k ≠ 34) (x : σ) : RX (GGWd s t st pos k (pos k)) (memS s one la k x) (memS t one' la (pos k) x) := by
 obtain ⟨b1, b2, b3, b4, b5⟩ := h.blanks _ _ _ rfl (h.next hk h0 hc)
 unfold memS
 rw [b1, h.take b2]
 cases q1 : takeS s (blankS s (k + 1)) la with
 | true => rw [if_pos rfl, if_pos rfl]; exact ⟨rfl, h.sgn b3 q1 hla, by omega, by omega⟩
 | false =>
  rw [if_neg (by decide), if_neg (by decide)]
  exact (h.memL2 hla H (s.size + 1) (t.size + 1) _ _ x (by omega) (by omega) (h.exact b2 b3)).mono fun a b ⟨q1, q2, q3⟩ => ⟨q1, by omega, by omega⟩
abbrev VWd (s t : ByteArray) (st pos : Nat → Nat) (vs vs' : Nat → Except Int (Js × Nat)) : Prop := ∀ k, k ≤ s.size → st k = 0 → RX (GGWd s t st pos k (pos k)) (vs k) (vs' (pos k))
theorem Wide.list (h : Wide s t st pos) {vs vs' : Nat → Except Int (Js × Nat)} (hv : VWd s t st pos vs vs') {k : Nat} (hk : k < s.size) (h0 : st k = 0) (hc : atS s k ≠ 34) : RX (GGWd s t st pos k (pos k)) (listS s vs k) (listS t vs' (pos k)) := by
 have := h.memS2 (one := oneL vs) (one' := oneL vs') (la := 93) (by decide) (fun k x hk h0 => by
  unfold oneL
  rcases (hv k hk h0).cases with ⟨e, x1, x2⟩ | ⟨y, k2, j2, x1, x2, g⟩
  · rw [x1, x2]; exact rfl
  · rw [x1, x2]; exact ⟨rfl, g⟩) hk h0 hc []
 unfold listS
 rcases this.cases with ⟨e, x1, x2⟩ | ⟨y, k2, j2, x1, x2, g⟩
 · rw [x1, x2]; exact rfl
 · rw [x1, x2]; exact ⟨rfl, g⟩
theorem Wide.pairN2 (h : Wide s t st pos) {vs vs' : Nat → Except Int (Js × Nat)} (hv : VWd s t st pos vs vs') (nm : ByteArray) {k j : Nat} (hg : GWd s t st pos k j) (x : StO) : RX (GGWd s t st pos k j) (pairN s vs nm k x) (pairN t vs' nm j x) := by
  unfold pairN
  by_cases h1 : x.1[lbT nm x.1]? = some nm
  · rw [if_pos h1, if_pos h1]; exact rfl
  · rw [if_neg h1, if_neg h1]
    obtain ⟨d1, d2, d3, d4, d5⟩ := h.blanks _ k j rfl hg
    rw [d1, h.take d2]
    cases q1 : takeS s (blankS s k) 58 with
    | false => exact rfl
    | true =>
      rw [if_pos rfl, if_pos rfl]
      obtain ⟨b1, b2, b3, b4, b5⟩ := h.blanks _ _ _ rfl (h.sgn d3 q1 (by decide))
      rw [b1]
      rcases (hv _ b2 b3).cases with ⟨e, x1, x2⟩ | ⟨y, k2, j2, x1, x2, g, g2, g3⟩
      · rw [x1, x2]; exact rfl
      · rw [x1, x2]; exact ⟨rfl, g, by omega, by omega⟩
theorem Wide.pair (h : Wide s t st pos) {vs vs' : Nat → Except Int (Js × Nat)} (hv : VWd s t st pos vs vs') (k : Nat) (x : StO) (hk : k ≤ s.size) (h0 : st k = 0) : RX (GGWd s t st pos k (pos k)) (pairS s vs k x) (pairS t vs' (pos k) x) := by
  unfold pairS
  rw [h.take hk]
  cases q1 : takeS s k 34 with
  | false => exact rfl
  | true =>
    rw [if_pos rfl, if_pos rfl]
    obtain ⟨a, b⟩ := take_tt q1
    rcases (h.quo a h0 b).cases with ⟨x1, x2⟩ | ⟨l, k2, j2, x1, x2, g, g2, g3⟩
    · rw [x1, x2]; exact rfl
    · rw [x1, x2]
      exact (h.pairN2 hv (strOfNums l) g.1 x).mono fun a b ⟨q1, q2, q3⟩ => ⟨q1, by omega, by omega⟩
theorem Wide.obj (h : Wide s t st pos) {vs vs' : Nat → Except Int (Js × Nat)} (hv : VWd s t st pos vs vs') {k : Nat} (hk : k < s.size) (h0 : st k = 0) (hc : atS s k ≠ 34) : RX (GGWd s t st pos k (pos k)) (objS s vs k) (objS t vs' (pos k)) := by
 have := h.memS2 (one := pairS s vs) (one' := pairS t vs') (la := 125) (by decide) (fun k x hk h0 => h.pair hv k x hk h0) hk h0 hc ([], [])
 unfold objS
 rcases this.cases with ⟨e, x1, x2⟩ | ⟨y, k2, j2, x1, x2, g⟩
 · rw [x1, x2]; exact rfl
 · rw [x1, x2]; exact ⟨rfl, g⟩
theorem Wide.val (h : Wide s t st pos) {dp : Nat} {rl ro rl' ro' : Except Int (Js × Nat)} {k : Nat} (hk : k ≤ s.size) (h0 : st k = 0) (hl : k < s.size → atS s k = 91 → RX (GGWd s t st pos k (pos k)) rl rl') (ho : k < s.size → atS s k = 123 → RX (GGWd s t st pos k (pos k)) ro ro') : RX (GGWd s t st pos k (pos k)) (valB s dp rl ro k) (valB t dp rl' ro' (pos k)) := by
  unfold valB
  by_cases h1 : k < s.size
  · have ha := h.at_ k h1
    rw [if_pos h1, if_pos ha.1, ha.2]
    have hf := h.exactF hk h0
    have up : ∀ {α : Type} {x y : Except Int (α × Nat)}, RX (fun a b => FWd s t st pos a b ∧ k ≤ a ∧ pos k ≤ b) x y → RX (GGWd s t st pos k (pos k)) x y := fun q => q.mono fun a b ⟨q1, q2, q3⟩ => ⟨q1.1, q2, q3⟩
    have nest : ∀ {x y : Except Int (Js × Nat)}, RX (GGWd s t st pos k (pos k)) x y → RX (GGWd s t st pos k (pos k)) (nestS dp x) (nestS dp y) := fun q => by
      unfold nestS
      by_cases hd : dp = 12
      · rw [if_pos hd, if_pos hd]; exact rfl
      · rw [if_neg hd, if_neg hd]; exact q
    by_cases c1 : atS s k = 110
    · rw [if_pos c1, if_pos c1]; exact up (h.word hf _ _ (by decide))
    rw [if_neg c1, if_neg c1]
    by_cases c2 : atS s k = 116
    · rw [if_pos c2, if_pos c2]; exact up (h.word hf _ _ (by decide))
    rw [if_neg c2, if_neg c2]
    by_cases c3 : atS s k = 102
    · rw [if_pos c3, if_pos c3]; exact up (h.word hf _ _ (by decide))
    rw [if_neg c3, if_neg c3]
    by_cases c4 : atS s k = 45 ∨ (48 ≤ atS s k ∧ atS s k ≤ 57)
    · rw [if_pos c4, if_pos c4]; exact up (h.num hf)
    rw [if_neg c4, if_neg c4]
    by_cases c5 : atS s k = 34
    · rw [if_pos c5, if_pos c5]
      unfold quoR
      rcases (h.quo h1 h0 c5).cases with ⟨x1, x2⟩ | ⟨l, k2, j2, x1, x2, g, g2, g3⟩
      · rw [x1, x2]; exact rfl
      · rw [x1, x2]; exact ⟨rfl, g.1, g2, g3⟩
    rw [if_neg c5, if_neg c5]
    by_cases c6 : atS s k = 91
    · rw [if_pos c6, if_pos c6]; exact nest (hl h1 c6)
    rw [if_neg c6, if_neg c6]
    by_cases c7 : atS s k = 123
    · rw [if_pos c7, if_pos c7]; exact nest (ho h1 c7)
    rw [if_neg c7, if_neg c7]; exact rfl
  · rw [if_neg h1, if_neg (fun q => h1 ((h.lt hk).2 q))]; exact rfl
theorem Wide.valD2 (h : Wide s t st pos) : ∀ m, VWd s t st pos (valD s m) (valD t m)
 | 0 => fun k hk h0 => h.val hk h0 (fun _ _ => rfl) (fun _ _ => rfl)
 | m + 1 => fun k hk h0 => h.val hk h0 (fun h1 c => h.list (h.valD2 m) h1 h0 (by rw [c]; decide)) (fun h1 c => h.obj (h.valD2 m) h1 h0 (by rw [c]; decide))
theorem Wide.par (h : Wide s t st pos) (hs : s.size ≤ 8192) (ht : t.size ≤ 8192) (hu : upB s = true) (hv : upB t = true) : parJ t = parJ s := by
  unfold parJ parS
  rw [if_neg (show ¬ 8192 < s.size by omega), if_neg (show ¬ 8192 < t.size by omega), hu, hv, if_neg (by decide), if_neg (by decide)]
  obtain ⟨b1, b2, b3, b4, b5⟩ := h.blanks _ 0 0 rfl h.start
  rw [b1]
  rcases (h.valD2 12 _ b2 b3).cases with ⟨e, x1, x2⟩ | ⟨y, k2, j2, x1, x2, g, g2, g3⟩
  · rw [x1, x2]
  · rw [x1, x2]
    dsimp only
    obtain ⟨d1, d2, d3, d4, d5⟩ := h.blanks _ k2 j2 rfl g
    rw [d1]
    have := h.lt d2
    by_cases hq : s.size ≤ blankS s k2
    · rw [if_pos hq, if_pos (by omega)]
    · rw [if_neg hq, if_neg (by omega)]
end

theorem encI1 {r : Int} (h : r < 128) : encI r = [r] := by rw [encI, if_pos h]
theorem encI2 {r : Int} (h0 : 128 ≤ r) (h : r < 2048) : encI r = [192 + r / 64, 128 + r % 64] := by rw [encI, if_neg (by omega), if_pos h]
theorem encI3 {r : Int} (h0 : 2048 ≤ r) (h : r < 65536) : encI r = [224 + r / 4096, 128 + r / 64 % 64, 128 + r % 64] := by rw [encI, if_neg (by omega), if_neg (by omega), if_pos h]
theorem encI4 {r : Int} (h0 : 65536 ≤ r) : encI r = [240 + r / 262144, 128 + r / 4096 % 64, 128 + r / 64 % 64, 128 + r % 64] := by rw [encI, if_neg (by omega), if_neg (by omega), if_neg (by omega)]
theorem some_eq {r r' : Int} {n n' : Nat} (h : r = r') (k : n = n') : (some (r, n) : Option (Int × Nat)) = some (r', n') := by rw [h, k]

theorem fst_enc (r : Int) (t : List Int) (h : isRuneB r = true) : fstS (encI r ++ t) = some (r, (encI r).length) := by
  have hr : 0 ≤ r ∧ r ≤ 1114111 ∧ (r < 55296 ∨ 57343 < r) := by simp [isRuneB] at h; omega
  by_cases a : r < 128
  · rw [encI1 a, fst1_yes (by simpa [at0_cons_zero] using a) (by simp)]
    exact some_eq rfl rfl
  by_cases b : r < 2048
  · rw [encI2 (by omega) b]
    simp only [List.cons_append, List.nil_append]
    rw [fst2_yes (by simp only [at0_cons_zero]; omega) (by simp) (by simp only [at0_cons_succ, at0_cons_zero]; omega) (by simp only [at0_cons_succ, at0_cons_zero]; omega)]
    exact some_eq (by simp only [at0_cons_succ, at0_cons_zero]; omega) rfl
  by_cases c : r < 65536
  · rw [encI3 (by omega) c]
    simp only [List.cons_append, List.nil_append]
    have e1 : ∀ x y z : Int, at0 (x :: y :: z :: t) 1 = y := fun _ _ _ => rfl
    have e2 : ∀ x y z : Int, at0 (x :: y :: z :: t) 2 = z := fun _ _ _ => rfl
    rw [fst3_yes (by simp only [at0_cons_zero]; omega) (by simp) (by simp only [e1, e2]; omega) (by simp only [e1, e2, at0_cons_zero]; omega)]
    exact some_eq (by simp only [e1, e2, at0_cons_zero]; omega) rfl
  · rw [encI4 (by omega)]
    simp only [List.cons_append, List.nil_append]
    have e1 : ∀ x y z u : Int, at0 (x :: y :: z :: u :: t) 1 = y := fun _ _ _ _ => rfl
    have e2 : ∀ x y z u : Int, at0 (x :: y :: z :: u :: t) 2 = z := fun _ _ _ _ => rfl
    have e3 : ∀ x y z u : Int, at0 (x :: y :: z :: u :: t) 3 = u := fun _ _ _ _ => rfl
    rw [fst4_yes (by simp only [at0_cons_zero]; omega) (by simp) (by simp only [e1, e2, e3]; omega) (by simp only [e1, e2, e3, at0_cons_zero]; omega)]
    exact some_eq (by simp only [e1, e2, e3, at0_cons_zero]; omega) rfl

theorem dec_enc : ∀ (l bs : List Int), encS l = some bs → decS bs = some l := by
  intro l
  induction l with
  | nil => intro bs h; cases h; exact decS_nil
  | cons r t ih =>
    intro bs h
    simp only [encS] at h
    split at h
    · rename_i hr
      cases ht : encS t with
      | none => rw [ht] at h; cases h
      | some ts =>
        rw [ht] at h
        cases h
        have hl := encI_len r
        rw [decS_some (by intro e; have := congrArg List.length e; simp at this; simp [this] at hl) (fst_enc r ts hr), List.drop_left, ih ts ht]
        rfl
    · cases h


abbrev RefSameAt (n : Nat) : Prop := ∀ (p q : Tr) (w : World) (L : List Nat), LL L w → RdT n L w p → RdT n L w q → CV Try.prog 39 [.agg #[.int .i64 p.kind, .int .i64 p.num, .string p.text, p.nv, p.iv], .agg #[.int .i64 q.kind, .int .i64 q.num, .string q.text, q.nv, q.iv]] w fun x W => x = .bool (eqJ p.er q.er)
set_option maxHeartbeats 2000000 in
theorem refSame_step (n : Nat) (ih : RefSameAt n) (p q : Tr) (w : World) (L : List Nat) (hL : LL L w) (htp : RdT (n + 1) L w p) (htq : RdT (n + 1) L w q) : CV Try.prog 39 [.agg #[.int .i64 p.kind, .int .i64 p.num, .string p.text, p.nv, p.iv], .agg #[.int .i64 q.kind, .int .i64 q.num, .string q.text, q.nv, q.iv]] w fun v W => v = .bool (eqJ p.er q.er) := by
 refine cv_enter (N := 81) (f := [(0, .agg #[.int .i64 p.kind, .int .i64 p.num, .string p.text, p.nv, p.iv]), (1, .agg #[.int .i64 q.kind, .int .i64 q.num, .string q.text, q.nv, q.iv])]) Try.func39 rfl rfl rfl rfl fun Q hQ hE => ?_
 have hB := Below.refl w.heap.size w
 refine Sq fun K1 hK1 => ?_
 obtain ⟨hnp, hip, hcp⟩ := htp
 replace hcp : RdTs n (L) w p.items := hcp
 obtain ⟨hnq, hiq, hcq⟩ := htq
 replace hcq : RdTs n (L) w q.items := hcq
 have hil0 := hip.len
 rw [List.length_map] at hil0
 have hnl0 := hnp.len
 rw [List.length_map] at hnl0
 unfold maxLen at hil0 hnl0
 refine Rg ?_
 refine Ge (dx_box rfl rfl rfl) rfl rfl ?_
 rintro _ W2 ⟨rfl, k3, b4, z5⟩
 have l6 := hB.size
 replace hnp := hnp.more b4 (Nat.le_refl _)
 replace hip := hip.more b4 (Nat.le_refl _)
 replace hcp := hcp.more b4 (Nat.le_refl _)
 replace hnq := hnq.more b4 (Nat.le_refl _)
 replace hiq := hiq.more b4 (Nat.le_refl _)
 replace hcq := hcq.more b4 (Nat.le_refl _)
 replace hB := below_then hB b4
 replace hL := LL.more hL z5
 refine Ge (dx_box rfl rfl rfl) rfl rfl ?_
 rintro _ W7 ⟨rfl, k8, b9, z10⟩
 have l12 := hB.size
 replace hnp := hnp.more b9 (Nat.le_refl _)
 replace hip := hip.more b9 (Nat.le_refl _)
 replace hcp := hcp.more b9 (Nat.le_refl _)
 replace hnq := hnq.more b9 (Nat.le_refl _)
 replace hiq := hiq.more b9 (Nat.le_refl _)
 replace hcq := hcq.more b9 (Nat.le_refl _)
 replace k3 := k3.below b9
 replace hB := below_then hB b9
 replace hL := LL.more hL z10
 refine Pu rfl (Ni (hK1 (Sq fun K13 hK13 => (Sq fun K14 hK14 => (Rg (Va (dx_fld (o1 := 0) rfl ty_fld_26_0_0 rfl rfl) rfl rfl (Va (dx_load rfl ty_one_3 rfl (k3.cell (k := 0) rfl)) rfl rfl ?_)))))))
 refine Va (dx_fld (o1 := 0) rfl ty_fld_26_0_0 rfl rfl) rfl rfl (Va (dx_load rfl ty_one_3 rfl (k8.cell (k := 0) rfl)) rfl rfl (Va (dx_neq rfl rfl rfl) rfl rfl (Pu rfl ?_)))
 refine WL.split 12 rfl (fun g15 => ?_) (fun g15 => ?_)
 ·
  replace g15 := bnot_t g15
  replace g15 := dF g15
  refine Of rfl (Of rfl (Of rfl (Of rfl (Of rfl (Pu rfl (Pu rfl (Of rfl ?_)))))))
  refine Of rfl (Of rfl (Of rfl (Of rfl (Pu rfl (Pu rfl (Of rfl (Of rfl ?_)))))))
  refine Of rfl (Of rfl (Of rfl (Of rfl (Of rfl (Pu rfl (Pu rfl (Of rfl ?_)))))))
  refine Of rfl (Of rfl (Of rfl (Of rfl (Of rfl (Of rfl (Pu rfl (Ni ?_)))))))
  refine hK14 (WC.condT rfl (Sq fun K16 hK16 => (Rg (Pu rfl (Ni (hK16 ?_))))))
  exact WC.ret fun a_ ha_ => hQ (cv_ret1 rfl (.tmp rfl) (by rw [eqJ_f (fun e => by obtain ⟨e1, e2, e3, e4, _⟩ := er_parts e; have e5 := er_len e; have e6 := congrArg List.length e4; first | contradiction | (exact absurd e3 (by assumption)) | omega)]) hB ha_)
 ·
  replace g15 := bnot_f g15
  replace g15 := dT g15
  refine Va (dx_fld (o1 := 1) rfl ty_fld_26_1_1 rfl rfl) rfl rfl (Va (dx_load rfl ty_one_3 rfl (k3.cell (k := 1) rfl)) rfl rfl (Va (dx_fld (o1 := 1) rfl ty_fld_26_1_1 rfl rfl) rfl rfl (Va (dx_load rfl ty_one_3 rfl (k8.cell (k := 1) rfl)) rfl rfl (Va (dx_neq rfl rfl rfl) rfl rfl (Pu rfl (Pu rfl ?_))))))
  refine WL.split 19 rfl (fun g17 => ?_) (fun g17 => ?_)
  ·
   replace g17 := bnot_t g17
   replace g17 := dF g17
   refine Of rfl (Of rfl (Of rfl (Of rfl (Of rfl (Pu rfl (Pu rfl (Of rfl ?_)))))))
   refine Of rfl (Of rfl (Of rfl (Of rfl (Of rfl (Of rfl (Pu rfl (Pu rfl ?_)))))))
   refine Of rfl (Of rfl (Of rfl (Of rfl (Of rfl (Of rfl (Of rfl (Pu rfl ?_)))))))
   refine Ni (hK14 (WC.condT rfl (Sq fun K18 hK18 => (Rg (Pu rfl (Ni (hK18 ?_)))))))
   exact WC.ret fun a_ ha_ => hQ (cv_ret1 rfl (.tmp rfl) (by rw [eqJ_f (fun e => by obtain ⟨e1, e2, e3, e4, _⟩ := er_parts e; have e5 := er_len e; have e6 := congrArg List.length e4; first | contradiction | (exact absurd e3 (by assumption)) | omega)]) hB ha_)
  ·
   replace g17 := bnot_f g17
   replace g17 := dT g17
   refine Va (dx_fld (o1 := 2) rfl ty_fld_26_2_2 rfl rfl) rfl rfl (Va (dx_load rfl ty_one_9 rfl (k3.cell (k := 2) rfl)) rfl rfl (Va (dx_fld (o1 := 2) rfl ty_fld_26_2_2 rfl rfl) rfl rfl (Va (dx_load rfl ty_one_9 rfl (k8.cell (k := 2) rfl)) rfl rfl (Va (dx_neqT rfl rfl rfl) rfl rfl (Pu rfl (Pu rfl ?_))))))
   refine WL.split 26 rfl (fun g19 => ?_) (fun g19 => ?_)
   ·
    replace g19 := bnot_t g19
    replace g19 := dF g19
    refine Of rfl (Of rfl (Of rfl (Of rfl (Of rfl (Of rfl (Of rfl (Pu rfl ?_)))))))
    refine Pu rfl (Of rfl (Of rfl (Of rfl (Of rfl (Of rfl (Of rfl (Of rfl ?_)))))))
    refine Pu rfl (Ni (hK14 (WC.condT rfl (Sq fun K20 hK20 => (Rg (Pu rfl (Ni ?_)))))))
    refine hK20 ?_
    exact WC.ret fun a_ ha_ => hQ (cv_ret1 rfl (.tmp rfl) (by rw [eqJ_f (fun e => by obtain ⟨e1, e2, e3, e4, _⟩ := er_parts e; have e5 := er_len e; have e6 := congrArg List.length e4; first | contradiction | (exact absurd e3 (by assumption)) | omega)]) hB ha_)
   ·
    replace g19 := bnot_f g19
    replace g19 := dT g19
    refine Va (dx_fld (o1 := 3) rfl ty_fld_26_3_3 rfl rfl) rfl rfl (Va (dx_load rfl ty_one_23 rfl (k3.cell (k := 3) rfl)) rfl rfl (Va (dx_lenFM rfl ty_slice_23 rfl hnp) rfl rfl (Va (dx_fld (o1 := 3) rfl ty_fld_26_3_3 rfl rfl) rfl rfl (Va (dx_load rfl ty_one_23 rfl (k8.cell (k := 3) rfl)) rfl rfl (Va (dx_lenFM rfl ty_slice_23 rfl hnq) rfl rfl (Va (dx_neq rfl rfl rfl) rfl rfl (Pu rfl ?_)))))))
    refine Pu rfl ?_
    refine WL.split 35 rfl (fun g21 => ?_) (fun g21 => ?_)
    ·
     replace g21 := bnot_t g21
     replace g21 := dF g21
     refine Of rfl (Of rfl (Of rfl (Of rfl (Of rfl (Of rfl (Of rfl (Pu rfl ?_)))))))
     refine Ni (hK14 (WC.condT rfl (Sq fun K22 hK22 => (Rg (Pu rfl (Ni (hK22 ?_)))))))
     exact WC.ret fun a_ ha_ => hQ (cv_ret1 rfl (.tmp rfl) (by rw [eqJ_f (fun e => by obtain ⟨e1, e2, e3, e4, _⟩ := er_parts e; have e5 := er_len e; have e6 := congrArg List.length e4; first | contradiction | (exact absurd e3 (by assumption)) | omega)]) hB ha_)
    ·
     replace g21 := bnot_f g21
     replace g21 := dT g21
     refine Va (dx_fld (o1 := 4) rfl ty_fld_26_4_4 rfl rfl) rfl rfl (Va (dx_load rfl ty_one_24 rfl (k3.cell (k := 4) rfl)) rfl rfl (Va (dx_lenFM rfl ty_slice_24 rfl hip) rfl rfl (Va (dx_fld (o1 := 4) rfl ty_fld_26_4_4 rfl rfl) rfl rfl (Va (dx_load rfl ty_one_24 rfl (k8.cell (k := 4) rfl)) rfl rfl (Va (dx_lenFM rfl ty_slice_24 rfl hiq) rfl rfl (Va (dx_neq rfl rfl rfl) rfl rfl (Pu rfl ?_)))))))
     refine Ni (hK14 ?_)
     refine WC.cond rfl (fun c23 => ?_) (fun c23 => ?_)
     ·
      replace c23 := bnot_t c23
      replace c23 := dF c23
      refine Sq fun K24 hK24 => (Rg (Pu rfl (Ni (hK24 ?_))))
      exact WC.ret fun a_ ha_ => hQ (cv_ret1 rfl (.tmp rfl) (by rw [eqJ_f (fun e => by obtain ⟨e1, e2, e3, e4, _⟩ := er_parts e; have e5 := er_len e; have e6 := congrArg List.length e4; first | contradiction | (exact absurd e3 (by assumption)) | omega)]) hB ha_)
     ·
      replace c23 := bnot_f c23
      replace c23 := dT c23
      refine WC.skip (hK13 (Sq fun K25 hK25 => (Sq fun K26 hK26 => ?_)))
      have hln : p.items.length = q.items.length := by omega
      have hnn : p.names.length = q.names.length := by omega
      refine Rg (Pu rfl (Ni (hK26 (WC.block ?_))))
      refine WC.loop (fun (i : Nat) => [(2, .pointer (some ⟨w.heap.size, 0, none⟩)), (3, .pointer (some ⟨W2.heap.size, 0, none⟩)), (5, .int .i64 (i : Int))]) (fun (i : Nat) W => i ≤ p.names.length ∧ p.names.take i = q.names.take i ∧ Below w.heap.size w W ∧ LL (W2.heap.size :: w.heap.size :: L) W ∧ RdF 1 (W2.heap.size :: w.heap.size :: L) W p.nv (p.names.map eS) ∧ RdF 5 (W2.heap.size :: w.heap.size :: L) W p.iv (p.items.map encT) ∧ RdTs n (W2.heap.size :: w.heap.size :: L) W p.items ∧ RdF 1 (W2.heap.size :: w.heap.size :: L) W q.nv (q.names.map eS) ∧ RdF 5 (W2.heap.size :: w.heap.size :: L) W q.iv (q.items.map encT) ∧ RdTs n (W2.heap.size :: w.heap.size :: L) W q.items ∧ Blk W w.heap.size [.int .i64 p.kind, .int .i64 p.num, .string p.text, p.nv, p.iv] ∧ Blk W W2.heap.size [.int .i64 q.kind, .int .i64 q.num, .string q.text, q.nv, q.iv]) (fun (i : Nat) => p.names.length - i) 0 (by repeat first | exact trivial | exact And.intro rfl trivial | refine And.intro rfl ?_ | refine And.intro (congrArg (fun z : Int => some (Value.int .i64 z)) (by omega)) ?_) ⟨Nat.zero_le _, rfl, hB, hL, hnp, hip, hcp, hnq, hiq, hcq, k3, k8⟩ ?_
      clear hnp hip hcp hnq hiq hcq k3 k8 hB hL
      rintro K27 i W28 ⟨hi, hv, hB, hL, hnp, hip, hcp, hnq, hiq, hcq, k3, k8⟩ hK27
      refine Sq fun K29 hK29 => (Sq fun K30 hK30 => (Rg (Pu rfl (Va (dx_fld (o1 := 3) rfl ty_fld_26_3_3 rfl rfl) rfl rfl (Va (dx_load rfl ty_one_23 rfl (k3.cell (k := 3) rfl)) rfl rfl (Va (dx_lenFM rfl ty_slice_23 rfl hnp) rfl rfl (Va (dx_lss rfl rfl rfl) rfl rfl ?_)))))))
      refine Ni (hK30 ?_)
      refine WC.cond rfl (fun c31 => ?_) (fun c31 => ?_)
      ·
       replace c31 := dT c31
       refine WC.skip (hK29 (Sq fun K32 hK32 => (WC.block (Sq fun K33 hK33 => ?_))))
       obtain ⟨r34, e35⟩ : ∃ x, p.names[i]? = some x := ⟨_, List.getElem?_eq_getElem (by omega)⟩
       obtain ⟨r36, e37⟩ : ∃ x, q.names[i]? = some x := ⟨_, List.getElem?_eq_getElem (by omega)⟩
       refine WC.drawM 10 [(some 51, .is (.pointer (some ⟨w.heap.size, 3, none⟩))), (some 52, .is (p.nv)), (some 53, .is (.int .i64 (i : Int))), (some 54, .by fun u W => PtR (W2.heap.size :: w.heap.size :: L) W u [.string r34]), (some 55, .is (.string r34)), (some 56, .is (.pointer (some ⟨W2.heap.size, 3, none⟩))), (some 57, .is (q.nv)), (some 58, .is (.int .i64 (i : Int))), (some 59, .by fun u W => PtR (W2.heap.size :: w.heap.size :: L) W u [.string r36]), (some 60, .is (.string r36))] [[], [0], [], [1, 2], [3], [], [5], [], [6, 7], [8]] (by kernel_rfl) (by kernel_rfl) (by kernel_rfl) (by kernel_rfl) (by kernel_rfl) (by kernel_rfl) (by kernel_rfl) ⟨fun _ _ _ hb h => h.below hb, fun _ _ _ hb h => h.below hb, trivial⟩ ?_ ?_
       ·
        refine Dc (fun Wd hd => ?_) ?_
        ·
         exact Dd (dx_fld (o1 := 3) rfl ty_fld_26_3_3 rfl rfl) rfl
        refine Dc (fun Wd hd => ?_) ?_
        ·
         have k3 := k3.below hd
         exact Dd (dx_load rfl ty_one_23 rfl (k3.cell (k := 3) rfl)) rfl
        refine Dc (fun Wd hd => ?_) ?_
        ·
         exact Dd (dx_move rfl rfl) rfl
        refine Dc (fun Wd hd => ?_) ?_
        ·
         have hnp := hnp.below hd
         exact (dx_idxF i rfl ty_slice_23 rfl rfl hnp (by omega) (at_mapX e35)).mono (fun v W' h => ⟨by rw [← h.1]; exact Below.refl _ _, by rw [← h.1]; exact h.2⟩)
        refine Dc (fun Wd hd => ?_) ?_
        ·
         intro u6_3 p6_3
         exact Dd (dx_loadP rfl ty_one_9 rfl p6_3) rfl
        refine Dc (fun Wd hd => ?_) ?_
        ·
         exact Dd (dx_fld (o1 := 3) rfl ty_fld_26_3_3 rfl rfl) rfl
        refine Dc (fun Wd hd => ?_) ?_
        ·
         have k8 := k8.below hd
         exact Dd (dx_load rfl ty_one_23 rfl (k8.cell (k := 3) rfl)) rfl
        refine Dc (fun Wd hd => ?_) ?_
        ·
         exact Dd (dx_move rfl rfl) rfl
        refine Dc (fun Wd hd => ?_) ?_
        ·
         have hnq := hnq.below hd
         exact (dx_idxF i rfl ty_slice_23 rfl rfl hnq (by omega) (at_mapX e37)).mono (fun v W' h => ⟨by rw [← h.1]; exact Below.refl _ _, by rw [← h.1]; exact h.2⟩)
        refine Dc (fun Wd hd => ?_) ?_
        ·
         intro u6_8 p6_8
         exact Dd (dx_loadP rfl ty_one_9 rfl p6_8) rfl
        exact trivial
       ·
        intro W38 b39
        intro u6_3 p6_3
        intro u6_8 p6_8
        replace hnp := hnp.below b39
        replace hip := hip.below b39
        replace hcp := hcp.below b39
        replace hnq := hnq.below b39
        replace hiq := hiq.below b39
        replace hcq := hcq.below b39
        replace k3 := k3.below b39
        replace k8 := k8.below b39
        replace hB := below_then hB b39
        replace hL := LL.below hL b39
        refine Va (dx_neqT rfl rfl rfl) rfl rfl (Ni (hK33 ?_))
        refine WC.cond rfl (fun c40 => ?_) (fun c40 => ?_)
        ·
         replace c40 := bnot_t c40
         replace c40 := dF c40
         refine Sq fun K41 hK41 => (Rg (Pu rfl (Ni (hK41 ?_))))
         exact WC.ret fun a_ ha_ => hQ (cv_ret1 rfl (.tmp rfl) (by rw [eqJ_f (fun e => by obtain ⟨e1, e2, e3, e4, _⟩ := er_parts e; rw [e4, e37] at e35; cases e35; exact absurd rfl (by assumption))]) hB ha_)
        ·
         replace c40 := bnot_f c40
         replace c40 := dT c40
         refine WC.skip (hK32 (Rg (Pu rfl (Va (dx_add (r := (i : Int) + 1) rfl rfl rfl (wrap64_id (by omega))) rfl rfl (Pu rfl (Ni ?_))))))
         exact hK27 (i + 1) ⟨(by omega), (by rw [List.take_add_one, List.take_add_one, hv, e35, e37, show r34 = r36 by first | assumption | exact Classical.not_not.1 (by assumption)]), hB, hL, hnp, hip, hcp, hnq, hiq, hcq, k3, k8⟩ (by omega) (by repeat first | exact trivial | exact And.intro rfl trivial | refine And.intro rfl ?_ | refine And.intro (congrArg (fun z : Int => some (Value.int .i64 z)) (by omega)) ?_)
      ·
       replace c31 := dF c31
       refine WC.exit ?_
       refine hK25 (Sq fun K42 hK42 => (Sq fun K43 hK43 => ?_))
       have hns : p.names = q.names := by rw [List.take_of_length_le (by omega), List.take_of_length_le (by omega)] at hv; exact hv
       refine Rg (Pu rfl (Ni (hK43 (WC.block ?_))))
       refine WC.loop (fun (i : Nat) => [(2, .pointer (some ⟨w.heap.size, 0, none⟩)), (3, .pointer (some ⟨W2.heap.size, 0, none⟩)), (6, .int .i64 (i : Int))]) (fun (i : Nat) W => i ≤ p.items.length ∧ (∀ k x y, k < i → p.items[k]? = some x → q.items[k]? = some y → x.er = y.er) ∧ Below w.heap.size w W ∧ LL (W2.heap.size :: w.heap.size :: L) W ∧ RdF 1 (W2.heap.size :: w.heap.size :: L) W p.nv (p.names.map eS) ∧ RdF 5 (W2.heap.size :: w.heap.size :: L) W p.iv (p.items.map encT) ∧ RdTs n (W2.heap.size :: w.heap.size :: L) W p.items ∧ RdF 1 (W2.heap.size :: w.heap.size :: L) W q.nv (q.names.map eS) ∧ RdF 5 (W2.heap.size :: w.heap.size :: L) W q.iv (q.items.map encT) ∧ RdTs n (W2.heap.size :: w.heap.size :: L) W q.items ∧ Blk W w.heap.size [.int .i64 p.kind, .int .i64 p.num, .string p.text, p.nv, p.iv] ∧ Blk W W2.heap.size [.int .i64 q.kind, .int .i64 q.num, .string q.text, q.nv, q.iv]) (fun (i : Nat) => p.items.length - i) 0 (by repeat first | exact trivial | exact And.intro rfl trivial | refine And.intro rfl ?_ | refine And.intro (congrArg (fun z : Int => some (Value.int .i64 z)) (by omega)) ?_) ⟨Nat.zero_le _, (fun k x y hk => by omega), hB, hL, hnp, hip, hcp, hnq, hiq, hcq, k3, k8⟩ ?_
       clear hnp hip hcp hnq hiq hcq k3 k8 hB hL
       rintro K44 i W45 ⟨hi, hw, hB, hL, hnp, hip, hcp, hnq, hiq, hcq, k3, k8⟩ hK44
       refine Sq fun K46 hK46 => (Sq fun K47 hK47 => (Rg (Pu rfl (Va (dx_fld (o1 := 4) rfl ty_fld_26_4_4 rfl rfl) rfl rfl (Va (dx_load rfl ty_one_24 rfl (k3.cell (k := 4) rfl)) rfl rfl (Va (dx_lenFM rfl ty_slice_24 rfl hip) rfl rfl (Va (dx_lss rfl rfl rfl) rfl rfl ?_)))))))
       refine Ni (hK47 ?_)
       refine WC.cond rfl (fun c48 => ?_) (fun c48 => ?_)
       ·
        replace c48 := dT c48
        refine WC.skip (hK46 (Sq fun K49 hK49 => (WC.block (Sq fun K50 hK50 => ?_))))
        obtain ⟨r51, e52⟩ : ∃ x, p.items[i]? = some x := ⟨_, List.getElem?_eq_getElem (by omega)⟩
        obtain ⟨r53, e54⟩ : ∃ x, q.items[i]? = some x := ⟨_, List.getElem?_eq_getElem (by omega)⟩
        refine WC.drawM 10 [(some 69, .is (.pointer (some ⟨w.heap.size, 4, none⟩))), (some 70, .is (p.iv)), (some 71, .is (.int .i64 (i : Int))), (some 72, .by fun u W => PtR (W2.heap.size :: w.heap.size :: L) W u (encT r51)), (some 73, .is (.agg #[.int .i64 r51.kind, .int .i64 r51.num, .string r51.text, r51.nv, r51.iv])), (some 74, .is (.pointer (some ⟨W2.heap.size, 4, none⟩))), (some 75, .is (q.iv)), (some 76, .is (.int .i64 (i : Int))), (some 77, .by fun u W => PtR (W2.heap.size :: w.heap.size :: L) W u (encT r53)), (some 78, .is (.agg #[.int .i64 r53.kind, .int .i64 r53.num, .string r53.text, r53.nv, r53.iv]))] [[], [0], [], [1, 2], [3], [], [5], [], [6, 7], [8]] (by kernel_rfl) (by kernel_rfl) (by kernel_rfl) (by kernel_rfl) (by kernel_rfl) (by kernel_rfl) (by kernel_rfl) ⟨fun _ _ _ hb h => h.below hb, fun _ _ _ hb h => h.below hb, trivial⟩ ?_ ?_
        ·
         refine Dc (fun Wd hd => ?_) ?_
         ·
          exact Dd (dx_fld (o1 := 4) rfl ty_fld_26_4_4 rfl rfl) rfl
         refine Dc (fun Wd hd => ?_) ?_
         ·
          have k3 := k3.below hd
          exact Dd (dx_load rfl ty_one_24 rfl (k3.cell (k := 4) rfl)) rfl
         refine Dc (fun Wd hd => ?_) ?_
         ·
          exact Dd (dx_move rfl rfl) rfl
         refine Dc (fun Wd hd => ?_) ?_
         ·
          have hip := hip.below hd
          exact (dx_idxF i rfl ty_slice_24 rfl rfl hip (by omega) (at_mapX e52)).mono (fun v W' h => ⟨by rw [← h.1]; exact Below.refl _ _, by rw [← h.1]; exact h.2⟩)
         refine Dc (fun Wd hd => ?_) ?_
         ·
          intro u11_3 p11_3
          exact Dd (dx_loadPN rfl ty_agg_26_5 rfl p11_3 rfl) rfl
         refine Dc (fun Wd hd => ?_) ?_
         ·
          exact Dd (dx_fld (o1 := 4) rfl ty_fld_26_4_4 rfl rfl) rfl
         refine Dc (fun Wd hd => ?_) ?_
         ·
          have k8 := k8.below hd
          exact Dd (dx_load rfl ty_one_24 rfl (k8.cell (k := 4) rfl)) rfl
         refine Dc (fun Wd hd => ?_) ?_
         ·
          exact Dd (dx_move rfl rfl) rfl
         refine Dc (fun Wd hd => ?_) ?_
         ·
          have hiq := hiq.below hd
          exact (dx_idxF i rfl ty_slice_24 rfl rfl hiq (by omega) (at_mapX e54)).mono (fun v W' h => ⟨by rw [← h.1]; exact Below.refl _ _, by rw [← h.1]; exact h.2⟩)
         refine Dc (fun Wd hd => ?_) ?_
         ·
          intro u11_8 p11_8
          exact Dd (dx_loadPN rfl ty_agg_26_5 rfl p11_8 rfl) rfl
         exact trivial
        ·
         intro W55 b56
         intro u11_3 p11_3
         intro u11_8 p11_8
         replace hnp := hnp.below b56
         replace hip := hip.below b56
         replace hcp := hcp.below b56
         replace hnq := hnq.below b56
         replace hiq := hiq.below b56
         replace hcq := hcq.below b56
         replace k3 := k3.below b56
         replace k8 := k8.below b56
         replace hB := below_then hB b56
         replace hL := LL.below hL b56
         refine Ge (dx_cv rfl Try.func39 rfl rfl rfl (ih r51 r53 W55 _ hL (hcp r51 (List.mem_of_getElem? e52)) (hcq r53 (List.mem_of_getElem? e54)))) rfl rfl ?_
         rintro _ W58 ⟨rfl, b57⟩
         replace hnp := hnp.below b57
         replace hip := hip.below b57
         replace hcp := hcp.below b57
         replace hnq := hnq.below b57
         replace hiq := hiq.below b57
         replace hcq := hcq.below b57
         replace k3 := k3.below b57
         replace k8 := k8.below b57
         replace hB := below_then hB b57
         replace hL := LL.below hL b57
         refine Va (dx_not rfl rfl) rfl rfl (Ni (hK50 ?_))
         refine WC.cond rfl (fun c59 => ?_) (fun c59 => ?_)
         ·
          replace c59 := bnot_t c59
          refine Sq fun K60 hK60 => (Rg (Pu rfl (Ni (hK60 ?_))))
          exact WC.ret fun a_ ha_ => hQ (cv_ret1 rfl (.tmp rfl) (by rw [eqJ_f (fun e => by have hce := er_item e e52 e54; have := eqJ_t hce; simp_all)]) hB ha_)
         ·
          replace c59 := bnot_f c59
          refine WC.skip (hK49 (Rg (Pu rfl (Va (dx_add (r := (i : Int) + 1) rfl rfl rfl (wrap64_id (by omega))) rfl rfl (Pu rfl (Ni ?_))))))
          have hce : r51.er = r53.er := Classical.byContradiction fun hn_ => by have := eqJ_f hn_; simp_all
          exact hK44 (i + 1) ⟨(by omega), (fun k x y hk hx hy => by rcases Nat.lt_or_ge k i with hl | hl; exact hw k x y hl hx hy; obtain rfl : k = i := (by omega); rw [e52] at hx; rw [e54] at hy; cases hx; cases hy; exact hce), hB, hL, hnp, hip, hcp, hnq, hiq, hcq, k3, k8⟩ (by omega) (by repeat first | exact trivial | exact And.intro rfl trivial | refine And.intro rfl ?_ | refine And.intro (congrArg (fun z : Int => some (Value.int .i64 z)) (by omega)) ?_)
       ·
        replace c48 := dF c48
        refine WC.exit ?_
        refine hK42 (Sq fun K61 hK61 => (Rg (Pu rfl (Ni (hK61 ?_)))))
        exact WC.ret fun a_ ha_ => hQ (cv_ret1 rfl (.tmp rfl) (by rw [eqJ_t (er_eq (by first | assumption | simp_all) (by first | assumption | simp_all) (by first | assumption | simp_all) hns hln (fun k c d hc hd => hw k c d (by have := (List.getElem?_eq_some_iff.1 hc).1; omega) hc hd))]) hB ha_)

theorem refSame_all : ∀ n, RefSameAt n
 | 0 => fun p q _ _ _ h => h.elim
 | n + 1 => fun p q w L hL h1 h2 => refSame_step n (refSame_all n) p q w L hL h1 h2
set_option maxHeartbeats 1000000 in
theorem alike_v (n : Nat) (p q : Tr) (w : World) (L : List Nat) (hL : LL L w) (htp : RdT (n + 1) L w p) (htq : RdT (n + 1) L w q) : CV Try.prog 14 [.agg #[.int .i64 p.kind, .int .i64 p.num, .string p.text, p.nv, p.iv], .agg #[.int .i64 q.kind, .int .i64 q.num, .string q.text, q.nv, q.iv]] w fun v W => v = .bool (eqJ p.er q.er) := by
 refine cv_enter (N := 8) (f := [(0, .agg #[.int .i64 p.kind, .int .i64 p.num, .string p.text, p.nv, p.iv]), (1, .agg #[.int .i64 q.kind, .int .i64 q.num, .string q.text, q.nv, q.iv])]) Try.func14 rfl rfl rfl rfl fun Q hQ hE => ?_
 have hB := Below.refl w.heap.size w
 refine Sq fun K1 hK1 => ?_
 obtain ⟨hnp, hip, hcp⟩ := htp
 replace hcp : RdTs n (L) w p.items := hcp
 obtain ⟨hnq, hiq, hcq⟩ := htq
 replace hcq : RdTs n (L) w q.items := hcq
 refine Rg ?_
 refine Ge (dx_box rfl rfl rfl) rfl rfl ?_
 rintro _ W2 ⟨rfl, k3, b4, z5⟩
 have l6 := hB.size
 replace hnp := hnp.more b4 (Nat.le_refl _)
 replace hip := hip.more b4 (Nat.le_refl _)
 replace hcp := hcp.more b4 (Nat.le_refl _)
 replace hnq := hnq.more b4 (Nat.le_refl _)
 replace hiq := hiq.more b4 (Nat.le_refl _)
 replace hcq := hcq.more b4 (Nat.le_refl _)
 replace hB := below_then hB b4
 replace hL := LL.more hL z5
 refine Ge (dx_box rfl rfl rfl) rfl rfl ?_
 rintro _ W7 ⟨rfl, k8, b9, z10⟩
 have l12 := hB.size
 replace hnp := hnp.more b9 (Nat.le_refl _)
 replace hip := hip.more b9 (Nat.le_refl _)
 replace hcp := hcp.more b9 (Nat.le_refl _)
 replace hnq := hnq.more b9 (Nat.le_refl _)
 replace hiq := hiq.more b9 (Nat.le_refl _)
 replace hcq := hcq.more b9 (Nat.le_refl _)
 replace k3 := k3.below b9
 replace hB := below_then hB b9
 replace hL := LL.more hL z10
 refine Pu rfl (Ni (hK1 (Sq fun K13 hK13 => (Rg (Va (dx_loadN rfl ty_agg_26_5 rfl k3.range rfl) rfl rfl (Va (dx_loadN rfl ty_agg_26_5 rfl k8.range rfl) rfl rfl ?_))))))
 refine Ge (dx_cv rfl Try.func39 rfl rfl rfl (refSame_all (n + 1) p q W7 _ hL (show RdT (n + 1) (W2.heap.size :: w.heap.size :: L) W7 p from ⟨hnp, hip, hcp⟩) (show RdT (n + 1) (W2.heap.size :: w.heap.size :: L) W7 q from ⟨hnq, hiq, hcq⟩))) rfl rfl ?_
 rintro _ W15 ⟨rfl, b14⟩
 replace hB := below_then hB b14
 refine Pu rfl (Ni (hK13 ?_))
 exact WC.ret fun a_ ha_ => hQ (cv_ret1 rfl (.tmp rfl) rfl hB ha_)

section
variable {P : Program} {ops : Array Oper} {o : Oper} {N : Nat} {f : Fl} {w : World}
end
def noJ : Js := .mk 0 0 ⟨#[]⟩ [] []
def getJ (j : Js) (name : ByteArray) : Js × Bool := if j.kind = 6 ∧ 0 ≤ idxX (fun x => decide (name = x)) j.names 0 ∧ (idxX (fun x => decide (name = x)) j.names 0).toNat < j.items.length then ((j.items[(idxX (fun x => decide (name = x)) j.names 0).toNat]?).getD noJ, true) else (noJ, false)
theorem getT_er (t : Tr) (name : ByteArray) : ((getT t name).1.er, (getT t name).2) = getJ t.er name := by
  unfold getT getJ
  rw [er_kind, er_names, er_items, List.length_map]
  split
  · rename_i h
    rw [List.getElem?_map, List.getElem?_eq_getElem h.2.2]; rfl
  · unfold noT noJ; rw [Tr.er_mk]; rfl
theorem pa1 : parJ { data := #[123, 34, 98, 34, 58, 32, 91, 49, 44, 32, 45, 50, 93, 44, 32, 34, 97, 34, 58, 32, 34, 92, 117, 48, 48, 101, 57, 34, 125] } = .ok (.mk 6 0 ⟨#[]⟩ [⟨#[97]⟩, ⟨#[98]⟩] [.mk 4 0 ⟨#[195, 169]⟩ [] [], .mk 5 0 ⟨#[]⟩ [] [.mk 3 1 ⟨#[]⟩ [] [], .mk 3 (-2) ⟨#[]⟩ [] []]]) := by kernel_rfl
theorem pa2 : parJ { data := #[49, 46, 53] } = .error 2 := by kernel_rfl
theorem pa3 : parJ { data := #[123, 34, 97, 34, 58, 49, 44, 34, 97, 34, 58, 50, 125] } = .error 6 := by kernel_rfl
theorem alP1 (w : World) (L : List Nat) (hL : LL L w) : CV Try.prog 12 [.string { data := #[123, 34, 98, 34, 58, 32, 91, 49, 44, 32, 45, 50, 93, 44, 32, 34, 97, 34, 58, 32, 34, 92, 117, 48, 48, 101, 57, 34, 125] }] w fun v W => ∃ t, v = .tuple #[.agg #[.int .i64 t.kind, .int .i64 t.num, .string t.text, t.nv, t.iv], .int .i64 0] ∧ getJ t.er ⟨#[97]⟩ = (.mk 4 0 ⟨#[195, 169]⟩ [] [], true) ∧ deepJ 13 t.er = 2 ∧ RdT 13 L W t :=
  (jParse_v { data := #[123, 34, 98, 34, 58, 32, 91, 49, 44, 32, 45, 50, 93, 44, 32, 34, 97, 34, 58, 32, 34, 92, 117, 48, 48, 101, 57, 34, 125] } w L hL).mono fun v W _ h => by
    rcases h with ⟨t, rfl, h1, h2⟩ | ⟨e, rfl, h0, h1⟩
    · rw [pa1] at h1
      have h1 := (Except.ok.inj h1).symm
      exact ⟨t, rfl, by rw [h1]; kernel_rfl, by rw [h1]; kernel_rfl, h2⟩
    · rw [pa1] at h1; cases h1
theorem alP2 (w : World) (L : List Nat) (hL : LL L w) : CV Try.prog 12 [.string { data := #[49, 46, 53] }] w fun v W => v = .tuple #[.agg #[.int .i64 0, .int .i64 0, .string ⟨#[]⟩, .slice none 0 0, .slice none 0 0], .int .i64 2] :=
 (jParse_v { data := #[49, 46, 53] } w L hL).mono fun v W _ h => by
  rcases h with ⟨t, rfl, h1, h2⟩ | ⟨e, rfl, h0, h1⟩
  · rw [pa2] at h1; cases h1
  · rw [pa2] at h1; cases h1; rfl
theorem alP3 (w : World) (L : List Nat) (hL : LL L w) : CV Try.prog 12 [.string { data := #[123, 34, 97, 34, 58, 49, 44, 34, 97, 34, 58, 50, 125] }] w fun v W => v = .tuple #[.agg #[.int .i64 0, .int .i64 0, .string ⟨#[]⟩, .slice none 0 0, .slice none 0 0], .int .i64 6] :=
 (jParse_v { data := #[123, 34, 97, 34, 58, 49, 44, 34, 97, 34, 58, 50, 125] } w L hL).mono fun v W _ h => by
  rcases h with ⟨t, rfl, h1, h2⟩ | ⟨e, rfl, h0, h1⟩
  · rw [pa3] at h1; cases h1
  · rw [pa3] at h1; cases h1; rfl
theorem alG (t : Tr) (w : World) (L : List Nat) (hL : LL L w) (ht : RdT 13 L w t) (hg : getJ t.er ⟨#[97]⟩ = (.mk 4 0 ⟨#[195, 169]⟩ [] [], true)) : CV Try.prog 17 [.agg #[.int .i64 t.kind, .int .i64 t.num, .string t.text, t.nv, t.iv], .string ⟨#[97]⟩] w fun v W => ∃ a, v = .tuple #[.agg #[.int .i64 a.kind, .int .i64 a.num, .string a.text, a.nv, a.iv], .bool true] ∧ a.text = ⟨#[195, 169]⟩ ∧ RdT 13 L W a :=
 (jGet_v 12 t ⟨#[97]⟩ w L hL ht).mono fun v W hb h => by
  subst h
  have e := (getT_er t ⟨#[97]⟩).trans hg
  simp only [Prod.mk.injEq] at e
  refine ⟨(getT t ⟨#[97]⟩).1, by rw [e.2]; rfl, ?_, (getT_rd ht _).below hb⟩
  rw [← er_text, e.1]; rfl
set_option maxHeartbeats 1000000 in
theorem alive_v  (w : World) (L : List Nat) (hL : LL L w)  : CV Try.prog 11 [] w fun v W => v = .bool true := by
 refine cv_enter (N := 49) (f := []) Try.func11 rfl rfl rfl rfl fun Q hQ hE => ?_
 have hB := Below.refl w.heap.size w
 refine Sq fun K1 hK1 => (Rg (Pu rfl (Ni (hK1 (Sq fun K2 hK2 => (Rg ?_))))))
 refine Ge (dx_cv rfl Try.func12 rfl rfl rfl (alP1 w _ hL)) rfl rfl ?_
 rintro _ W4 ⟨⟨t, rfl, hgj, hdj, ht⟩, b3⟩
 replace hB := below_then hB b3
 replace hL := LL.below hL b3
 obtain ⟨hnt, hit, hct⟩ := ht
 replace hct : RdTs 12 (L) W4 t.items := hct
 refine Pu rfl (Pu rfl (Pu rfl ?_))
 refine Ge (dx_alloc rfl ty_zero_26 rfl) rfl rfl ?_
 rintro _ W5 ⟨rfl, k6, b7, z8⟩
 have l9 := hB.size
 replace hnt := hnt.more b7 (Nat.le_refl _)
 replace hit := hit.more b7 (Nat.le_refl _)
 replace hct := hct.more b7 (Nat.le_refl _)
 replace hB := below_then hB b7
 replace hL := LL.more hL z8
 refine WL.do (dx_store (cs' := [.int .i64 t.kind, .int .i64 t.num, .string t.text, t.nv, t.iv]) (vs := [.int .i64 t.kind, .int .i64 t.num, .string t.text, t.nv, t.iv]) rfl ty_size_26_5 rfl rfl rfl (oc_cons rfl (oc_cons rfl (oc_cons rfl (oc_cons hnt.one (oc_cons hit.one oc_nil))))) k6 rfl (Nat.le_of_ble_eq_true rfl) rfl) rfl ?_
 rintro _ W10 ⟨k12, o11⟩
 clear k6
 replace hnt := hnt.only o11 (.head _)
 replace hit := hit.only o11 (.head _)
 replace hct := hct.only o11 (.head _)
 replace hB := o11.below hB l9
 replace hL := LL.only hL o11
 refine Pu rfl (Ni (hK2 (Sq fun K13 hK13 => (Rg ?_))))
 refine Ge (dx_cv rfl Try.func12 rfl rfl rfl (alP2 W10 _ hL)) rfl rfl ?_
 rintro _ W15 ⟨rfl, b14⟩
 replace hnt := hnt.below b14
 replace hit := hit.below b14
 replace hct := hct.below b14
 replace k12 := k12.below b14
 replace hB := below_then hB b14
 replace hL := LL.below hL b14
 refine Pu rfl (Pu rfl (Pu rfl ?_))
 refine Ge (dx_alloc rfl ty_zero_26 rfl) rfl rfl ?_
 rintro _ W16 ⟨rfl, k17, b18, z19⟩
 have n20 : W4.heap.size ≠ W15.heap.size := Nat.ne_of_lt k12.lt
 have l21 := hB.size
 replace hnt := hnt.more b18 (Nat.le_refl _)
 replace hit := hit.more b18 (Nat.le_refl _)
 replace hct := hct.more b18 (Nat.le_refl _)
 replace k12 := k12.below b18
 replace hB := below_then hB b18
 replace hL := LL.more hL z19
 refine WL.do (dx_store (cs' := zV) (vs := zV) rfl ty_size_26_5 rfl rfl rfl (oc_cons rfl (oc_cons rfl (oc_cons rfl (oc_cons rfl (oc_cons rfl oc_nil))))) k17 rfl (Nat.le_of_ble_eq_true rfl) rfl) rfl ?_
 rintro _ W22 ⟨k24, o23⟩
 replace k12 := k12.other o23 n20
 clear k17
 replace hnt := hnt.only o23 (.head _)
 replace hit := hit.only o23 (.head _)
 replace hct := hct.only o23 (.head _)
 replace hB := o23.below hB l21
 replace hL := LL.only hL o23
 refine Pu rfl (Ni (hK13 (Sq fun K25 hK25 => (Rg ?_))))
 refine Ge (dx_cv rfl Try.func12 rfl rfl rfl (alP3 W22 _ hL)) rfl rfl ?_
 rintro _ W27 ⟨rfl, b26⟩
 replace hnt := hnt.below b26
 replace hit := hit.below b26
 replace hct := hct.below b26
 replace k12 := k12.below b26
 replace hB := below_then hB b26
 replace hL := LL.below hL b26
 refine Pu rfl (Pu rfl (Pu rfl ?_))
 refine Ge (dx_alloc rfl ty_zero_26 rfl) rfl rfl ?_
 rintro _ W28 ⟨rfl, k29, b30, z31⟩
 have n32 : W4.heap.size ≠ W27.heap.size := Nat.ne_of_lt k12.lt
 have l34 := hB.size
 replace hnt := hnt.more b30 (Nat.le_refl _)
 replace hit := hit.more b30 (Nat.le_refl _)
 replace hct := hct.more b30 (Nat.le_refl _)
 replace k12 := k12.below b30
 replace hB := below_then hB b30
 replace hL := LL.more hL z31
 refine WL.do (dx_store (cs' := zV) (vs := zV) rfl ty_size_26_5 rfl rfl rfl (oc_cons rfl (oc_cons rfl (oc_cons rfl (oc_cons rfl (oc_cons rfl oc_nil))))) k29 rfl (Nat.le_of_ble_eq_true rfl) rfl) rfl ?_
 rintro _ W35 ⟨k37, o36⟩
 replace k12 := k12.other o36 n32
 clear k29
 replace hnt := hnt.only o36 (.head _)
 replace hit := hit.only o36 (.head _)
 replace hct := hct.only o36 (.head _)
 replace hB := o36.below hB l34
 replace hL := LL.only hL o36
 refine Pu rfl (Ni (hK25 (Sq fun K38 hK38 => (Rg (Va (dx_loadN rfl ty_agg_26_5 rfl k12.range rfl) rfl rfl ?_)))))
 refine Ge (dx_cv rfl Try.func17 rfl rfl rfl (alG t W35 _ hL (show RdT (12 + 1) (W27.heap.size :: W15.heap.size :: W4.heap.size :: L) W35 t from ⟨hnt, hit, hct⟩) hgj)) rfl rfl ?_
 rintro _ W40 ⟨⟨a, rfl, htx, ha⟩, b39⟩
 replace hnt := hnt.below b39
 replace hit := hit.below b39
 replace hct := hct.below b39
 replace k12 := k12.below b39
 replace hB := below_then hB b39
 replace hL := LL.below hL b39
 obtain ⟨hna, hia, hca⟩ := ha
 replace hca : RdTs 12 (W27.heap.size :: W15.heap.size :: W4.heap.size :: L) W40 a.items := hca
 refine Pu rfl (Pu rfl (Pu rfl ?_))
 refine Ge (dx_alloc rfl ty_zero_26 rfl) rfl rfl ?_
 rintro _ W41 ⟨rfl, k42, b43, z44⟩
 have n45 : W4.heap.size ≠ W40.heap.size := Nat.ne_of_lt k12.lt
 have l48 := hB.size
 replace hnt := hnt.more b43 (Nat.le_refl _)
 replace hit := hit.more b43 (Nat.le_refl _)
 replace hct := hct.more b43 (Nat.le_refl _)
 replace hna := hna.more b43 (Nat.le_refl _)
 replace hia := hia.more b43 (Nat.le_refl _)
 replace k12 := k12.below b43
 replace hB := below_then hB b43
 replace hL := LL.more hL z44
 refine WL.do (dx_store (cs' := [.int .i64 a.kind, .int .i64 a.num, .string a.text, a.nv, a.iv]) (vs := [.int .i64 a.kind, .int .i64 a.num, .string a.text, a.nv, a.iv]) rfl ty_size_26_5 rfl rfl rfl (oc_cons rfl (oc_cons rfl (oc_cons rfl (oc_cons hna.one (oc_cons hia.one oc_nil))))) k42 rfl (Nat.le_of_ble_eq_true rfl) rfl) rfl ?_
 rintro _ W49 ⟨k51, o50⟩
 replace k12 := k12.other o50 n45
 clear k42
 replace hnt := hnt.only o50 (.head _)
 replace hit := hit.only o50 (.head _)
 replace hct := hct.only o50 (.head _)
 replace hB := o50.below hB l48
 replace hL := LL.only hL o50
 refine Pu rfl (Ni (hK38 (Sq fun K52 hK52 => (Rg (Pu rfl (Va (dx_eql rfl rfl rfl) rfl rfl (Pu rfl ?_)))))))
 refine Pu rfl (Va (dx_eql rfl rfl rfl) rfl rfl (Pu rfl (Pu rfl (Pu rfl (Va (dx_eql rfl rfl rfl) rfl rfl (Pu rfl (Pu rfl ?_)))))))
 refine Pu rfl (Pu rfl (Pu rfl (Va (dx_fld (o1 := 2) rfl ty_fld_26_2_2 rfl rfl) rfl rfl (Va (dx_load rfl ty_one_9 rfl (k51.cell (k := 2) rfl)) rfl rfl (Va (dv_T (dx_eqlT rfl rfl rfl) htx) rfl rfl (Pu rfl (Pu rfl ?_)))))))
 refine Va (dx_loadN rfl ty_agg_26_5 rfl k12.range rfl) rfl rfl ?_
 refine Ge (dx_cv rfl Try.func20 rfl rfl rfl (jDeep_v 12 t W49 _ hL (show RdT (12 + 1) (W40.heap.size :: W27.heap.size :: W15.heap.size :: W4.heap.size :: L) W49 t from ⟨hnt, hit, hct⟩))) rfl rfl ?_
 rintro _ W54 ⟨rfl, b53⟩
 replace hB := below_then hB b53
 refine Va (dv_T (dx_eql rfl rfl rfl) (by rw [hdj]; rfl)) rfl rfl (Pu rfl (Pu rfl (Ni (hK52 ?_))))
 exact WC.ret fun a_ ha_ => hQ (cv_ret1 rfl (.tmp rfl) rfl hB ha_)


section
variable {P : Program} {ops : Array Oper} {md : Region.Mode}
end
abbrev SV := List (Option Tmp × Option Value)
section
variable {P : Program} {N : Nat} {sv : SV} {dl : List (List Nat)}
end
def vB : Value → Option Nat
 | .slice (some a) _ _ => some a.block
 | .pointer (some a) => some a.block
 | _ => none
theorem OwS.vB {s : Nat} {w : World} {u : Value} {rs : List (List Value)} {B : Nat} (h : OwS s w u rs B) : vB u = some B := by
 obtain ⟨h0, hr, cap, sp, rfl, _⟩ := h
 rfl
theorem NewW.lt {s b : Nat} {w : World} {u : Value} {rs : List (List Value)} (h : NewW s b rs u w) {B : Nat} (hB : Go.Proofs.Ytpinidlfcifeeaa.vB u = some B) : b ≤ B ∧ B < w.heap.size := by
 rcases h with ⟨rfl, _⟩ | ⟨C, h1, h2⟩
 · cases hB
 · rw [h2.vB] at hB; cases hB; exact ⟨h1, h2.lt⟩
theorem NewW.one {s b : Nat} {w : World} {u : Value} {rs : List (List Value)} (h : NewW s b rs u w) : u.oneCell' = true := by
 rcases h with ⟨rfl, _⟩ | ⟨C, h1, h2⟩
 · rfl
 · exact h2.one
def putJ (j : Js) (nm : ByteArray) (x : Js) : Js := if j.names[lbT nm j.names]? = some nm then .mk 6 0 ⟨#[]⟩ j.names (j.items.set (lbT nm j.names) x) else .mk 6 0 ⟨#[]⟩ (insA (lbT nm j.names) nm j.names) (insA (lbT nm j.names) x j.items)

end Go.Proofs.Ytpinidlfcifeeaa
namespace Go.Proofs
open Go.Shelf
end Go.Proofs
namespace Go.Proofs.Ytpinidlfcifeeaa
open Go.RowKit
set_option linter.unusedVariables false
set_option linter.unusedSimpArgs false
set_option maxRecDepth 8000
set_option maxHeartbeats 2000000

theorem MembI.le {n b : Nat} {L L' : List Nat} {nv iv : Value} {ns : List ByteArray} {ts : List Tr} {W : World} (h : MembI n b L nv ns iv ts W) (hl : ∀ x, x ∈ L' → x ∈ L) : MembI n b L' nv ns iv ts W := by
  obtain ⟨h0, h | ⟨Bn, Bi, h1, h2, h3, h4, h5, h6⟩⟩ := h
  · exact ⟨fun x hx => h0 x (hl x hx), .inl h⟩
  · exact ⟨fun x hx => h0 x (hl x hx), .inr ⟨Bn, Bi, h1, h2, h3, h4, h5, fun c hc => (h6 c hc).less fun x hx => by
      simp only [List.mem_cons] at hx ⊢
      rcases hx with h_ | h_ | h_
      · exact .inl h_
      · exact .inr (.inl h_)
      · exact .inr (.inr (hl x h_))⟩⟩
def AgL (w1 : World) (L0 L : List Nat) (w : World) : Prop := (∀ x ∈ L, x < w1.heap.size → x ∈ L0) ∧ Agree L0 w1 w
theorem Agree.trans' {L : List Nat} {w w' w'' : World} (h : Agree L w w') (k : Agree L w' w'') : Agree L w w'' := ⟨Nat.le_trans h.1 k.1, fun i hi hlt => (k.2 i hi (Nat.lt_of_lt_of_le hlt h.1)).trans (h.2 i hi hlt)⟩
section
variable {w1 w w' : World} {L0 L : List Nat}
theorem AgL.below (h : AgL w1 L0 L w) (hb : Below w.heap.size w w') : AgL w1 L0 L w' := ⟨h.1, h.2.trans' (.of_below hb)⟩
theorem AgL.more (h : AgL w1 L0 L w) (hb : Below w.heap.size w w') {B : Nat} (hB : w.heap.size ≤ B) : AgL w1 L0 (B :: L) w' := ⟨fun x hx hlt => by
 rcases List.mem_cons.1 hx with rfl | hx
 · exact absurd hlt (Nat.not_lt.2 (Nat.le_trans h.2.1 hB))
 · exact h.1 x hx hlt, h.2.trans' (.of_below hb)⟩
theorem AgL.only (h : AgL w1 L0 L w) {C : Nat} (ho : Only C w w') (hC : C ∈ L) : AgL w1 L0 L w' := ⟨h.1, ⟨by rw [ho.size]; exact h.2.1, fun k hk hlt => (ho.block k (fun e => hk (h.1 k (e ▸ hC) hlt))).trans (h.2.2 k hk hlt)⟩⟩
theorem AgL.grow' (h : AgL w1 L0 L w) {B B' : Nat} (g : GrowB B B' w w') (hB : B ∈ L) : AgL w1 L0 (B' :: L) w' := ⟨fun x hx hlt => by
  rcases List.mem_cons.1 hx with rfl | hx
  · rcases g.new with rfl | hn
    · exact h.1 _ hB hlt
    · exact absurd hlt (Nat.not_lt.2 (Nat.le_trans h.2.1 hn))
  · exact h.1 x hx hlt, ⟨Nat.le_trans h.2.1 g.size, fun k hk hlt => (g.block k (Nat.lt_of_lt_of_le hlt h.2.1) (fun e => hk (h.1 k (e ▸ hB) hlt))).trans (h.2.2 k hk hlt)⟩⟩
theorem AgL.less (h : AgL w1 L0 L w) {L' : List Nat} (hl : ∀ x, x ∈ L' → x ∈ L) : AgL w1 L0 L' w := ⟨fun x hx => h.1 x (hl x hx), h.2⟩
theorem AgL.add (h : AgL w1 L0 L w) {B : Nat} (hB : w1.heap.size ≤ B) : AgL w1 L0 (B :: L) w := ⟨fun x hx hlt => by
 rcases List.mem_cons.1 hx with rfl | hx
 · exact absurd hlt (Nat.not_lt.2 hB)
 · exact h.1 x hx hlt, h.2⟩
theorem AgL.rd {s : Nat} {v : Value} {rs : List (List Value)} (h : AgL w1 L0 L w) (k : RdF s L0 w1 v rs) : RdF s L w v rs := by
 have k2 := k.agree h.2
 obtain ⟨h0, hl, a, cap, rfl, c1, c2, c3, c4⟩ := k2
 refine ⟨h0, hl, a, cap, rfl, c1, c2, c3, fun hn => ?_⟩
 obtain ⟨X, q, e, hX, hr⟩ := c4 hn
 exact ⟨X, q, e, fun hx => hX (h.1 X hx (rdf_lt k e hn)), hr⟩
end
def SzJ (m : Nat) : Nat → Js → Prop
 | 0, _ => False
 | n + 1, j => j.text.size ≤ m ∧ j.names.length ≤ m ∧ j.items.length ≤ m ∧ (∀ s ∈ j.names, s.size ≤ m) ∧ ∀ c ∈ j.items, SzJ m n c
theorem SzJ.le {m m' : Nat} (hm : m ≤ m') : ∀ {n : Nat} {j : Js}, SzJ m n j → SzJ m' n j
 | 0, _, h => h
 | _ + 1, _, h => ⟨Nat.le_trans h.1 hm, Nat.le_trans h.2.1 hm, Nat.le_trans h.2.2.1 hm, fun s hs => Nat.le_trans (h.2.2.2.1 s hs) hm, fun c hc => (h.2.2.2.2 c hc).le hm⟩
theorem SzJ.up {m : Nat} : ∀ {n : Nat} {j : Js}, SzJ m n j → SzJ m (n + 1) j
 | 0, _, h => h.elim
 | _ + 1, _, h => ⟨h.1, h.2.1, h.2.2.1, h.2.2.2.1, fun c hc => (h.2.2.2.2 c hc).up⟩
theorem alikeE_v (n : Nat) (a b : Tr) (w : World) (L : List Nat) (hL : LL L w) (h1 : RdT (n + 1) L w a) (h2 : RdT (n + 1) L w b) (h : a.er = b.er) : CV Try.prog 14 [.agg #[.int .i64 a.kind, .int .i64 a.num, .string a.text, a.nv, a.iv], .agg #[.int .i64 b.kind, .int .i64 b.num, .string b.text, b.nv, b.iv]] w fun v W => v = .bool true := by
 have e := alike_v n a b w L hL h1 h2
 rw [eqJ_t h] at e
 exact e
def OKL (l : List Int) : Prop := ∃ rs, encS rs = some l
theorem ok_nil : OKL [] := ⟨[], rfl⟩
theorem ok_cons {r : Int} {l : List Int} (hr : isRuneB r = true) (h : OKL l) : OKL (encI r ++ l) := by
 obtain ⟨rs, h⟩ := h
 exact ⟨r :: rs, by simp only [encS, hr, if_true, h, Option.map_some]⟩
theorem enc_split {r : Int} {t l : List Int} (h : encS (r :: t) = some l) : isRuneB r = true ∧ ∃ ts, encS t = some ts ∧ l = encI r ++ ts := by
  simp only [encS] at h
  split at h
  · rename_i hr
    cases ht : encS t with
    | none => rw [ht] at h; cases h
    | some ts => rw [ht] at h; cases h; exact ⟨hr, ts, rfl, rfl⟩
  · cases h
theorem ok_app {b : List Int} (hb : OKL b) : ∀ (rs a : List Int), encS rs = some a → OKL (a ++ b)
 | [], a, h => by cases h; exact hb
 | r :: t, a, h => by
  obtain ⟨hr, ts, ht, rfl⟩ := enc_split h
  rw [List.append_assoc]
  exact ok_cons hr (ok_app hb t ts ht)
theorem OKL.app {a b : List Int} (ha : OKL a) (hb : OKL b) : OKL (a ++ b) := by obtain ⟨rs, h⟩ := ha; exact ok_app hb rs a h
theorem ok_bytes : ∀ (rs l : List Int), encS rs = some l → Bytes l
 | [], l, h => by cases h; exact fun x hx => by cases hx
 | r :: t, l, h => by
  obtain ⟨hr, ts, ht, rfl⟩ := enc_split h
  exact (encI_bytes (isRune_range hr).1 (isRune_range hr).2).append (ok_bytes t ts ht)
theorem OKL.bytes {l : List Int} (h : OKL l) : Bytes l := by obtain ⟨rs, h⟩ := h; exact ok_bytes rs l h
theorem ok_rune {r : Int} (h : isRuneB r = true) : OKL (encI r) := by have := ok_cons h ok_nil; rwa [List.append_nil] at this
theorem ok_one {c : Int} (h0 : 0 ≤ c) (h : c < 128) : OKL [c] := by
 have := ok_rune (r := c) (by unfold isRuneB; simp; omega)
 rwa [encI1 h] at this
theorem up_of_ok {l : List Int} (h : OKL l) : upB (strOfNums l) = true := by
 have hB := h.bytes
 obtain ⟨rs, h⟩ := h
 unfold upB
 rw [sb_strOf hB, dec_enc rs l h]
 rfl
theorem enc_hi {r : Int} (h : 128 ≤ r) : ∀ x ∈ encI r, 128 ≤ x := by
  intro x hx
  unfold encI at hx
  rw [if_neg (by omega)] at hx
  split at hx
  · simp at hx; omega
  · split at hx
    · simp at hx; omega
    · simp at hx; omega
theorem ok_cut : ∀ (rs a b : List Int) (c : Int), encS rs = some (a ++ c :: b) → c < 128 → OKL a ∧ OKL b
  | [], a, b, c, h, _ => by
    have := Option.some.inj h
    cases a <;> cases this
  | r :: t, a, b, c, h, hc => by
    obtain ⟨hr, ts, ht, e⟩ := enc_split h
    by_cases hlo : r < 128
    · rw [encI1 hlo] at e
      cases a with
      | nil =>
        rw [List.nil_append, List.singleton_append] at e
        injection e with e1 e2
        exact ⟨ok_nil, ⟨t, by rw [ht, e2]⟩⟩
      | cons x a' =>
        rw [List.cons_append, List.singleton_append] at e
        injection e with e1 e2
        obtain ⟨h1, h2⟩ := ok_cut t a' b c (by rw [ht, e2]) hc
        have := ok_cons hr h1
        rw [encI1 hlo, List.singleton_append, ← e1] at this
        exact ⟨this, h2⟩
    · rcases List.append_eq_append_iff.1 e.symm with ⟨a', rfl, e2⟩ | ⟨c', e1, e2⟩
      · obtain ⟨h1, h2⟩ := ok_cut t a' b c (by rw [ht, e2]) hc
        exact ⟨ok_cons hr h1, h2⟩
      · cases c' with
        | nil =>
          obtain ⟨h1, h2⟩ := ok_cut t [] b c (by rw [ht]; exact congrArg some e2.symm) hc
          rw [List.append_nil] at e1
          exact ⟨by rw [← e1]; exact ok_rune hr, h2⟩
        | cons x c'' =>
          rw [List.cons_append] at e2
          injection e2 with e2 e3
          have := enc_hi (r := r) (by omega) x (by rw [e1]; simp)
          omega
theorem cut_at {l : List Int} {k : Nat} {c : Int} (h : OKL l) (hk : l[k]? = some c) (hc : c < 128) : OKL (l.take k) ∧ OKL (l.drop (k + 1)) := by
 obtain ⟨hlt, he⟩ := List.getElem?_eq_some_iff.1 hk
 obtain ⟨rs, h⟩ := h
 refine ok_cut rs _ _ c ?_ hc
 rw [h, ← he, ← List.drop_eq_getElem_cons hlt, List.take_append_drop]
theorem sb_at {s : ByteArray} {k : Nat} (h : k < s.size) : (sb s)[k]? = some (atS s k) := by
 unfold sb atS
 rw [List.getElem?_map, Array.getElem?_toList, Array.getElem?_eq_getElem (show k < s.data.size from h)]
 rfl
def EndA (s : ByteArray) (k : Nat) : Prop := ∃ j, k = j + 1 ∧ j < s.size ∧ atS s j < 128
theorem EndA.le {s : ByteArray} {k : Nat} (h : EndA s k) : k ≤ s.size := by obtain ⟨j, rfl, h, _⟩ := h; omega
theorem EndA.ok {s : ByteArray} {k : Nat} (h : EndA s k) (hs : OKL (sb s)) : OKL ((sb s).drop k) := by
 obtain ⟨j, rfl, h1, h2⟩ := h
 exact (cut_at hs (sb_at h1) h2).2
def stS (s : ByteArray) : Nat → Nat
 | 0 => 0
 | i + 1 => stN (stS s i) (atS s i)
def sgnS (s : ByteArray) (i : Nat) : Bool := decide (stS s i = 0) && isSign (atS s i)
def preS (s : ByteArray) (g : Int) (i : Nat) : List Int := if (sgnS s i && decide ((g + i) % 2 = 0)) = true then [32, 9] else []
def postS (s : ByteArray) (g : Int) (i : Nat) : List Int := if (sgnS s i && decide ((g + i) % 3 = 0)) = true then [10, 13, 32] else []
def widL (s : ByteArray) (g : Int) : Nat → List Int
 | 0 => []
 | i + 1 => widL s g i ++ (preS s g i ++ ([atS s i] ++ postS s g i))
def posS (s : ByteArray) (g : Int) (i : Nat) : Nat := (widL s g i).length + (preS s g i).length
theorem stS_le (s : ByteArray) : ∀ i, stS s i ≤ 2
 | 0 => Nat.zero_le _
 | i + 1 => by unfold stS stN; (repeat' split) <;> omega
theorem isSign_of {c : Int} (h : c = 91 ∨ c = 93 ∨ c = 123 ∨ c = 125 ∨ c = 44 ∨ c = 58) : isSign c = true := by
 rcases h with h | h | h | h | h | h <;> rw [h] <;> rfl
theorem isSign_not {c : Int} (h : ¬ (c = 91 ∨ c = 93 ∨ c = 123 ∨ c = 125 ∨ c = 44)) : isSign c = decide (c = 58) := by
 unfold isSign
 rw [decide_eq_false (show ¬ c = 91 by omega), decide_eq_false (show ¬ c = 93 by omega), decide_eq_false (show ¬ c = 123 by omega), decide_eq_false (show ¬ c = 125 by omega), decide_eq_false (show ¬ c = 44 by omega)]; rfl
section
variable {s : ByteArray} {g : Int}
theorem atS_out {k : Nat} (h : s.size ≤ k) : atS s k = 0 := by
 unfold atS
 rw [Array.getElem?_eq_none (by simpa using h)]; rfl
theorem sgn_lt {k : Nat} (h : sgnS s k = true) : k < s.size := by
  rcases Nat.lt_or_ge k s.size with h1 | h1
  · exact h1
  · unfold sgnS at h
    rw [atS_out h1] at h
    simp [isSign] at h
theorem widL_ext {i n : Nat} (h : i ≤ n) : ∃ r, widL s g n = widL s g i ++ r := by
  induction n with
  | zero => obtain rfl : i = 0 := by omega
            exact ⟨[], (List.append_nil _).symm⟩
  | succ n ih =>
    rcases Nat.lt_or_eq_of_le h with h1 | rfl
    · obtain ⟨r, hr⟩ := ih (by omega)
      exact ⟨r ++ (preS s g n ++ ([atS s n] ++ postS s g n)), by rw [widL, hr, List.append_assoc]⟩
    · exact ⟨[], (List.append_nil _).symm⟩
theorem widL_get {i n j : Nat} (h : i ≤ n) (hj : j < (widL s g i).length) : (widL s g n)[j]? = (widL s g i)[j]? := by
 obtain ⟨r, hr⟩ := widL_ext (s := s) (g := g) h
 rw [hr, List.getElem?_append_left hj]
theorem widL_succ (k : Nat) : (widL s g (k + 1)).length = posS s g k + 1 + (postS s g k).length := by
 rw [widL]; simp only [List.length_append, List.length_cons, List.length_nil]; unfold posS; omega
theorem widL_at {k n : Nat} (h : k < n) : (widL s g n)[posS s g k]? = some (atS s k) := by
 rw [widL_get (i := k + 1) h (by rw [widL_succ]; omega), widL]
 unfold posS
 rw [List.getElem?_append_right (by omega), List.getElem?_append_right (by omega), show (widL s g k).length + (preS s g k).length - (widL s g k).length - (preS s g k).length = 0 by omega]
 rfl
theorem pre_blank {k : Nat} : ∀ x ∈ preS s g k, isBlank x = true := by
 unfold preS
 split
 · decide
 · intro x hx; cases hx
theorem post_blank {k : Nat} : ∀ x ∈ postS s g k, isBlank x = true := by
 unfold postS
 split
 · decide
 · intro x hx; cases hx
theorem pre_lt {k : Nat} (h : 0 < (preS s g k).length) : sgnS s k = true := by
 unfold preS at h
 split at h
 · rename_i h1; exact (Bool.and_eq_true_iff.1 h1).1
 · cases h
theorem post_lt {k : Nat} (h : 0 < (postS s g k).length) : sgnS s k = true := by
 unfold postS at h
 split at h
 · rename_i h1; exact (Bool.and_eq_true_iff.1 h1).1
 · cases h
theorem wid_pre {k j : Nat} (h1 : (widL s g k).length ≤ j) (h2 : j < posS s g k) : ∃ x, (widL s g s.size)[j]? = some x ∧ isBlank x = true := by
 unfold posS at h2
 have hk := sgn_lt (pre_lt (s := s) (g := g) (k := k) (by omega))
 rw [widL_get (i := k + 1) hk (by rw [widL_succ]; unfold posS; omega), widL, List.getElem?_append_right h1, List.getElem?_append_left (by omega)]
 refine ⟨_, List.getElem?_eq_getElem (by omega), pre_blank _ (List.getElem_mem _)⟩
theorem wid_post {k j : Nat} (hk : k < s.size) (h1 : posS s g k < j) (h2 : j < (widL s g (k + 1)).length) : ∃ x, (widL s g s.size)[j]? = some x ∧ isBlank x = true := by
 rw [widL_get (i := k + 1) hk h2]
 rw [widL_succ] at h2
 unfold posS at h1 h2
 rw [widL, List.getElem?_append_right (by omega), List.getElem?_append_right (by omega), List.getElem?_append_right (by rw [List.length_singleton]; omega), List.length_singleton]
 refine ⟨_, List.getElem?_eq_getElem (by omega), post_blank _ (List.getElem_mem _)⟩
theorem st_sgn {k : Nat} (h : sgnS s k = true) : stS s k = 0 ∧ isSign (atS s k) = true := by
 unfold sgnS at h
 rw [Bool.and_eq_true, decide_eq_true_eq] at h
 exact h
theorem wide_of {t : ByteArray} (ht : sb t = widL s g s.size) : Wide s t (stS s) (posS s g) where
  at_ k hk := by
    have e := widL_at (s := s) (g := g) hk
    have hl : posS s g k < t.size := by rw [← sb_length, ht]; exact (List.getElem?_eq_some_iff.1 e).1
    refine ⟨hl, ?_⟩
    have := sb_at hl
    rw [ht, e] at this
    exact (Option.some.inj this).symm
  fin := by
    have : (preS s g s.size).length = 0 := by
      rcases Nat.eq_zero_or_pos (preS s g s.size).length with h | h
      · exact h
      · exact absurd (sgn_lt (pre_lt h)) (Nat.lt_irrefl _)
    unfold posS
    rw [this, ← ht, sb_length]; rfl
  blank k j hk h1 h2 := by
    have e : ∃ x, (widL s g s.size)[j]? = some x ∧ isBlank x = true := by
      rcases Nat.lt_or_ge j (widL s g (k + 1)).length with h3 | h3
      · exact wid_post hk h1 h3
      · exact wid_pre h3 h2
    obtain ⟨x, hx, hb⟩ := e
    rw [← ht] at hx
    have hl : j < t.size := by rw [← sb_length]; exact (List.getElem?_eq_some_iff.1 hx).1
    rw [sb_at hl] at hx
    rw [Option.some.inj hx]; exact hb
  lead j h := by
    obtain ⟨x, hx, hb⟩ := wid_pre (s := s) (g := g) (k := 0) (Nat.zero_le _) h
    rw [← ht] at hx
    have hl : j < t.size := by rw [← sb_length]; exact (List.getElem?_eq_some_iff.1 hx).1
    rw [sb_at hl] at hx
    rw [Option.some.inj hx]; exact hb
  le k hk := by
    have := widL_succ (s := s) (g := g) k
    show posS s g k < (widL s g (k + 1)).length + _
    omega
  near k hk := by
    rcases Nat.eq_zero_or_pos (postS s g k).length with h1 | h1
    · rcases Nat.eq_zero_or_pos (preS s g (k + 1)).length with h2 | h2
      · left
        have := widL_succ (s := s) (g := g) k
        show (widL s g (k + 1)).length + _ = _
        omega
      · have h3 := pre_lt h2
        exact .inr (.inr ⟨sgn_lt h3, st_sgn h3⟩)
    · exact .inr (.inl (st_sgn (post_lt h1)))
  s0 := rfl
  step k hk := rfl
theorem ok_ascii : ∀ l : List Int, (∀ x ∈ l, 0 ≤ x ∧ x < 128) → OKL l
 | [], _ => ok_nil
 | c :: l, h => by
  have h1 := ok_one (h c (.head _)).1 (h c (.head _)).2
  have := h1.app (ok_ascii l fun x hx => h x (.tail _ hx))
  simpa using this
theorem up_ascii {t : ByteArray} (h : ∀ x ∈ sb t, 0 ≤ x ∧ x < 128) : upB t = true := by
 have := up_of_ok (ok_ascii _ h)
 rwa [strOf_sb] at this
theorem wid_low (h : ∀ k, k < s.size → 0 ≤ atS s k ∧ atS s k < 128) : ∀ n, n ≤ s.size → ∀ x ∈ widL s g n, 0 ≤ x ∧ x < 128
  | 0, _, x, hx => by cases hx
  | n + 1, hn, x, hx => by
    rw [widL] at hx
    have hb : ∀ {c : Int}, isBlank c = true → 0 ≤ c ∧ c < 128 := fun {c} hc => by
      unfold isBlank at hc; simp at hc; omega
    rcases List.mem_append.1 hx with h1 | h1
    · exact wid_low h n (by omega) x h1
    · rcases List.mem_append.1 h1 with h2 | h2
      · exact hb (pre_blank x h2)
      · rcases List.mem_append.1 h2 with h3 | h3
        · rw [List.mem_singleton.1 h3]; exact h n (by omega)
        · exact hb (post_blank x h3)
theorem low_sb (h : ∀ k, k < s.size → 0 ≤ atS s k ∧ atS s k < 128) : ∀ x ∈ sb s, 0 ≤ x ∧ x < 128 := fun x hx => by
 obtain ⟨k, hk⟩ := List.mem_iff_getElem?.1 hx
 have hl : k < s.size := by rw [← sb_length]; exact (List.getElem?_eq_some_iff.1 hk).1
 rw [sb_at hl] at hk
 rw [← Option.some.inj hk]; exact h k hl
theorem par_wide {t : ByteArray} (h : ∀ k, k < s.size → 32 ≤ atS s k ∧ atS s k ≤ 126) (hs : s.size ≤ 1500) (ht : t.size ≤ 8192) (hw : sb t = widL s g s.size) : parJ t = parJ s := by
 have h1 : ∀ k, k < s.size → 0 ≤ atS s k ∧ atS s k < 128 := fun k hk => by have := h k hk; omega
 exact (wide_of hw).par (by omega) ht (up_ascii (low_sb h1)) (up_ascii (by rw [hw]; exact wid_low h1 _ (Nat.le_refl _)))
-- the loop's step, part by part
variable {i : Nat} {wd : ByteArray} {wi tu b : Bool}
theorem sgn_y (hwi : wi = decide (stS s i ≠ 0)) (h : wi = false) (hc : isSign (atS s i) = true) : true = sgnS s i := by
 subst h
 have := of_decide_eq_false hwi.symm
 unfold sgnS; rw [hc, decide_eq_true (Classical.not_not.1 this)]; rfl
theorem sgn_d (hwi : wi = decide (stS s i ≠ 0)) (h : wi = false) (hc : ¬ (atS s i = 91 ∨ atS s i = 93 ∨ atS s i = 123 ∨ atS s i = 125 ∨ atS s i = 44)) : decide (atS s i = 58) = sgnS s i := by
 subst h
 have := of_decide_eq_false hwi.symm
 unfold sgnS; rw [isSign_not hc, decide_eq_true (Classical.not_not.1 this)]; rfl
theorem sgn_n (hwi : wi = decide (stS s i ≠ 0)) (h : wi = true) : false = sgnS s i := by
 subst h
 have := of_decide_eq_true hwi.symm
 unfold sgnS; rw [decide_eq_false this]; rfl
theorem sb_appW (a b : ByteArray) : sb (a ++ b) = sb a ++ sb b := by simp [sb]
theorem sb_extW (s : ByteArray) (i j : Nat) : sb (s.extract i j) = ((sb s).take j).drop i := by
 rw [Lib.extract_eq]
 simp [sb, List.map_take, List.map_drop, List.drop_take]
theorem pre_y (hw : sb wd = widL s g i) (hz : wd.size ≤ 6 * i) (hb : sgnS s i = true) (hd : (g + (i : Int)) % 2 = 0) : sb (wd ++ ⟨#[32, 9]⟩) = widL s g i ++ preS s g i ∧ (wd ++ ⟨#[32, 9]⟩ : ByteArray).size ≤ 6 * i + 2 := by
 refine ⟨?_, by rw [ByteArray.size_append]; show wd.size + 2 ≤ _; omega⟩
 unfold preS
 rw [hb, decide_eq_true hd, sb_appW, hw]; rfl
theorem pre_0 (hw : sb wd = widL s g i) (hz : wd.size ≤ 6 * i) (h : sgnS s i = false ∨ ¬ (g + (i : Int)) % 2 = 0) : sb wd = widL s g i ++ preS s g i ∧ wd.size ≤ 6 * i + 2 := by
 refine ⟨?_, by omega⟩
 unfold preS
 rcases h with h | h
 · rw [h, hw]; exact (List.append_nil _).symm
 · rw [decide_eq_false h, Bool.and_false, hw]; exact (List.append_nil _).symm
theorem sb_one (hi : i < s.size) : sb (s.extract i (i + 1)) = [atS s i] := by
 rw [sb_extW]
 have e := sb_at hi
 have hl : i < (sb s).length := by rw [sb_length]; exact hi
 rw [List.take_add_one, List.drop_append_of_le_length (by rw [List.length_take]; omega), e]
 rw [List.drop_eq_nil_of_le (by rw [List.length_take]; omega)]; rfl
theorem mid_b (hw : sb wd = widL s g i ++ preS s g i) (hz : wd.size ≤ 6 * i + 2) (hi : i < s.size) : sb (wd ++ s.extract i (i + 1)) = widL s g i ++ (preS s g i ++ [atS s i]) ∧ (wd ++ s.extract i (i + 1)).size ≤ 6 * i + 3 := by
 have e := sb_one hi
 have hl : (s.extract i (i + 1)).size = 1 := by rw [← sb_length, e]; rfl
 exact ⟨by rw [sb_appW, hw, e, List.append_assoc], by rw [ByteArray.size_append, hl]; omega⟩
theorem post_y (hw : sb wd = widL s g i ++ (preS s g i ++ [atS s i])) (hz : wd.size ≤ 6 * i + 3) (hb : sgnS s i = true) (hd : (g + (i : Int)) % 3 = 0) : sb (wd ++ ⟨#[10, 13, 32]⟩) = widL s g (i + 1) ∧ (wd ++ ⟨#[10, 13, 32]⟩ : ByteArray).size ≤ 6 * (i + 1) := by
 refine ⟨?_, by rw [ByteArray.size_append]; show wd.size + 3 ≤ _; omega⟩
 rw [widL, postS, hb, decide_eq_true hd, sb_appW, hw]
 simp [sb]
theorem post_0 (hw : sb wd = widL s g i ++ (preS s g i ++ [atS s i])) (hz : wd.size ≤ 6 * i + 3) (h : sgnS s i = false ∨ ¬ (g + (i : Int)) % 3 = 0) : sb wd = widL s g (i + 1) ∧ wd.size ≤ 6 * (i + 1) := by
 refine ⟨?_, by omega⟩
 have e : postS s g i = [] := by
  unfold postS
  rcases h with h | h
  · rw [h]; rfl
  · rw [decide_eq_false h, Bool.and_false]; rfl
 rw [widL, e, hw, List.append_nil]
-- within, turned: what comes of a byte
theorem st_t (htu : tu = decide (stS s i = 2)) (h : tu = true) (hwi : wi = decide (stS s i ≠ 0)) : wi = decide (stS s (i + 1) ≠ 0) ∧ false = decide (stS s (i + 1) = 2) := by
 subst h
 have h2 := of_decide_eq_true htu.symm
 have e : stS s (i + 1) = 1 := by rw [stS, h2]; rfl
 rw [e, hwi, h2]; exact ⟨rfl, rfl⟩
theorem st_b (htu : tu = decide (stS s i = 2)) (h : tu = false) (hwi : wi = decide (stS s i ≠ 0)) (h1 : wi = true) (hc : atS s i = 92) : wi = decide (stS s (i + 1) ≠ 0) ∧ true = decide (stS s (i + 1) = 2) := by
 subst h h1
 have h2 := of_decide_eq_false htu.symm
 have h3 := of_decide_eq_true hwi.symm
 have h4 : stS s i = 1 := by have := stS_le s i; omega
 have e : stS s (i + 1) = 2 := by rw [stS, h4, hc]; rfl
 rw [e]; exact ⟨rfl, rfl⟩
theorem st_q (htu : tu = decide (stS s i = 2)) (h : tu = false) (hwi : wi = decide (stS s i ≠ 0)) (hc : atS s i = 34) : (!wi) = decide (stS s (i + 1) ≠ 0) ∧ tu = decide (stS s (i + 1) = 2) := by
 subst h
 have h2 := of_decide_eq_false htu.symm
 have h5 := stS_le s i
 cases wi with
 | true =>
  have h3 := of_decide_eq_true hwi.symm
  have e : stS s (i + 1) = 0 := by rw [stS, show stS s i = 1 by omega, hc]; rfl
  rw [e]; exact ⟨rfl, rfl⟩
 | false =>
  have h3 := of_decide_eq_false hwi.symm
  have e : stS s (i + 1) = 1 := by rw [stS, show stS s i = 0 by omega, hc]; rfl
  rw [e]; exact ⟨rfl, rfl⟩
theorem st_n (htu : tu = decide (stS s i = 2)) (h : tu = false) (hwi : wi = decide (stS s i ≠ 0)) (hc : ¬ atS s i = 34) (hd : wi = true → ¬ atS s i = 92) : wi = decide (stS s (i + 1) ≠ 0) ∧ tu = decide (stS s (i + 1) = 2) := by
 subst h
 have h2 := of_decide_eq_false htu.symm
 have h5 := stS_le s i
 cases wi with
 | true =>
  have h3 := of_decide_eq_true hwi.symm
  have e : stS s (i + 1) = 1 := by rw [stS, show stS s i = 1 by omega]; exact st1 hc (hd rfl)
  rw [e]; exact ⟨rfl, rfl⟩
 | false =>
  have h3 := of_decide_eq_false hwi.symm
  have e : stS s (i + 1) = 0 := by rw [stS, show stS s i = 0 by omega]; unfold stN; rw [if_neg (by decide), if_neg (by decide), if_neg hc]
  rw [e]; exact ⟨rfl, rfl⟩
end


section
variable {P : Program} {N : Nat} {Q : Exit → Act → World → Prop} {f : Fl} {w : World}
theorem WC.loop4 {α β γ δ : Type} {c : Code} (fr : α → β → γ → δ → Fl) (I : α → β → γ → δ → World → Prop) (μ : α → β → γ → δ → Nat) (a0 : α) (b0 : β) (c0 : γ) (d0 : δ) (hs : Sub (fr a0 b0 c0 d0) f) (h0 : I a0 b0 c0 d0 w)
  (round : ∀ (K : Act → World → Prop) a b c' d w, I a b c' d w → (∀ {f' w'} (a' : α) (b' : β) (c'' : γ) (d' : δ), I a' b' c'' d' w' → μ a' b' c'' d' < μ a b c' d → Sub (fr a' b' c'' d') f' → ∀ x, Fr N x f' → K x w') → WC P N c (Exit.then K Q) (fr a b c' d) w) : WC P N (.loop c) Q f w :=
 WC.loop (σ := α × β × γ × δ) (fun s => fr s.1 s.2.1 s.2.2.1 s.2.2.2) (fun s => I s.1 s.2.1 s.2.2.1 s.2.2.2) (fun s => μ s.1 s.2.1 s.2.2.1 s.2.2.2) (a0, b0, c0, d0) hs h0 fun K s w hI hK => round K s.1 s.2.1 s.2.2.1 s.2.2.2 w hI fun a' b' c' d' h1 h2 h3 => hK (a', b', c', d') h1 h2 h3
end
theorem take_add {α : Type} {l : List α} {k : Nat} {x : α} (h : l[k]? = some x) : l.take k ++ [x] = l.take (k + 1) := by rw [List.take_add_one, h]; rfl
def putN (ns : List ByteArray) (nm : ByteArray) : List ByteArray := if ns[lbT nm ns]? = some nm then ns else insA (lbT nm ns) nm ns
def putT {α : Type} (ns : List ByteArray) (nm : ByteArray) (ts : List α) (x : α) : List α := if ns[lbT nm ns]? = some nm then ts.set (lbT nm ns) x else insA (lbT nm ns) x ts
theorem putJ_eq (j : Js) (nm : ByteArray) (x : Js) : putJ j nm x = .mk 6 0 ⟨#[]⟩ (putN j.names nm) (putT j.names nm j.items x) := by
 unfold putJ putN putT
 split <;> rfl
section
variable {α : Type} {ns : List ByteArray} {nm b : ByteArray} {ts : List α} {x t : α} {i : Nat}
end
abbrev NJ := ByteArray × Js
section
variable {P : Program} {ops : Array Oper} {o : Oper} {N : Nat} {f : Fl} {w : World}
end

section
variable {s : ByteArray} {k y : Nat} {r q x : Int}
end
theorem row_one {R : List (List Value)} {i : Nat} {r : List Value} (h : R[i]? = some r) : (R.drop i).take (i + 1 - i) = [r] := by
 obtain ⟨hl, he⟩ := List.getElem?_eq_some_iff.1 h
 rw [List.drop_eq_getElem_cons hl, he, show i + 1 - i = 1 by omega]
 rfl
theorem lit_row {sp : List (List Value)} {i : Nat} {d : Int} (h : ([34, 92, 47, 8, 12, 10, 13, 9] : List Int)[i]? = some d) : ((([34, 92, 47, 8, 12, 10, 13, 9] : List Int).map fun n => [Value.int .u8 n]) ++ sp)[i]? = some (e8 d) := by
 have hl := (List.getElem?_eq_some_iff.1 h).1
 rw [List.getElem?_append_left (by rw [List.length_map]; exact hl), List.getElem?_map, h]
 rfl
abbrev lit8 : List (List Value) := ([34, 92, 47, 8, 12, 10, 13, 9] : List Int).map fun n => [Value.int .u8 n]
def litR (w : World) (B c : Nat) : Prop := ∃ sp, c = (lit8 ++ sp).length ∧ RwB 1 w B (lit8 ++ sp)
theorem litR.below {w w' : World} {B c : Nat} (h : litR w B c) (hb : Below w.heap.size w w') : litR w' B c := by obtain ⟨sp, e, h⟩ := h; exact ⟨sp, e, h.below hb⟩
theorem litR.len {w : World} {B c : Nat} (h : litR w B c) : 8 ≤ c := by obtain ⟨sp, rfl, h⟩ := h; rw [List.length_append]; exact Nat.le_add_right _ _
theorem litR.row {w : World} {B c i : Nat} {d : Int} (h : litR w B c) (hi : i < 8) (hd : ([34, 92, 47, 8, 12, 10, 13, 9] : List Int)[i]? = some d) : RdF 1 [] w (.slice (some ⟨B, offV c i 0 1, none⟩) (i + 1 - i) (c - i)) ([d].map e8) := by
 have hc := h.len
 obtain ⟨sp, rfl, h⟩ := h
 have hp := h.part (L := []) (by simp) (lo := i) (n := i + 1 - i) (c := (lit8 ++ sp).length - i) (o1 := offV (lit8 ++ sp).length i 0 1) (fun _ => by rw [offV_in (n := 1) (by decide) (by omega)]; omega) (by omega) (by omega)
 rw [row_one (lit_row hd)] at hp
 exact hp
section
variable {s wd : ByteArray} {dp k : Nat} {rl ro : Except Int (Js × Nat)}
end
section
variable {s : ByteArray} {vs : Nat → Except Int (Js × Nat)} {k k' : Nat} {e : Int} {ts : List Js} {st : StO}
end
abbrev tNil (k : Int) : Tr := .mk k 0 ⟨#[]⟩ (.slice none 0 0) [] (.slice none 0 0) []
theorem tNil_rd (k : Int) (m : Nat) (L : List Nat) (w : World) : RdT (m + 1) L w (tNil k) := ⟨RdF.nil (by decide), RdF.nil (by decide), fun c hc => by cases hc⟩
def ObT (t : Tr) : Prop := t.er = .mk 6 0 ⟨#[]⟩ t.names (t.items.map Tr.er) ∧ Rises t.names ∧ t.names.length = t.items.length
theorem ObT.kind {t : Tr} (h : ObT t) : t.kind = 6 := by rw [← er_kind, h.1]; rfl
theorem ObT.put {t x u : Tr} (h : ObT t) {nm : ByteArray} (hn : ¬ t.names[lbT nm t.names]? = some nm) (hu : u.er = putJ t.er nm x.er) : ObT u ∧ u.names = insA (lbT nm t.names) nm t.names ∧ u.items.map Tr.er = insA (lbT nm t.names) x.er (t.items.map Tr.er) ∧ u.names.length = t.names.length + 1 := by
  have hle := lbT_le nm t.names
  rw [h.1, putJ_eq] at hu
  have e1 : u.names = insA (lbT nm t.names) nm t.names := by
    rw [← er_names, hu]
    show putN t.names nm = _
    unfold putN; rw [if_neg hn]
  have e2 : u.items.map Tr.er = insA (lbT nm t.names) x.er (t.items.map Tr.er) := by
    rw [← er_items, hu]
    show putT t.names nm (t.items.map Tr.er) x.er = _
    unfold putT; rw [if_neg hn]
  have l1 : u.names.length = t.names.length + 1 := by rw [e1, insA_len hle]
  refine ⟨⟨?_, by rw [e1]; exact rises_ins h.2.1 hn, ?_⟩, e1, e2, l1⟩
  · rw [hu, e1, e2]
    show Js.mk 6 0 ⟨#[]⟩ (putN t.names nm) (putT t.names nm (t.items.map Tr.er) x.er) = _
    unfold putN putT; rw [if_neg hn, if_neg hn]
  · have := congrArg List.length e2
    rw [List.length_map, insA_len (by rw [List.length_map, ← h.2.2]; exact hle), List.length_map] at this
    rw [l1, this, h.2.2]
abbrev PT := ByteArray × Tr
section
variable {ps : List PT} {i : Nat} {r : PT} {zs : List NJ}
end
end Go.Proofs.Ytpinidlfcifeeaa
namespace Go.Proofs.Ytpinidlfcifeeaa
open Go.RowKit Go.Sort Go.Shelf Go.Lib
set_option linter.unusedVariables false
section
variable {α : Type} [Inhabited α]
end
end Go.Proofs.Ytpinidlfcifeeaa
namespace Go.Proofs.Ytpinidlfcifeeaa
open Go.RowKit
set_option linter.unusedVariables false
set_option linter.unusedSimpArgs false
set_option maxRecDepth 8000
set_option maxHeartbeats 2000000

open Go.Sort Go.Shelf Go.Lib
shelf_lay_g SlLaysF0.n6 Slsf 6 at Try 55 as sortP
def PO := {p : PT // p.2.nv.oneCell' = true ∧ p.2.iv.oneCell' = true}
instance : Inhabited PO := ⟨⟨(⟨#[]⟩, tNil 0), rfl, rfl⟩⟩
open Go.Sort Go.Shelf Go.Lib Go.Proofs

section
variable {ss ps : List PT} {i : Nat} {r p : PT}
end


def WeiP (n : Nat) (t : Tr) (u : Value) (_ : World) : Prop := ∃ z : Int, u = .int .i64 z ∧ 1 ≤ z ∧ z ≤ 3003 ∧ (z ≤ 1000 → SzT 1000 n t)
theorem WeiP.below {n : Nat} {t : Tr} {u : Value} {w w' : World} (h : WeiP n t u w) (_ : Below w.heap.size w w') : WeiP n t u w' := h
def WeiQ (n : Nat) (t : Tr) (m : Int) (u : Value) (_ : World) : Prop := ∃ z : Int, u = .int .i64 (z + m) ∧ 1 ≤ z ∧ z ≤ 3003 ∧ (z ≤ 1000 → SzT 1000 n t)
theorem WeiQ.below {n : Nat} {t : Tr} {m : Int} {u : Value} {w w' : World} (h : WeiQ n t m u w) (_ : Below w.heap.size w w') : WeiQ n t m u w' := h
def MkR (x : Except Int Js) (t : Tr) (e : Int) : Prop := (e = 0 ∧ x = .ok t.er) ∨ (e ≠ 0 ∧ x = .error e ∧ t = tNil 0)
theorem mkR_same {x : Except Int Js} {t u : Tr} {e f : Int} (h : MkR x t e) (k : MkR x u f) : e = f ∧ t.er = u.er := by
 rcases h with ⟨rfl, h⟩ | ⟨h0, h, rfl⟩ <;> rcases k with ⟨rfl, k⟩ | ⟨k0, k, rfl⟩
 · rw [h] at k; exact ⟨rfl, Except.ok.inj k⟩
 · rw [h] at k; cases k
 · rw [h] at k; cases k
 · rw [h] at k; exact ⟨Except.error.inj k, rfl⟩
set_option maxHeartbeats 1000000 in
theorem rPrint_v (s : ByteArray) (w : World) (L : List Nat) (hL : LL L w)   (hlen : s.size ≤ 1000000) : CV Try.prog 31 [.string s] w fun v W => ∃ b, v = .bool b ∧ (b = true → ∀ k, k < s.size → 32 ≤ atS s k ∧ atS s k ≤ 126) := by
 refine cv_enter (N := 20) (f := [(0, .string s)]) Try.func31 rfl rfl rfl rfl fun Q hQ hE => ?_
 have hB := Below.refl w.heap.size w
 refine Sq fun K1 hK1 => (Rg (Pu rfl (Ni (hK1 (Sq fun K2 hK2 => (Sq fun K3 hK3 => (Rg ?_)))))))
 refine Pu rfl (Ni (hK3 (WC.block ?_)))
 refine WC.loop (fun (i : Nat) => [(0, .string s), (2, .bool false), (3, .int .i64 (i : Int))]) (fun (i : Nat) W => i ≤ s.size ∧ (∀ k, k < i → 32 ≤ atS s k ∧ atS s k ≤ 126) ∧ Below w.heap.size w W ∧ LL (L) W) (fun (i : Nat) => s.size - i) 0 (by repeat first | exact trivial | exact And.intro rfl trivial | refine And.intro rfl ?_ | refine And.intro (congrArg (fun z : Int => some (Value.int .i64 z)) (by omega)) ?_) ⟨Nat.zero_le _, (fun k h => by omega), hB, hL⟩ ?_
 clear hB hL
 rintro K4 i W5 ⟨hi, hv, hB, hL⟩ hK4
 refine Sq fun K6 hK6 => (Sq fun K7 hK7 => (Rg (Pu rfl (Pu rfl (Va (dx_lenT rfl Try.underlying9 rfl) rfl rfl (Va (dx_lss rfl rfl rfl) rfl rfl (Ni ?_)))))))
 refine hK7 ?_
 refine WC.cond rfl (fun c8 => ?_) (fun c8 => ?_)
 ·
  replace c8 := dT c8
  refine WC.skip (hK6 (Sq fun K9 hK9 => (WC.block (Sq fun K10 hK10 => (Rg (Pu rfl (Pu rfl ?_)))))))
  refine Va (dx_at i rfl Try.underlying9 rfl rfl (by omega) (by omega)) rfl rfl (Va (dx_lss rfl rfl rfl) rfl rfl (Pu rfl ?_))
  refine WL.split 14 rfl (fun g11 => ?_) (fun g11 => ?_)
  ·
   replace g11 := dT g11
   refine Of rfl (Of rfl (Of rfl (Of rfl (Pu rfl (Ni (hK10 (WC.condT rfl ?_)))))))
   refine Sq fun K12 hK12 => (Rg (Pu rfl (Ni (hK12 ?_))))
   exact WC.ret fun a_ ha_ => hQ (cv_ret1 rfl (.tmp rfl) ⟨_, rfl, fun h => by cases h⟩ hB ha_)
  ·
   replace g11 := dF g11
   refine Pu rfl (Pu rfl (Va (dx_at i rfl Try.underlying9 rfl rfl (by omega) (by omega)) rfl rfl (Va (dx_gtr rfl rfl rfl) rfl rfl (Pu rfl (Ni (hK10 ?_))))))
   refine WC.cond rfl (fun c13 => ?_) (fun c13 => ?_)
   ·
    replace c13 := dT c13
    refine Sq fun K14 hK14 => (Rg (Pu rfl (Ni (hK14 ?_))))
    exact WC.ret fun a_ ha_ => hQ (cv_ret1 rfl (.tmp rfl) ⟨_, rfl, fun h => by cases h⟩ hB ha_)
   ·
    replace c13 := dF c13
    refine WC.skip (hK9 (Rg (Pu rfl (Va (dx_add (r := (i : Int) + 1) rfl rfl rfl (wrap64_id (by omega))) rfl rfl (Pu rfl (Ni ?_))))))
    exact hK4 (i + 1) ⟨(by omega), (fun k hk => by rcases Nat.lt_or_ge k i with h_ | h_; exact hv k h_; obtain rfl : k = i := (by omega); omega), hB, hL⟩ (by omega) (by repeat first | exact trivial | exact And.intro rfl trivial | refine And.intro rfl ?_ | refine And.intro (congrArg (fun z : Int => some (Value.int .i64 z)) (by omega)) ?_)
 ·
  replace c8 := dF c8
  refine WC.exit ?_
  refine hK2 (Sq fun K15 hK15 => (Rg (Pu rfl (Ni (hK15 ?_)))))
  exact WC.ret fun a_ ha_ => hQ (cv_ret1 rfl (.tmp rfl) ⟨_, rfl, fun _ k hk => hv k (by omega)⟩ hB ha_)

theorem jPar_u (s : ByteArray) (w : World) (L : List Nat) (hL : LL L w) : CV Try.prog 12 [.string s] w fun v W => ∃ (t : Tr) (e : Int), v = .tuple #[.agg #[.int .i64 t.kind, .int .i64 t.num, .string t.text, t.nv, t.iv], .int .i64 e] ∧ MkR (parJ s) t e ∧ RdT 13 L W t :=
 (jParse_v s w L hL).mono fun v W _ k => by
  rcases k with ⟨t, e1, e2, e3⟩ | ⟨e, e1, e0, e2⟩
  · exact ⟨t, 0, e1, .inl ⟨rfl, e2⟩, e3⟩
  · exact ⟨tNil 0, e, e1, .inr ⟨e0, e2, rfl⟩, tNil_rd _ _ _ _⟩
set_option maxHeartbeats 2000000 in
theorem JsonBlanks_v (s : ByteArray) (g : Int) (w : World) (L : List Nat) (hL : LL L w)   (hg0 : 0 ≤ g) (hg1 : g ≤ 255) : CV Try.prog 8 [.string s, .int .u8 g] w fun v W => v = .bool true := by
 refine cv_enter (N := 123) (f := [(0, .string s), (1, .int .u8 g)]) Try.func8 rfl rfl rfl rfl fun Q hQ hE => ?_
 have hB := Below.refl w.heap.size w
 have hL0 := hL
 refine Sq fun K1 hK1 => (Rg (Pu rfl (Ni (hK1 (Sq fun K2 hK2 => (Sq fun K3 hK3 => (Rg ?_)))))))
 refine Ge (dx_cv rfl Try.func11 rfl rfl rfl (alive_v w _ hL)) rfl rfl ?_
 rintro _ W5 ⟨rfl, b4⟩
 replace hB := below_then hB b4
 replace hL := LL.below hL b4
 refine Va (dx_not rfl rfl) rfl rfl (Ni (hK3 (WC.condF rfl (WC.skip (hK2 (Sq fun K6 hK6 => (Sq fun K7 hK7 => ?_)))))))
 refine Rg (Pu rfl (Va (dx_lenT rfl Try.underlying9 rfl) rfl rfl (Va (dx_gtr rfl rfl rfl) rfl rfl (Pu rfl ?_))))
 refine WL.split 20 rfl (fun g8 => ?_) (fun g8 => ?_)
 ·
  replace g8 := dT g8
  refine Of rfl (Of rfl (Of rfl (Pu rfl (Ni (hK7 (WC.condT rfl (Sq fun K9 hK9 => ?_)))))))
  refine Rg (Pu rfl (Ni (hK9 ?_)))
  exact WC.ret fun a_ ha_ => hQ (cv_ret1 rfl (.tmp rfl) rfl hB ha_)
 ·
  replace g8 := dF g8
  refine Pu rfl ?_
  refine Ge (dx_cv rfl Try.func31 rfl rfl rfl (rPrint_v s W5 _ hL (by omega))) rfl rfl ?_
  rintro _ W11 ⟨⟨pb, rfl, hpb⟩, b10⟩
  replace hB := below_then hB b10
  replace hL := LL.below hL b10
  refine Va (dx_not rfl rfl) rfl rfl (Pu rfl (Ni (hK7 ?_)))
  refine WC.cond rfl (fun c12 => ?_) (fun c12 => ?_)
  ·
   replace c12 := bnot_t c12
   replace c12 := bvar_f c12
   refine Sq fun K13 hK13 => (Rg (Pu rfl (Ni (hK13 ?_))))
   exact WC.ret fun a_ ha_ => hQ (cv_ret1 rfl (.tmp rfl) rfl hB ha_)
  ·
   replace c12 := bnot_f c12
   refine WC.skip (hK6 (Sq fun K14 hK14 => ?_))
   have hpr := hpb (by first | assumption | simp_all)
   refine Rg (Pu rfl ?_)
   refine Ge (dx_cv rfl Try.func12 rfl rfl rfl (jPar_u s W11 _ hL)) rfl rfl ?_
   rintro _ W16 ⟨⟨t, e, rfl, hte, ht⟩, b15⟩
   replace hB := below_then hB b15
   replace hL := LL.below hL b15
   refine Pu rfl (Pu rfl (Pu rfl ?_))
   refine Ge (dx_alloc rfl ty_zero_26 rfl) rfl rfl ?_
   rintro _ W17 ⟨rfl, k18, b19, z20⟩
   have l21 := hB.size
   replace ht := ht.more b19 (Nat.le_refl _)
   replace hB := below_then hB b19
   replace hL := LL.more hL z20
   refine WL.do (dx_store (cs' := [.int .i64 t.kind, .int .i64 t.num, .string t.text, t.nv, t.iv]) (vs := [.int .i64 t.kind, .int .i64 t.num, .string t.text, t.nv, t.iv]) rfl ty_size_26_5 rfl rfl rfl (oc_cons rfl (oc_cons rfl (oc_cons rfl (oc_cons (ht.1).one (oc_cons (ht.2.1).one oc_nil))))) k18 rfl (Nat.le_of_ble_eq_true rfl) rfl) rfl ?_
   rintro _ W22 ⟨k24, o23⟩
   clear k18
   replace ht := ht.only o23 (.head _)
   replace hB := o23.below hB l21
   replace hL := LL.only hL o23
   refine Pu rfl (Ni (hK14 (Sq fun K25 hK25 => (Rg (Pu rfl (Ni (hK25 ?_)))))))
   refine Sq fun K26 hK26 => (Rg (Pu rfl (Pu rfl (Ni (hK26 (Sq fun K27 hK27 => (Sq fun K28 hK28 => ?_)))))))
   refine Rg (Pu rfl (Ni (hK28 (WC.block ?_))))
   refine WC.loop4 (fun (i : Nat) (wd : ByteArray) (wi : Bool) (tu : Bool) => [(0, .string s), (1, .int .u8 g), (5, .pointer (some ⟨W16.heap.size, 0, none⟩)), (6, .int .i64 e), (10, .int .i64 (i : Int)), (7, .string wd), (8, .bool wi), (9, .bool tu)]) (fun (i : Nat) (wd : ByteArray) (wi : Bool) (tu : Bool) W => i ≤ s.size ∧ sb wd = widL s g i ∧ wd.size ≤ 6 * i ∧ wi = decide (stS s i ≠ 0) ∧ tu = decide (stS s i = 2) ∧ Below w.heap.size w W ∧ LL (W16.heap.size :: L) W ∧ RdT 13 (W16.heap.size :: L) W t ∧ Blk W W16.heap.size [.int .i64 t.kind, .int .i64 t.num, .string t.text, t.nv, t.iv]) (fun (i : Nat) (wd : ByteArray) (wi : Bool) (tu : Bool) => s.size - i) 0 ⟨#[]⟩ false false (by repeat first | exact trivial | exact And.intro rfl trivial | refine And.intro rfl ?_ | refine And.intro (congrArg (fun z : Int => some (Value.int .i64 z)) (by omega)) ?_) ⟨Nat.zero_le _, rfl, (by decide), rfl, rfl, hB, hL, ht, k24⟩ ?_
   clear ht k24 hB hL
   rintro K29 i wd wi tu W30 ⟨hi, hw, hz, hwi, htu, hB, hL, ht, k24⟩ hK29
   refine Sq fun K31 hK31 => (Sq fun K32 hK32 => (Rg (Pu rfl (Pu rfl (Va (dx_lenT rfl Try.underlying9 rfl) rfl rfl (Va (dx_lss rfl rfl rfl) rfl rfl (Ni ?_)))))))
   refine hK32 ?_
   refine WC.cond rfl (fun c33 => ?_) (fun c33 => ?_)
   ·
    replace c33 := dT c33
    refine WC.skip (hK31 (Sq fun K34 hK34 => (WC.block (Sq fun K35 hK35 => (Rg (Pu rfl (Pu rfl ?_)))))))
    refine Va (dx_at i rfl Try.underlying9 rfl rfl (by omega) (by omega)) rfl rfl (Pu rfl (Ni (hK35 (Sq fun K36 hK36 => ?_))))
    have hJ12 : ∀ (b_ : Bool) (f_ : Fl), b_ = sgnS s i → Sub [(0, .string s), (1, .int .u8 g), (5, .pointer (some ⟨W16.heap.size, 0, none⟩)), (6, .int .i64 e), (10, .int .i64 (i : Int)), (7, .string wd), (8, .bool wi), (9, .bool tu), (11, .int .u8 (atS s i)), (12, .bool b_)] f_ → ∀ a, Fr 123 a f_ → K36 a W30 := by
     intro b_ f_ hb_ hs_
     have hsg := hb_
     refine hK36 (WC.sub hs_ ?_)
     refine Sq fun K37 hK37 => ?_
     have hJ13 : ∀ (x_ : ByteArray) (f_ : Fl), (sb x_ = widL s g i ++ preS s g i ∧ x_.size ≤ 6 * i + 2) → Sub [(0, .string s), (1, .int .u8 g), (5, .pointer (some ⟨W16.heap.size, 0, none⟩)), (6, .int .i64 e), (10, .int .i64 (i : Int)), (7, .string x_), (8, .bool wi), (9, .bool tu), (11, .int .u8 (atS s i)), (12, .bool b_)] f_ → ∀ a, Fr 123 a f_ → K37 a W30 := by
      intro x_ f_ hb_ hs_
      obtain ⟨hw2, hz2⟩ := hb_
      refine hK37 (WC.sub hs_ ?_)
      refine Sq fun K38 hK38 => ?_
      obtain ⟨hw3, hz3⟩ := mid_b hw2 hz2 (by omega)
      have hx1 : (s.extract i (i + 1)).size ≤ 1 := by rw [← sb_length, sb_one (by omega)]; exact Nat.le_refl _
      refine Rg (Pu rfl (Pu rfl (Pu rfl (Pu rfl (Va (dx_add (r := (i : Int) + 1) rfl rfl rfl (wrap64_id (by omega))) rfl rfl (Va (dx_slTLH i (i + 1) rfl Try.underlying9 rfl rfl rfl (by omega) (by omega) (by omega) (by omega)) rfl rfl (Va (dx_addT rfl rfl rfl (by omega)) rfl rfl ?_)))))))
      refine Pu rfl (Ni (hK38 (Sq fun K39 hK39 => ?_)))
      have hJ16 : ∀ (y_ : ByteArray) (f_ : Fl), (sb y_ = widL s g (i + 1) ∧ y_.size ≤ 6 * (i + 1)) → Sub [(0, .string s), (1, .int .u8 g), (5, .pointer (some ⟨W16.heap.size, 0, none⟩)), (6, .int .i64 e), (10, .int .i64 (i : Int)), (7, .string y_), (8, .bool wi), (9, .bool tu), (11, .int .u8 (atS s i)), (12, .bool b_)] f_ → ∀ a, Fr 123 a f_ → K39 a W30 := by
       intro y_ f_ hb_ hs_
       obtain ⟨hw, hz⟩ := hb_
       refine hK39 (WC.sub hs_ ?_)
       refine WC.block (Sq fun K40 hK40 => (Rg (Pu rfl (Pu rfl (Ni (hK40 ?_))))))
       refine WC.cond rfl (fun c41 => ?_) (fun c41 => ?_)
       ·
        refine Rg (Pu rfl (Ni (hK34 (Rg (Pu rfl (Va (dx_add (r := (i : Int) + 1) rfl rfl rfl (wrap64_id (by omega))) rfl rfl (Pu rfl ?_)))))))
        refine Ni ?_
        exact hK29 (i + 1) y_ wi false ⟨(by omega), hw, hz, (st_t htu (by first | assumption | exact Bool.eq_false_iff.2 (by assumption)) hwi).1, (st_t htu (by first | assumption | exact Bool.eq_false_iff.2 (by assumption)) hwi).2, hB, hL, ht, k24⟩ (by omega) (by repeat first | exact trivial | exact And.intro rfl trivial | refine And.intro rfl ?_ | refine And.intro (congrArg (fun z : Int => some (Value.int .i64 z)) (by omega)) ?_)
       ·
        replace c41 := bvar_f c41
        refine Sq fun K42 hK42 => (Rg (Pu rfl (Pu rfl ?_)))
        refine WL.split 98 rfl (fun g43 => ?_) (fun g43 => ?_)
        ·
         refine Pu rfl (Va (dx_eql rfl rfl rfl) rfl rfl (Pu rfl (Pu rfl (Ni (hK42 ?_)))))
         refine WC.cond rfl (fun c44 => ?_) (fun c44 => ?_)
         ·
          replace c44 := dT c44
          refine Rg (Pu rfl (Ni (hK34 (Rg (Pu rfl (Va (dx_add (r := (i : Int) + 1) rfl rfl rfl (wrap64_id (by omega))) rfl rfl (Pu rfl ?_)))))))
          refine Ni ?_
          exact hK29 (i + 1) y_ wi true ⟨(by omega), hw, hz, (st_b htu (by first | assumption | exact Bool.eq_false_iff.2 (by assumption)) hwi (by first | assumption | exact Bool.eq_false_iff.2 (by assumption)) (by first | assumption | exact Bool.eq_false_iff.2 (by assumption))).1, (st_b htu (by first | assumption | exact Bool.eq_false_iff.2 (by assumption)) hwi (by first | assumption | exact Bool.eq_false_iff.2 (by assumption)) (by first | assumption | exact Bool.eq_false_iff.2 (by assumption))).2, hB, hL, ht, k24⟩ (by omega) (by repeat first | exact trivial | exact And.intro rfl trivial | refine And.intro rfl ?_ | refine And.intro (congrArg (fun z : Int => some (Value.int .i64 z)) (by omega)) ?_)
         ·
          replace c44 := dF c44
          refine Sq fun K45 hK45 => (Rg (Pu rfl (Va (dx_eql rfl rfl rfl) rfl rfl (Pu rfl (Ni (hK45 ?_))))))
          refine WC.cond rfl (fun c46 => ?_) (fun c46 => ?_)
          ·
           replace c46 := dT c46
           refine Rg (Pu rfl (Va (dx_not rfl rfl) rfl rfl (Pu rfl (Ni (hK34 (Rg (Pu rfl ?_)))))))
           refine Va (dx_add (r := (i : Int) + 1) rfl rfl rfl (wrap64_id (by omega))) rfl rfl (Pu rfl (Ni ?_))
           exact hK29 (i + 1) y_ (!wi) tu ⟨(by omega), hw, hz, (st_q htu (by first | assumption | exact Bool.eq_false_iff.2 (by assumption)) hwi (by first | assumption | exact Bool.eq_false_iff.2 (by assumption))).1, (st_q htu (by first | assumption | exact Bool.eq_false_iff.2 (by assumption)) hwi (by first | assumption | exact Bool.eq_false_iff.2 (by assumption))).2, hB, hL, ht, k24⟩ (by omega) (by repeat first | exact trivial | exact And.intro rfl trivial | refine And.intro rfl ?_ | refine And.intro (congrArg (fun z : Int => some (Value.int .i64 z)) (by omega)) ?_)
          ·
           replace c46 := dF c46
           refine WC.skip (hK34 (Rg (Pu rfl (Va (dx_add (r := (i : Int) + 1) rfl rfl rfl (wrap64_id (by omega))) rfl rfl (Pu rfl (Ni ?_))))))
           exact hK29 (i + 1) y_ wi tu ⟨(by omega), hw, hz, (st_n htu (by first | assumption | exact Bool.eq_false_iff.2 (by assumption)) hwi (by first | assumption | exact Bool.eq_false_iff.2 (by assumption)) (fun h_ => by first | assumption | (rw [h_] at *; simp_all; done) | simp_all)).1, (st_n htu (by first | assumption | exact Bool.eq_false_iff.2 (by assumption)) hwi (by first | assumption | exact Bool.eq_false_iff.2 (by assumption)) (fun h_ => by first | assumption | (rw [h_] at *; simp_all; done) | simp_all)).2, hB, hL, ht, k24⟩ (by omega) (by repeat first | exact trivial | exact And.intro rfl trivial | refine And.intro rfl ?_ | refine And.intro (congrArg (fun z : Int => some (Value.int .i64 z)) (by omega)) ?_)
        ·
         replace g43 := bvar_f g43
         refine Of rfl (Of rfl (Pu rfl (Pu rfl (Ni (hK42 (WC.condF rfl (Sq fun K47 hK47 => ?_)))))))
         refine Rg (Pu rfl (Va (dx_eql rfl rfl rfl) rfl rfl (Pu rfl (Ni (hK47 ?_)))))
         refine WC.cond rfl (fun c48 => ?_) (fun c48 => ?_)
         ·
          replace c48 := dT c48
          refine Rg (Pu rfl (Va (dx_not rfl rfl) rfl rfl (Pu rfl (Ni (hK34 (Rg (Pu rfl ?_)))))))
          refine Va (dx_add (r := (i : Int) + 1) rfl rfl rfl (wrap64_id (by omega))) rfl rfl (Pu rfl (Ni ?_))
          exact hK29 (i + 1) y_ (!wi) tu ⟨(by omega), hw, hz, (st_q htu (by first | assumption | exact Bool.eq_false_iff.2 (by assumption)) hwi (by first | assumption | exact Bool.eq_false_iff.2 (by assumption))).1, (st_q htu (by first | assumption | exact Bool.eq_false_iff.2 (by assumption)) hwi (by first | assumption | exact Bool.eq_false_iff.2 (by assumption))).2, hB, hL, ht, k24⟩ (by omega) (by repeat first | exact trivial | exact And.intro rfl trivial | refine And.intro rfl ?_ | refine And.intro (congrArg (fun z : Int => some (Value.int .i64 z)) (by omega)) ?_)
         ·
          replace c48 := dF c48
          refine WC.skip (hK34 (Rg (Pu rfl (Va (dx_add (r := (i : Int) + 1) rfl rfl rfl (wrap64_id (by omega))) rfl rfl (Pu rfl (Ni ?_))))))
          exact hK29 (i + 1) y_ wi tu ⟨(by omega), hw, hz, (st_n htu (by first | assumption | exact Bool.eq_false_iff.2 (by assumption)) hwi (by first | assumption | exact Bool.eq_false_iff.2 (by assumption)) (fun h_ => by first | assumption | (rw [h_] at *; simp_all; done) | simp_all)).1, (st_n htu (by first | assumption | exact Bool.eq_false_iff.2 (by assumption)) hwi (by first | assumption | exact Bool.eq_false_iff.2 (by assumption)) (fun h_ => by first | assumption | (rw [h_] at *; simp_all; done) | simp_all)).2, hB, hL, ht, k24⟩ (by omega) (by repeat first | exact trivial | exact And.intro rfl trivial | refine And.intro rfl ?_ | refine And.intro (congrArg (fun z : Int => some (Value.int .i64 z)) (by omega)) ?_)
      refine Sq fun K49 hK49 => (Rg (Pu rfl (Pu rfl ?_)))
      refine WL.split 84 rfl (fun g50 => ?_) (fun g50 => ?_)
      ·
       refine Pu rfl (Va (dx_conv (r := g) rfl Try.underlying5 Try.underlying3 rfl (wrap64_id (by omega))) rfl rfl (Pu rfl (Va (dx_add (r := g + (i : Int)) rfl rfl rfl (wrap64_id (by omega))) rfl rfl (Va (dx_rem (r := (g + (i : Int)) % 3) rfl rfl rfl (by omega) (Int.tmod_eq_emod_of_nonneg (by omega))) rfl rfl (Va (dx_eql rfl rfl rfl) rfl rfl (Pu rfl (Ni ?_)))))))
       refine hK49 ?_
       refine WC.cond rfl (fun c51 => ?_) (fun c51 => ?_)
       ·
        replace c51 := dT c51
        have hq1 : ({ data := #[10, 13, 32] } : ByteArray).size = 3 := rfl
        refine Rg (Pu rfl (Va (dx_addT rfl rfl rfl (by omega)) rfl rfl (Pu rfl (Ni ?_))))
        exact hJ16 ((x_ ++ ((s).extract i (i + 1))) ++ ({ data := #[10, 13, 32] })) _ (by first | exact post_y hw3 hz3 (hsg.symm.trans (by first | assumption | exact Bool.eq_false_iff.2 (by assumption))) (by assumption) | exact post_0 hw3 hz3 (.inl (hsg.symm.trans (by first | assumption | exact Bool.eq_false_iff.2 (by assumption)))) | exact post_0 hw3 hz3 (.inr (by assumption))) (by repeat first | exact trivial | exact And.intro rfl trivial | refine And.intro rfl ?_)
       ·
        replace c51 := dF c51
        refine WC.skip ?_
        exact hJ16 (x_ ++ ((s).extract i (i + 1))) _ (by first | exact post_y hw3 hz3 (hsg.symm.trans (by first | assumption | exact Bool.eq_false_iff.2 (by assumption))) (by assumption) | exact post_0 hw3 hz3 (.inl (hsg.symm.trans (by first | assumption | exact Bool.eq_false_iff.2 (by assumption)))) | exact post_0 hw3 hz3 (.inr (by assumption))) (by repeat first | exact trivial | exact And.intro rfl trivial | refine And.intro rfl ?_)
      ·
       replace g50 := bvar_f g50
       refine Of rfl (Of rfl (Of rfl (Of rfl (Of rfl (Of rfl (Pu rfl (Ni ?_)))))))
       refine hK49 (WC.condF rfl (WC.skip ?_))
       exact hJ16 (x_ ++ ((s).extract i (i + 1))) _ (by first | exact post_y hw3 hz3 (hsg.symm.trans (by first | assumption | exact Bool.eq_false_iff.2 (by assumption))) (by assumption) | exact post_0 hw3 hz3 (.inl (hsg.symm.trans (by first | assumption | exact Bool.eq_false_iff.2 (by assumption)))) | exact post_0 hw3 hz3 (.inr (by assumption))) (by repeat first | exact trivial | exact And.intro rfl trivial | refine And.intro rfl ?_)
     refine Sq fun K52 hK52 => (Rg (Pu rfl (Pu rfl ?_)))
     refine WL.split 66 rfl (fun g53 => ?_) (fun g53 => ?_)
     ·
      refine Pu rfl (Va (dx_conv (r := g) rfl Try.underlying5 Try.underlying3 rfl (wrap64_id (by omega))) rfl rfl (Pu rfl (Va (dx_add (r := g + (i : Int)) rfl rfl rfl (wrap64_id (by omega))) rfl rfl (Va (dx_rem (r := (g + (i : Int)) % 2) rfl rfl rfl (by omega) (Int.tmod_eq_emod_of_nonneg (by omega))) rfl rfl (Va (dx_eql rfl rfl rfl) rfl rfl (Pu rfl (Ni ?_)))))))
      refine hK52 ?_
      refine WC.cond rfl (fun c54 => ?_) (fun c54 => ?_)
      ·
       replace c54 := dT c54
       have hq1 : ({ data := #[32, 9] } : ByteArray).size = 2 := rfl
       refine Rg (Pu rfl (Va (dx_addT rfl rfl rfl (by omega)) rfl rfl (Pu rfl (Ni ?_))))
       exact hJ13 (wd ++ ({ data := #[32, 9] })) _ (by first | exact pre_y hw hz (hsg.symm.trans (by first | assumption | exact Bool.eq_false_iff.2 (by assumption))) (by assumption) | exact pre_0 hw hz (.inl (hsg.symm.trans (by first | assumption | exact Bool.eq_false_iff.2 (by assumption)))) | exact pre_0 hw hz (.inr (by assumption))) (by repeat first | exact trivial | exact And.intro rfl trivial | refine And.intro rfl ?_)
      ·
       replace c54 := dF c54
       refine WC.skip ?_
       exact hJ13 wd _ (by first | exact pre_y hw hz (hsg.symm.trans (by first | assumption | exact Bool.eq_false_iff.2 (by assumption))) (by assumption) | exact pre_0 hw hz (.inl (hsg.symm.trans (by first | assumption | exact Bool.eq_false_iff.2 (by assumption)))) | exact pre_0 hw hz (.inr (by assumption))) (by repeat first | exact trivial | exact And.intro rfl trivial | refine And.intro rfl ?_)
     ·
      replace g53 := bvar_f g53
      refine Of rfl (Of rfl (Of rfl (Of rfl (Of rfl (Of rfl (Pu rfl (Ni ?_)))))))
      refine hK52 (WC.condF rfl (WC.skip ?_))
      exact hJ13 wd _ (by first | exact pre_y hw hz (hsg.symm.trans (by first | assumption | exact Bool.eq_false_iff.2 (by assumption))) (by assumption) | exact pre_0 hw hz (.inl (hsg.symm.trans (by first | assumption | exact Bool.eq_false_iff.2 (by assumption)))) | exact pre_0 hw hz (.inr (by assumption))) (by repeat first | exact trivial | exact And.intro rfl trivial | refine And.intro rfl ?_)
    refine Rg (Pu rfl (Va (dx_not rfl rfl) rfl rfl (Pu rfl ?_)))
    refine WL.split 41 rfl (fun g55 => ?_) (fun g55 => ?_)
    ·
     replace g55 := bnot_t g55
     replace g55 := bvar_f g55
     refine Pu rfl (Va (dx_eql rfl rfl rfl) rfl rfl (Pu rfl ?_))
     refine WL.split 44 rfl (fun g56 => ?_) (fun g56 => ?_)
     ·
      replace g56 := dT g56
      refine Of rfl (Of rfl (Pu rfl (Pu rfl (Of rfl (Of rfl (Pu rfl (Pu rfl ?_)))))))
      refine Of rfl (Of rfl (Pu rfl (Pu rfl (Of rfl (Of rfl (Pu rfl (Pu rfl ?_)))))))
      refine Of rfl (Of rfl (Pu rfl (Pu rfl (Pu rfl (Ni ?_)))))
      exact hJ12 true _ (by first | exact sgn_n hwi (by first | assumption | exact Bool.eq_false_iff.2 (by assumption)) | exact sgn_y hwi (by first | assumption | exact Bool.eq_false_iff.2 (by assumption)) (isSign_of (by omega)) | exact sgn_d hwi (by first | assumption | exact Bool.eq_false_iff.2 (by assumption)) (by omega)) (by repeat first | exact trivial | exact And.intro rfl trivial | refine And.intro rfl ?_)
     ·
      replace g56 := dF g56
      refine Pu rfl (Va (dx_eql rfl rfl rfl) rfl rfl (Pu rfl (Pu rfl ?_)))
      refine WL.split 48 rfl (fun g57 => ?_) (fun g57 => ?_)
      ·
       replace g57 := dT g57
       refine Of rfl (Of rfl (Pu rfl (Pu rfl (Of rfl (Of rfl (Pu rfl (Pu rfl ?_)))))))
       refine Of rfl (Of rfl (Pu rfl (Pu rfl (Of rfl (Of rfl (Pu rfl (Pu rfl ?_)))))))
       refine Pu rfl (Ni ?_)
       exact hJ12 true _ (by first | exact sgn_n hwi (by first | assumption | exact Bool.eq_false_iff.2 (by assumption)) | exact sgn_y hwi (by first | assumption | exact Bool.eq_false_iff.2 (by assumption)) (isSign_of (by omega)) | exact sgn_d hwi (by first | assumption | exact Bool.eq_false_iff.2 (by assumption)) (by omega)) (by repeat first | exact trivial | exact And.intro rfl trivial | refine And.intro rfl ?_)
      ·
       replace g57 := dF g57
       refine Pu rfl (Va (dx_eql rfl rfl rfl) rfl rfl (Pu rfl (Pu rfl ?_)))
       refine WL.split 52 rfl (fun g58 => ?_) (fun g58 => ?_)
       ·
        replace g58 := dT g58
        refine Of rfl (Of rfl (Pu rfl (Pu rfl (Of rfl (Of rfl (Pu rfl (Pu rfl ?_)))))))
        refine Of rfl (Of rfl (Pu rfl (Pu rfl (Pu rfl (Ni ?_)))))
        exact hJ12 true _ (by first | exact sgn_n hwi (by first | assumption | exact Bool.eq_false_iff.2 (by assumption)) | exact sgn_y hwi (by first | assumption | exact Bool.eq_false_iff.2 (by assumption)) (isSign_of (by omega)) | exact sgn_d hwi (by first | assumption | exact Bool.eq_false_iff.2 (by assumption)) (by omega)) (by repeat first | exact trivial | exact And.intro rfl trivial | refine And.intro rfl ?_)
       ·
        replace g58 := dF g58
        refine Pu rfl (Va (dx_eql rfl rfl rfl) rfl rfl (Pu rfl (Pu rfl ?_)))
        refine WL.split 56 rfl (fun g59 => ?_) (fun g59 => ?_)
        ·
         replace g59 := dT g59
         refine Of rfl (Of rfl (Pu rfl (Pu rfl (Of rfl (Of rfl (Pu rfl (Pu rfl ?_)))))))
         refine Pu rfl (Ni ?_)
         exact hJ12 true _ (by first | exact sgn_n hwi (by first | assumption | exact Bool.eq_false_iff.2 (by assumption)) | exact sgn_y hwi (by first | assumption | exact Bool.eq_false_iff.2 (by assumption)) (isSign_of (by omega)) | exact sgn_d hwi (by first | assumption | exact Bool.eq_false_iff.2 (by assumption)) (by omega)) (by repeat first | exact trivial | exact And.intro rfl trivial | refine And.intro rfl ?_)
        ·
         replace g59 := dF g59
         refine Pu rfl (Va (dx_eql rfl rfl rfl) rfl rfl (Pu rfl (Pu rfl ?_)))
         refine WL.split 60 rfl (fun g60 => ?_) (fun g60 => ?_)
         ·
          replace g60 := dT g60
          refine Of rfl (Of rfl (Pu rfl (Pu rfl (Pu rfl (Ni ?_)))))
          exact hJ12 true _ (by first | exact sgn_n hwi (by first | assumption | exact Bool.eq_false_iff.2 (by assumption)) | exact sgn_y hwi (by first | assumption | exact Bool.eq_false_iff.2 (by assumption)) (isSign_of (by omega)) | exact sgn_d hwi (by first | assumption | exact Bool.eq_false_iff.2 (by assumption)) (by omega)) (by repeat first | exact trivial | exact And.intro rfl trivial | refine And.intro rfl ?_)
         ·
          replace g60 := dF g60
          refine Pu rfl (Va (dx_eql rfl rfl rfl) rfl rfl (Pu rfl (Pu rfl (Pu rfl (Ni ?_)))))
          exact hJ12 (decide (atS s i = 58)) _ (by first | exact sgn_n hwi (by first | assumption | exact Bool.eq_false_iff.2 (by assumption)) | exact sgn_y hwi (by first | assumption | exact Bool.eq_false_iff.2 (by assumption)) (isSign_of (by omega)) | exact sgn_d hwi (by first | assumption | exact Bool.eq_false_iff.2 (by assumption)) (by omega)) (by repeat first | exact trivial | exact And.intro rfl trivial | refine And.intro rfl ?_)
    ·
     replace g55 := bnot_f g55
     refine Of rfl (Of rfl (Of rfl (Of rfl (Of rfl (Of rfl (Of rfl (Of rfl ?_)))))))
     refine Of rfl (Of rfl (Of rfl (Of rfl (Of rfl (Of rfl (Of rfl (Of rfl ?_)))))))
     refine Of rfl (Of rfl (Of rfl (Of rfl (Of rfl (Of rfl (Pu rfl (Pu rfl ?_)))))))
     refine Ni ?_
     exact hJ12 false _ (by first | exact sgn_n hwi (by first | assumption | exact Bool.eq_false_iff.2 (by assumption)) | exact sgn_y hwi (by first | assumption | exact Bool.eq_false_iff.2 (by assumption)) (isSign_of (by omega)) | exact sgn_d hwi (by first | assumption | exact Bool.eq_false_iff.2 (by assumption)) (by omega)) (by repeat first | exact trivial | exact And.intro rfl trivial | refine And.intro rfl ?_)
   ·
    replace c33 := dF c33
    refine WC.exit ?_
    refine hK27 (Sq fun K61 hK61 => (Sq fun K62 hK62 => (Rg (Pu rfl (Va (dx_lenT rfl Try.underlying9 rfl) rfl rfl (Va (dx_gtr rfl rfl rfl) rfl rfl (Ni ?_)))))))
    refine hK62 ?_
    refine WC.cond rfl (fun c63 => ?_) (fun c63 => ?_)
    ·
     replace c63 := dT c63
     refine Sq fun K64 hK64 => (Rg (Pu rfl (Ni (hK64 ?_))))
     exact WC.ret fun a_ ha_ => hQ (cv_ret1 rfl (.tmp rfl) rfl hB ha_)
    ·
     replace c63 := dF c63
     refine WC.skip (hK61 (Sq fun K65 hK65 => (Rg (Pu rfl ?_))))
     refine Ge (dx_cv rfl Try.func12 rfl rfl rfl (jPar_u wd W30 _ hL)) rfl rfl ?_
     rintro _ W67 ⟨⟨u, f, rfl, hue, hu⟩, b66⟩
     replace ht := ht.below b66
     replace k24 := k24.below b66
     replace hB := below_then hB b66
     replace hL := LL.below hL b66
     refine Pu rfl (Pu rfl (Pu rfl ?_))
     refine Ge (dx_alloc rfl ty_zero_26 rfl) rfl rfl ?_
     rintro _ W68 ⟨rfl, k69, b70, z71⟩
     have n72 : W16.heap.size ≠ W67.heap.size := Nat.ne_of_lt k24.lt
     have l73 := hB.size
     replace ht := ht.more b70 (Nat.le_refl _)
     replace hu := hu.more b70 (Nat.le_refl _)
     replace k24 := k24.below b70
     replace hB := below_then hB b70
     replace hL := LL.more hL z71
     refine WL.do (dx_store (cs' := [.int .i64 u.kind, .int .i64 u.num, .string u.text, u.nv, u.iv]) (vs := [.int .i64 u.kind, .int .i64 u.num, .string u.text, u.nv, u.iv]) rfl ty_size_26_5 rfl rfl rfl (oc_cons rfl (oc_cons rfl (oc_cons rfl (oc_cons (hu.1).one (oc_cons (hu.2.1).one oc_nil))))) k69 rfl (Nat.le_of_ble_eq_true rfl) rfl) rfl ?_
     rintro _ W74 ⟨k76, o75⟩
     replace k24 := k24.other o75 n72
     clear k69
     replace ht := ht.only o75 (.head _)
     replace hu := hu.only o75 (.head _)
     replace hB := o75.below hB l73
     replace hL := LL.only hL o75
     refine Pu rfl (Ni (hK65 (Sq fun K77 hK77 => ?_)))
     have hpw := par_wide (g := g) (t := wd) hpr (by omega) (by omega) (by rw [hw, show i = s.size by omega])
     rw [hpw] at hue
     have hsame := mkR_same hte hue
     refine Rg (Pu rfl (Pu rfl (Va (dv_T (dx_eql rfl rfl rfl) hsame.1) rfl rfl (Pu rfl (Va (dx_loadN rfl ty_agg_26_5 rfl k24.range rfl) rfl rfl (Va (dx_loadN rfl ty_agg_26_5 rfl k76.range rfl) rfl rfl ?_))))))
     refine Ge (dx_cv rfl Try.func14 rfl rfl rfl (alikeE_v 12 t u W74 _ hL ht hu hsame.2)) rfl rfl ?_
     rintro _ W79 ⟨rfl, b78⟩
     replace hB := below_then hB b78
     refine Pu rfl (Pu rfl (Ni (hK77 ?_)))
     exact WC.ret fun a_ ha_ => hQ (cv_ret1 rfl (.tmp rfl) rfl hB ha_)

end Go.Proofs.Ytpinidlfcifeeaa
