/- An object with an item. Sorted texts, some of them twice; what is left of names and items. No program stands here. DERIVED: THE SHELF's CONTRACTS AT THIS DUMP, IN PLAIN WORDS (tools/lay-plain.mjs out of 'YtpinidlfcifeeaaShelf.lean', which tools/lay-shelf.mjs wrote): THE SAME DECLARATIONS UNDER THE SAME NAMES: 'import', 'namespace', 'open', 'def', 'theorem' AND NOTHING ELSE: no command of the shelf's: FOR A HAND-IN. Each laying: the table of numbers ('.._ren') and one theorem, a field a fact of the dump's own or the kernel's comparison; each contract: ONE APPLICATION. An object without items. What becomes of an object with an item, and without items. -/
import Derived.Shelf.Small.Bits
import Derived.Shelf.Strconv.Itoa0
import Derived.Shelf.Sort.Plain
import Derived.Ground.Names2Prog
import Derived.Shelf.Slices.ReverseS
import Derived.Shelf.Slices.Clone
import Derived.Shelf.Slices.Cells
import Derived.Shelf.Slices.In.SortNone
import Derived.Ground.SlgnProg
import Derived.Shelf.SlicesE.Clone
import Derived.Test.YtpinidlfcifeeaaProg
import Derived.Test.YtpinidlfcifeeaaUE
namespace Go.Proofs.Ytpinidlfcifeeaa
open Go.RowKit
set_option linter.unusedVariables false
set_option linter.unusedSimpArgs false
set_option maxRecDepth 8000

set_option maxHeartbeats 1000000 in
theorem rightObj_v (n : Nat) (t : Tr) (w : World) (L : List Nat) (hL : LL L w) (ht : RdT (n + 1) L w t)  (hz : SzT 1000000 (n + 1) t) : CV Try.prog 46 [.agg #[.int .i64 t.kind, .int .i64 t.num, .string t.text, t.nv, t.iv]] w fun v W => v = .bool (decide (t.kind = 6) && rightJ upB 12 t.er) := by
 refine cv_enter (N := 10) (f := [(0, .agg #[.int .i64 t.kind, .int .i64 t.num, .string t.text, t.nv, t.iv])]) Try.func46 rfl rfl rfl rfl fun Q hQ hE => ?_
 have hB := Below.refl w.heap.size w
 refine WC.seq fun K1 hK1 => ?_
 obtain ⟨hnt, hit, hct⟩ := ht
 replace hct : RdTs n (L) w t.items := hct
 refine WC.region ?_
 refine WL.get (dx_box rfl rfl rfl) rfl rfl ?_
 rintro _ W2 ⟨rfl, k3, b4, z5⟩
 have l6 := hB.size
 replace hnt := hnt.more b4 (Nat.le_refl _)
 replace hit := hit.more b4 (Nat.le_refl _)
 replace hct := hct.more b4 (Nat.le_refl _)
 replace hB := below_then hB b4
 replace hL := LL.more hL z5
 refine WL.val (dx_assign rfl rfl) rfl rfl ?_
 refine WL.nil ?_
 refine hK1 ?_
 refine WC.seq fun K7 hK7 => ?_
 refine WC.region ?_
 refine WL.val (dx_fld (o1 := 0) rfl ty_fld_26_0_0 rfl rfl) rfl rfl ?_
 refine WL.val (dx_load rfl ty_one_3 rfl (k3.cell (k := 0) rfl)) rfl rfl ?_
 refine WL.val (dx_eql rfl rfl rfl) rfl rfl ?_
 refine WL.val (dx_move rfl rfl) rfl rfl ?_
 refine WL.split 6 rfl (fun g8 => ?_) (fun g8 => ?_)
 ·
  replace g8 := of_decide_eq_true g8
  refine WL.val (dx_loadN rfl ty_agg_26_5 rfl k3.range rfl) rfl rfl ?_
  refine WL.get (dx_cv rfl Try.func15 rfl rfl rfl (jRight_v n t W2 _ hL (show RdT (n + 1) (w.heap.size :: L) W2 t from ⟨hnt, hit, hct⟩) hz)) rfl rfl ?_
  rintro _ W10 ⟨rfl, b9⟩
  replace hnt := hnt.below b9
  replace hit := hit.below b9
  replace hct := hct.below b9
  replace k3 := k3.below b9
  replace hB := below_then hB b9
  replace hL := LL.below hL b9
  refine WL.val (dx_pick rfl rfl rfl) rfl rfl ?_
  refine WL.val (dx_assign rfl rfl) rfl rfl ?_
  refine WL.nil ?_
  refine hK7 ?_
  refine WC.ret fun a_ ha_ => ?_
  exact hQ (cv_ret1 rfl (.tmp rfl) (by first | rfl | (simp [*]; done)) hB ha_)
 ·
  replace g8 := of_decide_eq_false g8
  refine WL.off rfl rfl rfl ?_
  refine WL.off rfl rfl rfl ?_
  refine WL.val (dx_pick rfl rfl rfl) rfl rfl ?_
  refine WL.val (dx_assign rfl rfl) rfl rfl ?_
  refine WL.nil ?_
  refine hK7 ?_
  refine WC.ret fun a_ ha_ => ?_
  exact hQ (cv_ret1 rfl (.tmp rfl) (by first | rfl | (simp [*]; done)) hB ha_)

set_option maxHeartbeats 1000000 in
theorem cloneNT_v  (w : World) (L : List Nat) (hL : LL L w)  : CV Try.prog 47 [.slice none 0 0] w fun v W => v = .slice none 0 0 := by
 refine cv_enter (N := 8) (f := [(0, .slice none 0 0)]) Try.func47 rfl rfl rfl rfl fun Q hQ hE => ?_
 have hB := Below.refl w.heap.size w
 refine WC.seq fun K1 hK1 => ?_
 refine WC.region ?_
 refine WL.val (dx_assign rfl rfl) rfl rfl ?_
 refine WL.nil ?_
 refine hK1 ?_
 refine WC.seq fun K2 hK2 => ?_
 refine WC.seq fun K3 hK3 => ?_
 refine WC.region ?_
 refine WL.val (dx_move rfl rfl) rfl rfl ?_
 refine WL.val (dx_nilT rfl Try.underlying23 rfl) rfl rfl ?_
 refine WL.nil ?_
 refine hK3 ?_
 refine WC.condT rfl ?_
 refine WC.seq fun K4 hK4 => ?_
 refine WC.region ?_
 refine WL.val (dx_assign rfl rfl) rfl rfl ?_
 refine WL.nil ?_
 refine hK4 ?_
 refine WC.ret fun a_ ha_ => ?_
 exact hQ (cv_ret1 rfl (.tmp rfl) rfl hB ha_)

set_option maxHeartbeats 1000000 in
theorem cloneET_v (rs : List (List Value)) (sv : Value) (a : Addr) (n c : Nat) (w : World) (L : List Nat) (hL : LL L w) (h1 : RdF 1 L w sv rs)  (hs : sv = .slice (some a) n c) (hone : ∀ r ∈ rs, ∀ u ∈ r, u.oneCell' = true) (hsm : rs.length * 16 ≤ 140737488355328) : CV Try.prog 47 [sv] w fun v W => NewS 1 w.heap.size rs v W := by
 refine cv_enter (N := 8) (f := [(0, sv)]) Try.func47 rfl rfl rfl rfl fun Q hQ hE => ?_
 have hB := Below.refl w.heap.size w
 refine WC.seq fun K1 hK1 => ?_
 refine WC.region ?_
 refine WL.val (dx_assign rfl rfl) rfl rfl ?_
 refine WL.nil ?_
 refine hK1 ?_
 refine WC.seq fun K2 hK2 => ?_
 refine WC.seq fun K3 hK3 => ?_
 refine WC.region ?_
 refine WL.val (dx_move rfl rfl) rfl rfl ?_
 refine WL.val (dx_nilS rfl Try.underlying23 rfl hs) rfl rfl ?_
 refine WL.nil ?_
 refine hK3 ?_
 refine WC.condF rfl ?_
 refine WC.skip ?_
 refine hK2 ?_
 refine WC.seq fun K4 hK4 => ?_
 refine WC.region ?_
 refine WL.get (dx_lit0E rfl ty_ap_23 (by decide)) rfl rfl ?_
 rintro u5 W6 ⟨b7, e8⟩
 replace h1 := h1.below b7
 replace hB := below_then hB b7
 replace hL := LL.below hL b7
 refine WL.val (dx_move rfl rfl) rfl rfl ?_
 refine WL.get (dx_apN rfl ty_ap_23 rfl rfl e8 h1 hone (by unfold maxLen; omega) (by omega) hB.size) rfl rfl ?_
 rintro u9 W10 ⟨b11, e12⟩
 replace h1 := h1.below b11
 replace hB := below_then hB b11
 replace hL := LL.below hL b11
 refine WL.val (dx_assign rfl rfl) rfl rfl ?_
 refine WL.nil ?_
 refine hK4 ?_
 refine WC.ret fun a_ ha_ => ?_
 exact hQ (cv_ret1 rfl (.tmp rfl) e12 hB ha_)

theorem cloneST_v (rs : List (List Value)) (sv : Value) (w : World) (L : List Nat) (hL : LL L w) (h1 : RdF 1 L w sv rs) (hone : ∀ r ∈ rs, ∀ u ∈ r, u.oneCell' = true) (hsm : rs.length * 16 ≤ 140737488355328) : CV Try.prog 47 [sv] w fun v W => NewW 1 w.heap.size rs v W := by
  rcases h1.nil_or with ⟨rfl, rfl⟩ | ⟨a, n, c, hs⟩
  · exact (cloneNT_v w L hL).mono fun v W _ h => .inl ⟨h, rfl, by decide⟩
  · exact (cloneET_v rs sv a n c w L hL h1 hs hone hsm).mono fun v W _ h => NewS.toW' h
set_option maxHeartbeats 1000000 in
theorem cloneNV_v  (w : World) (L : List Nat) (hL : LL L w)  : CV Try.prog 48 [.slice none 0 0] w fun v W => v = .slice none 0 0 := by
 refine cv_enter (N := 8) (f := [(0, .slice none 0 0)]) Try.func48 rfl rfl rfl rfl fun Q hQ hE => ?_
 have hB := Below.refl w.heap.size w
 refine WC.seq fun K1 hK1 => ?_
 refine WC.region ?_
 refine WL.val (dx_assign rfl rfl) rfl rfl ?_
 refine WL.nil ?_
 refine hK1 ?_
 refine WC.seq fun K2 hK2 => ?_
 refine WC.seq fun K3 hK3 => ?_
 refine WC.region ?_
 refine WL.val (dx_move rfl rfl) rfl rfl ?_
 refine WL.val (dx_nilT rfl Try.underlying24 rfl) rfl rfl ?_
 refine WL.nil ?_
 refine hK3 ?_
 refine WC.condT rfl ?_
 refine WC.seq fun K4 hK4 => ?_
 refine WC.region ?_
 refine WL.val (dx_assign rfl rfl) rfl rfl ?_
 refine WL.nil ?_
 refine hK4 ?_
 refine WC.ret fun a_ ha_ => ?_
 exact hQ (cv_ret1 rfl (.tmp rfl) rfl hB ha_)

set_option maxHeartbeats 1000000 in
theorem cloneEV_v (rs : List (List Value)) (sv : Value) (a : Addr) (n c : Nat) (w : World) (L : List Nat) (hL : LL L w) (h1 : RdF 5 L w sv rs)  (hs : sv = .slice (some a) n c) (hone : ∀ r ∈ rs, ∀ u ∈ r, u.oneCell' = true) (hsm : rs.length * 80 ≤ 140737488355328) : CV Try.prog 48 [sv] w fun v W => NewS 5 w.heap.size rs v W := by
 refine cv_enter (N := 8) (f := [(0, sv)]) Try.func48 rfl rfl rfl rfl fun Q hQ hE => ?_
 have hB := Below.refl w.heap.size w
 refine WC.seq fun K1 hK1 => ?_
 refine WC.region ?_
 refine WL.val (dx_assign rfl rfl) rfl rfl ?_
 refine WL.nil ?_
 refine hK1 ?_
 refine WC.seq fun K2 hK2 => ?_
 refine WC.seq fun K3 hK3 => ?_
 refine WC.region ?_
 refine WL.val (dx_move rfl rfl) rfl rfl ?_
 refine WL.val (dx_nilS rfl Try.underlying24 rfl hs) rfl rfl ?_
 refine WL.nil ?_
 refine hK3 ?_
 refine WC.condF rfl ?_
 refine WC.skip ?_
 refine hK2 ?_
 refine WC.seq fun K4 hK4 => ?_
 refine WC.region ?_
 refine WL.get (dx_lit0E rfl ty_ap_24 (by decide)) rfl rfl ?_
 rintro u5 W6 ⟨b7, e8⟩
 replace h1 := h1.below b7
 replace hB := below_then hB b7
 replace hL := LL.below hL b7
 refine WL.val (dx_move rfl rfl) rfl rfl ?_
 refine WL.get (dx_apN rfl ty_ap_24 rfl rfl e8 h1 hone (by unfold maxLen; omega) (by omega) hB.size) rfl rfl ?_
 rintro u9 W10 ⟨b11, e12⟩
 replace h1 := h1.below b11
 replace hB := below_then hB b11
 replace hL := LL.below hL b11
 refine WL.val (dx_assign rfl rfl) rfl rfl ?_
 refine WL.nil ?_
 refine hK4 ?_
 refine WC.ret fun a_ ha_ => ?_
 exact hQ (cv_ret1 rfl (.tmp rfl) e12 hB ha_)

theorem cloneSV_v (rs : List (List Value)) (sv : Value) (w : World) (L : List Nat) (hL : LL L w) (h1 : RdF 5 L w sv rs) (hone : ∀ r ∈ rs, ∀ u ∈ r, u.oneCell' = true) (hsm : rs.length * 80 ≤ 140737488355328) : CV Try.prog 48 [sv] w fun v W => NewW 5 w.heap.size rs v W := by
  rcases h1.nil_or with ⟨rfl, rfl⟩ | ⟨a, n, c, hs⟩
  · exact (cloneNV_v w L hL).mono fun v W _ h => .inl ⟨h, rfl, by decide⟩
  · exact (cloneEV_v rs sv a n c w L hL h1 hs hone hsm).mono fun v W _ h => NewS.toW' h
def vB : Value → Option Nat
 | .slice (some a) _ _ => some a.block
 | .pointer (some a) => some a.block
 | _ => none
def apV (u v : Value) : Prop := ∀ B, vB u = some B → vB v ≠ some B
theorem OwS.vB {s : Nat} {w : World} {u : Value} {rs : List (List Value)} {B : Nat} (h : OwS s w u rs B) : vB u = some B := by
 obtain ⟨h0, hr, cap, sp, rfl, _⟩ := h
 rfl
theorem NewW.lt {s b : Nat} {w : World} {u : Value} {rs : List (List Value)} (h : NewW s b rs u w) {B : Nat} (hB : Go.Proofs.Ytpinidlfcifeeaa.vB u = some B) : b ≤ B ∧ B < w.heap.size := by
  rcases h with ⟨rfl, _⟩ | ⟨C, h1, h2⟩
  · cases hB
  · rw [h2.vB] at hB; cases hB; exact ⟨h1, h2.lt⟩
theorem NewW.one {s b : Nat} {w : World} {u : Value} {rs : List (List Value)} (h : NewW s b rs u w) : u.oneCell' = true := by
  rcases h with ⟨rfl, _⟩ | ⟨C, h1, h2⟩
  · rfl
  · exact h2.one
theorem ap_ne {u v : Value} (h : apV u v) {B C : Nat} (hu : vB u = some B) (hv : vB v = some C) : B ≠ C := fun e => h B hu (by rw [e]; exact hv)
/-- What holds while an object's names and items are cloned and its place is made. -/
def H5 (W0 : World) (ns ts : List (List Value)) (l2 l5 l6 l7 : Bool) (u2 u5 u6 u7 : Value) (W : World) : Prop :=
 Below W0.heap.size W0 W ∧ (l2 = true → NewW 1 W0.heap.size ns u2 W) ∧ (l5 = true → NewW 5 W0.heap.size ts u5 W) ∧ (l6 = true → u6 = .agg #[.int .i64 6, .int .i64 0, .string ⟨#[]⟩, u2, u5]) ∧
 (l7 = true → ∃ B, u7 = .pointer (some ⟨B, 0, none⟩) ∧ W0.heap.size ≤ B ∧ Blk W B zR) ∧ (l2 = true → l5 = true → apV u2 u5) ∧ (l2 = true → l7 = true → apV u2 u7) ∧ (l5 = true → l7 = true → apV u5 u7)
theorem begin5 {W0 : World} {ns ts : List (List Value)} {u2 u5 u6 u7 : Value} : H5 W0 ns ts false false false false u2 u5 u6 u7 W0.drew :=
 ⟨below_draws (Below.refl _ _) 1, fun h => (by cases h), fun h => (by cases h), fun h => (by cases h), fun h => (by cases h), fun h => (by cases h), fun h => (by cases h), fun h => (by cases h)⟩
theorem newW_le {s b b' : Nat} {w : World} {u : Value} {rs : List (List Value)} (h : NewW s b rs u w) (hb : b' ≤ b) : NewW s b' rs u w := by
  rcases h with h | ⟨C, h1, h2⟩
  · exact .inl h
  · exact .inr ⟨C, Nat.le_trans hb h1, h2⟩
theorem h5_2 {W0 W W' : World} {ns ts : List (List Value)} {l5 l6 l7 : Bool} {u2 u5 u6 u7 v : Value} (h : H5 W0 ns ts false l5 l6 l7 u2 u5 u6 u7 W) (h5 : l5 = false) (h6 : l6 = false) (hv : NewW 1 W.heap.size ns v W') (hb : Below W.heap.size W W') : H5 W0 ns ts true l5 l6 l7 v u5 u6 u7 W' := by
  subst h5 h6
  obtain ⟨a1, a2, a3, a4, a5, a6, a7, a8⟩ := h
  refine ⟨below_then a1 hb, fun _ => newW_le hv a1.size, fun h => (by cases h), fun h => (by cases h), fun h => ?_, fun _ h => (by cases h), fun _ h => ?_, fun h => (by cases h)⟩
  · obtain ⟨B, e, k1, k2⟩ := a5 h; exact ⟨B, e, k1, k2.below hb⟩
  · obtain ⟨B, e, k1, k2⟩ := a5 h
    subst e
    intro C hC e
    have := (hv.lt hC).1
    have e := Option.some.inj (show some B = some C from e)
    have := k2.lt
    omega
theorem h5_5 {W0 W W' : World} {ns ts : List (List Value)} {l2 l6 l7 : Bool} {u2 u5 u6 u7 v : Value} (h : H5 W0 ns ts l2 false l6 l7 u2 u5 u6 u7 W) (h6 : l6 = false) (hv : NewW 5 W.heap.size ts v W') (hb : Below W.heap.size W W') : H5 W0 ns ts l2 true l6 l7 u2 v u6 u7 W' := by
  subst h6
  obtain ⟨a1, a2, a3, a4, a5, a6, a7, a8⟩ := h
  refine ⟨below_then a1 hb, fun h => (a2 h).below hb, fun _ => newW_le hv a1.size, fun h => (by cases h), fun h => ?_, fun h _ => ?_, a7, fun _ h => ?_⟩
  · obtain ⟨B, e, k1, k2⟩ := a5 h; exact ⟨B, e, k1, k2.below hb⟩
  · intro C hC e
    have := ((a2 h).lt hC).2
    have := (hv.lt e).1
    omega
  · obtain ⟨B, e, k1, k2⟩ := a5 h
    subst e
    intro C hC e
    have := (hv.lt hC).1
    have e := Option.some.inj (show some B = some C from e)
    have := k2.lt
    omega
theorem h5_6 {W0 W : World} {ns ts : List (List Value)} {l2 l5 l6 l7 : Bool} {u2 u5 u6 u7 v : Value} (h : H5 W0 ns ts l2 l5 l6 l7 u2 u5 u6 u7 W) (hv : v = .agg #[.int .i64 6, .int .i64 0, .string ⟨#[]⟩, u2, u5]) : H5 W0 ns ts l2 l5 true l7 u2 u5 v u7 W := by
 obtain ⟨a1, a2, a3, a4, a5, a6, a7, a8⟩ := h
 exact ⟨a1, a2, a3, fun _ => hv, a5, a6, a7, a8⟩
theorem h5_7 {W0 W W' : World} {ns ts : List (List Value)} {l2 l5 l6 l7 : Bool} {u2 u5 u6 u7 : Value} (h : H5 W0 ns ts l2 l5 l6 l7 u2 u5 u6 u7 W) (hk : Blk W' W.heap.size zR) (hb : Below W.heap.size W W') : H5 W0 ns ts l2 l5 l6 true u2 u5 u6 (.pointer (some ⟨W.heap.size, 0, none⟩)) W' := by
  obtain ⟨a1, a2, a3, a4, a5, a6, a7, a8⟩ := h
  refine ⟨below_then a1 hb, fun h => (a2 h).below hb, fun h => (a3 h).below hb, a4, fun _ => ⟨_, rfl, a1.size, hk⟩, a6, fun h _ => ?_, fun h _ => ?_⟩
  · intro C hC e
    have := ((a2 h).lt hC).2
    have e := Option.some.inj (show some W.heap.size = some C from e)
    omega
  · intro C hC e
    have := ((a3 h).lt hC).2
    have e := Option.some.inj (show some W.heap.size = some C from e)
    omega
theorem rises_of_J : ∀ {l : List ByteArray}, risesJ l = true → Rises l
  | [], _ => List.Pairwise.nil
  | [a], _ => List.pairwise_singleton _ _
  | a :: b :: l, h => by
    unfold risesJ at h
    rw [Bool.and_eq_true] at h
    have ih := rises_of_J (l := b :: l) h.2
    refine List.Pairwise.cons (fun c hc => ?_) ih
    rcases List.mem_cons.1 hc with rfl | hc
    · exact h.1
    · exact sless_trans _ _ _ h.1 ((List.pairwise_cons.1 ih).1 c hc)
theorem obj_right {up : ByteArray → Bool} {n : Nat} {j : Js} (hk : j.kind = 6) (h : rightJ up (n + 1) j = true) : Rises j.names ∧ j.names.length = j.items.length := by
  rw [rightJ, Bool.or_eq_true] at h
  rcases h with h | h
  · exact absurd (.inr hk) (leaf_kind h)
  · rw [Bool.and_eq_true] at h
    have h1 := h.1
    unfold nodeJ at h1
    rw [hk] at h1
    simp at h1
    exact ⟨rises_of_J h1.2.2.1, h1.2.1⟩
/-- An object with an item of a name. -/
def putJ (j : Js) (nm : ByteArray) (x : Js) : Js := if j.names[lbT nm j.names]? = some nm then .mk 6 0 ⟨#[]⟩ j.names (j.items.set (lbT nm j.names) x) else .mk 6 0 ⟨#[]⟩ (insA (lbT nm j.names) nm j.names) (insA (lbT nm j.names) x j.items)
def withJ (j : Js) (nm : ByteArray) (x : Js) : Except Int Js := if (decide (j.kind = 6) && rightJ upB 12 j) = true ∧ rightJ upB 12 x = true ∧ upB nm = true then (if 12 ≤ deepJ 13 x then .error 4 else .ok (putJ j nm x)) else .error 1
theorem putJ_t {j : Js} {nm : ByteArray} {x : Js} {a : Nat} (ha : a = lbT nm j.names) (h : j.names[a]? = some nm) : putJ j nm x = .mk 6 0 ⟨#[]⟩ j.names (j.items.set a x) := by subst ha; unfold putJ; rw [if_pos h]
theorem putJ_f {j : Js} {nm : ByteArray} {x : Js} {a : Nat} (ha : a = lbT nm j.names) (h : ¬ j.names[a]? = some nm) : putJ j nm x = .mk 6 0 ⟨#[]⟩ (insA a nm j.names) (insA a x j.items) := by subst ha; unfold putJ; rw [if_neg h]
theorem withJ_ok {j : Js} {nm : ByteArray} {x : Js} (h1 : (decide (j.kind = 6) && rightJ upB 12 j) = true) (h2 : rightJ upB 12 x = true) (h3 : upB nm = true) (h4 : ¬ 12 ≤ deepJ 13 x) : withJ j nm x = .ok (putJ j nm x) := by unfold withJ; rw [if_pos ⟨h1, h2, h3⟩, if_neg h4]
theorem withJ_4 {j : Js} {nm : ByteArray} {x : Js} (h1 : (decide (j.kind = 6) && rightJ upB 12 j) = true) (h2 : rightJ upB 12 x = true) (h3 : upB nm = true) (h4 : 12 ≤ deepJ 13 x) : withJ j nm x = .error 4 := by unfold withJ; rw [if_pos ⟨h1, h2, h3⟩, if_pos h4]
theorem withJ_1 {j : Js} {nm : ByteArray} {x : Js} (h : ¬ ((decide (j.kind = 6) && rightJ upB 12 j) = true ∧ rightJ upB 12 x = true ∧ upB nm = true)) : withJ j nm x = .error 1 := by unfold withJ; rw [if_neg h]
theorem bsearchB_v (ts : List ByteArray) (x : ByteArray) (tv : Value) (w : World) (L : List Nat) (hL : LL L w) (h3 : RdF 1 L w tv (ts.map eS)) (hr : Rises ts) (hsm : ts.length ≤ 1000000000000) : CV Try.prog 49 [tv, .string x] w fun v W => ∃ k : Nat, k = lbT x ts ∧ k ≤ ts.length ∧ v = .tuple #[.int .i64 (k : Int), .bool (decide (ts[k]? = some x))] := bsearchA_v ts x tv w L hL h3 hr hsm
set_option maxHeartbeats 2000000 in
theorem jWith_v (n : Nat) (p q : Tr) (name : ByteArray) (w : World) (L : List Nat) (hL : LL L w) (htp : RdT (n + 1) L w p) (htq : RdT (n + 1) L w q)  (hzp : SzT 1000000 (n + 1) p) (hzq : SzT 1000000 (n + 1) q) (hns_ : name.size ≤ 1000000) : CV Try.prog 24 [.agg #[.int .i64 p.kind, .int .i64 p.num, .string p.text, p.nv, p.iv], .string name, .agg #[.int .i64 q.kind, .int .i64 q.num, .string q.text, q.nv, q.iv]] w fun v W => (∃ t, v = .tuple #[.agg #[.int .i64 t.kind, .int .i64 t.num, .string t.text, t.nv, t.iv], .int .i64 0] ∧ withJ p.er name q.er = .ok t.er ∧ RdT (n + 2) L W t) ∨ (∃ e, v = .tuple #[.agg #[.int .i64 0, .int .i64 0, .string ⟨#[]⟩, .slice none 0 0, .slice none 0 0], .int .i64 e] ∧ e ≠ 0 ∧ withJ p.er name q.er = .error e) := by
 refine cv_enter (N := 66) (f := [(0, .agg #[.int .i64 p.kind, .int .i64 p.num, .string p.text, p.nv, p.iv]), (1, .string name), (2, .agg #[.int .i64 q.kind, .int .i64 q.num, .string q.text, q.nv, q.iv])]) Try.func24 rfl rfl rfl rfl fun Q hQ hE => ?_
 have hB := Below.refl w.heap.size w
 have hL0 := hL
 refine WC.seq fun K1 hK1 => ?_
 obtain ⟨hnp, hip, hcp⟩ := htp
 replace hcp : RdTs n (L) w p.items := hcp
 obtain ⟨hnq, hiq, hcq⟩ := htq
 replace hcq : RdTs n (L) w q.items := hcq
 have hpl : p.names.length ≤ 1000000 ∧ p.items.length ≤ 1000000 := ⟨hzp.2.1, hzp.2.2.1⟩
 refine WC.region ?_
 refine WL.get (dx_box rfl rfl rfl) rfl rfl ?_
 rintro _ W2 ⟨rfl, k3, b4, z5⟩
 have l6 := hB.size
 replace hnp := hnp.more b4 (Nat.le_refl _)
 replace hip := hip.more b4 (Nat.le_refl _)
 replace hcp := hcp.more b4 (Nat.le_refl _)
 replace hnq := hnq.more b4 (Nat.le_refl _)
 replace hiq := hiq.more b4 (Nat.le_refl _)
 replace hcq := hcq.more b4 (Nat.le_refl _)
 replace hB := below_then hB b4
 replace hL := LL.more hL z5
 refine WL.get (dx_box rfl rfl rfl) rfl rfl ?_
 rintro _ W7 ⟨rfl, k8, b9, z10⟩
 have l12 := hB.size
 replace hnp := hnp.more b9 (Nat.le_refl _)
 replace hip := hip.more b9 (Nat.le_refl _)
 replace hcp := hcp.more b9 (Nat.le_refl _)
 replace hnq := hnq.more b9 (Nat.le_refl _)
 replace hiq := hiq.more b9 (Nat.le_refl _)
 replace hcq := hcq.more b9 (Nat.le_refl _)
 replace k3 := k3.below b9
 replace hB := below_then hB b9
 replace hL := LL.more hL z10
 refine WL.get (dx_alloc rfl ty_zero_26 rfl) rfl rfl ?_
 rintro _ W13 ⟨rfl, k14, b15, z16⟩
 have n17 : w.heap.size ≠ W7.heap.size := Nat.ne_of_lt k3.lt
 have n18 : W2.heap.size ≠ W7.heap.size := Nat.ne_of_lt k8.lt
 have l19 := hB.size
 replace hnp := hnp.more b15 (Nat.le_refl _)
 replace hip := hip.more b15 (Nat.le_refl _)
 replace hcp := hcp.more b15 (Nat.le_refl _)
 replace hnq := hnq.more b15 (Nat.le_refl _)
 replace hiq := hiq.more b15 (Nat.le_refl _)
 replace hcq := hcq.more b15 (Nat.le_refl _)
 replace k3 := k3.below b15
 replace k8 := k8.below b15
 replace hB := below_then hB b15
 replace hL := LL.more hL z16
 refine WL.val (dx_assign rfl rfl) rfl rfl ?_
 refine WL.nil ?_
 refine hK1 ?_
 refine WC.seq fun K20 hK20 => ?_
 refine WC.seq fun K21 hK21 => ?_
 refine WC.region ?_
 refine WL.val (dx_loadN rfl ty_agg_26_5 rfl k3.range rfl) rfl rfl ?_
 refine WL.get (dx_cv rfl Try.func46 rfl rfl rfl (rightObj_v n p W13 _ hL (show RdT (n + 1) (W7.heap.size :: W2.heap.size :: w.heap.size :: L) W13 p from ⟨hnp, hip, hcp⟩) hzp)) rfl rfl ?_
 rintro _ W23 ⟨rfl, b22⟩
 replace hnp := hnp.below b22
 replace hip := hip.below b22
 replace hcp := hcp.below b22
 replace hnq := hnq.below b22
 replace hiq := hiq.below b22
 replace hcq := hcq.below b22
 replace k3 := k3.below b22
 replace k8 := k8.below b22
 replace k14 := k14.below b22
 replace hB := below_then hB b22
 replace hL := LL.below hL b22
 refine WL.val (dx_not rfl rfl) rfl rfl ?_
 refine WL.val (dx_move rfl rfl) rfl rfl ?_
 refine WL.split 14 rfl (fun g24 => ?_) (fun g24 => ?_)
 ·
  replace g24 := bnot_t g24
  refine WL.off rfl rfl rfl ?_
  refine WL.off rfl rfl rfl ?_
  refine WL.off rfl rfl rfl ?_
  refine WL.val (dx_pick rfl rfl rfl) rfl rfl ?_
  refine WL.val (dx_move rfl rfl) rfl rfl ?_
  refine WL.off rfl rfl rfl ?_
  refine WL.off rfl rfl rfl ?_
  refine WL.off rfl rfl rfl ?_
  refine WL.off rfl rfl rfl ?_
  refine WL.val (dx_pick rfl rfl rfl) rfl rfl ?_
  refine WL.nil ?_
  refine hK21 ?_
  refine WC.condT rfl ?_
  refine WC.seq fun K25 hK25 => ?_
  refine WC.region ?_
  refine WL.val (dx_build rfl rfl (built_of_O (cs := [.int .i64 0, .int .i64 0, .string ⟨#[]⟩, .slice none 0 0, .slice none 0 0]) (by kernel_rfl) oc_nil)) rfl rfl ?_
  refine WL.do (dx_store (cs' := [.int .i64 0, .int .i64 0, .string ⟨#[]⟩, .slice none 0 0, .slice none 0 0]) (vs := [.int .i64 0, .int .i64 0, .string ⟨#[]⟩, .slice none 0 0, .slice none 0 0]) rfl ty_size_26_5 rfl rfl rfl (oc_cons rfl (oc_cons rfl (oc_cons rfl (oc_cons rfl (oc_cons rfl oc_nil))))) k14 rfl (Nat.le_of_ble_eq_true rfl) rfl) rfl ?_
  rintro _ W26 ⟨k28, o27⟩
  replace k3 := k3.other o27 n17
  replace k8 := k8.other o27 n18
  clear k14
  replace hnp := hnp.only o27 (.head _)
  replace hip := hip.only o27 (.head _)
  replace hcp := hcp.only o27 (.head _)
  replace hnq := hnq.only o27 (.head _)
  replace hiq := hiq.only o27 (.head _)
  replace hcq := hcq.only o27 (.head _)
  replace hB := o27.below hB l19
  replace hL := LL.only hL o27
  refine WL.val (dx_assign rfl rfl) rfl rfl ?_
  refine WL.nil ?_
  refine hK25 ?_
  refine WC.ret fun a_ ha_ => ?_
  exact hQ (cv_ret2 rfl (.agg rfl ty_agg_26_5 k28.range rfl) (.tmp rfl) (.inr ⟨1, rfl, by decide, withJ_1 (by rw [er_kind]; rintro ⟨e1, e2, e3⟩; simp_all)⟩) hB ha_)
 ·
  replace g24 := bnot_f g24
  refine WL.val (dx_loadN rfl ty_agg_26_5 rfl k8.range rfl) rfl rfl ?_
  refine WL.get (dx_cv rfl Try.func15 rfl rfl rfl (jRight_v n q W23 _ hL (show RdT (n + 1) (W7.heap.size :: W2.heap.size :: w.heap.size :: L) W23 q from ⟨hnq, hiq, hcq⟩) hzq)) rfl rfl ?_
  rintro _ W30 ⟨rfl, b29⟩
  replace hnp := hnp.below b29
  replace hip := hip.below b29
  replace hcp := hcp.below b29
  replace hnq := hnq.below b29
  replace hiq := hiq.below b29
  replace hcq := hcq.below b29
  replace k3 := k3.below b29
  replace k8 := k8.below b29
  replace k14 := k14.below b29
  replace hB := below_then hB b29
  replace hL := LL.below hL b29
  refine WL.val (dx_not rfl rfl) rfl rfl ?_
  refine WL.val (dx_pick rfl rfl rfl) rfl rfl ?_
  refine WL.val (dx_move rfl rfl) rfl rfl ?_
  refine WL.split 19 rfl (fun g31 => ?_) (fun g31 => ?_)
  ·
   replace g31 := bnot_t g31
   refine WL.off rfl rfl rfl ?_
   refine WL.off rfl rfl rfl ?_
   refine WL.off rfl rfl rfl ?_
   refine WL.off rfl rfl rfl ?_
   refine WL.val (dx_pick rfl rfl rfl) rfl rfl ?_
   refine WL.nil ?_
   refine hK21 ?_
   refine WC.condT rfl ?_
   refine WC.seq fun K32 hK32 => ?_
   refine WC.region ?_
   refine WL.val (dx_build rfl rfl (built_of_O (cs := [.int .i64 0, .int .i64 0, .string ⟨#[]⟩, .slice none 0 0, .slice none 0 0]) (by kernel_rfl) oc_nil)) rfl rfl ?_
   refine WL.do (dx_store (cs' := [.int .i64 0, .int .i64 0, .string ⟨#[]⟩, .slice none 0 0, .slice none 0 0]) (vs := [.int .i64 0, .int .i64 0, .string ⟨#[]⟩, .slice none 0 0, .slice none 0 0]) rfl ty_size_26_5 rfl rfl rfl (oc_cons rfl (oc_cons rfl (oc_cons rfl (oc_cons rfl (oc_cons rfl oc_nil))))) k14 rfl (Nat.le_of_ble_eq_true rfl) rfl) rfl ?_
   rintro _ W33 ⟨k35, o34⟩
   replace k3 := k3.other o34 n17
   replace k8 := k8.other o34 n18
   clear k14
   replace hnp := hnp.only o34 (.head _)
   replace hip := hip.only o34 (.head _)
   replace hcp := hcp.only o34 (.head _)
   replace hnq := hnq.only o34 (.head _)
   replace hiq := hiq.only o34 (.head _)
   replace hcq := hcq.only o34 (.head _)
   replace hB := o34.below hB l19
   replace hL := LL.only hL o34
   refine WL.val (dx_assign rfl rfl) rfl rfl ?_
   refine WL.nil ?_
   refine hK32 ?_
   refine WC.ret fun a_ ha_ => ?_
   exact hQ (cv_ret2 rfl (.agg rfl ty_agg_26_5 k35.range rfl) (.tmp rfl) (.inr ⟨1, rfl, by decide, withJ_1 (by rw [er_kind]; rintro ⟨e1, e2, e3⟩; simp_all)⟩) hB ha_)
  ·
   replace g31 := bnot_f g31
   refine WL.val (dx_move rfl rfl) rfl rfl ?_
   refine WL.get (dx_sb (L := W7.heap.size :: W2.heap.size :: w.heap.size :: L) rfl Try.underlying9 Try.underlying50 Try.underlying5 rfl hL (by unfold maxLen; omega)) rfl rfl ?_
   rintro u36 W37 ⟨k38, b39⟩
   replace hnp := hnp.below b39
   replace hip := hip.below b39
   replace hcp := hcp.below b39
   replace hnq := hnq.below b39
   replace hiq := hiq.below b39
   replace hcq := hcq.below b39
   replace k3 := k3.below b39
   replace k8 := k8.below b39
   replace k14 := k14.below b39
   replace hB := below_then hB b39
   replace hL := LL.below hL b39
   refine WL.get (dx_cv rfl Try.func32 rfl rfl rfl ((show CV _ _ [_] _ (fun v _ => v = .bool (upB name)) from cv_oldB (right_any u36 (sb name) W37 (rdI_of k38) (sb_bytes _) (by rw [sb_length]; omega))))) rfl rfl ?_
   rintro _ W41 ⟨rfl, b40⟩
   replace hnp := hnp.below b40
   replace hip := hip.below b40
   replace hcp := hcp.below b40
   replace hnq := hnq.below b40
   replace hiq := hiq.below b40
   replace hcq := hcq.below b40
   replace k38 := k38.below b40
   replace k3 := k3.below b40
   replace k8 := k8.below b40
   replace k14 := k14.below b40
   replace hB := below_then hB b40
   replace hL := LL.below hL b40
   refine WL.val (dx_not rfl rfl) rfl rfl ?_
   refine WL.val (dx_pick rfl rfl rfl) rfl rfl ?_
   refine WL.nil ?_
   refine hK21 ?_
   refine WC.cond rfl (fun c42 => ?_) (fun c42 => ?_)
   ·
    replace c42 := bnot_t c42
    refine WC.seq fun K43 hK43 => ?_
    refine WC.region ?_
    refine WL.val (dx_build rfl rfl (built_of_O (cs := [.int .i64 0, .int .i64 0, .string ⟨#[]⟩, .slice none 0 0, .slice none 0 0]) (by kernel_rfl) oc_nil)) rfl rfl ?_
    refine WL.do (dx_store (cs' := [.int .i64 0, .int .i64 0, .string ⟨#[]⟩, .slice none 0 0, .slice none 0 0]) (vs := [.int .i64 0, .int .i64 0, .string ⟨#[]⟩, .slice none 0 0, .slice none 0 0]) rfl ty_size_26_5 rfl rfl rfl (oc_cons rfl (oc_cons rfl (oc_cons rfl (oc_cons rfl (oc_cons rfl oc_nil))))) k14 rfl (Nat.le_of_ble_eq_true rfl) rfl) rfl ?_
    rintro _ W44 ⟨k46, o45⟩
    replace k3 := k3.other o45 n17
    replace k8 := k8.other o45 n18
    clear k14
    replace hnp := hnp.only o45 (.head _)
    replace hip := hip.only o45 (.head _)
    replace hcp := hcp.only o45 (.head _)
    replace hnq := hnq.only o45 (.head _)
    replace hiq := hiq.only o45 (.head _)
    replace hcq := hcq.only o45 (.head _)
    replace k38 := k38.only o45 (.head _)
    replace hB := o45.below hB l19
    replace hL := LL.only hL o45
    refine WL.val (dx_assign rfl rfl) rfl rfl ?_
    refine WL.nil ?_
    refine hK43 ?_
    refine WC.ret fun a_ ha_ => ?_
    exact hQ (cv_ret2 rfl (.agg rfl ty_agg_26_5 k46.range rfl) (.tmp rfl) (.inr ⟨1, rfl, by decide, withJ_1 (by rw [er_kind]; rintro ⟨e1, e2, e3⟩; simp_all)⟩) hB ha_)
   ·
    replace c42 := bnot_f c42
    refine WC.skip ?_
    refine hK20 ?_
    refine WC.seq fun K47 hK47 => ?_
    refine WC.seq fun K48 hK48 => ?_
    refine WC.region ?_
    refine WL.val (dx_loadN rfl ty_agg_26_5 rfl k8.range rfl) rfl rfl ?_
    refine WL.get (dx_cv rfl Try.func20 rfl rfl rfl (jDeep_v n q W41 _ hL (show RdT (n + 1) (W7.heap.size :: W2.heap.size :: w.heap.size :: L) W41 q from ⟨hnq, hiq, hcq⟩))) rfl rfl ?_
    rintro _ W50 ⟨rfl, b49⟩
    replace hnp := hnp.below b49
    replace hip := hip.below b49
    replace hcp := hcp.below b49
    replace hnq := hnq.below b49
    replace hiq := hiq.below b49
    replace hcq := hcq.below b49
    replace k38 := k38.below b49
    replace k3 := k3.below b49
    replace k8 := k8.below b49
    replace k14 := k14.below b49
    replace hB := below_then hB b49
    replace hL := LL.below hL b49
    refine WL.val (dx_geq rfl rfl rfl) rfl rfl ?_
    refine WL.nil ?_
    refine hK48 ?_
    refine WC.cond rfl (fun c51 => ?_) (fun c51 => ?_)
    ·
     replace c51 := of_decide_eq_true c51
     refine WC.seq fun K52 hK52 => ?_
     refine WC.region ?_
     refine WL.val (dx_build rfl rfl (built_of_O (cs := [.int .i64 0, .int .i64 0, .string ⟨#[]⟩, .slice none 0 0, .slice none 0 0]) (by kernel_rfl) oc_nil)) rfl rfl ?_
     refine WL.do (dx_store (cs' := [.int .i64 0, .int .i64 0, .string ⟨#[]⟩, .slice none 0 0, .slice none 0 0]) (vs := [.int .i64 0, .int .i64 0, .string ⟨#[]⟩, .slice none 0 0, .slice none 0 0]) rfl ty_size_26_5 rfl rfl rfl (oc_cons rfl (oc_cons rfl (oc_cons rfl (oc_cons rfl (oc_cons rfl oc_nil))))) k14 rfl (Nat.le_of_ble_eq_true rfl) rfl) rfl ?_
     rintro _ W53 ⟨k55, o54⟩
     replace k3 := k3.other o54 n17
     replace k8 := k8.other o54 n18
     clear k14
     replace hnp := hnp.only o54 (.head _)
     replace hip := hip.only o54 (.head _)
     replace hcp := hcp.only o54 (.head _)
     replace hnq := hnq.only o54 (.head _)
     replace hiq := hiq.only o54 (.head _)
     replace hcq := hcq.only o54 (.head _)
     replace k38 := k38.only o54 (.head _)
     replace hB := o54.below hB l19
     replace hL := LL.only hL o54
     refine WL.val (dx_assign rfl rfl) rfl rfl ?_
     refine WL.nil ?_
     refine hK52 ?_
     refine WC.ret fun a_ ha_ => ?_
     exact hQ (cv_ret2 rfl (.agg rfl ty_agg_26_5 k55.range rfl) (.tmp rfl) (.inr ⟨4, rfl, by decide, withJ_4 (by rw [er_kind]; first | assumption | simp_all) (by first | assumption | simp_all) (by first | assumption | simp_all) (by omega)⟩) hB ha_)
    ·
     replace c51 := of_decide_eq_false c51
     refine WC.skip ?_
     refine hK47 ?_
     refine WC.seq fun K56 hK56 => ?_
     have hro : (decide (p.er.kind = 6) && rightJ upB 12 p.er) = true := by rw [er_kind]; first | assumption | simp_all
     have hxo : rightJ upB 12 q.er = true := by first | assumption | simp_all
     have huo : upB name = true := by first | assumption | simp_all
     have hko := of_decide_eq_true (Bool.and_eq_true_iff.1 hro).1
     obtain ⟨hris, hlen⟩ := obj_right hko (Bool.and_eq_true_iff.1 hro).2
     rw [er_names] at hris
     rw [er_names, er_items, List.length_map] at hlen
     refine WC.drawV (fun L_ g_ W_ => H5 W50 (p.names.map eS) (p.items.map encT) (L_ 2) (L_ 5) (L_ 6) (L_ 7) (g_ 2) (g_ 5) (g_ 6) (g_ 7) W_) 8 [(some 30, some (.pointer (some ⟨w.heap.size, 3, none⟩))), (some 31, some p.nv), (some 32, none), (some 33, some (.pointer (some ⟨w.heap.size, 4, none⟩))), (some 34, some p.iv), (some 35, none), (some 36, none), (some 8, none)] [[], [0], [1], [], [3], [4, 2], [2, 5], []] (by kernel_rfl) (by kernel_rfl) (by kernel_rfl) (by kernel_rfl) (by kernel_rfl) (by kernel_rfl) (by kernel_rfl) (fun _ => begin5) ?_ ?_
     ·
      refine ⟨fun L_ g_ Wd hl hn hd hG => ?_, ?_⟩
      ·
       replace hG : H5 W50 (p.names.map eS) (p.items.map encT) (L_ 2) (L_ 5) (L_ 6) (L_ 7) (g_ 2) (g_ 5) (g_ 6) (g_ 7) Wd := hG
       exact DV.dr (dx_fld (o1 := 3) rfl ty_fld_26_3_3 rfl rfl) ⟨hG, rfl⟩
      refine ⟨fun L_ g_ Wd hl hn hd hG => ?_, ?_⟩
      ·
       replace hG : H5 W50 (p.names.map eS) (p.items.map encT) (L_ 2) (L_ 5) (L_ 6) (L_ 7) (g_ 2) (g_ 5) (g_ 6) (g_ 7) Wd := hG
       exact DV.dr (dx_load rfl ty_one_23 rfl ((k3.below hG.1).cell (k := 3) rfl)) ⟨hG, rfl⟩
      refine ⟨fun L_ g_ Wd hl hn hd hG => ?_, ?_⟩
      ·
       replace hG : H5 W50 (p.names.map eS) (p.items.map encT) (L_ 2) (L_ 5) (L_ 6) (L_ 7) (g_ 2) (g_ 5) (g_ 6) (g_ 7) Wd := hG
       refine (dx_cv rfl Try.func47 rfl rfl rfl (cloneST_v _ _ Wd [] (LL.nil _) ((hnp.less (fun x hx => by cases hx)).below hG.1) (oc_eS p.names) (by rw [List.length_map]; omega))).mono ?_
       rintro u W_ ⟨k1_, k2_⟩
       rw [hl] at hG
       exact ⟨h5_2 hG (hn 5 (by decide)) (hn 6 (by decide)) k1_ k2_, trivial⟩
      refine ⟨fun L_ g_ Wd hl hn hd hG => ?_, ?_⟩
      ·
       replace hG : H5 W50 (p.names.map eS) (p.items.map encT) (L_ 2) (L_ 5) (L_ 6) (L_ 7) (g_ 2) (g_ 5) (g_ 6) (g_ 7) Wd := hG
       exact DV.dr (dx_fld (o1 := 4) rfl ty_fld_26_4_4 rfl rfl) ⟨hG, rfl⟩
      refine ⟨fun L_ g_ Wd hl hn hd hG => ?_, ?_⟩
      ·
       replace hG : H5 W50 (p.names.map eS) (p.items.map encT) (L_ 2) (L_ 5) (L_ 6) (L_ 7) (g_ 2) (g_ 5) (g_ 6) (g_ 7) Wd := hG
       exact DV.dr (dx_load rfl ty_one_24 rfl ((k3.below hG.1).cell (k := 4) rfl)) ⟨hG, rfl⟩
      refine ⟨fun L_ g_ Wd hl hn hd hG => ?_, ?_⟩
      ·
       replace hG : H5 W50 (p.names.map eS) (p.items.map encT) (L_ 2) (L_ 5) (L_ 6) (L_ 7) (g_ 2) (g_ 5) (g_ 6) (g_ 7) Wd := hG
       refine (dx_cv rfl Try.func48 rfl rfl rfl (cloneSV_v _ _ Wd [] (LL.nil _) ((hip.less (fun x hx => by cases hx)).below hG.1) (oc_items hcp) (by rw [List.length_map]; omega))).mono ?_
       rintro u W_ ⟨k1_, k2_⟩
       rw [hl] at hG
       exact ⟨h5_5 hG (hn 6 (by decide)) k1_ k2_, trivial⟩
      refine ⟨fun L_ g_ Wd hl hn hd hG => ?_, ?_⟩
      ·
       replace hG : H5 W50 (p.names.map eS) (p.items.map encT) (L_ 2) (L_ 5) (L_ 6) (L_ 7) (g_ 2) (g_ 5) (g_ 6) (g_ 7) Wd := hG
       exact DV.dr (dx_build rfl rfl (built_of_O (cs := [.int .i64 6, .int .i64 0, .string ⟨#[]⟩, g_ 2, g_ 5]) (by kernel_rfl) (oc_cons rfl (oc_cons (hG.2.1 (hd 2 (by decide))).one (oc_cons (hG.2.2.1 (hd 5 (by decide))).one oc_nil))))) ⟨h5_6 hG rfl, trivial⟩
      refine ⟨fun L_ g_ Wd hl hn hd hG => ?_, ?_⟩
      ·
       replace hG : H5 W50 (p.names.map eS) (p.items.map encT) (L_ 2) (L_ 5) (L_ 6) (L_ 7) (g_ 2) (g_ 5) (g_ 6) (g_ 7) Wd := hG
       refine (dx_alloc rfl ty_zero_26 rfl).mono ?_
       rintro _ W_ ⟨rfl, k_, b_, z_⟩
       exact ⟨h5_7 hG k_ b_, trivial⟩
      exact trivial
     ·
      intro g_ We hGe
      obtain ⟨hb5, n2_, n5_, e6_, e7_, a25, a27, a57⟩ := (show H5 W50 (p.names.map eS) (p.items.map encT) true true true true (g_ 2) (g_ 5) (g_ 6) (g_ 7) We from hGe)
      replace n2_ := n2_ rfl
      replace n5_ := n5_ rfl
      replace e6_ := e6_ rfl
      obtain ⟨B7, e7_, hB7, hk7⟩ := e7_ rfl
      replace a25 := a25 rfl rfl
      replace a27 := a27 rfl rfl
      replace a57 := a57 rfl rfl
      simp only [DEnd, sdV, Nat.reduceAdd, e6_, e7_]
      rw [e7_] at a27 a57
      generalize g_ 2 = u2 at n2_ a25 a27 ⊢
      generalize g_ 5 = u5 at n5_ a25 a57 ⊢
      rcases n2_ with ⟨rfl, hns, -⟩ | ⟨Bn, hBn, hOn⟩
      ·
       rcases n5_ with ⟨rfl, hts, -⟩ | ⟨Bi, hBi, hOi⟩
       ·
        have n57 : w.heap.size ≠ B7 := Nat.ne_of_lt (Nat.lt_of_lt_of_le k3.lt hB7)
        have n58 : W2.heap.size ≠ B7 := Nat.ne_of_lt (Nat.lt_of_lt_of_le k8.lt hB7)
        have n59 : W7.heap.size ≠ B7 := Nat.ne_of_lt (Nat.lt_of_lt_of_le k14.lt hB7)
        replace hnp := hnp.more hb5 hB7
        replace hip := hip.more hb5 hB7
        replace hcp := hcp.more hb5 hB7
        replace hnq := hnq.more hb5 hB7
        replace hiq := hiq.more hb5 hB7
        replace hcq := hcq.more hb5 hB7
        replace k38 := k38.more hb5 hB7
        replace k3 := k3.below hb5
        replace k8 := k8.below hb5
        replace k14 := k14.below hb5
        have l60 := Nat.le_trans hB.size hB7
        replace hB := below_then hB hb5
        replace hL := LL.below hL hb5
        replace hL := LL.cons hL hk7.lt
        have hns0 : p.names = [] := List.map_eq_nil_iff.1 hns
        have hnl0 : p.names.length = 0 := by rw [hns0]; rfl
        have hts0 : p.items = [] := List.map_eq_nil_iff.1 hts
        have htl0 : p.items.length = 0 := by rw [hts0]; rfl
        refine WL.do (dx_store (cs' := [.int .i64 6, .int .i64 0, .string ⟨#[]⟩, .slice none 0 0, .slice none 0 0]) (vs := [.int .i64 6, .int .i64 0, .string ⟨#[]⟩, .slice none 0 0, .slice none 0 0]) rfl ty_size_26_5 rfl rfl rfl (oc_cons rfl (oc_cons rfl (oc_cons rfl (oc_cons rfl (oc_cons rfl oc_nil))))) hk7 rfl (Nat.le_of_ble_eq_true rfl) rfl) rfl ?_
        rintro _ W61 ⟨k63, o62⟩
        replace k3 := k3.other o62 n57
        replace k8 := k8.other o62 n58
        replace k14 := k14.other o62 n59
        clear hk7
        replace hnp := hnp.only o62 (.head _)
        replace hip := hip.only o62 (.head _)
        replace hcp := hcp.only o62 (.head _)
        replace hnq := hnq.only o62 (.head _)
        replace hiq := hiq.only o62 (.head _)
        replace hcq := hcq.only o62 (.head _)
        replace k38 := k38.only o62 (.head _)
        replace hB := o62.below hB l60
        replace hL := LL.only hL o62
        refine WL.nil ?_
        refine hK56 ?_
        refine WC.seq fun K64 hK64 => ?_
        refine WC.region ?_
        refine WL.val (dx_fld (o1 := 3) rfl ty_fld_26_3_3 rfl rfl) rfl rfl ?_
        refine WL.val (dx_load rfl ty_one_23 rfl (k63.cell (k := 3) rfl)) rfl rfl ?_
        refine WL.val (dx_move rfl rfl) rfl rfl ?_
        refine WL.get (dx_cv rfl Try.func49 rfl rfl rfl (bsearchB_v p.names name _ W61 [] (LL.nil _) (by rw [hns0]; exact RdF.nil (L := []) (by decide)) hris (by omega))) rfl rfl ?_
        rintro _ W66 ⟨⟨at_, hat, hatl, rfl⟩, b65⟩
        replace hnp := hnp.below b65
        replace hip := hip.below b65
        replace hcp := hcp.below b65
        replace hnq := hnq.below b65
        replace hiq := hiq.below b65
        replace hcq := hcq.below b65
        replace k38 := k38.below b65
        replace k3 := k3.below b65
        replace k8 := k8.below b65
        replace k14 := k14.below b65
        replace k63 := k63.below b65
        replace hB := below_then hB b65
        replace hL := LL.below hL b65
        refine WL.val (dx_move rfl rfl) rfl rfl ?_
        refine WL.val (dx_extract rfl rfl rfl) rfl rfl ?_
        refine WL.val (dx_extract rfl rfl rfl) rfl rfl ?_
        refine WL.val (dx_assign rfl rfl) rfl rfl ?_
        refine WL.val (dx_assign rfl rfl) rfl rfl ?_
        refine WL.nil ?_
        refine hK64 ?_
        refine WC.seq fun K67 hK67 => ?_
        refine WC.seq fun K68 hK68 => ?_
        refine WC.region ?_
        refine WL.val (dx_move rfl rfl) rfl rfl ?_
        refine WL.nil ?_
        refine hK68 ?_
        refine WC.cond rfl (fun c69 => ?_) (fun c69 => ?_)
        ·
         replace c69 := of_decide_eq_true c69
         refine WC.seq fun K70 hK70 => ?_
         have hal : at_ < p.names.length := (List.getElem?_eq_some_iff.1 (by assumption : p.names[at_]? = some name)).1
         exfalso; omega
        ·
         replace c69 := of_decide_eq_false c69
         refine WC.skip ?_
         refine hK67 ?_
         refine WC.seq fun K71 hK71 => ?_
         refine WC.region ?_
         refine WL.val (dx_fld (o1 := 3) rfl ty_fld_26_3_3 rfl rfl) rfl rfl ?_
         refine WL.val (dx_load rfl ty_one_23 rfl (k63.cell (k := 3) rfl)) rfl rfl ?_
         refine WL.val (dx_move rfl rfl) rfl rfl ?_
         refine WL.val (dx_move rfl rfl) rfl rfl ?_
         refine WL.get (dx_lit1 (r := [.string name]) rfl ty_ap_23 (by decide) (by decide) rfl rfl rfl) rfl rfl ?_
         rintro u76 W72 ⟨k73, b74, z75⟩
         have n79 : W7.heap.size ≠ W66.heap.size := Nat.ne_of_lt k14.lt
         have n80 : B7 ≠ W66.heap.size := Nat.ne_of_lt k63.lt
         have l81 := hB.size
         replace hnp := hnp.more b74 (Nat.le_refl _)
         replace hip := hip.more b74 (Nat.le_refl _)
         replace hcp := hcp.more b74 (Nat.le_refl _)
         replace hnq := hnq.more b74 (Nat.le_refl _)
         replace hiq := hiq.more b74 (Nat.le_refl _)
         replace hcq := hcq.more b74 (Nat.le_refl _)
         replace k38 := k38.more b74 (Nat.le_refl _)
         replace k3 := k3.below b74
         replace k8 := k8.below b74
         replace k14 := k14.below b74
         replace k63 := k63.below b74
         replace hB := below_then hB b74
         replace hL := LL.more hL z75
         refine WL.get (dx_cv rfl Try.func50 rfl rfl rfl (insNT_v [eS name] W66.heap.size _ W72 _ (by omega) k73 (by simp) (by simp))) rfl rfl ?_
         rintro x82 W83 ⟨⟨B84, l89, k85⟩, g88⟩
         have n93 : W7.heap.size ≠ B84 := Nat.ne_of_lt (Nat.lt_of_lt_of_le k14.lt l89)
         have n94 : B7 ≠ B84 := Nat.ne_of_lt (Nat.lt_of_lt_of_le k63.lt l89)
         have l96 := Nat.le_trans hB.size l89
         replace hnp := hnp.more g88 l89
         replace hip := hip.more g88 l89
         replace hcp := hcp.more g88 l89
         replace hnq := hnq.more g88 l89
         replace hiq := hiq.more g88 l89
         replace hcq := hcq.more g88 l89
         replace k38 := k38.more g88 l89
         replace k3 := k3.below g88
         replace k8 := k8.below g88
         replace k14 := k14.below g88
         replace k63 := k63.below g88
         replace k73 := k73.below g88
         replace hB := below_then hB g88
         replace hL := LL.cons (LL.below hL g88) k85.lt
         rw [show [eS name] = ((insA at_ name p.names).map eS) from (by rw [hns0]; exact (insN_map _ _ _).symm)] at k85
         refine WL.val (dx_fld (o1 := 3) rfl ty_fld_26_3_3 rfl rfl) rfl rfl ?_
         refine WL.do (dx_store (cs' := [.int .i64 6, .int .i64 0, .string ⟨#[]⟩, x82, .slice none 0 0]) (vs := [x82]) rfl ty_size_23_1 rfl rfl (oc_one k85.one) (oc_cons k85.one oc_nil) k63 rfl (Nat.le_of_ble_eq_true rfl) rfl) rfl ?_
         rintro _ W97 ⟨k99, o98⟩
         replace k3 := k3.other o98 n57
         replace k8 := k8.other o98 n58
         replace k14 := k14.other o98 n59
         replace k73 := k73.other o98 n80.symm
         replace k85 := k85.other o98 n94.symm
         clear k63
         replace hnp := hnp.only o98 (.tail _ (.tail _ (.head _)))
         replace hip := hip.only o98 (.tail _ (.tail _ (.head _)))
         replace hcp := hcp.only o98 (.tail _ (.tail _ (.head _)))
         replace hnq := hnq.only o98 (.tail _ (.tail _ (.head _)))
         replace hiq := hiq.only o98 (.tail _ (.tail _ (.head _)))
         replace hcq := hcq.only o98 (.tail _ (.tail _ (.head _)))
         replace k38 := k38.only o98 (.tail _ (.tail _ (.head _)))
         replace hB := o98.below hB l60
         replace hL := LL.only hL o98
         refine WL.nil ?_
         refine hK71 ?_
         refine WC.seq fun K100 hK100 => ?_
         refine WC.region ?_
         refine WL.val (dx_fld (o1 := 4) rfl ty_fld_26_4_4 rfl rfl) rfl rfl ?_
         refine WL.val (dx_load rfl ty_one_24 rfl (k99.cell (k := 4) rfl)) rfl rfl ?_
         refine WL.val (dx_move rfl rfl) rfl rfl ?_
         refine WL.val (dx_loadN rfl ty_agg_26_5 rfl k8.range rfl) rfl rfl ?_
         refine WL.get (dx_lit1 (r := [.int .i64 q.kind, .int .i64 q.num, .string q.text, q.nv, q.iv]) rfl ty_ap_24 (by decide) (by decide) rfl rfl rfl) rfl rfl ?_
         rintro u105 W101 ⟨k102, b103, z104⟩
         have n108 : W7.heap.size ≠ W97.heap.size := Nat.ne_of_lt k14.lt
         have n109 : B7 ≠ W97.heap.size := Nat.ne_of_lt k99.lt
         have l112 := hB.size
         replace hnp := hnp.more b103 (Nat.le_refl _)
         replace hip := hip.more b103 (Nat.le_refl _)
         replace hcp := hcp.more b103 (Nat.le_refl _)
         replace hnq := hnq.more b103 (Nat.le_refl _)
         replace hiq := hiq.more b103 (Nat.le_refl _)
         replace hcq := hcq.more b103 (Nat.le_refl _)
         replace k38 := k38.more b103 (Nat.le_refl _)
         replace k3 := k3.below b103
         replace k8 := k8.below b103
         replace k14 := k14.below b103
         replace k99 := k99.below b103
         replace k73 := k73.below b103
         replace k85 := k85.below b103
         replace hB := below_then hB b103
         replace hL := LL.more hL z104
         refine WL.get (dx_cv rfl Try.func51 rfl rfl rfl (insNV_v [encT q] W97.heap.size _ W101 _ (by omega) k102 (by simp) (by simp))) rfl rfl ?_
         rintro x113 W114 ⟨⟨B115, l120, k116⟩, g119⟩
         have n124 : W7.heap.size ≠ B115 := Nat.ne_of_lt (Nat.lt_of_lt_of_le k14.lt l120)
         have n125 : B7 ≠ B115 := Nat.ne_of_lt (Nat.lt_of_lt_of_le k99.lt l120)
         have l129 := Nat.le_trans hB.size l120
         replace hnp := hnp.more g119 l120
         replace hip := hip.more g119 l120
         replace hcp := hcp.more g119 l120
         replace hnq := hnq.more g119 l120
         replace hiq := hiq.more g119 l120
         replace hcq := hcq.more g119 l120
         replace k38 := k38.more g119 l120
         replace k3 := k3.below g119
         replace k8 := k8.below g119
         replace k14 := k14.below g119
         replace k99 := k99.below g119
         replace k73 := k73.below g119
         replace k85 := k85.below g119
         replace k102 := k102.below g119
         replace hB := below_then hB g119
         replace hL := LL.cons (LL.below hL g119) k116.lt
         rw [show [encT q] = ((insA at_ q p.items).map encT) from (by rw [hts0]; exact (insN_map _ _ _).symm)] at k116
         refine WL.val (dx_fld (o1 := 4) rfl ty_fld_26_4_4 rfl rfl) rfl rfl ?_
         refine WL.do (dx_store (cs' := [.int .i64 6, .int .i64 0, .string ⟨#[]⟩, x82, x113]) (vs := [x113]) rfl ty_size_24_1 rfl rfl (oc_one k116.one) (oc_cons k116.one oc_nil) k99 rfl (Nat.le_of_ble_eq_true rfl) rfl) rfl ?_
         rintro _ W130 ⟨k132, o131⟩
         replace k3 := k3.other o131 n57
         replace k8 := k8.other o131 n58
         replace k14 := k14.other o131 n59
         replace k73 := k73.other o131 n80.symm
         replace k85 := k85.other o131 n94.symm
         replace k102 := k102.other o131 n109.symm
         replace k116 := k116.other o131 n125.symm
         clear k99
         replace hnp := hnp.only o131 (.tail _ (.tail _ (.tail _ (.tail _ (.head _)))))
         replace hip := hip.only o131 (.tail _ (.tail _ (.tail _ (.tail _ (.head _)))))
         replace hcp := hcp.only o131 (.tail _ (.tail _ (.tail _ (.tail _ (.head _)))))
         replace hnq := hnq.only o131 (.tail _ (.tail _ (.tail _ (.tail _ (.head _)))))
         replace hiq := hiq.only o131 (.tail _ (.tail _ (.tail _ (.tail _ (.head _)))))
         replace hcq := hcq.only o131 (.tail _ (.tail _ (.tail _ (.tail _ (.head _)))))
         replace k38 := k38.only o131 (.tail _ (.tail _ (.tail _ (.tail _ (.head _)))))
         replace hB := o131.below hB l60
         replace hL := LL.only hL o131
         refine WL.nil ?_
         refine hK100 ?_
         refine WC.seq fun K133 hK133 => ?_
         refine WC.region ?_
         refine WL.val (dx_loadN rfl ty_agg_26_5 rfl k132.range rfl) rfl rfl ?_
         refine WL.do (dx_store (cs' := [.int .i64 6, .int .i64 0, .string ⟨#[]⟩, x82, x113]) (vs := [.int .i64 6, .int .i64 0, .string ⟨#[]⟩, x82, x113]) rfl ty_size_26_5 rfl rfl rfl (oc_cons rfl (oc_cons rfl (oc_cons rfl (oc_cons k85.one (oc_cons k116.one oc_nil))))) k14 rfl (Nat.le_of_ble_eq_true rfl) rfl) rfl ?_
         rintro _ W134 ⟨k136, o135⟩
         replace k3 := k3.other o135 n17
         replace k8 := k8.other o135 n18
         replace k132 := k132.other o135 n59.symm
         replace k73 := k73.other o135 n79.symm
         replace k85 := k85.other o135 n93.symm
         replace k102 := k102.other o135 n108.symm
         replace k116 := k116.other o135 n124.symm
         clear k14
         replace hnp := hnp.only o135 (.tail _ (.tail _ (.tail _ (.tail _ (.tail _ (.head _))))))
         replace hip := hip.only o135 (.tail _ (.tail _ (.tail _ (.tail _ (.tail _ (.head _))))))
         replace hcp := hcp.only o135 (.tail _ (.tail _ (.tail _ (.tail _ (.tail _ (.head _))))))
         replace hnq := hnq.only o135 (.tail _ (.tail _ (.tail _ (.tail _ (.tail _ (.head _))))))
         replace hiq := hiq.only o135 (.tail _ (.tail _ (.tail _ (.tail _ (.tail _ (.head _))))))
         replace hcq := hcq.only o135 (.tail _ (.tail _ (.tail _ (.tail _ (.tail _ (.head _))))))
         replace k38 := k38.only o135 (.tail _ (.tail _ (.tail _ (.tail _ (.tail _ (.head _))))))
         replace hB := o135.below hB l19
         replace hL := LL.only hL o135
         refine WL.val (dx_assign rfl rfl) rfl rfl ?_
         refine WL.nil ?_
         refine hK133 ?_
         refine WC.ret fun a_ ha_ => ?_
         exact hQ (cv_ret2 rfl (.agg rfl ty_agg_26_5 k136.range rfl) (.tmp rfl) (.inl ⟨.mk 6 0 ⟨#[]⟩ x82 (insA at_ name p.names) x113 (insA at_ q p.items), rfl, (by rw [withJ_ok hro hxo huo (by omega), putJ_f (a := at_) (by rw [er_names]; exact hat) (by rw [er_names]; assumption), Tr.er_mk, er_names, er_items, insA_map]), (k85.notin hL0 l96), (k116.notin hL0 l129), fun c hc_ => by rcases mem_insA.1 hc_ with h_ | h_; (rw [h_]; exact ((show RdT (n + 1) (B115 :: W97.heap.size :: B84 :: W66.heap.size :: B7 :: W7.heap.size :: W2.heap.size :: w.heap.size :: L) W134 q from ⟨hnq, hiq, hcq⟩).less (fun x hx => (.tail _ (.tail _ (.tail _ (.tail _ (.tail _ (.tail _ (.tail _ (.tail _ hx))))))))))); exact ((hcp c h_).less (fun x hx => (.tail _ (.tail _ (.tail _ (.tail _ (.tail _ (.tail _ (.tail _ (.tail _ hx)))))))))).up⟩) hB ha_)
       ·
        have n137 : w.heap.size ≠ B7 := Nat.ne_of_lt (Nat.lt_of_lt_of_le k3.lt hB7)
        have n138 : w.heap.size ≠ Bi := Nat.ne_of_lt (Nat.lt_of_lt_of_le k3.lt hBi)
        have n139 : W2.heap.size ≠ B7 := Nat.ne_of_lt (Nat.lt_of_lt_of_le k8.lt hB7)
        have n140 : W2.heap.size ≠ Bi := Nat.ne_of_lt (Nat.lt_of_lt_of_le k8.lt hBi)
        have n141 : W7.heap.size ≠ B7 := Nat.ne_of_lt (Nat.lt_of_lt_of_le k14.lt hB7)
        have n142 : W7.heap.size ≠ Bi := Nat.ne_of_lt (Nat.lt_of_lt_of_le k14.lt hBi)
        have h57 : Bi ≠ B7 := ap_ne a57 hOi.vB rfl
        replace hnp := hnp.more (Below.refl _ _) hB7
        replace hnp := hnp.more hb5 hBi
        replace hip := hip.more (Below.refl _ _) hB7
        replace hip := hip.more hb5 hBi
        replace hcp := hcp.more (Below.refl _ _) hB7
        replace hcp := hcp.more hb5 hBi
        replace hnq := hnq.more (Below.refl _ _) hB7
        replace hnq := hnq.more hb5 hBi
        replace hiq := hiq.more (Below.refl _ _) hB7
        replace hiq := hiq.more hb5 hBi
        replace hcq := hcq.more (Below.refl _ _) hB7
        replace hcq := hcq.more hb5 hBi
        replace k38 := k38.more (Below.refl _ _) hB7
        replace k38 := k38.more hb5 hBi
        replace k3 := k3.below hb5
        replace k8 := k8.below hb5
        replace k14 := k14.below hb5
        have l143 := Nat.le_trans hB.size hB7
        have l144 := Nat.le_trans hB.size hBi
        replace hB := below_then hB hb5
        replace hL := LL.below hL hb5
        replace hL := LL.cons hL hk7.lt
        replace hL := LL.cons hL hOi.lt
        have hns0 : p.names = [] := List.map_eq_nil_iff.1 hns
        have hnl0 : p.names.length = 0 := by rw [hns0]; rfl
        refine WL.do (dx_store (cs' := [.int .i64 6, .int .i64 0, .string ⟨#[]⟩, .slice none 0 0, u5]) (vs := [.int .i64 6, .int .i64 0, .string ⟨#[]⟩, .slice none 0 0, u5]) rfl ty_size_26_5 rfl rfl rfl (oc_cons rfl (oc_cons rfl (oc_cons rfl (oc_cons rfl (oc_cons hOi.one oc_nil))))) hk7 rfl (Nat.le_of_ble_eq_true rfl) rfl) rfl ?_
        rintro _ W145 ⟨k147, o146⟩
        replace k3 := k3.other o146 n137
        replace k8 := k8.other o146 n139
        replace k14 := k14.other o146 n141
        replace hOi := hOi.other o146 h57
        clear hk7
        replace hnp := hnp.only o146 (.tail _ (.head _))
        replace hip := hip.only o146 (.tail _ (.head _))
        replace hcp := hcp.only o146 (.tail _ (.head _))
        replace hnq := hnq.only o146 (.tail _ (.head _))
        replace hiq := hiq.only o146 (.tail _ (.head _))
        replace hcq := hcq.only o146 (.tail _ (.head _))
        replace k38 := k38.only o146 (.tail _ (.head _))
        replace hB := o146.below hB l143
        replace hL := LL.only hL o146
        refine WL.nil ?_
        refine hK56 ?_
        refine WC.seq fun K148 hK148 => ?_
        refine WC.region ?_
        refine WL.val (dx_fld (o1 := 3) rfl ty_fld_26_3_3 rfl rfl) rfl rfl ?_
        refine WL.val (dx_load rfl ty_one_23 rfl (k147.cell (k := 3) rfl)) rfl rfl ?_
        refine WL.val (dx_move rfl rfl) rfl rfl ?_
        refine WL.get (dx_cv rfl Try.func49 rfl rfl rfl (bsearchB_v p.names name _ W145 [] (LL.nil _) (by rw [hns0]; exact RdF.nil (L := []) (by decide)) hris (by omega))) rfl rfl ?_
        rintro _ W150 ⟨⟨at_, hat, hatl, rfl⟩, b149⟩
        replace hnp := hnp.below b149
        replace hip := hip.below b149
        replace hcp := hcp.below b149
        replace hnq := hnq.below b149
        replace hiq := hiq.below b149
        replace hcq := hcq.below b149
        replace k38 := k38.below b149
        replace k3 := k3.below b149
        replace k8 := k8.below b149
        replace k14 := k14.below b149
        replace k147 := k147.below b149
        replace hOi := hOi.below b149
        replace hB := below_then hB b149
        replace hL := LL.below hL b149
        refine WL.val (dx_move rfl rfl) rfl rfl ?_
        refine WL.val (dx_extract rfl rfl rfl) rfl rfl ?_
        refine WL.val (dx_extract rfl rfl rfl) rfl rfl ?_
        refine WL.val (dx_assign rfl rfl) rfl rfl ?_
        refine WL.val (dx_assign rfl rfl) rfl rfl ?_
        refine WL.nil ?_
        refine hK148 ?_
        refine WC.seq fun K151 hK151 => ?_
        refine WC.seq fun K152 hK152 => ?_
        refine WC.region ?_
        refine WL.val (dx_move rfl rfl) rfl rfl ?_
        refine WL.nil ?_
        refine hK152 ?_
        refine WC.cond rfl (fun c153 => ?_) (fun c153 => ?_)
        ·
         replace c153 := of_decide_eq_true c153
         refine WC.seq fun K154 hK154 => ?_
         have hal : at_ < p.names.length := (List.getElem?_eq_some_iff.1 (by assumption : p.names[at_]? = some name)).1
         exfalso; omega
        ·
         replace c153 := of_decide_eq_false c153
         refine WC.skip ?_
         refine hK151 ?_
         refine WC.seq fun K155 hK155 => ?_
         refine WC.region ?_
         refine WL.val (dx_fld (o1 := 3) rfl ty_fld_26_3_3 rfl rfl) rfl rfl ?_
         refine WL.val (dx_load rfl ty_one_23 rfl (k147.cell (k := 3) rfl)) rfl rfl ?_
         refine WL.val (dx_move rfl rfl) rfl rfl ?_
         refine WL.val (dx_move rfl rfl) rfl rfl ?_
         refine WL.get (dx_lit1 (r := [.string name]) rfl ty_ap_23 (by decide) (by decide) rfl rfl rfl) rfl rfl ?_
         rintro u160 W156 ⟨k157, b158, z159⟩
         have n163 : W7.heap.size ≠ W150.heap.size := Nat.ne_of_lt k14.lt
         have n164 : B7 ≠ W150.heap.size := Nat.ne_of_lt k147.lt
         have n165 : Bi ≠ W150.heap.size := Nat.ne_of_lt hOi.lt
         have l166 := hB.size
         replace hnp := hnp.more b158 (Nat.le_refl _)
         replace hip := hip.more b158 (Nat.le_refl _)
         replace hcp := hcp.more b158 (Nat.le_refl _)
         replace hnq := hnq.more b158 (Nat.le_refl _)
         replace hiq := hiq.more b158 (Nat.le_refl _)
         replace hcq := hcq.more b158 (Nat.le_refl _)
         replace k38 := k38.more b158 (Nat.le_refl _)
         replace k3 := k3.below b158
         replace k8 := k8.below b158
         replace k14 := k14.below b158
         replace k147 := k147.below b158
         replace hOi := hOi.below b158
         replace hB := below_then hB b158
         replace hL := LL.more hL z159
         refine WL.get (dx_cv rfl Try.func50 rfl rfl rfl (insNT_v [eS name] W150.heap.size _ W156 _ (by omega) k157 (by simp) (by simp))) rfl rfl ?_
         rintro x167 W168 ⟨⟨B169, l174, k170⟩, g173⟩
         have n178 : W7.heap.size ≠ B169 := Nat.ne_of_lt (Nat.lt_of_lt_of_le k14.lt l174)
         have n179 : B7 ≠ B169 := Nat.ne_of_lt (Nat.lt_of_lt_of_le k147.lt l174)
         have n180 : Bi ≠ B169 := Nat.ne_of_lt (Nat.lt_of_lt_of_le hOi.lt l174)
         have l182 := Nat.le_trans hB.size l174
         replace hnp := hnp.more g173 l174
         replace hip := hip.more g173 l174
         replace hcp := hcp.more g173 l174
         replace hnq := hnq.more g173 l174
         replace hiq := hiq.more g173 l174
         replace hcq := hcq.more g173 l174
         replace k38 := k38.more g173 l174
         replace k3 := k3.below g173
         replace k8 := k8.below g173
         replace k14 := k14.below g173
         replace k147 := k147.below g173
         replace hOi := hOi.below g173
         replace k157 := k157.below g173
         replace hB := below_then hB g173
         replace hL := LL.cons (LL.below hL g173) k170.lt
         rw [show [eS name] = ((insA at_ name p.names).map eS) from (by rw [hns0]; exact (insN_map _ _ _).symm)] at k170
         refine WL.val (dx_fld (o1 := 3) rfl ty_fld_26_3_3 rfl rfl) rfl rfl ?_
         refine WL.do (dx_store (cs' := [.int .i64 6, .int .i64 0, .string ⟨#[]⟩, x167, u5]) (vs := [x167]) rfl ty_size_23_1 rfl rfl (oc_one k170.one) (oc_cons k170.one oc_nil) k147 rfl (Nat.le_of_ble_eq_true rfl) rfl) rfl ?_
         rintro _ W183 ⟨k185, o184⟩
         replace k3 := k3.other o184 n137
         replace k8 := k8.other o184 n139
         replace k14 := k14.other o184 n141
         replace hOi := hOi.other o184 h57
         replace k157 := k157.other o184 n164.symm
         replace k170 := k170.other o184 n179.symm
         clear k147
         replace hnp := hnp.only o184 (.tail _ (.tail _ (.tail _ (.head _))))
         replace hip := hip.only o184 (.tail _ (.tail _ (.tail _ (.head _))))
         replace hcp := hcp.only o184 (.tail _ (.tail _ (.tail _ (.head _))))
         replace hnq := hnq.only o184 (.tail _ (.tail _ (.tail _ (.head _))))
         replace hiq := hiq.only o184 (.tail _ (.tail _ (.tail _ (.head _))))
         replace hcq := hcq.only o184 (.tail _ (.tail _ (.tail _ (.head _))))
         replace k38 := k38.only o184 (.tail _ (.tail _ (.tail _ (.head _))))
         replace hB := o184.below hB l143
         replace hL := LL.only hL o184
         refine WL.nil ?_
         refine hK155 ?_
         refine WC.seq fun K186 hK186 => ?_
         refine WC.region ?_
         refine WL.val (dx_fld (o1 := 4) rfl ty_fld_26_4_4 rfl rfl) rfl rfl ?_
         refine WL.val (dx_load rfl ty_one_24 rfl (k185.cell (k := 4) rfl)) rfl rfl ?_
         refine WL.val (dx_move rfl rfl) rfl rfl ?_
         refine WL.val (dx_loadN rfl ty_agg_26_5 rfl k8.range rfl) rfl rfl ?_
         refine WL.get (dx_lit1 (r := [.int .i64 q.kind, .int .i64 q.num, .string q.text, q.nv, q.iv]) rfl ty_ap_24 (by decide) (by decide) rfl rfl rfl) rfl rfl ?_
         rintro u191 W187 ⟨k188, b189, z190⟩
         have n194 : W7.heap.size ≠ W183.heap.size := Nat.ne_of_lt k14.lt
         have n195 : B7 ≠ W183.heap.size := Nat.ne_of_lt k185.lt
         have n196 : Bi ≠ W183.heap.size := Nat.ne_of_lt hOi.lt
         have l199 := hB.size
         replace hnp := hnp.more b189 (Nat.le_refl _)
         replace hip := hip.more b189 (Nat.le_refl _)
         replace hcp := hcp.more b189 (Nat.le_refl _)
         replace hnq := hnq.more b189 (Nat.le_refl _)
         replace hiq := hiq.more b189 (Nat.le_refl _)
         replace hcq := hcq.more b189 (Nat.le_refl _)
         replace k38 := k38.more b189 (Nat.le_refl _)
         replace k3 := k3.below b189
         replace k8 := k8.below b189
         replace k14 := k14.below b189
         replace k185 := k185.below b189
         replace hOi := hOi.below b189
         replace k157 := k157.below b189
         replace k170 := k170.below b189
         replace hB := below_then hB b189
         replace hL := LL.more hL z190
         refine WL.get (dx_cw rfl Try.func51 rfl rfl rfl (insOV_v _ [encT q] at_ Bi W183.heap.size _ _ W187 hOi k188 n196.symm (by rw [List.length_map]; omega) (by simp) (by rw [List.length_map, List.length_singleton]; omega) (oc_items hcp) (fun r hr => by rw [List.mem_singleton.1 hr]; exact (show RdT (n + 1) (W183.heap.size :: B169 :: W150.heap.size :: Bi :: B7 :: W7.heap.size :: W2.heap.size :: w.heap.size :: L) W187 q from ⟨hnq, hiq, hcq⟩).oc))) rfl rfl ?_
         rintro x200 W201 ⟨⟨B202, k203, g204⟩, g205⟩
         have g206 := GrowB.of_chg g205 g204
         have n211 : W7.heap.size ≠ B202 := k14.grow_ne g206 n142
         have n212 : B7 ≠ B202 := k185.grow_ne g206 h57.symm
         have l208 := g206.le l144 hB.size
         replace hnp := hnp.grow' g206 (.tail _ (.tail _ (.tail _ (.head _))))
         replace hip := hip.grow' g206 (.tail _ (.tail _ (.tail _ (.head _))))
         replace hcp := hcp.grow' g206 (.tail _ (.tail _ (.tail _ (.head _))))
         replace hnq := hnq.grow' g206 (.tail _ (.tail _ (.tail _ (.head _))))
         replace hiq := hiq.grow' g206 (.tail _ (.tail _ (.tail _ (.head _))))
         replace hcq := hcq.grow' g206 (.tail _ (.tail _ (.tail _ (.head _))))
         replace k38 := k38.grow' g206 (.tail _ (.tail _ (.tail _ (.head _))))
         replace k3 := k3.grow g206 n138
         replace k8 := k8.grow g206 n140
         replace k14 := k14.grow g206 n142
         replace k185 := k185.grow g206 h57.symm
         replace k157 := k157.grow g206 n165.symm
         replace k170 := k170.grow g206 n180.symm
         replace k188 := k188.grow g206 n196.symm
         replace hB := g206.below hB l144 hB.size
         replace hL := LL.grow hL g206 k203.lt
         rw [show (p.items.map encT).take at_ ++ ([encT q] ++ (p.items.map encT).drop at_) = ((insA at_ q p.items).map encT) from (insA_map _ at_ _ _).symm] at k203
         refine WL.val (dx_fld (o1 := 4) rfl ty_fld_26_4_4 rfl rfl) rfl rfl ?_
         refine WL.do (dx_store (cs' := [.int .i64 6, .int .i64 0, .string ⟨#[]⟩, x167, x200]) (vs := [x200]) rfl ty_size_24_1 rfl rfl (oc_one k203.one) (oc_cons k203.one oc_nil) k185 rfl (Nat.le_of_ble_eq_true rfl) rfl) rfl ?_
         rintro _ W216 ⟨k218, o217⟩
         replace k3 := k3.other o217 n137
         replace k8 := k8.other o217 n139
         replace k14 := k14.other o217 n141
         replace k157 := k157.other o217 n164.symm
         replace k170 := k170.other o217 n179.symm
         replace k188 := k188.other o217 n195.symm
         replace k203 := k203.other o217 n212.symm
         clear k185
         replace hnp := hnp.only o217 (.tail _ (.tail _ (.tail _ (.tail _ (.tail _ (.head _))))))
         replace hip := hip.only o217 (.tail _ (.tail _ (.tail _ (.tail _ (.tail _ (.head _))))))
         replace hcp := hcp.only o217 (.tail _ (.tail _ (.tail _ (.tail _ (.tail _ (.head _))))))
         replace hnq := hnq.only o217 (.tail _ (.tail _ (.tail _ (.tail _ (.tail _ (.head _))))))
         replace hiq := hiq.only o217 (.tail _ (.tail _ (.tail _ (.tail _ (.tail _ (.head _))))))
         replace hcq := hcq.only o217 (.tail _ (.tail _ (.tail _ (.tail _ (.tail _ (.head _))))))
         replace k38 := k38.only o217 (.tail _ (.tail _ (.tail _ (.tail _ (.tail _ (.head _))))))
         replace hB := o217.below hB l143
         replace hL := LL.only hL o217
         refine WL.nil ?_
         refine hK186 ?_
         refine WC.seq fun K219 hK219 => ?_
         refine WC.region ?_
         refine WL.val (dx_loadN rfl ty_agg_26_5 rfl k218.range rfl) rfl rfl ?_
         refine WL.do (dx_store (cs' := [.int .i64 6, .int .i64 0, .string ⟨#[]⟩, x167, x200]) (vs := [.int .i64 6, .int .i64 0, .string ⟨#[]⟩, x167, x200]) rfl ty_size_26_5 rfl rfl rfl (oc_cons rfl (oc_cons rfl (oc_cons rfl (oc_cons k170.one (oc_cons k203.one oc_nil))))) k14 rfl (Nat.le_of_ble_eq_true rfl) rfl) rfl ?_
         rintro _ W220 ⟨k222, o221⟩
         replace k3 := k3.other o221 n17
         replace k8 := k8.other o221 n18
         replace k218 := k218.other o221 n141.symm
         replace k157 := k157.other o221 n163.symm
         replace k170 := k170.other o221 n178.symm
         replace k188 := k188.other o221 n194.symm
         replace k203 := k203.other o221 n211.symm
         clear k14
         replace hnp := hnp.only o221 (.tail _ (.tail _ (.tail _ (.tail _ (.tail _ (.tail _ (.head _)))))))
         replace hip := hip.only o221 (.tail _ (.tail _ (.tail _ (.tail _ (.tail _ (.tail _ (.head _)))))))
         replace hcp := hcp.only o221 (.tail _ (.tail _ (.tail _ (.tail _ (.tail _ (.tail _ (.head _)))))))
         replace hnq := hnq.only o221 (.tail _ (.tail _ (.tail _ (.tail _ (.tail _ (.tail _ (.head _)))))))
         replace hiq := hiq.only o221 (.tail _ (.tail _ (.tail _ (.tail _ (.tail _ (.tail _ (.head _)))))))
         replace hcq := hcq.only o221 (.tail _ (.tail _ (.tail _ (.tail _ (.tail _ (.tail _ (.head _)))))))
         replace k38 := k38.only o221 (.tail _ (.tail _ (.tail _ (.tail _ (.tail _ (.tail _ (.head _)))))))
         replace hB := o221.below hB l19
         replace hL := LL.only hL o221
         refine WL.val (dx_assign rfl rfl) rfl rfl ?_
         refine WL.nil ?_
         refine hK219 ?_
         refine WC.ret fun a_ ha_ => ?_
         exact hQ (cv_ret2 rfl (.agg rfl ty_agg_26_5 k222.range rfl) (.tmp rfl) (.inl ⟨.mk 6 0 ⟨#[]⟩ x167 (insA at_ name p.names) x200 (insA at_ q p.items), rfl, (by rw [withJ_ok hro hxo huo (by omega), putJ_f (a := at_) (by rw [er_names]; exact hat) (by rw [er_names]; assumption), Tr.er_mk, er_names, er_items, insA_map]), (k170.notin hL0 l182), (k203.notin hL0 l208), fun c hc_ => by rcases mem_insA.1 hc_ with h_ | h_; (rw [h_]; exact ((show RdT (n + 1) (B202 :: W183.heap.size :: B169 :: W150.heap.size :: Bi :: B7 :: W7.heap.size :: W2.heap.size :: w.heap.size :: L) W220 q from ⟨hnq, hiq, hcq⟩).less (fun x hx => (.tail _ (.tail _ (.tail _ (.tail _ (.tail _ (.tail _ (.tail _ (.tail _ (.tail _ hx)))))))))))); exact ((hcp c h_).less (fun x hx => (.tail _ (.tail _ (.tail _ (.tail _ (.tail _ (.tail _ (.tail _ (.tail _ (.tail _ hx))))))))))).up⟩) hB ha_)
      ·
       rcases n5_ with ⟨rfl, hts, -⟩ | ⟨Bi, hBi, hOi⟩
       ·
        have n223 : w.heap.size ≠ B7 := Nat.ne_of_lt (Nat.lt_of_lt_of_le k3.lt hB7)
        have n224 : w.heap.size ≠ Bn := Nat.ne_of_lt (Nat.lt_of_lt_of_le k3.lt hBn)
        have n225 : W2.heap.size ≠ B7 := Nat.ne_of_lt (Nat.lt_of_lt_of_le k8.lt hB7)
        have n226 : W2.heap.size ≠ Bn := Nat.ne_of_lt (Nat.lt_of_lt_of_le k8.lt hBn)
        have n227 : W7.heap.size ≠ B7 := Nat.ne_of_lt (Nat.lt_of_lt_of_le k14.lt hB7)
        have n228 : W7.heap.size ≠ Bn := Nat.ne_of_lt (Nat.lt_of_lt_of_le k14.lt hBn)
        have h27 : Bn ≠ B7 := ap_ne a27 hOn.vB rfl
        replace hnp := hnp.more (Below.refl _ _) hB7
        replace hnp := hnp.more hb5 hBn
        replace hip := hip.more (Below.refl _ _) hB7
        replace hip := hip.more hb5 hBn
        replace hcp := hcp.more (Below.refl _ _) hB7
        replace hcp := hcp.more hb5 hBn
        replace hnq := hnq.more (Below.refl _ _) hB7
        replace hnq := hnq.more hb5 hBn
        replace hiq := hiq.more (Below.refl _ _) hB7
        replace hiq := hiq.more hb5 hBn
        replace hcq := hcq.more (Below.refl _ _) hB7
        replace hcq := hcq.more hb5 hBn
        replace k38 := k38.more (Below.refl _ _) hB7
        replace k38 := k38.more hb5 hBn
        replace k3 := k3.below hb5
        replace k8 := k8.below hb5
        replace k14 := k14.below hb5
        have l229 := Nat.le_trans hB.size hB7
        have l230 := Nat.le_trans hB.size hBn
        replace hB := below_then hB hb5
        replace hL := LL.below hL hb5
        replace hL := LL.cons hL hk7.lt
        replace hL := LL.cons hL hOn.lt
        have hts0 : p.items = [] := List.map_eq_nil_iff.1 hts
        have htl0 : p.items.length = 0 := by rw [hts0]; rfl
        refine WL.do (dx_store (cs' := [.int .i64 6, .int .i64 0, .string ⟨#[]⟩, u2, .slice none 0 0]) (vs := [.int .i64 6, .int .i64 0, .string ⟨#[]⟩, u2, .slice none 0 0]) rfl ty_size_26_5 rfl rfl rfl (oc_cons rfl (oc_cons rfl (oc_cons rfl (oc_cons hOn.one (oc_cons rfl oc_nil))))) hk7 rfl (Nat.le_of_ble_eq_true rfl) rfl) rfl ?_
        rintro _ W231 ⟨k233, o232⟩
        replace k3 := k3.other o232 n223
        replace k8 := k8.other o232 n225
        replace k14 := k14.other o232 n227
        replace hOn := hOn.other o232 h27
        clear hk7
        replace hnp := hnp.only o232 (.tail _ (.head _))
        replace hip := hip.only o232 (.tail _ (.head _))
        replace hcp := hcp.only o232 (.tail _ (.head _))
        replace hnq := hnq.only o232 (.tail _ (.head _))
        replace hiq := hiq.only o232 (.tail _ (.head _))
        replace hcq := hcq.only o232 (.tail _ (.head _))
        replace k38 := k38.only o232 (.tail _ (.head _))
        replace hB := o232.below hB l229
        replace hL := LL.only hL o232
        refine WL.nil ?_
        refine hK56 ?_
        refine WC.seq fun K234 hK234 => ?_
        refine WC.region ?_
        refine WL.val (dx_fld (o1 := 3) rfl ty_fld_26_3_3 rfl rfl) rfl rfl ?_
        refine WL.val (dx_load rfl ty_one_23 rfl (k233.cell (k := 3) rfl)) rfl rfl ?_
        refine WL.val (dx_move rfl rfl) rfl rfl ?_
        refine WL.get (dx_cv rfl Try.func49 rfl rfl rfl (bsearchB_v p.names name _ W231 [] (LL.nil _) (hOn.rd (L := []) (by simp)) hris (by omega))) rfl rfl ?_
        rintro _ W236 ⟨⟨at_, hat, hatl, rfl⟩, b235⟩
        replace hnp := hnp.below b235
        replace hip := hip.below b235
        replace hcp := hcp.below b235
        replace hnq := hnq.below b235
        replace hiq := hiq.below b235
        replace hcq := hcq.below b235
        replace k38 := k38.below b235
        replace k3 := k3.below b235
        replace k8 := k8.below b235
        replace k14 := k14.below b235
        replace k233 := k233.below b235
        replace hOn := hOn.below b235
        replace hB := below_then hB b235
        replace hL := LL.below hL b235
        refine WL.val (dx_move rfl rfl) rfl rfl ?_
        refine WL.val (dx_extract rfl rfl rfl) rfl rfl ?_
        refine WL.val (dx_extract rfl rfl rfl) rfl rfl ?_
        refine WL.val (dx_assign rfl rfl) rfl rfl ?_
        refine WL.val (dx_assign rfl rfl) rfl rfl ?_
        refine WL.nil ?_
        refine hK234 ?_
        refine WC.seq fun K237 hK237 => ?_
        refine WC.seq fun K238 hK238 => ?_
        refine WC.region ?_
        refine WL.val (dx_move rfl rfl) rfl rfl ?_
        refine WL.nil ?_
        refine hK238 ?_
        refine WC.cond rfl (fun c239 => ?_) (fun c239 => ?_)
        ·
         replace c239 := of_decide_eq_true c239
         refine WC.seq fun K240 hK240 => ?_
         have hal : at_ < p.names.length := (List.getElem?_eq_some_iff.1 (by assumption : p.names[at_]? = some name)).1
         exfalso; omega
        ·
         replace c239 := of_decide_eq_false c239
         refine WC.skip ?_
         refine hK237 ?_
         refine WC.seq fun K241 hK241 => ?_
         refine WC.region ?_
         refine WL.val (dx_fld (o1 := 3) rfl ty_fld_26_3_3 rfl rfl) rfl rfl ?_
         refine WL.val (dx_load rfl ty_one_23 rfl (k233.cell (k := 3) rfl)) rfl rfl ?_
         refine WL.val (dx_move rfl rfl) rfl rfl ?_
         refine WL.val (dx_move rfl rfl) rfl rfl ?_
         refine WL.get (dx_lit1 (r := [.string name]) rfl ty_ap_23 (by decide) (by decide) rfl rfl rfl) rfl rfl ?_
         rintro u246 W242 ⟨k243, b244, z245⟩
         have n249 : W7.heap.size ≠ W236.heap.size := Nat.ne_of_lt k14.lt
         have n250 : B7 ≠ W236.heap.size := Nat.ne_of_lt k233.lt
         have n251 : Bn ≠ W236.heap.size := Nat.ne_of_lt hOn.lt
         have l252 := hB.size
         replace hnp := hnp.more b244 (Nat.le_refl _)
         replace hip := hip.more b244 (Nat.le_refl _)
         replace hcp := hcp.more b244 (Nat.le_refl _)
         replace hnq := hnq.more b244 (Nat.le_refl _)
         replace hiq := hiq.more b244 (Nat.le_refl _)
         replace hcq := hcq.more b244 (Nat.le_refl _)
         replace k38 := k38.more b244 (Nat.le_refl _)
         replace k3 := k3.below b244
         replace k8 := k8.below b244
         replace k14 := k14.below b244
         replace k233 := k233.below b244
         replace hOn := hOn.below b244
         replace hB := below_then hB b244
         replace hL := LL.more hL z245
         refine WL.get (dx_cw rfl Try.func50 rfl rfl rfl (insOT_v _ [eS name] at_ Bn W236.heap.size _ _ W242 hOn k243 n251.symm (by rw [List.length_map]; omega) (by simp) (by rw [List.length_map, List.length_singleton]; omega) (oc_eS p.names) (fun r hr => by rw [List.mem_singleton.1 hr]; exact (oc_cons rfl oc_nil)))) rfl rfl ?_
         rintro x253 W254 ⟨⟨B255, k256, g257⟩, g258⟩
         have g259 := GrowB.of_chg g258 g257
         have n264 : W7.heap.size ≠ B255 := k14.grow_ne g259 n228
         have n265 : B7 ≠ B255 := k233.grow_ne g259 h27.symm
         have l261 := g259.le l230 hB.size
         replace hnp := hnp.grow' g259 (.tail _ (.head _))
         replace hip := hip.grow' g259 (.tail _ (.head _))
         replace hcp := hcp.grow' g259 (.tail _ (.head _))
         replace hnq := hnq.grow' g259 (.tail _ (.head _))
         replace hiq := hiq.grow' g259 (.tail _ (.head _))
         replace hcq := hcq.grow' g259 (.tail _ (.head _))
         replace k38 := k38.grow' g259 (.tail _ (.head _))
         replace k3 := k3.grow g259 n224
         replace k8 := k8.grow g259 n226
         replace k14 := k14.grow g259 n228
         replace k233 := k233.grow g259 h27.symm
         replace k243 := k243.grow g259 n251.symm
         replace hB := g259.below hB l230 hB.size
         replace hL := LL.grow hL g259 k256.lt
         rw [show (p.names.map eS).take at_ ++ ([eS name] ++ (p.names.map eS).drop at_) = ((insA at_ name p.names).map eS) from (insA_map _ at_ _ _).symm] at k256
         refine WL.val (dx_fld (o1 := 3) rfl ty_fld_26_3_3 rfl rfl) rfl rfl ?_
         refine WL.do (dx_store (cs' := [.int .i64 6, .int .i64 0, .string ⟨#[]⟩, x253, .slice none 0 0]) (vs := [x253]) rfl ty_size_23_1 rfl rfl (oc_one k256.one) (oc_cons k256.one oc_nil) k233 rfl (Nat.le_of_ble_eq_true rfl) rfl) rfl ?_
         rintro _ W267 ⟨k269, o268⟩
         replace k3 := k3.other o268 n223
         replace k8 := k8.other o268 n225
         replace k14 := k14.other o268 n227
         replace k243 := k243.other o268 n250.symm
         replace k256 := k256.other o268 n265.symm
         clear k233
         replace hnp := hnp.only o268 (.tail _ (.tail _ (.tail _ (.head _))))
         replace hip := hip.only o268 (.tail _ (.tail _ (.tail _ (.head _))))
         replace hcp := hcp.only o268 (.tail _ (.tail _ (.tail _ (.head _))))
         replace hnq := hnq.only o268 (.tail _ (.tail _ (.tail _ (.head _))))
         replace hiq := hiq.only o268 (.tail _ (.tail _ (.tail _ (.head _))))
         replace hcq := hcq.only o268 (.tail _ (.tail _ (.tail _ (.head _))))
         replace k38 := k38.only o268 (.tail _ (.tail _ (.tail _ (.head _))))
         replace hB := o268.below hB l229
         replace hL := LL.only hL o268
         refine WL.nil ?_
         refine hK241 ?_
         refine WC.seq fun K270 hK270 => ?_
         refine WC.region ?_
         refine WL.val (dx_fld (o1 := 4) rfl ty_fld_26_4_4 rfl rfl) rfl rfl ?_
         refine WL.val (dx_load rfl ty_one_24 rfl (k269.cell (k := 4) rfl)) rfl rfl ?_
         refine WL.val (dx_move rfl rfl) rfl rfl ?_
         refine WL.val (dx_loadN rfl ty_agg_26_5 rfl k8.range rfl) rfl rfl ?_
         refine WL.get (dx_lit1 (r := [.int .i64 q.kind, .int .i64 q.num, .string q.text, q.nv, q.iv]) rfl ty_ap_24 (by decide) (by decide) rfl rfl rfl) rfl rfl ?_
         rintro u275 W271 ⟨k272, b273, z274⟩
         have n278 : W7.heap.size ≠ W267.heap.size := Nat.ne_of_lt k14.lt
         have n279 : B7 ≠ W267.heap.size := Nat.ne_of_lt k269.lt
         have l282 := hB.size
         replace hnp := hnp.more b273 (Nat.le_refl _)
         replace hip := hip.more b273 (Nat.le_refl _)
         replace hcp := hcp.more b273 (Nat.le_refl _)
         replace hnq := hnq.more b273 (Nat.le_refl _)
         replace hiq := hiq.more b273 (Nat.le_refl _)
         replace hcq := hcq.more b273 (Nat.le_refl _)
         replace k38 := k38.more b273 (Nat.le_refl _)
         replace k3 := k3.below b273
         replace k8 := k8.below b273
         replace k14 := k14.below b273
         replace k269 := k269.below b273
         replace k243 := k243.below b273
         replace k256 := k256.below b273
         replace hB := below_then hB b273
         replace hL := LL.more hL z274
         refine WL.get (dx_cv rfl Try.func51 rfl rfl rfl (insNV_v [encT q] W267.heap.size _ W271 _ (by omega) k272 (by simp) (by simp))) rfl rfl ?_
         rintro x283 W284 ⟨⟨B285, l290, k286⟩, g289⟩
         have n294 : W7.heap.size ≠ B285 := Nat.ne_of_lt (Nat.lt_of_lt_of_le k14.lt l290)
         have n295 : B7 ≠ B285 := Nat.ne_of_lt (Nat.lt_of_lt_of_le k269.lt l290)
         have l299 := Nat.le_trans hB.size l290
         replace hnp := hnp.more g289 l290
         replace hip := hip.more g289 l290
         replace hcp := hcp.more g289 l290
         replace hnq := hnq.more g289 l290
         replace hiq := hiq.more g289 l290
         replace hcq := hcq.more g289 l290
         replace k38 := k38.more g289 l290
         replace k3 := k3.below g289
         replace k8 := k8.below g289
         replace k14 := k14.below g289
         replace k269 := k269.below g289
         replace k243 := k243.below g289
         replace k256 := k256.below g289
         replace k272 := k272.below g289
         replace hB := below_then hB g289
         replace hL := LL.cons (LL.below hL g289) k286.lt
         rw [show [encT q] = ((insA at_ q p.items).map encT) from (by rw [hts0]; exact (insN_map _ _ _).symm)] at k286
         refine WL.val (dx_fld (o1 := 4) rfl ty_fld_26_4_4 rfl rfl) rfl rfl ?_
         refine WL.do (dx_store (cs' := [.int .i64 6, .int .i64 0, .string ⟨#[]⟩, x253, x283]) (vs := [x283]) rfl ty_size_24_1 rfl rfl (oc_one k286.one) (oc_cons k286.one oc_nil) k269 rfl (Nat.le_of_ble_eq_true rfl) rfl) rfl ?_
         rintro _ W300 ⟨k302, o301⟩
         replace k3 := k3.other o301 n223
         replace k8 := k8.other o301 n225
         replace k14 := k14.other o301 n227
         replace k243 := k243.other o301 n250.symm
         replace k256 := k256.other o301 n265.symm
         replace k272 := k272.other o301 n279.symm
         replace k286 := k286.other o301 n295.symm
         clear k269
         replace hnp := hnp.only o301 (.tail _ (.tail _ (.tail _ (.tail _ (.tail _ (.head _))))))
         replace hip := hip.only o301 (.tail _ (.tail _ (.tail _ (.tail _ (.tail _ (.head _))))))
         replace hcp := hcp.only o301 (.tail _ (.tail _ (.tail _ (.tail _ (.tail _ (.head _))))))
         replace hnq := hnq.only o301 (.tail _ (.tail _ (.tail _ (.tail _ (.tail _ (.head _))))))
         replace hiq := hiq.only o301 (.tail _ (.tail _ (.tail _ (.tail _ (.tail _ (.head _))))))
         replace hcq := hcq.only o301 (.tail _ (.tail _ (.tail _ (.tail _ (.tail _ (.head _))))))
         replace k38 := k38.only o301 (.tail _ (.tail _ (.tail _ (.tail _ (.tail _ (.head _))))))
         replace hB := o301.below hB l229
         replace hL := LL.only hL o301
         refine WL.nil ?_
         refine hK270 ?_
         refine WC.seq fun K303 hK303 => ?_
         refine WC.region ?_
         refine WL.val (dx_loadN rfl ty_agg_26_5 rfl k302.range rfl) rfl rfl ?_
         refine WL.do (dx_store (cs' := [.int .i64 6, .int .i64 0, .string ⟨#[]⟩, x253, x283]) (vs := [.int .i64 6, .int .i64 0, .string ⟨#[]⟩, x253, x283]) rfl ty_size_26_5 rfl rfl rfl (oc_cons rfl (oc_cons rfl (oc_cons rfl (oc_cons k256.one (oc_cons k286.one oc_nil))))) k14 rfl (Nat.le_of_ble_eq_true rfl) rfl) rfl ?_
         rintro _ W304 ⟨k306, o305⟩
         replace k3 := k3.other o305 n17
         replace k8 := k8.other o305 n18
         replace k302 := k302.other o305 n227.symm
         replace k243 := k243.other o305 n249.symm
         replace k256 := k256.other o305 n264.symm
         replace k272 := k272.other o305 n278.symm
         replace k286 := k286.other o305 n294.symm
         clear k14
         replace hnp := hnp.only o305 (.tail _ (.tail _ (.tail _ (.tail _ (.tail _ (.tail _ (.head _)))))))
         replace hip := hip.only o305 (.tail _ (.tail _ (.tail _ (.tail _ (.tail _ (.tail _ (.head _)))))))
         replace hcp := hcp.only o305 (.tail _ (.tail _ (.tail _ (.tail _ (.tail _ (.tail _ (.head _)))))))
         replace hnq := hnq.only o305 (.tail _ (.tail _ (.tail _ (.tail _ (.tail _ (.tail _ (.head _)))))))
         replace hiq := hiq.only o305 (.tail _ (.tail _ (.tail _ (.tail _ (.tail _ (.tail _ (.head _)))))))
         replace hcq := hcq.only o305 (.tail _ (.tail _ (.tail _ (.tail _ (.tail _ (.tail _ (.head _)))))))
         replace k38 := k38.only o305 (.tail _ (.tail _ (.tail _ (.tail _ (.tail _ (.tail _ (.head _)))))))
         replace hB := o305.below hB l19
         replace hL := LL.only hL o305
         refine WL.val (dx_assign rfl rfl) rfl rfl ?_
         refine WL.nil ?_
         refine hK303 ?_
         refine WC.ret fun a_ ha_ => ?_
         exact hQ (cv_ret2 rfl (.agg rfl ty_agg_26_5 k306.range rfl) (.tmp rfl) (.inl ⟨.mk 6 0 ⟨#[]⟩ x253 (insA at_ name p.names) x283 (insA at_ q p.items), rfl, (by rw [withJ_ok hro hxo huo (by omega), putJ_f (a := at_) (by rw [er_names]; exact hat) (by rw [er_names]; assumption), Tr.er_mk, er_names, er_items, insA_map]), (k256.notin hL0 l261), (k286.notin hL0 l299), fun c hc_ => by rcases mem_insA.1 hc_ with h_ | h_; (rw [h_]; exact ((show RdT (n + 1) (B285 :: W267.heap.size :: B255 :: W236.heap.size :: Bn :: B7 :: W7.heap.size :: W2.heap.size :: w.heap.size :: L) W304 q from ⟨hnq, hiq, hcq⟩).less (fun x hx => (.tail _ (.tail _ (.tail _ (.tail _ (.tail _ (.tail _ (.tail _ (.tail _ (.tail _ hx)))))))))))); exact ((hcp c h_).less (fun x hx => (.tail _ (.tail _ (.tail _ (.tail _ (.tail _ (.tail _ (.tail _ (.tail _ (.tail _ hx))))))))))).up⟩) hB ha_)
       ·
        have n307 : w.heap.size ≠ B7 := Nat.ne_of_lt (Nat.lt_of_lt_of_le k3.lt hB7)
        have n308 : w.heap.size ≠ Bn := Nat.ne_of_lt (Nat.lt_of_lt_of_le k3.lt hBn)
        have n309 : w.heap.size ≠ Bi := Nat.ne_of_lt (Nat.lt_of_lt_of_le k3.lt hBi)
        have n310 : W2.heap.size ≠ B7 := Nat.ne_of_lt (Nat.lt_of_lt_of_le k8.lt hB7)
        have n311 : W2.heap.size ≠ Bn := Nat.ne_of_lt (Nat.lt_of_lt_of_le k8.lt hBn)
        have n312 : W2.heap.size ≠ Bi := Nat.ne_of_lt (Nat.lt_of_lt_of_le k8.lt hBi)
        have n313 : W7.heap.size ≠ B7 := Nat.ne_of_lt (Nat.lt_of_lt_of_le k14.lt hB7)
        have n314 : W7.heap.size ≠ Bn := Nat.ne_of_lt (Nat.lt_of_lt_of_le k14.lt hBn)
        have n315 : W7.heap.size ≠ Bi := Nat.ne_of_lt (Nat.lt_of_lt_of_le k14.lt hBi)
        have h27 : Bn ≠ B7 := ap_ne a27 hOn.vB rfl
        have h57 : Bi ≠ B7 := ap_ne a57 hOi.vB rfl
        have h25 : Bn ≠ Bi := ap_ne a25 hOn.vB hOi.vB
        replace hnp := hnp.more (Below.refl _ _) hB7
        replace hnp := hnp.more (Below.refl _ _) hBn
        replace hnp := hnp.more hb5 hBi
        replace hip := hip.more (Below.refl _ _) hB7
        replace hip := hip.more (Below.refl _ _) hBn
        replace hip := hip.more hb5 hBi
        replace hcp := hcp.more (Below.refl _ _) hB7
        replace hcp := hcp.more (Below.refl _ _) hBn
        replace hcp := hcp.more hb5 hBi
        replace hnq := hnq.more (Below.refl _ _) hB7
        replace hnq := hnq.more (Below.refl _ _) hBn
        replace hnq := hnq.more hb5 hBi
        replace hiq := hiq.more (Below.refl _ _) hB7
        replace hiq := hiq.more (Below.refl _ _) hBn
        replace hiq := hiq.more hb5 hBi
        replace hcq := hcq.more (Below.refl _ _) hB7
        replace hcq := hcq.more (Below.refl _ _) hBn
        replace hcq := hcq.more hb5 hBi
        replace k38 := k38.more (Below.refl _ _) hB7
        replace k38 := k38.more (Below.refl _ _) hBn
        replace k38 := k38.more hb5 hBi
        replace k3 := k3.below hb5
        replace k8 := k8.below hb5
        replace k14 := k14.below hb5
        have l316 := Nat.le_trans hB.size hB7
        have l317 := Nat.le_trans hB.size hBn
        have l318 := Nat.le_trans hB.size hBi
        replace hB := below_then hB hb5
        replace hL := LL.below hL hb5
        replace hL := LL.cons hL hk7.lt
        replace hL := LL.cons hL hOn.lt
        replace hL := LL.cons hL hOi.lt
        refine WL.do (dx_store (cs' := [.int .i64 6, .int .i64 0, .string ⟨#[]⟩, u2, u5]) (vs := [.int .i64 6, .int .i64 0, .string ⟨#[]⟩, u2, u5]) rfl ty_size_26_5 rfl rfl rfl (oc_cons rfl (oc_cons rfl (oc_cons rfl (oc_cons hOn.one (oc_cons hOi.one oc_nil))))) hk7 rfl (Nat.le_of_ble_eq_true rfl) rfl) rfl ?_
        rintro _ W319 ⟨k321, o320⟩
        replace k3 := k3.other o320 n307
        replace k8 := k8.other o320 n310
        replace k14 := k14.other o320 n313
        replace hOn := hOn.other o320 h27
        replace hOi := hOi.other o320 h57
        clear hk7
        replace hnp := hnp.only o320 (.tail _ (.tail _ (.head _)))
        replace hip := hip.only o320 (.tail _ (.tail _ (.head _)))
        replace hcp := hcp.only o320 (.tail _ (.tail _ (.head _)))
        replace hnq := hnq.only o320 (.tail _ (.tail _ (.head _)))
        replace hiq := hiq.only o320 (.tail _ (.tail _ (.head _)))
        replace hcq := hcq.only o320 (.tail _ (.tail _ (.head _)))
        replace k38 := k38.only o320 (.tail _ (.tail _ (.head _)))
        replace hB := o320.below hB l316
        replace hL := LL.only hL o320
        refine WL.nil ?_
        refine hK56 ?_
        refine WC.seq fun K322 hK322 => ?_
        refine WC.region ?_
        refine WL.val (dx_fld (o1 := 3) rfl ty_fld_26_3_3 rfl rfl) rfl rfl ?_
        refine WL.val (dx_load rfl ty_one_23 rfl (k321.cell (k := 3) rfl)) rfl rfl ?_
        refine WL.val (dx_move rfl rfl) rfl rfl ?_
        refine WL.get (dx_cv rfl Try.func49 rfl rfl rfl (bsearchB_v p.names name _ W319 [] (LL.nil _) (hOn.rd (L := []) (by simp)) hris (by omega))) rfl rfl ?_
        rintro _ W324 ⟨⟨at_, hat, hatl, rfl⟩, b323⟩
        replace hnp := hnp.below b323
        replace hip := hip.below b323
        replace hcp := hcp.below b323
        replace hnq := hnq.below b323
        replace hiq := hiq.below b323
        replace hcq := hcq.below b323
        replace k38 := k38.below b323
        replace k3 := k3.below b323
        replace k8 := k8.below b323
        replace k14 := k14.below b323
        replace k321 := k321.below b323
        replace hOn := hOn.below b323
        replace hOi := hOi.below b323
        replace hB := below_then hB b323
        replace hL := LL.below hL b323
        refine WL.val (dx_move rfl rfl) rfl rfl ?_
        refine WL.val (dx_extract rfl rfl rfl) rfl rfl ?_
        refine WL.val (dx_extract rfl rfl rfl) rfl rfl ?_
        refine WL.val (dx_assign rfl rfl) rfl rfl ?_
        refine WL.val (dx_assign rfl rfl) rfl rfl ?_
        refine WL.nil ?_
        refine hK322 ?_
        refine WC.seq fun K325 hK325 => ?_
        refine WC.seq fun K326 hK326 => ?_
        refine WC.region ?_
        refine WL.val (dx_move rfl rfl) rfl rfl ?_
        refine WL.nil ?_
        refine hK326 ?_
        refine WC.cond rfl (fun c327 => ?_) (fun c327 => ?_)
        ·
         replace c327 := of_decide_eq_true c327
         refine WC.seq fun K328 hK328 => ?_
         have hal : at_ < p.names.length := (List.getElem?_eq_some_iff.1 (by assumption : p.names[at_]? = some name)).1
         refine WC.region ?_
         refine WL.val (dx_fld (o1 := 4) rfl ty_fld_26_4_4 rfl rfl) rfl rfl ?_
         refine WL.val (dx_load rfl ty_one_24 rfl (k321.cell (k := 4) rfl)) rfl rfl ?_
         refine WL.val (dx_move rfl rfl) rfl rfl ?_
         refine WL.val (dx_loadN rfl ty_agg_26_5 rfl k8.range rfl) rfl rfl ?_
         refine WL.val (dx_idxO at_ rfl ty_slice_24 rfl rfl hOi (by omega) (by rw [List.length_map]; omega) rfl) rfl rfl ?_
         refine WL.do (dx_storeO (k := at_) (r := encT q) rfl ty_size_26_5 rfl rfl rfl (show RdT (n + 1) (Bi :: Bn :: B7 :: W7.heap.size :: W2.heap.size :: w.heap.size :: L) W324 q from ⟨hnq, hiq, hcq⟩).oc hOi rfl (by rw [List.length_map]; omega) rfl) rfl ?_
         rintro _ W329 ⟨k331, o330⟩
         replace k3 := k3.other o330 n309
         replace k8 := k8.other o330 n312
         replace k14 := k14.other o330 n315
         replace k321 := k321.other o330 h57.symm
         replace hOn := hOn.other o330 h25
         clear hOi
         replace hnp := hnp.only o330 (.head _)
         replace hip := hip.only o330 (.head _)
         replace hcp := hcp.only o330 (.head _)
         replace hnq := hnq.only o330 (.head _)
         replace hiq := hiq.only o330 (.head _)
         replace hcq := hcq.only o330 (.head _)
         replace k38 := k38.only o330 (.head _)
         replace hB := o330.below hB l318
         replace hL := LL.only hL o330
         rw [← List.map_set] at k331
         refine WL.nil ?_
         refine hK328 ?_
         refine WC.seq fun K332 hK332 => ?_
         refine WC.region ?_
         refine WL.val (dx_loadN rfl ty_agg_26_5 rfl k321.range rfl) rfl rfl ?_
         refine WL.do (dx_store (cs' := [.int .i64 6, .int .i64 0, .string ⟨#[]⟩, u2, u5]) (vs := [.int .i64 6, .int .i64 0, .string ⟨#[]⟩, u2, u5]) rfl ty_size_26_5 rfl rfl rfl (oc_cons rfl (oc_cons rfl (oc_cons rfl (oc_cons hOn.one (oc_cons k331.one oc_nil))))) k14 rfl (Nat.le_of_ble_eq_true rfl) rfl) rfl ?_
         rintro _ W333 ⟨k335, o334⟩
         replace k3 := k3.other o334 n17
         replace k8 := k8.other o334 n18
         replace k321 := k321.other o334 n313.symm
         replace hOn := hOn.other o334 n314.symm
         replace k331 := k331.other o334 n315.symm
         clear k14
         replace hnp := hnp.only o334 (.tail _ (.tail _ (.tail _ (.head _))))
         replace hip := hip.only o334 (.tail _ (.tail _ (.tail _ (.head _))))
         replace hcp := hcp.only o334 (.tail _ (.tail _ (.tail _ (.head _))))
         replace hnq := hnq.only o334 (.tail _ (.tail _ (.tail _ (.head _))))
         replace hiq := hiq.only o334 (.tail _ (.tail _ (.tail _ (.head _))))
         replace hcq := hcq.only o334 (.tail _ (.tail _ (.tail _ (.head _))))
         replace k38 := k38.only o334 (.tail _ (.tail _ (.tail _ (.head _))))
         replace hB := o334.below hB l19
         replace hL := LL.only hL o334
         refine WL.val (dx_assign rfl rfl) rfl rfl ?_
         refine WL.nil ?_
         refine hK332 ?_
         refine WC.ret fun a_ ha_ => ?_
         exact hQ (cv_ret2 rfl (.agg rfl ty_agg_26_5 k335.range rfl) (.tmp rfl) (.inl ⟨.mk 6 0 ⟨#[]⟩ u2 p.names u5 (p.items.set at_ q), rfl, (by rw [withJ_ok hro hxo huo (by omega), putJ_t (a := at_) (by rw [er_names]; exact hat) (by rw [er_names]; assumption), Tr.er_mk, er_names, er_items, List.map_set]), (hOn.notin hL0 l317), (k331.notin hL0 l318), fun c hc_ => by rcases List.mem_or_eq_of_mem_set hc_ with h_ | h_; exact ((hcp c h_).less (fun x hx => (.tail _ (.tail _ (.tail _ (.tail _ (.tail _ (.tail _ hx)))))))).up; (rw [h_]; exact ((show RdT (n + 1) (Bi :: Bn :: B7 :: W7.heap.size :: W2.heap.size :: w.heap.size :: L) W333 q from ⟨hnq, hiq, hcq⟩).less (fun x hx => (.tail _ (.tail _ (.tail _ (.tail _ (.tail _ (.tail _ hx)))))))))⟩) hB ha_)
        ·
         replace c327 := of_decide_eq_false c327
         refine WC.skip ?_
         refine hK325 ?_
         refine WC.seq fun K336 hK336 => ?_
         refine WC.region ?_
         refine WL.val (dx_fld (o1 := 3) rfl ty_fld_26_3_3 rfl rfl) rfl rfl ?_
         refine WL.val (dx_load rfl ty_one_23 rfl (k321.cell (k := 3) rfl)) rfl rfl ?_
         refine WL.val (dx_move rfl rfl) rfl rfl ?_
         refine WL.val (dx_move rfl rfl) rfl rfl ?_
         refine WL.get (dx_lit1 (r := [.string name]) rfl ty_ap_23 (by decide) (by decide) rfl rfl rfl) rfl rfl ?_
         rintro u341 W337 ⟨k338, b339, z340⟩
         have n344 : W7.heap.size ≠ W324.heap.size := Nat.ne_of_lt k14.lt
         have n345 : B7 ≠ W324.heap.size := Nat.ne_of_lt k321.lt
         have n346 : Bn ≠ W324.heap.size := Nat.ne_of_lt hOn.lt
         have n347 : Bi ≠ W324.heap.size := Nat.ne_of_lt hOi.lt
         have l348 := hB.size
         replace hnp := hnp.more b339 (Nat.le_refl _)
         replace hip := hip.more b339 (Nat.le_refl _)
         replace hcp := hcp.more b339 (Nat.le_refl _)
         replace hnq := hnq.more b339 (Nat.le_refl _)
         replace hiq := hiq.more b339 (Nat.le_refl _)
         replace hcq := hcq.more b339 (Nat.le_refl _)
         replace k38 := k38.more b339 (Nat.le_refl _)
         replace k3 := k3.below b339
         replace k8 := k8.below b339
         replace k14 := k14.below b339
         replace k321 := k321.below b339
         replace hOn := hOn.below b339
         replace hOi := hOi.below b339
         replace hB := below_then hB b339
         replace hL := LL.more hL z340
         refine WL.get (dx_cw rfl Try.func50 rfl rfl rfl (insOT_v _ [eS name] at_ Bn W324.heap.size _ _ W337 hOn k338 n346.symm (by rw [List.length_map]; omega) (by simp) (by rw [List.length_map, List.length_singleton]; omega) (oc_eS p.names) (fun r hr => by rw [List.mem_singleton.1 hr]; exact (oc_cons rfl oc_nil)))) rfl rfl ?_
         rintro x349 W350 ⟨⟨B351, k352, g353⟩, g354⟩
         have g355 := GrowB.of_chg g354 g353
         have n360 : W7.heap.size ≠ B351 := k14.grow_ne g355 n314
         have n361 : B7 ≠ B351 := k321.grow_ne g355 h27.symm
         have n362 : Bi ≠ B351 := hOi.grow_ne g355 h25.symm
         have l357 := g355.le l317 hB.size
         replace hnp := hnp.grow' g355 (.tail _ (.tail _ (.head _)))
         replace hip := hip.grow' g355 (.tail _ (.tail _ (.head _)))
         replace hcp := hcp.grow' g355 (.tail _ (.tail _ (.head _)))
         replace hnq := hnq.grow' g355 (.tail _ (.tail _ (.head _)))
         replace hiq := hiq.grow' g355 (.tail _ (.tail _ (.head _)))
         replace hcq := hcq.grow' g355 (.tail _ (.tail _ (.head _)))
         replace k38 := k38.grow' g355 (.tail _ (.tail _ (.head _)))
         replace k3 := k3.grow g355 n308
         replace k8 := k8.grow g355 n311
         replace k14 := k14.grow g355 n314
         replace k321 := k321.grow g355 h27.symm
         replace hOi := hOi.grow g355 h25.symm
         replace k338 := k338.grow g355 n346.symm
         replace hB := g355.below hB l317 hB.size
         replace hL := LL.grow hL g355 k352.lt
         rw [show (p.names.map eS).take at_ ++ ([eS name] ++ (p.names.map eS).drop at_) = ((insA at_ name p.names).map eS) from (insA_map _ at_ _ _).symm] at k352
         refine WL.val (dx_fld (o1 := 3) rfl ty_fld_26_3_3 rfl rfl) rfl rfl ?_
         refine WL.do (dx_store (cs' := [.int .i64 6, .int .i64 0, .string ⟨#[]⟩, x349, u5]) (vs := [x349]) rfl ty_size_23_1 rfl rfl (oc_one k352.one) (oc_cons k352.one oc_nil) k321 rfl (Nat.le_of_ble_eq_true rfl) rfl) rfl ?_
         rintro _ W364 ⟨k366, o365⟩
         replace k3 := k3.other o365 n307
         replace k8 := k8.other o365 n310
         replace k14 := k14.other o365 n313
         replace hOi := hOi.other o365 h57
         replace k338 := k338.other o365 n345.symm
         replace k352 := k352.other o365 n361.symm
         clear k321
         replace hnp := hnp.only o365 (.tail _ (.tail _ (.tail _ (.tail _ (.head _)))))
         replace hip := hip.only o365 (.tail _ (.tail _ (.tail _ (.tail _ (.head _)))))
         replace hcp := hcp.only o365 (.tail _ (.tail _ (.tail _ (.tail _ (.head _)))))
         replace hnq := hnq.only o365 (.tail _ (.tail _ (.tail _ (.tail _ (.head _)))))
         replace hiq := hiq.only o365 (.tail _ (.tail _ (.tail _ (.tail _ (.head _)))))
         replace hcq := hcq.only o365 (.tail _ (.tail _ (.tail _ (.tail _ (.head _)))))
         replace k38 := k38.only o365 (.tail _ (.tail _ (.tail _ (.tail _ (.head _)))))
         replace hB := o365.below hB l316
         replace hL := LL.only hL o365
         refine WL.nil ?_
         refine hK336 ?_
         refine WC.seq fun K367 hK367 => ?_
         refine WC.region ?_
         refine WL.val (dx_fld (o1 := 4) rfl ty_fld_26_4_4 rfl rfl) rfl rfl ?_
         refine WL.val (dx_load rfl ty_one_24 rfl (k366.cell (k := 4) rfl)) rfl rfl ?_
         refine WL.val (dx_move rfl rfl) rfl rfl ?_
         refine WL.val (dx_loadN rfl ty_agg_26_5 rfl k8.range rfl) rfl rfl ?_
         refine WL.get (dx_lit1 (r := [.int .i64 q.kind, .int .i64 q.num, .string q.text, q.nv, q.iv]) rfl ty_ap_24 (by decide) (by decide) rfl rfl rfl) rfl rfl ?_
         rintro u372 W368 ⟨k369, b370, z371⟩
         have n375 : W7.heap.size ≠ W364.heap.size := Nat.ne_of_lt k14.lt
         have n376 : B7 ≠ W364.heap.size := Nat.ne_of_lt k366.lt
         have n377 : Bi ≠ W364.heap.size := Nat.ne_of_lt hOi.lt
         have l380 := hB.size
         replace hnp := hnp.more b370 (Nat.le_refl _)
         replace hip := hip.more b370 (Nat.le_refl _)
         replace hcp := hcp.more b370 (Nat.le_refl _)
         replace hnq := hnq.more b370 (Nat.le_refl _)
         replace hiq := hiq.more b370 (Nat.le_refl _)
         replace hcq := hcq.more b370 (Nat.le_refl _)
         replace k38 := k38.more b370 (Nat.le_refl _)
         replace k3 := k3.below b370
         replace k8 := k8.below b370
         replace k14 := k14.below b370
         replace k366 := k366.below b370
         replace hOi := hOi.below b370
         replace k338 := k338.below b370
         replace k352 := k352.below b370
         replace hB := below_then hB b370
         replace hL := LL.more hL z371
         refine WL.get (dx_cw rfl Try.func51 rfl rfl rfl (insOV_v _ [encT q] at_ Bi W364.heap.size _ _ W368 hOi k369 n377.symm (by rw [List.length_map]; omega) (by simp) (by rw [List.length_map, List.length_singleton]; omega) (oc_items hcp) (fun r hr => by rw [List.mem_singleton.1 hr]; exact (show RdT (n + 1) (W364.heap.size :: B351 :: W324.heap.size :: Bi :: Bn :: B7 :: W7.heap.size :: W2.heap.size :: w.heap.size :: L) W368 q from ⟨hnq, hiq, hcq⟩).oc))) rfl rfl ?_
         rintro x381 W382 ⟨⟨B383, k384, g385⟩, g386⟩
         have g387 := GrowB.of_chg g386 g385
         have n392 : W7.heap.size ≠ B383 := k14.grow_ne g387 n315
         have n393 : B7 ≠ B383 := k366.grow_ne g387 h57.symm
         have l389 := g387.le l318 hB.size
         replace hnp := hnp.grow' g387 (.tail _ (.tail _ (.tail _ (.head _))))
         replace hip := hip.grow' g387 (.tail _ (.tail _ (.tail _ (.head _))))
         replace hcp := hcp.grow' g387 (.tail _ (.tail _ (.tail _ (.head _))))
         replace hnq := hnq.grow' g387 (.tail _ (.tail _ (.tail _ (.head _))))
         replace hiq := hiq.grow' g387 (.tail _ (.tail _ (.tail _ (.head _))))
         replace hcq := hcq.grow' g387 (.tail _ (.tail _ (.tail _ (.head _))))
         replace k38 := k38.grow' g387 (.tail _ (.tail _ (.tail _ (.head _))))
         replace k3 := k3.grow g387 n309
         replace k8 := k8.grow g387 n312
         replace k14 := k14.grow g387 n315
         replace k366 := k366.grow g387 h57.symm
         replace k338 := k338.grow g387 n347.symm
         replace k352 := k352.grow g387 n362.symm
         replace k369 := k369.grow g387 n377.symm
         replace hB := g387.below hB l318 hB.size
         replace hL := LL.grow hL g387 k384.lt
         rw [show (p.items.map encT).take at_ ++ ([encT q] ++ (p.items.map encT).drop at_) = ((insA at_ q p.items).map encT) from (insA_map _ at_ _ _).symm] at k384
         refine WL.val (dx_fld (o1 := 4) rfl ty_fld_26_4_4 rfl rfl) rfl rfl ?_
         refine WL.do (dx_store (cs' := [.int .i64 6, .int .i64 0, .string ⟨#[]⟩, x349, x381]) (vs := [x381]) rfl ty_size_24_1 rfl rfl (oc_one k384.one) (oc_cons k384.one oc_nil) k366 rfl (Nat.le_of_ble_eq_true rfl) rfl) rfl ?_
         rintro _ W397 ⟨k399, o398⟩
         replace k3 := k3.other o398 n307
         replace k8 := k8.other o398 n310
         replace k14 := k14.other o398 n313
         replace k338 := k338.other o398 n345.symm
         replace k352 := k352.other o398 n361.symm
         replace k369 := k369.other o398 n376.symm
         replace k384 := k384.other o398 n393.symm
         clear k366
         replace hnp := hnp.only o398 (.tail _ (.tail _ (.tail _ (.tail _ (.tail _ (.tail _ (.head _)))))))
         replace hip := hip.only o398 (.tail _ (.tail _ (.tail _ (.tail _ (.tail _ (.tail _ (.head _)))))))
         replace hcp := hcp.only o398 (.tail _ (.tail _ (.tail _ (.tail _ (.tail _ (.tail _ (.head _)))))))
         replace hnq := hnq.only o398 (.tail _ (.tail _ (.tail _ (.tail _ (.tail _ (.tail _ (.head _)))))))
         replace hiq := hiq.only o398 (.tail _ (.tail _ (.tail _ (.tail _ (.tail _ (.tail _ (.head _)))))))
         replace hcq := hcq.only o398 (.tail _ (.tail _ (.tail _ (.tail _ (.tail _ (.tail _ (.head _)))))))
         replace k38 := k38.only o398 (.tail _ (.tail _ (.tail _ (.tail _ (.tail _ (.tail _ (.head _)))))))
         replace hB := o398.below hB l316
         replace hL := LL.only hL o398
         refine WL.nil ?_
         refine hK367 ?_
         refine WC.seq fun K400 hK400 => ?_
         refine WC.region ?_
         refine WL.val (dx_loadN rfl ty_agg_26_5 rfl k399.range rfl) rfl rfl ?_
         refine WL.do (dx_store (cs' := [.int .i64 6, .int .i64 0, .string ⟨#[]⟩, x349, x381]) (vs := [.int .i64 6, .int .i64 0, .string ⟨#[]⟩, x349, x381]) rfl ty_size_26_5 rfl rfl rfl (oc_cons rfl (oc_cons rfl (oc_cons rfl (oc_cons k352.one (oc_cons k384.one oc_nil))))) k14 rfl (Nat.le_of_ble_eq_true rfl) rfl) rfl ?_
         rintro _ W401 ⟨k403, o402⟩
         replace k3 := k3.other o402 n17
         replace k8 := k8.other o402 n18
         replace k399 := k399.other o402 n313.symm
         replace k338 := k338.other o402 n344.symm
         replace k352 := k352.other o402 n360.symm
         replace k369 := k369.other o402 n375.symm
         replace k384 := k384.other o402 n392.symm
         clear k14
         replace hnp := hnp.only o402 (.tail _ (.tail _ (.tail _ (.tail _ (.tail _ (.tail _ (.tail _ (.head _))))))))
         replace hip := hip.only o402 (.tail _ (.tail _ (.tail _ (.tail _ (.tail _ (.tail _ (.tail _ (.head _))))))))
         replace hcp := hcp.only o402 (.tail _ (.tail _ (.tail _ (.tail _ (.tail _ (.tail _ (.tail _ (.head _))))))))
         replace hnq := hnq.only o402 (.tail _ (.tail _ (.tail _ (.tail _ (.tail _ (.tail _ (.tail _ (.head _))))))))
         replace hiq := hiq.only o402 (.tail _ (.tail _ (.tail _ (.tail _ (.tail _ (.tail _ (.tail _ (.head _))))))))
         replace hcq := hcq.only o402 (.tail _ (.tail _ (.tail _ (.tail _ (.tail _ (.tail _ (.tail _ (.head _))))))))
         replace k38 := k38.only o402 (.tail _ (.tail _ (.tail _ (.tail _ (.tail _ (.tail _ (.tail _ (.head _))))))))
         replace hB := o402.below hB l19
         replace hL := LL.only hL o402
         refine WL.val (dx_assign rfl rfl) rfl rfl ?_
         refine WL.nil ?_
         refine hK400 ?_
         refine WC.ret fun a_ ha_ => ?_
         exact hQ (cv_ret2 rfl (.agg rfl ty_agg_26_5 k403.range rfl) (.tmp rfl) (.inl ⟨.mk 6 0 ⟨#[]⟩ x349 (insA at_ name p.names) x381 (insA at_ q p.items), rfl, (by rw [withJ_ok hro hxo huo (by omega), putJ_f (a := at_) (by rw [er_names]; exact hat) (by rw [er_names]; assumption), Tr.er_mk, er_names, er_items, insA_map]), (k352.notin hL0 l357), (k384.notin hL0 l389), fun c hc_ => by rcases mem_insA.1 hc_ with h_ | h_; (rw [h_]; exact ((show RdT (n + 1) (B383 :: W364.heap.size :: B351 :: W324.heap.size :: Bi :: Bn :: B7 :: W7.heap.size :: W2.heap.size :: w.heap.size :: L) W401 q from ⟨hnq, hiq, hcq⟩).less (fun x hx => (.tail _ (.tail _ (.tail _ (.tail _ (.tail _ (.tail _ (.tail _ (.tail _ (.tail _ (.tail _ hx))))))))))))); exact ((hcp c h_).less (fun x hx => (.tail _ (.tail _ (.tail _ (.tail _ (.tail _ (.tail _ (.tail _ (.tail _ (.tail _ (.tail _ hx)))))))))))).up⟩) hB ha_)

end Go.Proofs.Ytpinidlfcifeeaa
namespace Go.Proofs.Ytpinidlfcifeeaa
open Go.RowKit
set_option linter.unusedVariables false
set_option linter.unusedSimpArgs false
abbrev Ups (l : List ByteArray) : Prop := l.Pairwise (fun a b => sless b a = false)
theorem ups_not {l : List ByteArray} (h : Ups l) {i j : Nat} {a b : ByteArray} (hij : i < j) (ha : l[i]? = some a) (hb : l[j]? = some b) : sless b a = false := by
 obtain ⟨hi, rfl⟩ := List.getElem?_eq_some_iff.1 ha
 obtain ⟨hj, rfl⟩ := List.getElem?_eq_some_iff.1 hb
 exact List.pairwise_iff_getElem.1 h i j hi hj hij
theorem ups_ahead {l : List ByteArray} (h : Ups l) {x a b : ByteArray} {i q : Nat} (hq : q ≤ i) (ha : l[i]? = some a) (hx : sless a x = true) (hb : l[q]? = some b) : sless b x = true := by
  rcases Nat.lt_or_eq_of_le hq with h1 | rfl
  · have := ups_not h h1 hb ha
    rcases sless_tri a b with ⟨p, _, _⟩ | ⟨_, p, _⟩ | rfl
    · rw [p] at this; cases this
    · exact sless_trans _ _ _ p hx
    · exact hx
  · rw [ha] at hb; cases hb; exact hx
theorem ups_behind {l : List ByteArray} (h : Ups l) {x a b : ByteArray} {i q : Nat} (hq : i ≤ q) (ha : l[i]? = some a) (hx : sless a x = false) (hb : l[q]? = some b) : sless b x = false := by
  rcases Nat.lt_or_eq_of_le hq with h1 | rfl
  · cases hbx : sless b x with
    | false => rfl
    | true => rw [ups_ahead h hq hb hbx ha] at hx; cases hx
  · rw [ha] at hb; cases hb; exact hx
theorem mem_ups {x : ByteArray} {l : List ByteArray} (h : Ups l) : x ∈ l ↔ l[lbT x l]? = some x := by
  constructor
  · intro hm
    obtain ⟨i, hi, he⟩ := List.mem_iff_getElem.1 hm
    have hx : l[i]? = some x := by rw [List.getElem?_eq_getElem hi, he]
    have hle : lbT x l ≤ i := by
      rcases Nat.lt_or_ge i (lbT x l) with h1 | h1
      · have := lb_ahead h1 hx
        rw [sless_irrefl] at this; cases this
      · exact h1
    have hlt : lbT x l < l.length := by omega
    have ha := List.getElem?_eq_getElem hlt
    have h1 := lb_at ha
    rw [ha]
    rcases Nat.lt_or_eq_of_le hle with h2 | h2
    · have h3 := ups_not h h2 ha hx
      rcases sless_tri l[lbT x l] x with ⟨p, _, _⟩ | ⟨_, p, _⟩ | p
      · rw [p] at h1; cases h1
      · rw [p] at h3; cases h3
      · rw [p]
    · rw [← ha, h2]; exact hx
  · exact fun hm => List.mem_of_getElem? hm
theorem ups_sort (l : List ByteArray) : Ups (sortT l) := sortT_le l
def hasB (g : List ByteArray) (a : ByteArray) : Bool := g.any fun x => decide (x = a)
theorem hasB_iff {g : List ByteArray} {a : ByteArray} : hasB g a = true ↔ a ∈ g := by
  unfold hasB
  rw [List.any_eq_true]
  constructor
  · rintro ⟨x, hx, he⟩
    rw [← of_decide_eq_true he]; exact hx
  · exact fun h => ⟨a, h, decide_eq_true rfl⟩
/-- What is left of names, and of what stands with them. -/
def wnN (g : List ByteArray) (ns : List ByteArray) : List ByteArray := ns.filter fun a => !hasB g a
def wnT {α : Type} (g : List ByteArray) (ns : List ByteArray) (ts : List α) : List α := ((ns.zip ts).filter fun p => !hasB g p.1).map (·.2)
theorem wnN_le (g ns : List ByteArray) : (wnN g ns).length ≤ ns.length := List.length_filter_le _ _
theorem wnT_len {α : Type} (g : List ByteArray) : ∀ (ns : List ByteArray) (ts : List α), ns.length = ts.length → (wnT g ns ts).length = (wnN g ns).length
 | [], [], _ => rfl
 | [], _ :: _, h => by simp at h
 | _ :: _, [], h => by simp at h
 | a :: ns, t :: ts, h => by
  have := wnT_len g ns ts (by simpa using h)
  unfold wnT wnN at *
  rw [List.zip_cons_cons, List.filter_cons, List.filter_cons]
  cases ha : hasB g a with
  | false => simpa using this
  | true => simpa using this
theorem wnT_map {α β : Type} (f : α → β) (g : List ByteArray) : ∀ (ns : List ByteArray) (ts : List α), (wnT g ns ts).map f = wnT g ns (ts.map f)
 | [], ts => by simp [wnT]
 | _ :: _, [] => by simp [wnT]
 | a :: ns, t :: ts => by
  have ih := wnT_map f g ns ts
  unfold wnT at ih ⊢
  rw [List.map_cons, List.zip_cons_cons, List.zip_cons_cons, List.filter_cons, List.filter_cons]
  cases ha : hasB g a with
  | false => simpa using ih
  | true => simpa using ih
theorem wnN_add {g l : List ByteArray} {i : Nat} {a : ByteArray} (hr : l[i]? = some a) (h : hasB g a = false) : wnN g (l.take (i + 1)) = wnN g (l.take i) ++ [a] := by
 unfold wnN
 rw [List.take_add_one, hr, List.filter_append]
 simp [h]
theorem wnN_no {g l : List ByteArray} {i : Nat} {a : ByteArray} (hr : l[i]? = some a) (h : hasB g a = true) : wnN g (l.take (i + 1)) = wnN g (l.take i) := by
 unfold wnN
 rw [List.take_add_one, hr, List.filter_append]
 simp [h]
theorem zip_take {α : Type} {l : List ByteArray} {ts : List α} {i : Nat} {a : ByteArray} {t : α} (hr : l[i]? = some a) (ht : ts[i]? = some t) : (l.take (i + 1)).zip (ts.take (i + 1)) = (l.take i).zip (ts.take i) ++ [(a, t)] := by
 have h1 := (List.getElem?_eq_some_iff.1 hr).1
 have h2 := (List.getElem?_eq_some_iff.1 ht).1
 rw [List.take_add_one, List.take_add_one, hr, ht, List.zip_append (by rw [List.length_take, List.length_take]; omega)]
 rfl
theorem wnT_add {α : Type} {g l : List ByteArray} {ts : List α} {i : Nat} {a : ByteArray} {t : α} (hr : l[i]? = some a) (ht : ts[i]? = some t) (h : hasB g a = false) : wnT g (l.take (i + 1)) (ts.take (i + 1)) = wnT g (l.take i) (ts.take i) ++ [t] := by
 unfold wnT
 rw [zip_take hr ht, List.filter_append]
 simp [h]
theorem wnT_no {α : Type} {g l : List ByteArray} {ts : List α} {i : Nat} {a : ByteArray} {t : α} (hr : l[i]? = some a) (ht : ts[i]? = some t) (h : hasB g a = true) : wnT g (l.take (i + 1)) (ts.take (i + 1)) = wnT g (l.take i) (ts.take i) := by
 unfold wnT
 rw [zip_take hr ht, List.filter_append]
 simp [h]
theorem NewW.rdL {s b : Nat} {w w0 : World} {u : Value} {rs : List (List Value)} {L : List Nat} (h : NewW s b rs u w) (hL : LL L w0) (hb : w0.heap.size ≤ b) : RdF s L w u rs := by
  rcases h with ⟨rfl, rfl, h0⟩ | ⟨B, h1, h2⟩
  · exact RdF.nil h0
  · exact h2.rd (hL.notin (Nat.le_trans hb h1))
end Go.Proofs.Ytpinidlfcifeeaa
namespace Go.Proofs
open Go.Shelf
def Try.lays190_ren : Go.Shelf.Ren := ⟨fun | 190 => 53 | 125 => 81 | 258 => 80 | 128 => 105 | 129 => 106 | 302 => 97 | 303 => 98 | 304 => 99 | 305 => 100 | 306 => 101 | 307 => 102 | 308 => 74 | 309 => 103 | 310 => 104 | 333 => 126 | 329 => 127 | 330 => 128 | 334 => 129 | 335 => 130 | 336 => 94 | 344 => 137 | n => n, fun | 31 => 23 | 9 => 9 | 3 => 3 | 46 => 97 | 0 => 0 | 51 => 122 | 53 => 124 | 4 => 4 | 183 => 116 | 182 => 115 | 131 => 68 | 5 => 5 | 218 => 139 | 222 => 143 | 228 => 151 | 229 => 152 | n => n, fun | n => n⟩
theorem Try.lays190 : Go.Proofs.Lays.n190 Try.prog Try.lays190_ren := {
 mixed := by kernel_rfl
 f125 := Try.func81.trans (congrArg some (by kernel_rfl))
 f128 := Try.func105.trans (congrArg some (by kernel_rfl))
 f129 := Try.func106.trans (congrArg some (by kernel_rfl))
 f190 := Try.func53.trans (congrArg some (by kernel_rfl))
 f258 := Try.func80.trans (congrArg some (by kernel_rfl))
 f302 := Try.func97.trans (congrArg some (by kernel_rfl))
 f303 := Try.func98.trans (congrArg some (by kernel_rfl))
 f304 := Try.func99.trans (congrArg some (by kernel_rfl))
 f305 := Try.func100.trans (congrArg some (by kernel_rfl))
 f306 := Try.func101.trans (congrArg some (by kernel_rfl))
 f307 := Try.func102.trans (congrArg some (by kernel_rfl))
 f308 := Try.func74.trans (congrArg some (by kernel_rfl))
 f309 := Try.func103.trans (congrArg some (by kernel_rfl))
 f310 := Try.func104.trans (congrArg some (by kernel_rfl))
 f329 := Try.func127.trans (congrArg some (by kernel_rfl))
 f330 := Try.func128.trans (congrArg some (by kernel_rfl))
 f333 := Try.func126.trans (congrArg some (by kernel_rfl))
 f334 := Try.func129.trans (congrArg some (by kernel_rfl))
 f335 := Try.func130.trans (congrArg some (by kernel_rfl))
 f336 := Try.func94.trans (congrArg some (by kernel_rfl))
 f344 := Try.func137.trans (congrArg some (by kernel_rfl))
 t0 := Try.underlying0
 a0 := Try.isAgg0
 z0 := Try.sizeOf0
 v0 := Try.zeroValue0
 t3 := Try.underlying3
 a3 := Try.isAgg3
 z3 := Try.sizeOf3
 v3 := Try.zeroValue3
 t4 := Try.underlying4
 a4 := Try.isAgg4
 z4 := Try.sizeOf4
 v4 := Try.zeroValue4
 t5 := Try.underlying5
 a5 := Try.isAgg5
 z5 := Try.sizeOf5
 v5 := Try.zeroValue5
 t9 := Try.underlying9
 a9 := Try.isAgg9
 z9 := Try.sizeOf9
 v9 := Try.zeroValue9
 t31 := Try.underlying23
 a31 := Try.isAgg23
 z31 := Try.sizeOf23
 v31 := Try.zeroValue23
 t46 := Try.underlying97
 a46 := Try.isAgg97
 z46 := Try.sizeOf97
 v46 := Try.zeroValue97
 t51 := Try.underlying122
 a51 := Try.isAgg122
 z51 := Try.sizeOf122
 v51 := Try.zeroValue122
 t53 := Try.underlying124
 a53 := Try.isAgg124
 z53 := Try.sizeOf124
 v53 := Try.zeroValue124
 t131 := Try.underlying68
 a131 := Try.isAgg68
 z131 := Try.sizeOf68
 v131 := Try.zeroValue68
 t182 := Try.underlying115
 a182 := Try.isAgg115
 z182 := Try.sizeOf115
 v182 := Try.zeroValue115
 t183 := Try.underlying116
 a183 := Try.isAgg116
 z183 := Try.sizeOf116
 v183 := Try.zeroValue116
 t218 := Try.underlying139
 a218 := Try.isAgg139
 z218 := Try.sizeOf139
 v218 := Try.zeroValue139
 t222 := Try.underlying143
 a222 := Try.isAgg143
 z222 := Try.sizeOf143
 v222 := Try.zeroValue143
 t228 := Try.underlying151
 a228 := Try.isAgg151
 z228 := Try.sizeOf151
 v228 := Try.zeroValue151
 t229 := Try.underlying152
 a229 := Try.isAgg152
 z229 := Try.sizeOf152
 v229 := Try.zeroValue152 }
open Go.Sort Go.RowKit in
theorem Try.slices_Sort_string (blk off cap : Nat) (ss : List (List UInt8)) (w : World) (hH : Holds encStr w blk off ss.toArray) (hblk : blk < w.heap.size) (hsz : ss.length < 4611686018427387904) :
  Calls Try.prog 53 #[.slice (some ⟨blk, off, none⟩) ss.length cap] w fun e w' =>
   e = .returned (.tuple #[]) ∧ ∃ n os, w' = grow (putRow encStr (Sort.ahead w n) blk off (ss.mergeSort fun x y => decide (x ≤ y)).toArray) os := Any.slices_Sort_string Try.lays190 blk off cap ss w hH hblk hsz
open Go.RowKit Go.Sort in
/-- .. and plain. (LAID: no walk: one application.) -/
theorem Try.slices_Sort_string_none (p : Option Addr) (cap : Nat) (w : World) :
  Calls Try.prog 53 #[.slice p 0 cap] w fun e w' => e = .returned (.tuple #[]) ∧ w' = w := Any.slices_Sort_string_none Try.lays190 p cap w
end Go.Proofs
namespace Go.Proofs.Ytpinidlfcifeeaa
open Go.RowKit
set_option linter.unusedVariables false
set_option linter.unusedSimpArgs false
set_option maxRecDepth 8000

set_option maxHeartbeats 1000000 in
theorem bsearchU_v (ts : List ByteArray) (x : ByteArray) (tv : Value) (w : World) (L : List Nat) (hL : LL L w) (h3 : RdF 1 L w tv (ts.map eS))  (hr : Ups ts) (hsm : ts.length ≤ 1000000000000) : CV Try.prog 49 [tv, .string x] w fun v W => v = .tuple #[.int .i64 ((lbT x ts : Nat) : Int), .bool (decide (ts[lbT x ts]? = some x))] := by
 refine cv_enter (N := 54) (f := [(0, tv), (1, .string x)]) Try.func49 rfl rfl rfl rfl fun Q hQ hE => ?_
 have hB := Below.refl w.heap.size w
 have h3m : ts.length ≤ maxLen := by have := h3.len; rwa [List.length_map] at this
 unfold maxLen at h3m
 refine WC.seq fun K1 hK1 => ?_
 refine WC.region ?_
 refine WL.val (dx_assign rfl rfl) rfl rfl ?_
 refine WL.val (dx_assign rfl rfl) rfl rfl ?_
 refine WL.nil ?_
 refine hK1 ?_
 refine WC.seq fun K2 hK2 => ?_
 refine WC.region ?_
 refine WL.val (dx_move rfl rfl) rfl rfl ?_
 refine WL.val (dx_lenFM rfl ty_slice_23 rfl h3) rfl rfl ?_
 refine WL.val (dx_assign rfl rfl) rfl rfl ?_
 refine WL.nil ?_
 refine hK2 ?_
 refine WC.seq fun K3 hK3 => ?_
 refine WC.region ?_
 refine WL.val (dx_move rfl rfl) rfl rfl ?_
 refine WL.val (dx_assign rfl rfl) rfl rfl ?_
 refine WL.val (dx_assign rfl rfl) rfl rfl ?_
 refine WL.nil ?_
 refine hK3 ?_
 refine WC.seq fun K4 hK4 => ?_
 refine WC.block ?_
 refine WC.loop2 (fun (i : Nat) (j : Nat) => [(0, tv), (1, .string x), (6, .int .i64 (ts.length : Int)), (7, .int .i64 (i : Int)), (8, .int .i64 (j : Int))]) (fun (i : Nat) (j : Nat) W => i ≤ j ∧ j ≤ ts.length ∧ (∀ q a, q < i → ts[q]? = some a → sless a x = true) ∧ (∀ q a, j ≤ q → ts[q]? = some a → sless a x = false) ∧ Below w.heap.size w W ∧ LL (L) W ∧ RdF 1 (L) W tv (ts.map eS)) (fun (i : Nat) (j : Nat) => j - i) 0 ts.length (by repeat first | exact trivial | exact And.intro rfl trivial | refine And.intro rfl ?_ | refine And.intro (congrArg (fun z : Int => some (Value.int .i64 z)) (by omega)) ?_ | refine And.intro (congrArg (fun z : Bool => some (Value.bool z)) (by first | exact (decide_eq_true (by omega)).symm | exact (decide_eq_false (by omega)).symm)) ?_) ⟨Nat.zero_le _, Nat.le_refl _, (fun q a hq => by omega), (fun q a hq ha => by rw [List.getElem?_eq_none hq] at ha; cases ha), hB, hL, h3⟩ ?_
 clear h3 hB hL
 rintro K5 i j W6 ⟨hi, hj, h1_, h2_, hB, hL, h3⟩ hK5
 refine WC.seq fun K7 hK7 => ?_
 refine WC.seq fun K8 hK8 => ?_
 refine WC.region ?_
 refine WL.val (dx_move rfl rfl) rfl rfl ?_
 refine WL.val (dx_move rfl rfl) rfl rfl ?_
 refine WL.val (dx_lss rfl rfl rfl) rfl rfl ?_
 refine WL.nil ?_
 refine hK8 ?_
 refine WC.cond rfl (fun c9 => ?_) (fun c9 => ?_)
 ·
  replace c9 := of_decide_eq_true c9
  refine WC.skip ?_
  refine hK7 ?_
  refine WC.block ?_
  refine WC.seq fun K10 hK10 => ?_
  obtain ⟨m, hm⟩ : ∃ k : Nat, k = (i + j) / 2 := ⟨_, rfl⟩
  have hm1 : i ≤ m ∧ m < j := by omega
  refine WC.region ?_
  refine WL.val (dx_move rfl rfl) rfl rfl ?_
  refine WL.val (dx_move rfl rfl) rfl rfl ?_
  refine WL.val (dx_add (r := ((i + j : Nat) : Int)) rfl rfl rfl (by rw [wrap64_id (by omega)]; omega)) rfl rfl ?_
  refine WL.val (dx_conv (r := ((i + j : Nat) : Int)) rfl Try.underlying3 Try.underlying97 rfl (wrapu64_id (by omega))) rfl rfl ?_
  refine WL.val (dx_shr (r := (m : Int)) rfl rfl rfl (by decide) (by decide) (by show ((i + j : Nat) : Int) / 2 ^ 1 = _; omega)) rfl rfl ?_
  refine WL.val (dx_conv (r := (m : Int)) rfl Try.underlying97 Try.underlying3 rfl (wrap64_id (by omega))) rfl rfl ?_
  refine WL.val (dx_assign rfl rfl) rfl rfl ?_
  refine WL.nil ?_
  refine hK10 ?_
  refine WC.seq fun K11 hK11 => ?_
  refine WC.region ?_
  refine WL.val (dx_move rfl rfl) rfl rfl ?_
  refine WL.val (dx_move rfl rfl) rfl rfl ?_
  obtain ⟨r12, e13⟩ : ∃ x, ts[m]? = some x := ⟨_, List.getElem?_eq_getElem (by omega)⟩
  refine WL.get (dx_idxF m rfl ty_slice_23 rfl rfl h3 (by omega) (at_mapX e13)) rfl rfl ?_
  rintro u14 _ ⟨rfl, p15⟩
  refine WL.val (dx_loadP rfl ty_one_9 rfl p15) rfl rfl ?_
  refine WL.val (dx_move rfl rfl) rfl rfl ?_
  refine WL.get (dx_cv rfl Try.func74 rfl rfl rfl (lessC_v r12 x W6 _ hL)) rfl rfl ?_
  rintro _ W17 ⟨rfl, b16⟩
  replace h3 := h3.below b16
  replace p15 := p15.below b16
  replace hB := below_then hB b16
  replace hL := LL.below hL b16
  refine WL.nil ?_
  refine hK11 ?_
  refine WC.cond rfl (fun c18 => ?_) (fun c18 => ?_)
  ·
   refine WC.region ?_
   refine WL.val (dx_move rfl rfl) rfl rfl ?_
   refine WL.val (dx_add (r := ((m + 1 : Nat) : Int)) rfl rfl rfl (by rw [wrap64_id (by omega)]; omega)) rfl rfl ?_
   refine WL.val (dx_assign rfl rfl) rfl rfl ?_
   refine WL.nil ?_
   exact hK5 (m + 1) j ⟨(by omega), (by omega), (fun q a hq ha => ups_ahead hr (i := m) (by omega) e13 c18 ha), h2_, hB, hL, h3⟩ (by omega) (by repeat first | exact trivial | exact And.intro rfl trivial | refine And.intro rfl ?_ | refine And.intro (congrArg (fun z : Int => some (Value.int .i64 z)) (by omega)) ?_ | refine And.intro (congrArg (fun z : Bool => some (Value.bool z)) (by first | exact (decide_eq_true (by omega)).symm | exact (decide_eq_false (by omega)).symm)) ?_)
  ·
   refine WC.region ?_
   refine WL.val (dx_move rfl rfl) rfl rfl ?_
   refine WL.val (dx_assign rfl rfl) rfl rfl ?_
   refine WL.nil ?_
   exact hK5 i m ⟨(by omega), (by omega), h1_, (fun q a hq ha => ups_behind hr (i := m) hq e13 (by first | exact c18 | exact Bool.not_eq_true _ ▸ c18) ha), hB, hL, h3⟩ (by omega) (by repeat first | exact trivial | exact And.intro rfl trivial | refine And.intro rfl ?_ | refine And.intro (congrArg (fun z : Int => some (Value.int .i64 z)) (by omega)) ?_ | refine And.intro (congrArg (fun z : Bool => some (Value.bool z)) (by first | exact (decide_eq_true (by omega)).symm | exact (decide_eq_false (by omega)).symm)) ?_)
 ·
  replace c9 := of_decide_eq_false c9
  refine WC.exit ?_
  refine hK4 ?_
  refine WC.seq fun K19 hK19 => ?_
  have hlb : lbT x ts = i := lbT_eq (by omega) h1_ (fun a ha => h2_ i a (by omega) ha)
  refine WC.region ?_
  refine WL.val (dx_move rfl rfl) rfl rfl ?_
  refine WL.val (dx_move rfl rfl) rfl rfl ?_
  refine WL.val (dx_move rfl rfl) rfl rfl ?_
  refine WL.val (dx_lss rfl rfl rfl) rfl rfl ?_
  refine WL.val (dx_move rfl rfl) rfl rfl ?_
  refine WL.split 35 rfl (fun g20 => ?_) (fun g20 => ?_)
  ·
   replace g20 := of_decide_eq_true g20
   refine WL.val (dx_move rfl rfl) rfl rfl ?_
   refine WL.val (dx_move rfl rfl) rfl rfl ?_
   obtain ⟨r21, e22⟩ : ∃ x, ts[i]? = some x := ⟨_, List.getElem?_eq_getElem (by omega)⟩
   refine WL.get (dx_idxF i rfl ty_slice_23 rfl rfl h3 (by omega) (at_mapX e22)) rfl rfl ?_
   rintro u23 _ ⟨rfl, p24⟩
   refine WL.val (dx_loadP rfl ty_one_9 rfl p24) rfl rfl ?_
   refine WL.val (dx_move rfl rfl) rfl rfl ?_
   refine WL.val (dx_eqlT rfl rfl rfl) rfl rfl ?_
   refine WL.val (dx_move rfl rfl) rfl rfl ?_
   refine WL.split 42 rfl (fun g25 => ?_) (fun g25 => ?_)
   ·
    replace g25 := of_decide_eq_true g25
    refine WL.off rfl rfl rfl ?_
    refine WL.off rfl rfl rfl ?_
    refine WL.off rfl rfl rfl ?_
    refine WL.off rfl rfl rfl ?_
    refine WL.off rfl rfl rfl ?_
    refine WL.off rfl rfl rfl ?_
    refine WL.off rfl rfl rfl ?_
    refine WL.off rfl rfl rfl ?_
    refine WL.off rfl rfl rfl ?_
    refine WL.val (dx_pick rfl rfl rfl) rfl rfl ?_
    refine WL.val (dx_pick rfl rfl rfl) rfl rfl ?_
    refine WL.val (dx_assign rfl rfl) rfl rfl ?_
    refine WL.val (dx_assign rfl rfl) rfl rfl ?_
    refine WL.nil ?_
    refine hK19 ?_
    refine WC.ret fun a_ ha_ => ?_
    exact hQ (cv_ret2 rfl (.tmp rfl) (.tmp rfl) (by rw [hlb]; exact congrArg (fun b => Value.tuple #[.int .i64 (i : Int), .bool b]) (decide_eq_true (by rw [e22]; congr 1 <;> assumption)).symm) hB ha_)
   ·
    replace g25 := of_decide_eq_false g25
    refine WL.val (dx_move rfl rfl) rfl rfl ?_
    refine WL.val (dx_move rfl rfl) rfl rfl ?_
    refine WL.get (dx_idxF i rfl ty_slice_23 rfl rfl h3 (by omega) (at_mapX e22)) rfl rfl ?_
    rintro u26 _ ⟨rfl, p27⟩
    refine WL.val (dx_loadP rfl ty_one_9 rfl p27) rfl rfl ?_
    refine WL.get (dx_cv rfl Try.func75 rfl rfl rfl (nanS_v r21 W6 _ hL)) rfl rfl ?_
    rintro _ W29 ⟨rfl, b28⟩
    replace h3 := h3.below b28
    replace p24 := p24.below b28
    replace p27 := p27.below b28
    replace hB := below_then hB b28
    replace hL := LL.below hL b28
    refine WL.val (dx_move rfl rfl) rfl rfl ?_
    refine WL.off rfl rfl rfl ?_
    refine WL.off rfl rfl rfl ?_
    refine WL.val (dx_pick rfl rfl rfl) rfl rfl ?_
    refine WL.val (dx_pick rfl rfl rfl) rfl rfl ?_
    refine WL.val (dx_pick rfl rfl rfl) rfl rfl ?_
    refine WL.val (dx_assign rfl rfl) rfl rfl ?_
    refine WL.val (dx_assign rfl rfl) rfl rfl ?_
    refine WL.nil ?_
    refine hK19 ?_
    refine WC.ret fun a_ ha_ => ?_
    exact hQ (cv_ret2 rfl (.tmp rfl) (.tmp rfl) (by rw [hlb]; exact congrArg (fun b => Value.tuple #[.int .i64 (i : Int), .bool b]) (decide_eq_false (by rw [e22]; intro e_; cases e_; exact absurd rfl (by assumption))).symm) hB ha_)
  ·
   replace g20 := of_decide_eq_false g20
   refine WL.off rfl rfl rfl ?_
   refine WL.off rfl rfl rfl ?_
   refine WL.off rfl rfl rfl ?_
   refine WL.off rfl rfl rfl ?_
   refine WL.off rfl rfl rfl ?_
   refine WL.off rfl rfl rfl ?_
   refine WL.off rfl rfl rfl ?_
   refine WL.off rfl rfl rfl ?_
   refine WL.off rfl rfl rfl ?_
   refine WL.off rfl rfl rfl ?_
   refine WL.off rfl rfl rfl ?_
   refine WL.off rfl rfl rfl ?_
   refine WL.off rfl rfl rfl ?_
   refine WL.off rfl rfl rfl ?_
   refine WL.off rfl rfl rfl ?_
   refine WL.off rfl rfl rfl ?_
   refine WL.off rfl rfl rfl ?_
   refine WL.val (dx_pick rfl rfl rfl) rfl rfl ?_
   refine WL.val (dx_assign rfl rfl) rfl rfl ?_
   refine WL.val (dx_assign rfl rfl) rfl rfl ?_
   refine WL.nil ?_
   refine hK19 ?_
   refine WC.ret fun a_ ha_ => ?_
   exact hQ (cv_ret2 rfl (.tmp rfl) (.tmp rfl) (by rw [hlb]; exact congrArg (fun b => Value.tuple #[.int .i64 (i : Int), .bool b]) (decide_eq_false (by rw [List.getElem?_eq_none (by omega)]; intro e_; cases e_)).symm) hB ha_)

theorem bsearchM_v (gs : List ByteArray) (x : ByteArray) (tv : Value) (w : World) (L : List Nat) (hL : LL L w) (h3 : RdF 1 L w tv ((sortT gs).map eS)) (hsm : gs.length ≤ 1000000000000) : CV Try.prog 49 [tv, .string x] w fun v W => v = .tuple #[.int .i64 ((lbT x (sortT gs) : Nat) : Int), .bool (hasB gs x)] := by
 have e : decide ((sortT gs)[lbT x (sortT gs)]? = some x) = hasB gs x := by
  have h := ((mem_ups (ups_sort gs)).symm.trans (sortT_mem gs x)).trans hasB_iff.symm
  cases hb : hasB gs x with
  | true => exact decide_eq_true (h.2 hb)
  | false => exact decide_eq_false fun e => by rw [h.1 e] at hb; cases hb
 rw [← e]
 exact bsearchU_v (sortT gs) x tv w L hL h3 (ups_sort gs) (by rw [sortT_len]; exact hsm)
theorem eS_is (s : ByteArray) : eS s = [.string s] := rfl
theorem sort_v {w : World} {v : Value} {ts : List ByteArray} {base : Nat} (h : NewW 1 base (ts.map eS) v w) (hb : base ≤ w.heap.size) (hlen : ts.length ≤ 1000000) : Calls Try.prog 53 [v].toArray w fun e w' => ∃ x, e = .returned x ∧ NewW 1 base ((sortT ts).map eS) v w' ∧ Below base w w' := sort_new eS_is Try.slices_Sort_string Try.slices_Sort_string_none h hb hlen
def withoutJ (g : List ByteArray) (j : Js) : Js := if (decide (j.kind = 6) && rightJ upB 12 j) = true then .mk 6 0 ⟨#[]⟩ (wnN g j.names) (wnT g j.names j.items) else j
theorem MembI.le {n b : Nat} {L L' : List Nat} {nv iv : Value} {ns : List ByteArray} {ts : List Tr} {W : World} (h : MembI n b L nv ns iv ts W) (hl : ∀ x, x ∈ L' → x ∈ L) : MembI n b L' nv ns iv ts W := by
  obtain ⟨h0, h | ⟨Bn, Bi, h1, h2, h3, h4, h5, h6⟩⟩ := h
  · exact ⟨fun x hx => h0 x (hl x hx), .inl h⟩
  · exact ⟨fun x hx => h0 x (hl x hx), .inr ⟨Bn, Bi, h1, h2, h3, h4, h5, fun c hc => (h6 c hc).less fun x hx => by
      simp only [List.mem_cons] at hx ⊢
      rcases hx with h_ | h_ | h_
      · exact .inl h_
      · exact .inr (.inl h_)
      · exact .inr (.inr (hl x h_))⟩⟩
/-- What a loop's world has kept of the world that it began in: all but some blocks; the list says which ones count now. -/
def AgL (w1 : World) (L0 L : List Nat) (w : World) : Prop := (∀ x ∈ L, x < w1.heap.size → x ∈ L0) ∧ Agree L0 w1 w
theorem Agree.trans' {L : List Nat} {w w' w'' : World} (h : Agree L w w') (k : Agree L w' w'') : Agree L w w'' := ⟨Nat.le_trans h.1 k.1, fun i hi hlt => (k.2 i hi (Nat.lt_of_lt_of_le hlt h.1)).trans (h.2 i hi hlt)⟩
section
variable {w1 w w' : World} {L0 L : List Nat}
theorem AgL.below (h : AgL w1 L0 L w) (hb : Below w.heap.size w w') : AgL w1 L0 L w' := ⟨h.1, h.2.trans' (.of_below hb)⟩
theorem AgL.more (h : AgL w1 L0 L w) (hb : Below w.heap.size w w') {B : Nat} (hB : w.heap.size ≤ B) : AgL w1 L0 (B :: L) w' := ⟨fun x hx hlt => by
  rcases List.mem_cons.1 hx with rfl | hx
  · exact absurd hlt (Nat.not_lt.2 (Nat.le_trans h.2.1 hB))
  · exact h.1 x hx hlt, h.2.trans' (.of_below hb)⟩
theorem AgL.only (h : AgL w1 L0 L w) {C : Nat} (ho : Only C w w') (hC : C ∈ L) : AgL w1 L0 L w' := ⟨h.1, ⟨by rw [ho.size]; exact h.2.1, fun k hk hlt => (ho.block k (fun e => hk (h.1 k (e ▸ hC) hlt))).trans (h.2.2 k hk hlt)⟩⟩
theorem AgL.grow' (h : AgL w1 L0 L w) {B B' : Nat} (g : GrowB B B' w w') (hB : B ∈ L) : AgL w1 L0 (B' :: L) w' := ⟨fun x hx hlt => by
  rcases List.mem_cons.1 hx with rfl | hx
  · rcases g.new with rfl | hn
    · exact h.1 _ hB hlt
    · exact absurd hlt (Nat.not_lt.2 (Nat.le_trans h.2.1 hn))
  · exact h.1 x hx hlt, ⟨Nat.le_trans h.2.1 g.size, fun k hk hlt => (g.block k (Nat.lt_of_lt_of_le hlt h.2.1) (fun e => hk (h.1 k (e ▸ hB) hlt))).trans (h.2.2 k hk hlt)⟩⟩
theorem AgL.less (h : AgL w1 L0 L w) {L' : List Nat} (hl : ∀ x, x ∈ L' → x ∈ L) : AgL w1 L0 L' w := ⟨fun x hx => h.1 x (hl x hx), h.2⟩
theorem AgL.add (h : AgL w1 L0 L w) {B : Nat} (hB : w1.heap.size ≤ B) : AgL w1 L0 (B :: L) w := ⟨fun x hx hlt => by
  rcases List.mem_cons.1 hx with rfl | hx
  · exact absurd hlt (Nat.not_lt.2 hB)
  · exact h.1 x hx hlt, h.2⟩
theorem AgL.rd {s : Nat} {v : Value} {rs : List (List Value)} (h : AgL w1 L0 L w) (k : RdF s L0 w1 v rs) : RdF s L w v rs := by
 have k2 := k.agree h.2
 obtain ⟨h0, hl, a, cap, rfl, c1, c2, c3, c4⟩ := k2
 refine ⟨h0, hl, a, cap, rfl, c1, c2, c3, fun hn => ?_⟩
 obtain ⟨X, q, e, hX, hr⟩ := c4 hn
 exact ⟨X, q, e, fun hx => hX (h.1 X hx (rdf_lt k e hn)), hr⟩
theorem AgL.rt (h : AgL w1 L0 L w) : ∀ {n : Nat} {t : Tr}, RdT n L0 w1 t → RdT n L w t
 | 0, _, k => k
 | _ + 1, _, k => ⟨h.rd k.1, h.rd k.2.1, fun c hc => h.rt (k.2.2 c hc)⟩
end
set_option maxHeartbeats 2000000 in
theorem jWithout_v (n : Nat) (p : Tr) (gs : List ByteArray) (gv : Value) (w : World) (L : List Nat) (hL : LL L w) (htp : RdT (n + 1) L w p) (hgv : RdF 1 [] w gv (gs.map eS))  (hz : SzT 1000000 (n + 1) p) (hgl : gs.length ≤ 1000000) : CV Try.prog 26 [.agg #[.int .i64 p.kind, .int .i64 p.num, .string p.text, p.nv, p.iv], gv] w fun v W => ∃ t, v = .agg #[.int .i64 t.kind, .int .i64 t.num, .string t.text, t.nv, t.iv] ∧ t.er = withoutJ gs p.er ∧ RdT (n + 1) L W t := by
 refine cv_enter (N := 54) (f := [(0, .agg #[.int .i64 p.kind, .int .i64 p.num, .string p.text, p.nv, p.iv]), (1, gv)]) Try.func26 rfl rfl rfl rfl fun Q hQ hE => ?_
 have hB := Below.refl w.heap.size w
 have hL0 := hL
 refine WC.seq fun K1 hK1 => ?_
 obtain ⟨hnp, hip, hcp⟩ := htp
 replace hcp : RdTs n (L) w p.items := hcp
 have hpl : p.names.length ≤ 1000000 ∧ p.items.length ≤ 1000000 := ⟨hz.2.1, hz.2.2.1⟩
 refine WC.region ?_
 refine WL.get (dx_box rfl rfl rfl) rfl rfl ?_
 rintro _ W2 ⟨rfl, k3, b4, z5⟩
 have l6 := hB.size
 replace hgv := hgv.more b4 (Nat.le_refl _)
 replace hnp := hnp.more b4 (Nat.le_refl _)
 replace hip := hip.more b4 (Nat.le_refl _)
 replace hcp := hcp.more b4 (Nat.le_refl _)
 replace hB := below_then hB b4
 replace hL := LL.more hL z5
 refine WL.get (dx_alloc rfl ty_zero_26 rfl) rfl rfl ?_
 rintro _ W7 ⟨rfl, k8, b9, z10⟩
 have n11 : w.heap.size ≠ W2.heap.size := Nat.ne_of_lt k3.lt
 have l12 := hB.size
 replace hgv := hgv.more b9 (Nat.le_refl _)
 replace hnp := hnp.more b9 (Nat.le_refl _)
 replace hip := hip.more b9 (Nat.le_refl _)
 replace hcp := hcp.more b9 (Nat.le_refl _)
 replace k3 := k3.below b9
 replace hB := below_then hB b9
 replace hL := LL.more hL z10
 refine WL.nil ?_
 refine hK1 ?_
 refine WC.seq fun K13 hK13 => ?_
 refine WC.seq fun K14 hK14 => ?_
 refine WC.region ?_
 refine WL.val (dx_loadN rfl ty_agg_26_5 rfl k3.range rfl) rfl rfl ?_
 refine WL.get (dx_cv rfl Try.func46 rfl rfl rfl (rightObj_v n p W7 _ hL (show RdT (n + 1) (W2.heap.size :: w.heap.size :: L) W7 p from ⟨hnp, hip, hcp⟩) hz)) rfl rfl ?_
 rintro _ W16 ⟨rfl, b15⟩
 replace hgv := hgv.below b15
 replace hnp := hnp.below b15
 replace hip := hip.below b15
 replace hcp := hcp.below b15
 replace k3 := k3.below b15
 replace k8 := k8.below b15
 replace hB := below_then hB b15
 replace hL := LL.below hL b15
 refine WL.val (dx_not rfl rfl) rfl rfl ?_
 refine WL.nil ?_
 refine hK14 ?_
 refine WC.cond rfl (fun c17 => ?_) (fun c17 => ?_)
 ·
  replace c17 := bnot_t c17
  refine WC.seq fun K18 hK18 => ?_
  refine WC.region ?_
  refine WL.val (dx_loadN rfl ty_agg_26_5 rfl k3.range rfl) rfl rfl ?_
  refine WL.do (dx_store (cs' := [.int .i64 p.kind, .int .i64 p.num, .string p.text, p.nv, p.iv]) (vs := [.int .i64 p.kind, .int .i64 p.num, .string p.text, p.nv, p.iv]) rfl ty_size_26_5 rfl rfl rfl (oc_cons rfl (oc_cons rfl (oc_cons rfl (oc_cons hnp.one (oc_cons hip.one oc_nil))))) k8 rfl (Nat.le_of_ble_eq_true rfl) rfl) rfl ?_
  rintro _ W19 ⟨k21, o20⟩
  replace k3 := k3.other o20 n11
  clear k8
  replace hgv := hgv.only o20 (.head _)
  replace hnp := hnp.only o20 (.head _)
  replace hip := hip.only o20 (.head _)
  replace hcp := hcp.only o20 (.head _)
  replace hB := o20.below hB l12
  replace hL := LL.only hL o20
  refine WL.nil ?_
  refine hK18 ?_
  refine WC.ret fun a_ ha_ => ?_
  exact hQ (cv_ret1 rfl (.agg rfl ty_agg_26_5 k21.range rfl) ⟨p, rfl, (by unfold withoutJ; rw [if_neg (by rw [er_kind]; simp_all)]), ((show RdT (n + 1) (W2.heap.size :: w.heap.size :: L) W19 p from ⟨hnp, hip, hcp⟩).less (fun x hx => (.tail _ (.tail _ hx))))⟩ hB ha_)
 ·
  replace c17 := bnot_f c17
  refine WC.skip ?_
  refine hK13 ?_
  refine WC.seq fun K22 hK22 => ?_
  have hro : (decide (p.er.kind = 6) && rightJ upB 12 p.er) = true := by rw [er_kind]; first | assumption | simp_all
  have hko := of_decide_eq_true (Bool.and_eq_true_iff.1 hro).1
  obtain ⟨hris, hlen⟩ := obj_right hko (Bool.and_eq_true_iff.1 hro).2
  rw [er_names, er_items, List.length_map] at hlen
  refine WC.region ?_
  refine WL.val (dx_move rfl rfl) rfl rfl ?_
  refine WL.get (dx_cv rfl Try.func47 rfl rfl rfl (cloneST_v _ _ W16 [] (LL.nil _) (RdF.less (L' := []) hgv (fun x hx => by cases hx)) (oc_eS gs) (by rw [List.length_map]; omega))) rfl rfl ?_
  rintro u3 W3_ ⟨hN3, b3_⟩
  refine WL.val (dx_assign rfl rfl) rfl rfl ?_
  refine WL.nil ?_
  refine hK22 ?_
  refine WC.seq fun K23 hK23 => ?_
  refine WC.region ?_
  refine WL.val (dx_move rfl rfl) rfl rfl ?_
  refine WL.get (dx_callA rfl Try.func53 rfl rfl rfl (sort_v hN3 b3_.size hgl)) rfl rfl ?_
  rintro _ W4_ ⟨hN4, b4_⟩
  have b5_ := b3_.trans b4_
  have hgs := hN4.rdL hL (Nat.le_refl _)
  replace hgv := hgv.below b5_
  replace hnp := hnp.below b5_
  replace hip := hip.below b5_
  replace hcp := hcp.below b5_
  replace k3 := k3.below b5_
  replace k8 := k8.below b5_
  replace hB := below_then hB b5_
  replace hL := LL.below hL b5_
  refine WL.nil ?_
  refine hK23 ?_
  refine WC.seq fun K24 hK24 => ?_
  refine WC.region ?_
  refine WL.val (dx_build rfl rfl (built_of_O (cs := [.int .i64 6, .int .i64 0, .string ⟨#[]⟩, .slice none 0 0, .slice none 0 0]) (by kernel_rfl) (oc_cons rfl oc_nil))) rfl rfl ?_
  refine WL.get (dx_alloc rfl ty_zero_26 rfl) rfl rfl ?_
  rintro _ W25 ⟨rfl, k26, b27, z28⟩
  have n29 : w.heap.size ≠ W4_.heap.size := Nat.ne_of_lt k3.lt
  have n30 : W2.heap.size ≠ W4_.heap.size := Nat.ne_of_lt k8.lt
  have l31 := hB.size
  replace hnp := hnp.more b27 (Nat.le_refl _)
  replace hip := hip.more b27 (Nat.le_refl _)
  replace hcp := hcp.more b27 (Nat.le_refl _)
  replace hgs := hgs.more b27 (Nat.le_refl _)
  replace k3 := k3.below b27
  replace k8 := k8.below b27
  replace hB := below_then hB b27
  replace hL := LL.more hL z28
  refine WL.do (dx_store (cs' := [.int .i64 6, .int .i64 0, .string ⟨#[]⟩, .slice none 0 0, .slice none 0 0]) (vs := [.int .i64 6, .int .i64 0, .string ⟨#[]⟩, .slice none 0 0, .slice none 0 0]) rfl ty_size_26_5 rfl rfl rfl (oc_cons rfl (oc_cons rfl (oc_cons rfl (oc_cons rfl (oc_cons rfl oc_nil))))) k26 rfl (Nat.le_of_ble_eq_true rfl) rfl) rfl ?_
  rintro _ W32 ⟨k34, o33⟩
  replace k3 := k3.other o33 n29
  replace k8 := k8.other o33 n30
  clear k26
  replace hnp := hnp.only o33 (.head _)
  replace hip := hip.only o33 (.head _)
  replace hcp := hcp.only o33 (.head _)
  replace hgs := hgs.only o33 (.head _)
  replace hB := o33.below hB l31
  replace hL := LL.only hL o33
  refine WL.nil ?_
  refine hK24 ?_
  refine WC.seq fun K35 hK35 => ?_
  refine WC.seq fun K36 hK36 => ?_
  refine WC.region ?_
  refine WL.val (dx_fld (o1 := 3) rfl ty_fld_26_3_3 rfl rfl) rfl rfl ?_
  refine WL.val (dx_load rfl ty_one_23 rfl (k3.cell (k := 3) rfl)) rfl rfl ?_
  refine WL.val (dx_lenFM rfl ty_slice_23 rfl hnp) rfl rfl ?_
  refine WL.val (dx_move rfl rfl) rfl rfl ?_
  refine WL.nil ?_
  refine hK36 ?_
  refine WC.block ?_
  obtain ⟨b0, hb0⟩ : ∃ b, b = W32.heap.size := ⟨_, rfl⟩
  have hb0L : ∀ x ∈ (W4_.heap.size :: W2.heap.size :: w.heap.size :: L), x < b0 := by rw [hb0]; exact hL
  have hb0w : w.heap.size ≤ b0 := by rw [hb0]; exact hB.size
  have hnp6 := hnp
  have hip6 := hip
  have hcp6 := hcp
  have hgs6 := hgs
  have hag : AgL W32 (W4_.heap.size :: W2.heap.size :: w.heap.size :: L) (W4_.heap.size :: W2.heap.size :: w.heap.size :: L) W32 := ⟨fun _ h _ => h, ⟨Nat.le_refl _, fun _ _ _ => rfl⟩⟩
  have hm : MembI n b0 (W4_.heap.size :: W2.heap.size :: w.heap.size :: L) (.slice none 0 0) (wnN gs (p.names.take 0)) (.slice none 0 0) (wnT gs (p.names.take 0) (p.items.take 0)) W32 := ⟨hb0L, .inl ⟨rfl, rfl, rfl, rfl⟩⟩
  refine WC.loop3 (fun (i : Nat) (nv : Value) (iv : Value) => [(2, .pointer (some ⟨w.heap.size, 0, none⟩)), (4, .pointer (some ⟨W2.heap.size, 0, none⟩)), (5, u3), (6, .pointer (some ⟨W4_.heap.size, 0, none⟩)), (21, p.nv), (22, .int .i64 (p.names.length : Int)), (23, .int .i64 (i : Int))]) (fun (i : Nat) (nv : Value) (iv : Value) W => i ≤ p.names.length ∧ Below w.heap.size w W ∧ LL (W4_.heap.size :: W2.heap.size :: w.heap.size :: L) W ∧ RdF 1 (W4_.heap.size :: W2.heap.size :: w.heap.size :: L) W p.nv (p.names.map eS) ∧ RdF 5 (W4_.heap.size :: W2.heap.size :: w.heap.size :: L) W p.iv (p.items.map encT) ∧ RdTs n (W4_.heap.size :: W2.heap.size :: w.heap.size :: L) W p.items ∧ RdF 1 (W4_.heap.size :: W2.heap.size :: w.heap.size :: L) W u3 ((sortT gs).map eS) ∧ AgL W32 (W4_.heap.size :: W2.heap.size :: w.heap.size :: L) (W4_.heap.size :: W2.heap.size :: w.heap.size :: L) W ∧ MembI n b0 (W4_.heap.size :: W2.heap.size :: w.heap.size :: L) nv (wnN gs (p.names.take i)) iv (wnT gs (p.names.take i) (p.items.take i)) W ∧ Blk W w.heap.size [.int .i64 p.kind, .int .i64 p.num, .string p.text, p.nv, p.iv] ∧ Blk W W2.heap.size [.int .i64 0, .int .i64 0, .string ⟨#[]⟩, .slice none 0 0, .slice none 0 0] ∧ Blk W W4_.heap.size [.int .i64 6, .int .i64 0, .string ⟨#[]⟩, nv, iv]) (fun (i : Nat) (nv : Value) (iv : Value) => p.names.length - i) 0 (.slice none 0 0) (.slice none 0 0) (by repeat first | exact trivial | exact And.intro rfl trivial | refine And.intro rfl ?_ | refine And.intro (congrArg (fun z : Int => some (Value.int .i64 z)) (by omega)) ?_ | refine And.intro (congrArg (fun z : Bool => some (Value.bool z)) (by first | exact (decide_eq_true (by omega)).symm | exact (decide_eq_false (by omega)).symm)) ?_) ⟨Nat.zero_le _, hB, hL, hnp, hip, hcp, hgs, hag, hm, k3, k8, k34⟩ ?_
  clear hnp hip hcp hgs hag hm k3 k8 k34 hB hL
  rintro K37 i nv iv W38 ⟨hi, hB, hL, hnp, hip, hcp, hgs, hag, hm, k3, k8, k34⟩ hK37
  refine WC.seq fun K39 hK39 => ?_
  refine WC.region ?_
  refine WL.val (dx_lss rfl rfl rfl) rfl rfl ?_
  refine WL.nil ?_
  refine hK39 ?_
  refine WC.seq fun K40 hK40 => ?_
  refine WC.cond rfl (fun c41 => ?_) (fun c41 => ?_)
  ·
   replace c41 := of_decide_eq_true c41
   refine WC.skip ?_
   refine hK40 ?_
   refine WC.seq fun K42 hK42 => ?_
   refine WC.block ?_
   refine WC.seq fun K43 hK43 => ?_
   refine WC.region ?_
   refine WL.val (dx_move rfl rfl) rfl rfl ?_
   obtain ⟨r44, e45⟩ : ∃ x, p.names[i]? = some x := ⟨_, List.getElem?_eq_getElem (by omega)⟩
   refine WL.get (dx_idxF i rfl ty_slice_23 rfl rfl hnp (by omega) (at_mapX e45)) rfl rfl ?_
   rintro u46 _ ⟨rfl, p47⟩
   refine WL.val (dx_loadP rfl ty_one_9 rfl p47) rfl rfl ?_
   refine WL.val (dx_assign rfl rfl) rfl rfl ?_
   refine WL.val (dx_assign rfl rfl) rfl rfl ?_
   refine WL.nil ?_
   refine hK43 ?_
   refine WC.seq fun K48 hK48 => ?_
   refine WC.region ?_
   refine WL.val (dx_move rfl rfl) rfl rfl ?_
   refine WL.val (dx_move rfl rfl) rfl rfl ?_
   refine WL.get (dx_cv rfl Try.func49 rfl rfl rfl (bsearchM_v gs r44 _ W38 _ hL hgs (by omega))) rfl rfl ?_
   rintro _ W50 ⟨rfl, b49⟩
   replace hnp := hnp.below b49
   replace hip := hip.below b49
   replace hcp := hcp.below b49
   replace hgs := hgs.below b49
   replace hag := hag.below b49
   replace hm := hm.below b49
   replace k3 := k3.below b49
   replace k8 := k8.below b49
   replace k34 := k34.below b49
   replace hB := below_then hB b49
   replace hL := LL.below hL b49
   refine WL.val (dx_move rfl rfl) rfl rfl ?_
   refine WL.val (dx_extract rfl rfl rfl) rfl rfl ?_
   refine WL.val (dx_extract rfl rfl rfl) rfl rfl ?_
   refine WL.val (dx_assign rfl rfl) rfl rfl ?_
   refine WL.val (dx_assign rfl rfl) rfl rfl ?_
   refine WL.nil ?_
   refine hK48 ?_
   refine WC.seq fun K51 hK51 => ?_
   refine WC.region ?_
   refine WL.val (dx_move rfl rfl) rfl rfl ?_
   refine WL.val (dx_not rfl rfl) rfl rfl ?_
   refine WL.nil ?_
   refine hK51 ?_
   refine WC.cond rfl (fun c52 => ?_) (fun c52 => ?_)
   ·
    replace c52 := bnot_t c52
    refine WC.seq fun K53 hK53 => ?_
    obtain ⟨-, hm⟩ := hm
    have hnl := wnN_le gs (p.names.take i)
    have htl := wnT_len gs (p.names.take i) (p.items.take i) (by rw [List.length_take, List.length_take]; omega)
    rw [List.length_take] at hnl
    rcases hm with ⟨rfl, rfl, hns0, hts0⟩ | ⟨Bn, Bi, hni, hbn, hbi, hOn, hOi, hts⟩
    ·
     refine WC.region ?_
     refine WL.val (dx_fld (o1 := 3) rfl ty_fld_26_3_3 rfl rfl) rfl rfl ?_
     refine WL.val (dx_load rfl ty_one_23 rfl (k34.cell (k := 3) rfl)) rfl rfl ?_
     refine WL.val (dx_move rfl rfl) rfl rfl ?_
     refine WL.get (dx_lit1 (r := [.string r44]) rfl ty_ap_23 (by decide) (by decide) rfl rfl rfl) rfl rfl ?_
     rintro u58 W54 ⟨k55, b56, z57⟩
     have n61 : W4_.heap.size ≠ W50.heap.size := Nat.ne_of_lt k34.lt
     have l62 := hB.size
     replace hnp := hnp.more b56 (Nat.le_refl _)
     replace hip := hip.more b56 (Nat.le_refl _)
     replace hcp := hcp.more b56 (Nat.le_refl _)
     replace hgs := hgs.more b56 (Nat.le_refl _)
     replace hag := hag.more b56 (Nat.le_refl _)
     replace k3 := k3.below b56
     replace k8 := k8.below b56
     replace k34 := k34.below b56
     replace hB := below_then hB b56
     replace hL := LL.more hL z57
     refine WL.get (dx_apF (rs := []) (news := [eS r44]) rfl ty_ap_23 rfl rfl (RdF.nil (L := []) (by decide)) (k55.rd (L := []) (by simp)) (by simp) (by simp [maxLen]) (by simp)) rfl rfl ?_
     rintro u63 W64 ⟨k65, b66, z67⟩
     have q70 := hag.2.1
     have l71 : b0 ≤ W54.heap.size := by omega
     have n74 : W4_.heap.size ≠ W54.heap.size := Nat.ne_of_lt k34.lt
     have l76 := hB.size
     replace hnp := hnp.more b66 (Nat.le_refl _)
     replace hip := hip.more b66 (Nat.le_refl _)
     replace hcp := hcp.more b66 (Nat.le_refl _)
     replace hgs := hgs.more b66 (Nat.le_refl _)
     replace hag := hag.more b66 (Nat.le_refl _)
     replace k3 := k3.below b66
     replace k8 := k8.below b66
     replace k34 := k34.below b66
     replace k55 := k55.below b66
     replace hB := below_then hB b66
     replace hL := LL.more hL z67
     refine WL.val (dx_fld (o1 := 3) rfl ty_fld_26_3_3 rfl rfl) rfl rfl ?_
     refine WL.do (dx_store (cs' := [.int .i64 6, .int .i64 0, .string ⟨#[]⟩, u63, .slice none 0 0]) (vs := [u63]) rfl ty_size_23_1 rfl rfl (oc_one k65.one) (oc_cons k65.one oc_nil) k34 rfl (Nat.le_of_ble_eq_true rfl) rfl) rfl ?_
     rintro _ W77 ⟨k79, o78⟩
     replace k3 := k3.other o78 n29
     replace k8 := k8.other o78 n30
     replace k55 := k55.other o78 n61.symm
     replace k65 := k65.other o78 n74.symm
     clear k34
     replace hnp := hnp.only o78 (.tail _ (.tail _ (.head _)))
     replace hip := hip.only o78 (.tail _ (.tail _ (.head _)))
     replace hcp := hcp.only o78 (.tail _ (.tail _ (.head _)))
     replace hgs := hgs.only o78 (.tail _ (.tail _ (.head _)))
     replace hag := hag.only o78 (.tail _ (.tail _ (.head _)))
     replace hB := o78.below hB l31
     replace hL := LL.only hL o78
     refine WL.nil ?_
     refine hK53 ?_
     obtain ⟨t80, ht81⟩ : ∃ x, p.items[i]? = some x := ⟨_, List.getElem?_eq_getElem (by omega)⟩
     have hot80 := (hcp t80 (List.mem_of_getElem? ht81))
     obtain ⟨hnt80, hit80, hct80⟩ : RdF 1 (W54.heap.size :: W50.heap.size :: W4_.heap.size :: W2.heap.size :: w.heap.size :: L) W77 t80.nv (t80.names.map eS) ∧ RdF 5 (W54.heap.size :: W50.heap.size :: W4_.heap.size :: W2.heap.size :: w.heap.size :: L) W77 t80.iv (t80.items.map encT) ∧ ∀ c ∈ t80.items, RdT n (W54.heap.size :: W50.heap.size :: W4_.heap.size :: W2.heap.size :: w.heap.size :: L) W77 c := by cases n with | zero => exact hot80.elim | succ n => exact ⟨hot80.1, hot80.2.1, fun c hc => (hot80.2.2 c hc).up⟩
     refine WC.drawM 8 [(some 42, .is (.pointer (some ⟨W4_.heap.size, 4, none⟩))), (some 43, .is (.slice none 0 0)), (some 44, .is (.pointer (some ⟨w.heap.size, 4, none⟩))), (some 45, .is (p.iv)), (some 46, .is (.int .i64 (i : Int))), (some 47, .by fun u W => PtR (W54.heap.size :: W50.heap.size :: W4_.heap.size :: W2.heap.size :: w.heap.size :: L) W u (encT t80)), (some 48, .is (.agg #[.int .i64 t80.kind, .int .i64 t80.num, .string t80.text, t80.nv, t80.iv])), (some 49, .by fun u W => RdF 5 (W54.heap.size :: W50.heap.size :: W4_.heap.size :: W2.heap.size :: w.heap.size :: L) W u [[.int .i64 t80.kind, .int .i64 t80.num, .string t80.text, t80.nv, t80.iv]])] [[], [0], [], [2], [], [3, 4], [5], [6]] (by kernel_rfl) (by kernel_rfl) (by kernel_rfl) (by kernel_rfl) (by kernel_rfl) (by kernel_rfl) (by kernel_rfl) ⟨fun _ _ _ hb h => h.below hb, fun _ _ _ hb h => h.below hb, trivial⟩ ?_ ?_
     ·
      refine DSteps.cons (fun Wd hd => ?_) ?_
      ·
       exact DV.dr (dx_fld (o1 := 4) rfl ty_fld_26_4_4 rfl rfl) ⟨Below.refl _ _, rfl⟩
      refine DSteps.cons (fun Wd hd => ?_) ?_
      ·
       have k79 := k79.below hd
       exact DV.dr (dx_load rfl ty_one_24 rfl (k79.cell (k := 4) rfl)) ⟨Below.refl _ _, rfl⟩
      refine DSteps.cons (fun Wd hd => ?_) ?_
      ·
       exact DV.dr (dx_fld (o1 := 4) rfl ty_fld_26_4_4 rfl rfl) ⟨Below.refl _ _, rfl⟩
      refine DSteps.cons (fun Wd hd => ?_) ?_
      ·
       have k3 := k3.below hd
       exact DV.dr (dx_load rfl ty_one_24 rfl (k3.cell (k := 4) rfl)) ⟨Below.refl _ _, rfl⟩
      refine DSteps.cons (fun Wd hd => ?_) ?_
      ·
       exact DV.dr (dx_move rfl rfl) ⟨Below.refl _ _, rfl⟩
      refine DSteps.cons (fun Wd hd => ?_) ?_
      ·
       have hip := hip.below hd
       exact (dx_idxF i rfl ty_slice_24 rfl rfl hip (by omega) (at_mapX ht81)).mono (fun v W' h => ⟨by rw [← h.1]; exact Below.refl _ _, by rw [← h.1]; exact h.2⟩)
      refine DSteps.cons (fun Wd hd => ?_) ?_
      ·
       intro u12_5 p12_5
       exact DV.dr (dx_loadPN rfl ty_agg_26_5 rfl p12_5 rfl) ⟨Below.refl _ _, rfl⟩
      refine DSteps.cons (fun Wd hd => ?_) ?_
      ·
       exact (dx_lit1 (r := [.int .i64 t80.kind, .int .i64 t80.num, .string t80.text, t80.nv, t80.iv]) rfl ty_ap_24 (by decide) (by decide) rfl rfl rfl).mono (fun v W' h => ⟨h.2.1, h.1.notin (LL.below hL hd) (Nat.le_refl _)⟩)
      exact trivial
     ·
      intro W82 b83
      intro u12_5 p12_5
      intro u12_7 p12_7
      replace hnp := hnp.below b83
      replace hip := hip.below b83
      replace hcp := hcp.below b83
      replace hgs := hgs.below b83
      replace hag := hag.below b83
      replace k3 := k3.below b83
      replace k8 := k8.below b83
      replace k79 := k79.below b83
      replace k55 := k55.below b83
      replace k65 := k65.below b83
      replace hB := below_then hB b83
      replace hL := LL.below hL b83
      refine WL.get (dx_apF (rs := []) (news := [encT t80]) rfl ty_ap_24 rfl rfl (RdF.nil (L := []) (by decide)) (RdF.less (L' := []) p12_7 (fun x hx => by cases hx)) (by simp) (by simp [maxLen]) (by simp)) rfl rfl ?_
      rintro u84 W85 ⟨k86, b87, z88⟩
      have q91 := hag.2.1
      have l92 : b0 ≤ W82.heap.size := by omega
      have n95 : W4_.heap.size ≠ W82.heap.size := Nat.ne_of_lt k79.lt
      have n97 : W54.heap.size ≠ W82.heap.size := Nat.ne_of_lt k65.lt
      have l98 := hB.size
      replace hnp := hnp.more b87 (Nat.le_refl _)
      replace hip := hip.more b87 (Nat.le_refl _)
      replace hcp := hcp.more b87 (Nat.le_refl _)
      replace hgs := hgs.more b87 (Nat.le_refl _)
      replace hag := hag.more b87 (Nat.le_refl _)
      replace p12_7 := p12_7.more b87 (Nat.le_refl _)
      replace k3 := k3.below b87
      replace k8 := k8.below b87
      replace k79 := k79.below b87
      replace k55 := k55.below b87
      replace k65 := k65.below b87
      replace hB := below_then hB b87
      replace hL := LL.more hL z88
      refine WL.val (dx_fld (o1 := 4) rfl ty_fld_26_4_4 rfl rfl) rfl rfl ?_
      refine WL.do (dx_store (cs' := [.int .i64 6, .int .i64 0, .string ⟨#[]⟩, u63, u84]) (vs := [u84]) rfl ty_size_24_1 rfl rfl (oc_one k86.one) (oc_cons k86.one oc_nil) k79 rfl (Nat.le_of_ble_eq_true rfl) rfl) rfl ?_
      rintro _ W99 ⟨k101, o100⟩
      replace k3 := k3.other o100 n29
      replace k8 := k8.other o100 n30
      replace k55 := k55.other o100 n61.symm
      replace k65 := k65.other o100 n74.symm
      replace k86 := k86.other o100 n95.symm
      clear k79
      replace hnp := hnp.only o100 (.tail _ (.tail _ (.tail _ (.head _))))
      replace hip := hip.only o100 (.tail _ (.tail _ (.tail _ (.head _))))
      replace hcp := hcp.only o100 (.tail _ (.tail _ (.tail _ (.head _))))
      replace hgs := hgs.only o100 (.tail _ (.tail _ (.tail _ (.head _))))
      replace hag := hag.only o100 (.tail _ (.tail _ (.tail _ (.head _))))
      replace p12_7 := p12_7.only o100 (.tail _ (.tail _ (.tail _ (.head _))))
      replace hB := o100.below hB l31
      replace hL := LL.only hL o100
      refine WL.nil ?_
      refine hK42 ?_
      refine WC.region ?_
      refine WL.val (dx_add (r := (i : Int) + 1) rfl rfl rfl (wrap64_id (by omega))) rfl rfl ?_
      refine WL.val (dx_move rfl rfl) rfl rfl ?_
      refine WL.nil ?_
      have hm2 : MembI n b0 (W4_.heap.size :: W2.heap.size :: w.heap.size :: L) u63 [r44] u84 [t80] W99 := ⟨hb0L, .inr ⟨W54.heap.size, W82.heap.size, n97, by omega, by omega, k65, k86, (fun c hc_ => by rw [List.mem_singleton.1 hc_]; exact (hcp t80 (List.mem_of_getElem? ht81)).less (fun x hx => by simp only [List.mem_cons] at hx ⊢; rcases hx with h_ | h_ | h_ <;> simp [h_]))⟩⟩
      rw [show [r44] = (wnN gs (p.names.take i)) ++ [r44] from by rw [hns0]; rfl, show [t80] = (wnT gs (p.names.take i) (p.items.take i)) ++ [t80] from by rw [hts0]; rfl] at hm2
      rw [← wnN_add e45 c52, ← wnT_add e45 ht81 c52] at hm2
      have hL_ := hL.less (fun x hx => (.tail _ (.tail _ (.tail _ hx))))
      replace hag : AgL W32 (W4_.heap.size :: W2.heap.size :: w.heap.size :: L) (W4_.heap.size :: W2.heap.size :: w.heap.size :: L) W99 := ⟨fun _ h _ => h, hag.2⟩
      replace hnp := hnp6.agree hag.2
      replace hip := hip6.agree hag.2
      replace hgs := hgs6.agree hag.2
      replace hcp : RdTs n (W4_.heap.size :: W2.heap.size :: w.heap.size :: L) W99 p.items := fun c hc_ => (hcp6 c hc_).agree hag.2
      replace hL := hL_
      exact hK37 (i + 1) u63 u84 ⟨(by omega), hB, hL, hnp, hip, hcp, hgs, hag, hm2, k3, k8, k101⟩ (by omega) (by repeat first | exact trivial | exact And.intro rfl trivial | refine And.intro rfl ?_ | refine And.intro (congrArg (fun z : Int => some (Value.int .i64 z)) (by omega)) ?_ | refine And.intro (congrArg (fun z : Bool => some (Value.bool z)) (by first | exact (decide_eq_true (by omega)).symm | exact (decide_eq_false (by omega)).symm)) ?_)
    ·
     have n102 : Bn ≠ w.heap.size := by have := hb0L (w.heap.size) (.tail _ (.tail _ (.head _))); omega
     have n103 : Bi ≠ w.heap.size := by have := hb0L (w.heap.size) (.tail _ (.tail _ (.head _))); omega
     have n104 : Bn ≠ W2.heap.size := by have := hb0L (W2.heap.size) (.tail _ (.head _)); omega
     have n105 : Bi ≠ W2.heap.size := by have := hb0L (W2.heap.size) (.tail _ (.head _)); omega
     have n106 : Bn ≠ W4_.heap.size := by have := hb0L (W4_.heap.size) (.head _); omega
     have n107 : Bi ≠ W4_.heap.size := by have := hb0L (W4_.heap.size) (.head _); omega
     have lbn : w.heap.size ≤ Bn := by omega
     have lbi : w.heap.size ≤ Bi := by omega
     replace hag := (hag.add (B := Bi) (by omega)).add (B := Bn) (by omega)
     replace hL := LL.cons (LL.cons hL hOi.lt) hOn.lt
     replace hnp := hag.rd hnp6
     replace hip := hag.rd hip6
     replace hgs := hag.rd hgs6
     replace hcp : RdTs n (Bn :: Bi :: W4_.heap.size :: W2.heap.size :: w.heap.size :: L) W50 p.items := fun c hc_ => hag.rt (hcp6 c hc_)
     refine WC.region ?_
     refine WL.val (dx_fld (o1 := 3) rfl ty_fld_26_3_3 rfl rfl) rfl rfl ?_
     refine WL.val (dx_load rfl ty_one_23 rfl (k34.cell (k := 3) rfl)) rfl rfl ?_
     refine WL.val (dx_move rfl rfl) rfl rfl ?_
     refine WL.get (dx_lit1 (r := [.string r44]) rfl ty_ap_23 (by decide) (by decide) rfl rfl rfl) rfl rfl ?_
     rintro u112 W108 ⟨k109, b110, z111⟩
     have n115 : W4_.heap.size ≠ W50.heap.size := Nat.ne_of_lt k34.lt
     have n116 : Bn ≠ W50.heap.size := Nat.ne_of_lt hOn.lt
     have n117 : Bi ≠ W50.heap.size := Nat.ne_of_lt hOi.lt
     have l118 := hB.size
     replace hnp := hnp.more b110 (Nat.le_refl _)
     replace hip := hip.more b110 (Nat.le_refl _)
     replace hcp := hcp.more b110 (Nat.le_refl _)
     replace hgs := hgs.more b110 (Nat.le_refl _)
     replace hag := hag.more b110 (Nat.le_refl _)
     replace hts := hts.more b110 (Nat.le_refl _)
     replace k3 := k3.below b110
     replace k8 := k8.below b110
     replace k34 := k34.below b110
     replace hOn := hOn.below b110
     replace hOi := hOi.below b110
     replace hB := below_then hB b110
     replace hL := LL.more hL z111
     refine WL.get (dx_apO' (rs := ((wnN gs (p.names.take i)).map eS)) (news := [eS r44]) rfl ty_ap_23 rfl rfl hOn (k109.rd (L := []) (by simp)) (fun r hr => by rw [List.mem_singleton.1 hr]; exact (oc_cons rfl oc_nil)) (by simp only [List.length_map, List.length_append, List.length_cons, List.length_nil]; unfold maxLen; omega) (by simp only [List.length_map, List.length_append, List.length_cons, List.length_nil]; omega)) rfl rfl ?_
     rintro u119 W120 ⟨B125, k121, g124⟩
     rw [show ((wnN gs (p.names.take i)).map eS) ++ [eS r44] = (((wnN gs (p.names.take i)) ++ [r44]).map eS) from by simp only [List.map_append, List.map_cons, List.map_nil]] at k121
     have q127 := hag.2.1
     have l128 : b0 ≤ B125 := g124.le hbn (by omega)
     have n131 : W4_.heap.size ≠ B125 := k34.grow_ne g124 n106.symm
     have n132 : Bi ≠ B125 := hOi.grow_ne g124 hni.symm
     have l126 := g124.le lbn hB.size
     replace hnp := hnp.grow' g124 (.tail _ (.head _))
     replace hip := hip.grow' g124 (.tail _ (.head _))
     replace hcp := hcp.grow' g124 (.tail _ (.head _))
     replace hgs := hgs.grow' g124 (.tail _ (.head _))
     replace hag := hag.grow' g124 (.tail _ (.head _))
     replace hts := hts.grow' g124 (.tail _ (.head _))
     replace k3 := k3.grow g124 n102.symm
     replace k8 := k8.grow g124 n104.symm
     replace k34 := k34.grow g124 n106.symm
     replace hOi := hOi.grow g124 hni.symm
     replace k109 := k109.grow g124 n116.symm
     replace hB := g124.below hB lbn hB.size
     replace hL := LL.grow hL g124 k121.lt
     refine WL.val (dx_fld (o1 := 3) rfl ty_fld_26_3_3 rfl rfl) rfl rfl ?_
     refine WL.do (dx_store (cs' := [.int .i64 6, .int .i64 0, .string ⟨#[]⟩, u119, iv]) (vs := [u119]) rfl ty_size_23_1 rfl rfl (oc_one k121.one) (oc_cons k121.one oc_nil) k34 rfl (Nat.le_of_ble_eq_true rfl) rfl) rfl ?_
     rintro _ W134 ⟨k136, o135⟩
     replace k3 := k3.other o135 n29
     replace k8 := k8.other o135 n30
     replace hOi := hOi.other o135 n107
     replace k109 := k109.other o135 n115.symm
     replace k121 := k121.other o135 n131.symm
     clear k34
     replace hnp := hnp.only o135 (.tail _ (.tail _ (.tail _ (.tail _ (.head _)))))
     replace hip := hip.only o135 (.tail _ (.tail _ (.tail _ (.tail _ (.head _)))))
     replace hcp := hcp.only o135 (.tail _ (.tail _ (.tail _ (.tail _ (.head _)))))
     replace hgs := hgs.only o135 (.tail _ (.tail _ (.tail _ (.tail _ (.head _)))))
     replace hag := hag.only o135 (.tail _ (.tail _ (.tail _ (.tail _ (.head _)))))
     replace hts := hts.only o135 (.tail _ (.tail _ (.tail _ (.tail _ (.head _)))))
     replace hB := o135.below hB l31
     replace hL := LL.only hL o135
     refine WL.nil ?_
     refine hK53 ?_
     obtain ⟨t137, ht138⟩ : ∃ x, p.items[i]? = some x := ⟨_, List.getElem?_eq_getElem (by omega)⟩
     have hot137 := (hcp t137 (List.mem_of_getElem? ht138))
     obtain ⟨hnt137, hit137, hct137⟩ : RdF 1 (B125 :: W50.heap.size :: Bn :: Bi :: W4_.heap.size :: W2.heap.size :: w.heap.size :: L) W134 t137.nv (t137.names.map eS) ∧ RdF 5 (B125 :: W50.heap.size :: Bn :: Bi :: W4_.heap.size :: W2.heap.size :: w.heap.size :: L) W134 t137.iv (t137.items.map encT) ∧ ∀ c ∈ t137.items, RdT n (B125 :: W50.heap.size :: Bn :: Bi :: W4_.heap.size :: W2.heap.size :: w.heap.size :: L) W134 c := by cases n with | zero => exact hot137.elim | succ n => exact ⟨hot137.1, hot137.2.1, fun c hc => (hot137.2.2 c hc).up⟩
     refine WC.drawM 8 [(some 42, .is (.pointer (some ⟨W4_.heap.size, 4, none⟩))), (some 43, .is (iv)), (some 44, .is (.pointer (some ⟨w.heap.size, 4, none⟩))), (some 45, .is (p.iv)), (some 46, .is (.int .i64 (i : Int))), (some 47, .by fun u W => PtR (B125 :: W50.heap.size :: Bn :: Bi :: W4_.heap.size :: W2.heap.size :: w.heap.size :: L) W u (encT t137)), (some 48, .is (.agg #[.int .i64 t137.kind, .int .i64 t137.num, .string t137.text, t137.nv, t137.iv])), (some 49, .by fun u W => RdF 5 (B125 :: W50.heap.size :: Bn :: Bi :: W4_.heap.size :: W2.heap.size :: w.heap.size :: L) W u [[.int .i64 t137.kind, .int .i64 t137.num, .string t137.text, t137.nv, t137.iv]])] [[], [0], [], [2], [], [3, 4], [5], [6]] (by kernel_rfl) (by kernel_rfl) (by kernel_rfl) (by kernel_rfl) (by kernel_rfl) (by kernel_rfl) (by kernel_rfl) ⟨fun _ _ _ hb h => h.below hb, fun _ _ _ hb h => h.below hb, trivial⟩ ?_ ?_
     ·
      refine DSteps.cons (fun Wd hd => ?_) ?_
      ·
       exact DV.dr (dx_fld (o1 := 4) rfl ty_fld_26_4_4 rfl rfl) ⟨Below.refl _ _, rfl⟩
      refine DSteps.cons (fun Wd hd => ?_) ?_
      ·
       have k136 := k136.below hd
       exact DV.dr (dx_load rfl ty_one_24 rfl (k136.cell (k := 4) rfl)) ⟨Below.refl _ _, rfl⟩
      refine DSteps.cons (fun Wd hd => ?_) ?_
      ·
       exact DV.dr (dx_fld (o1 := 4) rfl ty_fld_26_4_4 rfl rfl) ⟨Below.refl _ _, rfl⟩
      refine DSteps.cons (fun Wd hd => ?_) ?_
      ·
       have k3 := k3.below hd
       exact DV.dr (dx_load rfl ty_one_24 rfl (k3.cell (k := 4) rfl)) ⟨Below.refl _ _, rfl⟩
      refine DSteps.cons (fun Wd hd => ?_) ?_
      ·
       exact DV.dr (dx_move rfl rfl) ⟨Below.refl _ _, rfl⟩
      refine DSteps.cons (fun Wd hd => ?_) ?_
      ·
       have hip := hip.below hd
       exact (dx_idxF i rfl ty_slice_24 rfl rfl hip (by omega) (at_mapX ht138)).mono (fun v W' h => ⟨by rw [← h.1]; exact Below.refl _ _, by rw [← h.1]; exact h.2⟩)
      refine DSteps.cons (fun Wd hd => ?_) ?_
      ·
       intro u12_5 p12_5
       exact DV.dr (dx_loadPN rfl ty_agg_26_5 rfl p12_5 rfl) ⟨Below.refl _ _, rfl⟩
      refine DSteps.cons (fun Wd hd => ?_) ?_
      ·
       exact (dx_lit1 (r := [.int .i64 t137.kind, .int .i64 t137.num, .string t137.text, t137.nv, t137.iv]) rfl ty_ap_24 (by decide) (by decide) rfl rfl rfl).mono (fun v W' h => ⟨h.2.1, h.1.notin (LL.below hL hd) (Nat.le_refl _)⟩)
      exact trivial
     ·
      intro W139 b140
      intro u12_5 p12_5
      intro u12_7 p12_7
      replace hnp := hnp.below b140
      replace hip := hip.below b140
      replace hcp := hcp.below b140
      replace hgs := hgs.below b140
      replace hag := hag.below b140
      replace hts := hts.below b140
      replace k3 := k3.below b140
      replace k8 := k8.below b140
      replace k136 := k136.below b140
      replace hOi := hOi.below b140
      replace k109 := k109.below b140
      replace k121 := k121.below b140
      replace hB := below_then hB b140
      replace hL := LL.below hL b140
      refine WL.get (dx_apO' (rs := ((wnT gs (p.names.take i) (p.items.take i)).map encT)) (news := [encT t137]) rfl ty_ap_24 rfl rfl hOi (RdF.less (L' := []) p12_7 (fun x hx => by cases hx)) (fun r hr => by rw [List.mem_singleton.1 hr]; exact (hcp t137 (List.mem_of_getElem? ht138)).oc) (by simp only [List.length_map, List.length_append, List.length_cons, List.length_nil]; unfold maxLen; omega) (by simp only [List.length_map, List.length_append, List.length_cons, List.length_nil]; omega)) rfl rfl ?_
      rintro u141 W142 ⟨B147, k143, g146⟩
      rw [show ((wnT gs (p.names.take i) (p.items.take i)).map encT) ++ [encT t137] = (((wnT gs (p.names.take i) (p.items.take i)) ++ [t137]).map encT) from by simp only [List.map_append, List.map_cons, List.map_nil]] at k143
      have q149 := hag.2.1
      have l150 : b0 ≤ B147 := g146.le hbi (by omega)
      have n153 : W4_.heap.size ≠ B147 := k136.grow_ne g146 n107.symm
      have n155 : B125 ≠ B147 := k121.grow_ne g146 n132.symm
      have l148 := g146.le lbi hB.size
      replace hnp := hnp.grow' g146 (.tail _ (.tail _ (.tail _ (.head _))))
      replace hip := hip.grow' g146 (.tail _ (.tail _ (.tail _ (.head _))))
      replace hcp := hcp.grow' g146 (.tail _ (.tail _ (.tail _ (.head _))))
      replace hgs := hgs.grow' g146 (.tail _ (.tail _ (.tail _ (.head _))))
      replace hag := hag.grow' g146 (.tail _ (.tail _ (.tail _ (.head _))))
      replace hts := hts.grow' g146 (.tail _ (.tail _ (.tail _ (.head _))))
      replace p12_7 := p12_7.grow' g146 (.tail _ (.tail _ (.tail _ (.head _))))
      replace k3 := k3.grow g146 n103.symm
      replace k8 := k8.grow g146 n105.symm
      replace k136 := k136.grow g146 n107.symm
      replace k109 := k109.grow g146 n117.symm
      replace k121 := k121.grow g146 n132.symm
      replace hB := g146.below hB lbi hB.size
      replace hL := LL.grow hL g146 k143.lt
      refine WL.val (dx_fld (o1 := 4) rfl ty_fld_26_4_4 rfl rfl) rfl rfl ?_
      refine WL.do (dx_store (cs' := [.int .i64 6, .int .i64 0, .string ⟨#[]⟩, u119, u141]) (vs := [u141]) rfl ty_size_24_1 rfl rfl (oc_one k143.one) (oc_cons k143.one oc_nil) k136 rfl (Nat.le_of_ble_eq_true rfl) rfl) rfl ?_
      rintro _ W156 ⟨k158, o157⟩
      replace k3 := k3.other o157 n29
      replace k8 := k8.other o157 n30
      replace k109 := k109.other o157 n115.symm
      replace k121 := k121.other o157 n131.symm
      replace k143 := k143.other o157 n153.symm
      clear k136
      replace hnp := hnp.only o157 (.tail _ (.tail _ (.tail _ (.tail _ (.tail _ (.head _))))))
      replace hip := hip.only o157 (.tail _ (.tail _ (.tail _ (.tail _ (.tail _ (.head _))))))
      replace hcp := hcp.only o157 (.tail _ (.tail _ (.tail _ (.tail _ (.tail _ (.head _))))))
      replace hgs := hgs.only o157 (.tail _ (.tail _ (.tail _ (.tail _ (.tail _ (.head _))))))
      replace hag := hag.only o157 (.tail _ (.tail _ (.tail _ (.tail _ (.tail _ (.head _))))))
      replace hts := hts.only o157 (.tail _ (.tail _ (.tail _ (.tail _ (.tail _ (.head _))))))
      replace p12_7 := p12_7.only o157 (.tail _ (.tail _ (.tail _ (.tail _ (.tail _ (.head _))))))
      replace hB := o157.below hB l31
      replace hL := LL.only hL o157
      refine WL.nil ?_
      refine hK42 ?_
      refine WC.region ?_
      refine WL.val (dx_add (r := (i : Int) + 1) rfl rfl rfl (wrap64_id (by omega))) rfl rfl ?_
      refine WL.val (dx_move rfl rfl) rfl rfl ?_
      refine WL.nil ?_
      have hm2 : MembI n b0 (W4_.heap.size :: W2.heap.size :: w.heap.size :: L) u119 ((wnN gs (p.names.take i)) ++ [r44]) u141 ((wnT gs (p.names.take i) (p.items.take i)) ++ [t137]) W156 := ⟨hb0L, .inr ⟨B125, B147, n155, by omega, by omega, k121, k143, (fun c hc_ => by rcases List.mem_append.1 hc_ with h_ | h_; exact (hts c h_).less (fun x hx => by simp only [List.mem_cons] at hx ⊢; rcases hx with h_ | h_ | h_ <;> simp [h_]); (rw [List.mem_singleton.1 h_]; exact (hcp t137 (List.mem_of_getElem? ht138)).less (fun x hx => by simp only [List.mem_cons] at hx ⊢; rcases hx with h_ | h_ | h_ <;> simp [h_])))⟩⟩
      rw [← wnN_add e45 c52, ← wnT_add e45 ht138 c52] at hm2
      have hL_ := hL.less (fun x hx => (.tail _ (.tail _ (.tail _ (.tail _ (.tail _ hx))))))
      replace hag : AgL W32 (W4_.heap.size :: W2.heap.size :: w.heap.size :: L) (W4_.heap.size :: W2.heap.size :: w.heap.size :: L) W156 := ⟨fun _ h _ => h, hag.2⟩
      replace hnp := hnp6.agree hag.2
      replace hip := hip6.agree hag.2
      replace hgs := hgs6.agree hag.2
      replace hcp : RdTs n (W4_.heap.size :: W2.heap.size :: w.heap.size :: L) W156 p.items := fun c hc_ => (hcp6 c hc_).agree hag.2
      replace hL := hL_
      exact hK37 (i + 1) u119 u141 ⟨(by omega), hB, hL, hnp, hip, hcp, hgs, hag, hm2, k3, k8, k158⟩ (by omega) (by repeat first | exact trivial | exact And.intro rfl trivial | refine And.intro rfl ?_ | refine And.intro (congrArg (fun z : Int => some (Value.int .i64 z)) (by omega)) ?_ | refine And.intro (congrArg (fun z : Bool => some (Value.bool z)) (by first | exact (decide_eq_true (by omega)).symm | exact (decide_eq_false (by omega)).symm)) ?_)
   ·
    replace c52 := bnot_f c52
    refine WC.skip ?_
    refine hK42 ?_
    refine WC.region ?_
    refine WL.val (dx_add (r := (i : Int) + 1) rfl rfl rfl (wrap64_id (by omega))) rfl rfl ?_
    refine WL.val (dx_move rfl rfl) rfl rfl ?_
    refine WL.nil ?_
    obtain ⟨t_, ht_⟩ : ∃ x, p.items[i]? = some x := ⟨_, List.getElem?_eq_getElem (by omega)⟩
    rw [← wnN_no e45 c52, ← wnT_no e45 ht_ c52] at hm
    exact hK37 (i + 1) nv iv ⟨(by omega), hB, hL, hnp, hip, hcp, hgs, hag, hm, k3, k8, k34⟩ (by omega) (by repeat first | exact trivial | exact And.intro rfl trivial | refine And.intro rfl ?_ | refine And.intro (congrArg (fun z : Int => some (Value.int .i64 z)) (by omega)) ?_ | refine And.intro (congrArg (fun z : Bool => some (Value.bool z)) (by first | exact (decide_eq_true (by omega)).symm | exact (decide_eq_false (by omega)).symm)) ?_)
  ·
   replace c41 := of_decide_eq_false c41
   refine WC.exit ?_
   refine hK35 ?_
   refine WC.seq fun K159 hK159 => ?_
   refine WC.region ?_
   refine WL.val (dx_loadN rfl ty_agg_26_5 rfl k34.range rfl) rfl rfl ?_
   refine WL.do (dx_store (cs' := [.int .i64 6, .int .i64 0, .string ⟨#[]⟩, nv, iv]) (vs := [.int .i64 6, .int .i64 0, .string ⟨#[]⟩, nv, iv]) rfl ty_size_26_5 rfl rfl rfl (oc_cons rfl (oc_cons rfl (oc_cons rfl (oc_cons hm.one.1 (oc_cons hm.one.2 oc_nil))))) k8 rfl (Nat.le_of_ble_eq_true rfl) rfl) rfl ?_
   rintro _ W160 ⟨k162, o161⟩
   replace k3 := k3.other o161 n11
   replace k34 := k34.other o161 n30.symm
   clear k8
   replace hnp := hnp.only o161 (.tail _ (.head _))
   replace hip := hip.only o161 (.tail _ (.head _))
   replace hcp := hcp.only o161 (.tail _ (.head _))
   replace hgs := hgs.only o161 (.tail _ (.head _))
   replace hag := hag.only o161 (.tail _ (.head _))
   replace hm := hm.only o161 (.tail _ (.head _))
   replace hB := o161.below hB l12
   replace hL := LL.only hL o161
   refine WL.nil ?_
   refine hK159 ?_
   refine WC.ret fun a_ ha_ => ?_
   exact hQ (cv_ret1 rfl (.agg rfl ty_agg_26_5 k162.range rfl) (by have hie : i = p.names.length := (by omega); rw [hie, List.take_of_length_le (Nat.le_refl _), List.take_of_length_le (show p.items.length ≤ p.names.length by omega)] at hm; exact ⟨.mk 6 0 ⟨#[]⟩ nv (wnN gs p.names) iv (wnT gs p.names p.items), rfl, (by rw [Tr.er_mk]; unfold withoutJ; rw [if_pos hro, er_names, er_items, wnT_map]), hm.tree (fun x hx => (.tail _ (.tail _ (.tail _ hx)))) 6 0 ⟨#[]⟩⟩) hB ha_)

end Go.Proofs.Ytpinidlfcifeeaa
namespace Go.Proofs.Ytpinidlfcifeeaa
open Go.RowKit
set_option linter.unusedVariables false
set_option linter.unusedSimpArgs false
set_option maxRecDepth 8000

theorem dv_e {P : Program} {ops : Array Oper} {o : Oper} {N : Nat} {f : Fl} {w : World} {u v : Value} (h : DV P ops o N f w u) (e : u = v) : DV P ops o N f w v := e ▸ h
theorem idx_none {x : ByteArray} {l : List ByteArray} (h : x ∉ l) : ¬ 0 ≤ idxX (fun y => decide (x = y)) l 0 := fun h0 => by
 obtain ⟨k, a, e, ha, hp, _⟩ := idxX_is l 0 (Int.le_refl _) h0
 exact h ((of_decide_eq_true hp) ▸ List.mem_of_getElem? ha)
theorem rises_uniq {l : List ByteArray} (h : Rises l) {i j : Nat} {a : ByteArray} (hi : l[i]? = some a) (hj : l[j]? = some a) : i = j := by
  rcases Nat.lt_trichotomy i j with h1 | h1 | h1
  · have := rises_less h h1 hi hj; rw [sless_irrefl] at this; cases this
  · exact h1
  · have := rises_less h h1 hj hi; rw [sless_irrefl] at this; cases this
theorem getJ_some {j : Js} {nm : ByteArray} {k : Nat} {x : Js} (hk : j.kind = 6) (hr : Rises j.names) (hn : j.names[k]? = some nm) (hx : j.items[k]? = some x) : getJ j nm = (x, true) := by
  have hlt := (List.getElem?_eq_some_iff.1 hx).1
  have h0 : idxX (fun y => decide (nm = y)) j.names 0 = (k : Int) := by
    rcases Int.lt_or_le (idxX (fun y => decide (nm = y)) j.names 0) 0 with h1 | h1
    · have := idxX_no j.names 0 (Int.le_refl _) h1 nm (List.mem_of_getElem? hn)
      exact absurd rfl (of_decide_eq_false this)
    · obtain ⟨k', a, e, ha, hp, _⟩ := idxX_is j.names 0 (Int.le_refl _) h1
      have hp := of_decide_eq_true hp
      subst hp
      have := rises_uniq hr ha hn
      rw [e, this]; omega
  unfold getJ
  rw [if_pos ⟨hk, by rw [h0]; omega, by rw [h0]; simpa using hlt⟩, h0, Int.toNat_natCast, hx]
  rfl
theorem getJ_none {j : Js} {nm : ByteArray} (h : nm ∉ j.names) : getJ j nm = (noJ, false) := by
 unfold getJ
 rw [if_neg (fun ⟨_, h1, _⟩ => idx_none h h1)]
theorem insA_at {α : Type} {i : Nat} {x : α} {l : List α} (h : i ≤ l.length) : (insA i x l)[i]? = some x := by
 unfold insA
 rw [List.getElem?_append_right (by rw [List.length_take]; omega), List.length_take, show i - min i l.length = 0 by omega]
 rfl
theorem insA_lt {α : Type} {i k : Nat} {x : α} {l : List α} (h : i ≤ l.length) (hk : k < i) : (insA i x l)[k]? = l[k]? := by
 unfold insA
 rw [List.getElem?_append_left (by rw [List.length_take]; omega), List.getElem?_take, if_pos hk]
theorem insA_ge {α : Type} {i k : Nat} {x : α} {l : List α} (h : i ≤ l.length) (hk : i ≤ k) : (insA i x l)[k + 1]? = l[k]? := by
 unfold insA
 rw [List.getElem?_append_right (by rw [List.length_take]; omega), List.length_take, show k + 1 - min i l.length = (k - i) + 1 by omega, List.singleton_append, List.getElem?_cons_succ, List.getElem?_drop]
 congr 1; omega
theorem put_names {j : Js} {nm : ByteArray} {x : Js} (hr : Rises j.names) : Rises (putJ j nm x).names := by
  unfold putJ
  split
  · exact hr
  · rename_i h; exact rises_ins hr h
theorem put_kind {j : Js} {nm : ByteArray} {x : Js} : (putJ j nm x).kind = 6 := by unfold putJ; split <;> rfl
theorem put_len {j : Js} {nm : ByteArray} {x : Js} (hl : j.names.length = j.items.length) : (putJ j nm x).names.length = (putJ j nm x).items.length := by
  have := lbT_le nm j.names
  unfold putJ
  split
  · show j.names.length = (j.items.set _ _).length; rw [List.length_set]; exact hl
  · show (insA _ _ j.names).length = (insA _ _ j.items).length; rw [insA_len this, insA_len (by omega), hl]
theorem putJ_get {j : Js} {nm : ByteArray} {x : Js} (hr : Rises j.names) (hl : j.names.length = j.items.length) : getJ (putJ j nm x) nm = (x, true) := by
  have hle := lbT_le nm j.names
  refine getJ_some (k := lbT nm j.names) put_kind (put_names hr) ?_ ?_
  · unfold putJ
    split
    · rename_i h; exact h
    · exact insA_at hle
  · unfold putJ
    split
    · rename_i h
      have := (List.getElem?_eq_some_iff.1 h).1
      exact List.getElem?_set_self (by omega)
    · exact insA_at (by omega)
theorem put_mem {j : Js} {nm b : ByteArray} {x : Js} (hb : b ≠ nm) : b ∈ (putJ j nm x).names ↔ b ∈ j.names := by
  unfold putJ
  split
  · exact Iff.rfl
  · show b ∈ insA _ _ j.names ↔ _; rw [mem_insA]; exact ⟨fun h => h.resolve_left hb, .inr⟩
theorem put_other {j : Js} {nm b : ByteArray} {x : Js} (hk : j.kind = 6) (hr : Rises j.names) (hl : j.names.length = j.items.length) (hb : b ≠ nm) : getJ (putJ j nm x) b = getJ j b := by
  by_cases hm : b ∈ j.names
  · obtain ⟨k, hk1, he⟩ := List.mem_iff_getElem.1 hm
    have hn : j.names[k]? = some b := by rw [List.getElem?_eq_getElem hk1, he]
    have hx := List.getElem?_eq_getElem (l := j.items) (i := k) (by omega)
    have hle := lbT_le nm j.names
    rw [getJ_some hk hr hn hx]
    have hp := put_names (nm := nm) (x := x) hr
    by_cases h : j.names[lbT nm j.names]? = some nm
    · have hne : lbT nm j.names ≠ k := fun e => by rw [e, hn] at h; exact hb (Option.some.inj h)
      rw [putJ_t rfl h] at hp ⊢
      refine getJ_some (k := k) rfl hp hn ?_
      show (j.items.set _ _)[k]? = _
      rw [List.getElem?_set_ne hne]; exact hx
    · rw [putJ_f rfl h] at hp ⊢
      rcases Nat.lt_or_ge k (lbT nm j.names) with h1 | h1
      · exact getJ_some (k := k) rfl hp (by show (insA _ _ j.names)[_]? = _; rw [insA_lt hle h1]; exact hn) (by show (insA _ _ j.items)[_]? = _; rw [insA_lt (by omega) h1]; exact hx)
      · exact getJ_some (k := k + 1) rfl hp (by show (insA _ _ j.names)[_]? = _; rw [insA_ge hle h1]; exact hn) (by show (insA _ _ j.items)[_]? = _; rw [insA_ge (by omega) h1]; exact hx)
  · rw [getJ_none hm, getJ_none (fun h => hm ((put_mem hb).1 h))]
theorem rises_J : ∀ {l : List ByteArray}, Rises l → risesJ l = true
 | [], _ => rfl
 | [a], _ => rfl
 | a :: b :: l, h => by
  unfold risesJ
  rw [rises_J (List.pairwise_cons.1 h).2, (List.pairwise_cons.1 h).1 b (.head _)]; rfl
theorem obj_node {up : ByteArray → Bool} {n : Nat} {j : Js} (hk : j.kind = 6) (h : rightJ up (n + 1) j = true) : j.num = 0 ∧ j.text = ⟨#[]⟩ ∧ j.names.length = j.items.length ∧ risesJ j.names = true ∧ (∀ a ∈ j.names, up a = true) ∧ ∀ x ∈ j.items, rightJ up n x = true := by
  rw [rightJ, Bool.or_eq_true] at h
  rcases h with h | h
  · exact absurd (.inr hk) (leaf_kind h)
  · rw [Bool.and_eq_true, List.all_eq_true] at h
    obtain ⟨h1, h2⟩ := h
    unfold nodeJ at h1
    rw [hk] at h1
    simp at h1
    exact ⟨h1.1.1, h1.1.2, h1.2.1, h1.2.2.1, fun a ha => h1.2.2.2 a ha, h2⟩
theorem mk_right {up : ByteArray → Bool} {n : Nat} {ns : List ByteArray} {ts : List Js} (hl : ns.length = ts.length) (hr : Rises ns) (hu : ∀ a ∈ ns, up a = true) (ht : ∀ x ∈ ts, rightJ up n x = true) : rightJ up (n + 1) (.mk 6 0 ⟨#[]⟩ ns ts) = true := by
 rw [rightJ, Bool.or_eq_true]
 right
 rw [Bool.and_eq_true, List.all_eq_true]
 refine ⟨?_, ht⟩
 simp only [nodeJ, Js.num, Js.text, Js.kind, Js.names, Js.items, hl, rises_J hr]
 simp
 exact hu
theorem put_right {j : Js} {nm : ByteArray} {x : Js} (hk : j.kind = 6) (h : rightJ upB 12 j = true) (hx : rightJ upB 12 x = true) (hu : upB nm = true) (hd : ¬ 12 ≤ deepJ 13 x) : rightJ upB 12 (putJ j nm x) = true := by
  obtain ⟨_, _, h3, h4, h5, h6⟩ := obj_node hk h
  have hr := rises_of_J h4
  have hx' : rightJ upB 11 x = true := (right_deep upB 11 x).2 ⟨hx, by show deepJ 13 x ≤ 11; omega⟩
  have hl := put_len (nm := nm) (x := x) h3
  have hp := put_names (nm := nm) (x := x) hr
  by_cases h : j.names[lbT nm j.names]? = some nm
  · rw [putJ_t rfl h] at hl hp ⊢
    refine mk_right hl hp h5 fun y hy => ?_
    rcases List.mem_or_eq_of_mem_set hy with h_ | h_
    · exact h6 y h_
    · rw [h_]; exact hx'
  · rw [putJ_f rfl h] at hl hp ⊢
    refine mk_right hl hp (fun a ha => ?_) fun y hy => ?_
    · rcases mem_insA.1 ha with h_ | h_
      · rw [h_]; exact hu
      · exact h5 a h_
    · rcases mem_insA.1 hy with h_ | h_
      · rw [h_]; exact hx'
      · exact h6 y h_
theorem mem_wnT {α : Type} {g ns : List ByteArray} {ts : List α} {x : α} (h : x ∈ wnT g ns ts) : x ∈ ts := by
 unfold wnT at h
 obtain ⟨p, hp, rfl⟩ := List.mem_map.1 h
 exact (List.of_mem_zip (List.mem_filter.1 hp).1).2
theorem mem_wnN {g ns : List ByteArray} {a : ByteArray} : a ∈ wnN g ns ↔ a ∈ ns ∧ a ∉ g := by
  unfold wnN
  rw [List.mem_filter]
  constructor
  · rintro ⟨h1, h2⟩
    refine ⟨h1, fun h => ?_⟩
    rw [hasB_iff.2 h] at h2; cases h2
  · rintro ⟨h1, h2⟩
    refine ⟨h1, ?_⟩
    cases hb : hasB g a with
    | false => rfl
    | true => exact absurd (hasB_iff.1 hb) h2
theorem without_right {j : Js} {g : List ByteArray} (hk : j.kind = 6) (h : rightJ upB 12 j = true) : rightJ upB 12 (withoutJ g j) = true := by
 obtain ⟨_, _, h3, h4, h5, h6⟩ := obj_node hk h
 unfold withoutJ
 rw [if_pos (by rw [decide_eq_true hk, h]; rfl)]
 exact mk_right (wnT_len g _ _ h3).symm ((rises_of_J h4).sublist List.filter_sublist) (fun a ha => h5 a (mem_wnN.1 ha).1) fun y hy => h6 y (mem_wnT hy)
theorem without_get {j : Js} {g : List ByteArray} {nm : ByteArray} (hk : j.kind = 6) (h : rightJ upB 12 j = true) (hg : nm ∈ g) : getJ (withoutJ g j) nm = (noJ, false) := by
 unfold withoutJ
 rw [if_pos (by rw [decide_eq_true hk, h]; rfl)]
 exact getJ_none (fun hm => (mem_wnN.1 hm).2 hg)
theorem withJ_inv {j x r : Js} {nm : ByteArray} (h : withJ j nm x = .ok r) : j.kind = 6 ∧ rightJ upB 12 j = true ∧ rightJ upB 12 x = true ∧ upB nm = true ∧ ¬ 12 ≤ deepJ 13 x ∧ r = putJ j nm x := by
  unfold withJ at h
  split at h
  · rename_i h1
    split at h
    · cases h
    · rename_i h2
      have h3 := Bool.and_eq_true_iff.1 h1.1
      exact ⟨of_decide_eq_true h3.1, h3.2, h1.2.1, h1.2.2, h2, (Except.ok.inj h).symm⟩
  · cases h
theorem withJ_ne {j x : Js} {nm : ByteArray} {e : Int} (h : withJ j nm x = .error e) : e ≠ 0 := by
  unfold withJ at h
  split at h
  · split at h
    · cases h; decide
    · cases h
  · cases h; decide
def SzJ (m : Nat) : Nat → Js → Prop
 | 0, _ => False
 | n + 1, j => j.text.size ≤ m ∧ j.names.length ≤ m ∧ j.items.length ≤ m ∧ (∀ s ∈ j.names, s.size ≤ m) ∧ ∀ c ∈ j.items, SzJ m n c
theorem szT_J {m : Nat} : ∀ {n : Nat} {t : Tr}, SzT m n t ↔ SzJ m n t.er
 | 0, _ => Iff.rfl
 | n + 1, t => by
  unfold SzT SzJ
  rw [er_text, er_names, er_items, List.length_map]
  refine and_congr Iff.rfl (and_congr Iff.rfl (and_congr Iff.rfl (and_congr Iff.rfl ⟨fun h c hc => ?_, fun h c hc => szT_J.2 (h c.er (List.mem_map.2 ⟨c, hc, rfl⟩))⟩)))
  obtain ⟨t', ht', rfl⟩ := List.mem_map.1 hc
  exact szT_J.1 (h t' ht')
theorem SzJ.le {m m' : Nat} (hm : m ≤ m') : ∀ {n : Nat} {j : Js}, SzJ m n j → SzJ m' n j
 | 0, _, h => h
 | _ + 1, _, h => ⟨Nat.le_trans h.1 hm, Nat.le_trans h.2.1 hm, Nat.le_trans h.2.2.1 hm, fun s hs => Nat.le_trans (h.2.2.2.1 s hs) hm, fun c hc => (h.2.2.2.2 c hc).le hm⟩
theorem SzJ.up {m : Nat} : ∀ {n : Nat} {j : Js}, SzJ m n j → SzJ m (n + 1) j
 | 0, _, h => h.elim
 | _ + 1, _, h => ⟨h.1, h.2.1, h.2.2.1, h.2.2.2.1, fun c hc => (h.2.2.2.2 c hc).up⟩
theorem put_sz {n m : Nat} {j x : Js} {nm : ByteArray} (h : SzJ m (n + 1) j) (hx : SzJ m (n + 1) x) (hn : nm.size ≤ m) : SzJ (m + 1) (n + 2) (putJ j nm x) := by
  have hle := lbT_le nm j.names
  unfold putJ
  split
  · exact ⟨Nat.zero_le _, Nat.le_succ_of_le h.2.1, by show (j.items.set _ _).length ≤ _; rw [List.length_set]; exact Nat.le_succ_of_le h.2.2.1, fun s hs => Nat.le_succ_of_le (h.2.2.2.1 s hs), fun c hc => by
      rcases List.mem_or_eq_of_mem_set hc with h_ | h_
      · exact ((h.2.2.2.2 c h_).le (Nat.le_succ _)).up
      · rw [h_]; exact hx.le (Nat.le_succ _)⟩
  · refine ⟨Nat.zero_le _, ?_, ?_, fun s hs => ?_, fun c hc => ?_⟩
    · show (insA _ _ _).length ≤ _; rw [insA_len hle]; exact Nat.succ_le_succ h.2.1
    · show (insA _ _ _).length ≤ _
      have : (insA (lbT nm j.names) x j.items).length ≤ j.items.length + 1 := by
        unfold insA
        rw [List.length_append, List.length_append, List.length_take, List.length_drop, List.length_singleton]; omega
      have := h.2.2.1
      omega
    · rcases mem_insA.1 hs with h_ | h_
      · rw [h_]; exact Nat.le_succ_of_le hn
      · exact Nat.le_succ_of_le (h.2.2.2.1 s h_)
    · rcases mem_insA.1 hc with h_ | h_
      · rw [h_]; exact hx.le (Nat.le_succ _)
      · exact ((h.2.2.2.2 c h_).le (Nat.le_succ _)).up
theorem without_sz {n m : Nat} {j : Js} {g : List ByteArray} (h : SzJ m (n + 1) j) : SzJ m (n + 1) (withoutJ g j) := by
  unfold withoutJ
  split
  · refine ⟨Nat.zero_le _, Nat.le_trans (wnN_le _ _) h.2.1, ?_, fun s hs => h.2.2.2.1 s (mem_wnN.1 hs).1, fun c hc => h.2.2.2.2 c (mem_wnT hc)⟩
    show (wnT g j.names j.items).length ≤ m
    unfold wnT
    rw [List.length_map]
    exact Nat.le_trans (List.length_filter_le _ _) (by rw [List.length_zip]; have := h.2.2.1; omega)
  · exact h
theorem getE_v (n : Nat) (t : Tr) (nm : ByteArray) (x : Js) (b : Bool) (w : World) (L : List Nat) (hL : LL L w) (ht : RdT (n + 1) L w t) (hg : getJ t.er nm = (x, b)) : CV Try.prog 17 [.agg #[.int .i64 t.kind, .int .i64 t.num, .string t.text, t.nv, t.iv], .string nm] w fun v W => ∃ a, v = .tuple #[.agg #[.int .i64 a.kind, .int .i64 a.num, .string a.text, a.nv, a.iv], .bool b] ∧ a.er = x ∧ RdT (n + 1) L W a :=
 (jGet_v n t nm w L hL ht).mono fun v W hb h => by
  subst h
  have e := (getT_er t nm).trans hg
  simp only [Prod.mk.injEq] at e
  exact ⟨(getT t nm).1, by rw [e.2]; rfl, e.1, (getT_rd ht _).below hb⟩
theorem rightE_v (n : Nat) (t : Tr) (b : Bool) (w : World) (L : List Nat) (hL : LL L w) (ht : RdT (n + 1) L w t) (hz : SzT 1000000 (n + 1) t) (h : rightJ upB 12 t.er = b) : CV Try.prog 15 [.agg #[.int .i64 t.kind, .int .i64 t.num, .string t.text, t.nv, t.iv]] w fun v W => v = .bool b := by
 have e := jRight_v n t w L hL ht hz
 rw [h] at e
 exact e
theorem alikeE_v (n : Nat) (a b : Tr) (w : World) (L : List Nat) (hL : LL L w) (h1 : RdT (n + 1) L w a) (h2 : RdT (n + 1) L w b) (h : a.er = b.er) : CV Try.prog 14 [.agg #[.int .i64 a.kind, .int .i64 a.num, .string a.text, a.nv, a.iv], .agg #[.int .i64 b.kind, .int .i64 b.num, .string b.text, b.nv, b.iv]] w fun v W => v = .bool true := by
 have e := alike_v n a b w L hL h1 h2
 rw [eqJ_t h] at e
 exact e
theorem withK_v (n : Nat) (p q : Tr) (name : ByteArray) (j : Js) (w : World) (L : List Nat) (hL : LL L w) (h1 : RdT (n + 1) L w p) (h2 : RdT (n + 1) L w q) (z1 : SzT 1000000 (n + 1) p) (z2 : SzT 1000000 (n + 1) q) (z3 : name.size ≤ 1000000) (h : withJ p.er name q.er = .ok j) : CV Try.prog 24 [.agg #[.int .i64 p.kind, .int .i64 p.num, .string p.text, p.nv, p.iv], .string name, .agg #[.int .i64 q.kind, .int .i64 q.num, .string q.text, q.nv, q.iv]] w fun v W => ∃ t, v = .tuple #[.agg #[.int .i64 t.kind, .int .i64 t.num, .string t.text, t.nv, t.iv], .int .i64 0] ∧ t.er = j ∧ RdT (n + 1 + 1) L W t :=
  (jWith_v n p q name w L hL h1 h2 z1 z2 z3).mono fun v W _ k => by
    rcases k with ⟨t, e1, e2, e3⟩ | ⟨e, _, _, e2⟩
    · rw [h] at e2; exact ⟨t, e1, (Except.ok.inj e2).symm, e3⟩
    · rw [h] at e2; cases e2
theorem withX_v (n : Nat) (p q : Tr) (name : ByteArray) (c : Int) (w : World) (L : List Nat) (hL : LL L w) (h1 : RdT (n + 1) L w p) (h2 : RdT (n + 1) L w q) (z1 : SzT 1000000 (n + 1) p) (z2 : SzT 1000000 (n + 1) q) (z3 : name.size ≤ 1000000) (h : withJ p.er name q.er = .error c) : CV Try.prog 24 [.agg #[.int .i64 p.kind, .int .i64 p.num, .string p.text, p.nv, p.iv], .string name, .agg #[.int .i64 q.kind, .int .i64 q.num, .string q.text, q.nv, q.iv]] w fun v W => v = .tuple #[.agg #[.int .i64 0, .int .i64 0, .string ⟨#[]⟩, .slice none 0 0, .slice none 0 0], .int .i64 c] :=
  (jWith_v n p q name w L hL h1 h2 z1 z2 z3).mono fun v W _ k => by
    rcases k with ⟨t, e1, e2, e3⟩ | ⟨e, e1, _, e2⟩
    · rw [h] at e2; cases e2
    · rw [h] at e2; rw [Except.error.inj e2]; exact e1
end Go.Proofs.Ytpinidlfcifeeaa
