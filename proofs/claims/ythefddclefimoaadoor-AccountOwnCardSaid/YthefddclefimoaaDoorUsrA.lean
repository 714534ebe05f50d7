/- Lists of users. -/
import Derived.Test.YthefddclefimoaaDoorPlnA
import Derived.Test.YthefddclefimoaaDoorSlcI
import Derived.Test.YthefddclefimoaaDoorIdsB
import Derived.Test.YthefddclefimoaaDoorLs
namespace Go.Proofs.YthefddclefimoaaDoor
open Go.RowKit
set_option linter.unusedVariables false
set_option linter.unusedSimpArgs false
set_option maxRecDepth 8000

/-- The library's variable, and that no block of one's own is its. -/
def MaxL (L : List Nat) (w : World) : Prop := MaxC w ∧ 0 ∉ L
theorem MaxC.lt {w : World} (h : MaxC w) : 0 < w.heap.size := by
  obtain ⟨m, h⟩ := h
  exact World.block_lt_of_cell? w _ h
theorem MaxL.below {L : List Nat} {w w' : World} (h : MaxL L w) (hb : Below w.heap.size w w') : MaxL L w' := ⟨h.1.below hb, h.2⟩
theorem MaxL.more {L : List Nat} {w w' : World} (h : MaxL L w) (hb : Below w.heap.size w w') {B : Nat} (hB : w.heap.size ≤ B) : MaxL (B :: L) w' := ⟨h.1.below hb, fun hx => by
  have := h.1.lt
  rcases List.mem_cons.1 hx with e | e
  · omega
  · exact h.2 e⟩
theorem MaxC.at {w w' : World} (h : MaxC w) (he : w'.heap[0]? = w.heap[0]?) : MaxC w' := by
  obtain ⟨m, h⟩ := h
  exact ⟨m, by unfold World.cell? at h ⊢; simp only [he]; exact h⟩
theorem MaxL.only {L : List Nat} {w w' : World} (h : MaxL L w) {B : Nat} (ho : Only B w w') (hB : B ∈ L) : MaxL L w' := ⟨h.1.at (ho.block 0 (fun e => h.2 (e ▸ hB))), h.2⟩
theorem MaxL.grow' {L : List Nat} {B B' : Nat} {w w' : World} (h : MaxL L w) (hg : GrowB B B' w w') (hB : B ∈ L) : MaxL (B' :: L) w' := ⟨h.1.at (hg.block 0 h.1.lt (fun e => h.2 (e ▸ hB))), fun hx => by
  have := h.1.lt
  rcases List.mem_cons.1 hx with e | e
  · rcases hg.new with n | n
    · exact h.2 (by rw [e, n]; exact hB)
    · omega
  · exact h.2 e⟩
theorem MaxL.less {L L' : List Nat} {w : World} (h : MaxL L w) (hl : ∀ x, x ∈ L' → x ∈ L) : MaxL L' w := ⟨h.1, fun hx => h.2 (hl _ hx)⟩
theorem MaxL.nil {L : List Nat} {w : World} (h : MaxL L w) : MaxL [] w := ⟨h.1, by simp⟩
/-- A user: token, name, what was agreed to. -/
abbrev UserX := ByteArray × ByteArray × Value × List ByteArray
def encT (s : ByteArray) : List Value := [.string s]
def encU (p : UserX) : List Value := [.string p.1, .string p.2.1, p.2.2.1]
theorem oc_T (p : ByteArray) : ∀ u ∈ encT p, u.oneCell' = true := oc_cons rfl oc_nil
/-- What the users agreed to reads as it says. -/
def AgU (L : List Nat) (w : World) (xs : List UserX) : Prop := ∀ u ∈ xs, RdF 1 L w u.2.2.1 (u.2.2.2.map encT)
theorem AgU.below {L : List Nat} {w w' : World} {xs : List UserX} (h : AgU L w xs) (hb : Below w.heap.size w w') : AgU L w' xs := fun u hu => (h u hu).below hb
theorem AgU.more {L : List Nat} {w w' : World} {xs : List UserX} (h : AgU L w xs) (hb : Below w.heap.size w w') {B : Nat} (hB : w.heap.size ≤ B) : AgU (B :: L) w' xs := fun u hu => (h u hu).more hb hB
theorem AgU.only {L : List Nat} {w w' : World} {xs : List UserX} (h : AgU L w xs) {B : Nat} (ho : Only B w w') (hB : B ∈ L) : AgU L w' xs := fun u hu => (h u hu).only ho hB
theorem AgU.grow' {L : List Nat} {B B' : Nat} {w w' : World} {xs : List UserX} (h : AgU L w xs) (hg : GrowB B B' w w') (hB : B ∈ L) : AgU (B' :: L) w' xs := fun u hu => (h u hu).grow' hg hB
theorem AgU.less {L L' : List Nat} {w : World} {xs : List UserX} (h : AgU L w xs) (hl : ∀ x, x ∈ L' → x ∈ L) : AgU L' w xs := fun u hu => (h u hu).less hl
theorem AgU.sub {L : List Nat} {w : World} {xs ys : List UserX} (h : AgU L w xs) (hl : ∀ x, x ∈ ys → x ∈ xs) : AgU L w ys := fun u hu => h u (hl u hu)
theorem AgU.one {L : List Nat} {w : World} {xs : List UserX} (h : AgU L w xs) {i : Nat} {r : UserX} (hr : xs[i]? = some r) : r.2.2.1.oneCell' = true := (h r (List.mem_of_getElem? hr)).one
theorem AgU.oc {L : List Nat} {w : World} {xs : List UserX} (h : AgU L w xs) : ∀ r ∈ xs.map encU, ∀ u ∈ r, u.oneCell' = true := fun r hr => by
  obtain ⟨x, hx, rfl⟩ := List.mem_map.1 hr
  exact oc_cons rfl (oc_cons rfl (oc_cons (h x hx).one oc_nil))
abbrev userB (s : ByteArray) : Bool := userL (sb s)
set_option maxHeartbeats 1000000 in
theorem namedBig_v (s : ByteArray) (w : World) (L : List Nat) (hL : LL L w)   (h : 255 < s.size) : CV Tryd.prog 49 [.string s, .int .u8 64, .int .i64 200, .func (.func 50) #[] #[]] w fun v W => v = .bool false := by
  refine cv_enter (N := 41) (f := [(0, .string s), (1, .int .u8 64), (2, .int .i64 200), (3, .func (.func 50) #[] #[])]) Tryd.func49 rfl rfl rfl rfl fun Q hQ hE => ?_
  have hB := Below.refl w.heap.size w
  refine WC.seq fun K1 hK1 => ?_
  refine WC.region ?_
  refine WL.val (dx_assign rfl rfl) rfl rfl ?_
  refine WL.nil ?_
  refine hK1 ?_
  refine WC.seq fun K2 hK2 => ?_
  refine WC.seq fun K3 hK3 => ?_
  refine WC.region ?_
  refine WL.val (dx_move rfl rfl) rfl rfl ?_
  refine WL.val (dx_lenT rfl Tryd.underlying9 rfl) rfl rfl ?_
  refine WL.val (dx_gtr rfl rfl rfl) rfl rfl ?_
  refine WL.val (dx_move rfl rfl) rfl rfl ?_
  refine WL.split 15 rfl (fun g4 => ?_) (fun g4 => ?_)
  ·
    replace g4 := of_decide_eq_true g4
    refine WL.off rfl rfl rfl ?_
    refine WL.off rfl rfl rfl ?_
    refine WL.off rfl rfl rfl ?_
    refine WL.val (dx_pick rfl rfl rfl) rfl rfl ?_
    refine WL.val (dx_move rfl rfl) rfl rfl ?_
    refine WL.off rfl rfl rfl ?_
    refine WL.off rfl rfl rfl ?_
    refine WL.off rfl rfl rfl ?_
    refine WL.off rfl rfl rfl ?_
    refine WL.val (dx_pick rfl rfl rfl) rfl rfl ?_
    refine WL.nil ?_
    refine hK3 ?_
    refine WC.condT rfl ?_
    refine WC.seq fun K5 hK5 => ?_
    refine WC.region ?_
    refine WL.val (dx_assign rfl rfl) rfl rfl ?_
    refine WL.nil ?_
    refine hK5 ?_
    refine WC.ret fun a_ ha_ => ?_
    exact hQ (cv_ret1 rfl (.tmp rfl) rfl hB ha_)
  ·
    replace g4 := of_decide_eq_false g4
    exfalso; omega

set_option maxHeartbeats 1000000 in
theorem userBig_v (s : ByteArray) (w : World) (L : List Nat) (hL : LL L w)   (h : 255 < s.size) : CV Tryd.prog 29 [.string s] w fun v W => v = .bool false := by
  refine cv_enter (N := 5) (f := [(0, .string s)]) Tryd.func29 rfl rfl rfl rfl fun Q hQ hE => ?_
  have hB := Below.refl w.heap.size w
  refine WC.seq fun K1 hK1 => ?_
  refine WC.region ?_
  refine WL.val (dx_assign rfl rfl) rfl rfl ?_
  refine WL.nil ?_
  refine hK1 ?_
  refine WC.seq fun K2 hK2 => ?_
  refine WC.region ?_
  refine WL.val (dx_move rfl rfl) rfl rfl ?_
  refine WL.get (dx_cv rfl Tryd.func49 rfl rfl rfl (namedBig_v s w [] (LL.nil _) h)) rfl rfl ?_
  rintro _ W4 ⟨rfl, b3⟩
  replace hB := below_then hB b3
  replace hL := LL.below hL b3
  refine WL.val (dx_assign rfl rfl) rfl rfl ?_
  refine WL.nil ?_
  refine hK2 ?_
  refine WC.ret fun a_ ha_ => ?_
  exact hQ (cv_ret1 rfl (.tmp rfl) rfl hB ha_)

theorem user_v (s : ByteArray) (w : World) (hm : MaxC w) : CV Tryd.prog 29 [.string s] w fun v W => v = .bool (userB s) := by
  by_cases h : 255 < s.size
  · have e : userB s = false := by
      have hl := sb_length s
      unfold userB
      rw [userL, namedL, decide_eq_false (by omega)]
      rfl
    rw [e]
    exact userBig_v s w [] (LL.nil _) h
  · exact (user_any s w hm (by omega)).mono fun e w' ⟨h1, h2⟩ => ⟨_, h1, rfl, h2⟩
abbrev risingB (ts : List ByteArray) : Bool := rightL 4 wordB sless ts
set_option maxHeartbeats 1000000 in
theorem rising_v (ts : List ByteArray) (tv : Value) (w : World) (L : List Nat) (hL : LL L w) (h3 : RdF 1 L w tv (ts.map encT)) : CV Tryd.prog 48 [tv] w fun v W => v = .bool (risingB ts) := by
  refine cv_enter (N := 32) (f := [(0, tv)]) Tryd.func48 rfl rfl rfl rfl fun Q hQ hE => ?_
  have hB := Below.refl w.heap.size w
  have h3m : ts.length ≤ maxLen := by have := h3.len; rwa [List.length_map] at this
  unfold maxLen at h3m
  refine WC.seq fun K1 hK1 => ?_
  refine WC.region ?_
  refine WL.val (dx_assign rfl rfl) rfl rfl ?_
  refine WL.nil ?_
  refine hK1 ?_
  refine WC.seq fun K2 hK2 => ?_
  refine WC.seq fun K3 hK3 => ?_
  refine WC.region ?_
  refine WL.val (dx_move rfl rfl) rfl rfl ?_
  refine WL.val (dx_lenX rfl ty_slice_55 rfl h3) rfl rfl ?_
  refine WL.val (dx_gtr rfl rfl rfl) rfl rfl ?_
  refine WL.nil ?_
  refine hK3 ?_
  refine WC.cond rfl (fun c4 => ?_) (fun c4 => ?_)
  ·
    replace c4 := of_decide_eq_true c4
    refine WC.seq fun K5 hK5 => ?_
    refine WC.region ?_
    refine WL.val (dx_assign rfl rfl) rfl rfl ?_
    refine WL.nil ?_
    refine hK5 ?_
    refine WC.ret fun a_ ha_ => ?_
    exact hQ (cv_ret1 rfl (.tmp rfl) (by rw [show risingB ts = false from right_f1 (by omega)]) hB ha_)
  ·
    replace c4 := of_decide_eq_false c4
    refine WC.skip ?_
    refine hK2 ?_
    refine WC.seq fun K6 hK6 => ?_
    refine WC.seq fun K7 hK7 => ?_
    refine WC.region ?_
    refine WL.val (dx_move rfl rfl) rfl rfl ?_
    refine WL.val (dx_lenX rfl ty_slice_55 rfl h3) rfl rfl ?_
    refine WL.val (dx_move rfl rfl) rfl rfl ?_
    refine WL.nil ?_
    refine hK7 ?_
    refine WC.block ?_
    refine WC.loop (fun (i : Nat) => [(0, tv), (8, tv), (9, .int .i64 (ts.length : Int)), (10, .int .i64 (i : Int))]) (fun (i : Nat) W => i ≤ ts.length ∧ (∀ k a, k < i → ts[k]? = some a → wordB a = true) ∧ (∀ k a b, k + 1 < i → ts[k]? = some a → ts[k + 1]? = some b → (sless) a b = true) ∧ Below w.heap.size w W ∧ LL (L) W ∧ RdF 1 (L) W tv (ts.map encT)) (fun (i : Nat) => ts.length - i) 0 (by repeat first | exact trivial | exact And.intro rfl trivial | refine And.intro rfl ?_ | refine And.intro (congrArg (fun z : Int => some (Value.int .i64 z)) (by omega)) ?_) ⟨Nat.zero_le _, (fun k a hk => by omega), (fun k a b hk => by omega), hB, hL, h3⟩ ?_
    clear h3 hB hL
    rintro K8 i W9 ⟨hi, hv, hu, hB, hL, h3⟩ hK8
    refine WC.seq fun K10 hK10 => ?_
    refine WC.region ?_
    refine WL.val (dx_lss rfl rfl rfl) rfl rfl ?_
    refine WL.nil ?_
    refine hK10 ?_
    refine WC.seq fun K11 hK11 => ?_
    refine WC.cond rfl (fun c12 => ?_) (fun c12 => ?_)
    ·
      replace c12 := of_decide_eq_true c12
      refine WC.skip ?_
      refine hK11 ?_
      refine WC.seq fun K13 hK13 => ?_
      refine WC.block ?_
      refine WC.seq fun K14 hK14 => ?_
      refine WC.region ?_
      refine WL.val (dx_move rfl rfl) rfl rfl ?_
      obtain ⟨r15, e16⟩ : ∃ x, ts[i]? = some x := ⟨_, List.getElem?_eq_getElem (by omega)⟩
      refine WL.get (dx_idxF i rfl ty_slice_55 rfl rfl h3 (by omega) (at_mapX e16)) rfl rfl ?_
      rintro u17 _ ⟨rfl, p18⟩
      refine WL.val (dx_loadP rfl ty_one_9 rfl p18) rfl rfl ?_
      refine WL.val (dx_assign rfl rfl) rfl rfl ?_
      refine WL.val (dx_assign rfl rfl) rfl rfl ?_
      refine WL.nil ?_
      refine hK14 ?_
      refine WC.seq fun K19 hK19 => ?_
      refine WC.region ?_
      refine WL.val (dx_move rfl rfl) rfl rfl ?_
      refine WL.get (dx_cv rfl Tryd.func22 rfl rfl rfl (word_v r15 W9 [] (LL.nil _))) rfl rfl ?_
      rintro _ W21 ⟨rfl, b20⟩
      replace h3 := h3.below b20
      replace hB := below_then hB b20
      replace hL := LL.below hL b20
      refine WL.val (dx_not rfl rfl) rfl rfl ?_
      refine WL.val (dx_move rfl rfl) rfl rfl ?_
      refine WL.split 18 rfl (fun g22 => ?_) (fun g22 => ?_)
      ·
        replace g22 := bnot_t g22
        refine WL.off rfl rfl rfl ?_
        refine WL.off rfl rfl rfl ?_
        refine WL.off rfl rfl rfl ?_
        refine WL.off rfl rfl rfl ?_
        refine WL.off rfl rfl rfl ?_
        refine WL.off rfl rfl rfl ?_
        refine WL.off rfl rfl rfl ?_
        refine WL.off rfl rfl rfl ?_
        refine WL.off rfl rfl rfl ?_
        refine WL.off rfl rfl rfl ?_
        refine WL.off rfl rfl rfl ?_
        refine WL.val (dx_pick rfl rfl rfl) rfl rfl ?_
        refine WL.nil ?_
        refine hK19 ?_
        refine WC.condT rfl ?_
        refine WC.seq fun K23 hK23 => ?_
        refine WC.region ?_
        refine WL.val (dx_assign rfl rfl) rfl rfl ?_
        refine WL.nil ?_
        refine hK23 ?_
        refine WC.ret fun a_ ha_ => ?_
        exact hQ (cv_ret1 rfl (.tmp rfl) (by rw [show risingB ts = false from right_f2 e16 (by simp [*])]) hB ha_)
      ·
        replace g22 := bnot_f g22
        refine WL.val (dx_move rfl rfl) rfl rfl ?_
        refine WL.val (dx_gtr rfl rfl rfl) rfl rfl ?_
        refine WL.val (dx_move rfl rfl) rfl rfl ?_
        refine WL.split 21 rfl (fun g24 => ?_) (fun g24 => ?_)
        ·
          replace g24 := of_decide_eq_true g24
          refine WL.val (dx_move rfl rfl) rfl rfl ?_
          refine WL.val (dx_move rfl rfl) rfl rfl ?_
          refine WL.val (dx_sub (r := (i : Int) - 1) rfl rfl rfl (wrap64_id (by omega))) rfl rfl ?_
          obtain ⟨r25, e26⟩ : ∃ x, ts[(i - 1)]? = some x := ⟨_, List.getElem?_eq_getElem (by omega)⟩
          refine WL.get (dx_idxF (i - 1) rfl ty_slice_55 rfl rfl h3 (by omega) (at_mapX e26)) rfl rfl ?_
          rintro u27 _ ⟨rfl, p28⟩
          refine WL.val (dx_loadP rfl ty_one_9 rfl p28) rfl rfl ?_
          refine WL.val (dx_move rfl rfl) rfl rfl ?_
          refine WL.val (dx_geqT rfl rfl rfl) rfl rfl ?_
          refine WL.val (dx_pick rfl rfl rfl) rfl rfl ?_
          refine WL.val (dx_pick rfl rfl rfl) rfl rfl ?_
          refine WL.nil ?_
          refine hK19 ?_
          refine WC.cond rfl (fun c29 => ?_) (fun c29 => ?_)
          ·
            replace c29 := bnot_t c29
            refine WC.seq fun K30 hK30 => ?_
            refine WC.region ?_
            refine WL.val (dx_assign rfl rfl) rfl rfl ?_
            refine WL.nil ?_
            refine hK30 ?_
            refine WC.ret fun a_ ha_ => ?_
            exact hQ (cv_ret1 rfl (.tmp rfl) (by rw [show risingB ts = false from right_f3 e26 e16 (by omega) (by simp [*])]) hB ha_)
          ·
            replace c29 := bnot_f c29
            refine WC.skip ?_
            refine hK13 ?_
            refine WC.region ?_
            refine WL.val (dx_add (r := (i : Int) + 1) rfl rfl rfl (wrap64_id (by omega))) rfl rfl ?_
            refine WL.val (dx_move rfl rfl) rfl rfl ?_
            refine WL.nil ?_
            exact hK8 (i + 1) ⟨(by omega), (good_step hv e16 (by assumption)), (up_step hu e26 e16 (by omega) (by first | assumption | simp [*])), hB, hL, h3⟩ (by omega) (by repeat first | exact trivial | exact And.intro rfl trivial | refine And.intro rfl ?_ | refine And.intro (congrArg (fun z : Int => some (Value.int .i64 z)) (by omega)) ?_)
        ·
          replace g24 := of_decide_eq_false g24
          refine WL.off rfl rfl rfl ?_
          refine WL.off rfl rfl rfl ?_
          refine WL.off rfl rfl rfl ?_
          refine WL.off rfl rfl rfl ?_
          refine WL.off rfl rfl rfl ?_
          refine WL.off rfl rfl rfl ?_
          refine WL.off rfl rfl rfl ?_
          refine WL.val (dx_pick rfl rfl rfl) rfl rfl ?_
          refine WL.val (dx_pick rfl rfl rfl) rfl rfl ?_
          refine WL.nil ?_
          refine hK19 ?_
          refine WC.condF rfl ?_
          refine WC.skip ?_
          refine hK13 ?_
          refine WC.region ?_
          refine WL.val (dx_add (r := (i : Int) + 1) rfl rfl rfl (wrap64_id (by omega))) rfl rfl ?_
          refine WL.val (dx_move rfl rfl) rfl rfl ?_
          refine WL.nil ?_
          exact hK8 (i + 1) ⟨(by omega), (good_step hv e16 (by assumption)), (up_step0 (by omega)), hB, hL, h3⟩ (by omega) (by repeat first | exact trivial | exact And.intro rfl trivial | refine And.intro rfl ?_ | refine And.intro (congrArg (fun z : Int => some (Value.int .i64 z)) (by omega)) ?_)
    ·
      replace c12 := of_decide_eq_false c12
      refine WC.exit ?_
      refine hK6 ?_
      refine WC.seq fun K31 hK31 => ?_
      refine WC.region ?_
      refine WL.val (dx_assign rfl rfl) rfl rfl ?_
      refine WL.nil ?_
      refine hK31 ?_
      refine WC.ret fun a_ ha_ => ?_
      exact hQ (cv_ret1 rfl (.tmp rfl) (by rw [show risingB ts = true from right_t (by omega) (fun k a hk => hv k a (by omega)) (fun k a b hk => hu k a b (by omega))]) hB ha_)

def goodU (u : UserX) : Bool := wordB u.1 && (userB u.2.1 && risingB u.2.2.2)
abbrev rightU (xs : List UserX) : Bool := rightL 16 goodU (fun a b => sless a.1 b.1) xs
set_option maxHeartbeats 1000000 in
theorem rightU_v (xs : List UserX) (sv : Value) (w : World) (L : List Nat) (hL : LL L w) (h1 : RdF 3 L w sv (xs.map encU)) (h2 : AgU L w xs) (hM : MaxL L w) : CV Tryd.prog 28 [sv] w fun v W => v = .bool (rightU xs) := by
  refine cv_enter (N := 47) (f := [(0, sv)]) Tryd.func28 rfl rfl rfl rfl fun Q hQ hE => ?_
  have hB := Below.refl w.heap.size w
  have h1m : xs.length ≤ maxLen := by have := h1.len; rwa [List.length_map] at this
  unfold maxLen at h1m
  refine WC.seq fun K1 hK1 => ?_
  refine WC.region ?_
  refine WL.val (dx_assign rfl rfl) rfl rfl ?_
  refine WL.nil ?_
  refine hK1 ?_
  refine WC.seq fun K2 hK2 => ?_
  refine WC.seq fun K3 hK3 => ?_
  refine WC.region ?_
  refine WL.val (dx_move rfl rfl) rfl rfl ?_
  refine WL.val (dx_lenX rfl ty_slice_22 rfl h1) rfl rfl ?_
  refine WL.val (dx_gtr rfl rfl rfl) rfl rfl ?_
  refine WL.nil ?_
  refine hK3 ?_
  refine WC.cond rfl (fun c4 => ?_) (fun c4 => ?_)
  ·
    replace c4 := of_decide_eq_true c4
    refine WC.seq fun K5 hK5 => ?_
    refine WC.region ?_
    refine WL.val (dx_assign rfl rfl) rfl rfl ?_
    refine WL.nil ?_
    refine hK5 ?_
    refine WC.ret fun a_ ha_ => ?_
    exact hQ (cv_ret1 rfl (.tmp rfl) (by rw [show rightU xs = false from right_f1 (by omega)]) hB ha_)
  ·
    replace c4 := of_decide_eq_false c4
    refine WC.skip ?_
    refine hK2 ?_
    refine WC.seq fun K6 hK6 => ?_
    refine WC.seq fun K7 hK7 => ?_
    refine WC.region ?_
    refine WL.val (dx_move rfl rfl) rfl rfl ?_
    refine WL.val (dx_lenX rfl ty_slice_22 rfl h1) rfl rfl ?_
    refine WL.val (dx_move rfl rfl) rfl rfl ?_
    refine WL.nil ?_
    refine hK7 ?_
    refine WC.block ?_
    refine WC.loop (fun (i : Nat) => [(0, sv), (8, sv), (9, .int .i64 (xs.length : Int)), (10, .int .i64 (i : Int))]) (fun (i : Nat) W => i ≤ xs.length ∧ (∀ k a, k < i → xs[k]? = some a → goodU a = true) ∧ (∀ k a b, k + 1 < i → xs[k]? = some a → xs[k + 1]? = some b → (fun a b => sless a.1 b.1) a b = true) ∧ Below w.heap.size w W ∧ LL (L) W ∧ RdF 3 (L) W sv (xs.map encU) ∧ AgU (L) W xs ∧ MaxL (L) W) (fun (i : Nat) => xs.length - i) 0 (by repeat first | exact trivial | exact And.intro rfl trivial | refine And.intro rfl ?_ | refine And.intro (congrArg (fun z : Int => some (Value.int .i64 z)) (by omega)) ?_) ⟨Nat.zero_le _, (fun k a hk => by omega), (fun k a b hk => by omega), hB, hL, h1, h2, hM⟩ ?_
    clear h1 h2 hM hB hL
    rintro K8 i W9 ⟨hi, hv, hu, hB, hL, h1, h2, hM⟩ hK8
    refine WC.seq fun K10 hK10 => ?_
    refine WC.region ?_
    refine WL.val (dx_lss rfl rfl rfl) rfl rfl ?_
    refine WL.nil ?_
    refine hK10 ?_
    refine WC.seq fun K11 hK11 => ?_
    refine WC.cond rfl (fun c12 => ?_) (fun c12 => ?_)
    ·
      replace c12 := of_decide_eq_true c12
      refine WC.skip ?_
      refine hK11 ?_
      refine WC.seq fun K13 hK13 => ?_
      refine WC.block ?_
      refine WC.seq fun K14 hK14 => ?_
      refine WC.region ?_
      refine WL.val (dx_move rfl rfl) rfl rfl ?_
      obtain ⟨r15, e16⟩ : ∃ x, xs[i]? = some x := ⟨_, List.getElem?_eq_getElem (by omega)⟩
      refine WL.get (dx_idxF i rfl ty_slice_22 rfl rfl h1 (by omega) (at_mapX e16)) rfl rfl ?_
      rintro u17 _ ⟨rfl, p18⟩
      refine WL.val (dx_loadPN rfl ty_agg_57_3 rfl p18 rfl) rfl rfl ?_
      refine WL.get (dx_alloc rfl ty_zero_57 rfl) rfl rfl ?_
      rintro _ W19 ⟨rfl, k20, b21, z22⟩
      have l23 := hB.size
      replace h1 := h1.more b21 (Nat.le_refl _)
      replace h2 := h2.more b21 (Nat.le_refl _)
      replace hM := hM.more b21 (Nat.le_refl _)
      replace p18 := p18.more b21 (Nat.le_refl _)
      replace hB := below_then hB b21
      replace hL := LL.more hL z22
      refine WL.val (dx_assign rfl rfl) rfl rfl ?_
      refine WL.do (dx_store (cs' := [.string r15.1, .string r15.2.1, r15.2.2.1]) (vs := [.string r15.1, .string r15.2.1, r15.2.2.1]) rfl ty_size_57_3 rfl rfl rfl (oc_cons rfl (oc_cons rfl (oc_cons (h2.one e16) oc_nil))) k20 rfl (Nat.le_of_ble_eq_true rfl) rfl) rfl ?_
      rintro _ W24 ⟨k26, o25⟩
      clear k20
      replace h1 := h1.only o25 (.head _)
      replace h2 := h2.only o25 (.head _)
      replace hM := hM.only o25 (.head _)
      replace p18 := p18.only o25 (.head _)
      replace hB := o25.below hB l23
      replace hL := LL.only hL o25
      refine WL.nil ?_
      refine hK14 ?_
      refine WC.seq fun K27 hK27 => ?_
      obtain ⟨b28, hb28⟩ : ∃ b, b = (!(wordB r15.1)) := ⟨_, rfl⟩
      obtain ⟨b29, hb29⟩ : ∃ b, b = (b28 || (!(userB r15.2.1))) := ⟨_, rfl⟩
      obtain ⟨b30, hb30⟩ : ∃ b, b = (b29 || (!(risingB r15.2.2.2))) := ⟨_, rfl⟩
      obtain ⟨b31, hb31⟩ : ∃ b, b = ((!b30) && (decide (0 < (i : Int)))) := ⟨_, rfl⟩
      obtain ⟨r32, e33⟩ : ∃ x, xs[(i - 1)]? = some x := ⟨_, List.getElem?_eq_getElem (by omega)⟩
      refine WC.drawM 31 [(some 15, .is (.pointer (some ⟨W9.heap.size, 0, none⟩))), (some 16, .is (.string r15.1)), (some 17, .is (.bool (wordB r15.1))), (some 18, .is (.bool (!(wordB r15.1)))), (some 19, .is (.bool b28)), (some 20, .is (bif b28 then undef else .pointer (some ⟨W9.heap.size, 1, none⟩))), (some 21, .is (bif b28 then undef else .string r15.2.1)), (some 22, .is (bif b28 then undef else .bool (userB r15.2.1))), (some 23, .is (bif b28 then undef else .bool (!(userB r15.2.1)))), (some 24, .is (.bool (b28 || (!(userB r15.2.1))))), (some 25, .is (.bool b29)), (some 26, .is (bif b29 then undef else .pointer (some ⟨W9.heap.size, 2, none⟩))), (some 27, .is (bif b29 then undef else r15.2.2.1)), (some 28, .is (bif b29 then undef else .bool (risingB r15.2.2.2))), (some 29, .is (bif b29 then undef else .bool (!(risingB r15.2.2.2)))), (some 30, .is (.bool (b29 || (!(risingB r15.2.2.2))))), (some 31, .is (.bool b30)), (some 32, .is (bif b30 then undef else .int .i64 (i : Int))), (some 33, .is (bif b30 then undef else .bool (decide (0 < (i : Int))))), (some 34, .is (bif b30 then undef else .bool b31)), (some 35, .is (bif b31 then sv else undef)), (some 36, .is (bif b31 then .int .i64 (i : Int) else undef)), (some 37, .is (bif b31 then .int .i64 ((i : Int) - 1) else undef)), (some 38, .by fun u W => b31 = true → PtR (W9.heap.size :: L) W u [.string r32.1, .string r32.2.1, r32.2.2.1]), (some 39, .by fun u W => b31 = true → PtR (W9.heap.size :: L) W u [.string r32.1]), (some 40, .is (bif b31 then .string r32.1 else undef)), (some 41, .is (bif b31 then .pointer (some ⟨W9.heap.size, 0, none⟩) else undef)), (some 42, .is (bif b31 then .string r15.1 else undef)), (some 43, .is (bif b31 then .bool (!(sless r32.1 r15.1)) else undef)), (some 44, .is (bif b30 then undef else .bool (b31 && (!(sless r32.1 r15.1))))), (some 45, .is (.bool (b30 || (b31 && (!(sless r32.1 r15.1))))))] [[], [0], [1], [2], [3, 2], [4], [5, 4], [6, 4, 4], [7, 4], [4, 8], [9, 7], [10], [11, 10], [12, 10, 10], [13, 10], [10, 14], [15, 13], [16], [17, 16], [18, 16, 16], [19], [19], [21, 19], [20, 22, 19], [23, 19], [24, 19], [19], [26, 19], [25, 27, 19], [19, 28, 16], [16, 29]] (by kernel_rfl) (by kernel_rfl) (by kernel_rfl) (by kernel_rfl) (by kernel_rfl) (by kernel_rfl) (by kernel_rfl) ⟨fun _ _ _ hb h g => (h g).below hb, fun _ _ _ hb h g => (h g).below hb, trivial⟩ ?_ ?_
      ·
        refine DSteps.cons (fun Wd hd => ?_) ?_
        ·
          exact DV.dr (dx_fld (o1 := 0) rfl ty_fld_57_0_0 rfl rfl) ⟨Below.refl _ _, rfl⟩
        refine DSteps.cons (fun Wd hd => ?_) ?_
        ·
          have k26 := k26.below hd
          exact DV.dr (dx_load rfl ty_one_9 rfl (k26.cell (k := 0) rfl)) ⟨Below.refl _ _, rfl⟩
        refine DSteps.cons (fun Wd hd => ?_) ?_
        ·
          exact DR.mono (dx_cv rfl Tryd.func22 rfl rfl rfl (word_v r15.1 Wd [] (LL.nil _))) (fun v W' ⟨h, hb⟩ => ⟨hb, (by rw [h]; exact rfl)⟩)
        refine DSteps.cons (fun Wd hd => ?_) ?_
        ·
          exact DV.dr (dx_not rfl rfl) ⟨Below.refl _ _, rfl⟩
        refine DSteps.cons (fun Wd hd => ?_) ?_
        ·
          exact DV.dr (dx_move rfl rfl) ⟨Below.refl _ _, by rw [hb28]; rfl⟩
        refine DSteps.cons (fun Wd hd => ?_) ?_
        ·
          cases b28
          ·
            exact DV.dr (dx_fld (o1 := 1) rfl ty_fld_57_1_1 rfl rfl) ⟨Below.refl _ _, rfl⟩
          ·
            exact DV.dr (dv_off rfl) ⟨Below.refl _ _, rfl⟩
        refine DSteps.cons (fun Wd hd => ?_) ?_
        ·
          cases b28
          ·
            have k26 := k26.below hd
            exact DV.dr (dx_load rfl ty_one_9 rfl (k26.cell (k := 1) rfl)) ⟨Below.refl _ _, rfl⟩
          ·
            exact DV.dr (dv_off rfl) ⟨Below.refl _ _, rfl⟩
        refine DSteps.cons (fun Wd hd => ?_) ?_
        ·
          cases b28
          ·
            have hM := hM.below hd
            exact DR.mono (dx_cv rfl Tryd.func29 rfl rfl rfl (user_v r15.2.1 Wd hM.1)) (fun v W' ⟨h, hb⟩ => ⟨hb, (by rw [h]; exact rfl)⟩)
          ·
            exact DV.dr (dv_off rfl) ⟨Below.refl _ _, rfl⟩
        refine DSteps.cons (fun Wd hd => ?_) ?_
        ·
          cases b28
          ·
            exact DV.dr (dx_not rfl rfl) ⟨Below.refl _ _, rfl⟩
          ·
            exact DV.dr (dv_off rfl) ⟨Below.refl _ _, rfl⟩
        refine DSteps.cons (fun Wd hd => ?_) ?_
        ·
          cases b28
          ·
            exact DV.dr (dx_pick rfl rfl rfl) ⟨Below.refl _ _, rfl⟩
          ·
            exact DV.dr (dx_pick rfl rfl rfl) ⟨Below.refl _ _, rfl⟩
        refine DSteps.cons (fun Wd hd => ?_) ?_
        ·
          exact DV.dr (dx_move rfl rfl) ⟨Below.refl _ _, by rw [hb29]; rfl⟩
        refine DSteps.cons (fun Wd hd => ?_) ?_
        ·
          cases b29
          ·
            exact DV.dr (dx_fld (o1 := 2) rfl ty_fld_57_2_2 rfl rfl) ⟨Below.refl _ _, rfl⟩
          ·
            exact DV.dr (dv_off rfl) ⟨Below.refl _ _, rfl⟩
        refine DSteps.cons (fun Wd hd => ?_) ?_
        ·
          cases b29
          ·
            have k26 := k26.below hd
            exact DV.dr (dx_load rfl ty_one_55 rfl (k26.cell (k := 2) rfl)) ⟨Below.refl _ _, rfl⟩
          ·
            exact DV.dr (dv_off rfl) ⟨Below.refl _ _, rfl⟩
        refine DSteps.cons (fun Wd hd => ?_) ?_
        ·
          cases b29
          ·
            have h2 := h2.below hd
            exact DR.mono (dx_cv rfl Tryd.func48 rfl rfl rfl (rising_v r15.2.2.2 _ Wd [] (LL.nil _) ((h2 r15 (List.mem_of_getElem? e16)).less (by simp)))) (fun v W' ⟨h, hb⟩ => ⟨hb, (by rw [h]; exact rfl)⟩)
          ·
            exact DV.dr (dv_off rfl) ⟨Below.refl _ _, rfl⟩
        refine DSteps.cons (fun Wd hd => ?_) ?_
        ·
          cases b29
          ·
            exact DV.dr (dx_not rfl rfl) ⟨Below.refl _ _, rfl⟩
          ·
            exact DV.dr (dv_off rfl) ⟨Below.refl _ _, rfl⟩
        refine DSteps.cons (fun Wd hd => ?_) ?_
        ·
          cases b29
          ·
            exact DV.dr (dx_pick rfl rfl rfl) ⟨Below.refl _ _, rfl⟩
          ·
            exact DV.dr (dx_pick rfl rfl rfl) ⟨Below.refl _ _, rfl⟩
        refine DSteps.cons (fun Wd hd => ?_) ?_
        ·
          exact DV.dr (dx_move rfl rfl) ⟨Below.refl _ _, by rw [hb30]; rfl⟩
        refine DSteps.cons (fun Wd hd => ?_) ?_
        ·
          cases b30
          ·
            exact DV.dr (dx_move rfl rfl) ⟨Below.refl _ _, rfl⟩
          ·
            exact DV.dr (dv_off rfl) ⟨Below.refl _ _, rfl⟩
        refine DSteps.cons (fun Wd hd => ?_) ?_
        ·
          cases b30
          ·
            exact DV.dr (dx_gtr rfl rfl rfl) ⟨Below.refl _ _, rfl⟩
          ·
            exact DV.dr (dv_off rfl) ⟨Below.refl _ _, rfl⟩
        refine DSteps.cons (fun Wd hd => ?_) ?_
        ·
          cases b30
          ·
            exact DV.dr (dx_move rfl rfl) ⟨Below.refl _ _, by rw [hb31]; rfl⟩
          ·
            exact DV.dr (dv_off rfl) ⟨Below.refl _ _, by rw [hb31]; rfl⟩
        refine DSteps.cons (fun Wd hd => ?_) ?_
        ·
          cases b30
          ·
            cases b31
            ·
              exact DV.dr (dv_off rfl) ⟨Below.refl _ _, rfl⟩
            ·
              exact DV.dr (dx_move rfl rfl) ⟨Below.refl _ _, rfl⟩
          ·
            cases b31
            ·
              exact DV.dr (dv_off rfl) ⟨Below.refl _ _, rfl⟩
            ·
              exact absurd hb31 (by simp)
        refine DSteps.cons (fun Wd hd => ?_) ?_
        ·
          cases b30
          ·
            cases b31
            ·
              exact DV.dr (dv_off rfl) ⟨Below.refl _ _, rfl⟩
            ·
              exact DV.dr (dx_move rfl rfl) ⟨Below.refl _ _, rfl⟩
          ·
            cases b31
            ·
              exact DV.dr (dv_off rfl) ⟨Below.refl _ _, rfl⟩
            ·
              exact absurd hb31 (by simp)
        refine DSteps.cons (fun Wd hd => ?_) ?_
        ·
          cases b30
          ·
            cases b31
            ·
              exact DV.dr (dv_off rfl) ⟨Below.refl _ _, rfl⟩
            ·
              exact DV.dr (dx_sub (r := (i : Int) - 1) rfl rfl rfl (wrap64_id (by omega))) ⟨Below.refl _ _, rfl⟩
          ·
            cases b31
            ·
              exact DV.dr (dv_off rfl) ⟨Below.refl _ _, rfl⟩
            ·
              exact absurd hb31 (by simp)
        refine DSteps.cons (fun Wd hd => ?_) ?_
        ·
          cases b30
          ·
            cases b31
            ·
              exact DV.dr (dv_off rfl) ⟨Below.refl _ _, fun h => by cases h⟩
            ·
              have h1 := h1.below hd
              exact (dx_idxF (i - 1) rfl ty_slice_22 rfl rfl h1 (by first | omega | (have hq_ := of_decide_eq_true hb31.symm; omega)) (at_mapX e33)).mono (fun v W' h => ⟨by rw [← h.1]; exact Below.refl _ _, fun _ => by rw [← h.1]; exact h.2⟩)
          ·
            cases b31
            ·
              exact DV.dr (dv_off rfl) ⟨Below.refl _ _, fun h => by cases h⟩
            ·
              exact absurd hb31 (by simp)
        refine DSteps.cons (fun Wd hd => ?_) ?_
        ·
          intro u6_23 p6_23
          cases b30
          ·
            cases b31
            ·
              exact DV.dr (dv_off rfl) ⟨Below.refl _ _, fun h => by cases h⟩
            ·
              replace p6_23 := p6_23 rfl
              exact (dx_fldP 1 rfl ty_fld_57_0_0 rfl p6_23 (cs' := [.string r32.1]) rfl (Nat.succ_pos _)).mono (fun v W' h => ⟨by rw [← h.1]; exact Below.refl _ _, fun _ => by rw [← h.1]; exact h.2⟩)
          ·
            cases b31
            ·
              exact DV.dr (dv_off rfl) ⟨Below.refl _ _, fun h => by cases h⟩
            ·
              replace p6_23 := p6_23 rfl
              exact absurd hb31 (by simp)
        refine DSteps.cons (fun Wd hd => ?_) ?_
        ·
          intro u6_24 p6_24
          cases b30
          ·
            cases b31
            ·
              exact DV.dr (dv_off rfl) ⟨Below.refl _ _, rfl⟩
            ·
              replace p6_24 := p6_24 rfl
              exact DV.dr (dx_loadP rfl ty_one_9 rfl p6_24) ⟨Below.refl _ _, rfl⟩
          ·
            cases b31
            ·
              exact DV.dr (dv_off rfl) ⟨Below.refl _ _, rfl⟩
            ·
              replace p6_24 := p6_24 rfl
              exact absurd hb31 (by simp)
        refine DSteps.cons (fun Wd hd => ?_) ?_
        ·
          cases b30
          ·
            cases b31
            ·
              exact DV.dr (dv_off rfl) ⟨Below.refl _ _, rfl⟩
            ·
              exact DV.dr (dx_fld (o1 := 0) rfl ty_fld_57_0_0 rfl rfl) ⟨Below.refl _ _, rfl⟩
          ·
            cases b31
            ·
              exact DV.dr (dv_off rfl) ⟨Below.refl _ _, rfl⟩
            ·
              exact absurd hb31 (by simp)
        refine DSteps.cons (fun Wd hd => ?_) ?_
        ·
          cases b30
          ·
            cases b31
            ·
              exact DV.dr (dv_off rfl) ⟨Below.refl _ _, rfl⟩
            ·
              have k26 := k26.below hd
              exact DV.dr (dx_load rfl ty_one_9 rfl (k26.cell (k := 0) rfl)) ⟨Below.refl _ _, rfl⟩
          ·
            cases b31
            ·
              exact DV.dr (dv_off rfl) ⟨Below.refl _ _, rfl⟩
            ·
              exact absurd hb31 (by simp)
        refine DSteps.cons (fun Wd hd => ?_) ?_
        ·
          cases b30
          ·
            cases b31
            ·
              exact DV.dr (dv_off rfl) ⟨Below.refl _ _, rfl⟩
            ·
              exact DV.dr (dx_geqT rfl rfl rfl) ⟨Below.refl _ _, rfl⟩
          ·
            cases b31
            ·
              exact DV.dr (dv_off rfl) ⟨Below.refl _ _, rfl⟩
            ·
              exact absurd hb31 (by simp)
        refine DSteps.cons (fun Wd hd => ?_) ?_
        ·
          cases b30
          ·
            cases b31
            ·
              exact DV.dr (dx_pick rfl rfl rfl) ⟨Below.refl _ _, rfl⟩
            ·
              exact DV.dr (dx_pick rfl rfl rfl) ⟨Below.refl _ _, rfl⟩
          ·
            cases b31
            ·
              exact DV.dr (dv_off rfl) ⟨Below.refl _ _, rfl⟩
            ·
              exact absurd hb31 (by simp)
        refine DSteps.cons (fun Wd hd => ?_) ?_
        ·
          cases b30
          ·
            exact DV.dr (dx_pick rfl rfl rfl) ⟨Below.refl _ _, rfl⟩
          ·
            exact DV.dr (dx_pick rfl rfl rfl) ⟨Below.refl _ _, rfl⟩
        exact trivial
      ·
        intro W34 b35
        intro _ _
        intro _ _
        replace h1 := h1.below b35
        replace h2 := h2.below b35
        replace hM := hM.below b35
        replace k26 := k26.below b35
        replace hB := below_then hB b35
        replace hL := LL.below hL b35
        refine WL.nil ?_
        refine hK27 ?_
        refine WC.cond rfl (fun c36 => ?_) (fun c36 => ?_)
        ·
          refine WC.seq fun K37 hK37 => ?_
          refine WC.region ?_
          refine WL.val (dx_assign rfl rfl) rfl rfl ?_
          refine WL.nil ?_
          refine hK37 ?_
          refine WC.ret fun a_ ha_ => ?_
          exact hQ (cv_ret1 rfl (.tmp rfl) (by rw [show rightU xs = false from right_fD (g := goodU) (r := (fun a b => sless a.1 b.1)) e33 e16 (not3 hb28 hb29 hb30) hb31 c36]) hB ha_)
        ·
          obtain ⟨g38, g39⟩ := bor_f c36
          refine WC.skip ?_
          refine hK13 ?_
          refine WC.region ?_
          refine WL.val (dx_add (r := (i : Int) + 1) rfl rfl rfl (wrap64_id (by omega))) rfl rfl ?_
          refine WL.val (dx_move rfl rfl) rfl rfl ?_
          refine WL.nil ?_
          obtain ⟨hv', hu'⟩ := stepD (g := goodU) (r := (fun a b => sless a.1 b.1)) hv hu e33 e16 (not3 hb28 hb29 hb30) hb31 g38 g39
          replace hL := hL.less (fun x hx => (.tail _ hx))
          replace h1 := h1.less (fun x hx => (.tail _ hx))
          replace h2 := h2.less (fun x hx => (.tail _ hx))
          replace hM := hM.less (fun x hx => (.tail _ hx))
          exact hK8 (i + 1) ⟨(by omega), hv', hu', hB, hL, h1, h2, hM⟩ (by omega) (by repeat first | exact trivial | exact And.intro rfl trivial | refine And.intro rfl ?_ | refine And.intro (congrArg (fun z : Int => some (Value.int .i64 z)) (by omega)) ?_)
    ·
      replace c12 := of_decide_eq_false c12
      refine WC.exit ?_
      refine hK6 ?_
      refine WC.seq fun K40 hK40 => ?_
      refine WC.region ?_
      refine WL.val (dx_assign rfl rfl) rfl rfl ?_
      refine WL.nil ?_
      refine hK40 ?_
      refine WC.ret fun a_ ha_ => ?_
      exact hQ (cv_ret1 rfl (.tmp rfl) (by rw [show rightU xs = true from right_t (by omega) (fun k a hk => hv k a (by omega)) (fun k a b hk => hu k a b (by omega))]) hB ha_)

end Go.Proofs.YthefddclefimoaaDoor
