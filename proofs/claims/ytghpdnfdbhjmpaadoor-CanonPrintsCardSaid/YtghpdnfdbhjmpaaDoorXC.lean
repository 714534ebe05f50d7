/- The cursor: blanks, word, digits. Encode of both packages. What stands behind a backslash. The bytes of an escape. A text between its quotes. Plain wo -/
import Derived.Laws.BytesString
import Derived.Test.YtghpdnfdbhjmpaaDoorXB
namespace Go.Proofs.YtghpdnfdbhjmpaaDoor
open Go.RowKit
set_option linter.unusedVariables false
set_option linter.unusedSimpArgs false
set_option maxRecDepth 8000
set_option maxHeartbeats 2000000

set_option maxHeartbeats 1000000 in
theorem blanks_v  (s : ByteArray) (P ka dp : Nat) (w : World) (L : List Nat) (hL : LL L w) (hPL : P ∈ L) (hs : s.size ≤ 1000000) (hk : ka ≤ s.size) (hp : Blk w P (psC s ka dp))   : CW Tryd.prog 32 [.pointer (some ⟨P, 0, none⟩)] w P fun v W => Blk W P (psC s (blankS s ka) dp) := by
 refine cw_enter (N := 16) (f := [(0, .pointer (some ⟨P, 0, none⟩))]) Tryd.func32 rfl rfl rfl rfl fun Q hQ hE => ?_
 have hB := Chg.refl P w
 have hL0 := hL
 refine WC.block ?_
 refine WC.loop (fun (kb : Nat) => [(0, .pointer (some ⟨P, 0, none⟩))]) (fun (kb : Nat) W => kb ≤ s.size ∧ blankS s ka = blankS s kb ∧ Chg P w W ∧ LL (L) W ∧ Blk W P [.string s, .int .i64 (kb : Int), .int .i64 (dp : Int)]) (fun (kb : Nat) => s.size - kb) ka (by repeat first | exact trivial | exact And.intro rfl trivial | refine And.intro rfl ?_ | refine And.intro (congrArg (fun z : Int => some (Value.int .i64 z)) (by omega)) ?_) ⟨hk, rfl, hB, hL, hp⟩ ?_
 clear hp hB hL
 rintro K1 kb W2 ⟨hkb, hv, hB, hL, hp⟩ hK1
 refine Sq fun K3 hK3 => (Sq fun K4 hK4 => (Rg (Pu rfl ?_)))
 refine Ge (dx_cw rfl Tryd.func47 rfl rfl rfl (take_v 32 s P kb dp W2 _ hL hPL hs (by omega) hp)) rfl rfl ?_
 rintro _ W9 ⟨⟨k5, rfl, hk6, hk7, hp10⟩, g8⟩
 replace hB := Chg.both hB g8
 replace hL := hL.chg g8
 cases hT11 : takeS s kb 32 with
 | false =>
  rw [hT11] at hk6
  replace hk6 : kb = k5 := Eq.symm hk6
  subst hk6
  refine Pu rfl (Pu rfl ?_)
  refine Ge (dx_cw rfl Tryd.func47 rfl rfl rfl (take_v 9 s P kb dp W9 _ hL hPL hs (by omega) hp10)) rfl rfl ?_
  rintro _ W16 ⟨⟨k12, rfl, hk13, hk14, hp17⟩, g15⟩
  replace hB := Chg.both hB g15
  replace hL := hL.chg g15
  cases hT18 : takeS s kb 9 with
  | false =>
   rw [hT18] at hk13
   replace hk13 : kb = k12 := Eq.symm hk13
   subst hk13
   refine Pu rfl (Pu rfl (Pu rfl ?_))
   refine Ge (dx_cw rfl Tryd.func47 rfl rfl rfl (take_v 10 s P kb dp W16 _ hL hPL hs (by omega) hp17)) rfl rfl ?_
   rintro _ W23 ⟨⟨k19, rfl, hk20, hk21, hp24⟩, g22⟩
   replace hB := Chg.both hB g22
   replace hL := hL.chg g22
   cases hT25 : takeS s kb 10 with
   | false =>
    rw [hT25] at hk20
    replace hk20 : kb = k19 := Eq.symm hk20
    subst hk20
    refine Pu rfl (Pu rfl (Pu rfl ?_))
    refine Ge (dx_cw rfl Tryd.func47 rfl rfl rfl (take_v 13 s P kb dp W23 _ hL hPL hs (by omega) hp24)) rfl rfl ?_
    rintro _ W30 ⟨⟨k26, rfl, hk27, hk28, hp31⟩, g29⟩
    replace hB := Chg.both hB g29
    replace hL := hL.chg g29
    cases hT32 : takeS s kb 13 with
    | false =>
     rw [hT32] at hk27
     replace hk27 : kb = k26 := Eq.symm hk27
     subst hk27
     refine Pu rfl (Ni (hK4 (WC.condF rfl ?_)))
     refine WC.exit ?_
     intro a_ ha_
     exact hE (cw_ret0 rfl  (by have e : blankS s ka = kb := (by rw [hv]; exact blank_stop (fun ⟨h1, h2⟩ => by unfold isBlank at h2; have q1 := take_f ‹takeS s kb 32 = false› h1; have q2 := take_f ‹takeS s kb 9 = false› h1; have q3 := take_f ‹takeS s kb 10 = false› h1; have q4 := take_f ‹takeS s kb 13 = false› h1; simp_all)); rw [e]; exact hp31) hB ha_)
    | true =>
     rw [hT32] at hk27
     have hthT32 := take_t hT32
     replace hk27 : k26 = kb + 1 := hk27
     refine Pu rfl (Ni (hK4 (WC.condT rfl (WC.skip (hK3 (WC.block (WC.skip ?_)))))))
     have hkk : k26 = kb + 1 := by omega
     subst hkk
     exact hK1 (kb + 1) ⟨(by omega), (hv.trans (blank_go hthT32.1 (by rw [hthT32.2]; decide))), hB, hL, hp31⟩ (by omega) (by repeat first | exact trivial | exact And.intro rfl trivial | refine And.intro rfl ?_ | refine And.intro (congrArg (fun z : Int => some (Value.int .i64 z)) (by omega)) ?_)
   | true =>
    rw [hT25] at hk20
    have hthT25 := take_t hT25
    replace hk20 : k19 = kb + 1 := hk20
    refine Pu rfl (Pu rfl (Of rfl (Of rfl (Pu rfl (Ni (hK4 (WC.condT rfl ?_)))))))
    refine WC.skip (hK3 (WC.block (WC.skip ?_)))
    have hkk : k19 = kb + 1 := by omega
    subst hkk
    exact hK1 (kb + 1) ⟨(by omega), (hv.trans (blank_go hthT25.1 (by rw [hthT25.2]; decide))), hB, hL, hp24⟩ (by omega) (by repeat first | exact trivial | exact And.intro rfl trivial | refine And.intro rfl ?_ | refine And.intro (congrArg (fun z : Int => some (Value.int .i64 z)) (by omega)) ?_)
  | true =>
   rw [hT18] at hk13
   have hthT18 := take_t hT18
   replace hk13 : k12 = kb + 1 := hk13
   refine Pu rfl (Pu rfl (Of rfl (Of rfl (Pu rfl (Pu rfl (Of rfl (Of rfl ?_)))))))
   refine Pu rfl (Ni (hK4 (WC.condT rfl (WC.skip (hK3 (WC.block (WC.skip ?_)))))))
   have hkk : k12 = kb + 1 := by omega
   subst hkk
   exact hK1 (kb + 1) ⟨(by omega), (hv.trans (blank_go hthT18.1 (by rw [hthT18.2]; decide))), hB, hL, hp17⟩ (by omega) (by repeat first | exact trivial | exact And.intro rfl trivial | refine And.intro rfl ?_ | refine And.intro (congrArg (fun z : Int => some (Value.int .i64 z)) (by omega)) ?_)
 | true =>
  rw [hT11] at hk6
  have hthT11 := take_t hT11
  replace hk6 : k5 = kb + 1 := hk6
  refine Pu rfl (Of rfl (Of rfl (Pu rfl (Pu rfl (Of rfl (Of rfl (Pu rfl ?_)))))))
  refine Pu rfl (Of rfl (Of rfl (Pu rfl (Ni (hK4 (WC.condT rfl (WC.skip ?_)))))))
  refine hK3 (WC.block (WC.skip ?_))
  have hkk : k5 = kb + 1 := by omega
  subst hkk
  exact hK1 (kb + 1) ⟨(by omega), (hv.trans (blank_go hthT11.1 (by rw [hthT11.2]; decide))), hB, hL, hp10⟩ (by omega) (by repeat first | exact trivial | exact And.intro rfl trivial | refine And.intro rfl ?_ | refine And.intro (congrArg (fun z : Int => some (Value.int .i64 z)) (by omega)) ?_)

theorem word_t {s wd : ByteArray} {k : Nat} (h : ∀ i, i < wd.size → takeS s (k + i) (atS wd i) = true) : wordS s wd k = true := List.all_eq_true.2 fun i hi => h i (List.mem_range.1 hi)
theorem word_f {s wd : ByteArray} {k i : Nat} (hi : i < wd.size) (h : takeS s (k + i) (atS wd i) = false) : wordS s wd k = false := List.all_eq_false.2 ⟨i, List.mem_range.2 hi, by rw [h]; decide⟩
set_option maxHeartbeats 1000000 in
theorem word_v (wd : ByteArray) (s : ByteArray) (P ka dp : Nat) (w : World) (L : List Nat) (hL : LL L w) (hPL : P ∈ L) (hs : s.size ≤ 1000000) (hk : ka ≤ s.size) (hp : Blk w P (psC s ka dp))  (hwd : wd.size ≤ 1000) : CW Tryd.prog 63 [.pointer (some ⟨P, 0, none⟩), .string wd] w P fun v W => ∃ k', v = .bool (wordS s wd ka) ∧ ka ≤ k' ∧ k' ≤ s.size ∧ (wordS s wd ka = true → k' = ka + wd.size) ∧ Blk W P (psC s k' dp) := by
 refine cw_enter (N := 18) (f := [(0, .pointer (some ⟨P, 0, none⟩)), (1, .string wd)]) Tryd.func63 rfl rfl rfl rfl fun Q hQ hE => ?_
 have hB := Chg.refl P w
 have hL0 := hL
 refine Sq fun K1 hK1 => (Rg (Pu rfl (Ni (hK1 (Sq fun K2 hK2 => (Sq fun K3 hK3 => (Rg ?_)))))))
 refine Pu rfl (Va (dx_lenT rfl Tryd.underlying9 rfl) rfl rfl (Pu rfl (Ni (hK3 (WC.block ?_)))))
 refine WC.loop2 (fun (i : Nat) (kb : Nat) => [(0, .pointer (some ⟨P, 0, none⟩)), (1, .string wd), (7, .int .i64 (wd.size : Int)), (8, .int .i64 (i : Int))]) (fun (i : Nat) (kb : Nat) W => i ≤ wd.size ∧ kb = ka + i ∧ kb ≤ s.size ∧ (∀ j, j < i → takeS s (ka + j) (atS wd j) = true) ∧ Chg P w W ∧ LL (L) W ∧ Blk W P [.string s, .int .i64 (kb : Int), .int .i64 (dp : Int)]) (fun (i : Nat) (kb : Nat) => wd.size - i) 0 ka (by repeat first | exact trivial | exact And.intro rfl trivial | refine And.intro rfl ?_ | refine And.intro (congrArg (fun z : Int => some (Value.int .i64 z)) (by omega)) ?_) ⟨Nat.zero_le _, rfl, hk, (fun j hj => by omega), hB, hL, hp⟩ ?_
 clear hp hB hL
 rintro K4 i kb W5 ⟨hi, hki, hkb, hv, hB, hL, hp⟩ hK4
 refine Sq fun K6 hK6 => (Rg (Va (dx_lss rfl rfl rfl) rfl rfl (Ni (hK6 (Sq fun K7 hK7 => ?_)))))
 refine WC.cond rfl (fun c8 => ?_) (fun c8 => ?_)
 ·
  replace c8 := dT c8
  refine WC.skip (hK7 (Sq fun K9 hK9 => (WC.block (Sq fun K10 hK10 => (Rg (Pu rfl (Pu rfl ?_)))))))
  refine Ni (hK10 (Sq fun K11 hK11 => ?_))
  have hil : i < wd.size := by omega
  refine Rg (Pu rfl (Pu rfl (Pu rfl (Va (dx_at i rfl Tryd.underlying9 rfl rfl (by omega) (by omega)) rfl rfl ?_))))
  refine Ge (dx_cw rfl Tryd.func47 rfl rfl rfl (take_v (atS wd i) s P kb dp W5 _ hL hPL hs (by omega) hp)) rfl rfl ?_
  rintro _ W16 ⟨⟨k12, rfl, hk13, hk14, hp17⟩, g15⟩
  replace hB := Chg.both hB g15
  replace hL := hL.chg g15
  cases hT18 : takeS s kb (atS wd i) with
  | false =>
   rw [hT18] at hk13
   replace hk13 : kb = k12 := Eq.symm hk13
   subst hk13
   refine Va (dx_not rfl rfl) rfl rfl (Ni (hK11 (WC.condT rfl (Sq fun K19 hK19 => (Rg (Pu rfl (Ni ?_)))))))
   refine hK19 ?_
   exact WC.ret fun a_ ha_ => hQ (cw_ret1 rfl (.tmp rfl) (by have e : wordS s wd ka = false := word_f (i := i) (by omega) (by rw [← hki]; assumption); rw [e]; exact ⟨kb, rfl, by omega, hkb, (fun h => by cases h), hp17⟩) hB ha_)
  | true =>
   rw [hT18] at hk13
   have hthT18 := take_t hT18
   replace hk13 : k12 = kb + 1 := hk13
   refine Va (dx_not rfl rfl) rfl rfl (Ni (hK11 (WC.condF rfl (WC.skip (hK9 (Rg (Va (dx_add (r := (i : Int) + 1) rfl rfl rfl (wrap64_id (by omega))) rfl rfl ?_)))))))
   refine Pu rfl (Ni ?_)
   exact hK4 (i + 1) k12 ⟨(by omega), (by omega), (by omega), (fun j hj => by rcases Nat.lt_or_ge j i with hl | hl; exact hv j hl; obtain rfl : j = i := (by omega); rw [← hki]; exact hT18), hB, hL, hp17⟩ (by omega) (by repeat first | exact trivial | exact And.intro rfl trivial | refine And.intro rfl ?_ | refine And.intro (congrArg (fun z : Int => some (Value.int .i64 z)) (by omega)) ?_)
 ·
  replace c8 := dF c8
  refine WC.exit ?_
  refine hK2 (Sq fun K20 hK20 => (Rg (Pu rfl (Ni (hK20 ?_)))))
  exact WC.ret fun a_ ha_ => hQ (cw_ret1 rfl (.tmp rfl) (by have hie : i = wd.size := (by omega); have e : wordS s wd ka = true := word_t (fun j hj => hv j (by omega)); rw [e]; exact ⟨kb, rfl, by omega, hkb, fun _ => by omega, hp⟩) hB ha_)

set_option maxHeartbeats 1000000 in
theorem digits_v  (s : ByteArray) (P ka dp : Nat) (w : World) (L : List Nat) (hL : LL L w) (hPL : P ∈ L) (hs : s.size ≤ 1000000) (hk : ka ≤ s.size) (hp : Blk w P (psC s ka dp))   : CW Tryd.prog 64 [.pointer (some ⟨P, 0, none⟩)] w P fun v W => v = .string (s.extract ka (digS s ka)) ∧ Blk W P (psC s (digS s ka) dp) := by
 refine cw_enter (N := 52) (f := [(0, .pointer (some ⟨P, 0, none⟩))]) Tryd.func64 rfl rfl rfl rfl fun Q hQ hE => ?_
 have hB := Chg.refl P w
 have hL0 := hL
 refine Sq fun K1 hK1 => (Rg (Pu rfl (Ni (hK1 (Sq fun K2 hK2 => (Rg (Pu rfl ?_)))))))
 refine Va (dx_nilCheck rfl rfl) rfl rfl (Va (dx_fld (o1 := 1) rfl ty_fld_57_1_1 rfl rfl) rfl rfl (Va (dx_load rfl ty_one_3 rfl (hp.cell (k := 1) rfl)) rfl rfl (Pu rfl (Ni (hK2 (Sq fun K3 hK3 => (WC.block ?_)))))))
 refine WC.loop (fun (kb : Nat) => [(0, .pointer (some ⟨P, 0, none⟩)), (3, .int .i64 (ka : Int))]) (fun (kb : Nat) W => kb ≤ s.size ∧ ka ≤ kb ∧ digS s ka = digS s kb ∧ Chg P w W ∧ LL (L) W ∧ Blk W P [.string s, .int .i64 (kb : Int), .int .i64 (dp : Int)]) (fun (kb : Nat) => s.size - kb) ka (by repeat first | exact trivial | exact And.intro rfl trivial | refine And.intro rfl ?_ | refine And.intro (congrArg (fun z : Int => some (Value.int .i64 z)) (by omega)) ?_) ⟨hk, Nat.le_refl _, rfl, hB, hL, hp⟩ ?_
 clear hp hB hL
 rintro K4 kb W5 ⟨hkb, hkk, hv, hB, hL, hp⟩ hK4
 refine Sq fun K6 hK6 => (Sq fun K7 hK7 => ?_)
 obtain ⟨b8, hb8⟩ : ∃ b, b = (!(decide (s.size ≤ kb))) := ⟨_, rfl⟩
 obtain ⟨b9, hb9⟩ : ∃ b, b = (b8 && (decide (48 ≤ atS s kb))) := ⟨_, rfl⟩
 refine WC.drawM 27 [(some 8, .is (.pointer (some ⟨P, 0, none⟩))), (some 9, .is (.bool (decide (s.size ≤ kb)))), (some 10, .is (.bool (!(decide (s.size ≤ kb))))), (some 11, .is (.bool b8)), (some 12, .is (bif b8 then .pointer (some ⟨P, 0, none⟩) else undef)), (some 13, .is (bif b8 then .pointer (some ⟨P, 0, none⟩) else undef)), (some 14, .is (bif b8 then .pointer (some ⟨P, 0, none⟩) else undef)), (some 15, .is (bif b8 then .string s else undef)), (some 16, .is (bif b8 then .pointer (some ⟨P, 0, none⟩) else undef)), (some 17, .is (bif b8 then .pointer (some ⟨P, 0, none⟩) else undef)), (some 18, .is (bif b8 then .pointer (some ⟨P, 1, none⟩) else undef)), (some 19, .is (bif b8 then .int .i64 (kb : Int) else undef)), (some 20, .is (bif b8 then .int .u8 (atS s kb) else undef)), (some 21, .is (bif b8 then .bool (decide (48 ≤ atS s kb)) else undef)), (some 22, .is (.bool (b8 && (decide (48 ≤ atS s kb))))), (some 23, .is (.bool b9)), (some 24, .is (bif b9 then .pointer (some ⟨P, 0, none⟩) else undef)), (some 25, .is (bif b9 then .pointer (some ⟨P, 0, none⟩) else undef)), (some 26, .is (bif b9 then .pointer (some ⟨P, 0, none⟩) else undef)), (some 27, .is (bif b9 then .string s else undef)), (some 28, .is (bif b9 then .pointer (some ⟨P, 0, none⟩) else undef)), (some 29, .is (bif b9 then .pointer (some ⟨P, 0, none⟩) else undef)), (some 30, .is (bif b9 then .pointer (some ⟨P, 1, none⟩) else undef)), (some 31, .is (bif b9 then .int .i64 (kb : Int) else undef)), (some 32, .is (bif b9 then .int .u8 (atS s kb) else undef)), (some 33, .is (bif b9 then .bool (decide (atS s kb ≤ 57)) else undef)), (some 34, .is (.bool (b9 && (decide (atS s kb ≤ 57)))))] [[], [0], [1], [2, 1], [3], [4, 3], [5, 3], [6, 3], [3], [8, 3], [9, 3], [10, 3], [7, 11, 3], [12, 3], [3, 13], [14, 3], [15], [16, 15], [17, 15], [18, 15], [15], [20, 15], [21, 15], [22, 15], [19, 23, 15], [24, 15], [15, 25]] (by kernel_rfl) (by kernel_rfl) (by kernel_rfl) (by kernel_rfl) (by kernel_rfl) (by kernel_rfl) (by kernel_rfl) (by exact trivial) ?_ ?_
 ·
  refine Dc (fun Wd hd => ?_) ?_
  ·
   exact Dd (dx_move rfl rfl) rfl
  refine Dc (fun Wd hd => ?_) ?_
  ·
   have hp := hp.below hd
   exact DR.mono (dx_cv rfl Tryd.func34 rfl rfl rfl (ended_v s P kb dp Wd _ (LL.below hL hd) hPL hs (by omega) hp)) (fun v W' ⟨h, hb⟩ => ⟨hb, (by rw [h]; exact rfl)⟩)
  refine Dc (fun Wd hd => ?_) ?_
  ·
   exact Dd (dx_not rfl rfl) rfl
  refine Dc (fun Wd hd => ?_) ?_
  ·
   exact DV.dr (dx_move rfl rfl) ⟨Below.refl _ _, by rw [hb8]; rfl⟩
  refine Dc (fun Wd hd => ?_) ?_
  ·
   cases b8
   ·
    exact Dd (dv_off rfl) rfl
   ·
    exact Dd (dx_move rfl rfl) rfl
  refine Dc (fun Wd hd => ?_) ?_
  ·
   cases b8
   ·
    exact Dd (dv_off rfl) rfl
   ·
    exact Dd (dx_nilCheck rfl rfl) rfl
  refine Dc (fun Wd hd => ?_) ?_
  ·
   cases b8
   ·
    exact Dd (dv_off rfl) rfl
   ·
    exact Dd (dx_fld (o1 := 0) rfl ty_fld_57_0_0 rfl rfl) rfl
  refine Dc (fun Wd hd => ?_) ?_
  ·
   cases b8
   ·
    exact Dd (dv_off rfl) rfl
   ·
    have hp := hp.below hd
    exact Dd (dx_load rfl ty_one_9 rfl (hp.cell (k := 0) rfl)) rfl
  refine Dc (fun Wd hd => ?_) ?_
  ·
   cases b8
   ·
    exact Dd (dv_off rfl) rfl
   ·
    exact Dd (dx_move rfl rfl) rfl
  refine Dc (fun Wd hd => ?_) ?_
  ·
   cases b8
   ·
    exact Dd (dv_off rfl) rfl
   ·
    exact Dd (dx_nilCheck rfl rfl) rfl
  refine Dc (fun Wd hd => ?_) ?_
  ·
   cases b8
   ·
    exact Dd (dv_off rfl) rfl
   ·
    exact Dd (dx_fld (o1 := 1) rfl ty_fld_57_1_1 rfl rfl) rfl
  refine Dc (fun Wd hd => ?_) ?_
  ·
   cases b8
   ·
    exact Dd (dv_off rfl) rfl
   ·
    have hp := hp.below hd
    exact Dd (dx_load rfl ty_one_3 rfl (hp.cell (k := 1) rfl)) rfl
  refine Dc (fun Wd hd => ?_) ?_
  ·
   cases b8
   ·
    exact Dd (dv_off rfl) rfl
   ·
    exact Dd (dx_at kb rfl Tryd.underlying9 rfl rfl (by omega) (by first | omega | (have hq0 := of_decide_eq_false (bnot_t hb8.symm); omega))) rfl
  refine Dc (fun Wd hd => ?_) ?_
  ·
   cases b8
   ·
    exact Dd (dv_off rfl) rfl
   ·
    exact Dd (dx_geq rfl rfl rfl) rfl
  refine Dc (fun Wd hd => ?_) ?_
  ·
   cases b8
   ·
    exact Dd (dx_pick rfl rfl rfl) rfl
   ·
    exact Dd (dx_pick rfl rfl rfl) rfl
  refine Dc (fun Wd hd => ?_) ?_
  ·
   exact DV.dr (dx_move rfl rfl) ⟨Below.refl _ _, by rw [hb9]; rfl⟩
  refine Dc (fun Wd hd => ?_) ?_
  ·
   cases b9
   ·
    exact Dd (dv_off rfl) rfl
   ·
    exact Dd (dx_move rfl rfl) rfl
  refine Dc (fun Wd hd => ?_) ?_
  ·
   cases b9
   ·
    exact Dd (dv_off rfl) rfl
   ·
    exact Dd (dx_nilCheck rfl rfl) rfl
  refine Dc (fun Wd hd => ?_) ?_
  ·
   cases b9
   ·
    exact Dd (dv_off rfl) rfl
   ·
    exact Dd (dx_fld (o1 := 0) rfl ty_fld_57_0_0 rfl rfl) rfl
  refine Dc (fun Wd hd => ?_) ?_
  ·
   cases b9
   ·
    exact Dd (dv_off rfl) rfl
   ·
    have hp := hp.below hd
    exact Dd (dx_load rfl ty_one_9 rfl (hp.cell (k := 0) rfl)) rfl
  refine Dc (fun Wd hd => ?_) ?_
  ·
   cases b9
   ·
    exact Dd (dv_off rfl) rfl
   ·
    exact Dd (dx_move rfl rfl) rfl
  refine Dc (fun Wd hd => ?_) ?_
  ·
   cases b9
   ·
    exact Dd (dv_off rfl) rfl
   ·
    exact Dd (dx_nilCheck rfl rfl) rfl
  refine Dc (fun Wd hd => ?_) ?_
  ·
   cases b9
   ·
    exact Dd (dv_off rfl) rfl
   ·
    exact Dd (dx_fld (o1 := 1) rfl ty_fld_57_1_1 rfl rfl) rfl
  refine Dc (fun Wd hd => ?_) ?_
  ·
   cases b9
   ·
    exact Dd (dv_off rfl) rfl
   ·
    have hp := hp.below hd
    exact Dd (dx_load rfl ty_one_3 rfl (hp.cell (k := 1) rfl)) rfl
  refine Dc (fun Wd hd => ?_) ?_
  ·
   cases b9
   ·
    exact Dd (dv_off rfl) rfl
   ·
    exact Dd (dx_at kb rfl Tryd.underlying9 rfl rfl (by omega) (by first | omega | (have hq0 := of_decide_eq_false (bnot_t (hb8.symm.trans (band_t hb9.symm).1)); have hq1 := of_decide_eq_true (band_t hb9.symm).2; omega))) rfl
  refine Dc (fun Wd hd => ?_) ?_
  ·
   cases b9
   ·
    exact Dd (dv_off rfl) rfl
   ·
    exact Dd (dx_leq rfl rfl rfl) rfl
  refine Dc (fun Wd hd => ?_) ?_
  ·
   cases b9
   ·
    exact Dd (dx_pick rfl rfl rfl) rfl
   ·
    exact Dd (dx_pick rfl rfl rfl) rfl
  exact trivial
 ·
  intro W10 b11
  replace hp := hp.below b11
  replace hB := Chg.thenB hB b11
  replace hL := LL.below hL b11
  refine Ni (hK7 ?_)
  refine WC.cond rfl (fun c12 => ?_) (fun c12 => ?_)
  ·
   obtain ⟨g13, g14⟩ := band_t c12
   replace g14 := dT g14
   refine WC.skip (hK6 (WC.block ?_))
   have hlt : kb < s.size := by rcases Nat.lt_or_ge kb s.size with h_ | h_; exact h_; exfalso; have := decide_eq_true h_; simp_all
   have hdg : isDig (atS s kb) = true := by unfold isDig; cases h1_ : decide (48 ≤ atS s kb) <;> cases h2_ : decide (atS s kb ≤ 57) <;> first | rfl | (exfalso; simp_all; done) | (exfalso; simp_all; omega)
   refine Rg (Pu rfl (Va (dx_nilCheck rfl rfl) rfl rfl (Va (dx_fld (o1 := 1) rfl ty_fld_57_1_1 rfl rfl) rfl rfl (Va (dx_load rfl ty_one_3 rfl (hp.cell (k := 1) rfl)) rfl rfl (Va (dx_add (r := ((kb + 1 : Nat) : Int)) rfl rfl rfl (by rw [wrap64_id (by omega)]; omega)) rfl rfl (Va (dx_nilCheck rfl rfl) rfl rfl (Va (dx_fld (o1 := 1) rfl ty_fld_57_1_1 rfl rfl) rfl rfl ?_)))))))
   refine WL.do (dx_store (cs' := [.string s, .int .i64 ((kb + 1 : Nat) : Int), .int .i64 (dp : Int)]) (vs := [.int .i64 ((kb + 1 : Nat) : Int)]) rfl ty_size_3_1 rfl rfl rfl (oc_cons rfl oc_nil) hp rfl (Nat.le_of_ble_eq_true rfl) rfl) rfl ?_
   rintro _ W15 ⟨k17, o16⟩
   clear hp
   replace hB := Chg.only hB o16 (.inl rfl)
   replace hL := LL.only hL o16
   refine Ni ?_
   exact hK4 (kb + 1) ⟨(by omega), (by omega), (hv.trans (dig_go (by omega) hdg)), hB, hL, k17⟩ (by omega) (by repeat first | exact trivial | exact And.intro rfl trivial | refine And.intro rfl ?_ | refine And.intro (congrArg (fun z : Int => some (Value.int .i64 z)) (by omega)) ?_)
  ·
   refine WC.exit ?_
   refine hK3 (Sq fun K18 hK18 => ?_)
   refine WC.drawM 9 [(some 42, .is (.pointer (some ⟨P, 0, none⟩))), (some 43, .is (.pointer (some ⟨P, 0, none⟩))), (some 44, .is (.pointer (some ⟨P, 0, none⟩))), (some 45, .is (.string s)), (some 46, .is (.int .i64 (ka : Int))), (some 47, .is (.pointer (some ⟨P, 0, none⟩))), (some 48, .is (.pointer (some ⟨P, 0, none⟩))), (some 49, .is (.pointer (some ⟨P, 1, none⟩))), (some 50, .is (.int .i64 (kb : Int)))] [[], [0], [1], [2], [], [], [5], [6], [7]] (by kernel_rfl) (by kernel_rfl) (by kernel_rfl) (by kernel_rfl) (by kernel_rfl) (by kernel_rfl) (by kernel_rfl) (by exact trivial) ?_ ?_
   ·
    refine Dc (fun Wd hd => ?_) ?_
    ·
     exact Dd (dx_move rfl rfl) rfl
    refine Dc (fun Wd hd => ?_) ?_
    ·
     exact Dd (dx_nilCheck rfl rfl) rfl
    refine Dc (fun Wd hd => ?_) ?_
    ·
     exact Dd (dx_fld (o1 := 0) rfl ty_fld_57_0_0 rfl rfl) rfl
    refine Dc (fun Wd hd => ?_) ?_
    ·
     have hp := hp.below hd
     exact Dd (dx_load rfl ty_one_9 rfl (hp.cell (k := 0) rfl)) rfl
    refine Dc (fun Wd hd => ?_) ?_
    ·
     exact Dd (dx_move rfl rfl) rfl
    refine Dc (fun Wd hd => ?_) ?_
    ·
     exact Dd (dx_move rfl rfl) rfl
    refine Dc (fun Wd hd => ?_) ?_
    ·
     exact Dd (dx_nilCheck rfl rfl) rfl
    refine Dc (fun Wd hd => ?_) ?_
    ·
     exact Dd (dx_fld (o1 := 1) rfl ty_fld_57_1_1 rfl rfl) rfl
    refine Dc (fun Wd hd => ?_) ?_
    ·
     have hp := hp.below hd
     exact Dd (dx_load rfl ty_one_3 rfl (hp.cell (k := 1) rfl)) rfl
    exact trivial
   ·
    intro W19 b20
    replace hp := hp.below b20
    replace hB := Chg.thenB hB b20
    refine Va (dx_slTLH ka kb rfl Tryd.underlying9 rfl rfl rfl (by omega) (by omega) (by omega) (by omega)) rfl rfl (Pu rfl (Ni (hK18 ?_)))
    exact WC.ret fun a_ ha_ => hQ (cw_ret1 rfl (.tmp rfl) (by have e : digS s ka = kb := (by rw [hv]; exact dig_stop (fun ⟨h1, h2⟩ => by unfold isDig at h2; have h3 : ¬ s.size ≤ kb := (by omega); simp_all)); rw [e]; exact ⟨rfl, hp⟩) hB ha_)

def encI (r : Int) : List Int :=
 if r < 128 then [r] else if r < 2048 then [192 + r / 64, 128 + r % 64] else if r < 65536 then [224 + r / 4096, 128 + r / 64 % 64, 128 + r % 64]
 else [240 + r / 262144, 128 + r / 4096 % 64, 128 + r / 64 % 64, 128 + r % 64]
theorem encI_len (r : Int) : 1 ≤ (encI r).length ∧ (encI r).length ≤ 4 := by
 unfold encI
 split
 · simp
 split
 · simp
 split <;> simp
theorem encI_bytes {r : Int} (h0 : 0 ≤ r) (h1 : r ≤ 1114111) : Bytes (encI r) := by
 intro x hx
 unfold encI at hx
 split at hx
 · simp at hx; omega
 split at hx
 · simp at hx; omega
 split at hx <;> (simp at hx; omega)

set_option maxHeartbeats 1000000 in
theorem put1_any (v : Value) (n : Nat) (xs : List Value) (B : Nat) (r : Int) (w : World) (h1 : 0 ≤ r) (h2 : r ≤ 127) (hown : w.ownsRow B 5 1 v n xs) (hB : B ≤ w.heap.size) (hlen : n ≤ 10000000) :
  Calls Tryd.prog 87 #[v, .int .i32 r] w fun e w' => ∃ v', e = .returned v' ∧ w'.ownsRow B 5 1 v' (n + 1) (xs ++ [.int .u8 (r)]) ∧ Below B w w' := by
 obtain ⟨j0, hj, hy0, hy1, hy2⟩ := info_parts info_u8
 have hw : widthI r = 1 := by unfold widthI; omega
 have hb := Below.refl B w
 go_enter Tryd.func87, Tryd.ntmps87
 go_wp2_with (first | (go_at_call 74; refine (width_any _ _).mono ?_; rintro e w1 ⟨rfl, rfl⟩) | (at_builtin; refine wpList_append_rd rfl _ _ 42 rfl B 5 j0 (.int .u8 0) 1 Tryd.underlying42 hj hy0 hy1 hy2 rfl _ _ _ rfl (hown.alloc _) _ 1 1 [.int .u8 (r)] rfl reads_one (by simp [Value.oneCell']) (by unfold maxLen; omega) (by omega) (by have hs1 := hb.size; simp only [World.size_alloc]; omega) (by simp) ?_; intro v2 w2 hown2 hgr2 hc2; have hb2 := (hb.alloc (by have hs2 := hb.size; omega) _).trans hc2; clear hc2 hgr2))
 go_ret
 exact ⟨_, rfl, by simpa [Nat.add_assoc, List.append_assoc] using hown2, hb2⟩
set_option maxHeartbeats 1000000 in
theorem put2_any (v : Value) (n : Nat) (xs : List Value) (B : Nat) (r : Int) (w : World) (h1 : 128 ≤ r) (h2 : r ≤ 2047) (hown : w.ownsRow B 5 1 v n xs) (hB : B ≤ w.heap.size) (hlen : n ≤ 10000000) :
  Calls Tryd.prog 87 #[v, .int .i32 r] w fun e w' => ∃ v', e = .returned v' ∧ w'.ownsRow B 5 1 v' (n + 2) (xs ++ [.int .u8 (192 + r / 64), .int .u8 (128 + r % 64)]) ∧ Below B w w' := by
 obtain ⟨j0, hj, hy0, hy1, hy2⟩ := info_parts info_u8
 have hw : widthI r = 2 := by unfold widthI; omega
 have hb := Below.refl B w
 go_enter Tryd.func87, Tryd.ntmps87
 go_wp2_with (first | (go_at_call 74; refine (width_any _ _).mono ?_; rintro e w1 ⟨rfl, rfl⟩) | (at_builtin; refine wpList_append_rd rfl _ _ 42 rfl B 5 j0 (.int .u8 0) 1 Tryd.underlying42 hj hy0 hy1 hy2 rfl _ _ _ rfl (hown.alloc _) _ 1 1 [.int .u8 (192 + r / 64)] rfl reads_one (by simp [Value.oneCell']) (by unfold maxLen; omega) (by omega) (by have hs1 := hb.size; simp only [World.size_alloc]; omega) (by simp) ?_; intro v2 w2 hown2 hgr2 hc2; have hb2 := (hb.alloc (by have hs2 := hb.size; omega) _).trans hc2; clear hc2 hgr2))
 refine wp_loop_rounds 2 ?_
 rw [rounds_succ]
 go_wp2_with (at_builtin; refine wpList_append_rd rfl _ _ 42 rfl B 5 j0 (.int .u8 0) 1 Tryd.underlying42 hj hy0 hy1 hy2 rfl _ _ _ rfl (hown2.alloc _) _ 1 1 [.int .u8 (128 + r % 64)] rfl reads_one (by simp [Value.oneCell']) (by unfold maxLen; omega) (by omega) (by have hs1 := hb2.size; simp only [World.size_alloc]; omega) (by simp) ?_; intro v3 w3 hown3 hgr3 hc3; have hb3 := (hb2.alloc (by have hs2 := hb2.size; omega) _).trans hc3; clear hc3 hgr3)
 rw [rounds_succ]
 go_wp2
 go_ret
 exact ⟨_, rfl, by simpa [Nat.add_assoc, List.append_assoc] using hown3, hb3⟩
set_option maxHeartbeats 1000000 in
theorem put3_any (v : Value) (n : Nat) (xs : List Value) (B : Nat) (r : Int) (w : World) (h1 : 2048 ≤ r) (h2 : r ≤ 65535) (hown : w.ownsRow B 5 1 v n xs) (hB : B ≤ w.heap.size) (hlen : n ≤ 10000000) :
  Calls Tryd.prog 87 #[v, .int .i32 r] w fun e w' => ∃ v', e = .returned v' ∧ w'.ownsRow B 5 1 v' (n + 3) (xs ++ [.int .u8 (224 + r / 4096), .int .u8 (128 + r / 64 % 64), .int .u8 (128 + r % 64)]) ∧ Below B w w' := by
 obtain ⟨j0, hj, hy0, hy1, hy2⟩ := info_parts info_u8
 have hw : widthI r = 3 := by unfold widthI; omega
 have hb := Below.refl B w
 go_enter Tryd.func87, Tryd.ntmps87
 go_wp2_with (first | (go_at_call 74; refine (width_any _ _).mono ?_; rintro e w1 ⟨rfl, rfl⟩) | (at_builtin; refine wpList_append_rd rfl _ _ 42 rfl B 5 j0 (.int .u8 0) 1 Tryd.underlying42 hj hy0 hy1 hy2 rfl _ _ _ rfl (hown.alloc _) _ 1 1 [.int .u8 (224 + r / 4096)] rfl reads_one (by simp [Value.oneCell']) (by unfold maxLen; omega) (by omega) (by have hs1 := hb.size; simp only [World.size_alloc]; omega) (by simp) ?_; intro v2 w2 hown2 hgr2 hc2; have hb2 := (hb.alloc (by have hs2 := hb.size; omega) _).trans hc2; clear hc2 hgr2))
 refine wp_loop_rounds 3 ?_
 rw [rounds_succ]
 go_wp2_with (at_builtin; refine wpList_append_rd rfl _ _ 42 rfl B 5 j0 (.int .u8 0) 1 Tryd.underlying42 hj hy0 hy1 hy2 rfl _ _ _ rfl (hown2.alloc _) _ 1 1 [.int .u8 (128 + r / 64 % 64)] rfl reads_one (by simp [Value.oneCell']) (by unfold maxLen; omega) (by omega) (by have hs1 := hb2.size; simp only [World.size_alloc]; omega) (by simp) ?_; intro v3 w3 hown3 hgr3 hc3; have hb3 := (hb2.alloc (by have hs2 := hb2.size; omega) _).trans hc3; clear hc3 hgr3)
 rw [rounds_succ]
 go_wp2_with (at_builtin; refine wpList_append_rd rfl _ _ 42 rfl B 5 j0 (.int .u8 0) 1 Tryd.underlying42 hj hy0 hy1 hy2 rfl _ _ _ rfl (hown3.alloc _) _ 1 1 [.int .u8 (128 + r % 64)] rfl reads_one (by simp [Value.oneCell']) (by unfold maxLen; omega) (by omega) (by have hs1 := hb3.size; simp only [World.size_alloc]; omega) (by simp) ?_; intro v4 w4 hown4 hgr4 hc4; have hb4 := (hb3.alloc (by have hs2 := hb3.size; omega) _).trans hc4; clear hc4 hgr4)
 rw [rounds_succ]
 go_wp2
 go_ret
 exact ⟨_, rfl, by simpa [Nat.add_assoc, List.append_assoc] using hown4, hb4⟩
set_option maxHeartbeats 1000000 in
theorem put4_any (v : Value) (n : Nat) (xs : List Value) (B : Nat) (r : Int) (w : World) (h1 : 65536 ≤ r) (h2 : r ≤ 1114111) (hown : w.ownsRow B 5 1 v n xs) (hB : B ≤ w.heap.size) (hlen : n ≤ 10000000) :
  Calls Tryd.prog 87 #[v, .int .i32 r] w fun e w' => ∃ v', e = .returned v' ∧ w'.ownsRow B 5 1 v' (n + 4) (xs ++ [.int .u8 (240 + r / 262144), .int .u8 (128 + r / 4096 % 64), .int .u8 (128 + r / 64 % 64), .int .u8 (128 + r % 64)]) ∧ Below B w w' := by
 obtain ⟨j0, hj, hy0, hy1, hy2⟩ := info_parts info_u8
 have hw : widthI r = 4 := by unfold widthI; omega
 have hb := Below.refl B w
 go_enter Tryd.func87, Tryd.ntmps87
 go_wp2_with (first | (go_at_call 74; refine (width_any _ _).mono ?_; rintro e w1 ⟨rfl, rfl⟩) | (at_builtin; refine wpList_append_rd rfl _ _ 42 rfl B 5 j0 (.int .u8 0) 1 Tryd.underlying42 hj hy0 hy1 hy2 rfl _ _ _ rfl (hown.alloc _) _ 1 1 [.int .u8 (240 + r / 262144)] rfl reads_one (by simp [Value.oneCell']) (by unfold maxLen; omega) (by omega) (by have hs1 := hb.size; simp only [World.size_alloc]; omega) (by simp) ?_; intro v2 w2 hown2 hgr2 hc2; have hb2 := (hb.alloc (by have hs2 := hb.size; omega) _).trans hc2; clear hc2 hgr2))
 refine wp_loop_rounds 4 ?_
 rw [rounds_succ]
 go_wp2_with (at_builtin; refine wpList_append_rd rfl _ _ 42 rfl B 5 j0 (.int .u8 0) 1 Tryd.underlying42 hj hy0 hy1 hy2 rfl _ _ _ rfl (hown2.alloc _) _ 1 1 [.int .u8 (128 + r / 4096 % 64)] rfl reads_one (by simp [Value.oneCell']) (by unfold maxLen; omega) (by omega) (by have hs1 := hb2.size; simp only [World.size_alloc]; omega) (by simp) ?_; intro v3 w3 hown3 hgr3 hc3; have hb3 := (hb2.alloc (by have hs2 := hb2.size; omega) _).trans hc3; clear hc3 hgr3)
 rw [rounds_succ]
 go_wp2_with (at_builtin; refine wpList_append_rd rfl _ _ 42 rfl B 5 j0 (.int .u8 0) 1 Tryd.underlying42 hj hy0 hy1 hy2 rfl _ _ _ rfl (hown3.alloc _) _ 1 1 [.int .u8 (128 + r / 64 % 64)] rfl reads_one (by simp [Value.oneCell']) (by unfold maxLen; omega) (by omega) (by have hs1 := hb3.size; simp only [World.size_alloc]; omega) (by simp) ?_; intro v4 w4 hown4 hgr4 hc4; have hb4 := (hb3.alloc (by have hs2 := hb3.size; omega) _).trans hc4; clear hc4 hgr4)
 rw [rounds_succ]
 go_wp2_with (at_builtin; refine wpList_append_rd rfl _ _ 42 rfl B 5 j0 (.int .u8 0) 1 Tryd.underlying42 hj hy0 hy1 hy2 rfl _ _ _ rfl (hown4.alloc _) _ 1 1 [.int .u8 (128 + r % 64)] rfl reads_one (by simp [Value.oneCell']) (by unfold maxLen; omega) (by omega) (by have hs1 := hb4.size; simp only [World.size_alloc]; omega) (by simp) ?_; intro v5 w5 hown5 hgr5 hc5; have hb5 := (hb4.alloc (by have hs2 := hb4.size; omega) _).trans hc5; clear hc5 hgr5)
 rw [rounds_succ]
 go_wp2
 go_ret
 exact ⟨_, rfl, by simpa [Nat.add_assoc, List.append_assoc] using hown5, hb5⟩

theorem put_any (v : Value) (n : Nat) (xs : List Value) (B : Nat) (r : Int) (w : World) (h1 : 0 ≤ r) (h2 : r ≤ 1114111) (hown : w.ownsRow B 5 1 v n xs) (hB : B ≤ w.heap.size) (hlen : n ≤ 10000000) :
    Calls Tryd.prog 87 #[v, .int .i32 r] w fun e w' => ∃ v', e = .returned v' ∧ w'.ownsRow B 5 1 v' (n + (encI r).length) (xs ++ (encI r).map (Value.int .u8)) ∧ Below B w w' := by
  by_cases a : r ≤ 127
  · rw [show encI r = [r] by rw [encI, if_pos (by omega)]]
    exact put1_any v n xs B r w h1 a hown hB hlen
  by_cases b : r ≤ 2047
  · rw [show encI r = [192 + r / 64, 128 + r % 64] by rw [encI, if_neg (by omega), if_pos (by omega)]]
    exact put2_any v n xs B r w (by omega) b hown hB hlen
  by_cases c : r ≤ 65535
  · rw [show encI r = [224 + r / 4096, 128 + r / 64 % 64, 128 + r % 64] by rw [encI, if_neg (by omega), if_neg (by omega), if_pos (by omega)]]
    exact put3_any v n xs B r w (by omega) c hown hB hlen
  · rw [show encI r = [240 + r / 262144, 128 + r / 4096 % 64, 128 + r / 64 % 64, 128 + r % 64] by rw [encI, if_neg (by omega), if_neg (by omega), if_neg (by omega)]]
    exact put4_any v n xs B r w (by omega) h2 hown hB hlen

def encS : List Int → Option (List Int)
 | [] => some []
 | r :: t => if isRuneB r then (encS t).map (encI r ++ ·) else none

def EncPost (B : Nat) (w : World) (l : List Int) (e : Ending) (w' : World) : Prop :=
 ∃ v c, e = .returned (.tuple #[v, .int .i64 c]) ∧ Below B w w' ∧
  ((∃ bs, encS l = some bs ∧ c = 0 ∧ bs.length ≤ 4 * l.length ∧ Bytes bs ∧ w'.ownsRow B 5 1 v bs.length (bs.map (Value.int .u8))) ∨ (encS l = none ∧ c = 2 ∧ v = .slice none 0 0))

theorem encS_snoc (l : List Int) (r : Int) (bs : List Int) (h : encS l = some bs) : encS (l ++ [r]) = if isRuneB r then some (bs ++ encI r) else none := by
  induction l generalizing bs with
  | nil =>
    cases h
    simp only [List.nil_append, encS]
    split <;> simp
  | cons x t ih =>
    simp only [encS, List.cons_append] at h ⊢
    split at h
    · rename_i hx
      rw [if_pos hx]
      cases ht : encS t with
      | none => rw [ht] at h; cases h
      | some ts =>
        rw [ht] at h
        cases h
        rw [ih ts ht]
        split <;> simp
    · cases h
theorem encS_none (l t : List Int) (r : Int) (h : isRuneB r = false) : encS (l ++ r :: t) = none := by
 induction l with
 | nil => simp [encS, h]
 | cons x l ih =>
  simp only [List.cons_append, encS]
  split
  · rw [ih]; rfl
  · rfl
theorem isRune_range {r : Int} (h : isRuneB r = true) : 0 ≤ r ∧ r ≤ 1114111 := by
 simp [isRuneB] at h
 omega
theorem take_at0 (l : List Int) (k : Nat) (h : k < l.length) : l.take (k + 1) = l.take k ++ [at0 l k] := by
 rw [List.take_add_one, List.getElem?_eq_getElem h, at0_lt h]; rfl
theorem split_at0 (l : List Int) (k : Nat) (h : k < l.length) : l = l.take k ++ at0 l k :: l.drop (k + 1) := by
 rw [at0_lt h]
 simp

set_option maxHeartbeats 1000000 in
theorem encode_any (v : Value) (l : List Int) (w : World) (h : RdI .i32 w v l) (hlen : l.length ≤ 1000000) :
    Calls Tryd.prog 78 #[v] w (EncPost w.heap.size w l) := by
  obtain ⟨j0, hj, hy0, hy1, hy2⟩ := info_parts info_u8
  obtain ⟨a, ca, rfl, hla, hma, ha, -⟩ := h
  unfold maxLen at hma
  have HA := Lib.hid ha; clear ha
  go_enter Tryd.func78, Tryd.ntmps78
  go_wp2
  go_loopw [4, 9] (fun out i wr => ∃ (k : Nat) (bs : List Int), k ≤ l.length ∧ i = .int .i64 k ∧ encS (l.take k) = some bs ∧ bs.length ≤ 4 * k ∧ Bytes bs ∧ wr.ownsRow w.heap.size 5 1 out bs.length (bs.map (Value.int .u8)) ∧ Below w.heap.size w wr) (fun out i _ => l.length - (intOf i).toNat)
  case atStart => exact ⟨0, [], Nat.zero_le _, rfl, rfl, by simp, (by intro x hx; cases hx), World.ownsRow_nil _ _ _ _, Below.refl _ _⟩
  case round =>
    obtain ⟨k, bs, hk, rfl, henc, hbl, hbb, hown, hbel⟩ := hrel
    have HE := Lib.hid henc; clear henc
    by_cases hlt : k < l.length
    · obtain ⟨x, o, rfl, hc0⟩ := HA.out k hlt
      have hc := (hbel.cell (p := ⟨x, o + k, none⟩) (World.block_lt_of_cell? w _ hc0)).trans hc0
      have hdec : l = l.take k ++ at0 l k :: l.drop (k + 1) := split_at0 l k hlt
      have HD := Lib.hid hdec; clear hdec HA
      by_cases hr : isRuneB (at0 l k) = true
      · obtain ⟨q0, q1⟩ := isRune_range hr
        obtain ⟨q2, q3⟩ := encI_len (at0 l k)
        go_wp2_with (first
          | (go_at_call 73; refine (isRune_any _ _).mono ?_; rintro e w1 ⟨rfl, rfl⟩)
          | (go_at_call 87; refine (put_any _ _ _ _ _ _ q0 q1 hown (by have hs0 := hbel.size; omega) (by omega)).mono ?_; rintro e w2 ⟨v2, rfl, hown2, hb2⟩; have HB := hbel.trans hb2))
        refine ⟨⟨k + 1, bs ++ encI (at0 l k), by omega, by go_num, ?_, by simp; omega, hbb.append (encI_bytes q0 q1), by simpa using hown2, HB⟩, by simp [intOf]; omega⟩
        rw [take_at0 l k hlt, encS_snoc _ _ _ HE.out, if_pos hr]
      · have hr' : isRuneB (at0 l k) = false := by simpa using hr
        clear hr
        go_wp2_with (go_at_call 73; refine (isRune_any _ _).mono ?_; rintro e w1 ⟨rfl, rfl⟩)
        go_ret2
        refine ⟨_, _, rfl, hbel, .inr ⟨?_, rfl, rfl⟩⟩
        rw [HD.out]
        exact encS_none _ _ _ hr'
    · clear HA
      go_wp2
      go_ret2
      refine ⟨_, _, rfl, hbel, .inl ⟨bs, ?_, rfl, by omega, hbb, hown⟩⟩
      have he := HE.out
      rwa [List.take_of_length_le (by omega)] at he
def hexD (c : Int) : Int := if 48 ≤ c ∧ c ≤ 57 then c - 48 else if 97 ≤ c ∧ c ≤ 102 then c - 87 else if 65 ≤ c ∧ c ≤ 70 then c - 55 else -1
theorem hexD_le (c : Int) : -1 ≤ hexD c ∧ hexD c ≤ 15 := by
 unfold hexD
 repeat' split
 all_goals omega
def fourN (s : ByteArray) : Nat → Nat → Int → Option Int
 | 0, _, r => some r
 | n + 1, k, r => if (decide (k < s.size) && decide (0 ≤ hexD (atS s k))) = true then fourN s n (k + 1) (r * 16 + hexD (atS s k)) else none
theorem four_go {s : ByteArray} {n k : Nat} {r : Int} (h : k < s.size) (hb : 0 ≤ hexD (atS s k)) : fourN s (n + 1) k r = fourN s n (k + 1) (r * 16 + hexD (atS s k)) := by
 rw [fourN, decide_eq_true h, decide_eq_true hb]
 rfl
theorem four_stop {s : ByteArray} {n k : Nat} {r : Int} (h : ¬ (k < s.size ∧ 0 ≤ hexD (atS s k))) : fourN s (n + 1) k r = none := by
 rw [fourN, if_neg]
 intro hc
 rw [Bool.and_eq_true, decide_eq_true_eq, decide_eq_true_eq] at hc
 exact h hc
def fourS (s : ByteArray) (k : Nat) : Option Int := fourN s 4 k 0
def escR (s : ByteArray) (k : Nat) : Option (Int × Nat) :=
 match fourS s k with
 | none => none
 | some r => if r < 55296 ∨ 56319 < r then some (r, k + 4) else if (takeS s (k + 4) 92 && takeS s (k + 5) 117) = true then
   match fourS s (k + 6) with
   | none => none
   | some q => if q < 56320 ∨ 57343 < q then none else some (65536 + (r - 55296) * 1024 + (q - 56320), k + 10)
  else none
def escB (s : ByteArray) (k : Nat) : Option (List Int × Nat) :=
 if takeS s k 117 = true then
  match escR s (k + 1) with
  | none => none
  | some (r, k') => if isRuneB r = true then some (encI r, k') else none
 else if k < s.size then
  if atS s k = 34 ∨ atS s k = 92 ∨ atS s k = 47 then some ([atS s k], k + 1) else if atS s k = 98 then some ([8], k + 1) else if atS s k = 102 then some ([12], k + 1)
  else if atS s k = 110 then some ([10], k + 1) else if atS s k = 114 then some ([13], k + 1) else if atS s k = 116 then some ([9], k + 1) else none
 else none
theorem wrap32_id {x : Int} (h : -2147483648 ≤ x ∧ x ≤ 2147483647) : IntKind.i32.wrap x = x := by rw [IntKind.wrap_i32]; omega
section
variable {P : Program} {ops : Array Oper} {o : Oper} {N : Nat} {f : Fl} {w : World}
theorem dx_shl {t t' : TypeId} {x y : Operand} {K K2 : IntKind} {m n r : Int} (ho : o.op = .binOp .shl t x y t') (hx : ev f x = some (.int K m)) (hy : ev f y = some (.int K2 n)) (hn : 0 ≤ n) (hn2 : n ≤ K.bits) (hr : K.wrap (m * 2 ^ n.toNat) = r) (hw : wantF ops o f = some true := by rfl) : DV P ops o N f w (.int K r) := fun a ha =>
 Does.shl (wantF_of ha hw) ho (ha.ev hx) (ha.ev hy) hn hn2 hr ⟨rfl, rfl⟩
end
theorem Chg.thenBase {B : Nat} {w W W' : World} (h : Chg B w W) (k : Below w.heap.size W W') : Chg B w W' := ⟨k.os.trans h.os, k.tape.trans h.tape, k.output.trans h.output, Nat.le_trans h.size k.size, fun i hi hne => (k.block i hi).trans (h.block i hi hne)⟩
theorem Blk.base {w w' : World} {B n : Nat} {cs : List Value} (h : Blk w B cs) (k : Below n w w') (hB : B < n) : Blk w' B cs := by
 obtain ⟨t, ht⟩ := h
 exact ⟨t, (k.block B hB).trans ht⟩
theorem LL.base {L : List Nat} {w w' : World} {n : Nat} (h : LL L w) (k : Below n w w') : LL L w' := fun x hx => Nat.lt_of_lt_of_le (h x hx) k.size
theorem NewW.chg {s base B : Nat} {rs : List (List Value)} {u : Value} {w w' : World} (h : NewW s base rs u w) (g : Chg B w w') (hB : B < base) : NewW s base rs u w' := by
 rcases h with h | ⟨C, h1, h2⟩
 · exact .inl h
 · exact .inr ⟨C, h1, h2.chgL g (by omega)⟩
theorem NewW.of_own {s base B : Nat} {rs : List (List Value)} {u : Value} {w : World} (h : OwS s w u rs B) (hb : base ≤ B) : NewW s base rs u w := .inr ⟨B, hb, h⟩
theorem NewW.of_row {w : World} {base e n : Nat} {v : Value} {bs : List Int} (h : w.ownsRow base e 1 v n (bs.map (Value.int .u8))) : NewW 1 base (bs.map e8) v w := by
  obtain ⟨hl, h2⟩ := h
  rw [List.length_map, Nat.mul_one] at hl
  subst hl
  rcases h2 with ⟨rfl, h0⟩ | ⟨g, cap, cur, rfl, hb, hh, hn, hm, hs, ht⟩
  · exact .inl ⟨rfl, by rw [List.length_eq_zero_iff.1 h0]; rfl, by decide⟩
  · refine .inr ⟨g, hb, by decide, fun r hr => ?_, cap, cur.toList.drop bs.length, by rw [List.length_map], by rw [List.length_map]; exact hn, hm, ?_, e, ?_⟩
    · obtain ⟨x, _, rfl⟩ := List.mem_map.1 hr
      rfl
    · rw [List.length_drop, Array.length_toList, hs, List.length_map]; omega
    · rw [Nat.mul_one] at ht
      rw [show (bs.map e8).flatten = bs.map (Value.int .u8) from flat_one bs, ← ht, List.take_append_drop, hh]
theorem rdI32_of {L : List Nat} {w : World} {v : Value} {z : Int} (h : RdF 1 L w v [[.int .i32 z]]) : RdI .i32 w v [z] := by
 obtain ⟨_, _, a, cap, rfl, h2, h3, h4, h5⟩ := h
 refine ⟨a, cap, rfl, h2, h3, fun k hk => ?_, h4⟩
 obtain ⟨X, q, rfl, _, hr⟩ := h5 (by simp)
 obtain rfl : k = 0 := Nat.lt_one_iff.1 hk
 exact ⟨X, q, rfl, hr 0 (.int .i32 z) rfl⟩
theorem encode_cv (u : Value) (r : Int) (w : World) (h : RdI .i32 w u [r]) : CV Tryd.prog 78 [u] w fun v W => (∃ x, v = .tuple #[x, .int .i64 0] ∧ isRuneB r = true ∧ NewW 1 w.heap.size ((encI r).map e8) x W) ∨ (v = .tuple #[.slice none 0 0, .int .i64 2] ∧ isRuneB r = false) :=
  Calls.mono (encode_any u [r] w h (show 1 ≤ 1000000 by decide)) fun e w' h => by
    obtain ⟨v, c, rfl, hb, h⟩ := h
    refine ⟨_, rfl, ?_, hb⟩
    rcases h with ⟨bs, h1, rfl, h2, h3, h4⟩ | ⟨h1, rfl, rfl⟩
    · cases hr : isRuneB r with
      | false => rw [encS, hr] at h1; cases h1
      | true =>
        rw [encS, hr] at h1
        obtain rfl : encI r ++ [] = bs := Option.some.inj h1
        rw [List.append_nil] at h4
        exact .inl ⟨v, rfl, rfl, .of_row h4⟩
    · cases hr : isRuneB r with
      | true => rw [encS, hr] at h1; cases h1
      | false => exact .inr ⟨rfl, rfl⟩
set_option maxHeartbeats 1000000 in
theorem digit_v (c : Int) (w : World) (L : List Nat) (hL : LL L w)   (hc : 0 ≤ c ∧ c < 256) : CV Tryd.prog 99 [.int .u8 c] w fun v W => v = .int .i32 (hexD c) := by
 refine cv_enter (N := 35) (f := [(0, .int .u8 c)]) Tryd.func99 rfl rfl rfl rfl fun Q hQ hE => ?_
 have hB := Below.refl w.heap.size w
 refine Sq fun K1 hK1 => (Rg (Pu rfl (Ni (hK1 (Sq fun K2 hK2 => (WC.block (Sq fun K3 hK3 => ?_)))))))
 refine Rg (Pu rfl (Va (dx_geq rfl rfl rfl) rfl rfl (Pu rfl ?_)))
 refine WL.split 6 rfl (fun g4 => ?_) (fun g4 => ?_)
 ·
  replace g4 := dT g4
  refine Pu rfl (Va (dx_leq rfl rfl rfl) rfl rfl (Pu rfl (Pu rfl (Ni (hK3 ?_)))))
  refine WC.cond rfl (fun c5 => ?_) (fun c5 => ?_)
  ·
   replace c5 := dT c5
   refine Sq fun K6 hK6 => (Rg (Pu rfl (Va (dx_sub (r := c - 48) rfl rfl rfl (wrapu8_id (by omega))) rfl rfl (Va (dx_conv (r := c - 48) rfl Tryd.underlying5 Tryd.underlying21 rfl (wrap32_id (by omega))) rfl rfl (Pu rfl (Ni (hK6 ?_)))))))
   exact WC.ret fun a_ ha_ => hQ (cv_ret1 rfl (.tmp rfl) (by (try simp only [Bool.and_eq_false_iff, decide_eq_false_iff_not, Int.not_le] at *); congr 1; unfold hexD; repeat' split; all_goals omega) hB ha_)
  ·
   replace c5 := dF c5
   refine Sq fun K7 hK7 => (Rg (Pu rfl (Va (dx_geq rfl rfl rfl) rfl rfl (Pu rfl ?_))))
   refine WL.split 16 rfl (fun g8 => ?_) (fun g8 => ?_)
   ·
    replace g8 := dT g8
    refine Pu rfl (Va (dx_leq rfl rfl rfl) rfl rfl (Pu rfl (Pu rfl (Ni (hK7 ?_)))))
    refine WC.cond rfl (fun c9 => ?_) (fun c9 => ?_)
    ·
     replace c9 := dT c9
     refine Sq fun K10 hK10 => (Rg (Pu rfl (Va (dx_sub (r := c - 97) rfl rfl rfl (wrapu8_id (by omega))) rfl rfl (Va (dx_conv (r := c - 97) rfl Tryd.underlying5 Tryd.underlying21 rfl (wrap32_id (by omega))) rfl rfl (Va (dx_add (r := (c - 97) + 10) rfl rfl rfl (wrap32_id (by omega))) rfl rfl (Pu rfl (Ni ?_)))))))
     refine hK10 ?_
     exact WC.ret fun a_ ha_ => hQ (cv_ret1 rfl (.tmp rfl) (by (try simp only [Bool.and_eq_false_iff, decide_eq_false_iff_not, Int.not_le] at *); congr 1; unfold hexD; repeat' split; all_goals omega) hB ha_)
    ·
     replace c9 := dF c9
     refine Sq fun K11 hK11 => (Rg (Pu rfl (Va (dx_geq rfl rfl rfl) rfl rfl (Pu rfl ?_))))
     refine WL.split 27 rfl (fun g12 => ?_) (fun g12 => ?_)
     ·
      replace g12 := dT g12
      refine Pu rfl (Va (dx_leq rfl rfl rfl) rfl rfl (Pu rfl (Pu rfl (Ni (hK11 ?_)))))
      refine WC.cond rfl (fun c13 => ?_) (fun c13 => ?_)
      ·
       replace c13 := dT c13
       refine Sq fun K14 hK14 => (Rg (Pu rfl (Va (dx_sub (r := c - 65) rfl rfl rfl (wrapu8_id (by omega))) rfl rfl (Va (dx_conv (r := c - 65) rfl Tryd.underlying5 Tryd.underlying21 rfl (wrap32_id (by omega))) rfl rfl (Va (dx_add (r := (c - 65) + 10) rfl rfl rfl (wrap32_id (by omega))) rfl rfl (Pu rfl (Ni ?_)))))))
       refine hK14 ?_
       exact WC.ret fun a_ ha_ => hQ (cv_ret1 rfl (.tmp rfl) (by (try simp only [Bool.and_eq_false_iff, decide_eq_false_iff_not, Int.not_le] at *); congr 1; unfold hexD; repeat' split; all_goals omega) hB ha_)
      ·
       replace c13 := dF c13
       refine WC.skip (hK2 (Sq fun K15 hK15 => (Rg (Pu rfl (Ni (hK15 ?_))))))
       exact WC.ret fun a_ ha_ => hQ (cv_ret1 rfl (.tmp rfl) (by (try simp only [Bool.and_eq_false_iff, decide_eq_false_iff_not, Int.not_le] at *); congr 1; unfold hexD; repeat' split; all_goals omega) hB ha_)
     ·
      replace g12 := dF g12
      refine Of rfl (Of rfl (Pu rfl (Pu rfl (Ni (hK11 (WC.condF rfl (WC.skip ?_)))))))
      refine hK2 (Sq fun K16 hK16 => (Rg (Pu rfl (Ni (hK16 ?_)))))
      exact WC.ret fun a_ ha_ => hQ (cv_ret1 rfl (.tmp rfl) (by (try simp only [Bool.and_eq_false_iff, decide_eq_false_iff_not, Int.not_le] at *); congr 1; unfold hexD; repeat' split; all_goals omega) hB ha_)
   ·
    replace g8 := dF g8
    refine Of rfl (Of rfl (Pu rfl (Pu rfl (Ni (hK7 (WC.condF rfl (Sq fun K17 hK17 => ?_)))))))
    refine Rg (Pu rfl (Va (dx_geq rfl rfl rfl) rfl rfl (Pu rfl ?_)))
    refine WL.split 27 rfl (fun g18 => ?_) (fun g18 => ?_)
    ·
     replace g18 := dT g18
     refine Pu rfl (Va (dx_leq rfl rfl rfl) rfl rfl (Pu rfl (Pu rfl (Ni (hK17 ?_)))))
     refine WC.cond rfl (fun c19 => ?_) (fun c19 => ?_)
     ·
      replace c19 := dT c19
      refine Sq fun K20 hK20 => (Rg (Pu rfl (Va (dx_sub (r := c - 65) rfl rfl rfl (wrapu8_id (by omega))) rfl rfl (Va (dx_conv (r := c - 65) rfl Tryd.underlying5 Tryd.underlying21 rfl (wrap32_id (by omega))) rfl rfl (Va (dx_add (r := (c - 65) + 10) rfl rfl rfl (wrap32_id (by omega))) rfl rfl (Pu rfl (Ni ?_)))))))
      refine hK20 ?_
      exact WC.ret fun a_ ha_ => hQ (cv_ret1 rfl (.tmp rfl) (by (try simp only [Bool.and_eq_false_iff, decide_eq_false_iff_not, Int.not_le] at *); congr 1; unfold hexD; repeat' split; all_goals omega) hB ha_)
     ·
      replace c19 := dF c19
      refine WC.skip (hK2 (Sq fun K21 hK21 => (Rg (Pu rfl (Ni (hK21 ?_))))))
      exact WC.ret fun a_ ha_ => hQ (cv_ret1 rfl (.tmp rfl) (by (try simp only [Bool.and_eq_false_iff, decide_eq_false_iff_not, Int.not_le] at *); congr 1; unfold hexD; repeat' split; all_goals omega) hB ha_)
    ·
     replace g18 := dF g18
     refine Of rfl (Of rfl (Pu rfl (Pu rfl (Ni (hK17 (WC.condF rfl (WC.skip ?_)))))))
     refine hK2 (Sq fun K22 hK22 => (Rg (Pu rfl (Ni (hK22 ?_)))))
     exact WC.ret fun a_ ha_ => hQ (cv_ret1 rfl (.tmp rfl) (by (try simp only [Bool.and_eq_false_iff, decide_eq_false_iff_not, Int.not_le] at *); congr 1; unfold hexD; repeat' split; all_goals omega) hB ha_)
 ·
  replace g4 := dF g4
  refine Of rfl (Of rfl (Pu rfl (Pu rfl (Ni (hK3 (WC.condF rfl (Sq fun K23 hK23 => ?_)))))))
  refine Rg (Pu rfl (Va (dx_geq rfl rfl rfl) rfl rfl (Pu rfl ?_)))
  refine WL.split 16 rfl (fun g24 => ?_) (fun g24 => ?_)
  ·
   replace g24 := dT g24
   refine Pu rfl (Va (dx_leq rfl rfl rfl) rfl rfl (Pu rfl (Pu rfl (Ni (hK23 ?_)))))
   refine WC.cond rfl (fun c25 => ?_) (fun c25 => ?_)
   ·
    replace c25 := dT c25
    refine Sq fun K26 hK26 => (Rg (Pu rfl (Va (dx_sub (r := c - 97) rfl rfl rfl (wrapu8_id (by omega))) rfl rfl (Va (dx_conv (r := c - 97) rfl Tryd.underlying5 Tryd.underlying21 rfl (wrap32_id (by omega))) rfl rfl (Va (dx_add (r := (c - 97) + 10) rfl rfl rfl (wrap32_id (by omega))) rfl rfl (Pu rfl (Ni ?_)))))))
    refine hK26 ?_
    exact WC.ret fun a_ ha_ => hQ (cv_ret1 rfl (.tmp rfl) (by (try simp only [Bool.and_eq_false_iff, decide_eq_false_iff_not, Int.not_le] at *); congr 1; unfold hexD; repeat' split; all_goals omega) hB ha_)
   ·
    replace c25 := dF c25
    refine Sq fun K27 hK27 => (Rg (Pu rfl (Va (dx_geq rfl rfl rfl) rfl rfl (Pu rfl ?_))))
    refine WL.split 27 rfl (fun g28 => ?_) (fun g28 => ?_)
    ·
     replace g28 := dT g28
     refine Pu rfl (Va (dx_leq rfl rfl rfl) rfl rfl (Pu rfl (Pu rfl (Ni (hK27 ?_)))))
     refine WC.cond rfl (fun c29 => ?_) (fun c29 => ?_)
     ·
      replace c29 := dT c29
      refine Sq fun K30 hK30 => (Rg (Pu rfl (Va (dx_sub (r := c - 65) rfl rfl rfl (wrapu8_id (by omega))) rfl rfl (Va (dx_conv (r := c - 65) rfl Tryd.underlying5 Tryd.underlying21 rfl (wrap32_id (by omega))) rfl rfl (Va (dx_add (r := (c - 65) + 10) rfl rfl rfl (wrap32_id (by omega))) rfl rfl (Pu rfl (Ni ?_)))))))
      refine hK30 ?_
      exact WC.ret fun a_ ha_ => hQ (cv_ret1 rfl (.tmp rfl) (by (try simp only [Bool.and_eq_false_iff, decide_eq_false_iff_not, Int.not_le] at *); congr 1; unfold hexD; repeat' split; all_goals omega) hB ha_)
     ·
      replace c29 := dF c29
      refine WC.skip (hK2 (Sq fun K31 hK31 => (Rg (Pu rfl (Ni (hK31 ?_))))))
      exact WC.ret fun a_ ha_ => hQ (cv_ret1 rfl (.tmp rfl) (by (try simp only [Bool.and_eq_false_iff, decide_eq_false_iff_not, Int.not_le] at *); congr 1; unfold hexD; repeat' split; all_goals omega) hB ha_)
    ·
     replace g28 := dF g28
     refine Of rfl (Of rfl (Pu rfl (Pu rfl (Ni (hK27 (WC.condF rfl (WC.skip ?_)))))))
     refine hK2 (Sq fun K32 hK32 => (Rg (Pu rfl (Ni (hK32 ?_)))))
     exact WC.ret fun a_ ha_ => hQ (cv_ret1 rfl (.tmp rfl) (by (try simp only [Bool.and_eq_false_iff, decide_eq_false_iff_not, Int.not_le] at *); congr 1; unfold hexD; repeat' split; all_goals omega) hB ha_)
  ·
   replace g24 := dF g24
   refine Of rfl (Of rfl (Pu rfl (Pu rfl (Ni (hK23 (WC.condF rfl (Sq fun K33 hK33 => ?_)))))))
   refine Rg (Pu rfl (Va (dx_geq rfl rfl rfl) rfl rfl (Pu rfl ?_)))
   refine WL.split 27 rfl (fun g34 => ?_) (fun g34 => ?_)
   ·
    replace g34 := dT g34
    refine Pu rfl (Va (dx_leq rfl rfl rfl) rfl rfl (Pu rfl (Pu rfl (Ni (hK33 ?_)))))
    refine WC.cond rfl (fun c35 => ?_) (fun c35 => ?_)
    ·
     replace c35 := dT c35
     refine Sq fun K36 hK36 => (Rg (Pu rfl (Va (dx_sub (r := c - 65) rfl rfl rfl (wrapu8_id (by omega))) rfl rfl (Va (dx_conv (r := c - 65) rfl Tryd.underlying5 Tryd.underlying21 rfl (wrap32_id (by omega))) rfl rfl (Va (dx_add (r := (c - 65) + 10) rfl rfl rfl (wrap32_id (by omega))) rfl rfl (Pu rfl (Ni ?_)))))))
     refine hK36 ?_
     exact WC.ret fun a_ ha_ => hQ (cv_ret1 rfl (.tmp rfl) (by (try simp only [Bool.and_eq_false_iff, decide_eq_false_iff_not, Int.not_le] at *); congr 1; unfold hexD; repeat' split; all_goals omega) hB ha_)
    ·
     replace c35 := dF c35
     refine WC.skip (hK2 (Sq fun K37 hK37 => (Rg (Pu rfl (Ni (hK37 ?_))))))
     exact WC.ret fun a_ ha_ => hQ (cv_ret1 rfl (.tmp rfl) (by (try simp only [Bool.and_eq_false_iff, decide_eq_false_iff_not, Int.not_le] at *); congr 1; unfold hexD; repeat' split; all_goals omega) hB ha_)
   ·
    replace g34 := dF g34
    refine Of rfl (Of rfl (Pu rfl (Pu rfl (Ni (hK33 (WC.condF rfl (WC.skip ?_)))))))
    refine hK2 (Sq fun K38 hK38 => (Rg (Pu rfl (Ni (hK38 ?_)))))
    exact WC.ret fun a_ ha_ => hQ (cv_ret1 rfl (.tmp rfl) (by (try simp only [Bool.and_eq_false_iff, decide_eq_false_iff_not, Int.not_le] at *); congr 1; unfold hexD; repeat' split; all_goals omega) hB ha_)

theorem hexD_in {c : Int} (h : 0 ≤ hexD c) : 48 ≤ c := by
 unfold hexD at h
 repeat' split at h
 all_goals omega
theorem peek_c (s : ByteArray) (P ka dp : Nat) (w : World) (L : List Nat) (hL : LL L w) (hPL : P ∈ L) (hs : s.size ≤ 1000000) (hk : ka ≤ s.size) (hp : Blk w P (psC s ka dp)) :
  CV Tryd.prog 48 [.pointer (some ⟨P, 0, none⟩)] w fun v W => ∃ c, v = .int .u8 c ∧ 0 ≤ c ∧ c < 256 ∧ (ka < s.size → c = atS s ka) ∧ (s.size ≤ ka → c = 0) :=
 (peek_v s P ka dp w L hL hPL hs hk hp).mono fun v W _ h => ⟨_, h, by have := atS_lo s ka; split <;> omega, by have := atS_lo s ka; split <;> omega, fun h => if_pos h, fun h => if_neg (by omega)⟩
theorem or16 {x d : Int} (h0 : 0 ≤ x) (h1 : x ≤ 4095) (h2 : 0 ≤ d) (h3 : d ≤ 15) : bits .or .i32 (x * 16) d = x * 16 + d := bits_join .i32 31 (by decide) wraps_i32 4 (x * 16) d (by omega) (by omega) (by omega) h2 (by omega) (by omega)
section
variable {s : ByteArray} {k k1 k2 k3 k4 : Nat} {r q : Int}
theorem escR_n (h : fourS s k = none) : escR s k = none := by unfold escR; rw [h]
theorem escR_a (h : fourS s k = some r) (hr : r < 55296 ∨ 56319 < r) (e : k1 = k + 4) : escR s k = some (r, k1) := by unfold escR; rw [h]; dsimp only; rw [if_pos hr, e]
theorem escR_b (h : fourS s k = some r) (hr : ¬ (r < 55296 ∨ 56319 < r)) (e1 : k1 = k + 4) (t1 : takeS s k1 92 = false) : escR s k = none := by
 subst e1; unfold escR; rw [h]; dsimp only; rw [if_neg hr, t1]; rfl
theorem escR_b' (h : fourS s k = some r) (hr : ¬ (r < 55296 ∨ 56319 < r)) (e1 : k1 = k + 4) (t1 : takeS s k1 92 = true) (e2 : k2 = k1 + 1) (t2 : takeS s k2 117 = false) : escR s k = none := by
 subst e2 e1; unfold escR; rw [h]; dsimp only; rw [if_neg hr, t1, t2]; rfl
theorem escR_c (h : fourS s k = some r) (hr : ¬ (r < 55296 ∨ 56319 < r)) (e1 : k1 = k + 4) (t1 : takeS s k1 92 = true) (e2 : k2 = k1 + 1) (t2 : takeS s k2 117 = true) (e3 : k3 = k2 + 1) (h2 : fourS s k3 = none) : escR s k = none := by
 subst e3 e2 e1; unfold escR; rw [h]; dsimp only; rw [if_neg hr, t1, t2, Bool.true_and, if_pos rfl, h2]
theorem escR_d (h : fourS s k = some r) (hr : ¬ (r < 55296 ∨ 56319 < r)) (e1 : k1 = k + 4) (t1 : takeS s k1 92 = true) (e2 : k2 = k1 + 1) (t2 : takeS s k2 117 = true) (e3 : k3 = k2 + 1) (h2 : fourS s k3 = some q) (hq : q < 56320 ∨ 57343 < q) : escR s k = none := by
 subst e3 e2 e1; unfold escR; rw [h]; dsimp only; rw [if_neg hr, t1, t2, Bool.true_and, if_pos rfl, h2]; dsimp only; rw [if_pos hq]
theorem escR_e (h : fourS s k = some r) (hr : ¬ (r < 55296 ∨ 56319 < r)) (e1 : k1 = k + 4) (t1 : takeS s k1 92 = true) (e2 : k2 = k1 + 1) (t2 : takeS s k2 117 = true) (e3 : k3 = k2 + 1) (h2 : fourS s k3 = some q) (hq : ¬ (q < 56320 ∨ 57343 < q)) (e4 : k4 = k3 + 4) : escR s k = some (65536 + (r - 55296) * 1024 + (q - 56320), k4) := by
 subst e4 e3 e2 e1; unfold escR; rw [h]; dsimp only; rw [if_neg hr, t1, t2, Bool.true_and, if_pos rfl, h2]; dsimp only; rw [if_neg hq]
end
set_option maxHeartbeats 1000000 in
theorem four_v  (s : ByteArray) (P ka dp : Nat) (w : World) (L : List Nat) (hL : LL L w) (hPL : P ∈ L) (hs : s.size ≤ 1000000) (hk : ka ≤ s.size) (hp : Blk w P (psC s ka dp))   : CW Tryd.prog 86 [.pointer (some ⟨P, 0, none⟩)] w P fun v W => (∃ k' r, v = .tuple #[.int .i32 r, .bool true] ∧ fourS s ka = some r ∧ 0 ≤ r ∧ r ≤ 65535 ∧ k' = ka + 4 ∧ k' ≤ s.size ∧ Blk W P (psC s k' dp)) ∨ (∃ k', v = .tuple #[.int .i32 0, .bool false] ∧ fourS s ka = none ∧ k' ≤ s.size ∧ Blk W P (psC s k' dp)) := by
 refine cw_enter (N := 31) (f := [(0, .pointer (some ⟨P, 0, none⟩))]) Tryd.func86 rfl rfl rfl rfl fun Q hQ hE => ?_
 have hB := Chg.refl P w
 have hL0 := hL
 refine Sq fun K1 hK1 => (Rg (Pu rfl (Pu rfl (Ni (hK1 (Sq fun K2 hK2 => (Rg ?_)))))))
 refine Pu rfl (Ni (hK2 (Sq fun K3 hK3 => (Sq fun K4 hK4 => (Rg (Pu rfl (Ni ?_)))))))
 refine hK4 (WC.block ?_)
 refine WC.loop3 (fun (i : Nat) (kb : Nat) (r : Int) => [(0, .pointer (some ⟨P, 0, none⟩)), (7, .int .i64 (i : Int)), (4, .int .i32 r)]) (fun (i : Nat) (kb : Nat) (r : Int) W => i ≤ 4 ∧ kb = ka + i ∧ kb ≤ s.size ∧ 0 ≤ r ∧ ((i = 0 → r = 0) ∧ (i ≤ 1 → r ≤ 15) ∧ (i ≤ 2 → r ≤ 255) ∧ (i ≤ 3 → r ≤ 4095) ∧ r ≤ 65535) ∧ fourS s ka = fourN s (4 - i) kb r ∧ Chg P w W ∧ LL (L) W ∧ Blk W P [.string s, .int .i64 (kb : Int), .int .i64 (dp : Int)]) (fun (i : Nat) (kb : Nat) (r : Int) => 4 - i) 0 ka 0 (by repeat first | exact trivial | exact And.intro rfl trivial | refine And.intro rfl ?_ | refine And.intro (congrArg (fun z : Int => some (Value.int .i64 z)) (by omega)) ?_) ⟨(by omega), rfl, hk, (by omega), (by omega), rfl, hB, hL, hp⟩ ?_
 clear hp hB hL
 rintro K5 i kb r W6 ⟨hi, hki, hkb, hr0, hr1, hv, hB, hL, hp⟩ hK5
 refine Sq fun K7 hK7 => (Rg (Va (dx_lss rfl rfl rfl) rfl rfl (Ni (hK7 (Sq fun K8 hK8 => ?_)))))
 refine WC.cond rfl (fun c9 => ?_) (fun c9 => ?_)
 ·
  replace c9 := dT c9
  refine WC.skip (hK8 (Sq fun K10 hK10 => (WC.block (Sq fun K11 hK11 => (Rg (Pu rfl (Va (dx_nilCheck rfl rfl) rfl rfl ?_)))))))
  refine Va (dx_fld (o1 := 0) rfl ty_fld_59_0_0 rfl rfl) rfl rfl ?_
  refine Ge (dx_cv rfl Tryd.func48 rfl rfl rfl (peek_c s P kb dp W6 _ hL hPL hs (by omega) hp)) rfl rfl ?_
  rintro _ W28 ⟨⟨c22, rfl, hc23, hc24, hc25, hc26⟩, b27⟩
  replace hp := hp.below b27
  replace hB := Chg.thenB hB b27
  replace hL := LL.below hL b27
  refine Pu rfl (Ni (hK11 (Sq fun K29 hK29 => (Rg (Pu rfl ?_)))))
  refine Ge (dx_cv rfl Tryd.func99 rfl rfl rfl ((show CV _ _ [.int .u8 c22] _ (fun v _ => v = .int .i32 (hexD c22)) from digit_v c22 W28 _ hL (by first | exact if_byte _ _ | omega)))) rfl rfl ?_
  rintro _ W34 ⟨rfl, b33⟩
  replace hp := hp.below b33
  replace hB := Chg.thenB hB b33
  replace hL := LL.below hL b33
  have hd32 := hexD_le c22
  refine Pu rfl (Ni (hK29 (Sq fun K35 hK35 => (Sq fun K36 hK36 => (Rg (Pu rfl (Va (dx_lss rfl rfl rfl) rfl rfl ?_)))))))
  refine Pu rfl ?_
  refine WL.split 17 rfl (fun g37 => ?_) (fun g37 => ?_)
  ·
   replace g37 := dT g37
   refine Of rfl (Of rfl (Of rfl (Of rfl (Of rfl (Of rfl (Pu rfl (Ni ?_)))))))
   refine hK36 (WC.condT rfl (Sq fun K38 hK38 => (Rg (Pu rfl (Pu rfl (Ni (hK38 ?_)))))))
   exact WC.ret fun a_ ha_ => hQ (cw_ret2 rfl (.tmp rfl) (.tmp rfl) (by refine .inr ⟨kb, rfl, ?_, by omega, hp⟩; obtain ⟨n, hn⟩ : ∃ n, 4 - i = n + 1 := ⟨3 - i, by omega⟩; rw [hn] at hv; exact hv.trans (four_stop (fun ⟨h1_, h2_⟩ => by have e_ := hc25 h1_; rw [← e_] at h2_; first | omega | exact absurd e_.symm (take_f (by assumption) h1_)))) hB ha_)
  ·
   replace g37 := dF g37
   refine Pu rfl (Va (dx_nilCheck rfl rfl) rfl rfl (Va (dx_fld (o1 := 0) rfl ty_fld_59_0_0 rfl rfl) rfl rfl (Pu rfl ?_)))
   refine Ge (dx_cw rfl Tryd.func47 rfl rfl rfl (take_v c22 s P kb dp W34 _ hL hPL hs (by omega) hp)) rfl rfl ?_
   rintro _ W46 ⟨⟨k42, rfl, hk43, hk44, hp47⟩, g45⟩
   replace hB := Chg.both hB g45
   replace hL := hL.chg g45
   cases hT48 : takeS s kb c22 with
   | false =>
    rw [hT48] at hk43
    replace hk43 : kb = k42 := Eq.symm hk43
    subst hk43
    refine Va (dx_not rfl rfl) rfl rfl (Pu rfl (Ni (hK36 (WC.condT rfl (Sq fun K49 hK49 => (Rg (Pu rfl ?_)))))))
    refine Pu rfl (Ni (hK49 ?_))
    exact WC.ret fun a_ ha_ => hQ (cw_ret2 rfl (.tmp rfl) (.tmp rfl) (by refine .inr ⟨kb, rfl, ?_, by omega, hp47⟩; obtain ⟨n, hn⟩ : ∃ n, 4 - i = n + 1 := ⟨3 - i, by omega⟩; rw [hn] at hv; exact hv.trans (four_stop (fun ⟨h1_, h2_⟩ => by have e_ := hc25 h1_; rw [← e_] at h2_; first | omega | exact absurd e_.symm (take_f (by assumption) h1_)))) hB ha_)
   | true =>
    rw [hT48] at hk43
    have hthT48 := take_t hT48
    replace hk43 : k42 = kb + 1 := hk43
    refine Va (dx_not rfl rfl) rfl rfl (Pu rfl (Ni (hK36 (WC.condF rfl (WC.skip (hK35 (Rg ?_)))))))
    refine Pu rfl (Va (dx_shl (r := r * 16) rfl rfl rfl (by decide) (by decide) (by rw [show (2 : Int) ^ (4 : Int).toNat = 16 from by decide]; exact wrap32_id (by omega))) rfl rfl (Pu rfl (Va (dx_or_i (r := r * 16 + (hexD c22)) rfl rfl rfl (or16 (by omega) (by omega) (by omega) (by omega))) rfl rfl (Pu rfl (Ni (hK10 (Rg ?_)))))))
    refine Va (dx_add (r := (i : Int) + 1) rfl rfl rfl (wrap64_id (by omega))) rfl rfl (Pu rfl (Ni ?_))
    have h49 := hexD_in (c := c22) (by omega)
    have hlt : kb < s.size := by rcases Nat.lt_or_ge kb s.size with h_ | h_; exact h_; (have := hc26 h_; omega)
    have hce := hc25 hlt
    obtain ⟨n, hn⟩ : ∃ n, 4 - i = n + 1 := ⟨3 - i, by omega⟩
    rw [hn] at hv
    have hv2 := hv.trans (four_go (n := n) (r := r) hlt (by rw [← hce]; omega))
    rw [← hce] at hv2
    exact hK5 (i + 1) k42 (r * 16 + hexD c22) ⟨(by omega), (by omega), (by omega), (by omega), (by omega), (by rw [hv2]; congr 1 <;> omega), hB, hL, hp47⟩ (by omega) (by repeat first | exact trivial | exact And.intro rfl trivial | refine And.intro rfl ?_ | refine And.intro (congrArg (fun z : Int => some (Value.int .i64 z)) (by omega)) ?_)
 ·
  replace c9 := dF c9
  refine WC.exit ?_
  refine hK3 (Sq fun K50 hK50 => (Rg (Pu rfl (Pu rfl (Pu rfl (Ni (hK50 ?_)))))))
  exact WC.ret fun a_ ha_ => hQ (cw_ret2 rfl (.tmp rfl) (.tmp rfl) (by obtain rfl : i = 4 := (by omega); exact .inl ⟨kb, r, rfl, hv, hr0, by omega, hki, hkb, hp⟩) hB ha_)

set_option maxHeartbeats 1000000 in
theorem escRune_v  (s : ByteArray) (P ka dp : Nat) (w : World) (L : List Nat) (hL : LL L w) (hPL : P ∈ L) (hs : s.size ≤ 1000000) (hk : ka ≤ s.size) (hp : Blk w P (psC s ka dp))   : CW Tryd.prog 77 [.pointer (some ⟨P, 0, none⟩)] w P fun v W => (∃ k' r, v = .tuple #[.int .i32 r, .int .i64 0] ∧ escR s ka = some (r, k') ∧ 0 ≤ r ∧ r ≤ 1114111 ∧ ka + 4 ≤ k' ∧ k' ≤ s.size ∧ Blk W P (psC s k' dp)) ∨ (∃ k', v = .tuple #[.int .i32 0, .int .i64 2] ∧ escR s ka = none ∧ k' ≤ s.size ∧ Blk W P (psC s k' dp)) := by
 refine cw_enter (N := 55) (f := [(0, .pointer (some ⟨P, 0, none⟩))]) Tryd.func77 rfl rfl rfl rfl fun Q hQ hE => ?_
 have hB := Chg.refl P w
 have hL0 := hL
 refine Sq fun K1 hK1 => (Rg (Pu rfl (Pu rfl (Ni (hK1 (Sq fun K2 hK2 => (Rg ?_)))))))
 refine Pu rfl ?_
 refine Ge (dx_cw rfl Tryd.func86 rfl rfl rfl (four_v s P ka dp w _ hL hPL hs (by omega) hp)) rfl rfl ?_
 rintro _ W14 ⟨(⟨k3, r4, rfl, hf5, hf6, hf7, hf8, hf9, hp15⟩ | ⟨k12, rfl, hf10, hf11, hp15⟩), g13⟩
 ·
  replace hB := Chg.both hB g13
  replace hL := hL.chg g13
  refine Pu rfl (Pu rfl (Pu rfl (Pu rfl (Pu rfl (Ni (hK2 (Sq fun K16 hK16 => ?_)))))))
  refine Sq fun K17 hK17 => (Rg (Pu rfl (Va (dx_not rfl rfl) rfl rfl (Ni (hK17 (WC.condF rfl (WC.skip ?_)))))))
  refine hK16 (Sq fun K18 hK18 => (Sq fun K19 hK19 => (Rg (Pu rfl (Va (dx_lss rfl rfl rfl) rfl rfl (Pu rfl ?_))))))
  refine WL.split 16 rfl (fun g20 => ?_) (fun g20 => ?_)
  ·
   replace g20 := dT g20
   refine Of rfl (Of rfl (Pu rfl (Ni (hK19 (WC.condT rfl (Sq fun K21 hK21 => (Rg ?_)))))))
   refine Pu rfl (Pu rfl (Pu rfl (Ni (hK21 ?_))))
   exact WC.ret fun a_ ha_ => hQ (cw_ret2 rfl (.tmp rfl) (.tmp rfl) (.inl ⟨k3, _, rfl, (by first | (apply escR_a <;> first | assumption | omega; done) | (apply escR_e <;> first | assumption | omega; done)), by omega, by omega, by omega, by omega, hp15⟩) hB ha_)
  ·
   replace g20 := dF g20
   refine Pu rfl (Va (dx_gtr rfl rfl rfl) rfl rfl (Pu rfl (Ni (hK19 ?_))))
   refine WC.cond rfl (fun c22 => ?_) (fun c22 => ?_)
   ·
    replace c22 := dT c22
    refine Sq fun K23 hK23 => (Rg (Pu rfl (Pu rfl (Pu rfl (Ni (hK23 ?_))))))
    exact WC.ret fun a_ ha_ => hQ (cw_ret2 rfl (.tmp rfl) (.tmp rfl) (.inl ⟨k3, _, rfl, (by first | (apply escR_a <;> first | assumption | omega; done) | (apply escR_e <;> first | assumption | omega; done)), by omega, by omega, by omega, by omega, hp15⟩) hB ha_)
   ·
    replace c22 := dF c22
    refine WC.skip (hK18 (Sq fun K24 hK24 => (Sq fun K25 hK25 => (Rg (Pu rfl (Va (dx_nilCheck rfl rfl) rfl rfl (Va (dx_fld (o1 := 0) rfl ty_fld_59_0_0 rfl rfl) rfl rfl ?_)))))))
    refine Ge (dx_cw rfl Tryd.func47 rfl rfl rfl (take_v 92 s P k3 dp W14 _ hL hPL hs (by omega) hp15)) rfl rfl ?_
    rintro _ W33 ⟨⟨k29, rfl, hk30, hk31, hp34⟩, g32⟩
    replace hB := Chg.both hB g32
    replace hL := hL.chg g32
    cases hT35 : takeS s k3 92 with
    | false =>
     rw [hT35] at hk30
     replace hk30 : k3 = k29 := Eq.symm hk30
     subst hk30
     refine Va (dx_not rfl rfl) rfl rfl (Pu rfl (Of rfl (Of rfl (Of rfl (Of rfl (Of rfl (Pu rfl ?_)))))))
     refine Ni (hK25 (WC.condT rfl (Sq fun K36 hK36 => (Rg (Pu rfl (Pu rfl (Ni ?_)))))))
     refine hK36 ?_
     exact WC.ret fun a_ ha_ => hQ (cw_ret2 rfl (.tmp rfl) (.tmp rfl) (.inr ⟨k3, rfl, (by first | exact escR_n (by assumption) | (apply escR_b <;> first | assumption | omega; done) | (apply escR_b' <;> first | assumption | omega; done) | (apply escR_c <;> first | assumption | omega; done) | (apply escR_d <;> first | assumption | omega; done)), by omega, hp34⟩) hB ha_)
    | true =>
     rw [hT35] at hk30
     have hthT35 := take_t hT35
     replace hk30 : k29 = k3 + 1 := hk30
     refine Va (dx_not rfl rfl) rfl rfl (Pu rfl (Pu rfl (Va (dx_nilCheck rfl rfl) rfl rfl (Va (dx_fld (o1 := 0) rfl ty_fld_59_0_0 rfl rfl) rfl rfl ?_))))
     refine Ge (dx_cw rfl Tryd.func47 rfl rfl rfl (take_v 117 s P k29 dp W33 _ hL hPL hs (by omega) hp34)) rfl rfl ?_
     rintro _ W44 ⟨⟨k40, rfl, hk41, hk42, hp45⟩, g43⟩
     replace hB := Chg.both hB g43
     replace hL := hL.chg g43
     cases hT46 : takeS s k29 117 with
     | false =>
      rw [hT46] at hk41
      replace hk41 : k29 = k40 := Eq.symm hk41
      subst hk41
      refine Va (dx_not rfl rfl) rfl rfl (Pu rfl (Ni (hK25 (WC.condT rfl (Sq fun K47 hK47 => (Rg (Pu rfl ?_)))))))
      refine Pu rfl (Ni (hK47 ?_))
      exact WC.ret fun a_ ha_ => hQ (cw_ret2 rfl (.tmp rfl) (.tmp rfl) (.inr ⟨k29, rfl, (by first | exact escR_n (by assumption) | (apply escR_b <;> first | assumption | omega; done) | (apply escR_b' <;> first | assumption | omega; done) | (apply escR_c <;> first | assumption | omega; done) | (apply escR_d <;> first | assumption | omega; done)), by omega, hp45⟩) hB ha_)
     | true =>
      rw [hT46] at hk41
      have hthT46 := take_t hT46
      replace hk41 : k40 = k29 + 1 := hk41
      refine Va (dx_not rfl rfl) rfl rfl (Pu rfl (Ni (hK25 (WC.condF rfl (WC.skip (hK24 (Sq fun K48 hK48 => ?_)))))))
      refine Rg (Pu rfl ?_)
      refine Ge (dx_cw rfl Tryd.func86 rfl rfl rfl (four_v s P k40 dp W44 _ hL hPL hs (by omega) hp45)) rfl rfl ?_
      rintro _ W60 ⟨(⟨k49, r50, rfl, hf51, hf52, hf53, hf54, hf55, hp61⟩ | ⟨k58, rfl, hf56, hf57, hp61⟩), g59⟩
      ·
       replace hB := Chg.both hB g59
       refine Pu rfl (Pu rfl (Pu rfl (Pu rfl (Pu rfl (Ni (hK48 (Sq fun K62 hK62 => ?_)))))))
       refine Sq fun K63 hK63 => (Rg (Pu rfl (Va (dx_not rfl rfl) rfl rfl (Pu rfl (Pu rfl (Va (dx_lss rfl rfl rfl) rfl rfl (Pu rfl ?_)))))))
       refine Pu rfl ?_
       refine WL.split 44 rfl (fun g64 => ?_) (fun g64 => ?_)
       ·
        replace g64 := dT g64
        refine Of rfl (Of rfl (Pu rfl (Ni (hK63 (WC.condT rfl (Sq fun K65 hK65 => (Rg ?_)))))))
        refine Pu rfl (Pu rfl (Ni (hK65 ?_)))
        exact WC.ret fun a_ ha_ => hQ (cw_ret2 rfl (.tmp rfl) (.tmp rfl) (.inr ⟨k49, rfl, (by first | exact escR_n (by assumption) | (apply escR_b <;> first | assumption | omega; done) | (apply escR_b' <;> first | assumption | omega; done) | (apply escR_c <;> first | assumption | omega; done) | (apply escR_d <;> first | assumption | omega; done)), by omega, hp61⟩) hB ha_)
       ·
        replace g64 := dF g64
        refine Pu rfl (Va (dx_gtr rfl rfl rfl) rfl rfl (Pu rfl (Ni (hK63 ?_))))
        refine WC.cond rfl (fun c66 => ?_) (fun c66 => ?_)
        ·
         replace c66 := dT c66
         refine Sq fun K67 hK67 => (Rg (Pu rfl (Pu rfl (Ni (hK67 ?_)))))
         exact WC.ret fun a_ ha_ => hQ (cw_ret2 rfl (.tmp rfl) (.tmp rfl) (.inr ⟨k49, rfl, (by first | exact escR_n (by assumption) | (apply escR_b <;> first | assumption | omega; done) | (apply escR_b' <;> first | assumption | omega; done) | (apply escR_c <;> first | assumption | omega; done) | (apply escR_d <;> first | assumption | omega; done)), by omega, hp61⟩) hB ha_)
        ·
         replace c66 := dF c66
         refine WC.skip (hK62 (Sq fun K68 hK68 => (Rg (Pu rfl (Va (dx_sub (r := r4 - 55296) rfl rfl rfl (wrap32_id (by omega))) rfl rfl (Va (dx_shl (r := (r4 - 55296) * 1024) rfl rfl rfl (by decide) (by decide) (by rw [show (2 : Int) ^ (10 : Int).toNat = 1024 from by decide]; exact wrap32_id (by omega))) rfl rfl (Va (dx_add (r := 65536 + ((r4 - 55296) * 1024)) rfl rfl rfl (wrap32_id (by omega))) rfl rfl ?_)))))))
         refine Pu rfl (Va (dx_sub (r := r50 - 56320) rfl rfl rfl (wrap32_id (by omega))) rfl rfl (Va (dx_add (r := (65536 + ((r4 - 55296) * 1024)) + (r50 - 56320)) rfl rfl rfl (wrap32_id (by omega))) rfl rfl (Pu rfl (Pu rfl (Ni (hK68 ?_))))))
         exact WC.ret fun a_ ha_ => hQ (cw_ret2 rfl (.tmp rfl) (.tmp rfl) (.inl ⟨k49, _, rfl, (by first | (apply escR_a <;> first | assumption | omega; done) | (apply escR_e <;> first | assumption | omega; done)), by omega, by omega, by omega, by omega, hp61⟩) hB ha_)
      ·
       replace hB := Chg.both hB g59
       refine Pu rfl (Pu rfl (Pu rfl (Pu rfl (Pu rfl (Ni (hK48 (Sq fun K69 hK69 => ?_)))))))
       refine Sq fun K70 hK70 => (Rg (Pu rfl (Va (dx_not rfl rfl) rfl rfl (Pu rfl (Of rfl (Of rfl (Pu rfl ?_)))))))
       refine Pu rfl (Of rfl (Of rfl (Pu rfl (Ni (hK70 (WC.condT rfl (Sq fun K71 hK71 => ?_)))))))
       refine Rg (Pu rfl (Pu rfl (Ni (hK71 ?_))))
       exact WC.ret fun a_ ha_ => hQ (cw_ret2 rfl (.tmp rfl) (.tmp rfl) (.inr ⟨k58, rfl, (by first | exact escR_n (by assumption) | (apply escR_b <;> first | assumption | omega; done) | (apply escR_b' <;> first | assumption | omega; done) | (apply escR_c <;> first | assumption | omega; done) | (apply escR_d <;> first | assumption | omega; done)), by omega, hp61⟩) hB ha_)
 ·
  replace hB := Chg.both hB g13
  refine Pu rfl (Pu rfl (Pu rfl (Pu rfl (Pu rfl (Ni (hK2 (Sq fun K72 hK72 => ?_)))))))
  refine Sq fun K73 hK73 => (Rg (Pu rfl (Va (dx_not rfl rfl) rfl rfl (Ni (hK73 (WC.condT rfl (Sq fun K74 hK74 => ?_)))))))
  refine Rg (Pu rfl (Pu rfl (Ni (hK74 ?_))))
  exact WC.ret fun a_ ha_ => hQ (cw_ret2 rfl (.tmp rfl) (.tmp rfl) (.inr ⟨k12, rfl, (by first | exact escR_n (by assumption) | (apply escR_b <;> first | assumption | omega; done) | (apply escR_b' <;> first | assumption | omega; done) | (apply escR_c <;> first | assumption | omega; done) | (apply escR_d <;> first | assumption | omega; done)), by omega, hp15⟩) hB ha_)

section
variable {s : ByteArray} {k k1 k2 : Nat} {r c : Int}
theorem isRune_in (h : isRuneB r = true) : 0 ≤ r ∧ r ≤ 1114111 := isRune_range h
theorem escB_n (t : takeS s k 117 = true) (e : k1 = k + 1) (h : escR s k1 = none) : escB s k = none := by subst e; unfold escB; rw [t, if_pos rfl, h]
theorem escB_x (t : takeS s k 117 = true) (e : k1 = k + 1) (h : escR s k1 = some (r, k2)) (hr : isRuneB r = false) : escB s k = none := by subst e; unfold escB; rw [t, if_pos rfl, h]; dsimp only; rw [hr]; rfl
theorem escB_r (t : takeS s k 117 = true) (e : k1 = k + 1) (h : escR s k1 = some (r, k2)) (hr : isRuneB r = true) : escB s k = some (encI r, k2) := by subst e; unfold escB; rw [t, if_pos rfl, h]; dsimp only; rw [hr]; rfl
theorem escB_e (t : takeS s k 117 = false) (h : ¬ k < s.size) : escB s k = none := by unfold escB; rw [t, if_neg (by decide), if_neg h]
theorem take_c (h : k < s.size → c = atS s k) (t : takeS s k c = false) : ¬ k < s.size := fun hk => absurd (h hk).symm (take_f t hk)
theorem escB_g (t : takeS s k 117 = false) (h : k < s.size) (hc : atS s k = c) : escB s k = (if c = 34 ∨ c = 92 ∨ c = 47 then some ([c], k + 1) else if c = 98 then some ([8], k + 1) else if c = 102 then some ([12], k + 1) else if c = 110 then some ([10], k + 1) else if c = 114 then some ([13], k + 1) else if c = 116 then some ([9], k + 1) else none) := by
 subst hc; unfold escB; rw [t, if_neg (by decide), if_pos h]
theorem bytes_one {z : Int} (h : 0 ≤ z ∧ z ≤ 255) : Bytes [z] := fun x hx => by obtain rfl := List.mem_singleton.1 hx; exact h
end
set_option maxHeartbeats 1000000 in
theorem escape_v  (s : ByteArray) (P ka dp : Nat) (w : World) (L : List Nat) (hL : LL L w) (hPL : P ∈ L) (hs : s.size ≤ 1000000) (hk : ka ≤ s.size) (hp : Blk w P (psC s ka dp))   : CW Tryd.prog 65 [.pointer (some ⟨P, 0, none⟩)] w P fun v W => (∃ k' l x, v = .tuple #[x, .int .i64 0] ∧ escB s ka = some (l, k') ∧ Bytes l ∧ ka + l.length ≤ k' ∧ k' ≤ s.size ∧ NewW 1 w.heap.size (l.map e8) x W ∧ Blk W P (psC s k' dp)) ∨ (∃ k', v = .tuple #[.slice none 0 0, .int .i64 2] ∧ escB s ka = none ∧ k' ≤ s.size ∧ Blk W P (psC s k' dp)) := by
 refine cw_enter (N := 56) (f := [(0, .pointer (some ⟨P, 0, none⟩))]) Tryd.func65 rfl rfl rfl rfl fun Q hQ hE => ?_
 have hB := Chg.refl P w
 have hL0 := hL
 refine Sq fun K1 hK1 => (Rg (Pu rfl (Pu rfl (Ni (hK1 (Sq fun K2 hK2 => (Rg ?_)))))))
 refine Pu rfl (Va (dx_nilCheck rfl rfl) rfl rfl (Va (dx_fld (o1 := 0) rfl ty_fld_59_0_0 rfl rfl) rfl rfl ?_))
 refine Ge (dx_cv rfl Tryd.func48 rfl rfl rfl (peek_c s P ka dp w _ hL hPL hs (by omega) hp)) rfl rfl ?_
 rintro _ W19 ⟨⟨c13, rfl, hc14, hc15, hc16, hc17⟩, b18⟩
 replace hp := hp.below b18
 replace hB := Chg.thenB hB b18
 replace hL := LL.below hL b18
 refine Pu rfl (Ni (hK2 (Sq fun K20 hK20 => (Sq fun K21 hK21 => (Rg (Pu rfl (Va (dx_nilCheck rfl rfl) rfl rfl ?_)))))))
 refine Va (dx_fld (o1 := 0) rfl ty_fld_59_0_0 rfl rfl) rfl rfl ?_
 refine Ge (dx_cw rfl Tryd.func47 rfl rfl rfl (take_v 117 s P ka dp W19 _ hL hPL hs (by omega) hp)) rfl rfl ?_
 rintro _ W29 ⟨⟨k25, rfl, hk26, hk27, hp30⟩, g28⟩
 replace hB := Chg.both hB g28
 replace hL := hL.chg g28
 cases hT31 : takeS s ka 117 with
 | false =>
  rw [hT31] at hk26
  replace hk26 : ka = k25 := Eq.symm hk26
  subst hk26
  refine Ni (hK21 (WC.condF rfl (WC.skip (hK20 (Sq fun K32 hK32 => (Sq fun K33 hK33 => (Rg ?_)))))))
  refine Pu rfl (Va (dx_nilCheck rfl rfl) rfl rfl (Va (dx_fld (o1 := 0) rfl ty_fld_59_0_0 rfl rfl) rfl rfl (Pu rfl ?_)))
  refine Ge (dx_cw rfl Tryd.func47 rfl rfl rfl (take_v c13 s P ka dp W29 _ hL hPL hs (by omega) hp30)) rfl rfl ?_
  rintro _ W41 ⟨⟨k37, rfl, hk38, hk39, hp42⟩, g40⟩
  replace hB := Chg.both hB g40
  cases hT43 : takeS s ka c13 with
  | false =>
   rw [hT43] at hk38
   replace hk38 : ka = k37 := Eq.symm hk38
   subst hk38
   refine Va (dx_not rfl rfl) rfl rfl (Ni (hK33 (WC.condT rfl (Sq fun K44 hK44 => (Rg (Pu rfl (Pu rfl ?_)))))))
   refine Ni (hK44 ?_)
   exact WC.ret fun a_ ha_ => hQ (cw_ret2 rfl (.tmp rfl) (.tmp rfl) (.inr ⟨ka, rfl, (by first | (apply escB_n <;> first | assumption | omega; done) | (apply escB_x <;> first | assumption | omega; done) | (refine escB_e (by assumption) (take_c (c := c13) (by assumption) (by assumption)); done) | (rw [escB_g (c := c13) (by assumption) (by omega) (by omega)]; repeat' split; all_goals first | rfl | omega)), by omega, hp42⟩) hB ha_)
  | true =>
   rw [hT43] at hk38
   have hthT43 := take_t hT43
   replace hk38 : k37 = ka + 1 := hk38
   refine Va (dx_not rfl rfl) rfl rfl (Ni (hK33 (WC.condF rfl (WC.skip (hK32 (Sq fun K45 hK45 => (Sq fun K46 hK46 => ?_)))))))
   refine Rg (Pu rfl (Ni (hK46 (WC.block (Sq fun K47 hK47 => (Sq fun K48 hK48 => (Rg ?_)))))))
   refine Va (dx_eql rfl rfl rfl) rfl rfl (Pu rfl (Ni (hK48 ?_)))
   refine WC.cond rfl (fun c49 => ?_) (fun c49 => ?_)
   ·
    replace c49 := dT c49
    refine WC.skip (hK47 ?_)
    refine WC.cond rfl (fun c50 => ?_) (fun c50 => ?_)
    ·
     replace c50 := dT c50
     refine Sq fun K51 hK51 => (Rg (Pu rfl ?_))
     refine Ge (dx_lit1 (r := [.int .u8 c13]) rfl ty_ap_42 (by decide) (by decide) rfl rfl rfl) rfl rfl ?_
     rintro u56 W52 ⟨k53, b54, z55⟩
     have l58 := hB.size
     replace hp42 := hp42.below b54
     replace hB := Chg.thenB hB b54
     refine Pu rfl (Pu rfl (Ni (hK51 ?_)))
     exact WC.ret fun a_ ha_ => hQ (cw_ret2 rfl (.tmp rfl) (.tmp rfl) (.inl ⟨k37, [c13], _, rfl, (by rw [escB_g (c := c13) (by assumption) (by omega) (by omega)]; repeat' split; all_goals first | omega | (congr 2 <;> first | omega | (congr 1; done); done)), bytes_one (by omega), (by show ka + 1 ≤ _; omega), by omega, .of_own k53 l58, hp42⟩) hB ha_)
    ·
     replace c50 := dF c50
     refine Sq fun K59 hK59 => (Rg (Va (dx_eql rfl rfl rfl) rfl rfl (Pu rfl (Ni (hK59 ?_)))))
     refine WC.cond rfl (fun c60 => ?_) (fun c60 => ?_)
     ·
      replace c60 := dT c60
      refine Sq fun K61 hK61 => (Rg ?_)
      refine Ge (dx_lit1 (r := [.int .u8 8]) rfl ty_ap_42 (by decide) (by decide) rfl rfl rfl) rfl rfl ?_
      rintro u66 W62 ⟨k63, b64, z65⟩
      have l68 := hB.size
      replace hp42 := hp42.below b64
      replace hB := Chg.thenB hB b64
      refine Pu rfl (Pu rfl (Ni (hK61 ?_)))
      exact WC.ret fun a_ ha_ => hQ (cw_ret2 rfl (.tmp rfl) (.tmp rfl) (.inl ⟨k37, [8], _, rfl, (by rw [escB_g (c := c13) (by assumption) (by omega) (by omega)]; repeat' split; all_goals first | omega | (congr 2 <;> first | omega | (congr 1; done); done)), bytes_one (by omega), (by show ka + 1 ≤ _; omega), by omega, .of_own k63 l68, hp42⟩) hB ha_)
     ·
      replace c60 := dF c60
      refine Sq fun K69 hK69 => (Rg (Va (dx_eql rfl rfl rfl) rfl rfl (Pu rfl (Ni (hK69 ?_)))))
      refine WC.cond rfl (fun c70 => ?_) (fun c70 => ?_)
      ·
       replace c70 := dT c70
       refine Sq fun K71 hK71 => (Rg ?_)
       refine Ge (dx_lit1 (r := [.int .u8 12]) rfl ty_ap_42 (by decide) (by decide) rfl rfl rfl) rfl rfl ?_
       rintro u76 W72 ⟨k73, b74, z75⟩
       have l78 := hB.size
       replace hp42 := hp42.below b74
       replace hB := Chg.thenB hB b74
       refine Pu rfl (Pu rfl (Ni (hK71 ?_)))
       exact WC.ret fun a_ ha_ => hQ (cw_ret2 rfl (.tmp rfl) (.tmp rfl) (.inl ⟨k37, [12], _, rfl, (by rw [escB_g (c := c13) (by assumption) (by omega) (by omega)]; repeat' split; all_goals first | omega | (congr 2 <;> first | omega | (congr 1; done); done)), bytes_one (by omega), (by show ka + 1 ≤ _; omega), by omega, .of_own k73 l78, hp42⟩) hB ha_)
      ·
       replace c70 := dF c70
       refine Sq fun K79 hK79 => (Rg (Va (dx_eql rfl rfl rfl) rfl rfl (Pu rfl (Ni (hK79 ?_)))))
       refine WC.cond rfl (fun c80 => ?_) (fun c80 => ?_)
       ·
        replace c80 := dT c80
        refine Sq fun K81 hK81 => (Rg ?_)
        refine Ge (dx_lit1 (r := [.int .u8 10]) rfl ty_ap_42 (by decide) (by decide) rfl rfl rfl) rfl rfl ?_
        rintro u86 W82 ⟨k83, b84, z85⟩
        have l88 := hB.size
        replace hp42 := hp42.below b84
        replace hB := Chg.thenB hB b84
        refine Pu rfl (Pu rfl (Ni (hK81 ?_)))
        exact WC.ret fun a_ ha_ => hQ (cw_ret2 rfl (.tmp rfl) (.tmp rfl) (.inl ⟨k37, [10], _, rfl, (by rw [escB_g (c := c13) (by assumption) (by omega) (by omega)]; repeat' split; all_goals first | omega | (congr 2 <;> first | omega | (congr 1; done); done)), bytes_one (by omega), (by show ka + 1 ≤ _; omega), by omega, .of_own k83 l88, hp42⟩) hB ha_)
       ·
        replace c80 := dF c80
        refine Sq fun K89 hK89 => (Rg (Va (dx_eql rfl rfl rfl) rfl rfl (Pu rfl (Ni (hK89 ?_)))))
        refine WC.cond rfl (fun c90 => ?_) (fun c90 => ?_)
        ·
         replace c90 := dT c90
         refine Sq fun K91 hK91 => (Rg ?_)
         refine Ge (dx_lit1 (r := [.int .u8 13]) rfl ty_ap_42 (by decide) (by decide) rfl rfl rfl) rfl rfl ?_
         rintro u96 W92 ⟨k93, b94, z95⟩
         have l98 := hB.size
         replace hp42 := hp42.below b94
         replace hB := Chg.thenB hB b94
         refine Pu rfl (Pu rfl (Ni (hK91 ?_)))
         exact WC.ret fun a_ ha_ => hQ (cw_ret2 rfl (.tmp rfl) (.tmp rfl) (.inl ⟨k37, [13], _, rfl, (by rw [escB_g (c := c13) (by assumption) (by omega) (by omega)]; repeat' split; all_goals first | omega | (congr 2 <;> first | omega | (congr 1; done); done)), bytes_one (by omega), (by show ka + 1 ≤ _; omega), by omega, .of_own k93 l98, hp42⟩) hB ha_)
        ·
         replace c90 := dF c90
         refine Sq fun K99 hK99 => (Rg (Va (dx_eql rfl rfl rfl) rfl rfl (Pu rfl (Ni (hK99 ?_)))))
         refine WC.cond rfl (fun c100 => ?_) (fun c100 => ?_)
         ·
          replace c100 := dT c100
          refine Sq fun K101 hK101 => (Rg ?_)
          refine Ge (dx_lit1 (r := [.int .u8 9]) rfl ty_ap_42 (by decide) (by decide) rfl rfl rfl) rfl rfl ?_
          rintro u106 W102 ⟨k103, b104, z105⟩
          have l108 := hB.size
          replace hp42 := hp42.below b104
          replace hB := Chg.thenB hB b104
          refine Pu rfl (Pu rfl (Ni (hK101 ?_)))
          exact WC.ret fun a_ ha_ => hQ (cw_ret2 rfl (.tmp rfl) (.tmp rfl) (.inl ⟨k37, [9], _, rfl, (by rw [escB_g (c := c13) (by assumption) (by omega) (by omega)]; repeat' split; all_goals first | omega | (congr 2 <;> first | omega | (congr 1; done); done)), bytes_one (by omega), (by show ka + 1 ≤ _; omega), by omega, .of_own k103 l108, hp42⟩) hB ha_)
         ·
          replace c100 := dF c100
          refine WC.skip (hK45 (Sq fun K109 hK109 => (Rg (Pu rfl (Pu rfl (Ni (hK109 ?_)))))))
          exact WC.ret fun a_ ha_ => hQ (cw_ret2 rfl (.tmp rfl) (.tmp rfl) (.inr ⟨k37, rfl, (by first | (apply escB_n <;> first | assumption | omega; done) | (apply escB_x <;> first | assumption | omega; done) | (refine escB_e (by assumption) (take_c (c := c13) (by assumption) (by assumption)); done) | (rw [escB_g (c := c13) (by assumption) (by omega) (by omega)]; repeat' split; all_goals first | rfl | omega)), by omega, hp42⟩) hB ha_)
   ·
    replace c49 := dF c49
    refine Sq fun K110 hK110 => (Rg (Va (dx_eql rfl rfl rfl) rfl rfl (Pu rfl (Ni (hK110 ?_)))))
    refine WC.cond rfl (fun c111 => ?_) (fun c111 => ?_)
    ·
     replace c111 := dT c111
     refine WC.skip (hK47 ?_)
     refine WC.cond rfl (fun c112 => ?_) (fun c112 => ?_)
     ·
      replace c112 := dT c112
      refine Sq fun K113 hK113 => (Rg (Pu rfl ?_))
      refine Ge (dx_lit1 (r := [.int .u8 c13]) rfl ty_ap_42 (by decide) (by decide) rfl rfl rfl) rfl rfl ?_
      rintro u118 W114 ⟨k115, b116, z117⟩
      have l120 := hB.size
      replace hp42 := hp42.below b116
      replace hB := Chg.thenB hB b116
      refine Pu rfl (Pu rfl (Ni (hK113 ?_)))
      exact WC.ret fun a_ ha_ => hQ (cw_ret2 rfl (.tmp rfl) (.tmp rfl) (.inl ⟨k37, [c13], _, rfl, (by rw [escB_g (c := c13) (by assumption) (by omega) (by omega)]; repeat' split; all_goals first | omega | (congr 2 <;> first | omega | (congr 1; done); done)), bytes_one (by omega), (by show ka + 1 ≤ _; omega), by omega, .of_own k115 l120, hp42⟩) hB ha_)
     ·
      replace c112 := dF c112
      refine Sq fun K121 hK121 => (Rg (Va (dx_eql rfl rfl rfl) rfl rfl (Pu rfl (Ni (hK121 ?_)))))
      refine WC.cond rfl (fun c122 => ?_) (fun c122 => ?_)
      ·
       replace c122 := dT c122
       refine Sq fun K123 hK123 => (Rg ?_)
       refine Ge (dx_lit1 (r := [.int .u8 8]) rfl ty_ap_42 (by decide) (by decide) rfl rfl rfl) rfl rfl ?_
       rintro u128 W124 ⟨k125, b126, z127⟩
       have l130 := hB.size
       replace hp42 := hp42.below b126
       replace hB := Chg.thenB hB b126
       refine Pu rfl (Pu rfl (Ni (hK123 ?_)))
       exact WC.ret fun a_ ha_ => hQ (cw_ret2 rfl (.tmp rfl) (.tmp rfl) (.inl ⟨k37, [8], _, rfl, (by rw [escB_g (c := c13) (by assumption) (by omega) (by omega)]; repeat' split; all_goals first | omega | (congr 2 <;> first | omega | (congr 1; done); done)), bytes_one (by omega), (by show ka + 1 ≤ _; omega), by omega, .of_own k125 l130, hp42⟩) hB ha_)
      ·
       replace c122 := dF c122
       refine Sq fun K131 hK131 => (Rg (Va (dx_eql rfl rfl rfl) rfl rfl (Pu rfl (Ni (hK131 ?_)))))
       refine WC.cond rfl (fun c132 => ?_) (fun c132 => ?_)
       ·
        replace c132 := dT c132
        refine Sq fun K133 hK133 => (Rg ?_)
        refine Ge (dx_lit1 (r := [.int .u8 12]) rfl ty_ap_42 (by decide) (by decide) rfl rfl rfl) rfl rfl ?_
        rintro u138 W134 ⟨k135, b136, z137⟩
        have l140 := hB.size
        replace hp42 := hp42.below b136
        replace hB := Chg.thenB hB b136
        refine Pu rfl (Pu rfl (Ni (hK133 ?_)))
        exact WC.ret fun a_ ha_ => hQ (cw_ret2 rfl (.tmp rfl) (.tmp rfl) (.inl ⟨k37, [12], _, rfl, (by rw [escB_g (c := c13) (by assumption) (by omega) (by omega)]; repeat' split; all_goals first | omega | (congr 2 <;> first | omega | (congr 1; done); done)), bytes_one (by omega), (by show ka + 1 ≤ _; omega), by omega, .of_own k135 l140, hp42⟩) hB ha_)
       ·
        replace c132 := dF c132
        refine Sq fun K141 hK141 => (Rg (Va (dx_eql rfl rfl rfl) rfl rfl (Pu rfl (Ni (hK141 ?_)))))
        refine WC.cond rfl (fun c142 => ?_) (fun c142 => ?_)
        ·
         replace c142 := dT c142
         refine Sq fun K143 hK143 => (Rg ?_)
         refine Ge (dx_lit1 (r := [.int .u8 10]) rfl ty_ap_42 (by decide) (by decide) rfl rfl rfl) rfl rfl ?_
         rintro u148 W144 ⟨k145, b146, z147⟩
         have l150 := hB.size
         replace hp42 := hp42.below b146
         replace hB := Chg.thenB hB b146
         refine Pu rfl (Pu rfl (Ni (hK143 ?_)))
         exact WC.ret fun a_ ha_ => hQ (cw_ret2 rfl (.tmp rfl) (.tmp rfl) (.inl ⟨k37, [10], _, rfl, (by rw [escB_g (c := c13) (by assumption) (by omega) (by omega)]; repeat' split; all_goals first | omega | (congr 2 <;> first | omega | (congr 1; done); done)), bytes_one (by omega), (by show ka + 1 ≤ _; omega), by omega, .of_own k145 l150, hp42⟩) hB ha_)
        ·
         replace c142 := dF c142
         refine Sq fun K151 hK151 => (Rg (Va (dx_eql rfl rfl rfl) rfl rfl (Pu rfl (Ni (hK151 ?_)))))
         refine WC.cond rfl (fun c152 => ?_) (fun c152 => ?_)
         ·
          replace c152 := dT c152
          refine Sq fun K153 hK153 => (Rg ?_)
          refine Ge (dx_lit1 (r := [.int .u8 13]) rfl ty_ap_42 (by decide) (by decide) rfl rfl rfl) rfl rfl ?_
          rintro u158 W154 ⟨k155, b156, z157⟩
          have l160 := hB.size
          replace hp42 := hp42.below b156
          replace hB := Chg.thenB hB b156
          refine Pu rfl (Pu rfl (Ni (hK153 ?_)))
          exact WC.ret fun a_ ha_ => hQ (cw_ret2 rfl (.tmp rfl) (.tmp rfl) (.inl ⟨k37, [13], _, rfl, (by rw [escB_g (c := c13) (by assumption) (by omega) (by omega)]; repeat' split; all_goals first | omega | (congr 2 <;> first | omega | (congr 1; done); done)), bytes_one (by omega), (by show ka + 1 ≤ _; omega), by omega, .of_own k155 l160, hp42⟩) hB ha_)
         ·
          replace c152 := dF c152
          refine Sq fun K161 hK161 => (Rg (Va (dx_eql rfl rfl rfl) rfl rfl (Pu rfl (Ni (hK161 ?_)))))
          refine WC.cond rfl (fun c162 => ?_) (fun c162 => ?_)
          ·
           replace c162 := dT c162
           refine Sq fun K163 hK163 => (Rg ?_)
           refine Ge (dx_lit1 (r := [.int .u8 9]) rfl ty_ap_42 (by decide) (by decide) rfl rfl rfl) rfl rfl ?_
           rintro u168 W164 ⟨k165, b166, z167⟩
           have l170 := hB.size
           replace hp42 := hp42.below b166
           replace hB := Chg.thenB hB b166
           refine Pu rfl (Pu rfl (Ni (hK163 ?_)))
           exact WC.ret fun a_ ha_ => hQ (cw_ret2 rfl (.tmp rfl) (.tmp rfl) (.inl ⟨k37, [9], _, rfl, (by rw [escB_g (c := c13) (by assumption) (by omega) (by omega)]; repeat' split; all_goals first | omega | (congr 2 <;> first | omega | (congr 1; done); done)), bytes_one (by omega), (by show ka + 1 ≤ _; omega), by omega, .of_own k165 l170, hp42⟩) hB ha_)
          ·
           replace c162 := dF c162
           refine WC.skip (hK45 (Sq fun K171 hK171 => (Rg (Pu rfl (Pu rfl (Ni (hK171 ?_)))))))
           exact WC.ret fun a_ ha_ => hQ (cw_ret2 rfl (.tmp rfl) (.tmp rfl) (.inr ⟨k37, rfl, (by first | (apply escB_n <;> first | assumption | omega; done) | (apply escB_x <;> first | assumption | omega; done) | (refine escB_e (by assumption) (take_c (c := c13) (by assumption) (by assumption)); done) | (rw [escB_g (c := c13) (by assumption) (by omega) (by omega)]; repeat' split; all_goals first | rfl | omega)), by omega, hp42⟩) hB ha_)
    ·
     replace c111 := dF c111
     refine Rg (Va (dx_eql rfl rfl rfl) rfl rfl (Pu rfl (Ni (hK47 ?_))))
     refine WC.cond rfl (fun c172 => ?_) (fun c172 => ?_)
     ·
      replace c172 := dT c172
      refine Sq fun K173 hK173 => (Rg (Pu rfl ?_))
      refine Ge (dx_lit1 (r := [.int .u8 c13]) rfl ty_ap_42 (by decide) (by decide) rfl rfl rfl) rfl rfl ?_
      rintro u178 W174 ⟨k175, b176, z177⟩
      have l180 := hB.size
      replace hp42 := hp42.below b176
      replace hB := Chg.thenB hB b176
      refine Pu rfl (Pu rfl (Ni (hK173 ?_)))
      exact WC.ret fun a_ ha_ => hQ (cw_ret2 rfl (.tmp rfl) (.tmp rfl) (.inl ⟨k37, [c13], _, rfl, (by rw [escB_g (c := c13) (by assumption) (by omega) (by omega)]; repeat' split; all_goals first | omega | (congr 2 <;> first | omega | (congr 1; done); done)), bytes_one (by omega), (by show ka + 1 ≤ _; omega), by omega, .of_own k175 l180, hp42⟩) hB ha_)
     ·
      replace c172 := dF c172
      refine Sq fun K181 hK181 => (Rg (Va (dx_eql rfl rfl rfl) rfl rfl (Pu rfl (Ni (hK181 ?_)))))
      refine WC.cond rfl (fun c182 => ?_) (fun c182 => ?_)
      ·
       replace c182 := dT c182
       refine Sq fun K183 hK183 => (Rg ?_)
       refine Ge (dx_lit1 (r := [.int .u8 8]) rfl ty_ap_42 (by decide) (by decide) rfl rfl rfl) rfl rfl ?_
       rintro u188 W184 ⟨k185, b186, z187⟩
       have l190 := hB.size
       replace hp42 := hp42.below b186
       replace hB := Chg.thenB hB b186
       refine Pu rfl (Pu rfl (Ni (hK183 ?_)))
       exact WC.ret fun a_ ha_ => hQ (cw_ret2 rfl (.tmp rfl) (.tmp rfl) (.inl ⟨k37, [8], _, rfl, (by rw [escB_g (c := c13) (by assumption) (by omega) (by omega)]; repeat' split; all_goals first | omega | (congr 2 <;> first | omega | (congr 1; done); done)), bytes_one (by omega), (by show ka + 1 ≤ _; omega), by omega, .of_own k185 l190, hp42⟩) hB ha_)
      ·
       replace c182 := dF c182
       refine Sq fun K191 hK191 => (Rg (Va (dx_eql rfl rfl rfl) rfl rfl (Pu rfl (Ni (hK191 ?_)))))
       refine WC.cond rfl (fun c192 => ?_) (fun c192 => ?_)
       ·
        replace c192 := dT c192
        refine Sq fun K193 hK193 => (Rg ?_)
        refine Ge (dx_lit1 (r := [.int .u8 12]) rfl ty_ap_42 (by decide) (by decide) rfl rfl rfl) rfl rfl ?_
        rintro u198 W194 ⟨k195, b196, z197⟩
        have l200 := hB.size
        replace hp42 := hp42.below b196
        replace hB := Chg.thenB hB b196
        refine Pu rfl (Pu rfl (Ni (hK193 ?_)))
        exact WC.ret fun a_ ha_ => hQ (cw_ret2 rfl (.tmp rfl) (.tmp rfl) (.inl ⟨k37, [12], _, rfl, (by rw [escB_g (c := c13) (by assumption) (by omega) (by omega)]; repeat' split; all_goals first | omega | (congr 2 <;> first | omega | (congr 1; done); done)), bytes_one (by omega), (by show ka + 1 ≤ _; omega), by omega, .of_own k195 l200, hp42⟩) hB ha_)
       ·
        replace c192 := dF c192
        refine Sq fun K201 hK201 => (Rg (Va (dx_eql rfl rfl rfl) rfl rfl (Pu rfl (Ni (hK201 ?_)))))
        refine WC.cond rfl (fun c202 => ?_) (fun c202 => ?_)
        ·
         replace c202 := dT c202
         refine Sq fun K203 hK203 => (Rg ?_)
         refine Ge (dx_lit1 (r := [.int .u8 10]) rfl ty_ap_42 (by decide) (by decide) rfl rfl rfl) rfl rfl ?_
         rintro u208 W204 ⟨k205, b206, z207⟩
         have l210 := hB.size
         replace hp42 := hp42.below b206
         replace hB := Chg.thenB hB b206
         refine Pu rfl (Pu rfl (Ni (hK203 ?_)))
         exact WC.ret fun a_ ha_ => hQ (cw_ret2 rfl (.tmp rfl) (.tmp rfl) (.inl ⟨k37, [10], _, rfl, (by rw [escB_g (c := c13) (by assumption) (by omega) (by omega)]; repeat' split; all_goals first | omega | (congr 2 <;> first | omega | (congr 1; done); done)), bytes_one (by omega), (by show ka + 1 ≤ _; omega), by omega, .of_own k205 l210, hp42⟩) hB ha_)
        ·
         replace c202 := dF c202
         refine Sq fun K211 hK211 => (Rg (Va (dx_eql rfl rfl rfl) rfl rfl (Pu rfl (Ni (hK211 ?_)))))
         refine WC.cond rfl (fun c212 => ?_) (fun c212 => ?_)
         ·
          replace c212 := dT c212
          refine Sq fun K213 hK213 => (Rg ?_)
          refine Ge (dx_lit1 (r := [.int .u8 13]) rfl ty_ap_42 (by decide) (by decide) rfl rfl rfl) rfl rfl ?_
          rintro u218 W214 ⟨k215, b216, z217⟩
          have l220 := hB.size
          replace hp42 := hp42.below b216
          replace hB := Chg.thenB hB b216
          refine Pu rfl (Pu rfl (Ni (hK213 ?_)))
          exact WC.ret fun a_ ha_ => hQ (cw_ret2 rfl (.tmp rfl) (.tmp rfl) (.inl ⟨k37, [13], _, rfl, (by rw [escB_g (c := c13) (by assumption) (by omega) (by omega)]; repeat' split; all_goals first | omega | (congr 2 <;> first | omega | (congr 1; done); done)), bytes_one (by omega), (by show ka + 1 ≤ _; omega), by omega, .of_own k215 l220, hp42⟩) hB ha_)
         ·
          replace c212 := dF c212
          refine Sq fun K221 hK221 => (Rg (Va (dx_eql rfl rfl rfl) rfl rfl (Pu rfl (Ni (hK221 ?_)))))
          refine WC.cond rfl (fun c222 => ?_) (fun c222 => ?_)
          ·
           replace c222 := dT c222
           refine Sq fun K223 hK223 => (Rg ?_)
           refine Ge (dx_lit1 (r := [.int .u8 9]) rfl ty_ap_42 (by decide) (by decide) rfl rfl rfl) rfl rfl ?_
           rintro u228 W224 ⟨k225, b226, z227⟩
           have l230 := hB.size
           replace hp42 := hp42.below b226
           replace hB := Chg.thenB hB b226
           refine Pu rfl (Pu rfl (Ni (hK223 ?_)))
           exact WC.ret fun a_ ha_ => hQ (cw_ret2 rfl (.tmp rfl) (.tmp rfl) (.inl ⟨k37, [9], _, rfl, (by rw [escB_g (c := c13) (by assumption) (by omega) (by omega)]; repeat' split; all_goals first | omega | (congr 2 <;> first | omega | (congr 1; done); done)), bytes_one (by omega), (by show ka + 1 ≤ _; omega), by omega, .of_own k225 l230, hp42⟩) hB ha_)
          ·
           replace c222 := dF c222
           refine WC.skip (hK45 (Sq fun K231 hK231 => (Rg (Pu rfl (Pu rfl (Ni (hK231 ?_)))))))
           exact WC.ret fun a_ ha_ => hQ (cw_ret2 rfl (.tmp rfl) (.tmp rfl) (.inr ⟨k37, rfl, (by first | (apply escB_n <;> first | assumption | omega; done) | (apply escB_x <;> first | assumption | omega; done) | (refine escB_e (by assumption) (take_c (c := c13) (by assumption) (by assumption)); done) | (rw [escB_g (c := c13) (by assumption) (by omega) (by omega)]; repeat' split; all_goals first | rfl | omega)), by omega, hp42⟩) hB ha_)
 | true =>
  rw [hT31] at hk26
  have hthT31 := take_t hT31
  replace hk26 : k25 = ka + 1 := hk26
  refine Ni (hK21 (WC.condT rfl (Sq fun K232 hK232 => (Rg (Pu rfl ?_)))))
  refine Ge (dx_cw rfl Tryd.func77 rfl rfl rfl (escRune_v s P k25 dp W29 _ hL hPL hs (by omega) hp30)) rfl rfl ?_
  rintro _ W244 ⟨(⟨k233, r234, rfl, hf235, hf236, hf237, hf238, hf239, hp245⟩ | ⟨k242, rfl, hf240, hf241, hp245⟩), g243⟩
  ·
   replace hB := Chg.both hB g243
   refine Pu rfl (Pu rfl (Pu rfl (Pu rfl (Pu rfl (Ni (hK232 (Sq fun K246 hK246 => ?_)))))))
   refine Sq fun K247 hK247 => (Rg (Pu rfl (Va (dx_neq rfl rfl rfl) rfl rfl (Ni (hK247 (WC.condF rfl (WC.skip ?_)))))))
   refine hK246 (Sq fun K248 hK248 => (Rg (Pu rfl ?_)))
   refine Ge (dx_lit1 (r := [.int .i32 r234]) rfl ty_ap_75 (by decide) (by decide) rfl rfl rfl) rfl rfl ?_
   rintro u253 W249 ⟨k250, b251, z252⟩
   have l255 := hB.size
   replace hp245 := hp245.below b251
   replace hB := Chg.thenB hB b251
   have hsz := hB.size
   refine Ge (dx_cv rfl Tryd.func78 rfl rfl rfl (encode_cv u253 r234 W249 (rdI32_of (k250.rd (L := []) (by simp))))) rfl rfl ?_
   rintro _ W260 ⟨(⟨x256, rfl, hr257, hN258⟩ | ⟨rfl, hr257⟩), g259⟩
   ·
    replace hp245 := hp245.below g259
    replace hB := Chg.thenB hB g259
    refine Pu rfl (Pu rfl (Pu rfl (Pu rfl (Ni (hK248 ?_)))))
    exact WC.ret fun a_ ha_ => hQ (cw_ret2 rfl (.tmp rfl) (.tmp rfl) (.inl ⟨k233, encI r234, _, rfl, (by apply escB_r <;> first | assumption | omega), encI_bytes (isRune_in hr257).1 (isRune_in hr257).2, (by have := encI_len r234; omega), by omega, hN258.le hsz, hp245⟩) hB ha_)
   ·
    replace hp245 := hp245.below g259
    replace hB := Chg.thenB hB g259
    refine Pu rfl (Pu rfl (Pu rfl (Pu rfl (Ni (hK248 ?_)))))
    exact WC.ret fun a_ ha_ => hQ (cw_ret2 rfl (.tmp rfl) (.tmp rfl) (.inr ⟨k233, rfl, (by first | (apply escB_n <;> first | assumption | omega; done) | (apply escB_x <;> first | assumption | omega; done) | (refine escB_e (by assumption) (take_c (c := c13) (by assumption) (by assumption)); done) | (rw [escB_g (c := c13) (by assumption) (by omega) (by omega)]; repeat' split; all_goals first | rfl | omega)), by omega, hp245⟩) hB ha_)
  ·
   replace hB := Chg.both hB g243
   refine Pu rfl (Pu rfl (Pu rfl (Pu rfl (Pu rfl (Ni (hK232 (Sq fun K262 hK262 => ?_)))))))
   refine Sq fun K263 hK263 => (Rg (Pu rfl (Va (dx_neq rfl rfl rfl) rfl rfl (Ni (hK263 (WC.condT rfl (Sq fun K264 hK264 => ?_)))))))
   refine Rg (Pu rfl (Pu rfl (Pu rfl (Ni (hK264 ?_)))))
   exact WC.ret fun a_ ha_ => hQ (cw_ret2 rfl (.tmp rfl) (.tmp rfl) (.inr ⟨k242, rfl, (by first | (apply escB_n <;> first | assumption | omega; done) | (apply escB_x <;> first | assumption | omega; done) | (refine escB_e (by assumption) (take_c (c := c13) (by assumption) (by assumption)); done) | (rw [escB_g (c := c13) (by assumption) (by omega) (by omega)]; repeat' split; all_goals first | rfl | omega)), by omega, hp245⟩) hB ha_)

def qN (s : ByteArray) : Nat → Nat → List Int → Option (List Int × Nat)
 | 0, _, _ => none
 | n + 1, k, out => if k < s.size then
   (if atS s k < 32 then none else if atS s k = 34 then some (out, k + 1) else if atS s k = 92 then
    match escB s (k + 1) with
    | none => none
    | some (l, k') => qN s n k' (out ++ l)
   else qN s n (k + 1) (out ++ [atS s k]))
  else none
def quoS (s : ByteArray) (k : Nat) : Option (List Int × Nat) := qN s (s.size + 1) (k + 1) []
section
variable {s : ByteArray} {n k k1 k2 : Nat} {out l : List Int} {c : Int}
theorem qN_end (h : ¬ k < s.size) : qN s (n + 1) k out = none := by rw [qN, if_neg h]
theorem qN_lo (h : k < s.size) (hc : c = atS s k) (h1 : c < 32) : qN s (n + 1) k out = none := by subst hc; rw [qN, if_pos h, if_pos h1]
theorem qN_q (h : k < s.size) (hc : c = atS s k) (h1 : ¬ c < 32) (h2 : c = 34) (e : k1 = k + 1) : qN s (n + 1) k out = some (out, k1) := by subst hc e; rw [qN, if_pos h, if_neg h1, if_pos h2]
theorem qN_e0 (h : k < s.size) (hc : c = atS s k) (h1 : ¬ c < 32) (h2 : ¬ c = 34) (h3 : c = 92) (e : k1 = k + 1) (he : escB s k1 = none) : qN s (n + 1) k out = none := by subst hc e; rw [qN, if_pos h, if_neg h1, if_neg h2, if_pos h3, he]
theorem qN_e1 (h : k < s.size) (hc : c = atS s k) (h1 : ¬ c < 32) (h2 : ¬ c = 34) (h3 : c = 92) (e : k1 = k + 1) (he : escB s k1 = some (l, k2)) : qN s (n + 1) k out = qN s n k2 (out ++ l) := by subst hc e; rw [qN, if_pos h, if_neg h1, if_neg h2, if_pos h3, he]
theorem qN_d (h : k < s.size) (hc : c = atS s k) (h1 : ¬ c < 32) (h2 : ¬ c = 34) (h3 : ¬ c = 92) (e : k1 = k + 1) : qN s (n + 1) k out = qN s n k1 (out ++ [c]) := by subst hc e; rw [qN, if_pos h, if_neg h1, if_neg h2, if_neg h3]
theorem take_of (h : k < s.size) (hc : c = atS s k) : takeS s k c = true := by unfold takeS; rw [decide_eq_true h, decide_eq_true hc.symm]; rfl
end
theorem take_y (c : Int) (s : ByteArray) (P ka dp : Nat) (w : World) (L : List Nat) (hL : LL L w) (hPL : P ∈ L) (hs : s.size ≤ 1000000) (hk : ka ≤ s.size) (hp : Blk w P (psC s ka dp)) (hq : takeS s ka c = true) :
  CW Tryd.prog 47 [.pointer (some ⟨P, 0, none⟩), .int .u8 c] w P fun v W => ∃ k', v = .bool true ∧ k' = ka + 1 ∧ k' ≤ s.size ∧ Blk W P (psC s k' dp) :=
 Calls.mono (take_v c s P ka dp w L hL hPL hs hk hp) fun e w' h => by
  obtain ⟨v, he, ⟨k', h1, h2, h3⟩, h4⟩ := h
  rw [hq] at h1 h2
  exact ⟨v, he, ⟨k', h1, h2, h3⟩, h4⟩
def NwP (P base : Nat) (l : List Int) (u : Value) (w : World) : Prop := P < base ∧ NewW 1 base (l.map e8) u w
theorem NwP.below {P base : Nat} {l : List Int} {u : Value} {w w' : World} (h : NwP P base l u w) (hb : Below w.heap.size w w') : NwP P base l u w' := ⟨h.1, h.2.below hb⟩
theorem NwP.chgL {P base : Nat} {l : List Int} {u : Value} {w w' : World} (h : NwP P base l u w) (g : Chg P w w') {L : List Nat} (_ : P ∈ L) : NwP P base l u w' := ⟨h.1, h.2.chg g h.1⟩
theorem fold_push (ns : List Int) : ∀ s : ByteArray, (ns.foldl (fun r n => r.push (UInt8.ofNat n.toNat)) s).data.toList = s.data.toList ++ ns.map fun n => UInt8.ofNat n.toNat := by
 induction ns with
 | nil => intro s; simp
 | cons n ns ih => intro s; rw [List.foldl_cons, ih]; simp
theorem fold_strOf (ns : List Int) : ns.foldl (fun r n => r.push (UInt8.ofNat n.toNat)) ByteArray.empty = strOfNums ns := by
 have h := fold_push ns ByteArray.empty
 generalize ns.foldl (fun r n => r.push (UInt8.ofNat n.toNat)) ByteArray.empty = x at h
 cases x with
 | mk d =>
  unfold strOfNums
  congr 1
  apply Array.toList_inj.1
  exact h
section
variable {P : Program} {ops : Array Oper} {o : Oper} {N : Nat} {f : Fl} {w : World}
theorem dx_bs {t d e : TypeId} {x : Operand} {u : Value} {l : List Int} {L : List Nat} (ho : o.op = .convert t d x) (hs : P.underlying t = some (.slice e)) (hd : P.underlying d = some .string) (he : P.underlying e = some (.int .u8)) (hx : ev f x = some u) (h : RdF 1 L w u (l.map e8)) (hw : wantF ops o f = some true := by rfl) : DV P ops o N f w (.string (strOfNums l)) := fun a ha => by
 obtain ⟨_, _, A, cap, rfl, h2, h3, h4, h5⟩ := h
 have hx := ha.ev hx
 have hc : (Conv.bytesToString (.slice A (l.map e8).length cap)).run P w = .ok (.string (strOfNums l)) w := by
  cases hl : l with
  | nil =>
   cases A with
   | none => unfold Conv.bytesToString; simp [Sem.run_pure]; rfl
   | some q =>
    have := run_bytesToString (P := P) w q 0 cap [] (run_loadCells_list w q [] (fun j v hj => by cases hj))
    exact this
  | cons z t =>
   obtain ⟨X, q, rfl, _, hr⟩ := h5 (by rw [hl]; exact List.cons_ne_nil _ _)
   rw [← hl, List.length_map]
   have hq := run_loadCells_list (P := P) w ⟨X, q, none⟩ (l.map (Value.int .u8)) (fun j v hj => by have := hr j v (by rw [show (l.map e8).flatten = l.map (Value.int .u8) from flat_one l]; exact hj); simp only [Addr.add]; split; (rename_i h0; subst h0; exact this); exact this)
   rw [List.length_map] at hq
   rw [run_bytesToString w ⟨X, q, none⟩ l.length cap l hq, fold_strOf]
 exact Does.pure (wantF_of ha hw) _ (by unfold execOp; simp only [ho, hx, Sem.run_bind, Sem.run_pure, run_convert_bytes_string w t d e A _ _ hs he hd, hc, Result.andThen_ok]) ⟨rfl, rfl⟩
end
set_option maxHeartbeats 1000000 in
theorem quoted_v  (s : ByteArray) (P ka dp : Nat) (w : World) (L : List Nat) (hL : LL L w) (hPL : P ∈ L) (hs : s.size ≤ 1000000) (hk : ka ≤ s.size) (hp : Blk w P (psC s ka dp))  (hq : takeS s ka 34 = true) : CW Tryd.prog 51 [.pointer (some ⟨P, 0, none⟩)] w P fun v W => (∃ k' l, v = .tuple #[.string (strOfNums l), .int .i64 0] ∧ quoS s ka = some (l, k') ∧ Bytes l ∧ l.length ≤ k' ∧ ka < k' ∧ k' ≤ s.size ∧ Blk W P (psC s k' dp)) ∨ (∃ k', v = .tuple #[.string ⟨#[]⟩, .int .i64 2] ∧ quoS s ka = none ∧ k' ≤ s.size ∧ Blk W P (psC s k' dp)) := by
 refine cw_enter (N := 62) (f := [(0, .pointer (some ⟨P, 0, none⟩))]) Tryd.func51 rfl rfl rfl rfl fun Q hQ hE => ?_
 have hB := Chg.refl P w
 have hL0 := hL
 refine Sq fun K1 hK1 => (Rg (Pu rfl (Pu rfl (Ni (hK1 (Sq fun K2 hK2 => (Rg ?_)))))))
 refine Pu rfl (Va (dx_nilCheck rfl rfl) rfl rfl (Va (dx_fld (o1 := 0) rfl ty_fld_59_0_0 rfl rfl) rfl rfl ?_))
 refine Ge (dx_cw rfl Tryd.func47 rfl rfl rfl (take_y 34 s P ka dp w _ hL hPL hs (by omega) hp hq)) rfl rfl ?_
 rintro _ W10 ⟨⟨k6, rfl, hk7, hk8, hp11⟩, g9⟩
 replace hB := Chg.both hB g9
 replace hL := hL.chg g9
 refine Ni (hK2 (Sq fun K12 hK12 => ?_))
 have hPw : P < w.heap.size := hL0 P hPL
 have h5 : NwP P w.heap.size [] (.slice none 0 0) W10 := ⟨hPw, .inl ⟨rfl, rfl, by decide⟩⟩
 refine Rg (Pu rfl (Ni (hK12 (Sq fun K13 hK13 => (WC.block ?_)))))
 refine WC.loop3 (fun (kb : Nat) (ov : Value) (out : List Int) => [(0, .pointer (some ⟨P, 0, none⟩)), (4, ov)]) (fun (kb : Nat) (ov : Value) (out : List Int) W => kb ≤ s.size ∧ ka < kb ∧ Bytes out ∧ out.length ≤ kb ∧ (∃ n, s.size - kb < n ∧ quoS s ka = qN s n kb out) ∧ Chg P w W ∧ LL (L) W ∧ NwP P w.heap.size out ov W ∧ Blk W P [.string s, .int .i64 (kb : Int), .int .i64 (dp : Int)]) (fun (kb : Nat) (ov : Value) (out : List Int) => s.size - kb) k6 (.slice none 0 0) [] (by repeat first | exact trivial | exact And.intro rfl trivial | refine And.intro rfl ?_ | refine And.intro (congrArg (fun z : Int => some (Value.int .i64 z)) (by omega)) ?_) ⟨(by omega), (by omega), (fun x hx => by cases hx), (Nat.zero_le _), ⟨s.size + 1, by omega, by rw [hk7]; rfl⟩, hB, hL, h5, hp11⟩ ?_
 clear h5 hp11 hB hL
 rintro K14 kb ov out W15 ⟨hkb, hkk, hB8, hol, hv, hB, hL, h5, hp11⟩ hK14
 refine Sq fun K16 hK16 => (Sq fun K17 hK17 => (Rg (Pu rfl (Va (dx_nilCheck rfl rfl) rfl rfl (Va (dx_fld (o1 := 0) rfl ty_fld_59_0_0 rfl rfl) rfl rfl ?_)))))
 refine Ge (dx_cv rfl Tryd.func34 rfl rfl rfl (ended_v s P kb dp W15 _ hL hPL hs (by omega) hp11)) rfl rfl ?_
 rintro _ W19 ⟨rfl, b18⟩
 replace h5 := h5.below b18
 replace hp11 := hp11.below b18
 replace hB := Chg.thenB hB b18
 replace hL := LL.below hL b18
 refine Va (dx_not rfl rfl) rfl rfl (Ni (hK17 ?_))
 refine WC.cond rfl (fun c20 => ?_) (fun c20 => ?_)
 ·
  replace c20 := bnot_t c20
  replace c20 := dF c20
  refine WC.skip (hK16 (WC.block (Sq fun K21 hK21 => ?_)))
  obtain ⟨n_, hn1, hv⟩ := hv
  obtain ⟨n, rfl⟩ : ∃ m, n_ = m + 1 := ⟨n_ - 1, by omega⟩
  refine Rg (Pu rfl (Va (dx_nilCheck rfl rfl) rfl rfl (Va (dx_fld (o1 := 0) rfl ty_fld_59_0_0 rfl rfl) rfl rfl ?_)))
  refine Ge (dx_cv rfl Tryd.func48 rfl rfl rfl (peek_c s P kb dp W19 _ hL hPL hs (by omega) hp11)) rfl rfl ?_
  rintro _ W38 ⟨⟨c32, rfl, hc33, hc34, hc35, hc36⟩, b37⟩
  replace h5 := h5.below b37
  replace hp11 := hp11.below b37
  replace hB := Chg.thenB hB b37
  replace hL := LL.below hL b37
  refine Pu rfl (Ni (hK21 (WC.block (Sq fun K39 hK39 => (Rg (Pu rfl (Va (dx_lss rfl rfl rfl) rfl rfl ?_)))))))
  refine Pu rfl (Ni (hK39 ?_))
  refine WC.cond rfl (fun c40 => ?_) (fun c40 => ?_)
  ·
   replace c40 := dT c40
   refine Sq fun K41 hK41 => (Rg (Pu rfl (Pu rfl (Ni (hK41 ?_)))))
   exact WC.ret fun a_ ha_ => hQ (cw_ret2 rfl (.tmp rfl) (.tmp rfl) (.inr ⟨kb, rfl, (by first | exact hv.trans (qN_lo (by omega) (hc35 (by omega)) (by omega)) | exact hv.trans (qN_e0 (by omega) (hc35 (by omega)) (by omega) (by omega) (by omega) (by assumption) (by assumption)) | (obtain ⟨n_, hn1, hv⟩ := hv; obtain ⟨n, rfl⟩ : ∃ m, n_ = m + 1 := ⟨n_ - 1, by omega⟩; exact hv.trans (qN_end (by omega)))), by omega, hp11⟩) hB ha_)
  ·
   replace c40 := dF c40
   refine Sq fun K42 hK42 => (Rg (Pu rfl (Va (dx_eql rfl rfl rfl) rfl rfl (Pu rfl (Ni (hK42 ?_))))))
   refine WC.cond rfl (fun c43 => ?_) (fun c43 => ?_)
   ·
    replace c43 := dT c43
    refine Sq fun K44 hK44 => (Rg (Pu rfl (Va (dx_nilCheck rfl rfl) rfl rfl (Va (dx_fld (o1 := 0) rfl ty_fld_59_0_0 rfl rfl) rfl rfl (Pu rfl ?_)))))
    refine Ge (dx_cw rfl Tryd.func47 rfl rfl rfl (take_y c32 s P kb dp W38 _ hL hPL hs (by omega) hp11 (take_of (by omega) (hc35 (by omega))))) rfl rfl ?_
    rintro _ W52 ⟨⟨k48, rfl, hk49, hk50, hp53⟩, g51⟩
    replace h5 := h5.chgL g51 hPL
    replace hB := Chg.both hB g51
    refine Ni (hK44 (Sq fun K54 hK54 => (Rg (Pu rfl (Va (dx_bs (l := out) rfl Tryd.underlying42 Tryd.underlying9 Tryd.underlying5 rfl (h5.2.rd (L := []) (by simp))) rfl rfl (Pu rfl (Pu rfl ?_)))))))
    refine Ni (hK54 ?_)
    exact WC.ret fun a_ ha_ => hQ (cw_ret2 rfl (.tmp rfl) (.tmp rfl) (.inl ⟨k48, out, rfl, hv.trans (qN_q (by omega) (hc35 (by omega)) (by omega) (by omega) (by assumption)), hB8, by omega, by omega, by omega, hp53⟩) hB ha_)
   ·
    replace c43 := dF c43
    refine Sq fun K55 hK55 => (Rg (Pu rfl (Va (dx_eql rfl rfl rfl) rfl rfl (Pu rfl (Ni (hK55 ?_))))))
    refine WC.cond rfl (fun c56 => ?_) (fun c56 => ?_)
    ·
     replace c56 := dT c56
     refine Sq fun K57 hK57 => (Rg (Pu rfl (Va (dx_nilCheck rfl rfl) rfl rfl (Va (dx_fld (o1 := 0) rfl ty_fld_59_0_0 rfl rfl) rfl rfl (Pu rfl ?_)))))
     refine Ge (dx_cw rfl Tryd.func47 rfl rfl rfl (take_y c32 s P kb dp W38 _ hL hPL hs (by omega) hp11 (take_of (by omega) (hc35 (by omega))))) rfl rfl ?_
     rintro _ W65 ⟨⟨k61, rfl, hk62, hk63, hp66⟩, g64⟩
     replace h5 := h5.chgL g64 hPL
     replace hB := Chg.both hB g64
     replace hL := hL.chg g64
     refine Ni (hK57 (Sq fun K67 hK67 => (Rg (Pu rfl ?_))))
     refine Ge (dx_cw rfl Tryd.func65 rfl rfl rfl (escape_v s P k61 dp W65 _ hL hPL hs (by omega) hp66)) rfl rfl ?_
     rintro _ W79 ⟨(⟨k68, l69, x70, rfl, hf71, hf72, hf73, hf74, hf75, hp80⟩ | ⟨k77, rfl, hf71, hf74, hp80⟩), g78⟩
     ·
      replace h5 := h5.chgL g78 hPL
      replace hB := Chg.both hB g78
      replace hL := hL.chg g78
      refine Pu rfl (Pu rfl (Pu rfl (Pu rfl (Pu rfl (Ni (hK67 (Sq fun K81 hK81 => ?_)))))))
      refine Sq fun K82 hK82 => (Rg (Pu rfl (Va (dx_neq rfl rfl rfl) rfl rfl (Ni (hK82 (WC.condF rfl (WC.skip ?_)))))))
      refine hK81 (Rg (Pu rfl (Pu rfl ?_)))
      refine Ge (dx_apW (base := w.heap.size) (news := l69.map e8) rfl ty_ap_42 rfl rfl h5.2 (hf75.rd (L := []) (by simp)) (oc_e8 l69) (by simp [maxLen]; omega) (by simp; omega) hB.size) rfl rfl ?_
      rintro x83 W84 ⟨h6, b85⟩
      replace h5 : NwP P w.heap.size (out ++ l69) x83 W84 := ⟨hPw, by rw [List.map_append]; exact h6⟩
      replace hp80 := hp80.base b85 hPw
      replace hB := hB.thenBase b85
      replace hL := hL.base b85
      refine Pu rfl (Ni ?_)
      exact hK14 k68 x83 (out ++ l69) ⟨(by omega), (by omega), (hB8.append hf72), (by simp; omega), ⟨n, by omega, hv.trans (qN_e1 (by omega) (hc35 (by omega)) (by omega) (by omega) (by omega) (by assumption) hf71)⟩, hB, hL, h5, hp80⟩ (by omega) (by repeat first | exact trivial | exact And.intro rfl trivial | refine And.intro rfl ?_ | refine And.intro (congrArg (fun z : Int => some (Value.int .i64 z)) (by omega)) ?_)
     ·
      replace hB := Chg.both hB g78
      refine Pu rfl (Pu rfl (Pu rfl (Pu rfl (Pu rfl (Ni (hK67 (Sq fun K86 hK86 => ?_)))))))
      refine Sq fun K87 hK87 => (Rg (Pu rfl (Va (dx_neq rfl rfl rfl) rfl rfl (Ni (hK87 (WC.condT rfl (Sq fun K88 hK88 => ?_)))))))
      refine Rg (Pu rfl (Pu rfl (Pu rfl (Ni (hK88 ?_)))))
      exact WC.ret fun a_ ha_ => hQ (cw_ret2 rfl (.tmp rfl) (.tmp rfl) (.inr ⟨k77, rfl, (by first | exact hv.trans (qN_lo (by omega) (hc35 (by omega)) (by omega)) | exact hv.trans (qN_e0 (by omega) (hc35 (by omega)) (by omega) (by omega) (by omega) (by assumption) (by assumption)) | (obtain ⟨n_, hn1, hv⟩ := hv; obtain ⟨n, rfl⟩ : ∃ m, n_ = m + 1 := ⟨n_ - 1, by omega⟩; exact hv.trans (qN_end (by omega)))), by omega, hp80⟩) hB ha_)
    ·
     replace c56 := dF c56
     refine Sq fun K89 hK89 => (Rg (Pu rfl (Va (dx_nilCheck rfl rfl) rfl rfl (Va (dx_fld (o1 := 0) rfl ty_fld_59_0_0 rfl rfl) rfl rfl (Pu rfl ?_)))))
     refine Ge (dx_cw rfl Tryd.func47 rfl rfl rfl (take_y c32 s P kb dp W38 _ hL hPL hs (by omega) hp11 (take_of (by omega) (hc35 (by omega))))) rfl rfl ?_
     rintro _ W97 ⟨⟨k93, rfl, hk94, hk95, hp98⟩, g96⟩
     replace h5 := h5.chgL g96 hPL
     replace hB := Chg.both hB g96
     replace hL := hL.chg g96
     refine Ni (hK89 (Rg (Pu rfl (Pu rfl ?_))))
     refine Ge (dx_lit1 (r := e8 c32) rfl ty_ap_42 (by decide) (by decide) rfl rfl rfl) rfl rfl ?_
     rintro x99 W100 ⟨k102, b101, z103⟩
     replace h5 := h5.below b101
     replace hp98 := hp98.below b101
     replace hB := Chg.thenB hB b101
     replace hL := LL.below hL b101
     have hx := k102.rd (L := []) (by simp)
     refine Ge (dx_apW (base := w.heap.size) (news := [c32].map e8) rfl ty_ap_42 rfl rfl h5.2 hx (oc_e8 [c32]) (by simp [maxLen]; omega) (by simp; omega) hB.size) rfl rfl ?_
     rintro x104 W105 ⟨h6, b106⟩
     replace h5 : NwP P w.heap.size (out ++ [c32]) x104 W105 := ⟨hPw, by rw [List.map_append]; exact h6⟩
     replace hp98 := hp98.base b106 hPw
     replace hB := hB.thenBase b106
     replace hL := hL.base b106
     refine Pu rfl (Ni ?_)
     exact hK14 k93 x104 (out ++ [c32]) ⟨(by omega), (by omega), (hB8.append (bytes_one (by omega))), (by simp; omega), ⟨n, by omega, hv.trans (qN_d (by omega) (hc35 (by omega)) (by omega) (by omega) (by omega) (by omega))⟩, hB, hL, h5, hp98⟩ (by omega) (by repeat first | exact trivial | exact And.intro rfl trivial | refine And.intro rfl ?_ | refine And.intro (congrArg (fun z : Int => some (Value.int .i64 z)) (by omega)) ?_)
 ·
  replace c20 := bnot_f c20
  replace c20 := dT c20
  refine WC.exit ?_
  refine hK13 (Sq fun K107 hK107 => (Rg (Pu rfl (Pu rfl (Ni (hK107 ?_))))))
  exact WC.ret fun a_ ha_ => hQ (cw_ret2 rfl (.tmp rfl) (.tmp rfl) (.inr ⟨kb, rfl, (by first | exact hv.trans (qN_lo (by omega) (hc35 (by omega)) (by omega)) | exact hv.trans (qN_e0 (by omega) (hc35 (by omega)) (by omega) (by omega) (by omega) (by assumption) (by assumption)) | (obtain ⟨n_, hn1, hv⟩ := hv; obtain ⟨n, rfl⟩ : ∃ m, n_ = m + 1 := ⟨n_ - 1, by omega⟩; exact hv.trans (qN_end (by omega)))), by omega, hp11⟩) hB ha_)

def accN (s : ByteArray) : Nat → Nat → Int → Option Int
 | 0, _, n => some n
 | i + 1, k, n => if 9007199254740991 < n * 10 + (atS s k - 48) then none else accN s i (k + 1) (n * 10 + (atS s k - 48))
def numT (s : ByteArray) (m : Bool) (k : Nat) : Except Int (Int × Nat) :=
 if k < s.size ∧ atS s k = 48 then (if m = true then .error 2 else .ok (0, k + 1))
 else if digS s k = k then .error 2 else match accN s (digS s k - k) k 0 with
  | none => .error 5
  | some n => .ok (if m = true then -n else n, digS s k)
def numS (s : ByteArray) (k : Nat) : Except Int (Int × Nat) := if takeS s k 45 = true then numT s true (k + 1) else numT s false k
section
variable {s : ByteArray} {k k1 k2 : Nat} {m : Bool} {n : Int}
theorem numS_t (h : takeS s k 45 = true) (e : k1 = k + 1) : numS s k = numT s true k1 := by subst e; unfold numS; rw [if_pos h]
theorem numS_f (h : takeS s k 45 = false) : numS s k = numT s false k := by unfold numS; rw [h]; rfl
theorem numT_z (h : k < s.size ∧ atS s k = 48) (e : k1 = k + 1) : numT s false k = .ok (0, k1) := by subst e; unfold numT; rw [if_pos h]; rfl
theorem numT_m (h : k < s.size ∧ atS s k = 48) : numT s true k = .error 2 := by unfold numT; rw [if_pos h]; rfl
theorem numT_0 (h : ¬ (k < s.size ∧ atS s k = 48)) (h2 : digS s k = k) : numT s m k = .error 2 := by unfold numT; rw [if_neg h, if_pos h2]
theorem numT_n (h : ¬ (k < s.size ∧ atS s k = 48)) (h2 : ¬ digS s k = k) (h3 : accN s (digS s k - k) k 0 = none) : numT s m k = .error 5 := by unfold numT; rw [if_neg h, if_neg h2, h3]
theorem numT_s (h : ¬ (k < s.size ∧ atS s k = 48)) (h2 : ¬ digS s k = k) (h3 : accN s (digS s k - k) k 0 = some n) : numT s m k = .ok (if m = true then -n else n, digS s k) := by unfold numT; rw [if_neg h, if_neg h2, h3]
end
theorem dig_all (s : ByteArray) : ∀ (f k i : Nat), k ≤ i → i < digN s f k → isDig (atS s i) = true
  | 0, k, i, h1, h2 => by unfold digN at h2; omega
  | f + 1, k, i, h1, h2 => by
    unfold digN at h2
    split at h2
    · rename_i hc
      rw [Bool.and_eq_true, decide_eq_true_eq] at hc
      rcases Nat.eq_or_lt_of_le h1 with rfl | h3
      · exact hc.2
      · exact dig_all s f (k + 1) i h3 h2
    · omega
theorem digS_all {s : ByteArray} {k i : Nat} (h1 : k ≤ i) (h2 : i < digS s k) : 48 ≤ atS s i ∧ atS s i ≤ 57 := by
 have := dig_all s _ k i h1 h2
 unfold isDig at this
 rw [Bool.and_eq_true, decide_eq_true_eq, decide_eq_true_eq] at this
 exact this
theorem at_extract (s : ByteArray) (i j k : Nat) (h : i + k < j) (hj : j ≤ s.size) : atS (s.extract i j) k = atS s (i + k) := by
 unfold atS
 have h1 : (s.extract i j).data = s.data.extract i j := by simp [ByteArray.data_extract]
 rw [h1, Array.getElem?_extract, if_pos (by have : s.data.size = s.size := rfl; omega)]
theorem empty_of {t : ByteArray} (h : t.size = 0) : t = ⟨#[]⟩ := by
 cases t with
 | mk d => congr 1; exact Array.eq_empty_of_size_eq_zero h
theorem digits_c (s : ByteArray) (P ka dp : Nat) (w : World) (L : List Nat) (hL : LL L w) (hPL : P ∈ L) (hs : s.size ≤ 1000000) (hk : ka ≤ s.size) (hp : Blk w P (psC s ka dp)) :
  CW Tryd.prog 64 [.pointer (some ⟨P, 0, none⟩)] w P fun v W => ∃ k' tx, v = .string tx ∧ k' = digS s ka ∧ ka ≤ k' ∧ k' ≤ s.size ∧ tx.size = k' - ka ∧ (∀ i, i < k' - ka → atS tx i = atS s (ka + i)) ∧ (∀ i, i < k' - ka → 48 ≤ atS s (ka + i) ∧ atS s (ka + i) ≤ 57) ∧ Blk W P (psC s k' dp) :=
 Calls.mono (digits_v s P ka dp w L hL hPL hs hk hp) fun e w' h => by
  obtain ⟨v, he, ⟨h1, h2⟩, h3⟩ := h
  have h4 := digS_le (s := s) (k := ka) hk
  exact ⟨v, he, ⟨digS s ka, _, h1, rfl, h4.1, h4.2, by rw [ByteArray.size_extract]; omega, fun i hi => at_extract s ka (digS s ka) i (by omega) h4.2, fun i hi => digS_all (k := ka) (i := ka + i) (by omega) (by omega), h2⟩, h3⟩
section
variable {P : Program} {ops : Array Oper} {o : Oper} {N : Nat} {f : Fl} {w : World}
theorem dx_neg {t : TypeId} {x : Operand} {K : IntKind} {m r : Int} (ho : o.op = .unOp .neg t x) (hx : ev f x = some (.int K m)) (hr : K.wrap (-m) = r) (hw : wantF ops o f = some true := by rfl) : DV P ops o N f w (.int K r) := fun a ha =>
 Does.pure (wantF_of ha hw) _ (by unfold execOp; simp only [ho, ha.ev hx]; simp [Op.unary, Op.intArith, hr, Sem.run_pure]) ⟨rfl, rfl⟩
end
theorem acc_go {s : ByteArray} {i k : Nat} {n : Int} (h : ¬ 9007199254740991 < n * 10 + (atS s k - 48)) : accN s (i + 1) k n = accN s i (k + 1) (n * 10 + (atS s k - 48)) := by rw [accN, if_neg h]
theorem acc_no {s : ByteArray} {i k : Nat} {n : Int} (h : 9007199254740991 < n * 10 + (atS s k - 48)) : accN s (i + 1) k n = none := by rw [accN, if_pos h]
set_option maxHeartbeats 1000000 in
theorem plain_v (wd : ByteArray) (kd : Int) (s : ByteArray) (P ka dp : Nat) (w : World) (L : List Nat) (hL : LL L w) (hPL : P ∈ L) (hs : s.size ≤ 1000000) (hk : ka ≤ s.size) (hp : Blk w P (psC s ka dp))  (hwd : wd.size ≤ 1000) : CW Tryd.prog 49 [.pointer (some ⟨P, 0, none⟩), .string wd, .int .i64 kd] w P fun v W => (∃ k', v = .tuple #[.agg #[.int .i64 kd, .int .i64 0, .string ⟨#[]⟩, .slice none 0 0, .slice none 0 0], .int .i64 0] ∧ wordS s wd ka = true ∧ k' = ka + wd.size ∧ k' ≤ s.size ∧ Blk W P (psC s k' dp)) ∨ (∃ k', v = .tuple #[.agg #[.int .i64 0, .int .i64 0, .string ⟨#[]⟩, .slice none 0 0, .slice none 0 0], .int .i64 2] ∧ wordS s wd ka = false ∧ k' ≤ s.size ∧ Blk W P (psC s k' dp)) := by
 refine cw_enter (N := 17) (f := [(0, .pointer (some ⟨P, 0, none⟩)), (1, .string wd), (2, .int .i64 kd)]) Tryd.func49 rfl rfl rfl rfl fun Q hQ hE => ?_
 have hB := Chg.refl P w
 have hL0 := hL
 refine Sq fun K1 hK1 => (Rg ?_)
 refine Ge (dx_alloc rfl ty_zero_25 rfl) rfl rfl ?_
 rintro _ W2 ⟨rfl, k3, b4, z5⟩
 have n6 : P ≠ w.heap.size := Nat.ne_of_lt hp.lt
 have l7 := hB.size
 replace hp := hp.below b4
 replace hB := Chg.thenB hB b4
 replace hL := LL.more hL z5
 refine Pu rfl (Ni (hK1 (Sq fun K8 hK8 => (Sq fun K9 hK9 => (Rg (Pu rfl (Va (dx_nilCheck rfl rfl) rfl rfl ?_)))))))
 refine Va (dx_fld (o1 := 0) rfl ty_fld_59_0_0 rfl rfl) rfl rfl (Pu rfl ?_)
 refine Ge (dx_cw rfl Tryd.func63 rfl rfl rfl (word_v wd s P ka dp W2 _ hL (.tail _ hPL) hs (by omega) hp hwd)) rfl rfl ?_
 rintro _ W19 ⟨⟨k14, rfl, hk15, hk16, hk17, hp20⟩, g18⟩
 replace k3 := k3.chg g18 n6.symm
 replace hB := Chg.both hB g18
 cases hT21 : wordS s wd ka with
 | false =>
  clear hk17
  refine Va (dx_not rfl rfl) rfl rfl (Ni (hK9 (WC.condT rfl (Sq fun K22 hK22 => (Rg (Va (dx_build rfl rfl (built_of_O (cs := zV) (by kernel_rfl) oc_nil)) rfl rfl ?_))))))
  refine WL.do (dx_store (cs' := zV) (vs := zV) rfl ty_size_25_5 rfl rfl rfl (oc_cons rfl (oc_cons rfl (oc_cons rfl (oc_cons rfl (oc_cons rfl oc_nil))))) k3 rfl (Nat.le_of_ble_eq_true rfl) rfl) rfl ?_
  rintro _ W23 ⟨k25, o24⟩
  replace hp20 := hp20.other o24 n6
  clear k3
  replace hB := Chg.only hB o24 (.inr l7)
  refine Pu rfl (Ni (hK22 ?_))
  exact WC.ret fun a_ ha_ => hQ (cw_ret2 rfl (.agg rfl ty_agg_25_5 k25.range rfl) (.tmp rfl) (.inr ⟨k14, rfl, by assumption, by omega, hp20⟩) hB ha_)
 | true =>
  replace hk17 := hk17 hT21
  refine Va (dx_not rfl rfl) rfl rfl (Ni (hK9 (WC.condF rfl (WC.skip (hK8 (Sq fun K26 hK26 => (Rg ?_)))))))
  refine Pu rfl (Va (dx_build rfl rfl (built_of_O (cs := [.int .i64 kd, .int .i64 0, .string ⟨#[]⟩, .slice none 0 0, .slice none 0 0]) (by kernel_rfl) (oc_cons rfl oc_nil))) rfl rfl ?_)
  refine WL.do (dx_store (cs' := [.int .i64 kd, .int .i64 0, .string ⟨#[]⟩, .slice none 0 0, .slice none 0 0]) (vs := [.int .i64 kd, .int .i64 0, .string ⟨#[]⟩, .slice none 0 0, .slice none 0 0]) rfl ty_size_25_5 rfl rfl rfl (oc_cons rfl (oc_cons rfl (oc_cons rfl (oc_cons rfl (oc_cons rfl oc_nil))))) k3 rfl (Nat.le_of_ble_eq_true rfl) rfl) rfl ?_
  rintro _ W27 ⟨k29, o28⟩
  replace hp20 := hp20.other o28 n6
  clear k3
  replace hB := Chg.only hB o28 (.inr l7)
  refine Pu rfl (Ni (hK26 ?_))
  exact WC.ret fun a_ ha_ => hQ (cw_ret2 rfl (.agg rfl ty_agg_25_5 k29.range rfl) (.tmp rfl) (.inl ⟨k14, rfl, by assumption, by omega, by omega, hp20⟩) hB ha_)

set_option maxHeartbeats 1000000 in
theorem number_v  (s : ByteArray) (P ka dp : Nat) (w : World) (L : List Nat) (hL : LL L w) (hPL : P ∈ L) (hs : s.size ≤ 1000000) (hk : ka ≤ s.size) (hp : Blk w P (psC s ka dp))   : CW Tryd.prog 50 [.pointer (some ⟨P, 0, none⟩)] w P fun v W => (∃ k' n, v = .tuple #[.agg #[.int .i64 3, .int .i64 n, .string ⟨#[]⟩, .slice none 0 0, .slice none 0 0], .int .i64 0] ∧ numS s ka = .ok (n, k') ∧ -9007199254740991 ≤ n ∧ n ≤ 9007199254740991 ∧ ka < k' ∧ k' ≤ s.size ∧ Blk W P (psC s k' dp)) ∨ (∃ k' e, v = .tuple #[.agg #[.int .i64 0, .int .i64 0, .string ⟨#[]⟩, .slice none 0 0, .slice none 0 0], .int .i64 e] ∧ e ≠ 0 ∧ numS s ka = .error e ∧ k' ≤ s.size ∧ Blk W P (psC s k' dp)) := by
 refine cw_enter (N := 53) (f := [(0, .pointer (some ⟨P, 0, none⟩))]) Tryd.func50 rfl rfl rfl rfl fun Q hQ hE => ?_
 have hB := Chg.refl P w
 have hL0 := hL
 refine Sq fun K1 hK1 => (Rg ?_)
 refine Ge (dx_alloc rfl ty_zero_25 rfl) rfl rfl ?_
 rintro _ W2 ⟨rfl, k3, b4, z5⟩
 have n6 : P ≠ w.heap.size := Nat.ne_of_lt hp.lt
 have l7 := hB.size
 replace hp := hp.below b4
 replace hB := Chg.thenB hB b4
 replace hL := LL.more hL z5
 refine Pu rfl (Ni (hK1 (Sq fun K8 hK8 => (Rg (Pu rfl (Va (dx_nilCheck rfl rfl) rfl rfl (Va (dx_fld (o1 := 0) rfl ty_fld_59_0_0 rfl rfl) rfl rfl ?_)))))))
 refine Ge (dx_cw rfl Tryd.func47 rfl rfl rfl (take_v 45 s P ka dp W2 _ hL (.tail _ hPL) hs (by omega) hp)) rfl rfl ?_
 rintro _ W16 ⟨⟨k12, rfl, hk13, hk14, hp17⟩, g15⟩
 replace k3 := k3.chg g15 n6.symm
 replace hB := Chg.both hB g15
 replace hL := hL.chg g15
 cases hT18 : takeS s ka 45 with
 | false =>
  rw [hT18] at hk13
  replace hk13 : ka = k12 := Eq.symm hk13
  subst hk13
  refine Pu rfl (Ni (hK8 (Sq fun K19 hK19 => (Sq fun K20 hK20 => ?_))))
  have hnum : numS s ka = numT s false ka := numS_f (by assumption)
  refine Rg (Pu rfl (Va (dx_nilCheck rfl rfl) rfl rfl (Va (dx_fld (o1 := 0) rfl ty_fld_59_0_0 rfl rfl) rfl rfl ?_)))
  refine Ge (dx_cv rfl Tryd.func48 rfl rfl rfl (peek_c s P ka dp W16 _ hL (.tail _ hPL) hs (by omega) hp17)) rfl rfl ?_
  rintro _ W37 ⟨⟨c31, rfl, hc32, hc33, hc34, hc35⟩, b36⟩
  replace hp17 := hp17.below b36
  replace k3 := k3.below b36
  replace hB := Chg.thenB hB b36
  replace hL := LL.below hL b36
  refine Va (dx_eql rfl rfl rfl) rfl rfl (Ni (hK20 ?_))
  refine WC.cond rfl (fun c38 => ?_) (fun c38 => ?_)
  ·
   replace c38 := dT c38
   refine Sq fun K39 hK39 => (Rg (Pu rfl (Va (dx_nilCheck rfl rfl) rfl rfl (Va (dx_fld (o1 := 0) rfl ty_fld_59_0_0 rfl rfl) rfl rfl ?_))))
   refine Ge (dx_cw rfl Tryd.func47 rfl rfl rfl (take_y 48 s P ka dp W37 _ hL (.tail _ hPL) hs (by omega) hp17 (take_of (by rcases Nat.lt_or_ge ka s.size with h_ | h_; exact h_; (have := hc35 h_; omega)) (by have h_ : ka < s.size := (by rcases Nat.lt_or_ge ka s.size with h_ | h_; exact h_; (have := hc35 h_; omega)); have := hc34 h_; omega)))) rfl rfl ?_
   rintro _ W47 ⟨⟨k43, rfl, hk44, hk45, hp48⟩, g46⟩
   replace k3 := k3.chg g46 n6.symm
   replace hB := Chg.both hB g46
   refine Ni (hK39 (Sq fun K49 hK49 => (Sq fun K50 hK50 => (Rg (Pu rfl (Ni (hK50 ?_)))))))
   refine WC.condF rfl (WC.skip (hK49 (Sq fun K51 hK51 => (Rg (Va (dx_build rfl rfl (built_of_O (cs := [.int .i64 3, .int .i64 0, .string ⟨#[]⟩, .slice none 0 0, .slice none 0 0]) (by kernel_rfl) (oc_cons rfl oc_nil))) rfl rfl ?_)))))
   refine WL.do (dx_store (cs' := [.int .i64 3, .int .i64 0, .string ⟨#[]⟩, .slice none 0 0, .slice none 0 0]) (vs := [.int .i64 3, .int .i64 0, .string ⟨#[]⟩, .slice none 0 0, .slice none 0 0]) rfl ty_size_25_5 rfl rfl rfl (oc_cons rfl (oc_cons rfl (oc_cons rfl (oc_cons rfl (oc_cons rfl oc_nil))))) k3 rfl (Nat.le_of_ble_eq_true rfl) rfl) rfl ?_
   rintro _ W52 ⟨k54, o53⟩
   replace hp48 := hp48.other o53 n6
   clear k3
   replace hB := Chg.only hB o53 (.inr l7)
   refine Pu rfl (Ni (hK51 ?_))
   exact WC.ret fun a_ ha_ => hQ (cw_ret2 rfl (.agg rfl ty_agg_25_5 k54.range rfl) (.tmp rfl) (.inl ⟨k43, 0, rfl, (by rw [hnum]; exact numT_z (by have h_ : ka < s.size := (by rcases Nat.lt_or_ge ka s.size with h_ | h_; exact h_; (have := hc35 h_; omega)); exact ⟨h_, by have := hc34 h_; omega⟩) (by assumption)), by decide, by decide, by omega, by omega, hp48⟩) hB ha_)
  ·
   replace c38 := dF c38
   refine WC.skip (hK19 (Sq fun K55 hK55 => (Rg (Pu rfl (Va (dx_nilCheck rfl rfl) rfl rfl (Va (dx_fld (o1 := 0) rfl ty_fld_59_0_0 rfl rfl) rfl rfl ?_))))))
   refine Ge (dx_cw rfl Tryd.func64 rfl rfl rfl (digits_c s P ka dp W37 _ hL (.tail _ hPL) hs (by omega) hp17)) rfl rfl ?_
   rintro _ W73 ⟨⟨k64, tx65, rfl, hd66, hd67, hd68, hd69, hd70, hd71, hp74⟩, g72⟩
   replace k3 := k3.chg g72 n6.symm
   replace hB := Chg.both hB g72
   replace hL := hL.chg g72
   refine Pu rfl (Ni (hK55 (Sq fun K75 hK75 => (Sq fun K76 hK76 => (Rg (Pu rfl (Va (dx_eqlT rfl rfl rfl) rfl rfl ?_)))))))
   refine Ni (hK76 ?_)
   refine WC.cond rfl (fun c77 => ?_) (fun c77 => ?_)
   ·
    replace c77 := dT c77
    refine Sq fun K78 hK78 => (Rg (Va (dx_build rfl rfl (built_of_O (cs := zV) (by kernel_rfl) oc_nil)) rfl rfl ?_))
    refine WL.do (dx_store (cs' := zV) (vs := zV) rfl ty_size_25_5 rfl rfl rfl (oc_cons rfl (oc_cons rfl (oc_cons rfl (oc_cons rfl (oc_cons rfl oc_nil))))) k3 rfl (Nat.le_of_ble_eq_true rfl) rfl) rfl ?_
    rintro _ W79 ⟨k81, o80⟩
    replace hp74 := hp74.other o80 n6
    clear k3
    replace hB := Chg.only hB o80 (.inr l7)
    refine Pu rfl (Ni (hK78 ?_))
    exact WC.ret fun a_ ha_ => hQ (cw_ret2 rfl (.agg rfl ty_agg_25_5 k81.range rfl) (.tmp rfl) (.inr ⟨k64, 2, rfl, by decide, (by rw [hnum, numT_0 (fun h_ => by have := hc34 h_.1; omega) (by have hs_ : tx65.size = 0 := (by have := congrArg ByteArray.size (show tx65 = ⟨#[]⟩ by assumption); exact this); omega)]), by omega, hp74⟩) hB ha_)
   ·
    replace c77 := dF c77
    refine WC.skip (hK75 (Sq fun K82 hK82 => (Rg (Pu rfl (Ni (hK82 (Sq fun K83 hK83 => ?_)))))))
    refine Sq fun K84 hK84 => (Rg (Pu rfl (Va (dx_lenT rfl Tryd.underlying9 rfl) rfl rfl (Pu rfl (Ni (hK84 (WC.block ?_)))))))
    have htz : ¬ k64 = ka := fun e_ => absurd (empty_of (t := tx65) (by omega)) (by assumption)
    refine WC.loop2 (fun (i : Nat) (n : Int) => [(0, .pointer (some ⟨P, 0, none⟩)), (4, .bool false), (5, .string tx65), (32, .int .i64 (tx65.size : Int)), (2, .pointer (some ⟨w.heap.size, 0, none⟩)), (33, .int .i64 (i : Int)), (6, .int .i64 n)]) (fun (i : Nat) (n : Int) W => i ≤ k64 - ka ∧ 0 ≤ n ∧ n ≤ 9007199254740991 ∧ accN s (k64 - ka) ka 0 = accN s (k64 - ka - i) (ka + i) n ∧ Chg P w W ∧ LL (w.heap.size :: L) W ∧ Blk W P [.string s, .int .i64 (k64 : Int), .int .i64 (dp : Int)] ∧ Blk W w.heap.size [.int .i64 0, .int .i64 0, .string ⟨#[]⟩, .slice none 0 0, .slice none 0 0]) (fun (i : Nat) (n : Int) => k64 - ka - i) 0 0 (by repeat first | exact trivial | exact And.intro rfl trivial | refine And.intro rfl ?_ | refine And.intro (congrArg (fun z : Int => some (Value.int .i64 z)) (by omega)) ?_) ⟨(by omega), (by omega), (by omega), rfl, hB, hL, hp74, k3⟩ ?_
    clear hp74 k3 hB hL
    rintro K85 i n W86 ⟨hi, hn0, hn1, hv, hB, hL, hp74, k3⟩ hK85
    refine Sq fun K87 hK87 => (Rg (Va (dx_lss rfl rfl rfl) rfl rfl (Ni (hK87 (Sq fun K88 hK88 => ?_)))))
    refine WC.cond rfl (fun c89 => ?_) (fun c89 => ?_)
    ·
     replace c89 := dT c89
     refine WC.skip (hK88 (Sq fun K90 hK90 => (WC.block (Sq fun K91 hK91 => ?_))))
     have hil : i < k64 - ka := by omega
     have hax := hd70 i hil
     have har := hd71 i hil
     rw [← hax] at har
     refine Rg (Pu rfl (Pu rfl (Ni (hK91 (Sq fun K92 hK92 => (Rg (Pu rfl ?_)))))))
     refine Va (dx_mul (r := n * 10) rfl rfl rfl (wrap64_id (by omega))) rfl rfl (Pu rfl (Pu rfl (Va (dx_at i rfl Tryd.underlying9 rfl rfl (by omega) (by omega)) rfl rfl (Va (dx_sub (r := (atS tx65 i) - 48) rfl rfl rfl (wrapu8_id (by omega))) rfl rfl (Va (dx_conv (r := (atS tx65 i) - 48) rfl Tryd.underlying5 Tryd.underlying3 rfl (wrap64_id (by omega))) rfl rfl (Va (dx_add (r := (n * 10) + ((atS tx65 i) - 48)) rfl rfl rfl (wrap64_id (by omega))) rfl rfl (Pu rfl ?_)))))))
     refine Ni (hK92 (Sq fun K93 hK93 => (Rg (Pu rfl (Va (dx_gtr rfl rfl rfl) rfl rfl (Ni (hK93 ?_)))))))
     refine WC.cond rfl (fun c94 => ?_) (fun c94 => ?_)
     ·
      replace c94 := dT c94
      refine Sq fun K95 hK95 => (Rg (Va (dx_build rfl rfl (built_of_O (cs := zV) (by kernel_rfl) oc_nil)) rfl rfl ?_))
      refine WL.do (dx_store (cs' := zV) (vs := zV) rfl ty_size_25_5 rfl rfl rfl (oc_cons rfl (oc_cons rfl (oc_cons rfl (oc_cons rfl (oc_cons rfl oc_nil))))) k3 rfl (Nat.le_of_ble_eq_true rfl) rfl) rfl ?_
      rintro _ W96 ⟨k98, o97⟩
      replace hp74 := hp74.other o97 n6
      clear k3
      replace hB := Chg.only hB o97 (.inr l7)
      refine Pu rfl (Ni (hK95 ?_))
      exact WC.ret fun a_ ha_ => hQ (cw_ret2 rfl (.agg rfl ty_agg_25_5 k98.range rfl) (.tmp rfl) (.inr ⟨k64, 5, rfl, by decide, (by rw [hnum, numT_n (fun h_ => by have := hc34 h_.1; omega) (by omega) (by obtain ⟨q_, hq_⟩ : ∃ q_, k64 - ka - i = q_ + 1 := ⟨k64 - ka - i - 1, by omega⟩; rw [← hd66, hv, hq_]; exact acc_no (by rw [← hax]; omega))]), by omega, hp74⟩) hB ha_)
     ·
      replace c94 := dF c94
      refine WC.skip (hK90 (Rg (Va (dx_add (r := (i : Int) + 1) rfl rfl rfl (wrap64_id (by omega))) rfl rfl (Pu rfl (Ni ?_)))))
      obtain ⟨q, hq_⟩ : ∃ q, k64 - ka - i = q + 1 := ⟨k64 - ka - i - 1, by omega⟩
      exact hK85 (i + 1) ((n * 10) + ((atS tx65 i) - 48)) ⟨(by omega), (by omega), (by omega), (by rw [hv, hq_, acc_go (by rw [← hax]; omega), ← hax]; congr 1 <;> omega), hB, hL, hp74, k3⟩ (by omega) (by repeat first | exact trivial | exact And.intro rfl trivial | refine And.intro rfl ?_ | refine And.intro (congrArg (fun z : Int => some (Value.int .i64 z)) (by omega)) ?_)
    ·
     replace c89 := dF c89
     refine WC.exit ?_
     refine hK83 (Sq fun K99 hK99 => (Sq fun K100 hK100 => (Rg (Pu rfl (Ni (hK100 (WC.condF rfl ?_)))))))
     refine WC.skip (hK99 (Sq fun K101 hK101 => (Rg (Pu rfl (Va (dx_build rfl rfl (built_of_O (cs := [.int .i64 3, .int .i64 n, .string ⟨#[]⟩, .slice none 0 0, .slice none 0 0]) (by kernel_rfl) (oc_cons rfl (oc_cons rfl oc_nil)))) rfl rfl ?_)))))
     refine WL.do (dx_store (cs' := [.int .i64 3, .int .i64 n, .string ⟨#[]⟩, .slice none 0 0, .slice none 0 0]) (vs := [.int .i64 3, .int .i64 n, .string ⟨#[]⟩, .slice none 0 0, .slice none 0 0]) rfl ty_size_25_5 rfl rfl rfl (oc_cons rfl (oc_cons rfl (oc_cons rfl (oc_cons rfl (oc_cons rfl oc_nil))))) k3 rfl (Nat.le_of_ble_eq_true rfl) rfl) rfl ?_
     rintro _ W102 ⟨k104, o103⟩
     replace hp74 := hp74.other o103 n6
     clear k3
     replace hB := Chg.only hB o103 (.inr l7)
     refine Pu rfl (Ni (hK101 ?_))
     exact WC.ret fun a_ ha_ => hQ (cw_ret2 rfl (.agg rfl ty_agg_25_5 k104.range rfl) (.tmp rfl) (.inl ⟨k64, n, rfl, (by rw [hnum, numT_s (n := n) (fun h_ => by have := hc34 h_.1; omega) (by omega) (by rw [← hd66, hv, show k64 - ka - i = 0 by omega]; rfl), ← hd66]; rfl), by omega, by omega, by omega, by omega, hp74⟩) hB ha_)
 | true =>
  rw [hT18] at hk13
  have hthT18 := take_t hT18
  replace hk13 : k12 = ka + 1 := hk13
  refine Pu rfl (Ni (hK8 (Sq fun K105 hK105 => (Sq fun K106 hK106 => ?_))))
  have hnum : numS s ka = numT s true k12 := numS_t hT18 (by assumption)
  refine Rg (Pu rfl (Va (dx_nilCheck rfl rfl) rfl rfl (Va (dx_fld (o1 := 0) rfl ty_fld_59_0_0 rfl rfl) rfl rfl ?_)))
  refine Ge (dx_cv rfl Tryd.func48 rfl rfl rfl (peek_c s P k12 dp W16 _ hL (.tail _ hPL) hs (by omega) hp17)) rfl rfl ?_
  rintro _ W123 ⟨⟨c117, rfl, hc118, hc119, hc120, hc121⟩, b122⟩
  replace hp17 := hp17.below b122
  replace k3 := k3.below b122
  replace hB := Chg.thenB hB b122
  replace hL := LL.below hL b122
  refine Va (dx_eql rfl rfl rfl) rfl rfl (Ni (hK106 ?_))
  refine WC.cond rfl (fun c124 => ?_) (fun c124 => ?_)
  ·
   replace c124 := dT c124
   refine Sq fun K125 hK125 => (Rg (Pu rfl (Va (dx_nilCheck rfl rfl) rfl rfl (Va (dx_fld (o1 := 0) rfl ty_fld_59_0_0 rfl rfl) rfl rfl ?_))))
   refine Ge (dx_cw rfl Tryd.func47 rfl rfl rfl (take_y 48 s P k12 dp W123 _ hL (.tail _ hPL) hs (by omega) hp17 (take_of (by rcases Nat.lt_or_ge k12 s.size with h_ | h_; exact h_; (have := hc121 h_; omega)) (by have h_ : k12 < s.size := (by rcases Nat.lt_or_ge k12 s.size with h_ | h_; exact h_; (have := hc121 h_; omega)); have := hc120 h_; omega)))) rfl rfl ?_
   rintro _ W133 ⟨⟨k129, rfl, hk130, hk131, hp134⟩, g132⟩
   replace k3 := k3.chg g132 n6.symm
   replace hB := Chg.both hB g132
   refine Ni (hK125 (Sq fun K135 hK135 => (Sq fun K136 hK136 => (Rg (Pu rfl (Ni (hK136 ?_)))))))
   refine WC.condT rfl (Sq fun K137 hK137 => (Rg (Va (dx_build rfl rfl (built_of_O (cs := zV) (by kernel_rfl) oc_nil)) rfl rfl ?_)))
   refine WL.do (dx_store (cs' := zV) (vs := zV) rfl ty_size_25_5 rfl rfl rfl (oc_cons rfl (oc_cons rfl (oc_cons rfl (oc_cons rfl (oc_cons rfl oc_nil))))) k3 rfl (Nat.le_of_ble_eq_true rfl) rfl) rfl ?_
   rintro _ W138 ⟨k140, o139⟩
   replace hp134 := hp134.other o139 n6
   clear k3
   replace hB := Chg.only hB o139 (.inr l7)
   refine Pu rfl (Ni (hK137 ?_))
   exact WC.ret fun a_ ha_ => hQ (cw_ret2 rfl (.agg rfl ty_agg_25_5 k140.range rfl) (.tmp rfl) (.inr ⟨k129, 2, rfl, by decide, (by rw [hnum]; exact numT_m (by have h_ : k12 < s.size := (by rcases Nat.lt_or_ge k12 s.size with h_ | h_; exact h_; (have := hc121 h_; omega)); exact ⟨h_, by have := hc120 h_; omega⟩)), by omega, hp134⟩) hB ha_)
  ·
   replace c124 := dF c124
   refine WC.skip (hK105 (Sq fun K141 hK141 => (Rg (Pu rfl (Va (dx_nilCheck rfl rfl) rfl rfl (Va (dx_fld (o1 := 0) rfl ty_fld_59_0_0 rfl rfl) rfl rfl ?_))))))
   refine Ge (dx_cw rfl Tryd.func64 rfl rfl rfl (digits_c s P k12 dp W123 _ hL (.tail _ hPL) hs (by omega) hp17)) rfl rfl ?_
   rintro _ W159 ⟨⟨k150, tx151, rfl, hd152, hd153, hd154, hd155, hd156, hd157, hp160⟩, g158⟩
   replace k3 := k3.chg g158 n6.symm
   replace hB := Chg.both hB g158
   replace hL := hL.chg g158
   refine Pu rfl (Ni (hK141 (Sq fun K161 hK161 => (Sq fun K162 hK162 => (Rg (Pu rfl (Va (dx_eqlT rfl rfl rfl) rfl rfl ?_)))))))
   refine Ni (hK162 ?_)
   refine WC.cond rfl (fun c163 => ?_) (fun c163 => ?_)
   ·
    replace c163 := dT c163
    refine Sq fun K164 hK164 => (Rg (Va (dx_build rfl rfl (built_of_O (cs := zV) (by kernel_rfl) oc_nil)) rfl rfl ?_))
    refine WL.do (dx_store (cs' := zV) (vs := zV) rfl ty_size_25_5 rfl rfl rfl (oc_cons rfl (oc_cons rfl (oc_cons rfl (oc_cons rfl (oc_cons rfl oc_nil))))) k3 rfl (Nat.le_of_ble_eq_true rfl) rfl) rfl ?_
    rintro _ W165 ⟨k167, o166⟩
    replace hp160 := hp160.other o166 n6
    clear k3
    replace hB := Chg.only hB o166 (.inr l7)
    refine Pu rfl (Ni (hK164 ?_))
    exact WC.ret fun a_ ha_ => hQ (cw_ret2 rfl (.agg rfl ty_agg_25_5 k167.range rfl) (.tmp rfl) (.inr ⟨k150, 2, rfl, by decide, (by rw [hnum, numT_0 (fun h_ => by have := hc120 h_.1; omega) (by have hs_ : tx151.size = 0 := (by have := congrArg ByteArray.size (show tx151 = ⟨#[]⟩ by assumption); exact this); omega)]), by omega, hp160⟩) hB ha_)
   ·
    replace c163 := dF c163
    refine WC.skip (hK161 (Sq fun K168 hK168 => (Rg (Pu rfl (Ni (hK168 (Sq fun K169 hK169 => ?_)))))))
    refine Sq fun K170 hK170 => (Rg (Pu rfl (Va (dx_lenT rfl Tryd.underlying9 rfl) rfl rfl (Pu rfl (Ni (hK170 (WC.block ?_)))))))
    have htz : ¬ k150 = k12 := fun e_ => absurd (empty_of (t := tx151) (by omega)) (by assumption)
    refine WC.loop2 (fun (i : Nat) (n : Int) => [(0, .pointer (some ⟨P, 0, none⟩)), (4, .bool true), (5, .string tx151), (32, .int .i64 (tx151.size : Int)), (2, .pointer (some ⟨w.heap.size, 0, none⟩)), (33, .int .i64 (i : Int)), (6, .int .i64 n)]) (fun (i : Nat) (n : Int) W => i ≤ k150 - k12 ∧ 0 ≤ n ∧ n ≤ 9007199254740991 ∧ accN s (k150 - k12) k12 0 = accN s (k150 - k12 - i) (k12 + i) n ∧ Chg P w W ∧ LL (w.heap.size :: L) W ∧ Blk W P [.string s, .int .i64 (k150 : Int), .int .i64 (dp : Int)] ∧ Blk W w.heap.size [.int .i64 0, .int .i64 0, .string ⟨#[]⟩, .slice none 0 0, .slice none 0 0]) (fun (i : Nat) (n : Int) => k150 - k12 - i) 0 0 (by repeat first | exact trivial | exact And.intro rfl trivial | refine And.intro rfl ?_ | refine And.intro (congrArg (fun z : Int => some (Value.int .i64 z)) (by omega)) ?_) ⟨(by omega), (by omega), (by omega), rfl, hB, hL, hp160, k3⟩ ?_
    clear hp160 k3 hB hL
    rintro K171 i n W172 ⟨hi, hn0, hn1, hv, hB, hL, hp160, k3⟩ hK171
    refine Sq fun K173 hK173 => (Rg (Va (dx_lss rfl rfl rfl) rfl rfl (Ni (hK173 (Sq fun K174 hK174 => ?_)))))
    refine WC.cond rfl (fun c175 => ?_) (fun c175 => ?_)
    ·
     replace c175 := dT c175
     refine WC.skip (hK174 (Sq fun K176 hK176 => (WC.block (Sq fun K177 hK177 => ?_))))
     have hil : i < k150 - k12 := by omega
     have hax := hd156 i hil
     have har := hd157 i hil
     rw [← hax] at har
     refine Rg (Pu rfl (Pu rfl (Ni (hK177 (Sq fun K178 hK178 => (Rg (Pu rfl ?_)))))))
     refine Va (dx_mul (r := n * 10) rfl rfl rfl (wrap64_id (by omega))) rfl rfl (Pu rfl (Pu rfl (Va (dx_at i rfl Tryd.underlying9 rfl rfl (by omega) (by omega)) rfl rfl (Va (dx_sub (r := (atS tx151 i) - 48) rfl rfl rfl (wrapu8_id (by omega))) rfl rfl (Va (dx_conv (r := (atS tx151 i) - 48) rfl Tryd.underlying5 Tryd.underlying3 rfl (wrap64_id (by omega))) rfl rfl (Va (dx_add (r := (n * 10) + ((atS tx151 i) - 48)) rfl rfl rfl (wrap64_id (by omega))) rfl rfl (Pu rfl ?_)))))))
     refine Ni (hK178 (Sq fun K179 hK179 => (Rg (Pu rfl (Va (dx_gtr rfl rfl rfl) rfl rfl (Ni (hK179 ?_)))))))
     refine WC.cond rfl (fun c180 => ?_) (fun c180 => ?_)
     ·
      replace c180 := dT c180
      refine Sq fun K181 hK181 => (Rg (Va (dx_build rfl rfl (built_of_O (cs := zV) (by kernel_rfl) oc_nil)) rfl rfl ?_))
      refine WL.do (dx_store (cs' := zV) (vs := zV) rfl ty_size_25_5 rfl rfl rfl (oc_cons rfl (oc_cons rfl (oc_cons rfl (oc_cons rfl (oc_cons rfl oc_nil))))) k3 rfl (Nat.le_of_ble_eq_true rfl) rfl) rfl ?_
      rintro _ W182 ⟨k184, o183⟩
      replace hp160 := hp160.other o183 n6
      clear k3
      replace hB := Chg.only hB o183 (.inr l7)
      refine Pu rfl (Ni (hK181 ?_))
      exact WC.ret fun a_ ha_ => hQ (cw_ret2 rfl (.agg rfl ty_agg_25_5 k184.range rfl) (.tmp rfl) (.inr ⟨k150, 5, rfl, by decide, (by rw [hnum, numT_n (fun h_ => by have := hc120 h_.1; omega) (by omega) (by obtain ⟨q_, hq_⟩ : ∃ q_, k150 - k12 - i = q_ + 1 := ⟨k150 - k12 - i - 1, by omega⟩; rw [← hd152, hv, hq_]; exact acc_no (by rw [← hax]; omega))]), by omega, hp160⟩) hB ha_)
     ·
      replace c180 := dF c180
      refine WC.skip (hK176 (Rg (Va (dx_add (r := (i : Int) + 1) rfl rfl rfl (wrap64_id (by omega))) rfl rfl (Pu rfl (Ni ?_)))))
      obtain ⟨q, hq_⟩ : ∃ q, k150 - k12 - i = q + 1 := ⟨k150 - k12 - i - 1, by omega⟩
      exact hK171 (i + 1) ((n * 10) + ((atS tx151 i) - 48)) ⟨(by omega), (by omega), (by omega), (by rw [hv, hq_, acc_go (by rw [← hax]; omega), ← hax]; congr 1 <;> omega), hB, hL, hp160, k3⟩ (by omega) (by repeat first | exact trivial | exact And.intro rfl trivial | refine And.intro rfl ?_ | refine And.intro (congrArg (fun z : Int => some (Value.int .i64 z)) (by omega)) ?_)
    ·
     replace c175 := dF c175
     refine WC.exit ?_
     refine hK169 (Sq fun K185 hK185 => (Sq fun K186 hK186 => (Rg (Pu rfl (Ni (hK186 (WC.condT rfl ?_)))))))
     refine Rg (Pu rfl (Va (dx_neg rfl rfl (wrap64_id (by omega))) rfl rfl (Pu rfl (Ni (hK185 (Sq fun K187 hK187 => (Rg ?_)))))))
     refine Pu rfl (Va (dx_build rfl rfl (built_of_O (cs := [.int .i64 3, .int .i64 (-n), .string ⟨#[]⟩, .slice none 0 0, .slice none 0 0]) (by kernel_rfl) (oc_cons rfl (oc_cons rfl oc_nil)))) rfl rfl ?_)
     refine WL.do (dx_store (cs' := [.int .i64 3, .int .i64 (-n), .string ⟨#[]⟩, .slice none 0 0, .slice none 0 0]) (vs := [.int .i64 3, .int .i64 (-n), .string ⟨#[]⟩, .slice none 0 0, .slice none 0 0]) rfl ty_size_25_5 rfl rfl rfl (oc_cons rfl (oc_cons rfl (oc_cons rfl (oc_cons rfl (oc_cons rfl oc_nil))))) k3 rfl (Nat.le_of_ble_eq_true rfl) rfl) rfl ?_
     rintro _ W188 ⟨k190, o189⟩
     replace hp160 := hp160.other o189 n6
     clear k3
     replace hB := Chg.only hB o189 (.inr l7)
     refine Pu rfl (Ni (hK187 ?_))
     exact WC.ret fun a_ ha_ => hQ (cw_ret2 rfl (.agg rfl ty_agg_25_5 k190.range rfl) (.tmp rfl) (.inl ⟨k150, -n, rfl, (by rw [hnum, numT_s (n := n) (fun h_ => by have := hc120 h_.1; omega) (by omega) (by rw [← hd152, hv, show k150 - k12 - i = 0 by omega]; rfl), ← hd152]; rfl), by omega, by omega, by omega, by omega, hp160⟩) hB ha_)

structure ChgV (b B C : Nat) (w w' : World) : Prop where
 os : w'.os = w.os
 tape : w'.tape = w.tape
 output : w'.output = w.output
 size : w.heap.size ≤ w'.heap.size
 block : ∀ k, k < b → k ≠ B → k ≠ C → w'.heap[k]? = w.heap[k]?
theorem ChgV.refl (b B C : Nat) (w : World) : ChgV b B C w w := ⟨rfl, rfl, rfl, Nat.le_refl _, fun _ _ _ _ => rfl⟩
theorem ChgV.both {b B C : Nat} {w W W' : World} (h : ChgV b B C w W) (k : ChgV b B C W W') : ChgV b B C w W' :=
 ⟨k.os.trans h.os, k.tape.trans h.tape, k.output.trans h.output, Nat.le_trans h.size k.size, fun i hi h1 h2 => (k.block i hi h1 h2).trans (h.block i hi h1 h2)⟩
theorem ChgV.of_chg {b B C : Nat} {w w' : World} (h : Chg B w w') (hb : b ≤ w.heap.size) : ChgV b B C w w' := ⟨h.os, h.tape, h.output, h.size, fun k hk h1 _ => h.block k (Nat.lt_of_lt_of_le hk hb) h1⟩
theorem ChgV.of_below {b B C : Nat} {w w' : World} (h : Below b w w') : ChgV b B C w w' := ⟨h.os, h.tape, h.output, h.size, fun k hk _ _ => h.block k hk⟩
theorem ChgV.of_only {b B C D : Nat} {w w' : World} (h : Only D w w') (hD : D = B ∨ D = C ∨ b ≤ D) : ChgV b B C w w' := ⟨h.os, h.tape, h.output, by rw [h.size]; exact Nat.le_refl _, fun k hk h1 h2 => h.block k (by omega)⟩
theorem ChgV.chg {b B C : Nat} {w W W' : World} (h : ChgV b B C w W) (k : Chg B W W') (hb : b ≤ W.heap.size) : ChgV b B C w W' := h.both (.of_chg k hb)
theorem ChgV.toChg {b B C : Nat} {w0 w w' : World} (h : Chg B w0 w) (k : ChgV b B C w w') (hb : w0.heap.size ≤ b) (hC : w0.heap.size ≤ C) : Chg B w0 w' :=
 ⟨k.os.trans h.os, k.tape.trans h.tape, k.output.trans h.output, Nat.le_trans h.size k.size, fun i hi h1 => (k.block i (Nat.lt_of_lt_of_le hi hb) h1 (by omega)).trans (h.block i hi h1)⟩
theorem Blk.chgV {b B C D : Nat} {w w' : World} {cs : List Value} (h : Blk w D cs) (k : ChgV b B C w w') (hb : D < b) (h1 : D ≠ B) (h2 : D ≠ C) : Blk w' D cs := by
 obtain ⟨t, ht⟩ := h
 exact ⟨t, (k.block D hb h1 h2).trans ht⟩
theorem LL.chgV {L : List Nat} {b B C : Nat} {w w' : World} (h : LL L w) (k : ChgV b B C w w') : LL L w' := fun x hx => Nat.lt_of_lt_of_le (h x hx) k.size
def CX (P : Program) (F : FuncId) (args : List Value) (w : World) (D : World → World → Prop) (R : Value → World → Prop) : Prop := Calls P F args.toArray w fun e w' => ∃ v, e = .returned v ∧ R v w' ∧ D w w'
def finX (P : Program) (fn : Func) (R : Value → World → Prop) (D : World → World → Prop) (w0 : World) (a : Act) (w : World) : Prop := a.defers = [] ∧ ∃ v, (results fn a.tmps).run P w = .ok v w ∧ R v w ∧ D w0 w
theorem cx_enter {P : Program} {F : FuncId} {fn : Func} {body : Code} {w : World} {D : World → World → Prop} {R : Value → World → Prop} {N : Nat} {vs : List Value} (hf : P.funcs[F]? = some fn) (hb : fn.body = some body) (hn : fn.ntmps = N) (hN : decide (vs.length ≤ N) = true) {f : Fl}
  (hfr : (vs.zipIdx.map fun p => (p.2, p.1)) = f) (h : ∀ Q : Exit → Act → World → Prop, (∀ {a W}, finX P fn R D w a W → Q .ret a W) → (∀ {a W}, finX P fn R D w a W → Q .normal a W) → WC P N body Q f w) : CX P F vs w D R :=
 calls_sx vs f hf hb hn hN hfr.symm (h _ (fun {a W} ⟨h1, v, h2, h3, h4⟩ => ⟨h1, v, h2, v, rfl, h3, h4⟩) (fun {a W} ⟨h1, v, h2, h3, h4⟩ => ⟨h1, v, h2, v, rfl, h3, h4⟩))
section
variable {P : Program} {ops : Array Oper} {o : Oper} {N : Nat} {f : Fl} {w : World} {R : Value → World → Prop} {fn : Func} {D : World → World → Prop}
theorem cx_ret1 {w0 : World} {r0 : ResultVar} {v0 : Value} (h : fn.results = #[r0]) (h0 : RV P f w r0 v0) (hR : R v0 w) (hb : D w0 w) {a : Act} (ha : Fr N a f) : finX P fn R D w0 a w := by
 obtain ⟨x, v, hv, v', he, h1, h2⟩ := fn1 (Rr := fun e w' => ∃ v, e = .returned v ∧ R v w' ∧ D w0 w') h h0 ⟨_, rfl, hR, hb⟩ ha
 cases he
 exact ⟨x, _, hv, h1, h2⟩
theorem dx_cx {F : FuncId} {fn : Func} {xs : List Operand} {ts : Array TypeId} {vs : List Value} (ho : o.op = .call { callee := .value (.func F), args := xs.toArray, argTypes := ts }) (hf : P.funcs[F]? = some fn) (hn : (fn.name == "runtime.NumGoroutine") = false) (hb : fn.body.isNone = false)
  (hx : evl f xs = some vs) (hc : CX P F vs w D R) (hw : wantF ops o f = some true := by rfl) : DR P ops o N f w fun v W => R v W ∧ D w W :=
 dx_call (cap := #[]) ho rfl hf hn hb hx (by rw [Array.append_empty]; exact Calls.mono hc fun e w' ⟨v, he, h⟩ => ⟨v, he, h⟩) hw
def FX (P : Program) (g : Value) (args : List Value) (w : World) (D : World → World → Prop) (R : Value → World → Prop) : Prop := ∃ F fs cs fn, g = .func (.func F) fs cs ∧ P.funcs[F]? = some fn ∧ (fn.name == "runtime.NumGoroutine") = false ∧ fn.body.isNone = false ∧ CX P F (fs.toList ++ args ++ cs.toList) w D R
theorem dx_fx {c : Operand} {g : Value} {xs : List Operand} {ts : Array TypeId} {vs : List Value} (ho : o.op = .call { callee := .value c, args := xs.toArray, argTypes := ts }) (hcv : ev f c = some g)
  (hx : evl f xs = some vs) (hc : FX P g vs w D R) (hw : wantF ops o f = some true := by rfl) : DR P ops o N f w fun v W => R v W ∧ D w W := fun a ha => by
 obtain ⟨F, fs, cs, fn, rfl, hf, hn, hb, hc⟩ := hc
 have he := evl_args (ha.evl hx)
 have hc' := ha.ev hcv
 exact Does.call (wantF_of ha hw) F (fs ++ vs.toArray ++ cs) (by
  unfold execOp
  simp only [ho, resolve, he, hc', Deferred.ofValue, Sem.run_bind, Sem.run_pure, Result.andThen_ok, invoke]
  simp only [callFunc, Sem.run_bind, run_program, Result.andThen_ok, hf, hn, hb]
  rfl) (by
  unfold CX at hc
  rw [show (fs.toList ++ vs ++ cs.toList).toArray = fs ++ vs.toArray ++ cs from by apply Array.ext'; simp] at hc
  exact Calls.mono hc fun e w' ⟨v, he, h⟩ => ⟨v, he, h⟩)
end
def StI {σ : Type} (P : Nat) (I : σ → World → Prop) (st : σ) (W : World) : Prop := (∀ st W W', I st W → Chg P W W' → I st W') ∧ I st W
theorem StI.chgL {σ : Type} {P : Nat} {I : σ → World → Prop} {st : σ} {W W' : World} (h : StI P I st W) (g : Chg P W W') {L : List Nat} (_ : P ∈ L) : StI P I st W' := ⟨h.1, h.1 _ _ _ h.2 g⟩
theorem StI.below {σ : Type} {P : Nat} {I : σ → World → Prop} {st : σ} {W W' : World} (h : StI P I st W) (g : Below W.heap.size W W') : StI P I st W' := ⟨h.1, h.1 _ _ _ h.2 (.of_below g)⟩
def memL {σ : Type} (s : ByteArray) (one : Nat → σ → Except Int (σ × Nat)) (la : Int) : Nat → Nat → σ → Except Int (σ × Nat)
 | 0, _, _ => .error 2
 | n + 1, k, st => match one (blankS s k) st with
  | .error e => .error e
  | .ok (st', k2) => if takeS s (blankS s k2) la = true then .ok (st', blankS s k2 + 1) else if takeS s (blankS s k2) 44 = true then memL s one la n (blankS s k2 + 1) st' else .error 2
def memS {σ : Type} (s : ByteArray) (one : Nat → σ → Except Int (σ × Nat)) (la : Int) (k : Nat) (st : σ) : Except Int (σ × Nat) :=
 if takeS s (blankS s (k + 1)) la = true then .ok (st, blankS s (k + 1) + 1) else memL s one la (s.size + 1) (blankS s (k + 1)) st
section
variable {σ : Type} {s : ByteArray} {one : Nat → σ → Except Int (σ × Nat)} {la e : Int} {n k k1 k2 k3 k4 : Nat} {st st' : σ}
theorem memS_0 (e1 : k1 = k + 1) (e2 : k2 = blankS s k1) (t : takeS s k2 la = true) (e3 : k3 = k2 + 1) : memS s one la k st = .ok (st, k3) := by subst e3 e2 e1; unfold memS; rw [if_pos t]
theorem memS_1 (e1 : k1 = k + 1) (e2 : k2 = blankS s k1) (t : takeS s k2 la = false) : memS s one la k st = memL s one la (s.size + 1) k2 st := by subst e2 e1; unfold memS; rw [t]; rfl
theorem memL_e (e1 : k1 = blankS s k) (h : one k1 st = .error e) : memL s one la (n + 1) k st = .error e := by subst e1; rw [memL, h]
theorem memL_0 (e1 : k1 = blankS s k) (h : one k1 st = .ok (st', k2)) (e2 : k3 = blankS s k2) (t : takeS s k3 la = true) (e3 : k4 = k3 + 1) : memL s one la (n + 1) k st = .ok (st', k4) := by subst e3 e2 e1; rw [memL, h]; dsimp only; rw [if_pos t]
theorem memL_c (e1 : k1 = blankS s k) (h : one k1 st = .ok (st', k2)) (e2 : k3 = blankS s k2) (t : takeS s k3 la = false) (t2 : takeS s k3 44 = true) (e3 : k4 = k3 + 1) : memL s one la (n + 1) k st = memL s one la n k4 st' := by subst e3 e2 e1; rw [memL, h]; dsimp only; rw [t, t2]; rfl
theorem memL_x (e1 : k1 = blankS s k) (h : one k1 st = .ok (st', k2)) (e2 : k3 = blankS s k2) (t : takeS s k3 la = false) (t2 : takeS s k3 44 = false) : memL s one la (n + 1) k st = .error 2 := by subst e2 e1; rw [memL, h]; dsimp only; rw [t, t2]; rfl
end
theorem members_v {σ : Type} (I : σ → World → Prop) (E : World → Prop) (one : Nat → σ → Except Int (σ × Nat)) (fi la : Int) (g : Value) (b V : Nat) (st0 : σ) (m : σ → Nat) (s : ByteArray) (P ka dp : Nat) (w : World) (L : List Nat) (hL : LL L w) (hPL : P ∈ L) (hs : s.size ≤ 1000000) (hk : ka ≤ s.size) (hp : Blk w P (psC s ka dp))
  (hbw : b ≤ w.heap.size) (hE : ∀ st W, I st W → E W) (hst : StI P I st0 w) (hm0 : m st0 ≤ ka) (hq : takeS s ka fi = true)
  (hg : ∀ (W : World) (L' : List Nat) (k : Nat) (st : σ), LL L' W → P ∈ L' → b ≤ W.heap.size → k ≤ s.size → Blk W P (psC s k dp) → I st W → m st ≤ k → FX Tryd.prog g [] W (ChgV b P V) (fun v W' => (∃ k' st', v = .int .i64 0 ∧ one k st = .ok (st', k') ∧ k < k' ∧ k' ≤ s.size ∧ m st' ≤ k' ∧ I st' W' ∧ Blk W' P (psC s k' dp)) ∨ (∃ k' e, v = .int .i64 e ∧ e ≠ 0 ∧ one k st = .error e ∧ k' ≤ s.size ∧ E W' ∧ Blk W' P (psC s k' dp)))) :
  CX Tryd.prog 66 [.pointer (some ⟨P, 0, none⟩), .int .u8 fi, .int .u8 la, g] w (ChgV b P V) fun v W => (∃ k' st', v = .int .i64 0 ∧ memS s one la ka st0 = .ok (st', k') ∧ ka < k' ∧ k' ≤ s.size ∧ I st' W ∧ Blk W P (psC s k' dp)) ∨ (∃ k' e, v = .int .i64 e ∧ e ≠ 0 ∧ memS s one la ka st0 = .error e ∧ k' ≤ s.size ∧ E W ∧ Blk W P (psC s k' dp)) := by
 refine cx_enter (N := 47) (f := [(0, .pointer (some ⟨P, 0, none⟩)), (1, .int .u8 fi), (2, .int .u8 la), (3, g)]) Tryd.func66 rfl rfl rfl rfl fun Q hQ hE_ => ?_
 have hB := ChgV.refl b P V w
 have hL0 := hL
 refine Sq fun K1 hK1 => (Rg (Pu rfl (Ni (hK1 (Sq fun K2 hK2 => (Rg (Pu rfl ?_)))))))
 refine Va (dx_nilCheck rfl rfl) rfl rfl (Va (dx_fld (o1 := 0) rfl ty_fld_59_0_0 rfl rfl) rfl rfl (Pu rfl ?_))
 refine Ge (dx_cw rfl Tryd.func47 rfl rfl rfl (take_y fi s P ka dp w _ hL hPL hs (by omega) hp hq)) rfl rfl ?_
 rintro _ W13 ⟨⟨k9, rfl, hk10, hk11, hp14⟩, g12⟩
 replace hst := hst.chgL g12 hPL
 replace hB := hB.chg g12 (Nat.le_trans hbw hB.size)
 replace hL := hL.chg g12
 refine Ni (hK2 (Sq fun K15 hK15 => (Rg (Pu rfl (Va (dx_nilCheck rfl rfl) rfl rfl (Va (dx_fld (o1 := 0) rfl ty_fld_59_0_0 rfl rfl) rfl rfl ?_))))))
 refine Ge (dx_cw rfl Tryd.func32 rfl rfl rfl (blanks_v s P k9 dp W13 _ hL hPL hs (by omega) hp14)) rfl rfl ?_
 rintro _ W26 ⟨hp27, g25⟩
 replace hst := hst.chgL g25 hPL
 replace hB := hB.chg g25 (Nat.le_trans hbw hB.size)
 replace hL := hL.chg g25
 obtain ⟨k22, hk23⟩ : ∃ k, k = blankS s k9 := ⟨_, rfl⟩
 rw [← hk23] at hp27
 have hk24 := blankS_le (s := s) (k := k9) (by omega)
 rw [← hk23] at hk24
 refine Ni (hK15 (Sq fun K28 hK28 => (Sq fun K29 hK29 => (Rg (Pu rfl (Va (dx_nilCheck rfl rfl) rfl rfl (Va (dx_fld (o1 := 0) rfl ty_fld_59_0_0 rfl rfl) rfl rfl ?_)))))))
 refine Pu rfl ?_
 refine Ge (dx_cw rfl Tryd.func47 rfl rfl rfl (take_v la s P k22 dp W26 _ hL hPL hs (by omega) hp27)) rfl rfl ?_
 rintro _ W40 ⟨⟨k36, rfl, hk37, hk38, hp41⟩, g39⟩
 replace hst := hst.chgL g39 hPL
 replace hB := hB.chg g39 (Nat.le_trans hbw hB.size)
 replace hL := hL.chg g39
 cases hT42 : takeS s k22 la with
 | false =>
  rw [hT42] at hk37
  replace hk37 : k22 = k36 := Eq.symm hk37
  subst hk37
  refine Ni (hK29 (WC.condF rfl (WC.skip (hK28 (WC.block ?_)))))
  refine WC.loop2 (fun (kb : Nat) (st : σ) => [(0, .pointer (some ⟨P, 0, none⟩)), (1, .int .u8 fi), (2, .int .u8 la), (3, g)]) (fun (kb : Nat) (st : σ) W => kb ≤ s.size ∧ ka < kb ∧ m st ≤ kb ∧ (∃ n, s.size - kb < n ∧ memS s one la ka st0 = memL s one la n kb st) ∧ ChgV b P V w W ∧ LL (L) W ∧ StI P I st W ∧ Blk W P [.string s, .int .i64 (kb : Int), .int .i64 (dp : Int)]) (fun (kb : Nat) (st : σ) => s.size - kb) k22 st0 (by repeat first | exact trivial | exact And.intro rfl trivial | refine And.intro rfl ?_ | refine And.intro (congrArg (fun z : Int => some (Value.int .i64 z)) (by omega)) ?_) ⟨(by omega), (by omega), (by omega), ⟨s.size + 1, by omega, (by apply memS_1 <;> first | assumption | omega)⟩, hB, hL, hst, hp41⟩ ?_
  clear hst hp41 hB hL
  rintro K43 kb st W44 ⟨hkb, hkk, hmk, hv, hB, hL, hst, hp41⟩ hK43
  refine WC.block (Sq fun K45 hK45 => ?_)
  obtain ⟨n_, hn1, hv⟩ := hv
  obtain ⟨n, rfl⟩ : ∃ m, n_ = m + 1 := ⟨n_ - 1, by omega⟩
  refine Rg (Pu rfl (Va (dx_nilCheck rfl rfl) rfl rfl (Va (dx_fld (o1 := 0) rfl ty_fld_59_0_0 rfl rfl) rfl rfl ?_)))
  refine Ge (dx_cw rfl Tryd.func32 rfl rfl rfl (blanks_v s P kb dp W44 _ hL hPL hs (by omega) hp41)) rfl rfl ?_
  rintro _ W56 ⟨hp57, g55⟩
  replace hst := hst.chgL g55 hPL
  replace hB := hB.chg g55 (Nat.le_trans hbw hB.size)
  replace hL := hL.chg g55
  obtain ⟨k52, hk53⟩ : ∃ k, k = blankS s kb := ⟨_, rfl⟩
  rw [← hk53] at hp57
  have hk54 := blankS_le (s := s) (k := kb) (by omega)
  rw [← hk53] at hk54
  refine Ni (hK45 (Sq fun K58 hK58 => (Sq fun K59 hK59 => (Rg (Pu rfl ?_)))))
  refine Ge (dx_fx rfl rfl rfl (hg W56 _ k52 _ hL hPL (Nat.le_trans hbw hB.size) (by omega) hp57 hst.2 (by omega))) rfl rfl ?_
  rintro _ W74 ⟨(⟨k60, st61, rfl, hg64, hg65, hg66, hm72, hg67, hp75⟩ | ⟨k62, e63, rfl, hg68, hg69, hg70, hg71, hp75⟩), g73⟩
  ·
   replace hB := hB.both g73
   replace hL := hL.chgV g73
   replace hst : StI P I st61 W74 := ⟨hst.1, hg67⟩
   refine Pu rfl (Ni (hK59 (Sq fun K76 hK76 => (Rg (Pu rfl (Va (dx_neq rfl rfl rfl) rfl rfl (Ni ?_)))))))
   refine hK76 (WC.condF rfl (WC.skip (hK58 (Sq fun K77 hK77 => (Rg (Pu rfl (Va (dx_nilCheck rfl rfl) rfl rfl ?_)))))))
   refine Va (dx_fld (o1 := 0) rfl ty_fld_59_0_0 rfl rfl) rfl rfl ?_
   refine Ge (dx_cw rfl Tryd.func32 rfl rfl rfl (blanks_v s P k60 dp W74 _ hL hPL hs (by omega) hp75)) rfl rfl ?_
   rintro _ W88 ⟨hp89, g87⟩
   replace hst := hst.chgL g87 hPL
   replace hB := hB.chg g87 (Nat.le_trans hbw hB.size)
   replace hL := hL.chg g87
   obtain ⟨k84, hk85⟩ : ∃ k, k = blankS s k60 := ⟨_, rfl⟩
   rw [← hk85] at hp89
   have hk86 := blankS_le (s := s) (k := k60) (by omega)
   rw [← hk85] at hk86
   refine Ni (hK77 (Sq fun K90 hK90 => (Sq fun K91 hK91 => (Rg (Pu rfl (Va (dx_nilCheck rfl rfl) rfl rfl (Va (dx_fld (o1 := 0) rfl ty_fld_59_0_0 rfl rfl) rfl rfl ?_)))))))
   refine Pu rfl ?_
   refine Ge (dx_cw rfl Tryd.func47 rfl rfl rfl (take_v la s P k84 dp W88 _ hL hPL hs (by omega) hp89)) rfl rfl ?_
   rintro _ W102 ⟨⟨k98, rfl, hk99, hk100, hp103⟩, g101⟩
   replace hst := hst.chgL g101 hPL
   replace hB := hB.chg g101 (Nat.le_trans hbw hB.size)
   replace hL := hL.chg g101
   cases hT104 : takeS s k84 la with
   | false =>
    rw [hT104] at hk99
    replace hk99 : k84 = k98 := Eq.symm hk99
    subst hk99
    refine Ni (hK91 (WC.condF rfl (WC.skip (hK90 (Sq fun K105 hK105 => (Rg (Pu rfl ?_)))))))
    refine Va (dx_nilCheck rfl rfl) rfl rfl (Va (dx_fld (o1 := 0) rfl ty_fld_59_0_0 rfl rfl) rfl rfl ?_)
    refine Ge (dx_cw rfl Tryd.func47 rfl rfl rfl (take_v 44 s P k84 dp W102 _ hL hPL hs (by omega) hp103)) rfl rfl ?_
    rintro _ W116 ⟨⟨k112, rfl, hk113, hk114, hp117⟩, g115⟩
    replace hst := hst.chgL g115 hPL
    replace hB := hB.chg g115 (Nat.le_trans hbw hB.size)
    replace hL := hL.chg g115
    cases hT118 : takeS s k84 44 with
    | false =>
     rw [hT118] at hk113
     replace hk113 : k84 = k112 := Eq.symm hk113
     subst hk113
     refine Va (dx_not rfl rfl) rfl rfl (Ni (hK105 (WC.condT rfl (Sq fun K119 hK119 => (Rg (Pu rfl (Ni ?_)))))))
     refine hK119 ?_
     exact WC.ret fun a_ ha_ => hQ (cx_ret1 rfl (.tmp rfl) (.inr ⟨k84, 2, rfl, by decide, hv.trans (by apply memL_x <;> first | assumption | omega), by omega, hE _ _ hst.2, hp117⟩) hB ha_)
    | true =>
     rw [hT118] at hk113
     have hthT118 := take_t hT118
     replace hk113 : k112 = k84 + 1 := hk113
     refine Va (dx_not rfl rfl) rfl rfl (Ni (hK105 (WC.condF rfl (WC.skip ?_))))
     exact hK43 k112 st61 ⟨(by omega), (by omega), (by omega), ⟨n, by omega, hv.trans (by apply memL_c <;> first | assumption | omega)⟩, hB, hL, hst, hp117⟩ (by omega) (by repeat first | exact trivial | exact And.intro rfl trivial | refine And.intro rfl ?_ | refine And.intro (congrArg (fun z : Int => some (Value.int .i64 z)) (by omega)) ?_)
   | true =>
    rw [hT104] at hk99
    have hthT104 := take_t hT104
    replace hk99 : k98 = k84 + 1 := hk99
    refine Ni (hK91 (WC.condT rfl (Sq fun K120 hK120 => (Rg (Pu rfl (Ni (hK120 ?_)))))))
    exact WC.ret fun a_ ha_ => hQ (cx_ret1 rfl (.tmp rfl) (.inl ⟨k98, st61, rfl, (by first | (apply memS_0 <;> first | assumption | omega; done) | (refine hv.trans ?_; apply memL_0 <;> first | assumption | omega; done)), by omega, by omega, hst.2, hp103⟩) hB ha_)
  ·
   replace hB := hB.both g73
   refine Pu rfl (Ni (hK59 (Sq fun K121 hK121 => (Rg (Pu rfl (Va (dv_NT (dx_neq rfl rfl rfl) hg68) rfl rfl (Ni ?_)))))))
   refine hK121 (WC.condT rfl (Sq fun K122 hK122 => (Rg (Pu rfl (Pu rfl (Ni (hK122 ?_)))))))
   exact WC.ret fun a_ ha_ => hQ (cx_ret1 rfl (.tmp rfl) (.inr ⟨k62, e63, rfl, hg68, hv.trans (by apply memL_e <;> first | assumption | omega), by omega, hg71, hp75⟩) hB ha_)
 | true =>
  rw [hT42] at hk37
  have hthT42 := take_t hT42
  replace hk37 : k36 = k22 + 1 := hk37
  refine Ni (hK29 (WC.condT rfl (Sq fun K123 hK123 => (Rg (Pu rfl (Ni (hK123 ?_)))))))
  exact WC.ret fun a_ ha_ => hQ (cx_ret1 rfl (.tmp rfl) (.inl ⟨k36, st0, rfl, (by first | (apply memS_0 <;> first | assumption | omega; done) | (refine hv.trans ?_; apply memL_0 <;> first | assumption | omega; done)), by omega, by omega, hst.2, hp41⟩) hB ha_)

def nestS (dp : Nat) (rd : Except Int (Js × Nat)) : Except Int (Js × Nat) := if dp = 12 then .error 4 else rd
set_option maxHeartbeats 1000000 in
theorem nested_v (g : Value) (n : Nat) (rd : Except Int (Js × Nat)) (s : ByteArray) (P ka dp : Nat) (w : World) (L : List Nat) (hL : LL L w) (hPL : P ∈ L) (hs : s.size ≤ 1000000) (hk : ka ≤ s.size) (hp : Blk w P (psC s ka dp))  (hdp : dp ≤ 12) (hg : ¬ dp = 12 → ∀ (W : World) (L' : List Nat), LL L' W → P ∈ L' → w.heap.size ≤ W.heap.size → ∀ d, d = dp + 1 → Blk W P (psC s ka d) → FW Tryd.prog g [] W P (fun v W' => (∃ k' t, v = .tuple #[.agg #[.int .i64 t.kind, .int .i64 t.num, .string t.text, t.nv, t.iv], .int .i64 0] ∧ rd = .ok (t.er, k') ∧ RdT (n + 1) L' W' t ∧ ka < k' ∧ k' ≤ s.size ∧ Blk W' P (psC s k' d)) ∨ (∃ k' e cs, v = .tuple #[.agg (List.toArray cs), .int .i64 e] ∧ e ≠ 0 ∧ cs.length = 5 ∧ (∀ u ∈ cs, u.oneCell' = true) ∧ rd = .error e ∧ k' ≤ s.size ∧ Blk W' P (psC s k' d)))) : CW Tryd.prog 52 [.pointer (some ⟨P, 0, none⟩), g] w P fun v W => (∃ k' t, v = .tuple #[.agg #[.int .i64 t.kind, .int .i64 t.num, .string t.text, t.nv, t.iv], .int .i64 0] ∧ nestS dp rd = .ok (t.er, k') ∧ RdT (n + 1) L W t ∧ ka < k' ∧ k' ≤ s.size ∧ Blk W P (psC s k' dp)) ∨ (∃ k' e, v = .tuple #[.agg #[.int .i64 0, .int .i64 0, .string ⟨#[]⟩, .slice none 0 0, .slice none 0 0], .int .i64 e] ∧ e ≠ 0 ∧ nestS dp rd = .error e ∧ k' ≤ s.size ∧ Blk W P (psC s k' dp)) := by
 refine cw_enter (N := 38) (f := [(0, .pointer (some ⟨P, 0, none⟩)), (1, g)]) Tryd.func52 rfl rfl rfl rfl fun Q hQ hE => ?_
 have hB := Chg.refl P w
 have hL0 := hL
 refine Sq fun K1 hK1 => (Rg ?_)
 refine Ge (dx_alloc rfl ty_zero_25 rfl) rfl rfl ?_
 rintro _ W2 ⟨rfl, k3, b4, z5⟩
 have n6 : P ≠ w.heap.size := Nat.ne_of_lt hp.lt
 have l7 := hB.size
 replace hp := hp.below b4
 replace hB := Chg.thenB hB b4
 replace hL := LL.more hL z5
 refine Pu rfl (Ni (hK1 (Sq fun K8 hK8 => (Sq fun K9 hK9 => (Rg (Pu rfl (Va (dx_nilCheck rfl rfl) rfl rfl ?_)))))))
 refine Va (dx_fld (o1 := 2) rfl ty_fld_59_1_2 rfl rfl) rfl rfl (Va (dx_load rfl ty_one_3 rfl (hp.cell (k := 2) rfl)) rfl rfl (Va (dx_eql rfl rfl rfl) rfl rfl (Ni (hK9 ?_))))
 refine WC.cond rfl (fun c10 => ?_) (fun c10 => ?_)
 ·
  replace c10 := dT c10
  refine Sq fun K11 hK11 => (Rg (Va (dx_build rfl rfl (built_of_O (cs := zV) (by kernel_rfl) oc_nil)) rfl rfl ?_))
  refine WL.do (dx_store (cs' := zV) (vs := zV) rfl ty_size_25_5 rfl rfl rfl (oc_cons rfl (oc_cons rfl (oc_cons rfl (oc_cons rfl (oc_cons rfl oc_nil))))) k3 rfl (Nat.le_of_ble_eq_true rfl) rfl) rfl ?_
  rintro _ W12 ⟨k14, o13⟩
  replace hp := hp.other o13 n6
  clear k3
  replace hB := Chg.only hB o13 (.inr l7)
  refine Pu rfl (Ni (hK11 ?_))
  exact WC.ret fun a_ ha_ => hQ (cw_ret2 rfl (.agg rfl ty_agg_25_5 k14.range rfl) (.tmp rfl) (.inr ⟨ka, 4, rfl, by decide, (by unfold nestS; rw [if_pos (by omega)]), by omega, hp⟩) hB ha_)
 ·
  replace c10 := dF c10
  refine WC.skip (hK8 (Sq fun K15 hK15 => ?_))
  have hd12 : ¬ dp = 12 := by omega
  obtain ⟨dq, hdq⟩ : ∃ q, q = dp + 1 := ⟨_, rfl⟩
  refine Rg (Pu rfl (Va (dx_nilCheck rfl rfl) rfl rfl (Va (dx_fld (o1 := 2) rfl ty_fld_59_1_2 rfl rfl) rfl rfl (Va (dx_load rfl ty_one_3 rfl (hp.cell (k := 2) rfl)) rfl rfl (Va (dx_add (r := (dq : Int)) rfl rfl rfl (by rw [wrap64_id (by omega)]; omega)) rfl rfl (Va (dx_nilCheck rfl rfl) rfl rfl (Va (dx_fld (o1 := 2) rfl ty_fld_59_1_2 rfl rfl) rfl rfl ?_)))))))
  refine WL.do (dx_store (cs' := [.string s, .int .i64 (ka : Int), .int .i64 (dq : Int)]) (vs := [.int .i64 (dq : Int)]) rfl ty_size_3_1 rfl rfl rfl (oc_cons rfl oc_nil) hp rfl (Nat.le_of_ble_eq_true rfl) rfl) rfl ?_
  rintro _ W16 ⟨k18, o17⟩
  replace k3 := k3.other o17 n6.symm
  clear hp
  replace hB := Chg.only hB o17 (.inl rfl)
  replace hL := LL.only hL o17
  refine Ni (hK15 (Sq fun K19 hK19 => (Rg (Pu rfl ?_))))
  refine Ge (dx_fw rfl rfl rfl (hg hd12 W16 _ hL (.tail _ hPL) hB.size dq hdq k18)) rfl rfl ?_
  rintro _ W49 ⟨(⟨k34, t35, rfl, hg39, hg40, hg41, hg42, hp50⟩ | ⟨k36, e37, cs38, rfl, hg43, hg44, hg45, hg46, hg47, hp50⟩), g48⟩
  ·
   replace k3 := k3.chg g48 n6.symm
   replace hB := Chg.both hB g48
   refine Pu rfl (Pu rfl (Pu rfl ?_))
   refine Ge (dx_alloc rfl ty_zero_25 rfl) rfl rfl ?_
   rintro _ W51 ⟨rfl, k52, b53, z54⟩
   have n55 : P ≠ W49.heap.size := Nat.ne_of_lt hp50.lt
   have n56 : w.heap.size ≠ W49.heap.size := Nat.ne_of_lt k3.lt
   have l57 := hB.size
   replace hg40 := hg40.more b53 (Nat.le_refl _)
   replace hp50 := hp50.below b53
   replace k3 := k3.below b53
   replace hB := Chg.thenB hB b53
   refine WL.do (dx_store (cs' := [.int .i64 t35.kind, .int .i64 t35.num, .string t35.text, t35.nv, t35.iv]) (vs := [.int .i64 t35.kind, .int .i64 t35.num, .string t35.text, t35.nv, t35.iv]) rfl ty_size_25_5 rfl rfl rfl (oc_cons rfl (oc_cons rfl (oc_cons rfl (oc_cons (hg40.1).one (oc_cons (hg40.2.1).one oc_nil))))) k52 rfl (Nat.le_of_ble_eq_true rfl) rfl) rfl ?_
   rintro _ W58 ⟨k60, o59⟩
   replace hp50 := hp50.other o59 n55
   replace k3 := k3.other o59 n56
   clear k52
   replace hg40 := hg40.only o59 (.head _)
   replace hB := Chg.only hB o59 (.inr l57)
   refine Pu rfl (Ni (hK19 (Sq fun K61 hK61 => (Rg (Pu rfl (Va (dx_nilCheck rfl rfl) rfl rfl (Va (dx_fld (o1 := 2) rfl ty_fld_59_1_2 rfl rfl) rfl rfl ?_)))))))
   refine Va (dx_load rfl ty_one_3 rfl (hp50.cell (k := 2) rfl)) rfl rfl (Va (dx_sub (r := (dp : Int)) rfl rfl rfl (by rw [wrap64_id (by omega)]; omega)) rfl rfl (Va (dx_nilCheck rfl rfl) rfl rfl (Va (dx_fld (o1 := 2) rfl ty_fld_59_1_2 rfl rfl) rfl rfl ?_)))
   refine WL.do (dx_store (cs' := [.string s, .int .i64 (k34 : Int), .int .i64 (dp : Int)]) (vs := [.int .i64 (dp : Int)]) rfl ty_size_3_1 rfl rfl rfl (oc_cons rfl oc_nil) hp50 rfl (Nat.le_of_ble_eq_true rfl) rfl) rfl ?_
   rintro _ W62 ⟨k64, o63⟩
   replace k3 := k3.other o63 n6.symm
   replace k60 := k60.other o63 n55.symm
   clear hp50
   replace hg40 := hg40.only o63 (.tail _ (.tail _ hPL))
   replace hB := Chg.only hB o63 (.inl rfl)
   refine Ni (hK61 (Sq fun K65 hK65 => (Sq fun K66 hK66 => (Rg (Pu rfl (Va (dx_neq rfl rfl rfl) rfl rfl (Ni ?_)))))))
   refine hK66 (WC.condF rfl (WC.skip (hK65 (Sq fun K67 hK67 => (Rg (Va (dx_loadN rfl ty_agg_25_5 rfl k60.range rfl) rfl rfl ?_))))))
   refine WL.do (dx_store (cs' := [.int .i64 t35.kind, .int .i64 t35.num, .string t35.text, t35.nv, t35.iv]) (vs := [.int .i64 t35.kind, .int .i64 t35.num, .string t35.text, t35.nv, t35.iv]) rfl ty_size_25_5 rfl rfl rfl (oc_cons rfl (oc_cons rfl (oc_cons rfl (oc_cons (hg40.1).one (oc_cons (hg40.2.1).one oc_nil))))) k3 rfl (Nat.le_of_ble_eq_true rfl) rfl) rfl ?_
   rintro _ W68 ⟨k70, o69⟩
   replace k64 := k64.other o69 n6
   clear k3
   replace hg40 := hg40.only o69 (.tail _ (.head _))
   replace hB := Chg.only hB o69 (.inr l7)
   refine Pu rfl (Ni (hK67 ?_))
   exact WC.ret fun a_ ha_ => hQ (cw_ret2 rfl (.agg rfl ty_agg_25_5 k70.range rfl) (.tmp rfl) (.inl ⟨k34, t35, rfl, (by unfold nestS; rw [if_neg hd12]; exact hg39), (hg40.less (fun x hx => (.tail _ (.tail _ hx)))), by omega, by omega, k64⟩) hB ha_)
  ·
   replace k3 := k3.chg g48 n6.symm
   replace hB := Chg.both hB g48
   refine Pu rfl (Pu rfl (Pu rfl ?_))
   refine Ge (dx_alloc rfl ty_zero_25 rfl) rfl rfl ?_
   rintro _ W71 ⟨rfl, k72, b73, z74⟩
   have n75 : P ≠ W49.heap.size := Nat.ne_of_lt hp50.lt
   have n76 : w.heap.size ≠ W49.heap.size := Nat.ne_of_lt k3.lt
   have l77 := hB.size
   replace hp50 := hp50.below b73
   replace k3 := k3.below b73
   replace hB := Chg.thenB hB b73
   refine WL.do (dx_storeW (vs := cs38) rfl ty_size_25_5 rfl rfl rfl hg45 k72 hg44 rfl) rfl ?_
   rintro _ W78 ⟨k80, o79⟩
   replace hp50 := hp50.other o79 n75
   replace k3 := k3.other o79 n76
   clear k72
   replace hB := Chg.only hB o79 (.inr l77)
   refine Pu rfl (Ni (hK19 (Sq fun K81 hK81 => (Rg (Pu rfl (Va (dx_nilCheck rfl rfl) rfl rfl (Va (dx_fld (o1 := 2) rfl ty_fld_59_1_2 rfl rfl) rfl rfl ?_)))))))
   refine Va (dx_load rfl ty_one_3 rfl (hp50.cell (k := 2) rfl)) rfl rfl (Va (dx_sub (r := (dp : Int)) rfl rfl rfl (by rw [wrap64_id (by omega)]; omega)) rfl rfl (Va (dx_nilCheck rfl rfl) rfl rfl (Va (dx_fld (o1 := 2) rfl ty_fld_59_1_2 rfl rfl) rfl rfl ?_)))
   refine WL.do (dx_store (cs' := [.string s, .int .i64 (k36 : Int), .int .i64 (dp : Int)]) (vs := [.int .i64 (dp : Int)]) rfl ty_size_3_1 rfl rfl rfl (oc_cons rfl oc_nil) hp50 rfl (Nat.le_of_ble_eq_true rfl) rfl) rfl ?_
   rintro _ W82 ⟨k84, o83⟩
   replace k3 := k3.other o83 n6.symm
   clear hp50
   replace hB := Chg.only hB o83 (.inl rfl)
   refine Ni (hK81 (Sq fun K85 hK85 => (Sq fun K86 hK86 => (Rg (Pu rfl (Va (dv_NT (dx_neq rfl rfl rfl) hg43) rfl rfl (Ni ?_)))))))
   refine hK86 (WC.condT rfl (Sq fun K87 hK87 => (Rg (Va (dx_build rfl rfl (built_of_O (cs := zV) (by kernel_rfl) oc_nil)) rfl rfl (Pu rfl ?_)))))
   refine WL.do (dx_store (cs' := zV) (vs := zV) rfl ty_size_25_5 rfl rfl rfl (oc_cons rfl (oc_cons rfl (oc_cons rfl (oc_cons rfl (oc_cons rfl oc_nil))))) k3 rfl (Nat.le_of_ble_eq_true rfl) rfl) rfl ?_
   rintro _ W88 ⟨k90, o89⟩
   replace k84 := k84.other o89 n6
   clear k3
   replace hB := Chg.only hB o89 (.inr l7)
   refine Pu rfl (Ni (hK87 ?_))
   exact WC.ret fun a_ ha_ => hQ (cw_ret2 rfl (.agg rfl ty_agg_25_5 k90.range rfl) (.tmp rfl) (.inr ⟨k36, e37, rfl, hg43, (by unfold nestS; rw [if_neg hd12]; exact hg46), by omega, k84⟩) hB ha_)

def leafT (k n : Int) (t : ByteArray) : Tr := .mk k n t (.slice none 0 0) [] (.slice none 0 0) []
def leafS (k n : Int) (t : ByteArray) : Js := .mk k n t [] []
theorem leaf_er' (k n : Int) (t : ByteArray) : (leafT k n t).er = leafS k n t := by unfold leafT leafS; rw [Tr.er_mk]; rfl
theorem leaf_rd (k n : Int) (t : ByteArray) (m : Nat) (L : List Nat) (w : World) : RdT (m + 1) L w (leafT k n t) := ⟨RdF.nil (by decide), RdF.nil (by decide), fun c hc => by cases hc⟩
def wordR (s w : ByteArray) (kd : Int) (k : Nat) : Except Int (Js × Nat) := if wordS s w k = true then .ok (leafS kd 0 ⟨#[]⟩, k + w.size) else .error 2
def numR (s : ByteArray) (k : Nat) : Except Int (Js × Nat) := match numS s k with
 | .error e => .error e
 | .ok (n, k') => .ok (leafS 3 n ⟨#[]⟩, k')
def quoR (s : ByteArray) (k : Nat) : Except Int (Js × Nat) := match quoS s k with
 | none => .error 2
 | some (l, k') => .ok (leafS 4 0 (strOfNums l), k')
def valB (s : ByteArray) (dp : Nat) (rl ro : Except Int (Js × Nat)) (k : Nat) : Except Int (Js × Nat) :=
 if k < s.size then
  if atS s k = 110 then wordR s ⟨#[110, 117, 108, 108]⟩ 0 k else if atS s k = 116 then wordR s ⟨#[116, 114, 117, 101]⟩ 1 k else if atS s k = 102 then wordR s ⟨#[102, 97, 108, 115, 101]⟩ 2 k
  else if atS s k = 45 ∨ (48 ≤ atS s k ∧ atS s k ≤ 57) then numR s k else if atS s k = 34 then quoR s k
  else if atS s k = 91 then nestS dp rl else if atS s k = 123 then nestS dp ro else .error 2
 else .error 2
def valC (s : ByteArray) (dp : Nat) (rl ro : Except Int (Js × Nat)) (k : Nat) (c : Int) : Except Int (Js × Nat) :=
  if c = 110 then wordR s ⟨#[110, 117, 108, 108]⟩ 0 k else if c = 116 then wordR s ⟨#[116, 114, 117, 101]⟩ 1 k else if c = 102 then wordR s ⟨#[102, 97, 108, 115, 101]⟩ 2 k
  else if c = 45 ∨ (48 ≤ c ∧ c ≤ 57) then numR s k else if c = 34 then quoR s k
  else if c = 91 then nestS dp rl else if c = 123 then nestS dp ro else .error 2
theorem valB_c {s : ByteArray} {dp : Nat} {rl ro : Except Int (Js × Nat)} {k : Nat} {c : Int} (h : k < s.size → c = atS s k) (h0 : s.size ≤ k → c = 0) : valB s dp rl ro k = valC s dp rl ro k c := by
  unfold valB
  split
  · rename_i hk
    rw [← h hk]; rfl
  · rename_i hk
    obtain rfl := h0 (by omega)
    rfl
section
variable {P : Program} {ops : Array Oper} {o : Oper} {N : Nat} {f : Fl} {w : World}
theorem dx_funcP {fn : FuncId} {x : Operand} {X q : Nat} (ho : o.op = .makeFunc (.func fn) #[x] #[]) (hx : ev f x = some (.pointer (some ⟨X, q, none⟩))) (hw : wantF ops o f = some true := by rfl) : DV P ops o N f w (.func (.func fn) #[.pointer (some ⟨X, q, none⟩)] #[]) := fun a ha => by
 have hx := ha.ev hx
 exact Does.pure (wantF_of ha hw) _ (by unfold execOp; simp [ho, Instr.makeFunc, hx, Sem.run_bind, Sem.run_pure, Result.andThen_ok]) ⟨rfl, rfl⟩
end
section
variable {s wd : ByteArray} {dp k k' : Nat} {rl ro : Except Int (Js × Nat)} {c n e kd : Int} {l : List Int}
theorem valC_n (h : c = 45 ∨ (48 ≤ c ∧ c ≤ 57)) : valC s dp rl ro k c = numR s k := by unfold valC; rw [if_neg (by omega), if_neg (by omega), if_neg (by omega), if_pos h]
theorem valC_q (h : c = 34) : valC s dp rl ro k c = quoR s k := by unfold valC; rw [if_neg (by omega), if_neg (by omega), if_neg (by omega), if_neg (by omega), if_pos h]
theorem valC_l (h : c = 91) : valC s dp rl ro k c = nestS dp rl := by unfold valC; rw [if_neg (by omega), if_neg (by omega), if_neg (by omega), if_neg (by omega), if_neg (by omega), if_pos h]
theorem valC_o (h : c = 123) : valC s dp rl ro k c = nestS dp ro := by unfold valC; rw [if_neg (by omega), if_neg (by omega), if_neg (by omega), if_neg (by omega), if_neg (by omega), if_neg (by omega), if_pos h]
theorem valC_0 (h0 : ¬ c = 110) (h1 : ¬ c = 116) (h2 : ¬ c = 102) (h3 : ¬ c = 45) (h4 : ¬ (48 ≤ c ∧ c ≤ 57)) (h5 : ¬ c = 34) (h6 : ¬ c = 91) (h7 : ¬ c = 123) : valC s dp rl ro k c = .error 2 := by unfold valC; rw [if_neg h0, if_neg h1, if_neg h2, if_neg (by omega), if_neg h5, if_neg h6, if_neg h7]
theorem valC_w0 (h : c = 110) : valC s dp rl ro k c = wordR s ⟨#[110, 117, 108, 108]⟩ 0 k := by unfold valC; rw [if_pos h]
theorem valC_w1 (h : c = 116) : valC s dp rl ro k c = wordR s ⟨#[116, 114, 117, 101]⟩ 1 k := by unfold valC; rw [if_neg (by omega), if_pos h]
theorem valC_w2 (h : c = 102) : valC s dp rl ro k c = wordR s ⟨#[102, 97, 108, 115, 101]⟩ 2 k := by unfold valC; rw [if_neg (by omega), if_neg (by omega), if_pos h]
theorem wordR_t (h : wordS s wd k = true) (e1 : k' = k + wd.size) : wordR s wd kd k = .ok ((leafT kd 0 ⟨#[]⟩).er, k') := by rw [leaf_er', e1]; unfold wordR; rw [if_pos h]
theorem wordR_f (h : wordS s wd k = false) : wordR s wd kd k = .error 2 := by unfold wordR; rw [h]; rfl
theorem numR_t (h : numS s k = .ok (n, k')) : numR s k = .ok ((leafT 3 n ⟨#[]⟩).er, k') := by rw [leaf_er']; unfold numR; rw [h]
theorem numR_f (h : numS s k = .error e) : numR s k = .error e := by unfold numR; rw [h]
theorem quoR_t (h : quoS s k = some (l, k')) : quoR s k = .ok ((leafT 4 0 (strOfNums l)).er, k') := by rw [leaf_er']; unfold quoR; rw [h]
theorem quoR_f (h : quoS s k = none) : quoR s k = .error 2 := by unfold quoR; rw [h]
end
set_option maxHeartbeats 1000000 in
theorem value_v (n : Nat) (rl ro : Except Int (Js × Nat)) (s : ByteArray) (P ka dp : Nat) (w : World) (L : List Nat) (hL : LL L w) (hPL : P ∈ L) (hs : s.size ≤ 1000000) (hk : ka ≤ s.size) (hp : Blk w P (psC s ka dp))  (hdp : dp ≤ 12) (hl : ¬ dp = 12 → takeS s ka 91 = true → ∀ (W : World) (L' : List Nat), LL L' W → P ∈ L' → ∀ d, d = dp + 1 → Blk W P (psC s ka d) → CW Tryd.prog 53 [.pointer (some ⟨P, 0, none⟩)] W P (fun v W' => (∃ k' t, v = .tuple #[.agg #[.int .i64 t.kind, .int .i64 t.num, .string t.text, t.nv, t.iv], .int .i64 0] ∧ rl = .ok (t.er, k') ∧ RdT (n + 1) L' W' t ∧ ka < k' ∧ k' ≤ s.size ∧ Blk W' P (psC s k' d)) ∨ (∃ k' e cs, v = .tuple #[.agg (List.toArray cs), .int .i64 e] ∧ e ≠ 0 ∧ cs.length = 5 ∧ (∀ u ∈ cs, u.oneCell' = true) ∧ rl = .error e ∧ k' ≤ s.size ∧ Blk W' P (psC s k' d)))) (ho : ¬ dp = 12 → takeS s ka 123 = true → ∀ (W : World) (L' : List Nat), LL L' W → P ∈ L' → ∀ d, d = dp + 1 → Blk W P (psC s ka d) → CW Tryd.prog 54 [.pointer (some ⟨P, 0, none⟩)] W P (fun v W' => (∃ k' t, v = .tuple #[.agg #[.int .i64 t.kind, .int .i64 t.num, .string t.text, t.nv, t.iv], .int .i64 0] ∧ ro = .ok (t.er, k') ∧ RdT (n + 1) L' W' t ∧ ka < k' ∧ k' ≤ s.size ∧ Blk W' P (psC s k' d)) ∨ (∃ k' e cs, v = .tuple #[.agg (List.toArray cs), .int .i64 e] ∧ e ≠ 0 ∧ cs.length = 5 ∧ (∀ u ∈ cs, u.oneCell' = true) ∧ ro = .error e ∧ k' ≤ s.size ∧ Blk W' P (psC s k' d)))) : CW Tryd.prog 33 [.pointer (some ⟨P, 0, none⟩)] w P fun v W => (∃ k' t, v = .tuple #[.agg #[.int .i64 t.kind, .int .i64 t.num, .string t.text, t.nv, t.iv], .int .i64 0] ∧ valB s dp rl ro ka = .ok (t.er, k') ∧ RdT (n + 1) L W t ∧ ka < k' ∧ k' ≤ s.size ∧ Blk W P (psC s k' dp)) ∨ (∃ k' e, v = .tuple #[.agg #[.int .i64 0, .int .i64 0, .string ⟨#[]⟩, .slice none 0 0, .slice none 0 0], .int .i64 e] ∧ e ≠ 0 ∧ valB s dp rl ro ka = .error e ∧ k' ≤ s.size ∧ Blk W P (psC s k' dp)) := by
 refine cw_enter (N := 80) (f := [(0, .pointer (some ⟨P, 0, none⟩))]) Tryd.func33 rfl rfl rfl rfl fun Q hQ hE => ?_
 have hB := Chg.refl P w
 have hL0 := hL
 refine Sq fun K1 hK1 => (Rg ?_)
 refine Ge (dx_alloc rfl ty_zero_25 rfl) rfl rfl ?_
 rintro _ W2 ⟨rfl, k3, b4, z5⟩
 have n6 : P ≠ w.heap.size := Nat.ne_of_lt hp.lt
 have l7 := hB.size
 replace hp := hp.below b4
 replace hB := Chg.thenB hB b4
 replace hL := LL.more hL z5
 refine Pu rfl (Ni (hK1 (Sq fun K8 hK8 => (Sq fun K9 hK9 => (Rg (Pu rfl (Va (dx_nilCheck rfl rfl) rfl rfl ?_)))))))
 refine Va (dx_fld (o1 := 0) rfl ty_fld_59_0_0 rfl rfl) rfl rfl ?_
 refine Ge (dx_cv rfl Tryd.func48 rfl rfl rfl (peek_c s P ka dp W2 _ hL (.tail _ hPL) hs (by omega) hp)) rfl rfl ?_
 rintro _ W31 ⟨⟨c25, rfl, hc26, hc27, hc28, hc29⟩, b30⟩
 replace hp := hp.below b30
 replace k3 := k3.below b30
 replace hB := Chg.thenB hB b30
 replace hL := LL.below hL b30
 refine Pu rfl (Ni (hK9 (WC.block (Sq fun K32 hK32 => (Rg (Pu rfl (Va (dx_eql rfl rfl rfl) rfl rfl ?_)))))))
 refine Pu rfl (Ni (hK32 ?_))
 refine WC.cond rfl (fun c33 => ?_) (fun c33 => ?_)
 ·
  replace c33 := dT c33
  refine Sq fun K34 hK34 => (Rg (Pu rfl ?_))
  refine Ge (dx_cw rfl Tryd.func49 rfl rfl rfl (plain_v ({ data := #[110, 117, 108, 108] }) 0 s P ka dp W31 _ hL (.tail _ hPL) hs (by omega) hp (by decide))) rfl rfl ?_
  rintro _ W50 ⟨(⟨k42, rfl, hw44, hw45, hw46, hp51⟩ | ⟨k43, rfl, hw47, hw48, hp51⟩), g49⟩
  ·
   replace k3 := k3.chg g49 n6.symm
   replace hB := Chg.both hB g49
   refine Pu rfl (Pu rfl ?_)
   refine WL.do (dx_store (cs' := zV) (vs := zV) rfl ty_size_25_5 rfl rfl rfl (oc_cons rfl (oc_cons rfl (oc_cons rfl (oc_cons rfl (oc_cons rfl oc_nil))))) k3 rfl (Nat.le_of_ble_eq_true rfl) rfl) rfl ?_
   rintro _ W52 ⟨k54, o53⟩
   replace hp51 := hp51.other o53 n6
   clear k3
   replace hB := Chg.only hB o53 (.inr l7)
   refine Pu rfl (Ni (hK34 ?_))
   exact WC.ret fun a_ ha_ => hQ (cw_ret2 rfl (.agg rfl ty_agg_25_5 k54.range rfl) (.tmp rfl) (.inl ⟨k42, leafT 0 0 ⟨#[]⟩, rfl, (valB_c hc28 hc29).trans ((valC_w0 (by omega)).trans (wordR_t hw44 hw45)), leaf_rd _ _ _ _ _ _, by first | omega | (simp only [ByteArray.size] at *; simp at *; omega), by omega, hp51⟩) hB ha_)
  ·
   replace k3 := k3.chg g49 n6.symm
   replace hB := Chg.both hB g49
   refine Pu rfl (Pu rfl ?_)
   refine WL.do (dx_store (cs' := zV) (vs := zV) rfl ty_size_25_5 rfl rfl rfl (oc_cons rfl (oc_cons rfl (oc_cons rfl (oc_cons rfl (oc_cons rfl oc_nil))))) k3 rfl (Nat.le_of_ble_eq_true rfl) rfl) rfl ?_
   rintro _ W55 ⟨k57, o56⟩
   replace hp51 := hp51.other o56 n6
   clear k3
   replace hB := Chg.only hB o56 (.inr l7)
   refine Pu rfl (Ni (hK34 ?_))
   exact WC.ret fun a_ ha_ => hQ (cw_ret2 rfl (.agg rfl ty_agg_25_5 k57.range rfl) (.tmp rfl) (.inr ⟨k43, 2, rfl, (by decide), (valB_c hc28 hc29).trans ((valC_w0 (by omega)).trans (wordR_f hw47)), by omega, hp51⟩) hB ha_)
 ·
  replace c33 := dF c33
  refine Sq fun K58 hK58 => (Rg (Pu rfl (Va (dx_eql rfl rfl rfl) rfl rfl (Pu rfl (Ni (hK58 ?_))))))
  refine WC.cond rfl (fun c59 => ?_) (fun c59 => ?_)
  ·
   replace c59 := dT c59
   refine Sq fun K60 hK60 => (Rg (Pu rfl ?_))
   refine Ge (dx_cw rfl Tryd.func49 rfl rfl rfl (plain_v ({ data := #[116, 114, 117, 101] }) 1 s P ka dp W31 _ hL (.tail _ hPL) hs (by omega) hp (by decide))) rfl rfl ?_
   rintro _ W76 ⟨(⟨k68, rfl, hw70, hw71, hw72, hp77⟩ | ⟨k69, rfl, hw73, hw74, hp77⟩), g75⟩
   ·
    replace k3 := k3.chg g75 n6.symm
    replace hB := Chg.both hB g75
    refine Pu rfl (Pu rfl ?_)
    refine WL.do (dx_store (cs' := [.int .i64 1, .int .i64 0, .string ⟨#[]⟩, .slice none 0 0, .slice none 0 0]) (vs := [.int .i64 1, .int .i64 0, .string ⟨#[]⟩, .slice none 0 0, .slice none 0 0]) rfl ty_size_25_5 rfl rfl rfl (oc_cons rfl (oc_cons rfl (oc_cons rfl (oc_cons rfl (oc_cons rfl oc_nil))))) k3 rfl (Nat.le_of_ble_eq_true rfl) rfl) rfl ?_
    rintro _ W78 ⟨k80, o79⟩
    replace hp77 := hp77.other o79 n6
    clear k3
    replace hB := Chg.only hB o79 (.inr l7)
    refine Pu rfl (Ni (hK60 ?_))
    exact WC.ret fun a_ ha_ => hQ (cw_ret2 rfl (.agg rfl ty_agg_25_5 k80.range rfl) (.tmp rfl) (.inl ⟨k68, leafT 1 0 ⟨#[]⟩, rfl, (valB_c hc28 hc29).trans ((valC_w1 (by omega)).trans (wordR_t hw70 hw71)), leaf_rd _ _ _ _ _ _, by first | omega | (simp only [ByteArray.size] at *; simp at *; omega), by omega, hp77⟩) hB ha_)
   ·
    replace k3 := k3.chg g75 n6.symm
    replace hB := Chg.both hB g75
    refine Pu rfl (Pu rfl ?_)
    refine WL.do (dx_store (cs' := zV) (vs := zV) rfl ty_size_25_5 rfl rfl rfl (oc_cons rfl (oc_cons rfl (oc_cons rfl (oc_cons rfl (oc_cons rfl oc_nil))))) k3 rfl (Nat.le_of_ble_eq_true rfl) rfl) rfl ?_
    rintro _ W81 ⟨k83, o82⟩
    replace hp77 := hp77.other o82 n6
    clear k3
    replace hB := Chg.only hB o82 (.inr l7)
    refine Pu rfl (Ni (hK60 ?_))
    exact WC.ret fun a_ ha_ => hQ (cw_ret2 rfl (.agg rfl ty_agg_25_5 k83.range rfl) (.tmp rfl) (.inr ⟨k69, 2, rfl, (by decide), (valB_c hc28 hc29).trans ((valC_w1 (by omega)).trans (wordR_f hw73)), by omega, hp77⟩) hB ha_)
  ·
   replace c59 := dF c59
   refine Sq fun K84 hK84 => (Rg (Pu rfl (Va (dx_eql rfl rfl rfl) rfl rfl (Pu rfl (Ni (hK84 ?_))))))
   refine WC.cond rfl (fun c85 => ?_) (fun c85 => ?_)
   ·
    replace c85 := dT c85
    refine Sq fun K86 hK86 => (Rg (Pu rfl ?_))
    refine Ge (dx_cw rfl Tryd.func49 rfl rfl rfl (plain_v ({ data := #[102, 97, 108, 115, 101] }) 2 s P ka dp W31 _ hL (.tail _ hPL) hs (by omega) hp (by decide))) rfl rfl ?_
    rintro _ W102 ⟨(⟨k94, rfl, hw96, hw97, hw98, hp103⟩ | ⟨k95, rfl, hw99, hw100, hp103⟩), g101⟩
    ·
     replace k3 := k3.chg g101 n6.symm
     replace hB := Chg.both hB g101
     refine Pu rfl (Pu rfl ?_)
     refine WL.do (dx_store (cs' := [.int .i64 2, .int .i64 0, .string ⟨#[]⟩, .slice none 0 0, .slice none 0 0]) (vs := [.int .i64 2, .int .i64 0, .string ⟨#[]⟩, .slice none 0 0, .slice none 0 0]) rfl ty_size_25_5 rfl rfl rfl (oc_cons rfl (oc_cons rfl (oc_cons rfl (oc_cons rfl (oc_cons rfl oc_nil))))) k3 rfl (Nat.le_of_ble_eq_true rfl) rfl) rfl ?_
     rintro _ W104 ⟨k106, o105⟩
     replace hp103 := hp103.other o105 n6
     clear k3
     replace hB := Chg.only hB o105 (.inr l7)
     refine Pu rfl (Ni (hK86 ?_))
     exact WC.ret fun a_ ha_ => hQ (cw_ret2 rfl (.agg rfl ty_agg_25_5 k106.range rfl) (.tmp rfl) (.inl ⟨k94, leafT 2 0 ⟨#[]⟩, rfl, (valB_c hc28 hc29).trans ((valC_w2 (by omega)).trans (wordR_t hw96 hw97)), leaf_rd _ _ _ _ _ _, by first | omega | (simp only [ByteArray.size] at *; simp at *; omega), by omega, hp103⟩) hB ha_)
    ·
     replace k3 := k3.chg g101 n6.symm
     replace hB := Chg.both hB g101
     refine Pu rfl (Pu rfl ?_)
     refine WL.do (dx_store (cs' := zV) (vs := zV) rfl ty_size_25_5 rfl rfl rfl (oc_cons rfl (oc_cons rfl (oc_cons rfl (oc_cons rfl (oc_cons rfl oc_nil))))) k3 rfl (Nat.le_of_ble_eq_true rfl) rfl) rfl ?_
     rintro _ W107 ⟨k109, o108⟩
     replace hp103 := hp103.other o108 n6
     clear k3
     replace hB := Chg.only hB o108 (.inr l7)
     refine Pu rfl (Ni (hK86 ?_))
     exact WC.ret fun a_ ha_ => hQ (cw_ret2 rfl (.agg rfl ty_agg_25_5 k109.range rfl) (.tmp rfl) (.inr ⟨k95, 2, rfl, (by decide), (valB_c hc28 hc29).trans ((valC_w2 (by omega)).trans (wordR_f hw99)), by omega, hp103⟩) hB ha_)
   ·
    replace c85 := dF c85
    refine Sq fun K110 hK110 => (Rg (Pu rfl (Va (dx_eql rfl rfl rfl) rfl rfl (Pu rfl ?_))))
    refine WL.split 35 rfl (fun g111 => ?_) (fun g111 => ?_)
    ·
     replace g111 := dT g111
     refine Of rfl (Of rfl (Of rfl (Of rfl (Of rfl (Of rfl (Pu rfl (Pu rfl ?_)))))))
     refine Ni (hK110 (WC.condT rfl (Sq fun K112 hK112 => (Rg (Pu rfl ?_)))))
     refine Ge (dx_cw rfl Tryd.func50 rfl rfl rfl (number_v s P ka dp W31 _ hL (.tail _ hPL) hs (by omega) hp)) rfl rfl ?_
     rintro _ W140 ⟨(⟨k126, n128, rfl, hw130, hw131, hw132, hw133, hw134, hp141⟩ | ⟨k127, e129, rfl, hw135, hw136, hw137, hp141⟩), g139⟩
     ·
      replace k3 := k3.chg g139 n6.symm
      replace hB := Chg.both hB g139
      refine Pu rfl (Pu rfl ?_)
      refine WL.do (dx_store (cs' := [.int .i64 3, .int .i64 n128, .string ⟨#[]⟩, .slice none 0 0, .slice none 0 0]) (vs := [.int .i64 3, .int .i64 n128, .string ⟨#[]⟩, .slice none 0 0, .slice none 0 0]) rfl ty_size_25_5 rfl rfl rfl (oc_cons rfl (oc_cons rfl (oc_cons rfl (oc_cons rfl (oc_cons rfl oc_nil))))) k3 rfl (Nat.le_of_ble_eq_true rfl) rfl) rfl ?_
      rintro _ W142 ⟨k144, o143⟩
      replace hp141 := hp141.other o143 n6
      clear k3
      replace hB := Chg.only hB o143 (.inr l7)
      refine Pu rfl (Ni (hK112 ?_))
      exact WC.ret fun a_ ha_ => hQ (cw_ret2 rfl (.agg rfl ty_agg_25_5 k144.range rfl) (.tmp rfl) (.inl ⟨k126, leafT 3 n128 ⟨#[]⟩, rfl, (valB_c hc28 hc29).trans ((valC_n (by omega)).trans (numR_t hw130)), leaf_rd _ _ _ _ _ _, by first | omega | (simp only [ByteArray.size] at *; simp at *; omega), by omega, hp141⟩) hB ha_)
     ·
      replace k3 := k3.chg g139 n6.symm
      replace hB := Chg.both hB g139
      refine Pu rfl (Pu rfl ?_)
      refine WL.do (dx_store (cs' := zV) (vs := zV) rfl ty_size_25_5 rfl rfl rfl (oc_cons rfl (oc_cons rfl (oc_cons rfl (oc_cons rfl (oc_cons rfl oc_nil))))) k3 rfl (Nat.le_of_ble_eq_true rfl) rfl) rfl ?_
      rintro _ W145 ⟨k147, o146⟩
      replace hp141 := hp141.other o146 n6
      clear k3
      replace hB := Chg.only hB o146 (.inr l7)
      refine Pu rfl (Ni (hK112 ?_))
      exact WC.ret fun a_ ha_ => hQ (cw_ret2 rfl (.agg rfl ty_agg_25_5 k147.range rfl) (.tmp rfl) (.inr ⟨k127, e129, rfl, hw135, (valB_c hc28 hc29).trans ((valC_n (by omega)).trans (numR_f hw136)), by omega, hp141⟩) hB ha_)
    ·
     replace g111 := dF g111
     refine Pu rfl (Va (dx_geq rfl rfl rfl) rfl rfl (Pu rfl ?_))
     refine WL.split 38 rfl (fun g148 => ?_) (fun g148 => ?_)
     ·
      replace g148 := dT g148
      refine Pu rfl (Va (dx_leq rfl rfl rfl) rfl rfl (Pu rfl (Pu rfl (Pu rfl (Ni (hK110 ?_))))))
      refine WC.cond rfl (fun c149 => ?_) (fun c149 => ?_)
      ·
       replace c149 := dT c149
       refine Sq fun K150 hK150 => (Rg (Pu rfl ?_))
       refine Ge (dx_cw rfl Tryd.func50 rfl rfl rfl (number_v s P ka dp W31 _ hL (.tail _ hPL) hs (by omega) hp)) rfl rfl ?_
       rintro _ W178 ⟨(⟨k164, n166, rfl, hw168, hw169, hw170, hw171, hw172, hp179⟩ | ⟨k165, e167, rfl, hw173, hw174, hw175, hp179⟩), g177⟩
       ·
        replace k3 := k3.chg g177 n6.symm
        replace hB := Chg.both hB g177
        refine Pu rfl (Pu rfl ?_)
        refine WL.do (dx_store (cs' := [.int .i64 3, .int .i64 n166, .string ⟨#[]⟩, .slice none 0 0, .slice none 0 0]) (vs := [.int .i64 3, .int .i64 n166, .string ⟨#[]⟩, .slice none 0 0, .slice none 0 0]) rfl ty_size_25_5 rfl rfl rfl (oc_cons rfl (oc_cons rfl (oc_cons rfl (oc_cons rfl (oc_cons rfl oc_nil))))) k3 rfl (Nat.le_of_ble_eq_true rfl) rfl) rfl ?_
        rintro _ W180 ⟨k182, o181⟩
        replace hp179 := hp179.other o181 n6
        clear k3
        replace hB := Chg.only hB o181 (.inr l7)
        refine Pu rfl (Ni (hK150 ?_))
        exact WC.ret fun a_ ha_ => hQ (cw_ret2 rfl (.agg rfl ty_agg_25_5 k182.range rfl) (.tmp rfl) (.inl ⟨k164, leafT 3 n166 ⟨#[]⟩, rfl, (valB_c hc28 hc29).trans ((valC_n (by omega)).trans (numR_t hw168)), leaf_rd _ _ _ _ _ _, by first | omega | (simp only [ByteArray.size] at *; simp at *; omega), by omega, hp179⟩) hB ha_)
       ·
        replace k3 := k3.chg g177 n6.symm
        replace hB := Chg.both hB g177
        refine Pu rfl (Pu rfl ?_)
        refine WL.do (dx_store (cs' := zV) (vs := zV) rfl ty_size_25_5 rfl rfl rfl (oc_cons rfl (oc_cons rfl (oc_cons rfl (oc_cons rfl (oc_cons rfl oc_nil))))) k3 rfl (Nat.le_of_ble_eq_true rfl) rfl) rfl ?_
        rintro _ W183 ⟨k185, o184⟩
        replace hp179 := hp179.other o184 n6
        clear k3
        replace hB := Chg.only hB o184 (.inr l7)
        refine Pu rfl (Ni (hK150 ?_))
        exact WC.ret fun a_ ha_ => hQ (cw_ret2 rfl (.agg rfl ty_agg_25_5 k185.range rfl) (.tmp rfl) (.inr ⟨k165, e167, rfl, hw173, (valB_c hc28 hc29).trans ((valC_n (by omega)).trans (numR_f hw174)), by omega, hp179⟩) hB ha_)
      ·
       replace c149 := dF c149
       refine Sq fun K186 hK186 => (Rg (Pu rfl (Va (dx_eql rfl rfl rfl) rfl rfl (Pu rfl (Ni (hK186 ?_))))))
       refine WC.cond rfl (fun c187 => ?_) (fun c187 => ?_)
       ·
        replace c187 := dT c187
        refine Sq fun K188 hK188 => (Rg (Pu rfl ?_))
        refine Ge (dx_cw rfl Tryd.func51 rfl rfl rfl (quoted_v s P ka dp W31 _ hL (.tail _ hPL) hs (by omega) hp (take_of (by rcases Nat.lt_or_ge ka s.size with h_ | h_; exact h_; (have := hc29 h_; omega)) (by have h_ : ka < s.size := (by rcases Nat.lt_or_ge ka s.size with h_ | h_; exact h_; (have := hc29 h_; omega)); have := hc28 h_; omega)))) rfl rfl ?_
        rintro _ W214 ⟨(⟨k201, l203, rfl, hw204, hw205, hw206, hw207, hw208, hp215⟩ | ⟨k202, rfl, hw209, hw210, hp215⟩), g213⟩
        ·
         replace k3 := k3.chg g213 n6.symm
         replace hB := Chg.both hB g213
         refine Pu rfl (Pu rfl (Pu rfl (Pu rfl (Pu rfl (Ni (hK188 (Sq fun K216 hK216 => ?_)))))))
         refine Sq fun K217 hK217 => (Rg (Pu rfl (Va (dx_neq rfl rfl rfl) rfl rfl (Ni (hK217 (WC.condF rfl (WC.skip ?_)))))))
         refine hK216 (Sq fun K218 hK218 => (Rg (Pu rfl (Va (dx_build rfl rfl (built_of_O (cs := [.int .i64 4, .int .i64 0, .string (strOfNums l203), .slice none 0 0, .slice none 0 0]) (by kernel_rfl) (oc_cons rfl (oc_cons rfl oc_nil)))) rfl rfl ?_))))
         refine WL.do (dx_store (cs' := [.int .i64 4, .int .i64 0, .string (strOfNums l203), .slice none 0 0, .slice none 0 0]) (vs := [.int .i64 4, .int .i64 0, .string (strOfNums l203), .slice none 0 0, .slice none 0 0]) rfl ty_size_25_5 rfl rfl rfl (oc_cons rfl (oc_cons rfl (oc_cons rfl (oc_cons rfl (oc_cons rfl oc_nil))))) k3 rfl (Nat.le_of_ble_eq_true rfl) rfl) rfl ?_
         rintro _ W219 ⟨k221, o220⟩
         replace hp215 := hp215.other o220 n6
         clear k3
         replace hB := Chg.only hB o220 (.inr l7)
         refine Pu rfl (Ni (hK218 ?_))
         exact WC.ret fun a_ ha_ => hQ (cw_ret2 rfl (.agg rfl ty_agg_25_5 k221.range rfl) (.tmp rfl) (.inl ⟨k201, leafT 4 0 (strOfNums l203), rfl, (valB_c hc28 hc29).trans ((valC_q (by omega)).trans (quoR_t hw204)), leaf_rd _ _ _ _ _ _, by first | omega | (simp only [ByteArray.size] at *; simp at *; omega), by omega, hp215⟩) hB ha_)
        ·
         replace k3 := k3.chg g213 n6.symm
         replace hB := Chg.both hB g213
         refine Pu rfl (Pu rfl (Pu rfl (Pu rfl (Pu rfl (Ni (hK188 (Sq fun K222 hK222 => ?_)))))))
         refine Sq fun K223 hK223 => (Rg (Pu rfl (Va (dx_neq rfl rfl rfl) rfl rfl (Ni (hK223 (WC.condT rfl (Sq fun K224 hK224 => ?_)))))))
         refine Rg (Va (dx_build rfl rfl (built_of_O (cs := zV) (by kernel_rfl) oc_nil)) rfl rfl (Pu rfl ?_))
         refine WL.do (dx_store (cs' := zV) (vs := zV) rfl ty_size_25_5 rfl rfl rfl (oc_cons rfl (oc_cons rfl (oc_cons rfl (oc_cons rfl (oc_cons rfl oc_nil))))) k3 rfl (Nat.le_of_ble_eq_true rfl) rfl) rfl ?_
         rintro _ W225 ⟨k227, o226⟩
         replace hp215 := hp215.other o226 n6
         clear k3
         replace hB := Chg.only hB o226 (.inr l7)
         refine Pu rfl (Ni (hK224 ?_))
         exact WC.ret fun a_ ha_ => hQ (cw_ret2 rfl (.agg rfl ty_agg_25_5 k227.range rfl) (.tmp rfl) (.inr ⟨k202, 2, rfl, (by decide), (valB_c hc28 hc29).trans ((valC_q (by omega)).trans (quoR_f hw209)), by omega, hp215⟩) hB ha_)
       ·
        replace c187 := dF c187
        refine Sq fun K228 hK228 => (Rg (Pu rfl (Va (dx_eql rfl rfl rfl) rfl rfl (Pu rfl (Ni (hK228 ?_))))))
        refine WC.cond rfl (fun c229 => ?_) (fun c229 => ?_)
        ·
         replace c229 := dT c229
         refine Sq fun K230 hK230 => (Rg (Pu rfl (Pu rfl (Va (dx_funcP rfl rfl) rfl rfl ?_))))
         refine Ge (dx_cw rfl Tryd.func52 rfl rfl rfl (nested_v (.func (.func 53) #[.pointer (some ⟨P, 0, none⟩)] #[]) n rl s P ka dp W31 _ hL (.tail _ hPL) hs (by omega) hp hdp (fun h12 W_ L_ h1_ h2_ h3_ d_ h4_ h5_ => ⟨53, #[.pointer (some ⟨P, 0, none⟩)], #[], _, rfl, Tryd.func53, rfl, rfl, hl h12 (take_of (by rcases Nat.lt_or_ge ka s.size with h_ | h_; exact h_; (have := hc29 h_; omega)) (by have h_ : ka < s.size := (by rcases Nat.lt_or_ge ka s.size with h_ | h_; exact h_; (have := hc29 h_; omega)); have := hc28 h_; omega)) W_ L_ h1_ h2_ d_ h4_ h5_⟩))) rfl rfl ?_
         rintro _ W258 ⟨(⟨k244, t246, rfl, hw248, hw249, hw250, hw251, hp259⟩ | ⟨k245, e247, rfl, hw252, hw253, hw254, hp259⟩), g257⟩
         ·
          replace k3 := k3.chg g257 n6.symm
          replace hB := Chg.both hB g257
          refine Pu rfl (Pu rfl ?_)
          refine WL.do (dx_store (cs' := [.int .i64 t246.kind, .int .i64 t246.num, .string t246.text, t246.nv, t246.iv]) (vs := [.int .i64 t246.kind, .int .i64 t246.num, .string t246.text, t246.nv, t246.iv]) rfl ty_size_25_5 rfl rfl rfl (oc_cons rfl (oc_cons rfl (oc_cons rfl (oc_cons (hw249.1).one (oc_cons (hw249.2.1).one oc_nil))))) k3 rfl (Nat.le_of_ble_eq_true rfl) rfl) rfl ?_
          rintro _ W260 ⟨k262, o261⟩
          replace hp259 := hp259.other o261 n6
          clear k3
          replace hw249 := hw249.only o261 (.head _)
          replace hB := Chg.only hB o261 (.inr l7)
          refine Pu rfl (Ni (hK230 ?_))
          exact WC.ret fun a_ ha_ => hQ (cw_ret2 rfl (.agg rfl ty_agg_25_5 k262.range rfl) (.tmp rfl) (.inl ⟨k244, t246, rfl, (valB_c hc28 hc29).trans ((valC_l (by omega)).trans hw248), (hw249.less (fun x hx => (.tail _ hx))), by omega, by omega, hp259⟩) hB ha_)
         ·
          replace k3 := k3.chg g257 n6.symm
          replace hB := Chg.both hB g257
          refine Pu rfl (Pu rfl ?_)
          refine WL.do (dx_store (cs' := zV) (vs := zV) rfl ty_size_25_5 rfl rfl rfl (oc_cons rfl (oc_cons rfl (oc_cons rfl (oc_cons rfl (oc_cons rfl oc_nil))))) k3 rfl (Nat.le_of_ble_eq_true rfl) rfl) rfl ?_
          rintro _ W263 ⟨k265, o264⟩
          replace hp259 := hp259.other o264 n6
          clear k3
          replace hB := Chg.only hB o264 (.inr l7)
          refine Pu rfl (Ni (hK230 ?_))
          exact WC.ret fun a_ ha_ => hQ (cw_ret2 rfl (.agg rfl ty_agg_25_5 k265.range rfl) (.tmp rfl) (.inr ⟨k245, e247, rfl, hw252, (valB_c hc28 hc29).trans ((valC_l (by omega)).trans hw253), by omega, hp259⟩) hB ha_)
        ·
         replace c229 := dF c229
         refine Sq fun K266 hK266 => (Rg (Pu rfl (Va (dx_eql rfl rfl rfl) rfl rfl (Pu rfl (Ni (hK266 ?_))))))
         refine WC.cond rfl (fun c267 => ?_) (fun c267 => ?_)
         ·
          replace c267 := dT c267
          refine Sq fun K268 hK268 => (Rg (Pu rfl (Pu rfl (Va (dx_funcP rfl rfl) rfl rfl ?_))))
          refine Ge (dx_cw rfl Tryd.func52 rfl rfl rfl (nested_v (.func (.func 54) #[.pointer (some ⟨P, 0, none⟩)] #[]) n ro s P ka dp W31 _ hL (.tail _ hPL) hs (by omega) hp hdp (fun h12 W_ L_ h1_ h2_ h3_ d_ h4_ h5_ => ⟨54, #[.pointer (some ⟨P, 0, none⟩)], #[], _, rfl, Tryd.func54, rfl, rfl, ho h12 (take_of (by rcases Nat.lt_or_ge ka s.size with h_ | h_; exact h_; (have := hc29 h_; omega)) (by have h_ : ka < s.size := (by rcases Nat.lt_or_ge ka s.size with h_ | h_; exact h_; (have := hc29 h_; omega)); have := hc28 h_; omega)) W_ L_ h1_ h2_ d_ h4_ h5_⟩))) rfl rfl ?_
          rintro _ W296 ⟨(⟨k282, t284, rfl, hw286, hw287, hw288, hw289, hp297⟩ | ⟨k283, e285, rfl, hw290, hw291, hw292, hp297⟩), g295⟩
          ·
           replace k3 := k3.chg g295 n6.symm
           replace hB := Chg.both hB g295
           refine Pu rfl (Pu rfl ?_)
           refine WL.do (dx_store (cs' := [.int .i64 t284.kind, .int .i64 t284.num, .string t284.text, t284.nv, t284.iv]) (vs := [.int .i64 t284.kind, .int .i64 t284.num, .string t284.text, t284.nv, t284.iv]) rfl ty_size_25_5 rfl rfl rfl (oc_cons rfl (oc_cons rfl (oc_cons rfl (oc_cons (hw287.1).one (oc_cons (hw287.2.1).one oc_nil))))) k3 rfl (Nat.le_of_ble_eq_true rfl) rfl) rfl ?_
           rintro _ W298 ⟨k300, o299⟩
           replace hp297 := hp297.other o299 n6
           clear k3
           replace hw287 := hw287.only o299 (.head _)
           replace hB := Chg.only hB o299 (.inr l7)
           refine Pu rfl (Ni (hK268 ?_))
           exact WC.ret fun a_ ha_ => hQ (cw_ret2 rfl (.agg rfl ty_agg_25_5 k300.range rfl) (.tmp rfl) (.inl ⟨k282, t284, rfl, (valB_c hc28 hc29).trans ((valC_o (by omega)).trans hw286), (hw287.less (fun x hx => (.tail _ hx))), by omega, by omega, hp297⟩) hB ha_)
          ·
           replace k3 := k3.chg g295 n6.symm
           replace hB := Chg.both hB g295
           refine Pu rfl (Pu rfl ?_)
           refine WL.do (dx_store (cs' := zV) (vs := zV) rfl ty_size_25_5 rfl rfl rfl (oc_cons rfl (oc_cons rfl (oc_cons rfl (oc_cons rfl (oc_cons rfl oc_nil))))) k3 rfl (Nat.le_of_ble_eq_true rfl) rfl) rfl ?_
           rintro _ W301 ⟨k303, o302⟩
           replace hp297 := hp297.other o302 n6
           clear k3
           replace hB := Chg.only hB o302 (.inr l7)
           refine Pu rfl (Ni (hK268 ?_))
           exact WC.ret fun a_ ha_ => hQ (cw_ret2 rfl (.agg rfl ty_agg_25_5 k303.range rfl) (.tmp rfl) (.inr ⟨k283, e285, rfl, hw290, (valB_c hc28 hc29).trans ((valC_o (by omega)).trans hw291), by omega, hp297⟩) hB ha_)
         ·
          replace c267 := dF c267
          refine WC.skip (hK8 (Sq fun K304 hK304 => (Rg (Va (dx_build rfl rfl (built_of_O (cs := zV) (by kernel_rfl) oc_nil)) rfl rfl ?_))))
          refine WL.do (dx_store (cs' := zV) (vs := zV) rfl ty_size_25_5 rfl rfl rfl (oc_cons rfl (oc_cons rfl (oc_cons rfl (oc_cons rfl (oc_cons rfl oc_nil))))) k3 rfl (Nat.le_of_ble_eq_true rfl) rfl) rfl ?_
          rintro _ W305 ⟨k307, o306⟩
          replace hp := hp.other o306 n6
          clear k3
          replace hB := Chg.only hB o306 (.inr l7)
          refine Pu rfl (Ni (hK304 ?_))
          exact WC.ret fun a_ ha_ => hQ (cw_ret2 rfl (.agg rfl ty_agg_25_5 k307.range rfl) (.tmp rfl) (.inr ⟨ka, 2, rfl, by decide, (valB_c hc28 hc29).trans (valC_0 (by omega) (by omega) (by omega) (by omega) (by first | omega | simp_all) (by omega) (by omega) (by omega)), by omega, hp⟩) hB ha_)
     ·
      replace g148 := dF g148
      refine Of rfl (Of rfl (Pu rfl (Pu rfl (Pu rfl (Ni (hK110 (WC.condF rfl ?_)))))))
      refine Sq fun K308 hK308 => (Rg (Pu rfl (Va (dx_eql rfl rfl rfl) rfl rfl (Pu rfl (Ni (hK308 ?_))))))
      refine WC.cond rfl (fun c309 => ?_) (fun c309 => ?_)
      ·
       replace c309 := dT c309
       refine Sq fun K310 hK310 => (Rg (Pu rfl ?_))
       refine Ge (dx_cw rfl Tryd.func51 rfl rfl rfl (quoted_v s P ka dp W31 _ hL (.tail _ hPL) hs (by omega) hp (take_of (by rcases Nat.lt_or_ge ka s.size with h_ | h_; exact h_; (have := hc29 h_; omega)) (by have h_ : ka < s.size := (by rcases Nat.lt_or_ge ka s.size with h_ | h_; exact h_; (have := hc29 h_; omega)); have := hc28 h_; omega)))) rfl rfl ?_
       rintro _ W336 ⟨(⟨k323, l325, rfl, hw326, hw327, hw328, hw329, hw330, hp337⟩ | ⟨k324, rfl, hw331, hw332, hp337⟩), g335⟩
       ·
        replace k3 := k3.chg g335 n6.symm
        replace hB := Chg.both hB g335
        refine Pu rfl (Pu rfl (Pu rfl (Pu rfl (Pu rfl (Ni (hK310 (Sq fun K338 hK338 => ?_)))))))
        refine Sq fun K339 hK339 => (Rg (Pu rfl (Va (dx_neq rfl rfl rfl) rfl rfl (Ni (hK339 (WC.condF rfl (WC.skip ?_)))))))
        refine hK338 (Sq fun K340 hK340 => (Rg (Pu rfl (Va (dx_build rfl rfl (built_of_O (cs := [.int .i64 4, .int .i64 0, .string (strOfNums l325), .slice none 0 0, .slice none 0 0]) (by kernel_rfl) (oc_cons rfl (oc_cons rfl oc_nil)))) rfl rfl ?_))))
        refine WL.do (dx_store (cs' := [.int .i64 4, .int .i64 0, .string (strOfNums l325), .slice none 0 0, .slice none 0 0]) (vs := [.int .i64 4, .int .i64 0, .string (strOfNums l325), .slice none 0 0, .slice none 0 0]) rfl ty_size_25_5 rfl rfl rfl (oc_cons rfl (oc_cons rfl (oc_cons rfl (oc_cons rfl (oc_cons rfl oc_nil))))) k3 rfl (Nat.le_of_ble_eq_true rfl) rfl) rfl ?_
        rintro _ W341 ⟨k343, o342⟩
        replace hp337 := hp337.other o342 n6
        clear k3
        replace hB := Chg.only hB o342 (.inr l7)
        refine Pu rfl (Ni (hK340 ?_))
        exact WC.ret fun a_ ha_ => hQ (cw_ret2 rfl (.agg rfl ty_agg_25_5 k343.range rfl) (.tmp rfl) (.inl ⟨k323, leafT 4 0 (strOfNums l325), rfl, (valB_c hc28 hc29).trans ((valC_q (by omega)).trans (quoR_t hw326)), leaf_rd _ _ _ _ _ _, by first | omega | (simp only [ByteArray.size] at *; simp at *; omega), by omega, hp337⟩) hB ha_)
       ·
        replace k3 := k3.chg g335 n6.symm
        replace hB := Chg.both hB g335
        refine Pu rfl (Pu rfl (Pu rfl (Pu rfl (Pu rfl (Ni (hK310 (Sq fun K344 hK344 => ?_)))))))
        refine Sq fun K345 hK345 => (Rg (Pu rfl (Va (dx_neq rfl rfl rfl) rfl rfl (Ni (hK345 (WC.condT rfl (Sq fun K346 hK346 => ?_)))))))
        refine Rg (Va (dx_build rfl rfl (built_of_O (cs := zV) (by kernel_rfl) oc_nil)) rfl rfl (Pu rfl ?_))
        refine WL.do (dx_store (cs' := zV) (vs := zV) rfl ty_size_25_5 rfl rfl rfl (oc_cons rfl (oc_cons rfl (oc_cons rfl (oc_cons rfl (oc_cons rfl oc_nil))))) k3 rfl (Nat.le_of_ble_eq_true rfl) rfl) rfl ?_
        rintro _ W347 ⟨k349, o348⟩
        replace hp337 := hp337.other o348 n6
        clear k3
        replace hB := Chg.only hB o348 (.inr l7)
        refine Pu rfl (Ni (hK346 ?_))
        exact WC.ret fun a_ ha_ => hQ (cw_ret2 rfl (.agg rfl ty_agg_25_5 k349.range rfl) (.tmp rfl) (.inr ⟨k324, 2, rfl, (by decide), (valB_c hc28 hc29).trans ((valC_q (by omega)).trans (quoR_f hw331)), by omega, hp337⟩) hB ha_)
      ·
       replace c309 := dF c309
       refine Sq fun K350 hK350 => (Rg (Pu rfl (Va (dx_eql rfl rfl rfl) rfl rfl (Pu rfl (Ni (hK350 ?_))))))
       refine WC.cond rfl (fun c351 => ?_) (fun c351 => ?_)
       ·
        replace c351 := dT c351
        refine Sq fun K352 hK352 => (Rg (Pu rfl (Pu rfl (Va (dx_funcP rfl rfl) rfl rfl ?_))))
        refine Ge (dx_cw rfl Tryd.func52 rfl rfl rfl (nested_v (.func (.func 53) #[.pointer (some ⟨P, 0, none⟩)] #[]) n rl s P ka dp W31 _ hL (.tail _ hPL) hs (by omega) hp hdp (fun h12 W_ L_ h1_ h2_ h3_ d_ h4_ h5_ => ⟨53, #[.pointer (some ⟨P, 0, none⟩)], #[], _, rfl, Tryd.func53, rfl, rfl, hl h12 (take_of (by rcases Nat.lt_or_ge ka s.size with h_ | h_; exact h_; (have := hc29 h_; omega)) (by have h_ : ka < s.size := (by rcases Nat.lt_or_ge ka s.size with h_ | h_; exact h_; (have := hc29 h_; omega)); have := hc28 h_; omega)) W_ L_ h1_ h2_ d_ h4_ h5_⟩))) rfl rfl ?_
        rintro _ W380 ⟨(⟨k366, t368, rfl, hw370, hw371, hw372, hw373, hp381⟩ | ⟨k367, e369, rfl, hw374, hw375, hw376, hp381⟩), g379⟩
        ·
         replace k3 := k3.chg g379 n6.symm
         replace hB := Chg.both hB g379
         refine Pu rfl (Pu rfl ?_)
         refine WL.do (dx_store (cs' := [.int .i64 t368.kind, .int .i64 t368.num, .string t368.text, t368.nv, t368.iv]) (vs := [.int .i64 t368.kind, .int .i64 t368.num, .string t368.text, t368.nv, t368.iv]) rfl ty_size_25_5 rfl rfl rfl (oc_cons rfl (oc_cons rfl (oc_cons rfl (oc_cons (hw371.1).one (oc_cons (hw371.2.1).one oc_nil))))) k3 rfl (Nat.le_of_ble_eq_true rfl) rfl) rfl ?_
         rintro _ W382 ⟨k384, o383⟩
         replace hp381 := hp381.other o383 n6
         clear k3
         replace hw371 := hw371.only o383 (.head _)
         replace hB := Chg.only hB o383 (.inr l7)
         refine Pu rfl (Ni (hK352 ?_))
         exact WC.ret fun a_ ha_ => hQ (cw_ret2 rfl (.agg rfl ty_agg_25_5 k384.range rfl) (.tmp rfl) (.inl ⟨k366, t368, rfl, (valB_c hc28 hc29).trans ((valC_l (by omega)).trans hw370), (hw371.less (fun x hx => (.tail _ hx))), by omega, by omega, hp381⟩) hB ha_)
        ·
         replace k3 := k3.chg g379 n6.symm
         replace hB := Chg.both hB g379
         refine Pu rfl (Pu rfl ?_)
         refine WL.do (dx_store (cs' := zV) (vs := zV) rfl ty_size_25_5 rfl rfl rfl (oc_cons rfl (oc_cons rfl (oc_cons rfl (oc_cons rfl (oc_cons rfl oc_nil))))) k3 rfl (Nat.le_of_ble_eq_true rfl) rfl) rfl ?_
         rintro _ W385 ⟨k387, o386⟩
         replace hp381 := hp381.other o386 n6
         clear k3
         replace hB := Chg.only hB o386 (.inr l7)
         refine Pu rfl (Ni (hK352 ?_))
         exact WC.ret fun a_ ha_ => hQ (cw_ret2 rfl (.agg rfl ty_agg_25_5 k387.range rfl) (.tmp rfl) (.inr ⟨k367, e369, rfl, hw374, (valB_c hc28 hc29).trans ((valC_l (by omega)).trans hw375), by omega, hp381⟩) hB ha_)
       ·
        replace c351 := dF c351
        refine Sq fun K388 hK388 => (Rg (Pu rfl (Va (dx_eql rfl rfl rfl) rfl rfl (Pu rfl (Ni (hK388 ?_))))))
        refine WC.cond rfl (fun c389 => ?_) (fun c389 => ?_)
        ·
         replace c389 := dT c389
         refine Sq fun K390 hK390 => (Rg (Pu rfl (Pu rfl (Va (dx_funcP rfl rfl) rfl rfl ?_))))
         refine Ge (dx_cw rfl Tryd.func52 rfl rfl rfl (nested_v (.func (.func 54) #[.pointer (some ⟨P, 0, none⟩)] #[]) n ro s P ka dp W31 _ hL (.tail _ hPL) hs (by omega) hp hdp (fun h12 W_ L_ h1_ h2_ h3_ d_ h4_ h5_ => ⟨54, #[.pointer (some ⟨P, 0, none⟩)], #[], _, rfl, Tryd.func54, rfl, rfl, ho h12 (take_of (by rcases Nat.lt_or_ge ka s.size with h_ | h_; exact h_; (have := hc29 h_; omega)) (by have h_ : ka < s.size := (by rcases Nat.lt_or_ge ka s.size with h_ | h_; exact h_; (have := hc29 h_; omega)); have := hc28 h_; omega)) W_ L_ h1_ h2_ d_ h4_ h5_⟩))) rfl rfl ?_
         rintro _ W418 ⟨(⟨k404, t406, rfl, hw408, hw409, hw410, hw411, hp419⟩ | ⟨k405, e407, rfl, hw412, hw413, hw414, hp419⟩), g417⟩
         ·
          replace k3 := k3.chg g417 n6.symm
          replace hB := Chg.both hB g417
          refine Pu rfl (Pu rfl ?_)
          refine WL.do (dx_store (cs' := [.int .i64 t406.kind, .int .i64 t406.num, .string t406.text, t406.nv, t406.iv]) (vs := [.int .i64 t406.kind, .int .i64 t406.num, .string t406.text, t406.nv, t406.iv]) rfl ty_size_25_5 rfl rfl rfl (oc_cons rfl (oc_cons rfl (oc_cons rfl (oc_cons (hw409.1).one (oc_cons (hw409.2.1).one oc_nil))))) k3 rfl (Nat.le_of_ble_eq_true rfl) rfl) rfl ?_
          rintro _ W420 ⟨k422, o421⟩
          replace hp419 := hp419.other o421 n6
          clear k3
          replace hw409 := hw409.only o421 (.head _)
          replace hB := Chg.only hB o421 (.inr l7)
          refine Pu rfl (Ni (hK390 ?_))
          exact WC.ret fun a_ ha_ => hQ (cw_ret2 rfl (.agg rfl ty_agg_25_5 k422.range rfl) (.tmp rfl) (.inl ⟨k404, t406, rfl, (valB_c hc28 hc29).trans ((valC_o (by omega)).trans hw408), (hw409.less (fun x hx => (.tail _ hx))), by omega, by omega, hp419⟩) hB ha_)
         ·
          replace k3 := k3.chg g417 n6.symm
          replace hB := Chg.both hB g417
          refine Pu rfl (Pu rfl ?_)
          refine WL.do (dx_store (cs' := zV) (vs := zV) rfl ty_size_25_5 rfl rfl rfl (oc_cons rfl (oc_cons rfl (oc_cons rfl (oc_cons rfl (oc_cons rfl oc_nil))))) k3 rfl (Nat.le_of_ble_eq_true rfl) rfl) rfl ?_
          rintro _ W423 ⟨k425, o424⟩
          replace hp419 := hp419.other o424 n6
          clear k3
          replace hB := Chg.only hB o424 (.inr l7)
          refine Pu rfl (Ni (hK390 ?_))
          exact WC.ret fun a_ ha_ => hQ (cw_ret2 rfl (.agg rfl ty_agg_25_5 k425.range rfl) (.tmp rfl) (.inr ⟨k405, e407, rfl, hw412, (valB_c hc28 hc29).trans ((valC_o (by omega)).trans hw413), by omega, hp419⟩) hB ha_)
        ·
         replace c389 := dF c389
         refine WC.skip (hK8 (Sq fun K426 hK426 => (Rg (Va (dx_build rfl rfl (built_of_O (cs := zV) (by kernel_rfl) oc_nil)) rfl rfl ?_))))
         refine WL.do (dx_store (cs' := zV) (vs := zV) rfl ty_size_25_5 rfl rfl rfl (oc_cons rfl (oc_cons rfl (oc_cons rfl (oc_cons rfl (oc_cons rfl oc_nil))))) k3 rfl (Nat.le_of_ble_eq_true rfl) rfl) rfl ?_
         rintro _ W427 ⟨k429, o428⟩
         replace hp := hp.other o428 n6
         clear k3
         replace hB := Chg.only hB o428 (.inr l7)
         refine Pu rfl (Ni (hK426 ?_))
         exact WC.ret fun a_ ha_ => hQ (cw_ret2 rfl (.agg rfl ty_agg_25_5 k429.range rfl) (.tmp rfl) (.inr ⟨ka, 2, rfl, by decide, (valB_c hc28 hc29).trans (valC_0 (by omega) (by omega) (by omega) (by omega) (by first | omega | simp_all) (by omega) (by omega) (by omega)), by omega, hp⟩) hB ha_)

def parS (s : ByteArray) (vs : Nat → Except Int (Js × Nat)) : Except Int Js :=
 if 8192 < s.size then .error 3 else if upB s = false then .error 2 else match vs (blankS s 0) with
  | .error e => .error e
  | .ok (j, k) => if s.size ≤ blankS s k then .ok j else .error 2
section
variable {s : ByteArray} {vs : Nat → Except Int (Js × Nat)} {e : Int} {j : Js} {k0 k k1 k2 : Nat}
theorem parS_l (h : 8192 < s.size) : parS s vs = .error 3 := by unfold parS; rw [if_pos h]
theorem parS_u (h : ¬ 8192 < s.size) (u : upB s = false) : parS s vs = .error 2 := by unfold parS; rw [if_neg h, if_pos u]
theorem parS_e (h : ¬ 8192 < s.size) (u : upB s = true) (h0 : k0 = 0) (e1 : k1 = blankS s k0) (hv : vs k1 = .error e) : parS s vs = .error e := by subst e1 h0; unfold parS; rw [if_neg h, if_neg (by rw [u]; decide), hv]
theorem parS_t (h : ¬ 8192 < s.size) (u : upB s = true) (h0 : k0 = 0) (e1 : k1 = blankS s k0) (hv : vs k1 = .ok (j, k)) (e2 : k2 = blankS s k) (h2 : s.size ≤ k2) : parS s vs = .ok j := by subst e2 e1 h0; unfold parS; rw [if_neg h, if_neg (by rw [u]; decide), hv]; dsimp only; rw [if_pos h2]
theorem parS_f (h : ¬ 8192 < s.size) (u : upB s = true) (h0 : k0 = 0) (e1 : k1 = blankS s k0) (hv : vs k1 = .ok (j, k)) (e2 : k2 = blankS s k) (h2 : ¬ s.size ≤ k2) : parS s vs = .error 2 := by subst e2 e1 h0; unfold parS; rw [if_neg h, if_neg (by rw [u]; decide), hv]; dsimp only; rw [if_neg h2]
end
theorem Below.thenChg {B : Nat} {w W W' : World} (hle : w.heap.size ≤ B) (h : Below w.heap.size w W) (g : Chg B W W') : Below w.heap.size w W' := ⟨g.os.trans h.os, g.tape.trans h.tape, g.output.trans h.output, Nat.le_trans h.size g.size, fun k hk => (g.block k (Nat.lt_of_lt_of_le hk h.size) (by omega)).trans (h.block k hk)⟩
theorem bld_53 (a : ByteArray) : Tryd.prog.built 57 [(0, .string a)] = some [.string a, .int .i64 0].toArray := by kernel_rfl
theorem bld_55 (a : ByteArray) (b : Int) : Tryd.prog.built 59 [(0, .agg #[.string a, .int .i64 b])] = some [.string a, .int .i64 b, .int .i64 0].toArray := by kernel_rfl
abbrev ValAt (n : Nat) (vs : Nat → Except Int (Js × Nat)) (s : ByteArray) (dp : Nat) : Prop := ∀ (P ka : Nat) (w : World) (L : List Nat), LL L w → P ∈ L → ka ≤ s.size → Blk w P (psC s ka dp) → CW Tryd.prog 33 [.pointer (some ⟨P, 0, none⟩)] w P fun v W => (∃ k' t, v = .tuple #[.agg #[.int .i64 t.kind, .int .i64 t.num, .string t.text, t.nv, t.iv], .int .i64 0] ∧ vs ka = .ok (t.er, k') ∧ RdT n L W t ∧ ka < k' ∧ k' ≤ s.size ∧ Blk W P (psC s k' dp)) ∨ (∃ k' e, v = .tuple #[.agg #[.int .i64 0, .int .i64 0, .string ⟨#[]⟩, .slice none 0 0, .slice none 0 0], .int .i64 e] ∧ e ≠ 0 ∧ vs ka = .error e ∧ k' ≤ s.size ∧ Blk W P (psC s k' dp))
set_option maxHeartbeats 1000000 in
theorem parse_v (n : Nat) (vs : Nat → Except Int (Js × Nat)) (s : ByteArray) (w : World) (L : List Nat) (hL : LL L w)   (hv : s.size ≤ 8192 → ∀ dq, dq = 0 → ValAt (n + 1) vs s dq) : CV Tryd.prog 16 [.string s] w fun v W => (∃ t, v = .tuple #[.agg #[.int .i64 t.kind, .int .i64 t.num, .string t.text, t.nv, t.iv], .int .i64 0] ∧ parS s vs = .ok t.er ∧ RdT (n + 1) L W t) ∨ (∃ e, v = .tuple #[.agg #[.int .i64 0, .int .i64 0, .string ⟨#[]⟩, .slice none 0 0, .slice none 0 0], .int .i64 e] ∧ e ≠ 0 ∧ parS s vs = .error e) := by
 refine cv_enter (N := 44) (f := [(0, .string s)]) Tryd.func16 rfl rfl rfl rfl fun Q hQ hE => ?_
 have hB := Below.refl w.heap.size w
 refine Sq fun K1 hK1 => (Rg ?_)
 refine Ge (dx_alloc rfl ty_zero_25 rfl) rfl rfl ?_
 rintro _ W2 ⟨rfl, k3, b4, z5⟩
 have l6 := hB.size
 replace hB := below_then hB b4
 replace hL := LL.more hL z5
 refine Pu rfl (Ni (hK1 (Sq fun K7 hK7 => (Sq fun K8 hK8 => (Rg (Pu rfl (Va (dx_lenT rfl Tryd.underlying9 rfl) rfl rfl ?_)))))))
 refine Va (dx_gtr rfl rfl rfl) rfl rfl (Ni (hK8 ?_))
 refine WC.cond rfl (fun c9 => ?_) (fun c9 => ?_)
 ·
  replace c9 := dT c9
  refine Sq fun K10 hK10 => (Rg (Va (dx_build rfl rfl (built_of_O (cs := zV) (by kernel_rfl) oc_nil)) rfl rfl ?_))
  refine WL.do (dx_store (cs' := zV) (vs := zV) rfl ty_size_25_5 rfl rfl rfl (oc_cons rfl (oc_cons rfl (oc_cons rfl (oc_cons rfl (oc_cons rfl oc_nil))))) k3 rfl (Nat.le_of_ble_eq_true rfl) rfl) rfl ?_
  rintro _ W11 ⟨k13, o12⟩
  clear k3
  replace hB := o12.below hB l6
  refine Pu rfl (Ni (hK10 ?_))
  exact WC.ret fun a_ ha_ => hQ (cv_ret2 rfl (.agg rfl ty_agg_25_5 k13.range rfl) (.tmp rfl) (.inr ⟨3, rfl, by decide, parS_l (by omega)⟩) hB ha_)
 ·
  replace c9 := dF c9
  refine WC.skip (hK7 (Sq fun K14 hK14 => (Sq fun K15 hK15 => ?_)))
  have hs : s.size ≤ 1000000 := by omega
  refine Rg (Pu rfl ?_)
  refine Ge (dx_sb (L := w.heap.size :: L) rfl Tryd.underlying9 Tryd.underlying42 Tryd.underlying5 rfl hL (by unfold maxLen; omega)) rfl rfl ?_
  rintro u16 W17 ⟨k18, b19⟩
  replace k3 := k3.below b19
  replace hB := below_then hB b19
  replace hL := LL.below hL b19
  refine Ge (dx_cv rfl Tryd.func27 rfl rfl rfl ((show CV _ _ [_] _ (fun v _ => v = .bool (upB s)) from cv_oldB (right_any u16 (sb s) W17 (rdI_of k18) (sb_bytes _) (by rw [sb_length]; omega))))) rfl rfl ?_
  rintro _ W21 ⟨rfl, b20⟩
  replace k3 := k3.below b20
  replace hB := below_then hB b20
  replace hL := LL.below hL b20
  refine Va (dx_not rfl rfl) rfl rfl (Ni (hK15 ?_))
  refine WC.cond rfl (fun c22 => ?_) (fun c22 => ?_)
  ·
   replace c22 := bnot_t c22
   refine Sq fun K23 hK23 => (Rg (Va (dx_build rfl rfl (built_of_O (cs := zV) (by kernel_rfl) oc_nil)) rfl rfl ?_))
   refine WL.do (dx_store (cs' := zV) (vs := zV) rfl ty_size_25_5 rfl rfl rfl (oc_cons rfl (oc_cons rfl (oc_cons rfl (oc_cons rfl (oc_cons rfl oc_nil))))) k3 rfl (Nat.le_of_ble_eq_true rfl) rfl) rfl ?_
   rintro _ W24 ⟨k26, o25⟩
   clear k3
   replace hB := o25.below hB l6
   refine Pu rfl (Ni (hK23 ?_))
   exact WC.ret fun a_ ha_ => hQ (cv_ret2 rfl (.agg rfl ty_agg_25_5 k26.range rfl) (.tmp rfl) (.inr ⟨2, rfl, by decide, (by first | exact parS_u (by omega) (by assumption) | (apply parS_f (k0 := k0) <;> first | assumption | omega; done))⟩) hB ha_)
  ·
   replace c22 := bnot_f c22
   refine WC.skip (hK14 (Sq fun K27 hK27 => (Rg (Pu rfl (Va (dx_build rfl rfl (bld_53 _)) rfl rfl (Va (dx_build rfl rfl (bld_55 _ _)) rfl rfl ?_))))))
   refine Ge (dx_box rfl rfl rfl) rfl rfl ?_
   rintro _ W28 ⟨rfl, k29, b30, z31⟩
   have n32 : w.heap.size ≠ W21.heap.size := Nat.ne_of_lt k3.lt
   have l33 := hB.size
   replace k3 := k3.below b30
   replace hB := below_then hB b30
   replace hL := LL.more hL z31
   have hPle : w.heap.size ≤ W21.heap.size := l33
   obtain ⟨P, hPe⟩ : ∃ P, P = W21.heap.size := ⟨_, rfl⟩
   rw [← hPe] at k29 hL hPle n32 ⊢
   obtain ⟨k0, hk0⟩ : ∃ q : Nat, q = 0 := ⟨_, rfl⟩
   obtain ⟨d0, hd0⟩ : ∃ q : Nat, q = 0 := ⟨_, rfl⟩
   replace k29 : Blk W28 P (psC s k0 d0) := by rw [hk0, hd0]; exact k29
   refine Pu rfl (Ni (hK27 (Sq fun K34 hK34 => (Rg (Pu rfl (Va (dx_nilCheck rfl rfl) rfl rfl (Va (dx_fld (o1 := 0) rfl ty_fld_59_0_0 rfl rfl) rfl rfl ?_)))))))
   refine Ge (dx_cw rfl Tryd.func32 rfl rfl rfl (blanks_v s P k0 d0 W28 _ hL (.head _) hs (by omega) k29)) rfl rfl ?_
   rintro _ W45 ⟨hp46, g44⟩
   replace k3 := k3.chg g44 n32
   replace hB := Below.thenChg hPle hB g44
   replace hL := hL.chg g44
   obtain ⟨k41, hk42⟩ : ∃ k, k = blankS s k0 := ⟨_, rfl⟩
   rw [← hk42] at hp46
   have hk43 := blankS_le (s := s) (k := k0) (by omega)
   rw [← hk42] at hk43
   refine Ni (hK34 (Sq fun K47 hK47 => (Rg (Pu rfl ?_))))
   refine Ge (dx_cw rfl Tryd.func33 rfl rfl rfl (hv (by omega) d0 hd0 P k41 W45 _ hL (.head _) (by omega) (by first | exact hp46 | (subst hd0; exact hp46)))) rfl rfl ?_
   rintro _ W75 ⟨(⟨k61, t63, rfl, hw65, hw66, hw67, hw68, hp76⟩ | ⟨k62, e64, rfl, hw69, hw70, hw71, hp76⟩), g74⟩
   ·
    replace k3 := k3.chg g74 n32
    replace hB := Below.thenChg hPle hB g74
    replace hL := hL.chg g74
    refine Pu rfl (Pu rfl (Pu rfl ?_))
    refine Ge (dx_alloc rfl ty_zero_25 rfl) rfl rfl ?_
    rintro _ W77 ⟨rfl, k78, b79, z80⟩
    have n81 : w.heap.size ≠ W75.heap.size := Nat.ne_of_lt k3.lt
    have n82 : P ≠ W75.heap.size := Nat.ne_of_lt hp76.lt
    have l83 := hB.size
    replace hw66 := hw66.more b79 (Nat.le_refl _)
    replace k3 := k3.below b79
    replace hp76 := hp76.below b79
    replace hB := below_then hB b79
    replace hL := LL.more hL z80
    refine WL.do (dx_store (cs' := [.int .i64 t63.kind, .int .i64 t63.num, .string t63.text, t63.nv, t63.iv]) (vs := [.int .i64 t63.kind, .int .i64 t63.num, .string t63.text, t63.nv, t63.iv]) rfl ty_size_25_5 rfl rfl rfl (oc_cons rfl (oc_cons rfl (oc_cons rfl (oc_cons (hw66.1).one (oc_cons (hw66.2.1).one oc_nil))))) k78 rfl (Nat.le_of_ble_eq_true rfl) rfl) rfl ?_
    rintro _ W84 ⟨k86, o85⟩
    replace k3 := k3.other o85 n81
    replace hp76 := hp76.other o85 n82
    clear k78
    replace hw66 := hw66.only o85 (.head _)
    replace hB := o85.below hB l83
    replace hL := LL.only hL o85
    refine Pu rfl (Ni (hK47 (Sq fun K87 hK87 => (Sq fun K88 hK88 => (Rg (Pu rfl (Va (dx_neq rfl rfl rfl) rfl rfl ?_)))))))
    refine Ni (hK88 (WC.condF rfl (WC.skip (hK87 (Sq fun K89 hK89 => (Rg (Pu rfl ?_)))))))
    refine Va (dx_nilCheck rfl rfl) rfl rfl (Va (dx_fld (o1 := 0) rfl ty_fld_59_0_0 rfl rfl) rfl rfl ?_)
    refine Ge (dx_cw rfl Tryd.func32 rfl rfl rfl (blanks_v s P k61 d0 W84 _ hL (.tail _ (.head _)) hs (by omega) hp76)) rfl rfl ?_
    rintro _ W100 ⟨hp101, g99⟩
    replace hw66 := hw66.chgL g99 (.tail _ (.head _))
    replace k3 := k3.chg g99 n32
    replace k86 := k86.chg g99 n82.symm
    replace hB := Below.thenChg hPle hB g99
    replace hL := hL.chg g99
    obtain ⟨k96, hk97⟩ : ∃ k, k = blankS s k61 := ⟨_, rfl⟩
    rw [← hk97] at hp101
    have hk98 := blankS_le (s := s) (k := k61) (by omega)
    rw [← hk97] at hk98
    refine Ni (hK89 (Sq fun K102 hK102 => (Sq fun K103 hK103 => (Rg (Pu rfl (Va (dx_nilCheck rfl rfl) rfl rfl (Va (dx_fld (o1 := 0) rfl ty_fld_59_0_0 rfl rfl) rfl rfl ?_)))))))
    refine Ge (dx_cv rfl Tryd.func34 rfl rfl rfl (ended_v s P k96 d0 W100 _ hL (.tail _ (.head _)) hs (by omega) hp101)) rfl rfl ?_
    rintro _ W105 ⟨rfl, b104⟩
    replace hw66 := hw66.below b104
    replace k3 := k3.below b104
    replace k86 := k86.below b104
    replace hB := below_then hB b104
    refine Va (dx_not rfl rfl) rfl rfl (Ni (hK103 ?_))
    refine WC.cond rfl (fun c106 => ?_) (fun c106 => ?_)
    ·
     replace c106 := bnot_t c106
     replace c106 := dF c106
     refine Sq fun K107 hK107 => (Rg (Va (dx_build rfl rfl (built_of_O (cs := zV) (by kernel_rfl) oc_nil)) rfl rfl ?_))
     refine WL.do (dx_store (cs' := zV) (vs := zV) rfl ty_size_25_5 rfl rfl rfl (oc_cons rfl (oc_cons rfl (oc_cons rfl (oc_cons rfl (oc_cons rfl oc_nil))))) k3 rfl (Nat.le_of_ble_eq_true rfl) rfl) rfl ?_
     rintro _ W108 ⟨k110, o109⟩
     clear k3
     replace hB := o109.below hB l6
     refine Pu rfl (Ni (hK107 ?_))
     exact WC.ret fun a_ ha_ => hQ (cv_ret2 rfl (.agg rfl ty_agg_25_5 k110.range rfl) (.tmp rfl) (.inr ⟨2, rfl, by decide, (by first | exact parS_u (by omega) (by assumption) | (apply parS_f (k0 := k0) <;> first | assumption | omega; done))⟩) hB ha_)
    ·
     replace c106 := bnot_f c106
     replace c106 := dT c106
     refine WC.skip (hK102 (Sq fun K111 hK111 => (Rg (Va (dx_loadN rfl ty_agg_25_5 rfl k86.range rfl) rfl rfl ?_))))
     refine WL.do (dx_store (cs' := [.int .i64 t63.kind, .int .i64 t63.num, .string t63.text, t63.nv, t63.iv]) (vs := [.int .i64 t63.kind, .int .i64 t63.num, .string t63.text, t63.nv, t63.iv]) rfl ty_size_25_5 rfl rfl rfl (oc_cons rfl (oc_cons rfl (oc_cons rfl (oc_cons (hw66.1).one (oc_cons (hw66.2.1).one oc_nil))))) k3 rfl (Nat.le_of_ble_eq_true rfl) rfl) rfl ?_
     rintro _ W112 ⟨k114, o113⟩
     clear k3
     replace hw66 := hw66.only o113 (.tail _ (.tail _ (.head _)))
     replace hB := o113.below hB l6
     refine Pu rfl (Ni (hK111 ?_))
     exact WC.ret fun a_ ha_ => hQ (cv_ret2 rfl (.agg rfl ty_agg_25_5 k114.range rfl) (.tmp rfl) (.inl ⟨t63, rfl, (by apply parS_t (k0 := k0) <;> first | assumption | omega), (hw66.less (fun x hx => (.tail _ (.tail _ (.tail _ hx)))))⟩) hB ha_)
   ·
    replace k3 := k3.chg g74 n32
    replace hB := Below.thenChg hPle hB g74
    refine Pu rfl (Pu rfl (Pu rfl ?_))
    refine Ge (dx_alloc rfl ty_zero_25 rfl) rfl rfl ?_
    rintro _ W115 ⟨rfl, k116, b117, z118⟩
    have n119 : w.heap.size ≠ W75.heap.size := Nat.ne_of_lt k3.lt
    have l121 := hB.size
    replace k3 := k3.below b117
    replace hB := below_then hB b117
    refine WL.do (dx_store (cs' := zV) (vs := zV) rfl ty_size_25_5 rfl rfl rfl (oc_cons rfl (oc_cons rfl (oc_cons rfl (oc_cons rfl (oc_cons rfl oc_nil))))) k116 rfl (Nat.le_of_ble_eq_true rfl) rfl) rfl ?_
    rintro _ W122 ⟨k124, o123⟩
    replace k3 := k3.other o123 n119
    clear k116
    replace hB := o123.below hB l121
    refine Pu rfl (Ni (hK47 (Sq fun K125 hK125 => (Sq fun K126 hK126 => (Rg (Pu rfl (Va (dv_NT (dx_neq rfl rfl rfl) hw69) rfl rfl ?_)))))))
    refine Ni (hK126 (WC.condT rfl (Sq fun K127 hK127 => (Rg (Va (dx_build rfl rfl (built_of_O (cs := zV) (by kernel_rfl) oc_nil)) rfl rfl (Pu rfl ?_))))))
    refine WL.do (dx_store (cs' := zV) (vs := zV) rfl ty_size_25_5 rfl rfl rfl (oc_cons rfl (oc_cons rfl (oc_cons rfl (oc_cons rfl (oc_cons rfl oc_nil))))) k3 rfl (Nat.le_of_ble_eq_true rfl) rfl) rfl ?_
    rintro _ W128 ⟨k130, o129⟩
    clear k3
    replace hB := o129.below hB l6
    refine Pu rfl (Ni (hK127 ?_))
    exact WC.ret fun a_ ha_ => hQ (cv_ret2 rfl (.agg rfl ty_agg_25_5 k130.range rfl) (.tmp rfl) (.inr ⟨e64, rfl, hw69, (by apply parS_e (k0 := k0) <;> first | assumption | omega)⟩) hB ha_)

theorem ty_one_55 : oneB Tryd.prog 55 = true := by kernel_rfl
def oneL (vs : Nat → Except Int (Js × Nat)) (k : Nat) (st : List Js) : Except Int (List Js × Nat) := match vs k with
 | .error e => .error e
 | .ok (t, k') => .ok (st ++ [t], k')
def listS (s : ByteArray) (vs : Nat → Except Int (Js × Nat)) (k : Nat) : Except Int (Js × Nat) := match memS s (oneL vs) 93 k [] with
 | .error e => .error e
 | .ok (ts, k') => .ok (.mk 5 0 ⟨#[]⟩ [] ts, k')
def ItemsI (n b : Nat) (L : List Nat) (iv : Value) (ts : List Tr) (W : World) : Prop := (∀ x ∈ L, x < b) ∧ ((iv = .slice none 0 0 ∧ ts = []) ∨ ∃ B, b ≤ B ∧ OwS 5 W iv (ts.map encT) B ∧ ∀ t ∈ ts, RdT n (B :: L) W t)
theorem ItemsI.chgL {n b : Nat} {L : List Nat} {iv : Value} {ts : List Tr} {W W' : World} (h : ItemsI n b L iv ts W) {P : Nat} (g : Chg P W W') (hP : P ∈ L) : ItemsI n b L iv ts W' := by
 obtain ⟨h0, h | ⟨B, h1, h2, h3⟩⟩ := h
 · exact ⟨h0, .inl h⟩
 · exact ⟨h0, .inr ⟨B, h1, h2.chgL g (by have := h0 P hP; omega), fun t ht => (h3 t ht).chgL g (.tail _ hP)⟩⟩
theorem ItemsI.below {n b : Nat} {L : List Nat} {iv : Value} {ts : List Tr} {W W' : World} (h : ItemsI n b L iv ts W) (g : Below W.heap.size W W') : ItemsI n b L iv ts W' := by
 obtain ⟨h0, h | ⟨B, h1, h2, h3⟩⟩ := h
 · exact ⟨h0, .inl h⟩
 · exact ⟨h0, .inr ⟨B, h1, h2.below g, fun t ht => (h3 t ht).below g⟩⟩
theorem ItemsI.only {n b : Nat} {L : List Nat} {iv : Value} {ts : List Tr} {W W' : World} (h : ItemsI n b L iv ts W) {C : Nat} (g : Only C W W') (hC : C ∈ L) : ItemsI n b L iv ts W' := by
 obtain ⟨h0, h | ⟨B, h1, h2, h3⟩⟩ := h
 · exact ⟨h0, .inl h⟩
 · exact ⟨h0, .inr ⟨B, h1, h2.other g (by have := h0 C hC; omega), fun t ht => (h3 t ht).only g (.tail _ hC)⟩⟩
theorem ItemsI.one {n b : Nat} {L : List Nat} {iv : Value} {ts : List Tr} {W : World} (h : ItemsI n b L iv ts W) : iv.oneCell' = true := by
 obtain ⟨_, ⟨rfl, _⟩ | ⟨B, _, h2, _⟩⟩ := h
 · rfl
 · exact h2.one
theorem ItemsI.tree {n b : Nat} {L L' : List Nat} {iv : Value} {ts : List Tr} {W : World} (h : ItemsI n b L iv ts W) (hl : ∀ x, x ∈ L' → x ∈ L) (k m : Int) (t : ByteArray) : RdT (n + 1) L' W (.mk k m t (.slice none 0 0) [] iv ts) := by
 obtain ⟨h0, ⟨rfl, rfl⟩ | ⟨B, h1, h2, h3⟩⟩ := h
 · exact ⟨RdF.nil (by decide), RdF.nil (by decide), fun c hc => by cases hc⟩
 · exact ⟨RdF.nil (by decide), h2.rd (fun hx => by have := h0 B (hl B hx); omega), fun c hc => (h3 c hc).less fun x hx => .tail _ (hl x hx)⟩
def ListI (n b Bp V P : Nat) (L : List Nat) (js : List Js) (W : World) : Prop := ∃ iv ts, ts.map Tr.er = js ∧ Blk W Bp [.pointer (some ⟨P, 0, none⟩)] ∧ Blk W V [.int .i64 5, .int .i64 0, .string ⟨#[]⟩, .slice none 0 0, iv] ∧ ItemsI n b L iv ts W
def FiveE (V : Nat) (W : World) : Prop := ∃ cs : List Value, cs.length = 5 ∧ (∀ u ∈ cs, u.oneCell' = true) ∧ Blk W V cs
theorem listI_five {n b Bp V P : Nat} {L : List Nat} : ∀ (js : List Js) (W : World), ListI n b Bp V P L js W → FiveE V W := fun _ _ ⟨_, _, _, _, h2, h3⟩ => ⟨_, rfl, oc_cons rfl (oc_cons rfl (oc_cons rfl (oc_cons rfl (oc_cons h3.one oc_nil)))), h2⟩
theorem listI_chg {n b Bp V P : Nat} {L : List Nat} (h1 : Bp ≠ P) (h2 : V ≠ P) (hP : P ∈ L) : ∀ (js : List Js) (W W' : World), ListI n b Bp V P L js W → Chg P W W' → ListI n b Bp V P L js W' := fun _ _ _ ⟨iv, ts, he, a1, a2, a3⟩ g => ⟨iv, ts, he, a1.chg g h1, a2.chg g h2, a3.chgL g hP⟩
abbrev OneAt (n : Nat) (vs : Nat → Except Int (Js × Nat)) (s : ByteArray) (dp : Nat) : Prop := ∀ (b Bp V P : Nat) (L : List Nat) (k : Nat) (js : List Js) (W : World), LL L W → P ∈ L → V ∈ L → Bp ∈ L → Bp ≠ P → V ≠ P → Bp ≠ V → (∀ x ∈ L, x < b) → b ≤ W.heap.size → k ≤ s.size → Blk W P (psC s k dp) → ListI n b Bp V P L js W → js.length ≤ k →
 CX Tryd.prog 67 [.pointer (some ⟨Bp, 0, none⟩), .pointer (some ⟨V, 0, none⟩)] W (ChgV b P V) (fun v W' => (∃ k' st', v = .int .i64 0 ∧ oneL vs k js = .ok (st', k') ∧ k < k' ∧ k' ≤ s.size ∧ st'.length ≤ k' ∧ ListI n b Bp V P L st' W' ∧ Blk W' P (psC s k' dp)) ∨ (∃ k' e, v = .int .i64 e ∧ e ≠ 0 ∧ oneL vs k js = .error e ∧ k' ≤ s.size ∧ FiveE V W' ∧ Blk W' P (psC s k' dp)))
set_option maxHeartbeats 1000000 in
theorem list_v (n : Nat) (vs : Nat → Except Int (Js × Nat)) (s : ByteArray) (P ka dp : Nat) (w : World) (L : List Nat) (hL : LL L w) (hPL : P ∈ L) (hs : s.size ≤ 1000000) (hk : ka ≤ s.size) (hp : Blk w P (psC s ka dp))  (hq : takeS s ka 91 = true) (hc : OneAt n vs s dp) : CW Tryd.prog 53 [.pointer (some ⟨P, 0, none⟩)] w P fun v W => (∃ k' t, v = .tuple #[.agg #[.int .i64 t.kind, .int .i64 t.num, .string t.text, t.nv, t.iv], .int .i64 0] ∧ listS s vs ka = .ok (t.er, k') ∧ RdT (n + 1) L W t ∧ ka < k' ∧ k' ≤ s.size ∧ Blk W P (psC s k' dp)) ∨ (∃ k' e cs, v = .tuple #[.agg (List.toArray cs), .int .i64 e] ∧ e ≠ 0 ∧ cs.length = 5 ∧ (∀ u ∈ cs, u.oneCell' = true) ∧ listS s vs ka = .error e ∧ k' ≤ s.size ∧ Blk W P (psC s k' dp)) := by
 refine cw_enter (N := 12) (f := [(0, .pointer (some ⟨P, 0, none⟩))]) Tryd.func53 rfl rfl rfl rfl fun Q hQ hE => ?_
 have hB := Chg.refl P w
 have hL0 := hL
 refine Sq fun K1 hK1 => (Rg ?_)
 refine Ge (dx_box (cs := [.pointer (some ⟨P, 0, none⟩)]) rfl rfl rfl) rfl rfl ?_
 rintro _ W2 ⟨rfl, k3, b4, z5⟩
 have n6 : P ≠ w.heap.size := Nat.ne_of_lt hp.lt
 have l7 := hB.size
 replace hp := hp.below b4
 replace hB := Chg.thenB hB b4
 replace hL := LL.more hL z5
 refine Ge (dx_alloc rfl ty_zero_25 rfl) rfl rfl ?_
 rintro _ W8 ⟨rfl, k9, b10, z11⟩
 have n12 : P ≠ W2.heap.size := Nat.ne_of_lt hp.lt
 have l14 := hB.size
 replace hp := hp.below b10
 replace k3 := k3.below b10
 replace hB := Chg.thenB hB b10
 replace hL := LL.more hL z11
 refine Pu rfl (Ni (hK1 (Sq fun K15 hK15 => (Rg (Va (dx_build rfl rfl (built_of_O (cs := [.int .i64 5, .int .i64 0, .string ⟨#[]⟩, .slice none 0 0, .slice none 0 0]) (by kernel_rfl) (oc_cons rfl oc_nil))) rfl rfl ?_)))))
 refine Ge (dx_alloc rfl ty_zero_25 rfl) rfl rfl ?_
 rintro _ W16 ⟨rfl, k17, b18, z19⟩
 have n20 : P ≠ W8.heap.size := Nat.ne_of_lt hp.lt
 have n21 : w.heap.size ≠ W8.heap.size := Nat.ne_of_lt k3.lt
 have n22 : W2.heap.size ≠ W8.heap.size := Nat.ne_of_lt k9.lt
 have l23 := hB.size
 replace hp := hp.below b18
 replace k3 := k3.below b18
 replace k9 := k9.below b18
 replace hB := Chg.thenB hB b18
 replace hL := LL.more hL z19
 refine WL.do (dx_store (cs' := [.int .i64 5, .int .i64 0, .string ⟨#[]⟩, .slice none 0 0, .slice none 0 0]) (vs := [.int .i64 5, .int .i64 0, .string ⟨#[]⟩, .slice none 0 0, .slice none 0 0]) rfl ty_size_25_5 rfl rfl rfl (oc_cons rfl (oc_cons rfl (oc_cons rfl (oc_cons rfl (oc_cons rfl oc_nil))))) k17 rfl (Nat.le_of_ble_eq_true rfl) rfl) rfl ?_
 rintro _ W24 ⟨k26, o25⟩
 replace hp := hp.other o25 n20
 replace k3 := k3.other o25 n21
 replace k9 := k9.other o25 n22
 clear k17
 replace hB := Chg.only hB o25 (.inr l23)
 replace hL := LL.only hL o25
 refine Ni (hK15 (Sq fun K27 hK27 => (Rg (Va (dx_load rfl ty_one_55 rfl (k3.cell (k := 0) rfl)) rfl rfl (Va (dx_func rfl rfl rfl) rfl rfl ?_)))))
 refine Ge (dx_cx rfl Tryd.func66 rfl rfl rfl (members_v (ListI n W24.heap.size (w.heap.size) (W8.heap.size) P (W8.heap.size :: W2.heap.size :: w.heap.size :: L)) (FiveE (W8.heap.size)) (oneL vs) 91 93 _ W24.heap.size (W8.heap.size) [] List.length s P ka dp W24 _ hL (.tail _ (.tail _ (.tail _ hPL))) hs (by omega) hp (Nat.le_refl _) listI_five ⟨listI_chg n6.symm n20.symm (.tail _ (.tail _ (.tail _ hPL))), ⟨_, [], rfl, k3, k26, hL, .inl ⟨rfl, rfl⟩⟩⟩ (Nat.zero_le _) hq (fun W_ L_ k_ js_ h1_ h2_ h3_ h4_ h5_ h6_ h7_ => ⟨67, #[], #[.pointer (some ⟨w.heap.size, 0, none⟩), .pointer (some ⟨W8.heap.size, 0, none⟩)], _, rfl, Tryd.func67, rfl, rfl, hc W24.heap.size (w.heap.size) (W8.heap.size) P (W8.heap.size :: W2.heap.size :: w.heap.size :: L) k_ js_ W_ (fun x hx => Nat.lt_of_lt_of_le (hL x hx) h3_) (.tail _ (.tail _ (.tail _ hPL))) (.head _) (.tail _ (.tail _ (.head _))) n6.symm n20.symm n21 hL h3_ h4_ h5_ h6_ h7_⟩))) rfl rfl ?_
 rintro _ W50 ⟨(⟨k28, st29, rfl, hm34, hm35, hm36, ⟨iv32, ts33, hm37, hBp47, hV46, hm38⟩, hp51⟩ | ⟨k30, e31, rfl, hm39, hm40, hm41, ⟨cs48, hm42, hm43, hV46⟩, hp51⟩), g49⟩
 ·
  replace hB := ChgV.toChg hB g49 hB.size l23
  replace k9 := k9.chgV g49 k9.lt n12.symm n22
  refine Pu rfl (Ni (hK27 (Sq fun K52 hK52 => (Rg (Va (dx_loadN rfl ty_agg_25_5 rfl hV46.range rfl) rfl rfl (Pu rfl ?_))))))
  refine WL.do (dx_store (cs' := [.int .i64 5, .int .i64 0, .string ⟨#[]⟩, .slice none 0 0, iv32]) (vs := [.int .i64 5, .int .i64 0, .string ⟨#[]⟩, .slice none 0 0, iv32]) rfl ty_size_25_5 rfl rfl rfl (oc_cons rfl (oc_cons rfl (oc_cons rfl (oc_cons rfl (oc_cons hm38.one oc_nil))))) k9 rfl (Nat.le_of_ble_eq_true rfl) rfl) rfl ?_
  rintro _ W53 ⟨k55, o54⟩
  replace hp51 := hp51.other o54 n12
  clear k9
  replace hm38 := hm38.only o54 (.tail _ (.head _))
  replace hB := Chg.only hB o54 (.inr l14)
  refine Pu rfl (Ni (hK52 ?_))
  exact WC.ret fun a_ ha_ => hQ (cw_ret2 rfl (.agg rfl ty_agg_25_5 k55.range rfl) (.tmp rfl) (.inl ⟨k28, .mk 5 0 ⟨#[]⟩ (.slice none 0 0) [] iv32 ts33, rfl, (by unfold listS; rw [hm34, Tr.er_mk, hm37]), hm38.tree (fun x hx => (.tail _ (.tail _ (.tail _ hx)))) 5 0 ⟨#[]⟩, by omega, by omega, hp51⟩) hB ha_)
 ·
  replace hB := ChgV.toChg hB g49 hB.size l23
  replace k9 := k9.chgV g49 k9.lt n12.symm n22
  refine Pu rfl (Ni (hK27 (Sq fun K56 hK56 => (Rg (Va (dx_loadN (cs := cs48) rfl ty_agg_25_5 rfl hV46.range hm42) rfl rfl (Pu rfl ?_))))))
  refine WL.do (dx_storeW (vs := cs48) rfl ty_size_25_5 rfl rfl rfl hm43 k9 hm42 rfl) rfl ?_
  rintro _ W57 ⟨k59, o58⟩
  replace hp51 := hp51.other o58 n12
  clear k9
  replace hB := Chg.only hB o58 (.inr l14)
  refine Pu rfl (Ni (hK56 ?_))
  exact WC.ret fun a_ ha_ => hQ (cw_ret2 rfl (.agg rfl ty_agg_25_5 k59.range hm42) (.tmp rfl) (.inr ⟨k30, e31, cs48, rfl, hm39, hm42, hm43, (by unfold listS; rw [hm40]), by omega, hp51⟩) hB ha_)

def beginS (s w : ByteArray) (k : Nat) : Bool := decide (k + w.size ≤ s.size) && decide (s.extract k (k + w.size) = w)

theorem strOf_app (a b : List Int) : strOfNums a ++ strOfNums b = strOfNums (a ++ b) := by
 cases ha : strOfNums a
 cases hb : strOfNums b
 rename_i x y
 have e1 := strOfNums_data a
 have e2 := strOfNums_data b
 have e3 := strOfNums_data (a ++ b)
 rw [ha] at e1
 rw [hb] at e2
 rw [List.map_append, ← e1, ← e2] at e3
 cases hc : strOfNums (a ++ b)
 rename_i z
 rw [hc] at e3
 apply ByteArray.ext
 apply Array.toList_inj.1
 simpa using e3.symm
theorem ext_one {s : ByteArray} {k : Nat} (h : k < s.size) : s.extract k (k + 1) = strOfNums [atS s k] := by
 apply sb_inj
 rw [sb_strOf (bytes_one (atS_lo s k))]
 have hl : (sb (s.extract k (k + 1))).length = 1 := by rw [sb_length, ByteArray.size_extract]; omega
 have h0 := at0_sb (s.extract k (k + 1)) 0 (by rw [ByteArray.size_extract]; omega)
 have h1 : atS (s.extract k (k + 1)) 0 = atS s k := by have := at_extract s k (k + 1) 0 (by omega) (by omega); rwa [Nat.add_zero] at this
 obtain ⟨z, hz⟩ := List.length_eq_one_iff.1 hl
 rw [hz] at h0 ⊢
 congr 1
 rw [← h1]
 unfold atS
 have e : z = ((s.extract k (k + 1)).data[0]'(by show 0 < (s.extract k (k + 1)).size; rw [ByteArray.size_extract]; omega)).toNat := h0
 rw [Array.getElem?_eq_getElem (by show 0 < (s.extract k (k + 1)).size; rw [ByteArray.size_extract]; omega)]
 exact e
theorem ext_of_at {a b : ByteArray} (hs : a.size = b.size) (h : ∀ i, i < a.size → atS a i = atS b i) : a = b := by
 apply sb_inj
 refine eq_of_all (by rw [sb_length, sb_length, hs]) fun j hj => ?_
 rw [sb_length] at hj
 have hj2 : j < b.size := by omega
 rw [at0_sb a j hj, at0_sb b j hj2]
 have := h j hj
 unfold atS at this
 rw [Array.getElem?_eq_getElem (show j < a.data.size from hj), Array.getElem?_eq_getElem (show j < b.data.size from hj2)] at this
 exact this
theorem begin_word {s wd : ByteArray} {k : Nat} (hk : k ≤ s.size) : beginS s wd k = wordS s wd k := by
  rcases Nat.lt_or_ge s.size (k + wd.size) with h | h
  · rw [word_f (i := s.size - k) (by omega) (by unfold takeS; rw [decide_eq_false (by omega)]; rfl)]
    unfold beginS
    rw [decide_eq_false (by omega)]
    rfl
  · unfold beginS
    rw [decide_eq_true h, Bool.true_and]
    have hz : (s.extract k (k + wd.size)).size = wd.size := by rw [ByteArray.size_extract]; omega
    cases hw : wordS s wd k with
    | true =>
      refine decide_eq_true (ext_of_at hz fun i hi => ?_)
      rw [at_extract s k (k + wd.size) i (by omega) h]
      exact (take_t (List.all_eq_true.1 hw i (List.mem_range.2 (by omega)))).2
    | false =>
      refine decide_eq_false fun e => ?_
      have : wordS s wd k = true := word_t fun i hi => take_of (by omega) (by rw [← at_extract s k (k + wd.size) i (by omega) h, e])
      rw [hw] at this
      cases this
abbrev SpK := List (Nat × (World → World → Prop) × List Nat)
def relK (sp : SpK) (k : Nat) (W W' : World) : Prop := match sp.find? (fun e => e.1 == k) with
 | some e => e.2.1 W W'
 | none => Below W.heap.size W W'
def RelOk (w : World) (sd : List (Option Tmp × VS)) (dl : List (List Nat)) : SpK → Prop
 | [] => True
 | e :: l => ((e.2.2.all fun j => j == e.1 || ((dl[j]?).getD []).contains e.1) = true ∧ VS.monoR e.2.1 (e.2.2.foldl (fun l k => l.set k (none, .is undef)) sd) ∧ ∀ W W', Below w.heap.size w W → e.2.1 W W' → Below w.heap.size w W') ∧ RelOk w sd dl l
theorem RelOk.at {w : World} {sd : List (Option Tmp × VS)} {dl : List (List Nat)} : ∀ {sp : SpK}, RelOk w sd dl sp → ∀ e ∈ sp, (e.2.2.all fun j => j == e.1 || ((dl[j]?).getD []).contains e.1) = true ∧ VS.monoR e.2.1 (e.2.2.foldl (fun l k => l.set k (none, .is undef)) sd) ∧ ∀ W W', Below w.heap.size w W → e.2.1 W W' → Below w.heap.size w W'
 | _ :: _, h, e, he => by
  rcases List.mem_cons.1 he with rfl | he
  · exact h.1
  · exact RelOk.at h.2 e he
def DStepsK (P : Program) (ops : Array Oper) (N : Nat) (w0 : World) (sd : List (Option Tmp × VS)) (dl : List (List Nat)) (f : Fl) (sp : SpK) : Nat → List Oper → Prop
 | _, [] => True
 | k, o :: l => (∀ W, Below w0.heap.size w0 W → DStep P ops o N W sd (fun v W' => relK sp k W W' ∧ okAt sd k v W') ((dl[k]?).getD []) f) ∧ DStepsK P ops N w0 sd dl f sp (k + 1) l
section
variable {P : Program} {N : Nat} {sd : List (Option Tmp × VS)} {dl : List (List Nat)}
theorem DStepsK.cons {ops : Array Oper} {w0 : World} {f : Fl} {k : Nat} {sp : SpK} {o : Oper} {l : List Oper} (hk : sp.all (fun e => !(e.1 == k)) = true) (h : ∀ W, Below w0.heap.size w0 W → DStep P ops o N W sd (fun v W' => Below W.heap.size W W' ∧ okAt sd k v W') ((dl[k]?).getD []) f) (hl : DStepsK P ops N w0 sd dl f sp (k + 1) l) : DStepsK P ops N w0 sd dl f sp k (o :: l) := by
 have e : relK sp k = fun W W' => Below W.heap.size W W' := by
  funext W W'
  have : sp.find? (fun e => e.1 == k) = none := List.find?_eq_none.2 fun x hx => by
   have := List.all_eq_true.1 hk x hx
   simpa using this
  simp only [relK, this]
 exact ⟨by rw [e]; exact h, hl⟩
theorem DStepsK.hit {ops : Array Oper} {w0 : World} {f : Fl} {k : Nat} {sp : SpK} {rel : World → World → Prop} {ex : List Nat} {o : Oper} {l : List Oper} (hk : sp.find? (fun e => e.1 == k) = some (k, rel, ex)) (h : ∀ W, Below w0.heap.size w0 W → DStep P ops o N W sd (fun v W' => rel W W' ∧ okAt sd k v W') ((dl[k]?).getD []) f) (hl : DStepsK P ops N w0 sd dl f sp (k + 1) l) : DStepsK P ops N w0 sd dl f sp k (o :: l) := by
 have e : relK sp k = rel := by
  funext W W'
  simp only [relK, hk]
 exact ⟨by rw [e]; exact h, hl⟩
end
theorem NewS.toW' {s base : Nat} {rs : List (List Value)} {u : Value} {w : World} (h : NewS s base rs u w) : NewW s base rs u w := by
 rcases h with h | ⟨B, sp, h1, rfl, h3, h4⟩
 · exact .inl h
 · exact .inr ⟨B, h1, h3.own⟩
theorem NewW.toS {s base : Nat} {rs : List (List Value)} {u : Value} {w : World} (h : NewW s base rs u w) (hn : rs ≠ []) : NewS s base rs u w := by
 rcases h with h | ⟨B, h1, h2⟩
 · exact .inl h
 · exact NewS.of_own h2 h1 hn
theorem NewW.keep {s base n : Nat} {rs : List (List Value)} {u : Value} {w w' : World} (h : NewW s base rs u w) (hne : rs ≠ []) (hk : KeepR s base n w w') (hn : rs.length ≤ n) : NewW s base rs u w' := ((h.toS hne).keep hk hn).toW'
section
variable {P : Program} {ops : Array Oper} {o : Oper} {N : Nat} {f : Fl} {w : World}
end
end Go.Proofs.YtghpdnfdbhjmpaaDoor
