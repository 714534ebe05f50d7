/- Package base's decode and the reference's: by the same bytes. -/
import Derived.Test.YtibkkdbjmcongaaDoorBaseDecSpec
import Derived.Lib.Bytealg
import Derived.Laws.Externs
import Derived.Test.YtibkkdbjmcongaaDoorShelf
namespace Go.Proofs.YtibkkdbjmcongaaDoor
open Go.RowKit
set_option linter.unusedVariables false

/-- Where a byte stands among letters. -/
def idxI (L : ByteArray) (c : Int) : Int := Lib.indexByte L.data.toList c.toNat.toUInt8
theorem indexByte_spec (l : List UInt8) (c : UInt8) : (Lib.indexByte l c = -1 ∧ ∀ x ∈ l, x ≠ c) ∨ (∃ k : Nat, k < l.length ∧ Lib.indexByte l c = k ∧ l[k]? = some c) := by
  induction l with
  | nil => exact .inl ⟨rfl, fun x hx => by cases hx⟩
  | cons b t ih =>
    by_cases hb : b = c
    · subst hb
      exact .inr ⟨0, by simp, by simp [Lib.indexByte], rfl⟩
    · have hbe : (b == c) = false := by simpa using hb
      rcases ih with ⟨h, hall⟩ | ⟨k, hk, h, hg⟩
      · refine .inl ⟨by simp [Lib.indexByte, hbe, h], fun x hx => ?_⟩
        rcases List.mem_cons.1 hx with rfl | hx
        · exact hb
        · exact hall x hx
      · have hne : (Lib.indexByte t c == -1) = false := by rw [h]; simp
        refine .inr ⟨k + 1, by simp; omega, ?_, by simpa using hg⟩
        rw [Lib.indexByte, hbe, hne, h]
        rfl
theorem idx_spec (L : ByteArray) (hL : L.size = 64) (c : Int) (h0 : 0 ≤ c) (h1 : c ≤ 255) :
    (idxI L c = -1 ∧ ∀ k, k < 64 → at0 (sb L) k ≠ c) ∨ (∃ k : Nat, k < 64 ∧ idxI L c = k ∧ at0 (sb L) k = c) := by
  have hlen : L.data.toList.length = 64 := by rw [← hL]; rfl
  have hc : ((c.toNat.toUInt8).toNat : Int) = c := by simp [Nat.toUInt8]; omega
  rcases indexByte_spec L.data.toList c.toNat.toUInt8 with ⟨h, hall⟩ | ⟨k, hk, h, hg⟩
  · refine .inl ⟨h, fun k hk he => ?_⟩
    have hk' : k < L.data.toList.length := by omega
    have := hall (L.data.toList[k]) (List.getElem_mem _)
    apply this
    have e2 : at0 (sb L) k = ((L.data.toList[k]).toNat : Int) := by
      have : k < (sb L).length := by rw [sb_length]; omega
      rw [at0_lt this]
      simp [sb]
    rw [e2, ← hc] at he
    exact UInt8.toNat_inj.1 (by exact_mod_cast he)
  · refine .inr ⟨k, by omega, h, ?_⟩
    have : k < (sb L).length := by rw [sb_length]; omega
    rw [at0_lt this]
    have hk' : k < L.data.toList.length := hk
    rw [List.getElem?_eq_getElem hk'] at hg
    simp only [Option.some.injEq] at hg
    simp only [sb, List.getElem_map, hg, hc]

theorem indexByte_any (L : ByteArray) (c : Int) (w : World) :
    Calls Tryd.prog 69 #[.string L, .int .u8 c] w fun e w' => e = .returned (.int .i64 (idxI L c)) ∧ w = w' := by
  refine (Tryd.strings_IndexByte L c w).mono ?_
  rintro e w' ⟨rfl, rfl⟩
  exact ⟨rfl, rfl⟩

/-- A text's letters as numbers. -/
def numsL (L s : ByteArray) : List Int := (sb s).map (idxI L)
theorem numsL_length (L s : ByteArray) : (numsL L s).length = s.size := by simp [numsL, sb_length]
theorem at0_nums (L s : ByteArray) (k : Nat) (h : k < s.size) : at0 (numsL L s) k = idxI L (at0 (sb s) k) := by
  have h1 : k < (numsL L s).length := by rw [numsL_length]; exact h
  have h2 : k < (sb s).length := by rw [sb_length]; exact h
  rw [at0_lt h1, at0_lt h2]
  simp [numsL]
def allOk (L s : ByteArray) : Prop := ∀ k, k < s.size → 0 ≤ at0 (numsL L s) k
theorem six_nums {L s : ByteArray} (hL : L.size = 64) (h : allOk L s) : Six (numsL L s) := by
  intro x hx
  obtain ⟨k, hk, rfl⟩ := List.getElem_of_mem hx
  rw [numsL_length] at hk
  have h0 := h k hk
  rw [← at0_lt]
  refine ⟨h0, ?_⟩
  rw [at0_nums L s k hk] at h0 ⊢
  have hb := (sb_bytes s).at k
  rcases idx_spec L hL _ hb.1 hb.2 with ⟨h1, _⟩ | ⟨j, hj, h1, _⟩ <;> omega
theorem strL_nums {L s : ByteArray} (hL : L.size = 64) (h : allOk L s) : strL L (numsL L s) = s := by
  apply sb_inj
  have h1 : Bytes ((numsL L s).map (lttr L)) := by
    intro x hx
    obtain ⟨y, _, rfl⟩ := List.mem_map.1 hx
    exact (sb_bytes L).at _
  rw [strL, sb_strOf h1]
  apply List.ext_getElem
  · simp [numsL]
  · intro i a b
    have hi : i < s.size := by rw [← sb_length]; exact b
    have hb := (sb_bytes s).at i
    have h0 := h i hi
    rw [at0_nums L s i hi] at h0
    rcases idx_spec L hL _ hb.1 hb.2 with ⟨h2, _⟩ | ⟨j, hj, h2, h3⟩
    · omega
    · rw [at0_lt b] at h2 h3
      simp only [List.getElem_map, numsL, lttr, h2, Int.toNat_natCast, h3]

/-- The bytes of a text of letters. -/
def decT (L s : ByteArray) : Option (List Int) := if ∀ k, k < s.size → 0 ≤ at0 (numsL L s) k then decV (numsL L s) else none
theorem decT_no {L s : ByteArray} {k : Nat} (hk : k < s.size) (h : at0 (numsL L s) k < 0) : decT L s = none := by
  rw [decT, if_neg]
  intro h'
  have := h' k hk
  omega
theorem decT_yes {L s : ByteArray} (h : allOk L s) : decT L s = decV (numsL L s) := if_pos h

/-- What is told of a decoding. -/
def Dec4Post (B : Nat) (w : World) (L s : ByteArray) (e : Ending) (w' : World) : Prop :=
  ∃ v c, e = .returned (.tuple #[v, .int .i64 c]) ∧ Below B w w' ∧
    ((∃ bs, decT L s = some bs ∧ c = 0 ∧ bs.length ≤ s.size ∧ Bytes bs ∧ w'.ownsRow B 5 1 v bs.length (bs.map (Value.int .u8))) ∨ (decT L s = none ∧ c = 2 ∧ v = .slice none 0 0))
theorem join6 (bb c : Int) (h0 : 0 ≤ bb) (h1 : bb < 18446744073709551616) (c0 : 0 ≤ c) (c1 : c < 64) :
    ∃ B1, bits BinOp.or IntKind.u64 (IntKind.u64.wrap (bb * 64)) c = B1 ∧ 0 ≤ B1 ∧ B1 < 18446744073709551616 ∧ B1 % 4096 = bb % 64 * 64 + c := by
  refine ⟨_, rfl, ?_⟩
  rw [wrap_u64_eq, u64_or_add _ c 6 (by omega) (by omega) (by omega) c0 (by omega) (by omega)]
  omega
theorem wrap_u8_eq (x : Int) : IntKind.u8.wrap x = x % 256 := by simp [IntKind.wrap, IntKind.bits, IntKind.signed]
theorem dstep0 (es : List Int) (n v : Int) : dstep (es, n, 0) v = (es, n * 64 + v, 6) := rfl
theorem dstep2 (es : List Int) (n v : Int) : dstep (es, n, 2) v = (es ++ [(n * 64 + v) / 1], (n * 64 + v) % 1, 0) := rfl
theorem dstep4 (es : List Int) (n v : Int) : dstep (es, n, 4) v = (es ++ [(n * 64 + v) / 4], (n * 64 + v) % 4, 2) := rfl
theorem dstep6 (es : List Int) (n v : Int) : dstep (es, n, 6) v = (es ++ [(n * 64 + v) / 16], (n * 64 + v) % 16, 4) := rfl

set_option maxHeartbeats 1000000 in
theorem decode04_any (s L : ByteArray) (w : World) (hL : L.size = 64) (hlen : s.size ≤ 1000000) :
    Calls Tryd.prog 72 #[.string s, .string L] w (Dec4Post w.heap.size w L s) := by
  obtain ⟨j0, hj, hy0, hy1, hy2⟩ := info_parts info_u8
  go_enter Tryd.func72, Tryd.ntmps72
  go_wp2_with (at_make; refine wpList_make_own _ rfl _ _ 43 rfl w.heap.size 5 j0 (.int .u8 0) 1 Tryd.underlying43 hj hy0 hy1 .i64 .i64 ((s.size : Int) * 6 / 8) (s.size * 6 / 8) rfl rfl (by omega) (by rw [hy2]; omega) (by unfold maxLen; omega) (Nat.le_refl _) ?_; intro w1 hown1 hgr1)
  have hb1 : Below w.heap.size w w1 := (Below.refl _ _).grown hgr1 (Nat.le_refl _) (fun k hk => by cases hk)
  clear hgr1
  go_loopw [6, 7, 8, 18] (fun v b h i wr => ∃ (k : Nat) (bb : Int) (hd : Nat), k ≤ s.size ∧ i = .int .i64 k ∧ b = .int .u64 bb ∧ h = .int .i64 hd ∧ 0 ≤ bb ∧ bb < 18446744073709551616 ∧ (∀ j, j < k → 0 ≤ at0 (numsL L s) j) ∧ (dst (numsL L s) k).2.2 = hd ∧ bb % 2 ^ hd = (dst (numsL L s) k).2.1 ∧ DInv (dst (numsL L s) k) ∧ wr.ownsRow w.heap.size 5 1 v (dst (numsL L s) k).1.length ((dst (numsL L s) k).1.map (Value.int .u8)) ∧ Below w.heap.size w wr) (fun _ _ _ i _ => s.size - (intOf i).toNat)
  case atStart => exact ⟨0, 0, 0, Nat.zero_le _, rfl, rfl, rfl, by omega, by omega, fun j hj => by omega, rfl, rfl, ⟨by simp [dst], by simp [dst], by simp [dst], by intro x hx; cases hx⟩, hown1, hb1⟩
  case round =>
    obtain ⟨k, bb, hd, hk, rfl, rfl, rfl, hb0, hbb, hall, hhd, hmod, hinv, hown, hbel⟩ := hrel
    clear hown1 hb1
    have hdl := dst_len (numsL L s) k
    have HALL := Lib.hid hall; clear hall
    by_cases hlt : k < s.size
    · have hidx := at0_nums L s k hlt
      rw [at0_sb s k hlt] at hidx
      have hcs : (s[k].toNat : Int) ≤ 255 := by have := (sb_bytes s).at k; rw [at0_sb s k hlt] at this; omega
      have hsp := idx_spec L hL (s[k].toNat : Int) (by omega) hcs
      rw [← hidx] at hsp
      have hdst : dst (numsL L s) (k + 1) = dstep (dst (numsL L s) k) (at0 (numsL L s) k) := rfl
      have HI := Lib.hid hidx.symm; clear hidx
      by_cases hv : at0 (numsL L s) k < 0
      · have HN := Lib.hid (decT_no hlt hv)
        have HV := Lib.hid (And.intro hbb (And.intro hmod hinv)); clear hbb hmod hinv hsp hdst
        go_wp2_with (go_at_call 69; refine (indexByte_any _ _ _).mono ?_; rintro e w2 ⟨rfl, rfl⟩; rw [HI.out])
        go_ret2
        exact ⟨_, _, rfl, hbel, .inr ⟨HN.out, rfl, rfl⟩⟩
      · have hv1 : 0 ≤ at0 (numsL L s) k ∧ at0 (numsL L s) k < 64 := by
          rcases hsp with ⟨h, _⟩ | ⟨j, hj, h, _⟩ <;> omega
        have hinv2 := hinv.step hv1.1 hv1.2
        rw [← hdst] at hinv2
        have hall2 : ∀ j, j < k + 1 → 0 ≤ at0 (numsL L s) j := fun j hj => by
          by_cases e : j = k
          · subst e; exact hv1.1
          · exact HALL.out j (by omega)
        have HALL2 := Lib.hid hall2; clear hall2
        have HINV2 := Lib.hid hinv2; clear hinv2 hsp
        obtain ⟨i1, i2, i3, i4⟩ := hinv
        clear i4
        generalize at0 (numsL L s) k = v at hv hv1 hdst HI
        obtain ⟨v0, v1⟩ := hv1
        generalize hst : dst (numsL L s) k = st at hhd hmod hown hdl hdst i1 i2 i3
        obtain ⟨es, n, kb⟩ := st
        simp only at hhd hmod hown hdl i1 i2 i3
        subst hhd
        have HST := Lib.hid hst; clear hst
        obtain ⟨B1, hB1, q0, q1, q2⟩ := join6 bb v hb0 hbb v0 v1
        rcases i1 with rfl | rfl | rfl | rfl
        · rw [dstep0] at hdst
          have HD := Lib.hid hdst; clear hdst
          have HQ := Lib.hid (And.intro q1 (And.intro q2 (And.intro hbb hmod))); clear q1 q2 hbb hmod
          go_wp2_with (go_at_call 69; refine (indexByte_any _ _ _).mono ?_; rintro e w2 ⟨rfl, rfl⟩; rw [HI.out])
          obtain ⟨g1, g2, g3, g4⟩ := HQ.out
          refine ⟨⟨k + 1, B1, 6, by omega, by go_num, rfl, rfl, q0, g1, HALL2.out, by rw [HD.out], by rw [HD.out]; simp only []; omega, HINV2.out, by rw [HD.out]; exact hown, hbel⟩, by simp [intOf]; omega⟩
        · rw [dstep2] at hdst
          have HD := Lib.hid hdst; clear hdst
          have e0 : IntKind.u8.wrap (B1) = n * 64 + v := by rw [wrap_u8_eq]; omega
          have HQ := Lib.hid (And.intro q1 (And.intro q2 (And.intro hbb hmod))); clear q1 q2 hbb hmod
          go_wp2_with (first
            | (go_at_call 69; refine (indexByte_any _ _ _).mono ?_; rintro e w2 ⟨rfl, rfl⟩; rw [HI.out])
            | (at_builtin; refine wpList_append_rd rfl _ _ 43 rfl w.heap.size 5 j0 (.int .u8 0) 1 Tryd.underlying43 hj hy0 hy1 hy2 rfl _ _ _ rfl (hown.alloc _) _ 1 1 [.int .u8 (n * 64 + v)] rfl reads_one (by simp [Value.oneCell']) (by unfold maxLen; omega) (by omega) (by have hs1 := hbel.size; simp only [World.size_alloc]; omega) (by simp) ?_; intro v3 w3 hown3 hgr3 hc3; have hb3 := (hbel.alloc (by have hs1 := hbel.size; omega) _).trans hc3; clear hgr3 hc3))
          obtain ⟨g1, g2, g3, g4⟩ := HQ.out
          refine ⟨⟨k + 1, B1, 0, by omega, by go_num, rfl, rfl, q0, g1, HALL2.out, by rw [HD.out], by rw [HD.out]; simp only []; omega, HINV2.out, ?_, hb3⟩, by simp [intOf]; omega⟩
          rw [HD.out]
          simpa using hown3
        · rw [dstep4] at hdst
          have HD := Lib.hid hdst; clear hdst
          have e0 : IntKind.u8.wrap (B1 / 4) = (n * 64 + v) / 4 := by rw [wrap_u8_eq]; omega
          have HQ := Lib.hid (And.intro q1 (And.intro q2 (And.intro hbb hmod))); clear q1 q2 hbb hmod
          go_wp2_with (first
            | (go_at_call 69; refine (indexByte_any _ _ _).mono ?_; rintro e w2 ⟨rfl, rfl⟩; rw [HI.out])
            | (at_builtin; refine wpList_append_rd rfl _ _ 43 rfl w.heap.size 5 j0 (.int .u8 0) 1 Tryd.underlying43 hj hy0 hy1 hy2 rfl _ _ _ rfl (hown.alloc _) _ 1 1 [.int .u8 ((n * 64 + v) / 4)] rfl reads_one (by simp [Value.oneCell']) (by unfold maxLen; omega) (by omega) (by have hs1 := hbel.size; simp only [World.size_alloc]; omega) (by simp) ?_; intro v3 w3 hown3 hgr3 hc3; have hb3 := (hbel.alloc (by have hs1 := hbel.size; omega) _).trans hc3; clear hgr3 hc3))
          obtain ⟨g1, g2, g3, g4⟩ := HQ.out
          refine ⟨⟨k + 1, B1, 2, by omega, by go_num, rfl, rfl, q0, g1, HALL2.out, by rw [HD.out], by rw [HD.out]; simp only []; omega, HINV2.out, ?_, hb3⟩, by simp [intOf]; omega⟩
          rw [HD.out]
          simpa using hown3
        · rw [dstep6] at hdst
          have HD := Lib.hid hdst; clear hdst
          have e0 : IntKind.u8.wrap (B1 / 16) = (n * 64 + v) / 16 := by rw [wrap_u8_eq]; omega
          have HQ := Lib.hid (And.intro q1 (And.intro q2 (And.intro hbb hmod))); clear q1 q2 hbb hmod
          go_wp2_with (first
            | (go_at_call 69; refine (indexByte_any _ _ _).mono ?_; rintro e w2 ⟨rfl, rfl⟩; rw [HI.out])
            | (at_builtin; refine wpList_append_rd rfl _ _ 43 rfl w.heap.size 5 j0 (.int .u8 0) 1 Tryd.underlying43 hj hy0 hy1 hy2 rfl _ _ _ rfl (hown.alloc _) _ 1 1 [.int .u8 ((n * 64 + v) / 16)] rfl reads_one (by simp [Value.oneCell']) (by unfold maxLen; omega) (by omega) (by have hs1 := hbel.size; simp only [World.size_alloc]; omega) (by simp) ?_; intro v3 w3 hown3 hgr3 hc3; have hb3 := (hbel.alloc (by have hs1 := hbel.size; omega) _).trans hc3; clear hgr3 hc3))
          obtain ⟨g1, g2, g3, g4⟩ := HQ.out
          refine ⟨⟨k + 1, B1, 4, by omega, by go_num, rfl, rfl, q0, g1, HALL2.out, by rw [HD.out], by rw [HD.out]; simp only []; omega, HINV2.out, ?_, hb3⟩, by simp [intOf]; omega⟩
          rw [HD.out]
          simpa using hown3
    · obtain rfl : k = s.size := by omega
      have hok : decT L s = decV (numsL L s) := decT_yes HALL.out
      have hsz : (numsL L s).length = s.size := numsL_length L s
      rw [decV, hsz] at hok
      obtain ⟨i1, i2, i3, i4⟩ := hinv
      generalize dst (numsL L s) s.size = st at hhd hmod hown hdl hok i1 i2 i3 i4
      obtain ⟨es, n, kb⟩ := st
      simp only at hhd hmod hown hdl hok i1 i2 i3 i4
      subst hhd
      have HB := Lib.hid i4; clear i4 hsz
      rcases i1 with rfl | rfl | rfl | rfl
      · have e0 : bits BinOp.and IntKind.u64 bb 0 = n := by
          have := u64_and_mask bb 0 0 rfl (by omega) hb0 hbb
          rw [show ((0 : Nat) : Int) = 0 from rfl] at this
          rw [this]
          exact hmod
        have HK := Lib.hid hok; clear hok
        have HQ := Lib.hid (And.intro hbb hmod); clear hbb hmod
        by_cases hn : n = 0
        · subst hn
          go_wp2
          all_goals go_ret2
          all_goals exact ⟨_, _, rfl, hbel, .inl ⟨es, by rw [HK.out]; simp, rfl, hdl, HB.out, hown⟩⟩
        · have hne : (n != 0) = true := by simpa using hn
          have HNN := Lib.hid hn; clear hn
          go_wp2
          all_goals go_ret2
          all_goals exact ⟨_, _, rfl, hbel, .inr ⟨by rw [HK.out]; simp [HNN.out], rfl, rfl⟩⟩
      · have e0 : bits BinOp.and IntKind.u64 bb 3 = n := by
          have := u64_and_mask bb 2 3 rfl (by omega) hb0 hbb
          rw [show ((3 : Nat) : Int) = 3 from rfl] at this
          rw [this]
          exact hmod
        have HK := Lib.hid hok; clear hok
        have HQ := Lib.hid (And.intro hbb hmod); clear hbb hmod
        by_cases hn : n = 0
        · subst hn
          go_wp2
          all_goals go_ret2
          all_goals exact ⟨_, _, rfl, hbel, .inl ⟨es, by rw [HK.out]; simp, rfl, hdl, HB.out, hown⟩⟩
        · have hne : (n != 0) = true := by simpa using hn
          have HNN := Lib.hid hn; clear hn
          go_wp2
          all_goals go_ret2
          all_goals exact ⟨_, _, rfl, hbel, .inr ⟨by rw [HK.out]; simp [HNN.out], rfl, rfl⟩⟩
      · have e0 : bits BinOp.and IntKind.u64 bb 15 = n := by
          have := u64_and_mask bb 4 15 rfl (by omega) hb0 hbb
          rw [show ((15 : Nat) : Int) = 15 from rfl] at this
          rw [this]
          exact hmod
        have HK := Lib.hid hok; clear hok
        have HQ := Lib.hid (And.intro hbb hmod); clear hbb hmod
        by_cases hn : n = 0
        · subst hn
          go_wp2
          all_goals go_ret2
          all_goals exact ⟨_, _, rfl, hbel, .inl ⟨es, by rw [HK.out]; simp, rfl, hdl, HB.out, hown⟩⟩
        · have hne : (n != 0) = true := by simpa using hn
          have HNN := Lib.hid hn; clear hn
          go_wp2
          all_goals go_ret2
          all_goals exact ⟨_, _, rfl, hbel, .inr ⟨by rw [HK.out]; simp [HNN.out], rfl, rfl⟩⟩
      · have HK := Lib.hid hok; clear hok
        have HQ := Lib.hid (And.intro hbb hmod); clear hbb hmod
        go_wp2
        go_ret2
        exact ⟨_, _, rfl, hbel, .inr ⟨by rw [HK.out]; simp, rfl, rfl⟩⟩
end Go.Proofs.YtibkkdbjmcongaaDoor
