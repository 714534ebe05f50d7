/- The reference's decode: by the same bytes as package base's. -/
import Derived.Test.YtibkkdbjmcongaaDoorBaseDec
namespace Go.Proofs.YtibkkdbjmcongaaDoor
open Go.RowKit
set_option linter.unusedVariables false

/-- The letters are apart. -/
def Apart (L : ByteArray) : Prop := ∀ i j : Nat, i < 64 → j < 64 → at0 (sb L) i = at0 (sb L) j → i = j
/-- What the search has found behind k letters. -/
def found (L : ByteArray) (c : Int) (k : Nat) : Int := if idxI L c < k then idxI L c else -1
theorem found_end {L : ByteArray} (hL : L.size = 64) {c : Int} (h0 : 0 ≤ c) (h1 : c ≤ 255) : found L c 64 = idxI L c := by
  rw [found, if_pos]
  rcases idx_spec L hL c h0 h1 with ⟨h, _⟩ | ⟨j, hj, h, _⟩ <;> omega
theorem found_hit {L : ByteArray} (hA : Apart L) (hL : L.size = 64) {c : Int} (h0 : 0 ≤ c) (h1 : c ≤ 255) {k : Nat} (hk : k < 64) (h : at0 (sb L) k = c) : found L c (k + 1) = k := by
  rcases idx_spec L hL c h0 h1 with ⟨_, hn⟩ | ⟨j, hj, hi, hjc⟩
  · exact absurd h (hn k hk)
  · have : j = k := hA j k hj hk (by rw [hjc, h])
    subst this
    rw [found, if_pos (by omega), hi]
theorem found_miss {L : ByteArray} (hL : L.size = 64) {c : Int} (h0 : 0 ≤ c) (h1 : c ≤ 255) {k : Nat} (hk : k < 64) (h : at0 (sb L) k ≠ c) : found L c (k + 1) = found L c k := by
  rcases idx_spec L hL c h0 h1 with ⟨hm, hn⟩ | ⟨j, hj, hi, hjc⟩
  · simp only [found, hm]
    rw [if_pos (by omega), if_pos (by omega)]
  · have hne : j ≠ k := fun e => h (by rw [← e]; exact hjc)
    simp only [found, hi]
    by_cases hlt : j < k
    · rw [if_pos (by omega), if_pos (by omega)]
    · rw [if_neg (by omega), if_neg (by omega)]
theorem found_zero {L : ByteArray} (hL : L.size = 64) {c : Int} (h0 : 0 ≤ c) (h1 : c ≤ 255) : found L c 0 = -1 := by
  rcases idx_spec L hL c h0 h1 with ⟨hm, hn⟩ | ⟨j, hj, hi, hjc⟩
  · rw [found, hm, if_pos (by omega)]
  · rw [found, hi, if_neg (by omega)]
theorem lttr_at {L : ByteArray} {k : Nat} (hk : k < L.size) : (L[k].toNat : Int) = at0 (sb L) k := (at0_sb L k hk).symm
theorem inj_strL {L : ByteArray} (hA : Apart L) (hL : L.size = 64) : ∀ {a b : List Int}, Six a → Six b → strL L a = strL L b → a = b := by
  intro a b ha hb h
  have h1 : sb (strL L a) = sb (strL L b) := by rw [h]
  have hbt : ∀ l : List Int, Bytes (l.map (lttr L)) := by
    intro l x hx
    obtain ⟨y, _, rfl⟩ := List.mem_map.1 hx
    exact (sb_bytes L).at _
  rw [strL, strL, sb_strOf (hbt a), sb_strOf (hbt b)] at h1
  clear h
  induction a generalizing b with
  | nil => cases b with
    | nil => rfl
    | cons y t => simp at h1
  | cons x s ih =>
    cases b with
    | nil => simp at h1
    | cons y t =>
      simp only [List.map_cons, List.cons.injEq] at h1
      have hx := ha x (by simp)
      have hy := hb y (by simp)
      have e := hA x.toNat y.toNat (by omega) (by omega) h1.1
      have : x = y := by omega
      subst this
      rw [ih ha.tail hb.tail h1.2]
theorem encL_six {l : List Int} (hb : Bytes l) : Six (encL l) := by
  rw [encL_G l.length l (Nat.le_refl _) hb]
  exact encG_six l.length l (Nat.le_refl _) hb
/-- Encoded again it is that text, just if no bits are left. -/
theorem again_iff {L s : ByteArray} (hA : Apart L) (hL : L.size = 64) (h : allOk L s) (hb : Bytes (dst (numsL L s) s.size).1) :
    strL L (encL (dst (numsL L s) s.size).1) = s ↔ ¬ ((dst (numsL L s) s.size).2.2 = 6 ∨ (dst (numsL L s) s.size).2.1 ≠ 0) := by
  have hsx := six_nums hL h
  have hlen := numsL_length L s
  have hg := dst_G s.size (numsL L s) (by rw [hlen]; exact Nat.le_refl _) hsx
  rw [hlen] at hg
  have hd := enc_dec_G s.size (numsL L s) (by rw [hlen]; exact Nat.le_refl _) hsx
  rw [← hg] at hd
  have hs := strL_nums hL h
  have he := encL_G _ _ (Nat.le_refl _) hb
  rw [← hd, ← he]
  constructor
  · intro e
    exact inj_strL hA hL (encL_six hb) hsx (by rw [e, hs])
  · intro e
    rw [e, hs]

set_option maxHeartbeats 1000000 in
theorem ref_decode04_any (s L : ByteArray) (w : World) (hL : L.size = 64) (hA : Apart L) (hlen : s.size ≤ 1000000) :
    Calls Tryd.prog 73 #[.string s, .string L] w (Dec4Post w.heap.size w L s) := by
  obtain ⟨j0, hj, hy0, hy1, hy2⟩ := info_parts info_u8
  go_enter Tryd.func73, Tryd.ntmps73
  go_wp2
  go_loopw [6, 7, 8, 9] (fun v b h i wr => ∃ (k : Nat) (hd : Nat), k ≤ s.size ∧ i = .int .i64 k ∧ b = .int .i64 (dst (numsL L s) k).2.1 ∧ h = .int .i64 hd ∧ (∀ j, j < k → 0 ≤ at0 (numsL L s) j) ∧ (dst (numsL L s) k).2.2 = hd ∧ DInv (dst (numsL L s) k) ∧ wr.ownsRow w.heap.size 5 1 v (dst (numsL L s) k).1.length ((dst (numsL L s) k).1.map (Value.int .u8)) ∧ Below w.heap.size w wr) (fun _ _ _ i _ => s.size - (intOf i).toNat)
  case atStart => exact ⟨0, 0, Nat.zero_le _, rfl, rfl, rfl, fun j hj => by omega, rfl, ⟨by simp [dst], by simp [dst], by simp [dst], by intro x hx; cases hx⟩, World.ownsRow_nil _ _ _ _, Below.refl _ _⟩
  case round =>
    obtain ⟨k, hd, hk, rfl, rfl, rfl, hall, hhd, hinv, hown, hbel⟩ := hrel
    have hdl := dst_len (numsL L s) k
    have HALL := Lib.hid hall; clear hall
    by_cases hlt : k < s.size
    · have hidx := at0_nums L s k hlt
      have hcb := (sb_bytes s).at k
      have hck := at0_sb s k hlt
      rw [hck] at hidx hcb
      obtain ⟨cb0, cb1⟩ := hcb
      have hdst : dst (numsL L s) (k + 1) = dstep (dst (numsL L s) k) (at0 (numsL L s) k) := rfl
      have hsp := idx_spec L hL (s[k].toNat : Int) cb0 cb1
      rw [← hidx] at hsp
      have hfe := found_end hL cb0 cb1
      rw [← hidx] at hfe
      have HFE := Lib.hid hfe; clear hfe hidx hck
      have hinv0 := Lib.hid hinv
      have HV := Lib.hid (And.intro hhd (And.intro hsp hdst)); clear hhd hsp hdst hinv
      generalize hst : dst (numsL L s) k = st at HV hinv0 hown hdl
      obtain ⟨es, n, kb⟩ := st
      simp only at hown hdl
      have HST := Lib.hid hst; clear hst
      go_wp2
      obtain ⟨wo, rfl⟩ : ∃ wo : World, wo = wr := ⟨_, rfl⟩
      go_loopw [10, 11] (fun v i wi => ∃ j : Nat, j ≤ 64 ∧ i = .int .i64 j ∧ v = .int .i64 (found L (s[k].toNat : Int) j) ∧ ∃ q, wi = wo.drewN q) (fun _ i _ => 64 - (intOf i).toNat)
      case atStart => exact ⟨0, by omega, rfl, by rw [found_zero hL cb0 cb1], 0, rfl⟩
      case round =>
        obtain ⟨j, hj64, rfl, rfl, q, rfl⟩ := hrel
        by_cases hj6 : j < 64
        · have hjL : j < L.size := by omega
          go_wp2
          go_quiet (fail)
          go_wp2
          · rename_i hc
            refine ⟨⟨j + 1, by omega, by go_num, ?_, _, rfl⟩, by simp [intOf]; omega⟩
            have : at0 (sb L) j = (s[k].toNat : Int) := by rw [at0_sb L j hjL]; simpa using hc
            rw [found_hit hA hL cb0 cb1 hj6 this]
          · rename_i hc
            refine ⟨⟨j + 1, by omega, by go_num, ?_, _, rfl⟩, by simp [intOf]; omega⟩
            have : at0 (sb L) j ≠ (s[k].toNat : Int) := by rw [at0_sb L j hjL]; simpa using hc
            rw [found_miss hL cb0 cb1 hj6 this]
        · obtain rfl : j = 64 := by omega
          rw [HFE.out]
          obtain ⟨hhd, hsp, hdst⟩ := HV.out
          have hinv := hinv0.out
          clear HV hinv0
          by_cases hv : at0 (numsL L s) k < 0
          · have HN := Lib.hid (decT_no hlt hv)
            clear hsp hdst hinv hhd
            go_wp2
            go_ret2
            exact ⟨_, _, rfl, below_drewN hbel _, .inr ⟨HN.out, rfl, rfl⟩⟩
          · have hv1 : 0 ≤ at0 (numsL L s) k ∧ at0 (numsL L s) k < 64 := by
              rcases hsp with ⟨h, _⟩ | ⟨j, _, h, _⟩ <;> omega
            have hinv2 := hinv.step hv1.1 hv1.2
            rw [← hdst] at hinv2
            have hall2 : ∀ j, j < k + 1 → 0 ≤ at0 (numsL L s) j := fun j hj => by
              by_cases e : j = k
              · subst e; exact hv1.1
              · exact HALL.out j (by omega)
            have HALL2 := Lib.hid hall2; clear hall2
            have HINV2 := Lib.hid hinv2; clear hinv2 hsp
            obtain ⟨i1, i2, i3, i4⟩ := hinv
            clear i4 HFE
            generalize at0 (numsL L s) k = v at hv hv1 hdst
            obtain ⟨v0, v1⟩ := hv1
            simp only at hhd i1 i2 i3
            subst hhd
            rcases i1 with rfl | rfl | rfl | rfl
            · rw [dstep0] at hdst
              have HD := Lib.hid hdst; clear hdst
              go_wp2
              refine ⟨⟨k + 1, 6, by omega, by go_num, by rw [HD.out], rfl, HALL2.out, by rw [HD.out], HINV2.out, by rw [HD.out]; exact own_below hown (below_drewN (Below.refl _ _) _), below_drewN hbel _⟩, by simp [intOf]; omega⟩
            · rw [dstep2] at hdst
              have HD := Lib.hid hdst; clear hdst
              have e0 : IntKind.u8.wrap (n * 64 + v) = n * 64 + v := by rw [wrap_u8_eq]; omega
              have hown9 := own_below hown (below_drewN (Below.refl _ _) q)
              go_wp2_with (at_builtin; refine wpList_append_rd rfl _ _ 43 rfl w.heap.size 5 j0 (.int .u8 0) 1 Tryd.underlying43 hj hy0 hy1 hy2 rfl _ _ _ rfl (hown9.alloc _) _ 1 1 [.int .u8 (n * 64 + v)] rfl reads_one (by simp [Value.oneCell']) (by unfold maxLen; omega) (by omega) (by have hs1 := hbel.size; simp only [World.size_alloc, World.heap_drewN]; omega) (by simp) ?_; intro v3 w3 hown3 hgr3 hc3; have hb3 := ((below_drewN hbel q).alloc (by have hs1 := hbel.size; simp only [World.heap_drewN]; omega) _).trans hc3; clear hgr3 hc3)
              refine ⟨⟨k + 1, 0, by omega, by go_num, ?_, rfl, HALL2.out, by rw [HD.out], HINV2.out, ?_, hb3⟩, by simp [intOf]; omega⟩
              · rw [HD.out]
                exact congrArg (Value.int .i64) (by simp only []; omega)
              · rw [HD.out]
                simpa using hown3
            · rw [dstep4] at hdst
              have HD := Lib.hid hdst; clear hdst
              have e0 : IntKind.u8.wrap ((n * 64 + v) / 4) = (n * 64 + v) / 4 := by rw [wrap_u8_eq]; omega
              have hown9 := own_below hown (below_drewN (Below.refl _ _) q)
              go_wp2_with (at_builtin; refine wpList_append_rd rfl _ _ 43 rfl w.heap.size 5 j0 (.int .u8 0) 1 Tryd.underlying43 hj hy0 hy1 hy2 rfl _ _ _ rfl (hown9.alloc _) _ 1 1 [.int .u8 ((n * 64 + v) / 4)] rfl reads_one (by simp [Value.oneCell']) (by unfold maxLen; omega) (by omega) (by have hs1 := hbel.size; simp only [World.size_alloc, World.heap_drewN]; omega) (by simp) ?_; intro v3 w3 hown3 hgr3 hc3; have hb3 := ((below_drewN hbel q).alloc (by have hs1 := hbel.size; simp only [World.heap_drewN]; omega) _).trans hc3; clear hgr3 hc3)
              refine ⟨⟨k + 1, 2, by omega, by go_num, ?_, rfl, HALL2.out, by rw [HD.out], HINV2.out, ?_, hb3⟩, by simp [intOf]; omega⟩
              · rw [HD.out]
              · rw [HD.out]
                simpa using hown3
            · rw [dstep6] at hdst
              have HD := Lib.hid hdst; clear hdst
              have e0 : IntKind.u8.wrap ((n * 64 + v) / 16) = (n * 64 + v) / 16 := by rw [wrap_u8_eq]; omega
              have hown9 := own_below hown (below_drewN (Below.refl _ _) q)
              go_wp2_with (at_builtin; refine wpList_append_rd rfl _ _ 43 rfl w.heap.size 5 j0 (.int .u8 0) 1 Tryd.underlying43 hj hy0 hy1 hy2 rfl _ _ _ rfl (hown9.alloc _) _ 1 1 [.int .u8 ((n * 64 + v) / 16)] rfl reads_one (by simp [Value.oneCell']) (by unfold maxLen; omega) (by omega) (by have hs1 := hbel.size; simp only [World.size_alloc, World.heap_drewN]; omega) (by simp) ?_; intro v3 w3 hown3 hgr3 hc3; have hb3 := ((below_drewN hbel q).alloc (by have hs1 := hbel.size; simp only [World.heap_drewN]; omega) _).trans hc3; clear hgr3 hc3)
              refine ⟨⟨k + 1, 4, by omega, by go_num, ?_, rfl, HALL2.out, by rw [HD.out], HINV2.out, ?_, hb3⟩, by simp [intOf]; omega⟩
              · rw [HD.out]
              · rw [HD.out]
                simpa using hown3
    · obtain rfl : k = s.size := by omega
      have hok : decT L s = decV (numsL L s) := decT_yes HALL.out
      have hsz : (numsL L s).length = s.size := numsL_length L s
      rw [decV, hsz] at hok
      have hag := again_iff hA hL HALL.out hinv.2.2.2
      obtain ⟨i1, i2, i3, i4⟩ := hinv
      generalize dst (numsL L s) s.size = st at hhd hown hdl hok i1 i2 i3 i4 hag
      obtain ⟨es, n, kb⟩ := st
      simp only at hhd hown hdl hok i1 i2 i3 i4 hag
      subst hhd
      have HB := Lib.hid i4; clear hsz
      have hrd : RdI .u8 wr u6 es := RdI.of_own hown
      by_cases hbad : kb = 6 ∨ n ≠ 0
      · rw [if_pos hbad] at hok
        have hne := str_eq_no (fun e => (hag.1 e) hbad)
        have HK := Lib.hid hok; clear hok hag hbad i1 i3
        go_wp2_with (go_at_call 89; refine (ref_encode04_any _ es L _ hrd i4 hL (by omega)).mono ?_; rintro e w2 ⟨rfl, hw⟩; obtain rfl := hw.symm)
        go_ret2
        exact ⟨_, _, rfl, hbel, .inr ⟨HK.out, rfl, rfl⟩⟩
      · rw [if_neg hbad] at hok
        have hne := str_eq_yes (hag.2 hbad)
        have HK := Lib.hid hok; clear hok hag hbad i1 i3
        go_wp2_with (go_at_call 89; refine (ref_encode04_any _ es L _ hrd i4 hL (by omega)).mono ?_; rintro e w2 ⟨rfl, hw⟩; obtain rfl := hw.symm)
        go_ret2
        exact ⟨_, _, rfl, hbel, .inl ⟨es, HK.out, rfl, hdl, i4, hown⟩⟩
end Go.Proofs.YtibkkdbjmcongaaDoor
