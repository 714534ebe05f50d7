/- What the call of the law BaseJoins does: it returns true. -/
import Derived.Test.YticeogdagnogpaaBaseLaws
namespace Go.Proofs.Yticeogdagnogpaa
open Go.RowKit
set_option linter.unusedVariables false

/-- A slice, cut at its end. -/
theorem rd_head {K : IntKind} {w : World} {ad : Option Addr} {cap n k : Nat} {zs : List Int} (hr : RdI K w (.slice ad n cap) zs) (h1 : k ≤ n) : RdI K w (.slice ad k cap) (zs.take k) := by
  obtain ⟨a', cap', he, hc1, hc2, hc3, hc4⟩ := hr
  cases he
  have hl : (zs.take k).length = k := by rw [List.length_take]; omega
  refine ⟨ad, cap, by rw [hl], by rw [hl]; omega, hc2, fun j hj => ?_, hc4⟩
  rw [hl] at hj
  obtain ⟨x, o, rfl, hc⟩ := hc3 j (by omega)
  refine ⟨x, o, rfl, ?_⟩
  rw [hc]
  simp [at0, hj]

set_option maxHeartbeats 400000 in
theorem law_joins04 (v : Value) (l : List Int) (v2 : Value) (m : List Int) (w : World) (h : RdI .u8 w v l) (hb : Bytes l) (h2 : RdI .u8 w v2 m) (hbm : Bytes m) :
    Calls Try.prog 12 #[v, v2] w fun e w' => e = .returned (.bool true) ∧ Below w.heap.size w w' := by
  have ra := h
  have rm := h2
  obtain ⟨p, cap, rfl, hla, hma, -, -⟩ := h
  obtain ⟨p', cap', rfl, hla', hma', -, -⟩ := h2
  unfold maxLen at hma hma'
  obtain ⟨j0, hj, hy0, hy1, hy2⟩ := info_parts info_u8
  by_cases g1 : 1000 < l.length
  · go_enter Try.func12, Try.ntmps12
    go_wp2_with (go_at_call 29; refine (alive04 _).mono ?_; rintro e w1 ⟨rfl, hb1⟩)
    go_ret
    exact ⟨rfl, hb1⟩
  by_cases g2 : 1000 < m.length
  · go_enter Try.func12, Try.ntmps12
    go_wp2_with (go_at_call 29; refine (alive04 _).mono ?_; rintro e w1 ⟨rfl, hb1⟩)
    go_ret
    exact ⟨rfl, hb1⟩
  have HB := Below.refl w.heap.size w
  have hk : l.length / 3 * 3 ≤ l.length := by omega
  go_enter Try.func12, Try.ntmps12
  go_wp2_with fail
  refine (alive04 _).mono ?_
  rintro e w1 ⟨rfl, hb1⟩
  replace ra := ra.below hb1
  replace rm := rm.below hb1
  replace HB := below_then HB hb1
  clear hb1
  have ra3 := rd_head ra hk
  have h3b : Bytes (l.take (l.length / 3 * 3)) := fun x hx => hb x (List.mem_of_mem_take hx)
  have h3l : (l.take (l.length / 3 * 3)).length = l.length / 3 * 3 := by rw [List.length_take]; omega
  generalize l.take (l.length / 3 * 3) = l3 at ra3 h3b h3l
  have h3e := encL_len l3 h3b
  have hme := encL_len m hbm
  have hq : l3.length ≤ 1000 := by omega
  have hdiv : l3.length = 3 * (l.length / 3) := by omega
  have hcat : encL (l3 ++ m) = encL l3 ++ encL m := by
    rw [encL_G _ _ (Nat.le_refl _) (h3b.append hbm), encL_G _ _ (Nat.le_refl _) h3b, encL_G _ _ (Nat.le_refl _) hbm]
    exact encG_append _ l3 m hdiv
  have ju := str_eq_yes (show strL usualB (encL (l3 ++ m)) = strL usualB (encL l3) ++ strL usualB (encL m) by rw [hcat, strL_append])
  have js := str_eq_yes (show strL safeB (encL (l3 ++ m)) = strL safeB (encL l3) ++ strL safeB (encL m) by rw [hcat, strL_append])
  have z1 : (strL usualB (encL l3)).size ≤ 8000 := by rw [strL_size]; omega
  have z2 : (strL usualB (encL m)).size ≤ 8000 := by rw [strL_size]; omega
  have z3 : (strL safeB (encL l3)).size ≤ 8000 := by rw [strL_size]; omega
  have z4 : (strL safeB (encL m)).size ≤ 8000 := by rw [strL_size]; omega
  have HL := Lib.hid (And.intro h3l hdiv)
  rw [← h3l] at ra3
  clear hcat h3e hme hdiv
  go_wp2_with fail
  rw [← h3l]
  clear h3l
  go_wp2_with fail
  refine (copy_rd _ l3 _ ra3 (by omega)).mono ?_
  rintro e w4 ⟨a4, c4, rfl, hown, -, hb4⟩
  have rm4 := rm.below hb4
  obtain ⟨hrb, hnb⟩ := reads_of rm4
  have HN := Lib.hid hnb; clear hnb
  go_wp2_with (at_builtin; refine wpList_append_rd rfl _ _ 22 rfl _ 5 j0 (.int .u8 0) 1 Try.underlying22 hj hy0 hy1 hy2 rfl _ _ _ rfl hown _ _ _ _ rfl hrb (by simp [Value.oneCell']) (by unfold maxLen; omega) (by omega) hb4.size HN.out ?_; intro v5 w5 hown5 hgr5 hb5)
  have rall : RdI .u8 w5 v5 (l3 ++ m) := RdI.of_own (by simpa using hown5)
  have hb45 := hb4.trans hb5
  clear hgr5 hown hrb hown5 hb4 hb5 rm4
  replace rm := rm.below hb45
  replace ra3 := ra3.below hb45
  replace HB := below_then HB hb45
  clear hb45
  go_wp2_with fail
  refine (enc_usual _ (l3 ++ m) _ rall (h3b.append hbm) (by simp; omega)).mono ?_
  rintro e wa ⟨rfl, hba⟩
  replace rall := rall.below hba
  replace ra3 := ra3.below hba
  replace rm := rm.below hba
  replace HB := below_then HB hba
  clear hba
  go_wp2_with fail
  try rw [← HL.out.1]
  refine (enc_usual _ l3 _ ra3 h3b (by omega)).mono ?_
  rintro e wb ⟨rfl, hbb⟩
  replace rall := rall.below hbb
  replace ra3 := ra3.below hbb
  replace rm := rm.below hbb
  replace HB := below_then HB hbb
  clear hbb
  go_wp2_with fail
  refine (enc_usual _ m _ rm hbm (by omega)).mono ?_
  rintro e wc ⟨rfl, hbc⟩
  replace rall := rall.below hbc
  replace ra3 := ra3.below hbc
  replace rm := rm.below hbc
  replace HB := below_then HB hbc
  clear hbc
  go_wp2_with fail
  refine (enc_safe _ (l3 ++ m) _ rall (h3b.append hbm) (by simp; omega)).mono ?_
  rintro e wa ⟨rfl, hba⟩
  replace rall := rall.below hba
  replace ra3 := ra3.below hba
  replace rm := rm.below hba
  replace HB := below_then HB hba
  clear hba
  go_wp2_with fail
  try rw [← HL.out.1]
  refine (enc_safe _ l3 _ ra3 h3b (by omega)).mono ?_
  rintro e wb ⟨rfl, hbb⟩
  replace rall := rall.below hbb
  replace ra3 := ra3.below hbb
  replace rm := rm.below hbb
  replace HB := below_then HB hbb
  clear hbb
  go_wp2_with fail
  refine (enc_safe _ m _ rm hbm (by omega)).mono ?_
  rintro e wc ⟨rfl, hbc⟩
  replace rall := rall.below hbc
  replace ra3 := ra3.below hbc
  replace rm := rm.below hbc
  replace HB := below_then HB hbc
  clear hbc
  go_wp2
  go_ret
  exact ⟨rfl, HB⟩
end Go.Proofs.Yticeogdagnogpaa
