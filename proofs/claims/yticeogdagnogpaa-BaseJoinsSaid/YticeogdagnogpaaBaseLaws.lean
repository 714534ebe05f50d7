/- What the calls of layer 4's laws do: each returns true. -/
import Derived.Test.YticeogdagnogpaaBaseCalls
import Derived.Test.YticeogdagnogpaaLit
namespace Go.Proofs.Yticeogdagnogpaa
open Go.RowKit
set_option linter.unusedVariables false

set_option maxHeartbeats 1000000 in
theorem alive04 (w : World) : Calls Try.prog 29 #[] w fun e w' => e = .returned (.bool true) ∧ Below w.heap.size w w' := by
  have hm : (1 : Nat) ≤ maxLen := by unfold maxLen; omega
  have HB := Below.refl w.heap.size w
  go_enter Try.func29, Try.ntmps29
  go_wp2_with fail
  refine (dec_usual_ok ⟨#[90, 109, 57, 118, 89, 103]⟩ [102, 111, 111, 98] _ (by decide) alive_d1).mono ?_
  rintro e w1 ⟨a1, c1, rfl, hb1, rb, -, -⟩
  replace HB := below_then HB hb1
  clear hb1
  go_wp2_with fail
  refine (dec_usual_no ⟨#[90, 109, 57, 118, 89, 104]⟩ _ (by decide) alive_d2).mono ?_
  rintro e w2 ⟨rfl, hb2⟩
  replace HB := below_then HB hb2
  replace rb := rb.below hb2
  clear hb2
  go_wp2_with fail
  refine (enc_usual _ [255] _ (rd_lit _ 1 rfl hm rfl) (by intro x hx; simp at hx; omega) (by simp)).mono ?_
  rintro e w3 ⟨rfl, hb3⟩
  rw [alive_e1]
  replace rb := (rb.below (below_alloc (Below.refl _ _) _)).below hb3
  replace HB := below_then (below_alloc HB _) hb3
  clear hb3
  go_wp2_with fail
  refine (enc_safe _ [255] _ (rd_lit _ 1 rfl hm rfl) (by intro x hx; simp at hx; omega) (by simp)).mono ?_
  rintro e w4 ⟨rfl, hb4⟩
  rw [alive_e2]
  replace rb := (rb.below (below_alloc (Below.refl _ _) _)).below hb4
  replace HB := below_then (below_alloc HB _) hb4
  clear hb4
  have hcv := run_conv_bs (P := Try.prog) 22 9 5 Try.underlying22 Try.underlying9 Try.underlying5 _ _ rb
  rw [show strOfNums [102, 111, 111, 98] = ⟨#[102, 111, 111, 98]⟩ by decide +kernel] at hcv
  simp only [List.length_cons, List.length_nil, Nat.reduceAdd] at hcv
  go_wp2
  go_ret
  exact ⟨rfl, HB⟩

set_option maxHeartbeats 1000000 in
theorem law_encodes04 (v : Value) (l : List Int) (n : Int) (w : World) (h : RdI .u8 w v l) (hb : Bytes l) (hn : (Lit.int .i64 n).wf = true) :
    Calls Try.prog 9 #[v, .int .i64 n] w fun e w' => e = .returned (.bool true) ∧ Below w.heap.size w w' := by
  have rb := h
  obtain ⟨p, cap, rfl, hla, hma, -, -⟩ := h
  unfold maxLen at hma
  by_cases g1 : 1500 < l.length
  · go_enter Try.func9, Try.ntmps9
    go_wp2_with (go_at_call 29; refine (alive04 _).mono ?_; rintro e w1 ⟨rfl, hb1⟩)
    go_ret
    exact ⟨rfl, hb1⟩
  have hlen : l.length ≤ 1000000 := by omega
  have HB := Below.refl w.heap.size w
  have hz : (((strL usualB (encL l)).size : Int) == sizeI l.length) = true := by
    rw [strL_size, encL_len l hb, sizeI_yes (by omega) (by omega)]
    rw [beq_iff_eq]
    omega
  go_enter Try.func9, Try.ntmps9
  go_wp2_with fail
  refine (alive04 _).mono ?_
  rintro e w1 ⟨rfl, hb1⟩
  replace rb := rb.below hb1
  replace HB := below_then HB hb1
  clear hb1
  go_wp2_with fail
  refine (enc_usual _ l _ rb hb hlen).mono ?_
  rintro e w2 ⟨rfl, hb2⟩
  replace rb := rb.below hb2
  replace HB := below_then HB hb2
  clear hb2
  go_wp2_with fail
  refine (ref_enc_usual _ l _ rb hb hlen).mono ?_
  rintro e w3 ⟨rfl, hb3⟩
  replace rb := rb.below hb3
  replace HB := below_then HB hb3
  clear hb3
  go_wp2_with fail
  refine (enc_safe _ l _ rb hb hlen).mono ?_
  rintro e w4 ⟨rfl, hb4⟩
  replace rb := rb.below hb4
  replace HB := below_then HB hb4
  clear hb4
  go_wp2_with fail
  refine (ref_enc_safe _ l _ rb hb hlen).mono ?_
  rintro e w5 ⟨rfl, hb5⟩
  replace rb := rb.below hb5
  replace HB := below_then HB hb5
  clear hb5
  go_wp2_with fail
  refine (size_any _ _).mono ?_
  rintro e w6 ⟨rfl, hw⟩
  obtain rfl := hw.symm
  clear hw
  go_wp2_with fail
  refine (ref_size_any _ _).mono ?_
  rintro e w6 ⟨rfl, hw⟩
  obtain rfl := hw.symm
  clear hw
  go_wp2_with fail
  refine (enc_usual _ l _ rb hb hlen).mono ?_
  rintro e w7 ⟨rfl, hb7⟩
  replace rb := rb.below hb7
  replace HB := below_then HB hb7
  clear hb7
  go_wp2_with fail
  refine (size_any _ _).mono ?_
  rintro e w6 ⟨rfl, hw⟩
  obtain rfl := hw.symm
  clear hw
  go_wp2
  go_ret
  exact ⟨rfl, HB⟩

set_option maxHeartbeats 1000000 in
theorem law_decodes04 (s : ByteArray) (w : World) (hs : s.size ≤ maxLen) :
    Calls Try.prog 10 #[.string s] w fun e w' => e = .returned (.bool true) ∧ Below w.heap.size w w' := by
  unfold maxLen at hs
  by_cases g1 : 2000 < s.size
  · go_enter Try.func10, Try.ntmps10
    go_wp2_with (go_at_call 29; refine (alive04 _).mono ?_; rintro e w1 ⟨rfl, hb1⟩)
    go_ret
    exact ⟨rfl, hb1⟩
  have hlen : s.size ≤ 1000000 := by omega
  have HB := Below.refl w.heap.size w
  cases hda : decT usualB s with
  | none =>
    cases hdb : decT safeB s with
    | none =>
      go_enter Try.func10, Try.ntmps10
      go_wp2_with fail
      refine (alive04 _).mono ?_
      rintro e w1 ⟨rfl, hb1⟩
      replace HB := below_then HB hb1
      clear hb1
      go_wp2_with fail
      refine (dec_usual_no s _ hlen hda).mono ?_
      rintro e w2 ⟨rfl, hb2⟩
      replace HB := below_then HB hb2
      clear hb2
      go_wp2_with fail
      refine (ref_dec_usual_no s _ hlen hda).mono ?_
      rintro e w3 ⟨rfl, hb3⟩
      replace HB := below_then HB hb3
      clear hb3
      go_wp2_with fail
      refine (dec_safe_no s _ hlen hdb).mono ?_
      rintro e w4 ⟨rfl, hb4⟩
      replace HB := below_then HB hb4
      clear hb4
      go_wp2_with fail
      refine (ref_dec_safe_no s _ hlen hdb).mono ?_
      rintro e w5 ⟨rfl, hb5⟩
      replace HB := below_then HB hb5
      clear hb5
      go_wp2_with fail
      refine (same_yes _ _ [] _ RdI.nil RdI.nil).mono ?_
      rintro e w6 ⟨rfl, hb6⟩
      replace HB := below_then HB hb6
      clear hb6
      go_wp2_with fail
      refine (same_yes _ _ [] _ RdI.nil RdI.nil).mono ?_
      rintro e w7 ⟨rfl, hb7⟩
      replace HB := below_then HB hb7
      clear hb7
      go_wp2
      go_ret
      exact ⟨rfl, HB⟩
    | some y =>
      go_enter Try.func10, Try.ntmps10
      go_wp2_with fail
      refine (alive04 _).mono ?_
      rintro e w1 ⟨rfl, hb1⟩
      replace HB := below_then HB hb1
      clear hb1
      go_wp2_with fail
      refine (dec_usual_no s _ hlen hda).mono ?_
      rintro e w2 ⟨rfl, hb2⟩
      replace HB := below_then HB hb2
      clear hb2
      go_wp2_with fail
      refine (ref_dec_usual_no s _ hlen hda).mono ?_
      rintro e w3 ⟨rfl, hb3⟩
      replace HB := below_then HB hb3
      clear hb3
      go_wp2_with fail
      refine (dec_safe_ok s y _ hlen hdb).mono ?_
      rintro e w4 ⟨a4, c4, rfl, hb4, rc, -, -⟩
      replace HB := below_then HB hb4
      clear hb4
      go_wp2_with fail
      refine (ref_dec_safe_ok s y _ hlen hdb).mono ?_
      rintro e w5 ⟨a5, c5, rfl, hb5, rd, -, -⟩
      replace rc := rc.below hb5
      replace HB := below_then HB hb5
      clear hb5
      go_wp2_with fail
      refine (same_yes _ _ [] _ RdI.nil RdI.nil).mono ?_
      rintro e w6 ⟨rfl, hb6⟩
      replace rc := rc.below hb6
      replace rd := rd.below hb6
      replace HB := below_then HB hb6
      clear hb6
      go_wp2_with fail
      refine (same_yes _ _ y _ rc rd).mono ?_
      rintro e w7 ⟨rfl, hb7⟩
      replace rc := rc.below hb7
      replace rd := rd.below hb7
      replace HB := below_then HB hb7
      clear hb7
      go_wp2
      go_ret
      exact ⟨rfl, HB⟩
  | some x =>
    cases hdb : decT safeB s with
    | none =>
      go_enter Try.func10, Try.ntmps10
      go_wp2_with fail
      refine (alive04 _).mono ?_
      rintro e w1 ⟨rfl, hb1⟩
      replace HB := below_then HB hb1
      clear hb1
      go_wp2_with fail
      refine (dec_usual_ok s x _ hlen hda).mono ?_
      rintro e w2 ⟨a2, c2, rfl, hb2, ra, -, -⟩
      replace HB := below_then HB hb2
      clear hb2
      go_wp2_with fail
      refine (ref_dec_usual_ok s x _ hlen hda).mono ?_
      rintro e w3 ⟨a3, c3, rfl, hb3, rb, -, -⟩
      replace ra := ra.below hb3
      replace HB := below_then HB hb3
      clear hb3
      go_wp2_with fail
      refine (dec_safe_no s _ hlen hdb).mono ?_
      rintro e w4 ⟨rfl, hb4⟩
      replace ra := ra.below hb4
      replace rb := rb.below hb4
      replace HB := below_then HB hb4
      clear hb4
      go_wp2_with fail
      refine (ref_dec_safe_no s _ hlen hdb).mono ?_
      rintro e w5 ⟨rfl, hb5⟩
      replace ra := ra.below hb5
      replace rb := rb.below hb5
      replace HB := below_then HB hb5
      clear hb5
      go_wp2_with fail
      refine (same_yes _ _ x _ ra rb).mono ?_
      rintro e w6 ⟨rfl, hb6⟩
      replace ra := ra.below hb6
      replace rb := rb.below hb6
      replace HB := below_then HB hb6
      clear hb6
      go_wp2_with fail
      refine (same_yes _ _ [] _ RdI.nil RdI.nil).mono ?_
      rintro e w7 ⟨rfl, hb7⟩
      replace ra := ra.below hb7
      replace rb := rb.below hb7
      replace HB := below_then HB hb7
      clear hb7
      go_wp2
      go_ret
      exact ⟨rfl, HB⟩
    | some y =>
      go_enter Try.func10, Try.ntmps10
      go_wp2_with fail
      refine (alive04 _).mono ?_
      rintro e w1 ⟨rfl, hb1⟩
      replace HB := below_then HB hb1
      clear hb1
      go_wp2_with fail
      refine (dec_usual_ok s x _ hlen hda).mono ?_
      rintro e w2 ⟨a2, c2, rfl, hb2, ra, -, -⟩
      replace HB := below_then HB hb2
      clear hb2
      go_wp2_with fail
      refine (ref_dec_usual_ok s x _ hlen hda).mono ?_
      rintro e w3 ⟨a3, c3, rfl, hb3, rb, -, -⟩
      replace ra := ra.below hb3
      replace HB := below_then HB hb3
      clear hb3
      go_wp2_with fail
      refine (dec_safe_ok s y _ hlen hdb).mono ?_
      rintro e w4 ⟨a4, c4, rfl, hb4, rc, -, -⟩
      replace ra := ra.below hb4
      replace rb := rb.below hb4
      replace HB := below_then HB hb4
      clear hb4
      go_wp2_with fail
      refine (ref_dec_safe_ok s y _ hlen hdb).mono ?_
      rintro e w5 ⟨a5, c5, rfl, hb5, rd, -, -⟩
      replace ra := ra.below hb5
      replace rb := rb.below hb5
      replace rc := rc.below hb5
      replace HB := below_then HB hb5
      clear hb5
      go_wp2_with fail
      refine (same_yes _ _ x _ ra rb).mono ?_
      rintro e w6 ⟨rfl, hb6⟩
      replace ra := ra.below hb6
      replace rb := rb.below hb6
      replace rc := rc.below hb6
      replace rd := rd.below hb6
      replace HB := below_then HB hb6
      clear hb6
      go_wp2_with fail
      refine (same_yes _ _ y _ rc rd).mono ?_
      rintro e w7 ⟨rfl, hb7⟩
      replace ra := ra.below hb7
      replace rb := rb.below hb7
      replace rc := rc.below hb7
      replace rd := rd.below hb7
      replace HB := below_then HB hb7
      clear hb7
      go_wp2
      go_ret
      exact ⟨rfl, HB⟩

set_option maxHeartbeats 1000000 in
theorem law_back04 (v : Value) (l : List Int) (s : ByteArray) (w : World) (h : RdI .u8 w v l) (hb : Bytes l) (hs : s.size ≤ maxLen) :
    Calls Try.prog 11 #[v, .string s] w fun e w' => e = .returned (.bool true) ∧ Below w.heap.size w w' := by
  have r0 := h
  obtain ⟨p, cap, rfl, hla, hma, -, -⟩ := h
  unfold maxLen at hma hs
  by_cases g1 : 3000 < l.length
  · go_enter Try.func11, Try.ntmps11
    go_wp2_with (go_at_call 29; refine (alive04 _).mono ?_; rintro e w1 ⟨rfl, hb1⟩)
    go_ret
    exact ⟨rfl, hb1⟩
  by_cases g2 : 3000 < s.size
  · go_enter Try.func11, Try.ntmps11
    go_wp2_with (go_at_call 29; refine (alive04 _).mono ?_; rintro e w1 ⟨rfl, hb1⟩)
    go_ret
    exact ⟨rfl, hb1⟩
  have hlen : l.length ≤ 1000000 := by omega
  have hlens : s.size ≤ 1000000 := by omega
  have HB := Below.refl w.heap.size w
  have hel := encL_len l hb
  have hsu : (strL usualB (encL l)).size ≤ 1000000 := by rw [strL_size]; omega
  have hss : (strL safeB (encL l)).size ≤ 1000000 := by rw [strL_size]; omega
  have hdu := decT_strL usualB usual_size usual_apart l hb
  have hds := decT_strL safeB safe_size safe_apart l hb
  have HS := Lib.hid (And.intro hsu (And.intro hss (And.intro hdu hds))); clear hsu hss hdu hds hel
  cases hda : decT usualB s with
  | none =>
    cases hdb : decT safeB s with
    | none =>
      go_enter Try.func11, Try.ntmps11
      go_wp2_with fail
      refine (alive04 _).mono ?_
      rintro e w1 ⟨rfl, hb1⟩
      replace r0 := r0.below hb1
      replace HB := below_then HB hb1
      clear hb1
      go_wp2_with fail
      refine (enc_usual _ l _ r0 hb hlen).mono ?_
      rintro e w2 ⟨rfl, hb2⟩
      replace r0 := r0.below hb2
      replace HB := below_then HB hb2
      clear hb2
      go_wp2_with fail
      refine (dec_usual_ok _ l _ HS.out.1 HS.out.2.2.1).mono ?_
      rintro e w3 ⟨a3, c3, rfl, hb3, r3, -, -⟩
      replace r0 := r0.below hb3
      replace HB := below_then HB hb3
      clear hb3
      go_wp2_with fail
      refine (enc_safe _ l _ r0 hb hlen).mono ?_
      rintro e w4 ⟨rfl, hb4⟩
      replace r0 := r0.below hb4
      replace r3 := r3.below hb4
      replace HB := below_then HB hb4
      clear hb4
      go_wp2_with fail
      refine (dec_safe_ok _ l _ HS.out.2.1 HS.out.2.2.2).mono ?_
      rintro e w5 ⟨a5, c5, rfl, hb5, r5, -, -⟩
      replace r0 := r0.below hb5
      replace r3 := r3.below hb5
      replace HB := below_then HB hb5
      clear hb5
      go_wp2_with fail
      refine (same_yes _ _ l _ r0 r3).mono ?_
      rintro e w6 ⟨rfl, hb6⟩
      replace r0 := r0.below hb6
      replace r5 := r5.below hb6
      replace HB := below_then HB hb6
      clear hb6
      go_wp2_with fail
      refine (same_yes _ _ l _ r0 r5).mono ?_
      rintro e w7 ⟨rfl, hb7⟩
      replace HB := below_then HB hb7
      clear hb7
      go_wp2_with fail
      refine (dec_usual_no s _ hlens hda).mono ?_
      rintro e w8 ⟨rfl, hb8⟩
      replace HB := below_then HB hb8
      clear hb8
      go_wp2_with fail
      refine (dec_safe_no s _ hlens hdb).mono ?_
      rintro e w9 ⟨rfl, hb9⟩
      replace HB := below_then HB hb9
      clear hb9
      go_wp2
      go_ret
      exact ⟨rfl, HB⟩
    | some y =>
      have hsa := strL_decT safeB s safe_size safe_apart y hdb
      go_enter Try.func11, Try.ntmps11
      go_wp2_with fail
      refine (alive04 _).mono ?_
      rintro e w1 ⟨rfl, hb1⟩
      replace r0 := r0.below hb1
      replace HB := below_then HB hb1
      clear hb1
      go_wp2_with fail
      refine (enc_usual _ l _ r0 hb hlen).mono ?_
      rintro e w2 ⟨rfl, hb2⟩
      replace r0 := r0.below hb2
      replace HB := below_then HB hb2
      clear hb2
      go_wp2_with fail
      refine (dec_usual_ok _ l _ HS.out.1 HS.out.2.2.1).mono ?_
      rintro e w3 ⟨a3, c3, rfl, hb3, r3, -, -⟩
      replace r0 := r0.below hb3
      replace HB := below_then HB hb3
      clear hb3
      go_wp2_with fail
      refine (enc_safe _ l _ r0 hb hlen).mono ?_
      rintro e w4 ⟨rfl, hb4⟩
      replace r0 := r0.below hb4
      replace r3 := r3.below hb4
      replace HB := below_then HB hb4
      clear hb4
      go_wp2_with fail
      refine (dec_safe_ok _ l _ HS.out.2.1 HS.out.2.2.2).mono ?_
      rintro e w5 ⟨a5, c5, rfl, hb5, r5, -, -⟩
      replace r0 := r0.below hb5
      replace r3 := r3.below hb5
      replace HB := below_then HB hb5
      clear hb5
      go_wp2_with fail
      refine (same_yes _ _ l _ r0 r3).mono ?_
      rintro e w6 ⟨rfl, hb6⟩
      replace r0 := r0.below hb6
      replace r5 := r5.below hb6
      replace HB := below_then HB hb6
      clear hb6
      go_wp2_with fail
      refine (same_yes _ _ l _ r0 r5).mono ?_
      rintro e w7 ⟨rfl, hb7⟩
      replace HB := below_then HB hb7
      clear hb7
      go_wp2_with fail
      refine (dec_usual_no s _ hlens hda).mono ?_
      rintro e w8 ⟨rfl, hb8⟩
      replace HB := below_then HB hb8
      clear hb8
      go_wp2_with fail
      refine (dec_safe_ok s y _ hlens hdb).mono ?_
      rintro e w9 ⟨a9, c9, rfl, hb9, r9, hby, hyl⟩
      replace HB := below_then HB hb9
      clear hb9
      go_wp2_with fail
      refine (enc_safe _ y _ r9 hby (by omega)).mono ?_
      rintro e wb ⟨rfl, hbb⟩
      rw [hsa]
      replace HB := below_then HB hbb
      clear hbb
      go_wp2
      go_ret
      exact ⟨rfl, HB⟩
  | some x =>
    cases hdb : decT safeB s with
    | none =>
      have hua := strL_decT usualB s usual_size usual_apart x hda
      go_enter Try.func11, Try.ntmps11
      go_wp2_with fail
      refine (alive04 _).mono ?_
      rintro e w1 ⟨rfl, hb1⟩
      replace r0 := r0.below hb1
      replace HB := below_then HB hb1
      clear hb1
      go_wp2_with fail
      refine (enc_usual _ l _ r0 hb hlen).mono ?_
      rintro e w2 ⟨rfl, hb2⟩
      replace r0 := r0.below hb2
      replace HB := below_then HB hb2
      clear hb2
      go_wp2_with fail
      refine (dec_usual_ok _ l _ HS.out.1 HS.out.2.2.1).mono ?_
      rintro e w3 ⟨a3, c3, rfl, hb3, r3, -, -⟩
      replace r0 := r0.below hb3
      replace HB := below_then HB hb3
      clear hb3
      go_wp2_with fail
      refine (enc_safe _ l _ r0 hb hlen).mono ?_
      rintro e w4 ⟨rfl, hb4⟩
      replace r0 := r0.below hb4
      replace r3 := r3.below hb4
      replace HB := below_then HB hb4
      clear hb4
      go_wp2_with fail
      refine (dec_safe_ok _ l _ HS.out.2.1 HS.out.2.2.2).mono ?_
      rintro e w5 ⟨a5, c5, rfl, hb5, r5, -, -⟩
      replace r0 := r0.below hb5
      replace r3 := r3.below hb5
      replace HB := below_then HB hb5
      clear hb5
      go_wp2_with fail
      refine (same_yes _ _ l _ r0 r3).mono ?_
      rintro e w6 ⟨rfl, hb6⟩
      replace r0 := r0.below hb6
      replace r5 := r5.below hb6
      replace HB := below_then HB hb6
      clear hb6
      go_wp2_with fail
      refine (same_yes _ _ l _ r0 r5).mono ?_
      rintro e w7 ⟨rfl, hb7⟩
      replace HB := below_then HB hb7
      clear hb7
      go_wp2_with fail
      refine (dec_usual_ok s x _ hlens hda).mono ?_
      rintro e w8 ⟨a8, c8, rfl, hb8, r8, hbx, hxl⟩
      replace HB := below_then HB hb8
      clear hb8
      go_wp2_with fail
      refine (dec_safe_no s _ hlens hdb).mono ?_
      rintro e w9 ⟨rfl, hb9⟩
      replace r8 := r8.below hb9
      replace HB := below_then HB hb9
      clear hb9
      go_wp2_with fail
      refine (enc_usual _ x _ r8 hbx (by omega)).mono ?_
      rintro e wa ⟨rfl, hba⟩
      rw [hua]
      replace HB := below_then HB hba
      clear hba
      go_wp2
      go_ret
      exact ⟨rfl, HB⟩
    | some y =>
      have hua := strL_decT usualB s usual_size usual_apart x hda
      have hsa := strL_decT safeB s safe_size safe_apart y hdb
      go_enter Try.func11, Try.ntmps11
      go_wp2_with fail
      refine (alive04 _).mono ?_
      rintro e w1 ⟨rfl, hb1⟩
      replace r0 := r0.below hb1
      replace HB := below_then HB hb1
      clear hb1
      go_wp2_with fail
      refine (enc_usual _ l _ r0 hb hlen).mono ?_
      rintro e w2 ⟨rfl, hb2⟩
      replace r0 := r0.below hb2
      replace HB := below_then HB hb2
      clear hb2
      go_wp2_with fail
      refine (dec_usual_ok _ l _ HS.out.1 HS.out.2.2.1).mono ?_
      rintro e w3 ⟨a3, c3, rfl, hb3, r3, -, -⟩
      replace r0 := r0.below hb3
      replace HB := below_then HB hb3
      clear hb3
      go_wp2_with fail
      refine (enc_safe _ l _ r0 hb hlen).mono ?_
      rintro e w4 ⟨rfl, hb4⟩
      replace r0 := r0.below hb4
      replace r3 := r3.below hb4
      replace HB := below_then HB hb4
      clear hb4
      go_wp2_with fail
      refine (dec_safe_ok _ l _ HS.out.2.1 HS.out.2.2.2).mono ?_
      rintro e w5 ⟨a5, c5, rfl, hb5, r5, -, -⟩
      replace r0 := r0.below hb5
      replace r3 := r3.below hb5
      replace HB := below_then HB hb5
      clear hb5
      go_wp2_with fail
      refine (same_yes _ _ l _ r0 r3).mono ?_
      rintro e w6 ⟨rfl, hb6⟩
      replace r0 := r0.below hb6
      replace r5 := r5.below hb6
      replace HB := below_then HB hb6
      clear hb6
      go_wp2_with fail
      refine (same_yes _ _ l _ r0 r5).mono ?_
      rintro e w7 ⟨rfl, hb7⟩
      replace HB := below_then HB hb7
      clear hb7
      go_wp2_with fail
      refine (dec_usual_ok s x _ hlens hda).mono ?_
      rintro e w8 ⟨a8, c8, rfl, hb8, r8, hbx, hxl⟩
      replace HB := below_then HB hb8
      clear hb8
      go_wp2_with fail
      refine (dec_safe_ok s y _ hlens hdb).mono ?_
      rintro e w9 ⟨a9, c9, rfl, hb9, r9, hby, hyl⟩
      replace r8 := r8.below hb9
      replace HB := below_then HB hb9
      clear hb9
      go_wp2_with fail
      refine (enc_usual _ x _ r8 hbx (by omega)).mono ?_
      rintro e wa ⟨rfl, hba⟩
      rw [hua]
      replace r9 := r9.below hba
      replace HB := below_then HB hba
      clear hba
      go_wp2_with fail
      refine (enc_safe _ y _ r9 hby (by omega)).mono ?_
      rintro e wb ⟨rfl, hbb⟩
      rw [hsa]
      replace HB := below_then HB hbb
      clear hbb
      go_wp2
      go_ret
      exact ⟨rfl, HB⟩
end Go.Proofs.Yticeogdagnogpaa
