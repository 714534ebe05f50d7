/- Layer 5 (ids): the reference's names of users and rooms. -/
import Derived.Test.YtibkkdbjmcongaaDoorIdsRefC
import Derived.IntWalk
namespace Go.Proofs.YtibkkdbjmcongaaDoor
open Go.RowKit
set_option linter.unusedVariables false

theorem ref_server_is (s : ByteArray) (b : Bool) (w : World) (hs : s.size ≤ 1000000) (h : serverL (sb s) = b) :
    Calls Tryd.prog 16 #[.string s] w fun e w' => e = .returned (.bool b) ∧ w = w' := by
  rw [← h]; exact ref_server_any s w hs
def pokB (l : List Int) (sigil : Int) : Bool := decide (l.length ≤ 255) && (l.head? == some sigil && serverL ((l.drop 1).drop (colI (l.drop 1) + 1)))
theorem named_pok (l : List Int) (sigil most : Int) (K : Int → Bool) : namedL l sigil most K = (pokB l sigil && madeI ((l.drop 1).take (colI (l.drop 1))) most K) := by
  rw [namedL, pokB]
  cases decide (l.length ≤ 255) <;> cases (l.head? == some sigil) <;> cases serverL ((l.drop 1).drop (colI (l.drop 1) + 1)) <;> cases madeI ((l.drop 1).take (colI (l.drop 1))) most K <;> rfl
theorem col_tail {l : List Int} {c : Int} (h : l.head? = some c) (hc : c ≠ 58) : colI l = colI (l.drop 1) + 1 := by
  cases l with
  | nil => cases h
  | cons x r =>
    simp only [List.head?_cons, Option.some.injEq] at h
    subst h
    unfold colI
    rw [List.findIdx_cons]
    have : (x == 58) = false := by rw [beq_eq_false_iff_ne]; exact hc
    rw [this]; rfl
theorem server_nil : serverL [] = false := by decide
def PartsOk (l : List Int) (B : Nat) (w : World) (e : Ending) (w' : World) : Prop :=
  ∃ a b : ByteArray, (sb a = (l.drop 1).take (colI (l.drop 1)) ∧ sb b = (l.drop 1).drop (colI (l.drop 1) + 1)) ∧ e = .returned (.tuple #[.string a, .string b, .bool true]) ∧ Below B w w'
set_option maxHeartbeats 1000000 in
theorem ref_parts_64_no (s : ByteArray) (w : World) (hs : s.size ≤ 1000000) (h : pokB (sb s) 64 = false) :
    Calls Tryd.prog 46 #[.string s, .int .u8 64] w fun e w' => e = .returned (.tuple #[.string ⟨#[]⟩, .string ⟨#[]⟩, .bool false]) ∧ w = w' := by
  have hl := sb_length s
  have hs' : s.size ≤ maxLen := by unfold maxLen; omega
  by_cases h2 : s.size = 0
  · have hb : ((s.size : Int) == 0) = true := by rw [h2]; rfl
    clear h2 h hl
    go_enter Tryd.func46, Tryd.ntmps46
    go_wp2
    go_ret3
    exact ⟨rfl, rfl⟩
  have hb : ((s.size : Int) == 0) = false := by rw [beq_eq_false_iff_ne]; omega
  by_cases h1 : 255 < s.size
  · clear h2 h hl
    go_enter Tryd.func46, Tryd.ntmps46
    go_wp2
    go_ret3
    exact ⟨rfl, rfl⟩
  have h2' : 0 < s.size := by omega
  have hat := at0_sb s 0 h2'
  have hh := head_at (sb s) (by omega)
  have h255 : s.size ≤ 255 := by omega
  by_cases h3 : at0 (sb s) 0 = 64
  rotate_left
  · have hn : (((s[0]'h2').toNat : Int) != 64) = true := by rw [← hat, bne_iff_ne]; exact h3
    clear h2 h hl hat hh h3
    go_enter Tryd.func46, Tryd.ntmps46
    go_wp2
    go_ret3
    exact ⟨rfl, rfl⟩
  have hn : (((s[0]'h2').toNat : Int) != 64) = false := by rw [← hat, h3]; rfl
  rw [h3] at hh
  have hct := col_tail hh (by decide)
  rw [pokB, hh, decide_eq_true (show (sb s).length ≤ 255 by omega)] at h
  have hsf : serverL ((sb s).drop (colI (sb s) + 1)) = false := by
    rw [hct]
    rw [List.drop_drop] at h
    rw [show colI ((sb s).drop 1) + 1 + 1 = 1 + (colI ((sb s).drop 1) + 1) by omega]
    simpa using h
  by_cases hc : colI (sb s) < (sb s).length
  rotate_left
  · have HC := ref_colon_no s w hs' hc
    clear h2 h hl hat hh h3 hct hsf hc
    go_enter Tryd.func46, Tryd.ntmps46
    go_wp2_with fail
    refine HC.mono ?_
    rintro e w' ⟨rfl, rfl⟩
    go_wp2
    go_ret3
    exact ⟨rfl, rfl⟩
  have HC := ref_colon_yes s w hs' hc
  have ht := sb_tail s (colI (sb s) + 1)
  rw [← ht] at hsf
  have hts : (s.extract (colI (sb s) + 1) s.size).size ≤ 1000000 := size_of_sb ht (by rw [List.length_drop]; omega)
  have HS := ref_server_is _ false w hts hsf
  clear h2 h hat hh h3 hct hsf ht
  generalize colI (sb s) = k at *
  rw [hl] at hc
  have hk1 : (k : Int) + 1 ≤ s.size := by omega
  have hk0 : decide ((k : Int) < 0) = false := by simp
  clear hl
  go_enter Tryd.func46, Tryd.ntmps46
  go_wp2_with fail
  refine HC.mono ?_
  rintro e w' ⟨rfl, rfl⟩
  go_wp2_with fail
  refine HS.mono ?_
  rintro e w' ⟨rfl, rfl⟩
  go_wp2
  go_ret3
  exact ⟨rfl, rfl⟩
set_option maxHeartbeats 1000000 in
theorem ref_parts_64_yes (s : ByteArray) (w : World) (hs : s.size ≤ 1000000) (h : pokB (sb s) 64 = true) :
    Calls Tryd.prog 46 #[.string s, .int .u8 64] w (PartsOk (sb s) w.heap.size w) := by
  have hl := sb_length s
  have hs' : s.size ≤ maxLen := by unfold maxLen; omega
  simp only [pokB, Bool.and_eq_true, decide_eq_true_eq, beq_iff_eq] at h
  obtain ⟨h255, hh, hsv⟩ := h
  have h2' : 0 < s.size := by
    rw [← hl]
    cases hq : sb s with
    | nil => rw [hq] at hh; cases hh
    | cons x r => simp
  have hb : ((s.size : Int) == 0) = false := by rw [beq_eq_false_iff_ne]; omega
  have hat := at0_sb s 0 h2'
  have hh2 := head_at (sb s) (by omega)
  rw [hh] at hh2
  have h3 : at0 (sb s) 0 = 64 := (Option.some.inj hh2).symm
  have hn : (((s[0]'h2').toNat : Int) != 64) = false := by rw [← hat, h3]; rfl
  have hct := col_tail hh (by decide)
  rw [List.drop_drop, show 1 + (colI ((sb s).drop 1) + 1) = colI (sb s) + 1 by omega] at hsv
  have hc : colI (sb s) < (sb s).length := by
    rcases Nat.lt_or_ge (colI (sb s)) (sb s).length with q | q
    · exact q
    · rw [List.drop_of_length_le (by omega), server_nil] at hsv; cases hsv
  have HC := ref_colon_yes s w hs' hc
  have ht := sb_tail s (colI (sb s) + 1)
  rw [← ht] at hsv
  have hts : (s.extract (colI (sb s) + 1) s.size).size ≤ 1000000 := size_of_sb ht (by rw [List.length_drop]; omega)
  have HS := ref_server_is _ true w hts hsv
  have ha := sb_extract s 1 (colI (sb s))
  have hfa : ((sb s).drop 1).take (colI ((sb s).drop 1)) = ((sb s).take (colI (sb s))).drop 1 := by rw [hct, List.drop_take]; rfl
  have hfb : ((sb s).drop 1).drop (colI ((sb s).drop 1) + 1) = (sb s).drop (colI (sb s) + 1) := by rw [List.drop_drop, hct, show 1 + (colI ((sb s).drop 1) + 1) = colI ((sb s).drop 1) + 1 + 1 by omega]
  rw [← ha] at hfa
  rw [← ht] at hfb
  have HA := Lib.hid hfa
  have HB := Lib.hid hfb
  have hk2 : 1 ≤ colI (sb s) := by omega
  clear hh hh2 h3 hct hsv hfa hfb ha ht hat
  generalize colI (sb s) = k at *
  rw [hl] at hc
  have hk1 : (k : Int) + 1 ≤ s.size := by omega
  have hk3 : (1 : Int) ≤ (k : Int) := by omega
  have hk4 : (k : Int) ≤ s.size := by omega
  have hk5 : (0 : Int) ≤ (k : Int) + 1 := by omega
  have hk6 : IntKind.i64.wrap ((k : Int) + 1) = (k : Int) + 1 := IntWalk.i64_in _ (by omega)
  have hk7 : ((k : Int) + 1).toNat = k + 1 := by omega
  have hk0 : decide ((k : Int) < 0) = false := by simp
  have HL := Lib.hid hl
  have H255 : s.size ≤ 255 := by omega
  clear hl h255
  go_enter Tryd.func46, Tryd.ntmps46
  go_wp2_with fail
  refine HC.mono ?_
  rintro e w' ⟨rfl, rfl⟩
  go_wp2_with fail
  refine HS.mono ?_
  rintro e w' ⟨rfl, rfl⟩
  go_wp2
  go_quiet (fail)
  go_wp2
  go_ret3
  exact ⟨_, _, ⟨HA.out.symm, HB.out.symm⟩, rfl, below_drewN (Below.refl _ _) _⟩
set_option maxHeartbeats 1000000 in
theorem ref_parts_33_no (s : ByteArray) (w : World) (hs : s.size ≤ 1000000) (h : pokB (sb s) 33 = false) :
    Calls Tryd.prog 46 #[.string s, .int .u8 33] w fun e w' => e = .returned (.tuple #[.string ⟨#[]⟩, .string ⟨#[]⟩, .bool false]) ∧ w = w' := by
  have hl := sb_length s
  have hs' : s.size ≤ maxLen := by unfold maxLen; omega
  by_cases h2 : s.size = 0
  · have hb : ((s.size : Int) == 0) = true := by rw [h2]; rfl
    clear h2 h hl
    go_enter Tryd.func46, Tryd.ntmps46
    go_wp2
    go_ret3
    exact ⟨rfl, rfl⟩
  have hb : ((s.size : Int) == 0) = false := by rw [beq_eq_false_iff_ne]; omega
  by_cases h1 : 255 < s.size
  · clear h2 h hl
    go_enter Tryd.func46, Tryd.ntmps46
    go_wp2
    go_ret3
    exact ⟨rfl, rfl⟩
  have h2' : 0 < s.size := by omega
  have hat := at0_sb s 0 h2'
  have hh := head_at (sb s) (by omega)
  have h255 : s.size ≤ 255 := by omega
  by_cases h3 : at0 (sb s) 0 = 33
  rotate_left
  · have hn : (((s[0]'h2').toNat : Int) != 33) = true := by rw [← hat, bne_iff_ne]; exact h3
    clear h2 h hl hat hh h3
    go_enter Tryd.func46, Tryd.ntmps46
    go_wp2
    go_ret3
    exact ⟨rfl, rfl⟩
  have hn : (((s[0]'h2').toNat : Int) != 33) = false := by rw [← hat, h3]; rfl
  rw [h3] at hh
  have hct := col_tail hh (by decide)
  rw [pokB, hh, decide_eq_true (show (sb s).length ≤ 255 by omega)] at h
  have hsf : serverL ((sb s).drop (colI (sb s) + 1)) = false := by
    rw [hct]
    rw [List.drop_drop] at h
    rw [show colI ((sb s).drop 1) + 1 + 1 = 1 + (colI ((sb s).drop 1) + 1) by omega]
    simpa using h
  by_cases hc : colI (sb s) < (sb s).length
  rotate_left
  · have HC := ref_colon_no s w hs' hc
    clear h2 h hl hat hh h3 hct hsf hc
    go_enter Tryd.func46, Tryd.ntmps46
    go_wp2_with fail
    refine HC.mono ?_
    rintro e w' ⟨rfl, rfl⟩
    go_wp2
    go_ret3
    exact ⟨rfl, rfl⟩
  have HC := ref_colon_yes s w hs' hc
  have ht := sb_tail s (colI (sb s) + 1)
  rw [← ht] at hsf
  have hts : (s.extract (colI (sb s) + 1) s.size).size ≤ 1000000 := size_of_sb ht (by rw [List.length_drop]; omega)
  have HS := ref_server_is _ false w hts hsf
  clear h2 h hat hh h3 hct hsf ht
  generalize colI (sb s) = k at *
  rw [hl] at hc
  have hk1 : (k : Int) + 1 ≤ s.size := by omega
  have hk0 : decide ((k : Int) < 0) = false := by simp
  clear hl
  go_enter Tryd.func46, Tryd.ntmps46
  go_wp2_with fail
  refine HC.mono ?_
  rintro e w' ⟨rfl, rfl⟩
  go_wp2_with fail
  refine HS.mono ?_
  rintro e w' ⟨rfl, rfl⟩
  go_wp2
  go_ret3
  exact ⟨rfl, rfl⟩
set_option maxHeartbeats 1000000 in
theorem ref_parts_33_yes (s : ByteArray) (w : World) (hs : s.size ≤ 1000000) (h : pokB (sb s) 33 = true) :
    Calls Tryd.prog 46 #[.string s, .int .u8 33] w (PartsOk (sb s) w.heap.size w) := by
  have hl := sb_length s
  have hs' : s.size ≤ maxLen := by unfold maxLen; omega
  simp only [pokB, Bool.and_eq_true, decide_eq_true_eq, beq_iff_eq] at h
  obtain ⟨h255, hh, hsv⟩ := h
  have h2' : 0 < s.size := by
    rw [← hl]
    cases hq : sb s with
    | nil => rw [hq] at hh; cases hh
    | cons x r => simp
  have hb : ((s.size : Int) == 0) = false := by rw [beq_eq_false_iff_ne]; omega
  have hat := at0_sb s 0 h2'
  have hh2 := head_at (sb s) (by omega)
  rw [hh] at hh2
  have h3 : at0 (sb s) 0 = 33 := (Option.some.inj hh2).symm
  have hn : (((s[0]'h2').toNat : Int) != 33) = false := by rw [← hat, h3]; rfl
  have hct := col_tail hh (by decide)
  rw [List.drop_drop, show 1 + (colI ((sb s).drop 1) + 1) = colI (sb s) + 1 by omega] at hsv
  have hc : colI (sb s) < (sb s).length := by
    rcases Nat.lt_or_ge (colI (sb s)) (sb s).length with q | q
    · exact q
    · rw [List.drop_of_length_le (by omega), server_nil] at hsv; cases hsv
  have HC := ref_colon_yes s w hs' hc
  have ht := sb_tail s (colI (sb s) + 1)
  rw [← ht] at hsv
  have hts : (s.extract (colI (sb s) + 1) s.size).size ≤ 1000000 := size_of_sb ht (by rw [List.length_drop]; omega)
  have HS := ref_server_is _ true w hts hsv
  have ha := sb_extract s 1 (colI (sb s))
  have hfa : ((sb s).drop 1).take (colI ((sb s).drop 1)) = ((sb s).take (colI (sb s))).drop 1 := by rw [hct, List.drop_take]; rfl
  have hfb : ((sb s).drop 1).drop (colI ((sb s).drop 1) + 1) = (sb s).drop (colI (sb s) + 1) := by rw [List.drop_drop, hct, show 1 + (colI ((sb s).drop 1) + 1) = colI ((sb s).drop 1) + 1 + 1 by omega]
  rw [← ha] at hfa
  rw [← ht] at hfb
  have HA := Lib.hid hfa
  have HB := Lib.hid hfb
  have hk2 : 1 ≤ colI (sb s) := by omega
  clear hh hh2 h3 hct hsv hfa hfb ha ht hat
  generalize colI (sb s) = k at *
  rw [hl] at hc
  have hk1 : (k : Int) + 1 ≤ s.size := by omega
  have hk3 : (1 : Int) ≤ (k : Int) := by omega
  have hk4 : (k : Int) ≤ s.size := by omega
  have hk5 : (0 : Int) ≤ (k : Int) + 1 := by omega
  have hk6 : IntKind.i64.wrap ((k : Int) + 1) = (k : Int) + 1 := IntWalk.i64_in _ (by omega)
  have hk7 : ((k : Int) + 1).toNat = k + 1 := by omega
  have hk0 : decide ((k : Int) < 0) = false := by simp
  have HL := Lib.hid hl
  have H255 : s.size ≤ 255 := by omega
  clear hl h255
  go_enter Tryd.func46, Tryd.ntmps46
  go_wp2_with fail
  refine HC.mono ?_
  rintro e w' ⟨rfl, rfl⟩
  go_wp2_with fail
  refine HS.mono ?_
  rintro e w' ⟨rfl, rfl⟩
  go_wp2
  go_quiet (fail)
  go_wp2
  go_ret3
  exact ⟨_, _, ⟨HA.out.symm, HB.out.symm⟩, rfl, below_drewN (Below.refl _ _) _⟩
end Go.Proofs.YtibkkdbjmcongaaDoor
