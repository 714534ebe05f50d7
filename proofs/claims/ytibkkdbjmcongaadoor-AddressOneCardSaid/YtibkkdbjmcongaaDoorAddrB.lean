/- Layer 6 (address): email addresses: the program's and the reference's answers. -/
import Derived.Test.YtibkkdbjmcongaaDoorAddrA
namespace Go.Proofs.YtibkkdbjmcongaaDoor
open Go.RowKit
set_option linter.unusedVariables false

theorem trimI_mem {l : List Int} {x : Int} (h : x ∈ trimI l) : x ∈ l := by
  unfold trimI at h
  have h1 := (List.dropWhile_sublist _).subset h
  rw [List.mem_reverse] at h1
  have h2 := (List.dropWhile_sublist _).subset h1
  rwa [List.mem_reverse] at h2
theorem trimI_len (l : List Int) : (trimI l).length ≤ l.length := by
  unfold trimI
  have h1 := dropWhile_len spI ((l.reverse.dropWhile spI).reverse)
  have h2 := dropWhile_len spI l.reverse
  rw [List.length_reverse] at h1 h2
  omega
/-- A text without blanks at both ends. -/
def trB (s : ByteArray) : ByteArray := strOfNums (trimI (sb s))
theorem sb_trB (s : ByteArray) : sb (trB s) = trimI (sb s) := sb_strOf fun x hx => sb_bytes s x (trimI_mem hx)
theorem trB_size (s : ByteArray) : (trB s).size ≤ s.size := by
  rw [← sb_length, sb_trB, ← sb_length s]; exact trimI_len _
theorem trimsp_is (s : ByteArray) (w : World) (hs : s.size ≤ 1000000) :
    Calls Tryd.prog 54 #[.string s, .string ⟨#[32]⟩] w fun e w' => e = .returned (.string (trB s)) ∧ Below w.heap.size w w' := by
  refine (trimsp_any s w hs).mono ?_
  rintro e w1 ⟨t, ht, rfl, hb⟩
  rw [sb_inj (ht.trans (sb_trB s).symm)]
  exact ⟨rfl, hb⟩
theorem cutat_any (s : ByteArray) (w : World) (hm : MaxC w) (hs : s.size ≤ 1000000) (q : Bool) (hq : decide (atI (sb s) < (sb s).length) = q) :
    Calls Tryd.prog 37 #[.string s, .string ⟨#[64]⟩] w fun e w' => ∃ a b : ByteArray, (sb a = (sb s).take (atI (sb s)) ∧ sb b = (sb s).drop (atI (sb s) + 1)) ∧ e = .returned (.tuple #[.string a, .string b, .bool q]) ∧ Below w.heap.size w w' := by
  obtain ⟨m, hm⟩ := hm
  obtain ⟨h1, h2, h3⟩ := cut_gen s 64
  refine (Tryd.strings_Cut s ⟨#[64]⟩ m w (by omega) hm).mono ?_
  rintro e w' ⟨rfl, n, rfl⟩
  exact ⟨_, _, ⟨h1, h2⟩, by rw [← hq, ← show _ = decide (atI (sb s) < (sb s).length) from h3], below_drewN (Below.refl _ _) n⟩
set_option maxHeartbeats 1000000 in
theorem email_no (s : ByteArray) (w : World) (hm : MaxC w) (hs : s.size ≤ 1000000) (h : mailB (trimI (sb s)) = false) :
    Calls Tryd.prog 24 #[.string s] w fun e w' => e = .returned (.tuple #[.string ⟨#[]⟩, .int .i64 2]) ∧ Below w.heap.size w w' := by
  have HT := trimsp_is s w hs
  have hts := trB_size s
  have hl := sb_length (trB s)
  rw [← sb_trB] at h
  generalize trB s = t at *
  cases hc : decide (atI (sb t) < (sb t).length)
  · have HC := fun w' (hm : MaxC w') => cutat_any t w' hm (by omega) false hc
    clear hc h hl
    go_enter Tryd.func24, Tryd.ntmps24
    go_wp2_with fail
    refine HT.mono ?_
    rintro e w1 ⟨rfl, hb1⟩
    have hm1 := hm.below hb1
    go_wp2_with fail
    refine (HC _ hm1).mono ?_
    rintro e w2 ⟨a, b, -, rfl, hb2⟩
    go_wp2
    go_ret2
    exact ⟨rfl, below_then hb1 hb2⟩
  have HC := fun w' (hm : MaxC w') => cutat_any t w' hm (by omega) true hc
  by_cases h254 : 254 < t.size
  · clear hc h hl
    go_enter Tryd.func24, Tryd.ntmps24
    go_wp2_with fail
    refine HT.mono ?_
    rintro e w1 ⟨rfl, hb1⟩
    have hm1 := hm.below hb1
    go_wp2_with fail
    refine (HC _ hm1).mono ?_
    rintro e w2 ⟨a, b, -, rfl, hb2⟩
    go_wp2
    go_ret2
    exact ⟨rfl, below_then hb1 hb2⟩
  have h' : localL ((sb t).take (atI (sb t))) = false ∨ domainL ((sb t).drop (atI (sb t) + 1)) = false := by
    rw [mailB, hc, decide_eq_true (show (sb t).length ≤ 254 by omega)] at h
    cases hx : localL ((sb t).take (atI (sb t)))
    · left; rfl
    · right; rw [hx] at h; simpa using h
  have h254' : (t.size : Int) ≤ 254 := by omega
  have HX := Lib.hid h'
  have HL := Lib.hid hl
  clear hc h hl h'
  go_enter Tryd.func24, Tryd.ntmps24
  go_wp2_with fail
  refine HT.mono ?_
  rintro e w1 ⟨rfl, hb1⟩
  have hm1 := hm.below hb1
  go_wp2_with fail
  refine (HC _ hm1).mono ?_
  rintro e w2 ⟨a, b, hab, rfl, hb2⟩
  have hm2 := hm1.below hb2
  have hx := HX.out
  have sa := size_of_sb (n := 1000000) hab.1 (by have := HL.out; rw [List.length_take]; omega)
  have sb' := size_of_sb (n := 1000000) hab.2 (by have := HL.out; rw [List.length_drop]; omega)
  rw [← hab.1, ← hab.2] at hx
  clear hab
  cases ha : localL (sb a)
  · have HA := local_is a false w2 hm2 sa ha
    clear ha hx
    go_wp2_with fail
    refine HA.mono ?_
    rintro e w3 ⟨rfl, hb3⟩
    go_wp2
    go_ret2
    exact ⟨rfl, below_then (below_then hb1 hb2) hb3⟩
  · have HA := local_is a true w2 hm2 sa ha
    have hb : domainL (sb b) = false := by
      rcases hx with h | h
      · rw [ha] at h; cases h
      · exact h
    have HB := fun w' (hm : MaxC w') => domain_is b false w' hm sb' hb
    clear ha hx hb
    go_wp2_with fail
    refine HA.mono ?_
    rintro e w3 ⟨rfl, hb3⟩
    have hm3 := hm2.below hb3
    go_wp2_with fail
    refine (HB _ hm3).mono ?_
    rintro e w4 ⟨rfl, hb4⟩
    go_wp2
    go_ret2
    exact ⟨rfl, below_then (below_then (below_then hb1 hb2) hb3) hb4⟩
set_option maxHeartbeats 1000000 in
theorem email_yes (s : ByteArray) (w : World) (hm : MaxC w) (hs : s.size ≤ 1000000) (h : mailB (trimI (sb s)) = true) :
    Calls Tryd.prog 24 #[.string s] w fun e w' => e = .returned (.tuple #[.string (lowS (trB s)), .int .i64 0]) ∧ Below w.heap.size w w' := by
  have HT := trimsp_is s w hs
  have hts := trB_size s
  have hl := sb_length (trB s)
  rw [← sb_trB] at h
  generalize trB s = t at *
  simp only [mailB, Bool.and_eq_true, decide_eq_true_eq] at h
  obtain ⟨h1, h2, h3, h4⟩ := h
  have HC := fun w' (hm : MaxC w') => cutat_any t w' hm (by omega) true (decide_eq_true h1)
  have h254' : (t.size : Int) ≤ 254 := by omega
  have HX := Lib.hid (And.intro h3 h4)
  have HL := Lib.hid hl
  clear h1 h2 h3 h4 hl
  go_enter Tryd.func24, Tryd.ntmps24
  go_wp2_with fail
  refine HT.mono ?_
  rintro e w1 ⟨rfl, hb1⟩
  have hm1 := hm.below hb1
  go_wp2_with fail
  refine (HC _ hm1).mono ?_
  rintro e w2 ⟨a, b, hab, rfl, hb2⟩
  have hm2 := hm1.below hb2
  have hx := HX.out
  have sa := size_of_sb (n := 1000000) hab.1 (by have := HL.out; rw [List.length_take]; omega)
  have sb' := size_of_sb (n := 1000000) hab.2 (by have := HL.out; rw [List.length_drop]; omega)
  rw [← hab.1, ← hab.2] at hx
  clear hab
  have HA := local_is a true w2 hm2 sa hx.1
  have HB := fun w' (hm : MaxC w') => domain_is b true w' hm sb' hx.2
  have HLo := fun w' => lower_any t w' (by unfold maxLen; omega)
  clear hx
  go_wp2_with fail
  refine HA.mono ?_
  rintro e w3 ⟨rfl, hb3⟩
  have hm3 := hm2.below hb3
  go_wp2_with fail
  refine (HB _ hm3).mono ?_
  rintro e w4 ⟨rfl, hb4⟩
  go_wp2_with fail
  refine (HLo _).mono ?_
  rintro e w5 ⟨rfl, hb5⟩
  go_wp2
  go_ret2
  exact ⟨rfl, below_then (below_then (below_then (below_then hb1 hb2) hb3) hb4) hb5⟩
end Go.Proofs.YtibkkdbjmcongaaDoor
