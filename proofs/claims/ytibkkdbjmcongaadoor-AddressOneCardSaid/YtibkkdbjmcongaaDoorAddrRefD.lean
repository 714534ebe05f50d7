/- Layer 6 (address): the reference's email addresses. -/
import Derived.Test.YtibkkdbjmcongaaDoorAddrRefC
namespace Go.Proofs.YtibkkdbjmcongaaDoor
open Go.RowKit
set_option linter.unusedVariables false

def hasI (l : List Int) (c : Int) : Bool := l.contains c
theorem ref_has_any (s : ByteArray) (c : Int) (w : World) (hs : s.size ≤ maxLen) :
    Calls Tryd.prog 59 #[.string s, .int .u8 c] w fun e w' => e = .returned (.bool (hasI (sb s) c)) ∧ w = w' := by
  unfold maxLen at hs
  have HL := Lib.hid (sb_length s)
  go_enter Tryd.func59, Tryd.ntmps59
  go_wp2
  go_loop [5] (fun i => ∃ k : Nat, k ≤ s.size ∧ i = .int .i64 k ∧ ((sb s).take k).all (fun x => !(x == c)) = true) (fun i => s.size - (intOf i).toNat)
  case atStart => exact ⟨0, Nat.zero_le _, rfl, rfl⟩
  case round =>
    obtain ⟨k, hk, rfl, hall⟩ := hrel
    have H := Lib.hid hall; clear hall
    by_cases hlt : k < s.size
    · have hlk : k < (sb s).length := by have := HL.out; omega
      have hat := at0_sb s k hlt
      have HA := Lib.hid hat; clear hat
      by_cases hc : at0 (sb s) k = c
      · have hb : (((s[k]'hlt).toNat : Int) == c) = true := by rw [← HA.out, hc]; simp
        have HC := Lib.hid (show hasI (sb s) c = true by rw [hasI, List.contains_iff_mem, ← hc]; exact at0_mem hlk)
        clear hc
        go_wp2
        go_ret
        refine ⟨?_, rfl⟩
        rw [HC.out]; rfl
      · have hb : (((s[k]'hlt).toNat : Int) == c) = false := by rw [← HA.out, beq_eq_false_iff_ne]; exact hc
        have HC := Lib.hid hc; clear hc
        go_wp2
        go_round
        case rel =>
          refine ⟨k + 1, by omega, by go_num, ?_⟩
          rw [List.take_add_one, List.getElem?_eq_getElem hlk, List.all_append, H.out, Option.toList_some, ← at0_lt hlk]
          simp [HC.out]
        case measure => simp [intOf]; omega
    · go_wp2
      go_ret
      refine ⟨?_, rfl⟩
      have h := H.out
      rw [List.take_of_length_le (by have := HL.out; omega)] at h
      have : hasI (sb s) c = false := by
        unfold hasI
        cases hq : (sb s).contains c
        · rfl
        · rw [List.contains_iff_mem] at hq
          have := List.all_eq_true.1 h c hq
          simp at this
      rw [this]; rfl
theorem ref_has_is (s : ByteArray) (c : Int) (b : Bool) (w : World) (hs : s.size ≤ maxLen) (h : (sb s).contains c = b) :
    Calls Tryd.prog 59 #[.string s, .int .u8 c] w fun e w' => e = .returned (.bool b) ∧ w = w' := by rw [← h]; exact ref_has_any s c w hs

def sgsI (c : Int) : Bool := [33, 35, 36, 37, 38, 39, 42, 43, 47, 61, 63, 94, 95, 96, 123, 124, 125, 126, 45].contains c
def alnI (c : Int) : Bool := smlI c || grtI c || digI c
/-- May this byte stand in this place of a local part? -/
def lokB (l : List Int) (i : Nat) : Bool := if at0 l i = 46 then decide (0 < i) && (decide (i + 1 < l.length) && !(at0 l (i - 1) == 46)) else alnI (at0 l i) || sgsI (at0 l i)
theorem lsg_split (c : Int) : lsgI c = (c == 46 || sgsI c) := by
  simp only [lsgI, sgsI, List.contains_cons]
theorem local_iff (l : List Int) (h1 : 1 ≤ l.length) (h2 : l.length ≤ 64) : localL l = true ↔ ∀ i, i < l.length → lokB l i = true := by
  have hm : madeI l 64 locI = l.all locI := made_yes l 64 locI h1 (by omega)
  rw [localL, hm, pedgesI, head_at l (by omega), last_at l (by omega)]
  simp only [Bool.and_eq_true, List.all_eq_true, Bool.not_eq_true', Option.any_some]
  have hloc : ∀ c : Int, locI c = (c == 46 || (alnI c || sgsI c)) := fun c => by
    rw [locI, lsg_split, alnI]
    cases digI c <;> cases smlI c <;> cases grtI c <;> cases (c == 46) <;> cases sgsI c <;> rfl
  constructor
  · rintro ⟨ha, hd, h0, hl⟩ i hi
    have hc := ha _ (at0_mem hi)
    rw [hloc] at hc
    unfold lokB
    by_cases e : at0 l i = 46
    · rw [if_pos e]
      have hi0 : i ≠ 0 := by rintro rfl; rw [e] at h0; cases h0
      have hil : i + 1 ≠ l.length := by
        intro e2
        rw [show l.length - 1 = i by omega, e] at hl; cases hl
      have hp : at0 l (i - 1) ≠ 46 := by
        intro e2
        have : dotsI l = true := (dots_iff l).2 ⟨i - 1, by omega, e2, by rw [show i - 1 + 1 = i by omega]; exact e⟩
        rw [this] at hd; cases hd
      simp [hp]; omega
    · rw [if_neg e]
      have : (at0 l i == 46) = false := beq_eq_false_iff_ne.2 e
      rw [this] at hc
      simpa using hc
  · intro h
    have key : ∀ i, i < l.length → locI (at0 l i) = true ∧ (at0 l i = 46 → 0 < i ∧ i + 1 < l.length ∧ at0 l (i - 1) ≠ 46) := by
      intro i hi
      have := h i hi
      unfold lokB at this
      by_cases e : at0 l i = 46
      · rw [if_pos e] at this
        simp only [Bool.and_eq_true, decide_eq_true_eq, Bool.not_eq_true', beq_eq_false_iff_ne] at this
        refine ⟨?_, fun _ => ⟨this.1, this.2.1, this.2.2⟩⟩
        rw [hloc, e]; rfl
      · rw [if_neg e] at this
        refine ⟨?_, fun q => (e q).elim⟩
        rw [hloc, this]; simp
    refine ⟨fun x hx => ?_, ?_, ?_, ?_⟩
    · obtain ⟨j, hj, rfl⟩ := List.getElem_of_mem hx
      rw [← at0_lt hj]; exact (key j hj).1
    · cases hd : dotsI l
      · rfl
      · obtain ⟨j, j1, j2, j3⟩ := (dots_iff l).1 hd
        have := (key (j + 1) j1).2 j3
        exact (this.2.2 (by simpa using j2)).elim
    · cases hs : dotI (at0 l 0)
      · rfl
      · have := (key 0 (by omega)).2 (by simpa [dotI] using hs); omega
    · cases hs : dotI (at0 l (l.length - 1))
      · rfl
      · have := (key (l.length - 1) (by omega)).2 (by simpa [dotI] using hs); omega
/-- The first so many signs. -/
def sgl : List Int := sb ⟨#[33, 35, 36, 37, 38, 39, 42, 43, 47, 61, 63, 94, 95, 96, 123, 124, 125, 126, 45]⟩
theorem sgl_len : sgl.length = 19 := by decide
theorem sgl_all (c : Int) : (sgl.take 19).any (· == c) = sgsI c := by
  have : sgl.take 19 = [33, 35, 36, 37, 38, 39, 42, 43, 47, 61, 63, 94, 95, 96, 123, 124, 125, 126, 45] := by decide
  rw [this, sgsI, ← List.any_beq]
  simp only [List.any_cons, List.any_nil]
  have e : ∀ x : Int, (x == c) = (c == x) := fun x => Bool.beq_comm
  simp only [e]
theorem sgl_succ (c : Int) (k : Nat) (hk : k < 19) : (sgl.take (k + 1)).any (· == c) = ((sgl.take k).any (· == c) || (at0 sgl k == c)) := by
  have hl : k < sgl.length := by rw [sgl_len]; exact hk
  rw [List.take_add_one, List.getElem?_eq_getElem hl, List.any_append, Option.toList_some, ← at0_lt hl]
  simp
end Go.Proofs.YtibkkdbjmcongaaDoor
