/- Layer 5 (ids): events' names, the parts of names, a name of a sum. -/
import Derived.Test.YtibkkdbjmcongaaDoorIdsB
import Derived.Test.YtibkkdbjmcongaaDoorBaseCalls
namespace Go.Proofs.YtibkkdbjmcongaaDoor
open Go.RowKit
set_option linter.unusedVariables false

/-- All but the first byte. -/
def tailB (s : ByteArray) : ByteArray := ⟨(s.data.toList.drop 1).toArray⟩
theorem tailB_extract (s : ByteArray) : s.extract 1 s.size = tailB s := by
  have h := Lib.extract_to_end s 1
  rw [tailB, ← h]
theorem sb_tailB (s : ByteArray) : sb (tailB s) = (sb s).drop 1 := by rw [← tailB_extract, sb_tail]
def eventS (s : ByteArray) : Bool := decide (s.size = 44) && ((sb s).head? == some 36 && (decT safeB (tailB s)).isSome)
theorem dollar (s : ByteArray) : Lib.hasPrefix s.data.toList [36] = ((sb s).head? == some 36) := by
  have h36 : ∀ x : UInt8, (36 == x) = ((x.toNat : Int) == 36) := fun x => by rw [show (36 : Int) = ((36 : UInt8).toNat : Int) from rfl, toNat_beq]; exact Bool.beq_comm
  unfold Lib.hasPrefix sb
  cases s.data.toList with
  | nil => rfl
  | cons x l => simp [List.isPrefixOf, h36]
theorem cutp_yes (s : ByteArray) (w : World) (h : ((sb s).head? == some 36) = true) :
    Calls Tryd.prog 50 #[.string s, .string ⟨#[36]⟩] w fun e w' => e = .returned (.tuple #[.string (tailB s), .bool true]) ∧ w = w' := by
  refine (Tryd.strings_CutPrefix s ⟨#[36]⟩ w).mono ?_
  rintro e w' ⟨rfl, rfl⟩
  refine ⟨?_, rfl⟩
  have h1 : Lib.hasPrefix s.data.toList [36] = true := by rw [dollar, h]
  show Ending.returned (.tuple #[.string ⟨(Lib.trimPrefix s.data.toList [36]).toArray⟩, .bool (Lib.hasPrefix s.data.toList [36])]) = _
  rw [Lib.trimPrefix, h1]; rfl
theorem cutp_no (s : ByteArray) (w : World) (h : ((sb s).head? == some 36) = false) :
    Calls Tryd.prog 50 #[.string s, .string ⟨#[36]⟩] w fun e w' => e = .returned (.tuple #[.string s, .bool false]) ∧ w = w' := by
  refine (Tryd.strings_CutPrefix s ⟨#[36]⟩ w).mono ?_
  rintro e w' ⟨rfl, rfl⟩
  refine ⟨?_, rfl⟩
  have h1 : Lib.hasPrefix s.data.toList [36] = false := by rw [dollar, h]
  show Ending.returned (.tuple #[.string ⟨(Lib.trimPrefix s.data.toList [36]).toArray⟩, .bool (Lib.hasPrefix s.data.toList [36])]) = _
  rw [Lib.trimPrefix, h1]
  cases s; simp
theorem size_32 (w : World) : Calls Tryd.prog 51 #[.int .i64 32] w fun e w' => e = .returned (.int .i64 43) ∧ w = w' := by
  refine (size_any 32 w).mono ?_
  rintro e w' ⟨rfl, rfl⟩
  exact ⟨rfl, rfl⟩
theorem tailB_size (s : ByteArray) : (tailB s).size = s.size - 1 := by rw [← sb_length, sb_tailB, List.length_drop, sb_length]
set_option maxHeartbeats 400000 in
theorem event_any (s : ByteArray) (w : World) (hs : s.size ≤ 1000000) :
    Calls Tryd.prog 21 #[.string s] w fun e w' => e = .returned (.bool (eventS s)) ∧ Below w.heap.size w w' := by
  cases hd : ((sb s).head? == some 36)
  · have HF := Lib.hid (show eventS s = false by rw [eventS, hd]; simp)
    have HC := cutp_no s w hd
    clear hd
    go_enter Tryd.func21, Tryd.ntmps21
    go_wp2_with fail
    refine HC.mono ?_
    rintro e w' ⟨rfl, rfl⟩
    go_wp2
    go_ret
    exact ⟨by rw [HF.out]; rfl, Below.refl _ _⟩
  have HC := cutp_yes s w hd
  have hne : 0 < s.size := by
    rw [← sb_length]
    cases hq : sb s with
    | nil => rw [hq] at hd; cases hd
    | cons x l => simp
  have hts := tailB_size s
  by_cases h43 : s.size = 44
  · have hb : (((tailB s).size : Int) != 43) = false := by rw [hts, h43]; rfl
    have HT := Lib.hid hts; clear hts
    have hT : (tailB s).size ≤ 1000000 := by have := HT.out; omega
    cases hq : decT safeB (tailB s) with
    | none =>
      have HF := Lib.hid (show eventS s = false by rw [eventS, hd, hq]; simp)
      have HD := dec_safe_no (tailB s) w hT hq
      clear hd hq h43
      go_enter Tryd.func21, Tryd.ntmps21
      go_wp2_with fail
      refine HC.mono ?_
      rintro e w' ⟨rfl, rfl⟩
      go_wp2_with fail
      refine (size_32 _).mono ?_
      rintro e w' ⟨rfl, rfl⟩
      go_wp2_with fail
      refine HD.mono ?_
      rintro e w1 ⟨rfl, hb1⟩
      go_wp2
      go_ret
      exact ⟨by rw [HF.out]; rfl, hb1⟩
    | some bs =>
      have HF := Lib.hid (show eventS s = true by rw [eventS, hd, hq, h43]; rfl)
      have HD := dec_safe_ok (tailB s) bs w hT hq
      clear hd hq h43
      go_enter Tryd.func21, Tryd.ntmps21
      go_wp2_with fail
      refine HC.mono ?_
      rintro e w' ⟨rfl, rfl⟩
      go_wp2_with fail
      refine (size_32 _).mono ?_
      rintro e w' ⟨rfl, rfl⟩
      go_wp2_with fail
      refine HD.mono ?_
      rintro e w1 ⟨a1, c1, rfl, hb1, -⟩
      go_wp2
      go_ret
      exact ⟨by rw [HF.out]; rfl, hb1⟩
  · have hb : (((tailB s).size : Int) != 43) = true := by rw [bne_iff_ne, hts]; omega
    have HF := Lib.hid (show eventS s = false by rw [eventS, decide_eq_false h43]; rfl)
    clear hd hts h43
    go_enter Tryd.func21, Tryd.ntmps21
    go_wp2_with fail
    refine HC.mono ?_
    rintro e w' ⟨rfl, rfl⟩
    go_wp2_with fail
    refine (size_32 _).mono ?_
    rintro e w' ⟨rfl, rfl⟩
    go_wp2
    go_ret
    exact ⟨by rw [HF.out]; rfl, Below.refl _ _⟩
end Go.Proofs.YtibkkdbjmcongaaDoor
