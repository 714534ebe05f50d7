/- Layer 6 (address): the reference's countries; the law on telephone numbers. -/
import Derived.Test.YtibkkdbjmcongaaDoorAddrRefB
namespace Go.Proofs.YtibkkdbjmcongaaDoor
open Go.RowKit
set_option linter.unusedVariables false

theorem country_gb (w : World) : Calls Tryd.prog 63 #[.string ⟨#[71, 66]⟩] w fun e w' => e = .returned (.tuple #[.string (strOfNums [52, 52]), .bool true, .bool true]) ∧ w = w' := by
  go_enter Tryd.func63, Tryd.ntmps63
  go_wp2
  go_ret3
  exact ⟨rfl, rfl⟩
theorem country_us (w : World) : Calls Tryd.prog 63 #[.string ⟨#[85, 83]⟩] w fun e w' => e = .returned (.tuple #[.string (strOfNums [49]), .bool false, .bool true]) ∧ w = w' := by
  go_enter Tryd.func63, Tryd.ntmps63
  go_wp2
  go_ret3
  exact ⟨rfl, rfl⟩
theorem country_de (w : World) : Calls Tryd.prog 63 #[.string ⟨#[68, 69]⟩] w fun e w' => e = .returned (.tuple #[.string (strOfNums [52, 57]), .bool true, .bool true]) ∧ w = w' := by
  go_enter Tryd.func63, Tryd.ntmps63
  go_wp2
  go_ret3
  exact ⟨rfl, rfl⟩
theorem country_fr (w : World) : Calls Tryd.prog 63 #[.string ⟨#[70, 82]⟩] w fun e w' => e = .returned (.tuple #[.string (strOfNums [51, 51]), .bool true, .bool true]) ∧ w = w' := by
  go_enter Tryd.func63, Tryd.ntmps63
  go_wp2
  go_ret3
  exact ⟨rfl, rfl⟩
theorem country_ch (w : World) : Calls Tryd.prog 63 #[.string ⟨#[67, 72]⟩] w fun e w' => e = .returned (.tuple #[.string (strOfNums [52, 49]), .bool true, .bool true]) ∧ w = w' := by
  go_enter Tryd.func63, Tryd.ntmps63
  go_wp2
  go_ret3
  exact ⟨rfl, rfl⟩
theorem country_empty (w : World) : Calls Tryd.prog 63 #[.string ⟨#[]⟩] w fun e w' => e = .returned (.tuple #[.string ⟨#[]⟩, .bool false, .bool true]) ∧ w = w' := by
  go_enter Tryd.func63, Tryd.ntmps63
  go_wp2
  go_ret3
  exact ⟨rfl, rfl⟩
theorem list_ne {a b : ByteArray} (h : a ≠ b) : (a.toList == b.toList) = false := str_eq_no h
theorem nonempty_str {a : ByteArray} (h : a ≠ ⟨#[]⟩) : a.toList.isEmpty = false ∧ (a.toList == []) = false := by
  have hb0 : a.toList.isEmpty = false := by
    rw [ByteArray.toList_eq]
    cases hq : a.data.toList with
    | nil =>
      exfalso; apply h
      apply sb_inj
      simp [sb, hq]
    | cons x r => rfl
  refine ⟨hb0, ?_⟩
  cases hq : a.toList with
  | nil => rw [hq] at hb0; cases hb0
  | cons x r => rfl
theorem country_none (land : ByteArray) (w : World) (h0 : land ≠ ⟨#[]⟩) (h1 : land ≠ gbB) (h2 : land ≠ usB) (h3 : land ≠ deB) (h4 : land ≠ frB) (h5 : land ≠ chB) :
    Calls Tryd.prog 63 #[.string land] w fun e w' => e = .returned (.tuple #[.string ⟨#[]⟩, .bool false, .bool false]) ∧ w = w' := by
  have b1 : (land.toList == [71, 66]) = false := by
    have := list_ne h1
    rwa [ByteArray.toList_eq gbB] at this
  have b2 : (land.toList == [85, 83]) = false := by
    have := list_ne h2
    rwa [ByteArray.toList_eq usB] at this
  have b3 : (land.toList == [68, 69]) = false := by
    have := list_ne h3
    rwa [ByteArray.toList_eq deB] at this
  have b4 : (land.toList == [70, 82]) = false := by
    have := list_ne h4
    rwa [ByteArray.toList_eq frB] at this
  have b5 : (land.toList == [67, 72]) = false := by
    have := list_ne h5
    rwa [ByteArray.toList_eq chB] at this
  obtain ⟨b6, b7⟩ := nonempty_str h0
  clear h0 h1 h2 h3 h4 h5
  go_enter Tryd.func63, Tryd.ntmps63
  go_wp2
  go_ret3
  exact ⟨rfl, rfl⟩
theorem ref_phone_none (land s : ByteArray) (w : World) (h0 : land ≠ ⟨#[]⟩) (h1 : land ≠ gbB) (h2 : land ≠ usB) (h3 : land ≠ deB) (h4 : land ≠ frB) (h5 : land ≠ chB) :
    Calls Tryd.prog 27 #[.string land, .string s] w fun e w' => e = .returned (.tuple #[.string ⟨#[]⟩, .int .i64 7]) ∧ w = w' := by
  have HC := country_none land w h0 h1 h2 h3 h4 h5
  clear h0 h1 h2 h3 h4 h5
  go_enter Tryd.func27, Tryd.ntmps27
  go_wp2_with fail
  refine HC.mono ?_
  rintro e w' ⟨rfl, rfl⟩
  go_wp2
  go_ret2
  exact ⟨rfl, rfl⟩
/-- Both phones answer alike. -/
def Alike (land s : ByteArray) : Prop := ∃ V : Value, (∃ (x : ByteArray) (n : Int), V = .tuple #[.string x, .int .i64 n]) ∧ (∀ w, Calls Tryd.prog 26 #[.string land, .string s] w fun e w' => e = .returned V ∧ Below w.heap.size w w') ∧ (∀ w, Calls Tryd.prog 27 #[.string land, .string s] w fun e w' => e = .returned V ∧ Below w.heap.size w w')
theorem alike_of (land s : ByteArray) (r : Option (List Int)) (h1 : ∀ w, Calls Tryd.prog 26 #[.string land, .string s] w (PhonePost r w.heap.size w)) (h2 : ∀ w, Calls Tryd.prog 27 #[.string land, .string s] w (PhonePost r w.heap.size w)) : Alike land s := by
  cases r with
  | none => exact ⟨_, ⟨_, _, rfl⟩, fun w => (h1 w).mono fun e w' h => post_none h, fun w => (h2 w).mono fun e w' h => post_none h⟩
  | some f => exact ⟨_, ⟨_, _, rfl⟩, fun w => (h1 w).mono fun e w' h => post_some h, fun w => (h2 w).mono fun e w' h => post_some h⟩
theorem phones_alike (land s : ByteArray) (hs : s.size ≤ 1000000) : Alike land s := by
  by_cases h0 : land = ⟨#[]⟩
  · subst h0
    exact alike_of _ s _ (fun w => phone_empty s w hs) (fun w => ref_phone_empty s w hs country_empty)
  by_cases h1 : land = gbB
  · subst h1
    exact alike_of _ s _ (fun w => phone_gb s w hs) (fun w => ref_phone_known _ [52, 52] true s w hs (by decide) (by decide) (by rw [ByteArray.toList_eq]; rfl) (by rw [ByteArray.toList_eq]; rfl) country_gb)
  by_cases h2 : land = usB
  · subst h2
    exact alike_of _ s _ (fun w => phone_us s w hs) (fun w => ref_phone_known _ [49] false s w hs (by decide) (by decide) (by rw [ByteArray.toList_eq]; rfl) (by rw [ByteArray.toList_eq]; rfl) country_us)
  by_cases h3 : land = deB
  · subst h3
    exact alike_of _ s _ (fun w => phone_de s w hs) (fun w => ref_phone_known _ [52, 57] true s w hs (by decide) (by decide) (by rw [ByteArray.toList_eq]; rfl) (by rw [ByteArray.toList_eq]; rfl) country_de)
  by_cases h4 : land = frB
  · subst h4
    exact alike_of _ s _ (fun w => phone_fr s w hs) (fun w => ref_phone_known _ [51, 51] true s w hs (by decide) (by decide) (by rw [ByteArray.toList_eq]; rfl) (by rw [ByteArray.toList_eq]; rfl) country_fr)
  by_cases h5 : land = chB
  · subst h5
    exact alike_of _ s _ (fun w => phone_ch s w hs) (fun w => ref_phone_known _ [52, 49] true s w hs (by decide) (by decide) (by rw [ByteArray.toList_eq]; rfl) (by rw [ByteArray.toList_eq]; rfl) country_ch)
  refine ⟨_, ⟨_, _, rfl⟩, fun w => phone_none land s w h0 (find_none land h1 h2 h3 h4 h5), fun w => ?_⟩
  refine (ref_phone_none land s w h0 h1 h2 h3 h4 h5).mono ?_
  rintro e w' ⟨rfl, rfl⟩
  exact ⟨rfl, Below.refl _ _⟩
set_option maxHeartbeats 1000000 in
theorem law_phones (land s : ByteArray) (w : World) (hm : MaxC w) (hl : land.size ≤ maxLen) (hs : s.size ≤ maxLen) :
    Calls Tryd.prog 7 #[.string land, .string s] w fun e w' => e = .returned (.bool true) ∧ Below w.heap.size w w' := by
  by_cases h2 : 2000 < s.size
  · unfold maxLen at hs hl
    go_enter Tryd.func7, Tryd.ntmps7
    go_wp2_with fail
    refine (alive06 w hm).mono ?_
    rintro e w1 ⟨rfl, hb1⟩
    go_wp2
    go_ret
    exact ⟨rfl, hb1⟩
  have hs2 : s.size ≤ 2000 := by omega
  obtain ⟨V, ⟨x, n, rfl⟩, P1, P2⟩ := phones_alike land s (by omega)
  have hx := str_eq_yes (rfl : x = x)
  clear hs hl h2
  go_enter Tryd.func7, Tryd.ntmps7
  go_wp2_with fail
  refine (alive06 w hm).mono ?_
  rintro e w1 ⟨rfl, hb1⟩
  go_wp2_with fail
  refine (P1 _).mono ?_
  rintro e w2 ⟨rfl, hb2⟩
  go_wp2_with fail
  refine (P2 _).mono ?_
  rintro e w3 ⟨rfl, hb3⟩
  go_wp2
  go_ret
  exact ⟨rfl, below_then (below_then hb1 hb2) hb3⟩
end Go.Proofs.YtibkkdbjmcongaaDoor
