/- Layer 6 (address): an address made, by the program and by the reference; an address right in one way. -/
import Derived.Test.YtibkkdbjmcongaaDoorAddrH
import Derived.Test.YtibkkdbjmcongaaDoorAddrF
namespace Go.Proofs.YtibkkdbjmcongaaDoor
open Go.RowKit
set_option linter.unusedVariables false

theorem ref_phone_empty_is (s : ByteArray) (r : Option (List Int)) (w : World) (hs : s.size ≤ 1000000) (hr : phoneS [] false false (sb s) = r) :
    Calls Tryd.prog 27 #[.string ⟨#[]⟩, .string s] w fun e w' => e = .returned (phoneVal r) ∧ Below w.heap.size w w' := by
  refine (ref_phone_empty s w hs country_empty).mono ?_
  intro e w' h
  rw [hr] at h
  cases r with
  | none => exact post_none h
  | some f => exact post_some h
theorem ref_email_yes (s : ByteArray) (w' : World) (hs : s.size ≤ 1000000) (hmb : mailB (trimI (sb s)) = true) :
    Calls Tryd.prog 25 #[.string s] w' fun e w'' => e = .returned (.tuple #[.string (lowS (trB s)), .int .i64 0]) ∧ Below w'.heap.size w' w'' := (ref_email_any s w' hs).mono fun e w'' h => by
  rcases h with ⟨_, h⟩ | ⟨h, _⟩
  · exact h
  · rw [hmb] at h; cases h
theorem ref_email_no (s : ByteArray) (w' : World) (hs : s.size ≤ 1000000) (hmb : mailB (trimI (sb s)) = false) :
    Calls Tryd.prog 25 #[.string s] w' fun e w'' => e = .returned (.tuple #[.string ⟨#[]⟩, .int .i64 2]) ∧ Below w'.heap.size w' w'' := (ref_email_any s w' hs).mono fun e w'' h => by
  rcases h with ⟨h, _⟩ | ⟨_, h⟩
  · rw [hmb] at h; cases h
  · exact h
/-- f makes of medium m and place s the address (p, q), with the number c. -/
def MakeIs (f : FuncId) (m s p q : ByteArray) (c : Int) : Prop := ∀ w, MaxC w → Calls Tryd.prog f #[.string m, .string s] w fun e w' => e = .returned (.tuple #[.agg #[.string p, .string q], .int .i64 c]) ∧ Below w.heap.size w w'
theorem make_mail_no' (s : ByteArray) (hs : s.size ≤ 1000000) (h : mailB (trimI (sb s)) = false) : MakeIs 28 ⟨#[101, 109, 97, 105, 108]⟩ s ⟨#[]⟩ ⟨#[]⟩ 2 := fun w hm => make_mail_no s w hm hs h
theorem make_mail_yes' (s : ByteArray) (hs : s.size ≤ 1000000) (h : mailB (trimI (sb s)) = true) : MakeIs 28 ⟨#[101, 109, 97, 105, 108]⟩ s ⟨#[101, 109, 97, 105, 108]⟩ (lowS (trB s)) 0 := fun w hm => make_mail_yes s w hm hs h
theorem make_other' (m s : ByteArray) (h1 : m ≠ ⟨#[101, 109, 97, 105, 108]⟩) (h2 : m ≠ ⟨#[109, 115, 105, 115, 100, 110]⟩) : MakeIs 28 m s ⟨#[]⟩ ⟨#[]⟩ 1 := fun w hm => make_other m s w h1 h2
set_option maxHeartbeats 1000000 in
theorem ref_make_other (m s : ByteArray) (h1 : m ≠ ⟨#[101, 109, 97, 105, 108]⟩) (h2 : m ≠ ⟨#[109, 115, 105, 115, 100, 110]⟩) : MakeIs 29 m s ⟨#[]⟩ ⟨#[]⟩ 1 := by
  intro w hm
  have b1 : (m.toList == [101, 109, 97, 105, 108]) = false := by
    have := list_ne h1
    rwa [ByteArray.toList_eq ⟨#[101, 109, 97, 105, 108]⟩] at this
  have b2 : (m.toList == [109, 115, 105, 115, 100, 110]) = false := by
    have := list_ne h2
    rwa [ByteArray.toList_eq ⟨#[109, 115, 105, 115, 100, 110]⟩] at this
  clear h1 h2
  go_enter Tryd.func29, Tryd.ntmps29
  go_wp2
  exact bodyPost_ret (v := .tuple #[.agg #[.string ⟨#[]⟩, .string ⟨#[]⟩], .int .i64 1]) (by simp [results, Tryd.results29, go_sem]) rfl ⟨rfl, (Below.refl _ _).alloc (Nat.le_refl _) _⟩

set_option maxHeartbeats 1000000 in
theorem ref_make_mail_no (s : ByteArray) (hs : s.size ≤ 1000000) (h : mailB (trimI (sb s)) = false) : MakeIs 29 ⟨#[101, 109, 97, 105, 108]⟩ s ⟨#[]⟩ ⟨#[]⟩ 2 := by
  intro w hm
  have HE : ∀ w', MaxC w' → _ := fun w' _ => ref_email_no s w' hs h
  clear h
  go_enter Tryd.func29, Tryd.ntmps29
  go_wp2_with fail
  refine (HE _ (hm.below ((Below.refl _ _).alloc (Nat.le_refl _) _))).mono ?_
  rintro e w1 ⟨rfl, hb1⟩
  obtain ⟨c0, c1, f0, f1, hz⟩ := two_cells hb1
  have HB := below_then ((Below.refl _ _).alloc (Nat.le_refl _) _) hb1
  clear hb1 HE
  go_wp2
  exact bodyPost_ret (v := .tuple #[.agg #[.string ⟨#[]⟩, .string ⟨#[]⟩], .int .i64 2]) (by simp [results, Tryd.results29, go_sem, c0, c1]) rfl ⟨rfl, (HB.setCell (Nat.le_refl _) _).setCell (Nat.le_refl _) _⟩

set_option maxHeartbeats 1000000 in
theorem ref_make_mail_yes (s : ByteArray) (hs : s.size ≤ 1000000) (F : ByteArray) (hF : lowS (trB s) = F) (h : mailB (trimI (sb s)) = true) : MakeIs 29 ⟨#[101, 109, 97, 105, 108]⟩ s ⟨#[101, 109, 97, 105, 108]⟩ F 0 := by
  intro w hm
  have HE : ∀ w', MaxC w' → _ := fun w' _ => ref_email_yes s w' hs h
  rw [hF] at HE
  clear h hF
  go_enter Tryd.func29, Tryd.ntmps29
  go_wp2_with fail
  refine (HE _ (hm.below ((Below.refl _ _).alloc (Nat.le_refl _) _))).mono ?_
  rintro e w1 ⟨rfl, hb1⟩
  obtain ⟨c0, c1, f0, f1, hz⟩ := two_cells hb1
  have HB := below_then ((Below.refl _ _).alloc (Nat.le_refl _) _) hb1
  clear hb1 HE
  go_wp2
  exact bodyPost_ret (v := .tuple #[.agg #[.string ⟨#[101, 109, 97, 105, 108]⟩, .string F], .int .i64 0]) (by simp [results, Tryd.results29, go_sem, c0, c1]) rfl ⟨rfl, (HB.setCell (Nat.le_refl _) _).setCell (Nat.le_refl _) _⟩

set_option maxHeartbeats 1000000 in
theorem make_phone_no (s : ByteArray) (hs : s.size ≤ 1000000) (h : phoneS [] false false (sb s) = none) : MakeIs 28 ⟨#[109, 115, 105, 115, 100, 110]⟩ s ⟨#[]⟩ ⟨#[]⟩ 2 := by
  intro w hm
  have HE : ∀ w', MaxC w' → _ := fun w' _ => phone_empty_is s none w' hs h
  clear h
  simp only [phoneVal] at HE
  go_enter Tryd.func28, Tryd.ntmps28
  go_wp2_with fail
  refine (HE _ (hm.below ((Below.refl _ _).alloc (Nat.le_refl _) _))).mono ?_
  rintro e w1 ⟨rfl, hb1⟩
  obtain ⟨c0, c1, f0, f1, hz⟩ := two_cells hb1
  have HB := below_then ((Below.refl _ _).alloc (Nat.le_refl _) _) hb1
  clear hb1 HE
  go_wp2
  exact bodyPost_ret (v := .tuple #[.agg #[.string ⟨#[]⟩, .string ⟨#[]⟩], .int .i64 2]) (by simp [results, Tryd.results28, go_sem, c0, c1]) rfl ⟨rfl, (HB.setCell (Nat.le_refl _) _).setCell (Nat.le_refl _) _⟩

set_option maxHeartbeats 1000000 in
theorem make_phone_yes (s : ByteArray) (hs : s.size ≤ 1000000) (f : List Int) (F : ByteArray) (hF : strOfNums f = F) (h : phoneS [] false false (sb s) = some f) : MakeIs 28 ⟨#[109, 115, 105, 115, 100, 110]⟩ s ⟨#[109, 115, 105, 115, 100, 110]⟩ F 0 := by
  intro w hm
  have HE : ∀ w', MaxC w' → _ := fun w' _ => phone_empty_is s (some f) w' hs h
  clear h
  simp only [phoneVal] at HE
  rw [hF] at HE
  clear hF
  go_enter Tryd.func28, Tryd.ntmps28
  go_wp2_with fail
  refine (HE _ (hm.below ((Below.refl _ _).alloc (Nat.le_refl _) _))).mono ?_
  rintro e w1 ⟨rfl, hb1⟩
  obtain ⟨c0, c1, f0, f1, hz⟩ := two_cells hb1
  have HB := below_then ((Below.refl _ _).alloc (Nat.le_refl _) _) hb1
  clear hb1 HE
  go_wp2
  exact bodyPost_ret (v := .tuple #[.agg #[.string ⟨#[109, 115, 105, 115, 100, 110]⟩, .string F], .int .i64 0]) (by simp [results, Tryd.results28, go_sem, c0, c1]) rfl ⟨rfl, (HB.setCell (Nat.le_refl _) _).setCell (Nat.le_refl _) _⟩

set_option maxHeartbeats 1000000 in
theorem ref_make_phone_no (s : ByteArray) (hs : s.size ≤ 1000000) (h : phoneS [] false false (sb s) = none) : MakeIs 29 ⟨#[109, 115, 105, 115, 100, 110]⟩ s ⟨#[]⟩ ⟨#[]⟩ 2 := by
  intro w hm
  have HE : ∀ w', MaxC w' → _ := fun w' _ => ref_phone_empty_is s none w' hs h
  clear h
  simp only [phoneVal] at HE
  go_enter Tryd.func29, Tryd.ntmps29
  go_wp2_with fail
  refine (HE _ (hm.below ((Below.refl _ _).alloc (Nat.le_refl _) _))).mono ?_
  rintro e w1 ⟨rfl, hb1⟩
  obtain ⟨c0, c1, f0, f1, hz⟩ := two_cells hb1
  have HB := below_then ((Below.refl _ _).alloc (Nat.le_refl _) _) hb1
  clear hb1 HE
  go_wp2
  exact bodyPost_ret (v := .tuple #[.agg #[.string ⟨#[]⟩, .string ⟨#[]⟩], .int .i64 2]) (by simp [results, Tryd.results29, go_sem, c0, c1]) rfl ⟨rfl, (HB.setCell (Nat.le_refl _) _).setCell (Nat.le_refl _) _⟩

set_option maxHeartbeats 1000000 in
theorem ref_make_phone_yes (s : ByteArray) (hs : s.size ≤ 1000000) (f : List Int) (F : ByteArray) (hF : strOfNums f = F) (h : phoneS [] false false (sb s) = some f) : MakeIs 29 ⟨#[109, 115, 105, 115, 100, 110]⟩ s ⟨#[109, 115, 105, 115, 100, 110]⟩ F 0 := by
  intro w hm
  have HE : ∀ w', MaxC w' → _ := fun w' _ => ref_phone_empty_is s (some f) w' hs h
  clear h
  simp only [phoneVal] at HE
  rw [hF] at HE
  clear hF
  go_enter Tryd.func29, Tryd.ntmps29
  go_wp2_with fail
  refine (HE _ (hm.below ((Below.refl _ _).alloc (Nat.le_refl _) _))).mono ?_
  rintro e w1 ⟨rfl, hb1⟩
  obtain ⟨c0, c1, f0, f1, hz⟩ := two_cells hb1
  have HB := below_then ((Below.refl _ _).alloc (Nat.le_refl _) _) hb1
  clear hb1 HE
  go_wp2
  exact bodyPost_ret (v := .tuple #[.agg #[.string ⟨#[109, 115, 105, 115, 100, 110]⟩, .string F], .int .i64 0]) (by simp [results, Tryd.results29, go_sem, c0, c1]) rfl ⟨rfl, (HB.setCell (Nat.le_refl _) _).setCell (Nat.le_refl _) _⟩

/-- Both make the same. -/
theorem make_alike (m s : ByteArray) (hs : s.size ≤ 1000000) : ∃ (p q : ByteArray) (c : Int), MakeIs 28 m s p q c ∧ MakeIs 29 m s p q c ∧ (c = 0 ∨ c = 1 ∨ c = 2) := by
  by_cases h1 : m = ⟨#[101, 109, 97, 105, 108]⟩
  · subst h1
    cases h : mailB (trimI (sb s))
    · exact ⟨_, _, _, make_mail_no' s hs h, ref_make_mail_no s hs h, .inr (.inr rfl)⟩
    · exact ⟨_, _, _, make_mail_yes' s hs h, ref_make_mail_yes s hs _ rfl h, .inl rfl⟩
  by_cases h2 : m = ⟨#[109, 115, 105, 115, 100, 110]⟩
  · subst h2
    cases h : phoneS [] false false (sb s)
    · exact ⟨_, _, _, make_phone_no s hs h, ref_make_phone_no s hs h, .inr (.inr rfl)⟩
    · exact ⟨_, _, _, make_phone_yes s hs _ _ rfl h, ref_make_phone_yes s hs _ _ rfl h, .inl rfl⟩
  · exact ⟨_, _, _, make_other' m s h1 h2, ref_make_other m s h1 h2, .inr (.inl rfl)⟩
end Go.Proofs.YtibkkdbjmcongaaDoor
