/- Layer 6 (address): the order of addresses, and their making. -/
import Derived.Test.YtibkkdbjmcongaaDoorAddrRefF
import Derived.Laws.StructEq
import Derived.WalkLawsBesides
namespace Go.Proofs.YtibkkdbjmcongaaDoor
open Go.RowKit
set_option linter.unusedVariables false

/-- Text a stands ahead of text b. -/
def ltB (a b : ByteArray) : Bool := Op.bytesLess a.toList b.toList
def lessS (m x n y : ByteArray) : Bool := if m = n then ltB x y else ltB m n
set_option maxHeartbeats 1000000 in
theorem less_any (m x n y : ByteArray) (w : World) :
    Calls Tryd.prog 33 #[.agg #[.string m, .string x], .agg #[.string n, .string y]] w fun e w' => e = .returned (.bool (lessS m x n y)) ∧ Below w.heap.size w w' := by
  by_cases h : m = n
  · have hb := str_eq_yes h
    have hb2 : (m.toList != n.toList) = false := by rw [bne, hb]; rfl
    have HF := Lib.hid (show lessS m x n y = ltB x y by rw [lessS, if_pos h])
    clear h
    go_enter Tryd.func33, Tryd.ntmps33
    go_wp2
    go_ret
    exact ⟨by rw [HF.out]; rfl, ((Below.refl _ _).alloc (Nat.le_refl _) _).alloc (by simp) _⟩
  · have hb := str_eq_no h
    have hb2 : (m.toList != n.toList) = true := by rw [bne, hb]; rfl
    have HF := Lib.hid (show lessS m x n y = ltB m n by rw [lessS, if_neg h])
    clear h
    go_enter Tryd.func33, Tryd.ntmps33
    go_wp2
    go_ret
    exact ⟨by rw [HF.out]; rfl, ((Below.refl _ _).alloc (Nat.le_refl _) _).alloc (by simp) _⟩
set_option maxHeartbeats 1000000 in
theorem make_other (m s : ByteArray) (w : World) (h1 : m ≠ ⟨#[101, 109, 97, 105, 108]⟩) (h2 : m ≠ ⟨#[109, 115, 105, 115, 100, 110]⟩) :
    Calls Tryd.prog 28 #[.string m, .string s] w fun e w' => e = .returned (.tuple #[.agg #[.string ⟨#[]⟩, .string ⟨#[]⟩], .int .i64 1]) ∧ Below w.heap.size w w' := by
  have b1 : (m.toList == [101, 109, 97, 105, 108]) = false := by
    have := list_ne h1
    rwa [ByteArray.toList_eq ⟨#[101, 109, 97, 105, 108]⟩] at this
  have b2 : (m.toList == [109, 115, 105, 115, 100, 110]) = false := by
    have := list_ne h2
    rwa [ByteArray.toList_eq ⟨#[109, 115, 105, 115, 100, 110]⟩] at this
  clear h1 h2
  go_enter Tryd.func28, Tryd.ntmps28
  go_wp2
  exact bodyPost_ret (v := .tuple #[.agg #[.string ⟨#[]⟩, .string ⟨#[]⟩], .int .i64 1]) (by simp [results, Tryd.results28, go_sem]) rfl ⟨rfl, (Below.refl _ _).alloc (Nat.le_refl _) _⟩
theorem bcell {W w1 : World} (hb : Below W.heap.size W w1) (b o : Nat) (h : b < W.heap.size) : w1.cell? ⟨b, o, none⟩ = W.cell? ⟨b, o, none⟩ ∧ w1.frozen? ⟨b, o, none⟩ = W.frozen? ⟨b, o, none⟩ :=
  ⟨hb.cell (p := ⟨b, o, none⟩) h, hb.frozen (p := ⟨b, o, none⟩) h⟩
/-- What is left of a call behind a new block of two texts. -/
theorem two_cells {w w1 : World} {a b : ByteArray} {t : TypeId} (hb : Below (w.alloc (.cells #[.string a, .string b] t)).heap.size (w.alloc (.cells #[.string a, .string b] t)) w1) :
    w1.cell? ⟨w.heap.size, 0, none⟩ = some (.string a) ∧ w1.cell? ⟨w.heap.size, 1, none⟩ = some (.string b) ∧ w1.frozen? ⟨w.heap.size, 0, none⟩ = false ∧ w1.frozen? ⟨w.heap.size, 1, none⟩ = false ∧ w.heap.size < w1.heap.size := by
  obtain ⟨c0, f0⟩ := bcell hb w.heap.size 0 (by simp)
  obtain ⟨c1, f1⟩ := bcell hb w.heap.size 1 (by simp)
  refine ⟨?_, ?_, ?_, ?_, ?_⟩
  · rw [c0, World.cell?_alloc_at _ _ _ _ rfl]; rfl
  · rw [c1, World.cell?_alloc_at _ _ _ _ rfl]; rfl
  · rw [f0]; simp only [World.frozen?]; rw [heap_alloc_new]; rfl
  · rw [f1]; simp only [World.frozen?]; rw [heap_alloc_new]; rfl
  · have := hb.size; simp at this; omega
set_option maxHeartbeats 1000000 in
theorem make_mail_no (s : ByteArray) (w : World) (hm : MaxC w) (hs : s.size ≤ 1000000) (h : mailB (trimI (sb s)) = false) :
    Calls Tryd.prog 28 #[.string ⟨#[101, 109, 97, 105, 108]⟩, .string s] w fun e w' => e = .returned (.tuple #[.agg #[.string ⟨#[]⟩, .string ⟨#[]⟩], .int .i64 2]) ∧ Below w.heap.size w w' := by
  have HE := fun w' (hm : MaxC w') => email_no s w' hm hs h
  clear h
  go_enter Tryd.func28, Tryd.ntmps28
  go_wp2_with fail
  refine (HE _ (hm.below ((Below.refl _ _).alloc (Nat.le_refl _) _))).mono ?_
  rintro e w1 ⟨rfl, hb1⟩
  obtain ⟨c0, c1, f0, f1, hz⟩ := two_cells hb1
  have HB := below_then ((Below.refl _ _).alloc (Nat.le_refl _) _) hb1
  clear hb1 HE
  go_wp2
  exact bodyPost_ret (v := .tuple #[.agg #[.string ⟨#[]⟩, .string ⟨#[]⟩], .int .i64 2]) (by simp [results, Tryd.results28, go_sem, c0, c1]) rfl ⟨rfl, (HB.setCell (Nat.le_refl _) _).setCell (Nat.le_refl _) _⟩
set_option maxHeartbeats 1000000 in
theorem make_mail_yes (s : ByteArray) (w : World) (hm : MaxC w) (hs : s.size ≤ 1000000) (h : mailB (trimI (sb s)) = true) :
    Calls Tryd.prog 28 #[.string ⟨#[101, 109, 97, 105, 108]⟩, .string s] w fun e w' => e = .returned (.tuple #[.agg #[.string ⟨#[101, 109, 97, 105, 108]⟩, .string (lowS (trB s))], .int .i64 0]) ∧ Below w.heap.size w w' := by
  have HE := fun w' (hm : MaxC w') => email_yes s w' hm hs h
  clear h
  generalize lowS (trB s) = F at *
  go_enter Tryd.func28, Tryd.ntmps28
  go_wp2_with fail
  refine (HE _ (hm.below ((Below.refl _ _).alloc (Nat.le_refl _) _))).mono ?_
  rintro e w1 ⟨rfl, hb1⟩
  obtain ⟨c0, c1, f0, f1, hz⟩ := two_cells hb1
  have HB := below_then ((Below.refl _ _).alloc (Nat.le_refl _) _) hb1
  clear hb1 HE
  go_wp2
  exact bodyPost_ret (v := .tuple #[.agg #[.string ⟨#[101, 109, 97, 105, 108]⟩, .string F], .int .i64 0]) (by simp [results, Tryd.results28, go_sem, c0, c1]) rfl ⟨rfl, (HB.setCell (Nat.le_refl _) _).setCell (Nat.le_refl _) _⟩
end Go.Proofs.YtibkkdbjmcongaaDoor
