/- Layer 6 (address): of any two addresses just one stands ahead, or they are the same. -/
import Derived.Test.YtibkkdbjmcongaaDoorAddrG
namespace Go.Proofs.YtibkkdbjmcongaaDoor
open Go.RowKit
set_option linter.unusedVariables false

theorem bl_irrefl : ∀ x : List UInt8, Op.bytesLess x x = false
  | [] => rfl
  | a :: x => by
    have h : ¬ a < a := by simp
    rw [Op.bytesLess, bl_irrefl x, decide_eq_false h]; simp
theorem u8_tri (a b : UInt8) : a < b ∨ a = b ∨ b < a := by
  rcases Nat.lt_trichotomy a.toNat b.toNat with h | h | h
  · exact .inl (UInt8.lt_iff_toNat_lt.2 h)
  · exact .inr (.inl (UInt8.toNat_inj.1 h))
  · exact .inr (.inr (UInt8.lt_iff_toNat_lt.2 h))
theorem u8_no {a b : UInt8} (h : a < b) : ¬ b < a ∧ a ≠ b := by
  have := UInt8.lt_iff_toNat_lt.1 h
  constructor
  · intro g; have := UInt8.lt_iff_toNat_lt.1 g; omega
  · intro g; rw [g] at this; omega
theorem bl_tri : ∀ x y : List UInt8, (Op.bytesLess x y = true ∧ Op.bytesLess y x = false ∧ x ≠ y) ∨ (Op.bytesLess x y = false ∧ Op.bytesLess y x = true ∧ x ≠ y) ∨ x = y
  | [], [] => .inr (.inr rfl)
  | [], _ :: _ => .inl ⟨rfl, rfl, by simp⟩
  | _ :: _, [] => .inr (.inl ⟨rfl, rfl, by simp⟩)
  | a :: x, b :: y => by
    rcases u8_tri a b with h | h | h
    · obtain ⟨h1, h2⟩ := u8_no h
      exact .inl ⟨by simp [Op.bytesLess, h], by simp [Op.bytesLess, h1]; exact fun e => absurd e.symm h2, fun e => h2 (List.cons.inj e).1⟩
    · subst h
      have h0 : ¬ a < a := by simp
      rcases bl_tri x y with ⟨p, q, r⟩ | ⟨p, q, r⟩ | r
      · exact .inl ⟨by simp [Op.bytesLess, p], by simp [Op.bytesLess, h0, q], fun e => r (List.cons.inj e).2⟩
      · exact .inr (.inl ⟨by simp [Op.bytesLess, h0, p], by simp [Op.bytesLess, q], fun e => r (List.cons.inj e).2⟩)
      · exact .inr (.inr (by rw [r]))
    · obtain ⟨h1, h2⟩ := u8_no h
      exact .inr (.inl ⟨by simp [Op.bytesLess, h1]; exact fun e => absurd e.symm h2, by simp [Op.bytesLess, h], fun e => h2 (List.cons.inj e).1.symm⟩)
theorem bl_trans : ∀ x y z : List UInt8, Op.bytesLess x y = true → Op.bytesLess y z = true → Op.bytesLess x z = true
  | [], [], _, h, _ => by simp [Op.bytesLess] at h
  | _ :: _, [], _, h, _ => by simp [Op.bytesLess] at h
  | [], _ :: _, [], _, g => by simp [Op.bytesLess] at g
  | _ :: _, _ :: _, [], _, g => by simp [Op.bytesLess] at g
  | [], _ :: _, _ :: _, _, _ => rfl
  | a :: x, b :: y, c :: z, h, g => by
    have h' : a < b ∨ (a = b ∧ Op.bytesLess x y = true) := by simpa [Op.bytesLess] using h
    have g' : b < c ∨ (b = c ∧ Op.bytesLess y z = true) := by simpa [Op.bytesLess] using g
    have : a < c ∨ (a = c ∧ Op.bytesLess x z = true) := by
      rcases h' with h' | ⟨rfl, h'⟩
      · rcases g' with g' | ⟨rfl, g'⟩
        · exact .inl (UInt8.lt_iff_toNat_lt.2 (by have := UInt8.lt_iff_toNat_lt.1 h'; have := UInt8.lt_iff_toNat_lt.1 g'; omega))
        · exact .inl h'
      · rcases g' with g' | ⟨rfl, g'⟩
        · exact .inl g'
        · exact .inr ⟨rfl, bl_trans x y z h' g'⟩
    simpa [Op.bytesLess] using this
theorem toList_inj {a b : ByteArray} (h : a.toList = b.toList) : a = b := by
  rw [ByteArray.toList_eq, ByteArray.toList_eq] at h
  exact ByteArray.ext (Array.toList_inj.mp h)
theorem lt_tri (a b : ByteArray) : (ltB a b = true ∧ ltB b a = false ∧ a ≠ b) ∨ (ltB a b = false ∧ ltB b a = true ∧ a ≠ b) ∨ a = b := by
  rcases bl_tri a.toList b.toList with ⟨p, q, r⟩ | ⟨p, q, r⟩ | r
  · exact .inl ⟨p, q, fun e => r (by rw [e])⟩
  · exact .inr (.inl ⟨p, q, fun e => r (by rw [e])⟩)
  · exact .inr (.inr (toList_inj r))
theorem less_tri (m x n y : ByteArray) : (lessS m x n y = true ∧ lessS n y m x = false ∧ ¬ (m = n ∧ x = y)) ∨ (lessS m x n y = false ∧ lessS n y m x = true ∧ ¬ (m = n ∧ x = y)) ∨ (m = n ∧ x = y) := by
  rcases lt_tri m n with ⟨p, q, r⟩ | ⟨p, q, r⟩ | rfl
  · exact .inl ⟨by rw [lessS, if_neg r]; exact p, by rw [lessS, if_neg (fun e => r e.symm)]; exact q, fun e => r e.1⟩
  · exact .inr (.inl ⟨by rw [lessS, if_neg r]; exact p, by rw [lessS, if_neg (fun e => r e.symm)]; exact q, fun e => r e.1⟩)
  · rcases lt_tri x y with ⟨p, q, r⟩ | ⟨p, q, r⟩ | rfl
    · exact .inl ⟨by rw [lessS, if_pos rfl]; exact p, by rw [lessS, if_pos rfl]; exact q, fun e => r e.2⟩
    · exact .inr (.inl ⟨by rw [lessS, if_pos rfl]; exact p, by rw [lessS, if_pos rfl]; exact q, fun e => r e.2⟩)
    · exact .inr (.inr ⟨rfl, rfl⟩)
theorem less_self (m x : ByteArray) : lessS m x m x = false := by rw [lessS, if_pos rfl]; exact bl_irrefl _
theorem less_trans {m x n y k z : ByteArray} (h : lessS m x n y = true) (g : lessS n y k z = true) : lessS m x k z = true := by
  rw [lessS] at h g ⊢
  by_cases e1 : m = n
  · subst e1
    rw [if_pos rfl] at h
    by_cases e2 : m = k
    · rw [if_pos e2] at g ⊢; exact bl_trans _ _ _ h g
    · rw [if_neg e2] at g ⊢; exact g
  · rw [if_neg e1] at h
    by_cases e2 : n = k
    · subst e2; rw [if_neg e1]; exact h
    · rw [if_neg e2] at g
      have e3 : m ≠ k := by
        rintro rfl
        have := bl_trans _ _ _ h g
        rw [bl_irrefl] at this; cases this
      rw [if_neg e3]; exact bl_trans _ _ _ h g
/-- A block of two texts. -/
def Two (w : World) (b : Nat) (m x : ByteArray) : Prop := (w.cell? ⟨b, 0, none⟩ = some (.string m) ∧ w.cell? ⟨b, 1, none⟩ = some (.string x)) ∧ (w.frozen? ⟨b, 0, none⟩ = false ∧ w.frozen? ⟨b, 1, none⟩ = false) ∧ b < w.heap.size
theorem Two.below {w w' : World} {b : Nat} {m x : ByteArray} (h : Two w b m x) (hb : Below w.heap.size w w') : Two w' b m x := by
  obtain ⟨⟨a, c⟩, ⟨f, g⟩, z⟩ := h
  obtain ⟨c0, f0⟩ := bcell hb b 0 z
  obtain ⟨c1, f1⟩ := bcell hb b 1 z
  exact ⟨⟨c0.trans a, c1.trans c⟩, ⟨f0.trans f, f1.trans g⟩, Nat.lt_of_lt_of_le z hb.size⟩
theorem Two.new (w : World) (m x : ByteArray) (t : TypeId) : Two (w.alloc (.cells #[.string m, .string x] t)) w.heap.size m x := by
  refine ⟨⟨?_, ?_⟩, ⟨?_, ?_⟩, by simp⟩
  · rw [World.cell?_alloc_at _ _ _ _ rfl]; rfl
  · rw [World.cell?_alloc_at _ _ _ _ rfl]; rfl
  · simp only [World.frozen?]; rw [heap_alloc_new]; rfl
  · simp only [World.frozen?]; rw [heap_alloc_new]; rfl
theorem Two.draw {w : World} {b : Nat} {m x : ByteArray} (h : Two w b m x) : Two w.drew b m x := h
set_option linter.unusedVariables false in
set_option maxHeartbeats 4000000 in
theorem order_case (m x n y k z : ByteArray) (L1 L2 L3 L4 E : Bool) (w : World) (hm : MaxC w) (hx : x.size ≤ 2000) (hy : y.size ≤ 2000) (hz : z.size ≤ 2000)
    (h1 : lessS m x n y = L1) (h2 : lessS n y m x = L2) (h3 : lessS n y k z = L3) (h4 : lessS m x k z = L4)
    (hE : E = true ∧ m = n ∧ x = y ∨ E = false ∧ m.toList ≠ n.toList ∨ E = false ∧ m = n ∧ x.toList ≠ y.toList)
    (hn : L1 = true ∧ L2 = false ∧ E = false ∨ L1 = false ∧ L2 = true ∧ E = false ∨ L1 = false ∧ L2 = false ∧ E = true) (ht : L1 = true → L3 = true → L4 = true) :
    Calls Tryd.prog 10 #[.agg #[.string m, .string x], .agg #[.string n, .string y], .agg #[.string k, .string z]] w fun e w' => e = .returned (.bool true) ∧ Below w.heap.size w w' := by
  have P1 := fun w' => less_any m x n y w'
  have P2 := fun w' => less_any n y m x w'
  have P3 := fun w' => less_any n y k z w'
  have P4 := fun w' => less_any m x k z w'
  rw [h1] at P1
  rw [h2] at P2
  rw [h3] at P3
  rw [h4] at P4
  clear h1 h2 h3 h4
  go_enter Tryd.func10, Tryd.ntmps10
  go_wp2_with fail
  have A := Two.new w m x 35
  have B := Two.new (w.alloc (.cells #[.string m, .string x] 35)) n y 35
  have C := Two.new ((w.alloc (.cells #[.string m, .string x] 35)).alloc (.cells #[.string n, .string y] 35)) k z 35
  replace B := B.below ((Below.refl _ _).alloc (Nat.le_refl _) (.cells #[.string k, .string z] 35))
  replace A := (A.below ((Below.refl _ _).alloc (Nat.le_refl _) (.cells #[.string n, .string y] 35))).below ((Below.refl _ _).alloc (Nat.le_refl _) (.cells #[.string k, .string z] 35))
  have HB := ((((Below.refl w.heap.size w).alloc (Nat.le_refl _) (.cells #[.string m, .string x] 35))).alloc (by simp) (.cells #[.string n, .string y] 35)).alloc (by simp; omega) (.cells #[.string k, .string z] 35)
  generalize hW : ((w.alloc (.cells #[.string m, .string x] 35)).alloc (.cells #[.string n, .string y] 35)).alloc (.cells #[.string k, .string z] 35) = W at *
  simp only [World.size_alloc] at B C
  clear hW
  refine (alive06 W (hm.below HB)).mono ?_
  rintro e w1 ⟨rfl, hb1⟩
  replace A := A.below hb1
  replace B := B.below hb1
  replace C := C.below hb1
  replace HB := below_then HB hb1
  clear hb1
  have ⟨⟨a1, a2⟩, ⟨a3, a4⟩, a5⟩ := A
  have ⟨⟨b1, b2⟩, ⟨b3, b4⟩, b5⟩ := B
  have ⟨⟨c1, c2⟩, ⟨c3, c4⟩, c5⟩ := C
  rcases hn with ⟨rfl, rfl, rfl⟩ | ⟨rfl, rfl, rfl⟩ | ⟨rfl, rfl, rfl⟩
  · have hE' : m.toList ≠ n.toList ∨ m = n ∧ x.toList ≠ y.toList := by simpa using hE
    clear hE
    rcases hE' with h | ⟨rfl, h⟩
    · replace ht := ht rfl
      go_wp2_with fail
      refine (P1 _).mono ?_
      rintro e w2 ⟨rfl, hb⟩
      replace A := A.below hb
      replace B := B.below hb
      replace C := C.below hb
      replace HB := below_then HB hb
      clear hb a1 a2 a3 a4 a5 b1 b2 b3 b4 b5 c1 c2 c3 c4 c5
      have ⟨⟨a1, a2⟩, ⟨a3, a4⟩, a5⟩ := A
      have ⟨⟨b1, b2⟩, ⟨b3, b4⟩, b5⟩ := B
      have ⟨⟨c1, c2⟩, ⟨c3, c4⟩, c5⟩ := C
      go_wp2_with fail
      refine (P2 _).mono ?_
      rintro e w3 ⟨rfl, hb⟩
      replace A := A.below hb
      replace B := B.below hb
      replace C := C.below hb
      replace HB := below_then HB hb
      clear hb a1 a2 a3 a4 a5 b1 b2 b3 b4 b5 c1 c2 c3 c4 c5
      have ⟨⟨a1, a2⟩, ⟨a3, a4⟩, a5⟩ := A
      have ⟨⟨b1, b2⟩, ⟨b3, b4⟩, b5⟩ := B
      have ⟨⟨c1, c2⟩, ⟨c3, c4⟩, c5⟩ := C
      go_wp2_with fail
      refine (P1 _).mono ?_
      rintro e w4 ⟨rfl, hb⟩
      replace A := A.below hb
      replace B := B.below hb
      replace C := C.below hb
      replace HB := below_then HB hb
      clear hb a1 a2 a3 a4 a5 b1 b2 b3 b4 b5 c1 c2 c3 c4 c5
      have ⟨⟨a1, a2⟩, ⟨a3, a4⟩, a5⟩ := A
      have ⟨⟨b1, b2⟩, ⟨b3, b4⟩, b5⟩ := B
      have ⟨⟨c1, c2⟩, ⟨c3, c4⟩, c5⟩ := C
      cases L3
      · clear ht P4
        go_wp2_with fail
        refine (P3 _).mono ?_
        rintro e w5 ⟨rfl, hb⟩
        replace A := A.below hb
        replace B := B.below hb
        replace C := C.below hb
        replace HB := below_then HB hb
        clear hb a1 a2 a3 a4 a5 b1 b2 b3 b4 b5 c1 c2 c3 c4 c5
        have ⟨⟨a1, a2⟩, ⟨a3, a4⟩, a5⟩ := A
        have ⟨⟨b1, b2⟩, ⟨b3, b4⟩, b5⟩ := B
        have ⟨⟨c1, c2⟩, ⟨c3, c4⟩, c5⟩ := C
        go_wp2
        go_ret
        exact ⟨rfl, HB⟩
      · obtain rfl := ht rfl
        clear ht
        go_wp2_with fail
        refine (P3 _).mono ?_
        rintro e w5 ⟨rfl, hb⟩
        replace A := A.below hb
        replace B := B.below hb
        replace C := C.below hb
        replace HB := below_then HB hb
        clear hb a1 a2 a3 a4 a5 b1 b2 b3 b4 b5 c1 c2 c3 c4 c5
        have ⟨⟨a1, a2⟩, ⟨a3, a4⟩, a5⟩ := A
        have ⟨⟨b1, b2⟩, ⟨b3, b4⟩, b5⟩ := B
        have ⟨⟨c1, c2⟩, ⟨c3, c4⟩, c5⟩ := C
        go_wp2_with fail
        refine (P4 _).mono ?_
        rintro e w6 ⟨rfl, hb⟩
        replace A := A.below hb
        replace B := B.below hb
        replace C := C.below hb
        replace HB := below_then HB hb
        clear hb a1 a2 a3 a4 a5 b1 b2 b3 b4 b5 c1 c2 c3 c4 c5
        have ⟨⟨a1, a2⟩, ⟨a3, a4⟩, a5⟩ := A
        have ⟨⟨b1, b2⟩, ⟨b3, b4⟩, b5⟩ := B
        have ⟨⟨c1, c2⟩, ⟨c3, c4⟩, c5⟩ := C
        go_wp2
        go_ret
        exact ⟨rfl, HB⟩
    · replace ht := ht rfl
      go_wp2_with fail
      refine (P1 _).mono ?_
      rintro e w2 ⟨rfl, hb⟩
      replace A := A.below hb
      replace B := B.below hb
      replace C := C.below hb
      replace HB := below_then HB hb
      clear hb a1 a2 a3 a4 a5 b1 b2 b3 b4 b5 c1 c2 c3 c4 c5
      have ⟨⟨a1, a2⟩, ⟨a3, a4⟩, a5⟩ := A
      have ⟨⟨b1, b2⟩, ⟨b3, b4⟩, b5⟩ := B
      have ⟨⟨c1, c2⟩, ⟨c3, c4⟩, c5⟩ := C
      go_wp2_with fail
      refine (P2 _).mono ?_
      rintro e w3 ⟨rfl, hb⟩
      replace A := A.below hb
      replace B := B.below hb
      replace C := C.below hb
      replace HB := below_then HB hb
      clear hb a1 a2 a3 a4 a5 b1 b2 b3 b4 b5 c1 c2 c3 c4 c5
      have ⟨⟨a1, a2⟩, ⟨a3, a4⟩, a5⟩ := A
      have ⟨⟨b1, b2⟩, ⟨b3, b4⟩, b5⟩ := B
      have ⟨⟨c1, c2⟩, ⟨c3, c4⟩, c5⟩ := C
      go_wp2_with fail
      refine (P1 _).mono ?_
      rintro e w4 ⟨rfl, hb⟩
      replace A := A.below hb
      replace B := B.below hb
      replace C := C.below hb
      replace HB := below_then HB hb
      clear hb a1 a2 a3 a4 a5 b1 b2 b3 b4 b5 c1 c2 c3 c4 c5
      have ⟨⟨a1, a2⟩, ⟨a3, a4⟩, a5⟩ := A
      have ⟨⟨b1, b2⟩, ⟨b3, b4⟩, b5⟩ := B
      have ⟨⟨c1, c2⟩, ⟨c3, c4⟩, c5⟩ := C
      cases L3
      · clear ht P4
        go_wp2_with fail
        refine (P3 _).mono ?_
        rintro e w5 ⟨rfl, hb⟩
        replace A := A.below hb
        replace B := B.below hb
        replace C := C.below hb
        replace HB := below_then HB hb
        clear hb a1 a2 a3 a4 a5 b1 b2 b3 b4 b5 c1 c2 c3 c4 c5
        have ⟨⟨a1, a2⟩, ⟨a3, a4⟩, a5⟩ := A
        have ⟨⟨b1, b2⟩, ⟨b3, b4⟩, b5⟩ := B
        have ⟨⟨c1, c2⟩, ⟨c3, c4⟩, c5⟩ := C
        go_wp2
        go_ret
        exact ⟨rfl, HB⟩
      · obtain rfl := ht rfl
        clear ht
        go_wp2_with fail
        refine (P3 _).mono ?_
        rintro e w5 ⟨rfl, hb⟩
        replace A := A.below hb
        replace B := B.below hb
        replace C := C.below hb
        replace HB := below_then HB hb
        clear hb a1 a2 a3 a4 a5 b1 b2 b3 b4 b5 c1 c2 c3 c4 c5
        have ⟨⟨a1, a2⟩, ⟨a3, a4⟩, a5⟩ := A
        have ⟨⟨b1, b2⟩, ⟨b3, b4⟩, b5⟩ := B
        have ⟨⟨c1, c2⟩, ⟨c3, c4⟩, c5⟩ := C
        go_wp2_with fail
        refine (P4 _).mono ?_
        rintro e w6 ⟨rfl, hb⟩
        replace A := A.below hb
        replace B := B.below hb
        replace C := C.below hb
        replace HB := below_then HB hb
        clear hb a1 a2 a3 a4 a5 b1 b2 b3 b4 b5 c1 c2 c3 c4 c5
        have ⟨⟨a1, a2⟩, ⟨a3, a4⟩, a5⟩ := A
        have ⟨⟨b1, b2⟩, ⟨b3, b4⟩, b5⟩ := B
        have ⟨⟨c1, c2⟩, ⟨c3, c4⟩, c5⟩ := C
        go_wp2
        go_ret
        exact ⟨rfl, HB⟩
  · have hE' : m.toList ≠ n.toList ∨ m = n ∧ x.toList ≠ y.toList := by simpa using hE
    clear hE
    rcases hE' with h | ⟨rfl, h⟩
    · clear ht P3 P4
      go_wp2_with fail
      refine (P1 _).mono ?_
      rintro e w2 ⟨rfl, hb⟩
      replace A := A.below hb
      replace B := B.below hb
      replace C := C.below hb
      replace HB := below_then HB hb
      clear hb a1 a2 a3 a4 a5 b1 b2 b3 b4 b5 c1 c2 c3 c4 c5
      have ⟨⟨a1, a2⟩, ⟨a3, a4⟩, a5⟩ := A
      have ⟨⟨b1, b2⟩, ⟨b3, b4⟩, b5⟩ := B
      have ⟨⟨c1, c2⟩, ⟨c3, c4⟩, c5⟩ := C
      go_wp2_with fail
      refine (P2 _).mono ?_
      rintro e w3 ⟨rfl, hb⟩
      replace A := A.below hb
      replace B := B.below hb
      replace C := C.below hb
      replace HB := below_then HB hb
      clear hb a1 a2 a3 a4 a5 b1 b2 b3 b4 b5 c1 c2 c3 c4 c5
      have ⟨⟨a1, a2⟩, ⟨a3, a4⟩, a5⟩ := A
      have ⟨⟨b1, b2⟩, ⟨b3, b4⟩, b5⟩ := B
      have ⟨⟨c1, c2⟩, ⟨c3, c4⟩, c5⟩ := C
      go_wp2_with fail
      refine (P1 _).mono ?_
      rintro e w4 ⟨rfl, hb⟩
      replace A := A.below hb
      replace B := B.below hb
      replace C := C.below hb
      replace HB := below_then HB hb
      clear hb a1 a2 a3 a4 a5 b1 b2 b3 b4 b5 c1 c2 c3 c4 c5
      have ⟨⟨a1, a2⟩, ⟨a3, a4⟩, a5⟩ := A
      have ⟨⟨b1, b2⟩, ⟨b3, b4⟩, b5⟩ := B
      have ⟨⟨c1, c2⟩, ⟨c3, c4⟩, c5⟩ := C
      go_wp2
      go_ret
      exact ⟨rfl, HB⟩
    · clear ht P3 P4
      go_wp2_with fail
      refine (P1 _).mono ?_
      rintro e w2 ⟨rfl, hb⟩
      replace A := A.below hb
      replace B := B.below hb
      replace C := C.below hb
      replace HB := below_then HB hb
      clear hb a1 a2 a3 a4 a5 b1 b2 b3 b4 b5 c1 c2 c3 c4 c5
      have ⟨⟨a1, a2⟩, ⟨a3, a4⟩, a5⟩ := A
      have ⟨⟨b1, b2⟩, ⟨b3, b4⟩, b5⟩ := B
      have ⟨⟨c1, c2⟩, ⟨c3, c4⟩, c5⟩ := C
      go_wp2_with fail
      refine (P2 _).mono ?_
      rintro e w3 ⟨rfl, hb⟩
      replace A := A.below hb
      replace B := B.below hb
      replace C := C.below hb
      replace HB := below_then HB hb
      clear hb a1 a2 a3 a4 a5 b1 b2 b3 b4 b5 c1 c2 c3 c4 c5
      have ⟨⟨a1, a2⟩, ⟨a3, a4⟩, a5⟩ := A
      have ⟨⟨b1, b2⟩, ⟨b3, b4⟩, b5⟩ := B
      have ⟨⟨c1, c2⟩, ⟨c3, c4⟩, c5⟩ := C
      go_wp2_with fail
      refine (P1 _).mono ?_
      rintro e w4 ⟨rfl, hb⟩
      replace A := A.below hb
      replace B := B.below hb
      replace C := C.below hb
      replace HB := below_then HB hb
      clear hb a1 a2 a3 a4 a5 b1 b2 b3 b4 b5 c1 c2 c3 c4 c5
      have ⟨⟨a1, a2⟩, ⟨a3, a4⟩, a5⟩ := A
      have ⟨⟨b1, b2⟩, ⟨b3, b4⟩, b5⟩ := B
      have ⟨⟨c1, c2⟩, ⟨c3, c4⟩, c5⟩ := C
      go_wp2
      go_ret
      exact ⟨rfl, HB⟩
  · obtain ⟨rfl, rfl⟩ : m = n ∧ x = y := by simpa using hE
    clear hE
    clear ht P3 P4
    go_wp2_with fail
    refine (P1 _).mono ?_
    rintro e w2 ⟨rfl, hb⟩
    replace A := A.below hb
    replace B := B.below hb
    replace C := C.below hb
    replace HB := below_then HB hb
    clear hb a1 a2 a3 a4 a5 b1 b2 b3 b4 b5 c1 c2 c3 c4 c5
    have ⟨⟨a1, a2⟩, ⟨a3, a4⟩, a5⟩ := A
    have ⟨⟨b1, b2⟩, ⟨b3, b4⟩, b5⟩ := B
    have ⟨⟨c1, c2⟩, ⟨c3, c4⟩, c5⟩ := C
    go_wp2_with fail
    refine (P2 _).mono ?_
    rintro e w3 ⟨rfl, hb⟩
    replace A := A.below hb
    replace B := B.below hb
    replace C := C.below hb
    replace HB := below_then HB hb
    clear hb a1 a2 a3 a4 a5 b1 b2 b3 b4 b5 c1 c2 c3 c4 c5
    have ⟨⟨a1, a2⟩, ⟨a3, a4⟩, a5⟩ := A
    have ⟨⟨b1, b2⟩, ⟨b3, b4⟩, b5⟩ := B
    have ⟨⟨c1, c2⟩, ⟨c3, c4⟩, c5⟩ := C
    go_wp2_with fail
    refine (P1 _).mono ?_
    rintro e w4 ⟨rfl, hb⟩
    replace A := A.below hb
    replace B := B.below hb
    replace C := C.below hb
    replace HB := below_then HB hb
    clear hb a1 a2 a3 a4 a5 b1 b2 b3 b4 b5 c1 c2 c3 c4 c5
    have ⟨⟨a1, a2⟩, ⟨a3, a4⟩, a5⟩ := A
    have ⟨⟨b1, b2⟩, ⟨b3, b4⟩, b5⟩ := B
    have ⟨⟨c1, c2⟩, ⟨c3, c4⟩, c5⟩ := C
    go_wp2
    go_ret
    exact ⟨rfl, HB⟩
set_option maxHeartbeats 1000000 in
theorem order_long (m x n y k z : ByteArray) (w : World) (hm : MaxC w) (s1 : x.size ≤ maxLen) (s3 : y.size ≤ maxLen) (s5 : z.size ≤ maxLen) (hh : ¬ (x.size ≤ 2000 ∧ y.size ≤ 2000 ∧ z.size ≤ 2000)) :
    Calls Tryd.prog 10 #[.agg #[.string m, .string x], .agg #[.string n, .string y], .agg #[.string k, .string z]] w fun e w' => e = .returned (.bool true) ∧ Below w.heap.size w w' := by
  unfold maxLen at s1 s3 s5
  go_enter Tryd.func10, Tryd.ntmps10
  go_wp2_with fail
  have A := Two.new w m x 35
  have B := Two.new (w.alloc (.cells #[.string m, .string x] 35)) n y 35
  have C := Two.new ((w.alloc (.cells #[.string m, .string x] 35)).alloc (.cells #[.string n, .string y] 35)) k z 35
  replace B := B.below ((Below.refl _ _).alloc (Nat.le_refl _) (.cells #[.string k, .string z] 35))
  replace A := (A.below ((Below.refl _ _).alloc (Nat.le_refl _) (.cells #[.string n, .string y] 35))).below ((Below.refl _ _).alloc (Nat.le_refl _) (.cells #[.string k, .string z] 35))
  have HB := ((((Below.refl w.heap.size w).alloc (Nat.le_refl _) (.cells #[.string m, .string x] 35))).alloc (by simp) (.cells #[.string n, .string y] 35)).alloc (by simp; omega) (.cells #[.string k, .string z] 35)
  generalize hW : ((w.alloc (.cells #[.string m, .string x] 35)).alloc (.cells #[.string n, .string y] 35)).alloc (.cells #[.string k, .string z] 35) = W at *
  simp only [World.size_alloc] at B C
  clear hW
  refine (alive06 W (hm.below HB)).mono ?_
  rintro e w1 ⟨rfl, hb1⟩
  replace A := A.below hb1
  replace B := B.below hb1
  replace C := C.below hb1
  replace HB := below_then HB hb1
  clear hb1
  have ⟨⟨a1, a2⟩, ⟨a3, a4⟩, a5⟩ := A
  have ⟨⟨b1, b2⟩, ⟨b3, b4⟩, b5⟩ := B
  have ⟨⟨c1, c2⟩, ⟨c3, c4⟩, c5⟩ := C
  rcases (by omega : 2000 < x.size ∨ x.size ≤ 2000 ∧ 2000 < y.size ∨ x.size ≤ 2000 ∧ y.size ≤ 2000 ∧ 2000 < z.size) with h | ⟨h, g⟩ | ⟨h, g, l⟩
  all_goals
    clear hh
    go_wp2
    go_ret
    exact ⟨rfl, HB⟩
theorem law_order (m x n y k z : ByteArray) (w : World) (hm : MaxC w) (s0 : m.size ≤ maxLen) (s1 : x.size ≤ maxLen) (s2 : n.size ≤ maxLen) (s3 : y.size ≤ maxLen) (s4 : k.size ≤ maxLen) (s5 : z.size ≤ maxLen) :
    Calls Tryd.prog 10 #[.agg #[.string m, .string x], .agg #[.string n, .string y], .agg #[.string k, .string z]] w fun e w' => e = .returned (.bool true) ∧ Below w.heap.size w w' := by
  by_cases hh : x.size ≤ 2000 ∧ y.size ≤ 2000 ∧ z.size ≤ 2000
  · obtain ⟨hx, hy, hz⟩ := hh
    have dist : ∀ {E : Bool}, E = false → ¬ (m = n ∧ x = y) → (E = true ∧ m = n ∧ x = y ∨ E = false ∧ m.toList ≠ n.toList ∨ E = false ∧ m = n ∧ x.toList ≠ y.toList) := by
      intro E hE hne
      by_cases e : m = n
      · exact .inr (.inr ⟨hE, e, fun g => hne ⟨e, toList_inj g⟩⟩)
      · exact .inr (.inl ⟨hE, fun g => e (toList_inj g)⟩)
    rcases less_tri m x n y with ⟨p, q, r⟩ | ⟨p, q, r⟩ | ⟨rfl, rfl⟩
    · exact order_case m x n y k z true false _ _ false w hm hx hy hz p q rfl rfl (dist rfl r) (.inl ⟨rfl, rfl, rfl⟩) (fun _ g => less_trans p g)
    · exact order_case m x n y k z false true _ _ false w hm hx hy hz p q rfl rfl (dist rfl r) (.inr (.inl ⟨rfl, rfl, rfl⟩)) (fun h => by cases h)
    · exact order_case m x m x k z false false _ _ true w hm hx hy hz (less_self m x) (less_self m x) rfl rfl (.inl ⟨rfl, rfl, rfl⟩) (.inr (.inr ⟨rfl, rfl, rfl⟩)) (fun h => by cases h)
  · exact order_long m x n y k z w hm s1 s3 s5 hh
end Go.Proofs.YtibkkdbjmcongaaDoor
