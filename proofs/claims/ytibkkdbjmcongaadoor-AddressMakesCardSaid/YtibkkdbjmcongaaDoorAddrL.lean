/- Layer 6 (address): law AddressMakes. -/
import Derived.Test.YtibkkdbjmcongaaDoorAddrK
import Derived.Deep.RegionHeld3
namespace Go.Proofs.YtibkkdbjmcongaaDoor
open Go.RowKit
set_option linter.unusedVariables false

/-- Four blocks of two texts, and the world as it was behind w0. -/
def Four (w0 : World) (b1 b2 b3 b4 : Nat) (m x n y p q : ByteArray) (w : World) : Prop := (Two w b1 m x ∧ Two w b2 n y) ∧ (Two w b3 p q ∧ Two w b4 p q) ∧ MaxC w ∧ Below w0.heap.size w0 w
theorem Four.below {w0 w w' : World} {b1 b2 b3 b4 : Nat} {m x n y p q : ByteArray} (hb : Below w.heap.size w w') (h : Four w0 b1 b2 b3 b4 m x n y p q w) : Four w0 b1 b2 b3 b4 m x n y p q w' := by
  obtain ⟨⟨a, b⟩, ⟨c, d⟩, e, f⟩ := h
  exact ⟨⟨a.below hb, b.below hb⟩, ⟨c.below hb, d.below hb⟩, e.below hb, below_then f hb⟩
theorem Four.drew {w0 w : World} {b1 b2 b3 b4 : Nat} {m x n y p q : ByteArray} (h : Four w0 b1 b2 b3 b4 m x n y p q w) : Four w0 b1 b2 b3 b4 m x n y p q w.drew := by
  obtain ⟨⟨a, b⟩, ⟨c, d⟩, e, f⟩ := h
  exact ⟨⟨a, b⟩, ⟨c, d⟩, e, ⟨f.os, f.tape, f.output, f.size, f.block⟩⟩
theorem Four.maxc {w0 w : World} {b1 b2 b3 b4 : Nat} {m x n y p q : ByteArray} (h : Four w0 b1 b2 b3 b4 m x n y p q w) : MaxC w := h.2.2.1
theorem Four.cells {w0 w : World} {b1 b2 b3 b4 : Nat} {m x n y p q : ByteArray} (h : Four w0 b1 b2 b3 b4 m x n y p q w) : ((w.cell? ⟨b1, 0, none⟩ = some (.string m) ∧ w.cell? ⟨b1, 1, none⟩ = some (.string x)) ∧ (w.cell? ⟨b2, 0, none⟩ = some (.string n) ∧ w.cell? ⟨b2, 1, none⟩ = some (.string y)) ∧ (w.cell? ⟨b3, 0, none⟩ = some (.string p) ∧ w.cell? ⟨b3, 1, none⟩ = some (.string q)) ∧ (w.cell? ⟨b4, 0, none⟩ = some (.string p) ∧ w.cell? ⟨b4, 1, none⟩ = some (.string q))) ∧ Four w0 b1 b2 b3 b4 m x n y p q w :=
  ⟨⟨h.1.1.1, h.1.2.1, h.2.1.1.1, h.2.1.2.1⟩, h⟩
theorem keepB {w0 w w' : World} {b1 b2 b3 b4 : Nat} {m x n y p q : ByteArray} (hb : Below w.heap.size w w') (h : ((w.cell? ⟨b1, 0, none⟩ = some (.string m) ∧ w.cell? ⟨b1, 1, none⟩ = some (.string x)) ∧ (w.cell? ⟨b2, 0, none⟩ = some (.string n) ∧ w.cell? ⟨b2, 1, none⟩ = some (.string y)) ∧ (w.cell? ⟨b3, 0, none⟩ = some (.string p) ∧ w.cell? ⟨b3, 1, none⟩ = some (.string q)) ∧ (w.cell? ⟨b4, 0, none⟩ = some (.string p) ∧ w.cell? ⟨b4, 1, none⟩ = some (.string q))) ∧ Four w0 b1 b2 b3 b4 m x n y p q w) : ((w'.cell? ⟨b1, 0, none⟩ = some (.string m) ∧ w'.cell? ⟨b1, 1, none⟩ = some (.string x)) ∧ (w'.cell? ⟨b2, 0, none⟩ = some (.string n) ∧ w'.cell? ⟨b2, 1, none⟩ = some (.string y)) ∧ (w'.cell? ⟨b3, 0, none⟩ = some (.string p) ∧ w'.cell? ⟨b3, 1, none⟩ = some (.string q)) ∧ (w'.cell? ⟨b4, 0, none⟩ = some (.string p) ∧ w'.cell? ⟨b4, 1, none⟩ = some (.string q))) ∧ Four w0 b1 b2 b3 b4 m x n y p q w' := (Four.below hb h.2).cells
theorem keepD {w0 w : World} {b1 b2 b3 b4 : Nat} {m x n y p q : ByteArray} (h : ((w.cell? ⟨b1, 0, none⟩ = some (.string m) ∧ w.cell? ⟨b1, 1, none⟩ = some (.string x)) ∧ (w.cell? ⟨b2, 0, none⟩ = some (.string n) ∧ w.cell? ⟨b2, 1, none⟩ = some (.string y)) ∧ (w.cell? ⟨b3, 0, none⟩ = some (.string p) ∧ w.cell? ⟨b3, 1, none⟩ = some (.string q)) ∧ (w.cell? ⟨b4, 0, none⟩ = some (.string p) ∧ w.cell? ⟨b4, 1, none⟩ = some (.string q))) ∧ Four w0 b1 b2 b3 b4 m x n y p q w) : ((w.drew.cell? ⟨b1, 0, none⟩ = some (.string m) ∧ w.drew.cell? ⟨b1, 1, none⟩ = some (.string x)) ∧ (w.drew.cell? ⟨b2, 0, none⟩ = some (.string n) ∧ w.drew.cell? ⟨b2, 1, none⟩ = some (.string y)) ∧ (w.drew.cell? ⟨b3, 0, none⟩ = some (.string p) ∧ w.drew.cell? ⟨b3, 1, none⟩ = some (.string q)) ∧ (w.drew.cell? ⟨b4, 0, none⟩ = some (.string p) ∧ w.drew.cell? ⟨b4, 1, none⟩ = some (.string q))) ∧ Four w0 b1 b2 b3 b4 m x n y p q w.drew := (Four.drew h.2).cells
theorem maxOf {w0 w : World} {b1 b2 b3 b4 : Nat} {m x n y p q : ByteArray} (h : ((w.cell? ⟨b1, 0, none⟩ = some (.string m) ∧ w.cell? ⟨b1, 1, none⟩ = some (.string x)) ∧ (w.cell? ⟨b2, 0, none⟩ = some (.string n) ∧ w.cell? ⟨b2, 1, none⟩ = some (.string y)) ∧ (w.cell? ⟨b3, 0, none⟩ = some (.string p) ∧ w.cell? ⟨b3, 1, none⟩ = some (.string q)) ∧ (w.cell? ⟨b4, 0, none⟩ = some (.string p) ∧ w.cell? ⟨b4, 1, none⟩ = some (.string q))) ∧ Four w0 b1 b2 b3 b4 m x n y p q w) : MaxC w := h.2.maxc
theorem belowOf {w0 w : World} {b1 b2 b3 b4 : Nat} {m x n y p q : ByteArray} (h : ((w.cell? ⟨b1, 0, none⟩ = some (.string m) ∧ w.cell? ⟨b1, 1, none⟩ = some (.string x)) ∧ (w.cell? ⟨b2, 0, none⟩ = some (.string n) ∧ w.cell? ⟨b2, 1, none⟩ = some (.string y)) ∧ (w.cell? ⟨b3, 0, none⟩ = some (.string p) ∧ w.cell? ⟨b3, 1, none⟩ = some (.string q)) ∧ (w.cell? ⟨b4, 0, none⟩ = some (.string p) ∧ w.cell? ⟨b4, 1, none⟩ = some (.string q))) ∧ Four w0 b1 b2 b3 b4 m x n y p q w) : Below w0.heap.size w0 w := h.2.2.2.2
set_option maxRecDepth 4000 in
set_option maxHeartbeats 4000000 in
theorem law_makes_short (m x n y : ByteArray) (w : World) (hm : MaxC w) (s0 : m.size ≤ 140737488355328) (hx : x.size ≤ 2000) (hy : y.size ≤ 2000) :
    Calls Tryd.prog 8 #[.agg #[.string m, .string x], .agg #[.string n, .string y]] w fun e w' => e = .returned (.bool true) ∧ Below w.heap.size w w' := by
  obtain ⟨p, q, c, M1, M2, hc⟩ := make_alike m x (by omega)
  obtain ⟨b, R1, R2⟩ := right_alike m x (by omega)
  have T := fun w' => text_any m x w' s0 hx
  have L1 := fun w' => less_any m x n y w'
  have L2 := fun w' => ref_less_any m x n y w'
  generalize lessS m x n y = l at L1 L2
  unfold MakeIs at M1 M2
  unfold RightIs at R1 R2
  go_enter Tryd.func8, Tryd.ntmps8
  go_wp2_with fail
  have A := Two.new w m x 35
  have B := Two.new (w.alloc (.cells #[.string m, .string x] 35)) n y 35
  replace A := A.below ((Below.refl _ _).alloc (Nat.le_refl _) (.cells #[.string n, .string y] 35))
  have HB := (((Below.refl w.heap.size w).alloc (Nat.le_refl _) (.cells #[.string m, .string x] 35))).alloc (by simp) (.cells #[.string n, .string y] 35)
  generalize hW : (w.alloc (.cells #[.string m, .string x] 35)).alloc (.cells #[.string n, .string y] 35) = W at *
  simp only [World.size_alloc] at B
  clear hW
  refine (alive06 W (hm.below HB)).mono ?_
  rintro e w1 ⟨rfl, hb1⟩
  replace A := A.below hb1
  replace B := B.below hb1
  replace HB := below_then HB hb1
  clear hb1
  have ⟨⟨a1, a2⟩, ⟨a3, a4⟩, a5⟩ := A
  have ⟨⟨b1, b2⟩, ⟨b3, b4⟩, b5⟩ := B
  go_wp2_with fail
  refine (M1 _ (hm.below HB)).mono ?_
  rintro e w2 ⟨rfl, hb1⟩
  replace A := A.below hb1
  replace B := B.below hb1
  replace HB := below_then HB hb1
  clear hb1 a1 a2 a3 a4 a5 b1 b2 b3 b4 b5
  have ⟨⟨a1, a2⟩, ⟨a3, a4⟩, a5⟩ := A
  have ⟨⟨b1, b2⟩, ⟨b3, b4⟩, b5⟩ := B
  have P := Two.new w2 p q 35
  have al := (Below.refl w2.heap.size w2).alloc (Nat.le_refl _) (.cells #[.string p, .string q] 35)
  replace A := A.below al
  replace B := B.below al
  replace HB := below_then HB al
  clear al
  go_wp2_with fail
  refine (M2 _ (hm.below HB)).mono ?_
  rintro e w3 ⟨rfl, hb1⟩
  replace A := A.below hb1
  replace B := B.below hb1
  replace P := P.below hb1
  replace HB := below_then HB hb1
  have al := (Below.refl w3.heap.size w3).alloc (Nat.le_refl _) (.cells #[.string p, .string q] 35)
  have HS := Four.cells ⟨⟨A.below al, B.below al⟩, ⟨P.below al, Two.new w3 p q 35⟩, (hm.below HB).below al, below_then HB al⟩
  clear hb1 a1 a2 a3 a4 a5 b1 b2 b3 b4 b5 al A B P HB M1 M2
  have q1 : ¬ 9223372036854775807 < m.size + 1 := by omega
  have q3 : ¬ 9223372036854775807 < m.size + 1 + x.size := by omega
  go_wp2
  go_region_held3 (fun w' => ((w'.cell? ⟨w.heap.size, 0, none⟩ = some (.string m) ∧ w'.cell? ⟨w.heap.size, 1, none⟩ = some (.string x)) ∧ (w'.cell? ⟨w.heap.size + 1, 0, none⟩ = some (.string n) ∧ w'.cell? ⟨w.heap.size + 1, 1, none⟩ = some (.string y)) ∧ (w'.cell? ⟨w2.heap.size, 0, none⟩ = some (.string p) ∧ w'.cell? ⟨w2.heap.size, 1, none⟩ = some (.string q)) ∧ (w'.cell? ⟨w3.heap.size, 0, none⟩ = some (.string p) ∧ w'.cell? ⟨w3.heap.size, 1, none⟩ = some (.string q))) ∧ Four w w.heap.size (w.heap.size + 1) w2.heap.size w3.heap.size m x n y p q w') (first | exact keepB (by assumption) (by assumption) | exact keepD (by assumption) | assumption)
    (first
      | (go_at_call 30; refine (R1 _ ?_).mono ?_; (exact maxOf (by assumption)); rintro e w' ⟨rfl, hb⟩)
      | (go_at_call 31; refine (R2 _ ?_).mono ?_; (exact maxOf (by assumption)); rintro e w' ⟨rfl, hb⟩)
      | (go_at_call 32; refine (T _).mono ?_; rintro e w' ⟨rfl, hb⟩)
      | (go_at_call 33; refine (L1 _).mono ?_; rintro e w' ⟨rfl, hb⟩)
      | (go_at_call 34; refine (L2 _).mono ?_; rintro e w' ⟨rfl, hb⟩))
  go_wp2
  go_ret
  exact ⟨rfl, belowOf (by assumption)⟩
set_option maxHeartbeats 1000000 in
theorem makes_long (m x n y : ByteArray) (w : World) (hm : MaxC w) (s1 : x.size ≤ maxLen) (s3 : y.size ≤ maxLen) (hh : ¬ (x.size ≤ 2000 ∧ y.size ≤ 2000)) :
    Calls Tryd.prog 8 #[.agg #[.string m, .string x], .agg #[.string n, .string y]] w fun e w' => e = .returned (.bool true) ∧ Below w.heap.size w w' := by
  unfold maxLen at s1 s3
  go_enter Tryd.func8, Tryd.ntmps8
  go_wp2_with fail
  have A := Two.new w m x 35
  have B := Two.new (w.alloc (.cells #[.string m, .string x] 35)) n y 35
  replace A := A.below ((Below.refl _ _).alloc (Nat.le_refl _) (.cells #[.string n, .string y] 35))
  have HB := (((Below.refl w.heap.size w).alloc (Nat.le_refl _) (.cells #[.string m, .string x] 35))).alloc (by simp) (.cells #[.string n, .string y] 35)
  generalize hW : (w.alloc (.cells #[.string m, .string x] 35)).alloc (.cells #[.string n, .string y] 35) = W at *
  simp only [World.size_alloc] at B
  clear hW
  refine (alive06 W (hm.below HB)).mono ?_
  rintro e w1 ⟨rfl, hb1⟩
  replace A := A.below hb1
  replace B := B.below hb1
  replace HB := below_then HB hb1
  clear hb1
  have ⟨⟨a1, a2⟩, ⟨a3, a4⟩, a5⟩ := A
  have ⟨⟨b1, b2⟩, ⟨b3, b4⟩, b5⟩ := B
  rcases (by omega : 2000 < x.size ∨ x.size ≤ 2000 ∧ 2000 < y.size) with h | ⟨h, g⟩
  all_goals
    clear hh
    go_wp2
    go_ret
    exact ⟨rfl, HB⟩
theorem law_makes (m x n y : ByteArray) (w : World) (hm : MaxC w) (s0 : m.size ≤ maxLen) (s1 : x.size ≤ maxLen) (s2 : n.size ≤ maxLen) (s3 : y.size ≤ maxLen) (r0 : m.size ≤ 140737488355328) :
    Calls Tryd.prog 8 #[.agg #[.string m, .string x], .agg #[.string n, .string y]] w fun e w' => e = .returned (.bool true) ∧ Below w.heap.size w w' := by
  by_cases hh : x.size ≤ 2000 ∧ y.size ≤ 2000
  · exact law_makes_short m x n y w hm r0 hh.1 hh.2
  · exact makes_long m x n y w hm s1 s3 hh
end Go.Proofs.YtibkkdbjmcongaaDoor
