/- Merged: The order of the base point, and of the whole group: the order's prime, eight times it brings each point to (0, 1). No program stands here. The base point has the order; eight times the order brings each point to (0, 1). No program stands here, but its numbers. -/
import Derived.Test.YtelppapkffjmpaaDoorQMG
import Derived.Test.YtelppapkffjmpaaDoorQMP
section
namespace Go.Proofs.YtelppapkffjmpaaDoor
set_option linter.unusedVariables false
set_option maxRecDepth 100000

/-- The order. -/
def lN : Nat := 7237005577332262213973186563042994240857116359379907606001950938285454250989
/-- A point as x and y over one divisor. -/
def Over (c : FF × FF × FF) (P : Pt) : Prop := c.2.2 ≠ 0 ∧ c.1 = P.x * c.2.2 ∧ c.2.1 = P.y * c.2.2
def oadd (c e : FF × FF × FF) : FF × FF × FF :=
  let a := c.2.2 * e.2.2
  let b := a * a
  let u := c.1 * e.1
  let v := c.2.1 * e.2.1
  let t := dF * (u * v)
  let f := b - t
  let g := b + t
  (a * f * (c.1 * e.2.1 + c.2.1 * e.1), a * g * (v + u), f * g)
theorem over_add {c e : FF × FF × FF} {P Q : Pt} (h : Over c P) (k : Over e Q) : Over (oadd c e) (padd P Q) := by
  obtain ⟨cx, cy, cz⟩ := c
  obtain ⟨ex, ey, ez⟩ := e
  obtain ⟨h0, h1, h2⟩ := h
  obtain ⟨k0, k1, k2⟩ := k
  have d1 := den1 P.on Q.on
  have d2 := den2 P.on Q.on
  have p1 := padd_x P Q
  have p2 := padd_y P Q
  have nz : ∀ {a b : FF}, a ≠ 0 → b ≠ 0 → a * b ≠ 0 := fun ha hb h => (mulz h).elim ha hb
  dsimp only at h0 h1 h2 k0 k1 k2
  subst h1 h2 k1 k2
  have ha := nz h0 k0
  have hb := nz ha ha
  have hf : cz * ez * (cz * ez) - dF * (P.x * cz * (Q.x * ez) * (P.y * cz * (Q.y * ez))) = cz * ez * (cz * ez) * (1 - dF*P.x*Q.x*P.y*Q.y) := by grobner
  have hg : cz * ez * (cz * ez) + dF * (P.x * cz * (Q.x * ez) * (P.y * cz * (Q.y * ez))) = cz * ez * (cz * ez) * (1 + dF*P.x*Q.x*P.y*Q.y) := by grobner
  refine ⟨?_, ?_, ?_⟩
  · show (cz * ez * (cz * ez) - dF * (P.x * cz * (Q.x * ez) * (P.y * cz * (Q.y * ez)))) * (cz * ez * (cz * ez) + dF * (P.x * cz * (Q.x * ez) * (P.y * cz * (Q.y * ez)))) ≠ 0
    rw [hf, hg]
    exact nz (nz hb d2) (nz hb d1)
  · show cz * ez * (cz * ez * (cz * ez) - dF * (P.x * cz * (Q.x * ez) * (P.y * cz * (Q.y * ez)))) * (P.x * cz * (Q.y * ez) + P.y * cz * (Q.x * ez)) = (padd P Q).x * ((cz * ez * (cz * ez) - dF * (P.x * cz * (Q.x * ez) * (P.y * cz * (Q.y * ez)))) * (cz * ez * (cz * ez) + dF * (P.x * cz * (Q.x * ez) * (P.y * cz * (Q.y * ez)))))
    rw [hf, hg]
    have e1 : (padd P Q).x * (cz * ez * (cz * ez) * (1 - dF*P.x*Q.x*P.y*Q.y) * (cz * ez * (cz * ez) * (1 + dF*P.x*Q.x*P.y*Q.y))) = (padd P Q).x * (1 + dF*P.x*Q.x*P.y*Q.y) * (cz * ez * (cz * ez) * (1 - dF*P.x*Q.x*P.y*Q.y) * (cz * ez * (cz * ez))) := by
      generalize (padd P Q).x = X
      generalize 1 - dF*P.x*Q.x*P.y*Q.y = U
      generalize 1 + dF*P.x*Q.x*P.y*Q.y = V
      grobner
    rw [e1, p1]
    generalize 1 - dF*P.x*Q.x*P.y*Q.y = U
    grobner
  · show cz * ez * (cz * ez * (cz * ez) + dF * (P.x * cz * (Q.x * ez) * (P.y * cz * (Q.y * ez)))) * (P.y * cz * (Q.y * ez) + P.x * cz * (Q.x * ez)) = (padd P Q).y * ((cz * ez * (cz * ez) - dF * (P.x * cz * (Q.x * ez) * (P.y * cz * (Q.y * ez)))) * (cz * ez * (cz * ez) + dF * (P.x * cz * (Q.x * ez) * (P.y * cz * (Q.y * ez)))))
    rw [hf, hg]
    have e1 : (padd P Q).y * (cz * ez * (cz * ez) * (1 - dF*P.x*Q.x*P.y*Q.y) * (cz * ez * (cz * ez) * (1 + dF*P.x*Q.x*P.y*Q.y))) = (padd P Q).y * (1 - dF*P.x*Q.x*P.y*Q.y) * (cz * ez * (cz * ez) * (1 + dF*P.x*Q.x*P.y*Q.y) * (cz * ez * (cz * ez))) := by
      generalize (padd P Q).y = X
      generalize 1 - dF*P.x*Q.x*P.y*Q.y = U
      generalize 1 + dF*P.x*Q.x*P.y*Q.y = V
      grobner
    rw [e1, p2]
    generalize 1 + dF*P.x*Q.x*P.y*Q.y = V
    grobner
/-- So many times, by doubling. -/
def omul (c : FF × FF × FF) : Nat → Nat → FF × FF × FF
  | 0, _ => (0, 1, 1)
  | f + 1, k => match k % 2 with
    | 0 => oadd (omul c f (k / 2)) (omul c f (k / 2))
    | _ => oadd (oadd (omul c f (k / 2)) (omul c f (k / 2))) c
theorem over_mul {c : FF × FF × FF} {P : Pt} (h : Over c P) : ∀ f k, k < 2 ^ f → Over (omul c f k) (smul k P)
  | 0, k, hk => by
    obtain rfl : k = 0 := by simpa using hk
    exact ⟨by show (1 : FF) ≠ 0; decide +kernel, by show (0 : FF) = 0 * 1; decide +kernel, by show (1 : FF) = 1 * 1; decide +kernel⟩
  | f + 1, k, hk => by
    have ih := over_mul h f (k / 2) (by rw [Nat.pow_succ] at hk; omega)
    have hd := over_add ih ih
    rw [← smul_add] at hd
    unfold omul
    split
    · next h0 => rw [show k / 2 + k / 2 = k by omega] at hd; exact hd
    · next h0 =>
      have h1 : k / 2 + k / 2 + 1 = k := by
        have : k % 2 ≠ 0 := fun e => h0 e
        omega
      have ho := over_add hd h
      rw [show padd (smul (k / 2 + k / 2) P) P = smul (k / 2 + k / 2 + 1) P from rfl, h1] at ho
      exact ho
theorem over_zero {c : FF × FF × FF} {P : Pt} (h : Over c P) (hx : c.1 = 0) (hy : c.2.1 = c.2.2) : P = pzero := by
  obtain ⟨h0, h1, h2⟩ := h
  apply Pt.ext
  · rw [hx] at h1
    rcases mulz h1.symm with e | e
    · exact e
    · exact absurd e h0
  · refine canc h0 ?_
    show c.2.2 * P.y = c.2.2 * 1
    rw [hy] at h2
    grobner
instance instOn (x y : FF) : Decidable (On dF x y) := inferInstanceAs (Decidable (_ = _))
end Go.Proofs.YtelppapkffjmpaaDoor
end
section
namespace Go.Proofs.YtelppapkffjmpaaDoor
open Go.RowKit Go.Shelf
set_option linter.unusedVariables false
set_option maxRecDepth 100000

theorem bP_over : Over (bxF, byF, 1) bP := ⟨by show (1 : FF) ≠ 0; decide +kernel, by show bxF = bxF * 1; decide +kernel, by show byF = byF * 1; decide +kernel⟩
theorem bP_calc : (omul (bxF, byF, 1) 253 lN).1 = 0 ∧ (omul (bxF, byF, 1) 253 lN).2.1 = (omul (bxF, byF, 1) 253 lN).2.2 := by decide +kernel
theorem bP_order : smul lN bP = pzero := over_zero (over_mul bP_over 253 lN (by decide +kernel)) bP_calc.1 bP_calc.2
/-- The base point so many times hangs on what is left by the order alone. -/
theorem smul_bP_mod (k : Nat) : smul (k % lN) bP = smul k bP := by
  have e : smul (k / lN * lN + k % lN) bP = smul k bP := by rw [Nat.mul_comm, Nat.div_add_mod]
  rw [smul_add, smul_mul, bP_order, smul_zero, zero_padd] at e
  exact e
theorem kB_ord : kB (numB (lN : Int)) = lN := by decide +kernel
end Go.Proofs.YtelppapkffjmpaaDoor
end
