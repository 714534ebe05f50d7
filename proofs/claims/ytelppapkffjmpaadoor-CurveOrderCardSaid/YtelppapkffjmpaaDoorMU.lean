/- Merged: The order of the base point, and of the whole group: the order's prime, eight times it brings each point to (0, 1). No program stands here. The base point has the order; eight times the order brings each point to (0, 1). No program stands here, but its numbers. -/
import Derived.Test.YtelppapkffjmpaaDoorMG
import Derived.Test.YtelppapkffjmpaaDoorMP
section
namespace Go.Proofs.YtelppapkffjmpaaDoor
set_option linter.unusedVariables false
set_option maxRecDepth 100000

/-- The order. -/
def lN : Nat := 7237005577332262213973186563042994240857116359379907606001950938285454250989
theorem prm_l1 : Prm 1224481 := Prm.small (f := 1110) (by decide) (by decide +kernel)
theorem prm_l2 : Prm 531581 := Prm.small (f := 732) (by decide) (by decide +kernel)
theorem prm_l3 : Prm 1257559732178653 := by
  refine pock (F := 1224481 * 531581) (by decide) (by decide +kernel) fun r hr hd => ?_
  refine two_in prm_l1 prm_l2 (by decide) ?_ ?_
  · exact Prm.certify (b := 1252739704402215) (f := 21) prm_l1 (by decide +kernel) (by decide +kernel) r hr hd
  · exact Prm.certify (b := 1139842034583224) (f := 20) prm_l2 (by decide +kernel) (by decide +kernel) r hr hd
theorem prm_l4 : Prm 4434155615661930479 := by
  refine pock (F := 1257559732178653) (by decide) (by decide +kernel) ?_
  exact Prm.certify (b := 415787812636281767) (f := 51) prm_l3 (by decide +kernel) (by decide +kernel)
theorem prm_l5 : Prm 172054593956031949258510691 := by
  refine pock (F := 4434155615661930479) (by decide) (by decide +kernel) ?_
  exact Prm.certify (b := 81982237619807054769897707) (f := 62) prm_l4 (by decide +kernel) (by decide +kernel)
theorem prm_l6 : Prm 19757330305831588566944191468367130476339 := by
  refine pock (F := 172054593956031949258510691) (by decide) (by decide +kernel) ?_
  exact Prm.certify (b := 9148758478138211201771971577098600188172) (f := 88) prm_l5 (by decide +kernel) (by decide +kernel)
theorem prm_l7 : Prm 276602624281642239937218680557139826668747 := by
  refine pock (F := 19757330305831588566944191468367130476339) (by decide) (by decide +kernel) ?_
  exact Prm.certify (b := 16384) (f := 134) prm_l6 (by decide +kernel) (by decide +kernel)
theorem lN_prime : Prm lN := by
  refine pock (F := 276602624281642239937218680557139826668747) (by decide) (by decide +kernel) ?_
  exact Prm.certify (b := 2975531125133123119648879457563281269120703404158613135195788908093573672641) (f := 138) prm_l7 (by decide +kernel) (by decide +kernel)
/-- A point as x and y over one divisor. -/
def Over (c : FF × FF × FF) (P : Pt) : Prop := c.2.2 ≠ 0 ∧ c.1 = P.x * c.2.2 ∧ c.2.1 = P.y * c.2.2
def oadd (c e : FF × FF × FF) : FF × FF × FF :=
  let a := c.2.2 * e.2.2
  let b := a * a
  let u := c.1 * e.1
  let v := c.2.1 * e.2.1
  let t := dF * (u * v)
  let f := b - t
  let g := b + t
  (a * f * (c.1 * e.2.1 + c.2.1 * e.1), a * g * (v + u), f * g)
theorem over_add {c e : FF × FF × FF} {P Q : Pt} (h : Over c P) (k : Over e Q) : Over (oadd c e) (padd P Q) := by
  obtain ⟨cx, cy, cz⟩ := c
  obtain ⟨ex, ey, ez⟩ := e
  obtain ⟨h0, h1, h2⟩ := h
  obtain ⟨k0, k1, k2⟩ := k
  have d1 := den1 P.on Q.on
  have d2 := den2 P.on Q.on
  have p1 := padd_x P Q
  have p2 := padd_y P Q
  have nz : ∀ {a b : FF}, a ≠ 0 → b ≠ 0 → a * b ≠ 0 := fun ha hb h => (mulz h).elim ha hb
  dsimp only at h0 h1 h2 k0 k1 k2
  subst h1 h2 k1 k2
  have ha := nz h0 k0
  have hb := nz ha ha
  have hf : cz * ez * (cz * ez) - dF * (P.x * cz * (Q.x * ez) * (P.y * cz * (Q.y * ez))) = cz * ez * (cz * ez) * (1 - dF*P.x*Q.x*P.y*Q.y) := by grobner
  have hg : cz * ez * (cz * ez) + dF * (P.x * cz * (Q.x * ez) * (P.y * cz * (Q.y * ez))) = cz * ez * (cz * ez) * (1 + dF*P.x*Q.x*P.y*Q.y) := by grobner
  refine ⟨?_, ?_, ?_⟩
  · show (cz * ez * (cz * ez) - dF * (P.x * cz * (Q.x * ez) * (P.y * cz * (Q.y * ez)))) * (cz * ez * (cz * ez) + dF * (P.x * cz * (Q.x * ez) * (P.y * cz * (Q.y * ez)))) ≠ 0
    rw [hf, hg]
    exact nz (nz hb d2) (nz hb d1)
  · show cz * ez * (cz * ez * (cz * ez) - dF * (P.x * cz * (Q.x * ez) * (P.y * cz * (Q.y * ez)))) * (P.x * cz * (Q.y * ez) + P.y * cz * (Q.x * ez)) = (padd P Q).x * ((cz * ez * (cz * ez) - dF * (P.x * cz * (Q.x * ez) * (P.y * cz * (Q.y * ez)))) * (cz * ez * (cz * ez) + dF * (P.x * cz * (Q.x * ez) * (P.y * cz * (Q.y * ez)))))
    rw [hf, hg]
    have e1 : (padd P Q).x * (cz * ez * (cz * ez) * (1 - dF*P.x*Q.x*P.y*Q.y) * (cz * ez * (cz * ez) * (1 + dF*P.x*Q.x*P.y*Q.y))) = (padd P Q).x * (1 + dF*P.x*Q.x*P.y*Q.y) * (cz * ez * (cz * ez) * (1 - dF*P.x*Q.x*P.y*Q.y) * (cz * ez * (cz * ez))) := by
      generalize (padd P Q).x = X
      generalize 1 - dF*P.x*Q.x*P.y*Q.y = U
      generalize 1 + dF*P.x*Q.x*P.y*Q.y = V
      grobner
    rw [e1, p1]
    generalize 1 - dF*P.x*Q.x*P.y*Q.y = U
    grobner
  · show cz * ez * (cz * ez * (cz * ez) + dF * (P.x * cz * (Q.x * ez) * (P.y * cz * (Q.y * ez)))) * (P.y * cz * (Q.y * ez) + P.x * cz * (Q.x * ez)) = (padd P Q).y * ((cz * ez * (cz * ez) - dF * (P.x * cz * (Q.x * ez) * (P.y * cz * (Q.y * ez)))) * (cz * ez * (cz * ez) + dF * (P.x * cz * (Q.x * ez) * (P.y * cz * (Q.y * ez)))))
    rw [hf, hg]
    have e1 : (padd P Q).y * (cz * ez * (cz * ez) * (1 - dF*P.x*Q.x*P.y*Q.y) * (cz * ez * (cz * ez) * (1 + dF*P.x*Q.x*P.y*Q.y))) = (padd P Q).y * (1 - dF*P.x*Q.x*P.y*Q.y) * (cz * ez * (cz * ez) * (1 + dF*P.x*Q.x*P.y*Q.y) * (cz * ez * (cz * ez))) := by
      generalize (padd P Q).y = X
      generalize 1 - dF*P.x*Q.x*P.y*Q.y = U
      generalize 1 + dF*P.x*Q.x*P.y*Q.y = V
      grobner
    rw [e1, p2]
    generalize 1 + dF*P.x*Q.x*P.y*Q.y = V
    grobner
/-- So many times, by doubling. -/
def omul (c : FF × FF × FF) : Nat → Nat → FF × FF × FF
  | 0, _ => (0, 1, 1)
  | f + 1, k => match k % 2 with
    | 0 => oadd (omul c f (k / 2)) (omul c f (k / 2))
    | _ => oadd (oadd (omul c f (k / 2)) (omul c f (k / 2))) c
theorem over_mul {c : FF × FF × FF} {P : Pt} (h : Over c P) : ∀ f k, k < 2 ^ f → Over (omul c f k) (smul k P)
  | 0, k, hk => by
    obtain rfl : k = 0 := by simpa using hk
    exact ⟨by show (1 : FF) ≠ 0; decide +kernel, by show (0 : FF) = 0 * 1; decide +kernel, by show (1 : FF) = 1 * 1; decide +kernel⟩
  | f + 1, k, hk => by
    have ih := over_mul h f (k / 2) (by rw [Nat.pow_succ] at hk; omega)
    have hd := over_add ih ih
    rw [← smul_add] at hd
    unfold omul
    split
    · next h0 => rw [show k / 2 + k / 2 = k by omega] at hd; exact hd
    · next h0 =>
      have h1 : k / 2 + k / 2 + 1 = k := by
        have : k % 2 ≠ 0 := fun e => h0 e
        omega
      have ho := over_add hd h
      rw [show padd (smul (k / 2 + k / 2) P) P = smul (k / 2 + k / 2 + 1) P from rfl, h1] at ho
      exact ho
theorem over_zero {c : FF × FF × FF} {P : Pt} (h : Over c P) (hx : c.1 = 0) (hy : c.2.1 = c.2.2) : P = pzero := by
  obtain ⟨h0, h1, h2⟩ := h
  apply Pt.ext
  · rw [hx] at h1
    rcases mulz h1.symm with e | e
    · exact e
    · exact absurd e h0
  · refine canc h0 ?_
    show c.2.2 * P.y = c.2.2 * 1
    rw [hy] at h2
    grobner
/-- What brings a point to (0, 1) does so with what is left. -/
theorem smul_mod {m n : Nat} {P : Pt} (hm : smul m P = pzero) (hn : smul n P = pzero) : smul (n % m) P = pzero := by
  have e : smul (n / m * m + n % m) P = smul n P := by rw [Nat.mul_comm, Nat.div_add_mod]
  rw [smul_add, smul_mul, hm, smul_zero, zero_padd] at e
  rw [e, hn]
theorem smul_gcd (P : Pt) : ∀ m n : Nat, smul m P = pzero → smul n P = pzero → smul (Nat.gcd m n) P = pzero := by
  intro m n
  induction m, n using Nat.gcd.induction with
  | H0 n => intro _ h; rw [Nat.gcd_zero_left]; exact h
  | H1 m n hm ih =>
    intro h1 h2
    rw [Nat.gcd_rec]
    exact ih (smul_mod h1 h2) h1
/-- Points, one by one: at most two of each y. -/
theorem roots_two {c : FF} : ∀ l : List FF, l.Nodup → (∀ x ∈ l, x*x = c) → l.length ≤ 2
  | [], _, _ => by simp
  | [_], _, _ => by simp
  | [_, _], _, _ => by simp
  | x :: y :: z :: l, hn, h => by
    exfalso
    have hx := h x (by simp)
    have hy := h y (by simp)
    have hz := h z (by simp)
    simp only [List.nodup_cons, List.mem_cons, not_or] at hn
    have f1 : (x - y) * (x + y) = 0 := by grobner
    have f2 : (x - z) * (x + z) = 0 := by grobner
    have f3 : (y - z) * (y + z) = 0 := by grobner
    rcases mulz f1 with e1 | e1
    · exact hn.1.1 (by grobner)
    rcases mulz f2 with e2 | e2
    · exact hn.1.2.1 (by grobner)
    · exact hn.2.1.1 (by grobner)
theorem on_y {y : FF} : ∃ c : FF, ∀ x, On dF x y → x*x = c := by
  have hd : 1 + dF*(y*y) ≠ 0 := by
    intro h0
    have h1 : y ≠ 0 := by rintro rfl; exact absurd h0 (by decide +kernel)
    have hv := mul_finv h1
    refine dF_no (iF * finv y) ?_
    have hi := iF_sq
    generalize finv y = v at *
    have e1 : dF * (y * v) * (y * v) = -(v * v) := by grobner
    rw [hv] at e1
    grobner
  refine ⟨(y*y - 1) * finv (1 + dF*(y*y)), fun x h => ?_⟩
  have hv := mul_finv hd
  unfold On at h
  generalize finv (1 + dF*(y*y)) = v at *
  have e : (y*y - 1) * v = x*x*((1 + dF*(y*y)) * v) := by grobner
  rw [e, hv]; grobner
instance instOn (x y : FF) : Decidable (On dF x y) := inferInstanceAs (Decidable (_ = _))
def rowP (y : FF) : List Pt := (List.finRange pN).filterMap fun x => if h : On dF x y then some ⟨x, y, h⟩ else none
theorem rowP_mem {y : FF} {P : Pt} (h : P ∈ rowP y) : P.y = y := by
  obtain ⟨x, _, hx⟩ := List.mem_filterMap.1 h
  split at hx
  · cases hx; rfl
  · cases hx
theorem rowP_nodup (y : FF) : (rowP y).Nodup := by
  refine List.pairwise_filterMap.2 ((List.nodup_finRange pN).imp fun {a b} hab P hP Q hQ he => hab ?_)
  split at hP
  · split at hQ
    · cases hP; cases hQ
      exact congrArg Pt.x he
    · cases hQ
  · cases hP
theorem rowP_len (y : FF) : (rowP y).length ≤ 2 := by
  obtain ⟨c, hc⟩ := on_y (y := y)
  have hn : ((rowP y).map Pt.x).Nodup := by
    refine List.pairwise_map.2 (List.Pairwise.imp_of_mem ?_ (rowP_nodup y))
    intro P Q hP hQ hne he
    exact hne (Pt.ext he ((rowP_mem hP).trans (rowP_mem hQ).symm))
  have := roots_two (c := c) _ hn fun x hx => by
    obtain ⟨P, hP, rfl⟩ := List.mem_map.1 hx
    have ho := P.on
    rw [rowP_mem hP] at ho
    exact hc _ ho
  simpa using this
theorem sum_le : ∀ l : List Nat, (∀ x ∈ l, x ≤ 2) → l.sum ≤ 2 * l.length
  | [], _ => by simp
  | x :: l, h => by
    have := sum_le l fun y hy => h y (by simp [hy])
    have := h x (by simp)
    simp only [List.sum_cons, List.length_cons]
    omega
theorem flat_len {n : Nat} (f : Fin n → List Pt) (h : ∀ y, (f y).length ≤ 2) : ((List.finRange n).flatMap f).length ≤ 2 * n := by
  rw [List.length_flatMap]
  have := sum_le ((List.finRange n).map fun a => (f a).length) fun x hx => by
    obtain ⟨y, _, rfl⟩ := List.mem_map.1 hx
    exact h y
  rwa [List.length_map, List.length_finRange] at this
theorem all_points : ∃ l : List Pt, l.Nodup ∧ (∀ P, P ∈ l) ∧ l.length ≤ 2 * pN := by
  refine ⟨(List.finRange pN).flatMap rowP, ?_, fun P => ?_, ?_⟩
  · refine List.pairwise_flatMap.2 ⟨fun y _ => rowP_nodup y, (List.nodup_finRange pN).imp fun {a b} hab P hP Q hQ he => hab ?_⟩
    rw [← rowP_mem hP, ← rowP_mem hQ, he]
  · refine List.mem_flatMap.2 ⟨P.y, List.mem_finRange _, List.mem_filterMap.2 ⟨P.x, List.mem_finRange _, ?_⟩⟩
    rw [dif_pos P.on]
  · exact flat_len rowP rowP_len
/-- A sum of many. -/
def psum : List Pt → Pt
  | [] => pzero
  | P :: l => padd P (psum l)
theorem psum_perm {l m : List Pt} (h : l.Perm m) : psum l = psum m := by
  induction h with
  | nil => rfl
  | cons x _ ih => show padd x _ = padd x _; rw [ih]
  | swap x y l =>
    show padd y (padd x (psum l)) = padd x (padd y (psum l))
    rw [← padd_assoc, padd_comm y x, padd_assoc]
  | trans _ _ h1 h2 => exact h1.trans h2
theorem psum_map (a : Pt) : ∀ l, psum (l.map (padd a)) = padd (smul l.length a) (psum l)
  | [] => (zero_padd _).symm
  | P :: l => by
    show padd (padd a P) (psum (l.map (padd a))) = padd (padd (smul l.length a) a) (padd P (psum l))
    rw [psum_map a l, padd_assoc a, ← padd_assoc P, padd_comm P, padd_assoc _ P, ← padd_assoc a, padd_comm a]
theorem perm_same {α : Type} : ∀ {l m : List α}, l.Nodup → m.Nodup → (∀ x, x ∈ l ↔ x ∈ m) → l.Perm m
  | [], m, _, _, h => by
    cases m with
    | nil => exact .refl _
    | cons y m => exact absurd ((h y).2 (by simp)) (by simp)
  | x :: l, m, hl, hm, h => by
    obtain ⟨s, t, rfl⟩ := List.append_of_mem ((h x).1 (by simp))
    have hm' := (List.perm_middle (a := x) (l₁ := s) (l₂ := t)).nodup hm
    rw [List.nodup_cons] at hl hm'
    refine (List.Perm.cons x (perm_same hl.2 hm'.2 fun y => ?_)).trans List.perm_middle.symm
    have := h y
    constructor
    · intro hy
      have hne : y ≠ x := fun e => hl.1 (e ▸ hy)
      have := this.1 (by simp [hy])
      simp only [List.mem_append, List.mem_cons] at this ⊢
      rcases this with k | k | k
      · exact .inl k
      · exact absurd k hne
      · exact .inr k
    · intro hy
      have hne : y ≠ x := fun e => hm'.1 (e ▸ hy)
      have := this.2 (by simp only [List.mem_append, List.mem_cons] at hy ⊢; rcases hy with k | k; exact .inl k; exact .inr (.inr k))
      simp only [List.mem_cons] at this
      rcases this with k | k
      · exact absurd k hne
      · exact k
theorem all_order : ∃ n, n ≤ 2 * pN ∧ 0 < n ∧ ∀ a, smul n a = pzero := by
  obtain ⟨l, hn, hm, hl⟩ := all_points
  refine ⟨l.length, hl, List.length_pos_of_mem (hm pzero), fun a => ?_⟩
  have hp : (l.map (padd a)).Perm l := by
    refine perm_same ?_ hn fun P => ⟨fun _ => hm P, fun _ => List.mem_map.2 ⟨padd (pneg a) P, hm _, ?_⟩⟩
    · refine List.pairwise_map.2 (hn.imp fun {P Q} hne he => hne ?_)
      rw [padd_comm a P, padd_comm a Q] at he
      exact padd_cancel he
    · rw [← padd_assoc, padd_neg, zero_padd]
  have e := psum_perm hp
  rw [psum_map] at e
  have e2 : padd (smul l.length a) (psum l) = padd pzero (psum l) := by rw [e, zero_padd]
  exact padd_cancel e2
end Go.Proofs.YtelppapkffjmpaaDoor
end
section
namespace Go.Proofs.YtelppapkffjmpaaDoor
open Go.RowKit Go.Shelf
set_option linter.unusedVariables false
set_option maxRecDepth 100000

theorem bP_over : Over (bxF, byF, 1) bP := ⟨by show (1 : FF) ≠ 0; decide +kernel, by show bxF = bxF * 1; decide +kernel, by show byF = byF * 1; decide +kernel⟩
theorem bP_calc : (omul (bxF, byF, 1) 253 lN).1 = 0 ∧ (omul (bxF, byF, 1) 253 lN).2.1 = (omul (bxF, byF, 1) 253 lN).2.2 := by decide +kernel
theorem bP_order : smul lN bP = pzero := over_zero (over_mul bP_over 253 lN (by decide +kernel)) bP_calc.1 bP_calc.2
theorem bP_ne : bP ≠ pzero := fun h => absurd (congrArg Pt.y h) (by show byF ≠ 1; decide +kernel)
/-- Points of small order. -/
def t8P : Pt := ⟨14399317868200118260347934320527232580618823971194345261214217575416788799818, 55188659117513257062467267217118295137698188065244968500265048394206261417927, by unfold On; decide +kernel⟩
def t4P : Pt := ⟨38214883241950591754978413199355411911188925816896391856984770930832735035197, 0, by unfold On; decide +kernel⟩
def t2P : Pt := ⟨0, 57896044618658097711785492504343953926634992332820282019728792003956564819948, by unfold On; decide +kernel⟩
theorem t8_two : padd t8P t8P = t4P := padd_is (by decide +kernel) (by decide +kernel)
theorem t4_two : padd t4P t4P = t2P := padd_is (by decide +kernel) (by decide +kernel)
theorem t2_two : padd t2P t2P = pzero := padd_is (by decide +kernel) (by decide +kernel)
theorem smul_two (P : Pt) : smul 2 P = padd P P := by
  show padd (smul 1 P) P = padd P P
  rw [smul_one]
theorem t8_4 : smul 4 t8P = t2P := by
  rw [show (4 : Nat) = 2 * 2 from rfl, smul_mul, smul_two t8P, t8_two, smul_two, t4_two]
theorem t8_8 : smul 8 t8P = pzero := by
  rw [show (8 : Nat) = 2 * 4 from rfl, smul_mul, t8_4, smul_two, t2_two]
theorem t2_ne : t2P ≠ pzero := fun h => absurd (congrArg Pt.y h) (by show (57896044618658097711785492504343953926634992332820282019728792003956564819948 : FF) ≠ 1; decide +kernel)
theorem dvd8 {g : Nat} (h : g ∣ 8) (h4 : ¬ g ∣ 4) : g = 8 := by
  have hl : g ≤ 8 := Nat.le_of_dvd (by decide) h
  have : ∀ g, g ≤ 8 → g ∣ 8 → ¬ g ∣ 4 → g = 8 := by decide
  exact this g hl h h4
/-- Eight times the order, of any point. -/
theorem all_8l (P : Pt) : smul (8 * lN) P = pzero := by
  obtain ⟨n, hn, h0, ha⟩ := all_order
  have d1 : lN ∣ n := by
    refine Classical.byContradiction fun hd => bP_ne ?_
    have hg := smul_gcd bP lN n bP_order (ha bP)
    rw [lN_prime.cop hd, smul_one] at hg
    exact hg
  have d2 : 8 ∣ n := by
    have hg := smul_gcd t8P 8 n t8_8 (ha t8P)
    have h8 : Nat.gcd 8 n = 8 := dvd8 (Nat.gcd_dvd_left 8 n) fun ⟨c, hc⟩ => t2_ne (by
      rw [← t8_4, hc, Nat.mul_comm, smul_mul, hg, smul_zero])
    exact h8 ▸ Nat.gcd_dvd_right 8 n
  have d3 : 8 * lN ∣ n := Nat.Coprime.mul_dvd_of_dvd_of_dvd (by decide +kernel) d2 d1
  obtain ⟨c, rfl⟩ := d3
  have hc : c = 1 := by
    have k1 : 2 * pN < 8 * lN * 2 := by decide +kernel
    have k2 : 8 * lN * c < 8 * lN * 2 := Nat.lt_of_le_of_lt hn k1
    have k3 : c < 2 := Nat.lt_of_mul_lt_mul_left k2
    have k4 : c ≠ 0 := by rintro rfl; rw [Nat.mul_zero] at h0; exact Nat.lt_irrefl 0 h0
    omega
  have := ha P
  rwa [hc, Nat.mul_one] at this
theorem order8 (P : Pt) : smul lN (smul 8 P) = pzero := by
  rw [← smul_mul, Nat.mul_comm]
  exact all_8l P
/-- The base point so many times hangs on what is left by the order alone. -/
theorem smul_bP_mod (k : Nat) : smul (k % lN) bP = smul k bP := by
  have e : smul (k / lN * lN + k % lN) bP = smul k bP := by rw [Nat.mul_comm, Nat.div_add_mod]
  rw [smul_add, smul_mul, bP_order, smul_zero, zero_padd] at e
  exact e
def eight32 : List Int := 8 :: List.replicate 31 0
theorem kB_eight : kB eight32 = 8 := by decide +kernel
theorem kB_ord : kB (numB (lN : Int)) = lN := by decide +kernel
def ordW : List Int := [6346243789798364141, 1503914060200516822, 0, 1152921504606846976]
theorem ordW_eq : numW 4 (lN : Int) = ordW := by decide +kernel
end Go.Proofs.YtelppapkffjmpaaDoor
end
