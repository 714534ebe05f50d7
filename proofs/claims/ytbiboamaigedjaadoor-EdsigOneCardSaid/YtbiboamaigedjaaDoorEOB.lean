/- The machine of symbols: operations that touch no memory do what is said. No program stands here. The machine of symbols: operations that read and writ -/
import Derived.Deep.LoopGhost
import Derived.Test.YtbiboamaigedjaaDoorEOA
namespace Go.Proofs.YtbiboamaigedjaaDoor
open Go.RowKit
set_option linter.unusedVariables false
set_option linter.constructorNameAsVariable false
set_option linter.unusedSimpArgs false

def QK : List Prop -> Prop
  | [] => True
  | p :: l => p /\ QK l
section
variable {P : Program} {ops : Array Oper} {o : Oper} {N : Nat} {w : World} {ρ : Qs} {f : SF} {T : TT} {md : Bool} {acc acc' : List Prop}
/-- A value that an operation yields. -/
abbrev Yl (P : Program) (ops : Array Oper) (o : Oper) (N : Nat) (ρ : Qs) (fl : Fl) (w : World) (v : SV) : Prop := DV P ops o N fl w (v.den ρ)
theorem DV.eq {fl : Fl} {v v' : Value} (h : DV P ops o N fl w v) (e : v = v') : DV P ops o N fl w v' := e ▸ h
theorem QgN {t t' : TypeId} {x y : Operand} {K K2 : IntKind} {m n : Int} {f : Fl} (ho : o.op = .binOp .shr t x y t') (hx : ev f x = some (.int K m)) (hy : ev f y = some (.int K2 n)) (hn : 0 <= n) (hn2 : n <= K.bits) (hw : Qg ops o f = some true) : DV P ops o N f w (.int K (m / 2 ^ n.toNat)) := fun a ha =>
  Qe.shr (Qc ha hw) ho (ha.ev hx) (ha.ev hy) hn hn2 rfl ⟨rfl, rfl⟩
theorem QgO {t t' : TypeId} {x y : Operand} {K K2 : IntKind} {m n : Int} {f : Fl} (ho : o.op = .binOp .shl t x y t') (hx : ev f x = some (.int K m)) (hy : ev f y = some (.int K2 n)) (hn : 0 <= n) (hn2 : n <= K.bits) (hw : Qg ops o f = some true) : DV P ops o N f w (.int K (K.wrap (m * 2 ^ n.toNat))) := fun a ha =>
  Qe.shl (Qc ha hw) ho (ha.ev hx) (ha.ev hy) hn hn2 rfl ⟨rfl, rfl⟩
theorem FC {fl : Fl} (hw : Qg ops o fl = some true) {op : BinOp} {t t' : TypeId} {x y : Operand} {K K2 : IntKind} {m n : Int} (ho : o.op = .binOp op t x y t') (hx : ev fl x = some (.int K m)) (hy : ev fl y = some (.int K2 n)) {v : SV} (h : shf op K m n acc = some (v, acc')) (hc : QK acc') : QK acc /\ Yl P ops o N ρ fl w v := by
  cases op <;> simp only [shf] at h
  case shl => simp only [Option.some.injEq, Prod.mk.injEq] at h; obtain ⟨rfl, rfl⟩ := h; exact ⟨hc.2, (QgO ho hx hy (KN hc.1).1 (KN hc.1).2 hw).eq (by simp only [SV.den])⟩
  case shr => simp only [Option.some.injEq, Prod.mk.injEq] at h; obtain ⟨rfl, rfl⟩ := h; exact ⟨hc.2, (QgN ho hx hy (KN hc.1).1 (KN hc.1).2 hw).eq (by simp only [SV.den])⟩
  all_goals cases h
theorem Qd6 {fl : Fl} (hw : Qg ops o fl = some true) {op : BinOp} {t t' : TypeId} {x y : Operand} {K : IntKind} {m n : Int} (ho : o.op = .binOp op t x y t') (hx : ev fl x = some (.int K m)) (hy : ev fl y = some (.int K n)) {v : SV} (h : QfC md op K m n acc = some (v, acc')) (hc : QK acc') : QK acc /\ Yl P ops o N ρ fl w v := by
  cases op <;> simp only [QfC] at h
  case add =>
    cases md <;> simp only [Option.some.injEq, Prod.mk.injEq] at h <;> obtain ⟨rfl, rfl⟩ := h
    . exact ⟨hc.2, (Qci ho hx hy (Yt hc.1) hw).eq (by simp only [SV.den])⟩
    . exact ⟨hc, (Qci ho hx hy rfl hw).eq (by simp only [SV.den])⟩
  case sub =>
    cases md <;> simp only [Option.some.injEq, Prod.mk.injEq] at h <;> obtain ⟨rfl, rfl⟩ := h
    . exact ⟨hc.2, (Qb6 ho hx hy (Yt hc.1) hw).eq (by simp only [SV.den])⟩
    . exact ⟨hc, (Qb6 ho hx hy rfl hw).eq (by simp only [SV.den])⟩
  case mul =>
    cases md <;> simp only [Option.some.injEq, Prod.mk.injEq] at h <;> obtain ⟨rfl, rfl⟩ := h
    . exact ⟨hc.2, (Qca ho hx hy (Yt hc.1) hw).eq (by simp only [SV.den])⟩
    . exact ⟨hc, (Qca ho hx hy rfl hw).eq (by simp only [SV.den])⟩
  case quo =>
    simp only [Option.some.injEq, Prod.mk.injEq] at h
    obtain ⟨rfl, rfl⟩ := h
    obtain ⟨⟨h1, h2, h3⟩, h4⟩ := hc
    exact ⟨h4, (Qfm (r := m / n) ho hx hy (by omega) (by rw [Int.tdiv_eq_ediv_of_nonneg h1]; exact Yt h3) hw).eq (by simp only [SV.den])⟩
  case rem =>
    simp only [Option.some.injEq, Prod.mk.injEq] at h
    obtain ⟨rfl, rfl⟩ := h
    obtain ⟨⟨h1, h2⟩, h4⟩ := hc
    exact ⟨h4, (Qfl ho hx hy (by omega) (Int.tmod_eq_emod_of_nonneg h1) hw).eq (by simp only [SV.den])⟩
  case and => simp only [Option.some.injEq, Prod.mk.injEq] at h; obtain ⟨rfl, rfl⟩ := h; exact ⟨hc, (Qch ho hx hy rfl hw).eq (by simp only [SV.den])⟩
  case or => simp only [Option.some.injEq, Prod.mk.injEq] at h; obtain ⟨rfl, rfl⟩ := h; exact ⟨hc, (QdK ho hx hy rfl hw).eq (by simp only [SV.den])⟩
  case xor => simp only [Option.some.injEq, Prod.mk.injEq] at h; obtain ⟨rfl, rfl⟩ := h; exact ⟨hc, (Qb5 ho hx hy rfl hw).eq (by simp only [SV.den])⟩
  case eql => simp only [Option.some.injEq, Prod.mk.injEq] at h; obtain ⟨rfl, rfl⟩ := h; exact ⟨hc, (Qfu ho hx hy hw).eq (by simp only [SV.den])⟩
  case neq => simp only [Option.some.injEq, Prod.mk.injEq] at h; obtain ⟨rfl, rfl⟩ := h; exact ⟨hc, (Qfn ho hx hy hw).eq (by simp only [SV.den]; simp)⟩
  case lss => simp only [Option.some.injEq, Prod.mk.injEq] at h; obtain ⟨rfl, rfl⟩ := h; exact ⟨hc, (Qfq ho hx hy hw).eq (by simp only [SV.den])⟩
  case leq => simp only [Option.some.injEq, Prod.mk.injEq] at h; obtain ⟨rfl, rfl⟩ := h; exact ⟨hc, (Qfr ho hx hy hw).eq (by simp only [SV.den])⟩
  case gtr => simp only [Option.some.injEq, Prod.mk.injEq] at h; obtain ⟨rfl, rfl⟩ := h; exact ⟨hc, (Qfs ho hx hy hw).eq (by simp only [SV.den])⟩
  case geq => simp only [Option.some.injEq, Prod.mk.injEq] at h; obtain ⟨rfl, rfl⟩ := h; exact ⟨hc, (Qft ho hx hy hw).eq (by simp only [SV.den])⟩
  case shl => exact FC hw ho hx hy h hc
  case shr => exact FC hw ho hx hy h hc
  all_goals cases h
theorem Qd4 {fl : Fl} (hw : Qg ops o fl = some true) {op : BinOp} {t t' : TypeId} {x y : Operand} {m n : ByteArray} (ho : o.op = .binOp op t x y t') (hx : ev fl x = some (.string m)) (hy : ev fl y = some (.string n)) {v : SV} (h : QfA op m n acc = some (v, acc')) (hc : QK acc') : QK acc /\ Yl P ops o N ρ fl w v := by
  cases op <;> simp only [QfA] at h
  case eql => simp only [Option.some.injEq, Prod.mk.injEq] at h; obtain ⟨rfl, rfl⟩ := h; exact ⟨hc, (QdT ho hx hy hw).eq (by simp only [SV.den])⟩
  case neq => simp only [Option.some.injEq, Prod.mk.injEq] at h; obtain ⟨rfl, rfl⟩ := h; exact ⟨hc, (QdL ho hx hy hw).eq (by simp only [SV.den]; simp)⟩
  case lss => simp only [Option.some.injEq, Prod.mk.injEq] at h; obtain ⟨rfl, rfl⟩ := h; exact ⟨hc, (QdO ho hx hy hw).eq (by simp only [SV.den]; simp)⟩
  case geq => simp only [Option.some.injEq, Prod.mk.injEq] at h; obtain ⟨rfl, rfl⟩ := h; exact ⟨hc, (QdR ho hx hy hw).eq (by simp only [SV.den]; simp)⟩
  case gtr => simp only [Option.some.injEq, Prod.mk.injEq] at h; obtain ⟨rfl, rfl⟩ := h; exact ⟨hc, (QdQ ho hx hy hw).eq (by simp only [SV.den]; simp)⟩
  case add => simp only [Option.some.injEq, Prod.mk.injEq] at h; obtain ⟨rfl, rfl⟩ := h; exact ⟨hc.2, (QdV ho hx hy hc.1 hw).eq (by simp only [SV.den])⟩
  all_goals cases h
theorem Qd5 {fl : Fl} (hw : Qg ops o fl = some true) {op : BinOp} {t t' e : TypeId} {x y : Operand} {K K' : IntKind} {xs ys : List Int} {n : Nat} (ho : o.op = .binOp op t x y t') (hu : P.underlying t = some (.array n e)) (he : P.underlying e = some (.int K')) (hs : X2 P e 1 = true) (hg : P.eqGuardType P.depth t = false) (hx : ev fl x = some (Q2 K xs)) (hy : ev fl y = some (Q2 K ys)) {v : SV} (h : QfB op xs ys n acc = some (v, acc')) (hc : QK acc') : QK acc /\ Yl P ops o N ρ fl w v := by
  cases op <;> simp only [QfB] at h
  case eql => simp only [Option.some.injEq, Prod.mk.injEq] at h; obtain ⟨rfl, rfl⟩ := h; exact ⟨hc.2, (Qfw ho hu he hs hg hx hy hc.1.1 hc.1.2 hw).eq (by simp only [SV.den])⟩
  case neq => simp only [Option.some.injEq, Prod.mk.injEq] at h; obtain ⟨rfl, rfl⟩ := h; exact ⟨hc.2, (QdN ho hu he hs hg hx hy hc.1.1 hc.1.2 hw).eq (by simp only [SV.den]; simp)⟩
  all_goals cases h
theorem QaA {p : Prop} {x y : SV} (h : unW p acc x = (y, acc')) (hc : QK acc') : QK acc /\ (p -> x.den ρ = y.den ρ) := by
  unfold unW at h
  split at h
  . rename_i q d z
    simp only [Prod.mk.injEq] at h
    obtain ⟨rfl, rfl⟩ := h
    refine ⟨hc.2, fun hp => ?_⟩
    have hq := hc.1 hp
    cases d with
    | isTrue _ => simp only [SV.den]
    | isFalse hn => exact absurd hq hn
  . simp only [Prod.mk.injEq] at h
    obtain ⟨rfl, rfl⟩ := h
    exact ⟨hc, fun _ => rfl⟩
theorem Qbo {p : Prop} {d : Decidable p} {x y v : SV} (h : Qbp p d x y acc = some (v, acc')) : acc' = acc /\ v.den ρ = if p then x.den ρ else y.den ρ := by
  unfold Qbp at h
  split at h
  . rename_i q e
    simp only [Option.some.injEq, Prod.mk.injEq] at h
    obtain ⟨rfl, rfl⟩ := h
    refine ⟨rfl, ?_⟩
    by_cases hp : p <;> by_cases hq : q <;> simp [SV.den, hp, hq]
  . rename_i q e
    simp only [Option.some.injEq, Prod.mk.injEq] at h
    obtain ⟨rfl, rfl⟩ := h
    refine ⟨rfl, ?_⟩
    by_cases hp : p <;> by_cases hq : q <;> simp [SV.den, hp, hq]
  . simp only [Option.some.injEq, Prod.mk.injEq] at h
    obtain ⟨rfl, rfl⟩ := h
    refine ⟨rfl, ?_⟩
    by_cases hp : p <;> simp [SV.den, hp]
  . rename_i K m K' n
    split at h
    . rename_i hk
      simp only [Option.some.injEq, Prod.mk.injEq] at h
      obtain ⟨rfl, rfl⟩ := h
      refine ⟨rfl, ?_⟩
      rw [<- Uo hk]
      by_cases hp : p <;> simp [SV.den, hp]
    . cases h
  . simp only [Option.some.injEq, Prod.mk.injEq] at h
    obtain ⟨rfl, rfl⟩ := h
    refine ⟨rfl, ?_⟩
    by_cases hp : p <;> simp [SV.den, hp]
  . cases h
theorem U6 (hT : T.ok P = true) {fl : Fl} {ev' : Operand -> Option SV} (hev : ∀ {x v}, ev' x = some v -> ev fl x = some (v.den ρ)) (hw : Qg ops o fl = some true) {v : SV} (h : G9 T md ev' acc o.op = some (v, acc')) (hc : QK acc') : QK acc /\ Yl P ops o N ρ fl w v := by
  generalize hq : o.op = q at h
  unfold G9 at h
  split at h
  . -- move
    split at h
    . rename_i u hu
      simp only [Option.some.injEq, Prod.mk.injEq] at h
      obtain ⟨rfl, rfl⟩ := h
      exact ⟨hc, Gl hq (hev hu) hw⟩
    . cases h
  . split at h
    . rename_i u hu
      simp only [Option.some.injEq, Prod.mk.injEq] at h
      obtain ⟨rfl, rfl⟩ := h
      exact ⟨hc, Ud hq (hev hu) hw⟩
    . cases h
  . -- pick
    rename_i c x y
    split at h
    . rename_i hcc
      split at h
      . rename_i u hu
        simp only [Option.some.injEq, Prod.mk.injEq] at h
        obtain ⟨rfl, rfl⟩ := h
        have h1 := hev hcc
        simp only [SV.den] at h1
        exact ⟨hc, Gk hq h1 (hev hu) hw⟩
      . cases h
    . rename_i hcc
      split at h
      . rename_i u hu
        simp only [Option.some.injEq, Prod.mk.injEq] at h
        obtain ⟨rfl, rfl⟩ := h
        have h1 := hev hcc
        simp only [SV.den] at h1
        exact ⟨hc, Gk hq h1 (hev hu) hw⟩
      . cases h
    . rename_i p d hcc
      have h1 := hev hcc
      simp only [SV.den] at h1
      split at h
      . rename_i vx hx
        split at h
        . rename_i vy hy
          split at h
          rename_i ux a1 e1
          split at h
          rename_i uy a2 e2
          obtain ⟨rfl, hp⟩ := Qbo (ρ := ρ) h
          obtain ⟨hc1, g2⟩ := QaA (ρ := ρ) e2 hc
          obtain ⟨hc0, g1⟩ := QaA (ρ := ρ) e1 hc1
          refine ⟨hc0, Gk hq h1 ?_ hw⟩
          show _ = some (v.den ρ)
          rw [hp]
          by_cases hp' : p
          . simp only [hp', decide_true, cond_true, if_true]; rw [hev hx, g1 hp']
          . simp only [hp', decide_false, cond_false, if_false]; rw [hev hy, g2 hp']
        . cases h
      . cases h
    . cases h
  . -- binOp
    rename_i op t x y t'
    split at h
    . rename_i K m hx
      have h1 := hev hx
      simp only [SV.den] at h1
      split at h
      . rename_i K' n hy
        have h2 := hev hy
        simp only [SV.den] at h2
        split at h
        . rename_i hk
          rw [Uo hk] at h2
          exact Qd6 hw hq h1 h2 h hc
        . exact FC hw hq h1 h2 h hc
      . cases h
    . rename_i m hx
      have h1 := hev hx
      simp only [SV.den] at h1
      split at h
      . rename_i n hy
        have h2 := hev hy
        simp only [SV.den] at h2
        exact Qd4 hw hq h1 h2 h hc
      . cases h
    . rename_i K xs n hx
      have h1 := hev hx
      simp only [SV.den] at h1
      split at h
      . rename_i K' ys n' hy
        have h2 := hev hy
        simp only [SV.den] at h2
        split at h
        . rename_i hk
          rw [Uo hk] at h2
          split at h
          . rename_i i hi
            split at h
            . rename_i hu
              split at h
              . cases h
              . rename_i hn
                split at h
                . rename_i j hj
                  split at h
                  . rename_i hs
                    split at h
                    . rename_i Kj hkj
                      have hsz := TT.size hT hj
                      rw [Nat.eq_of_beq_eq_true hs] at hsz
                      exact Qd5 hw hq (TT.arr hT hi hn) (TT.int hT hj hkj) hsz (TT.eqg hT hi hn hu) h1 h2 h hc
                    . cases h
                  . cases h
                . cases h
            . cases h
          . cases h
        . cases h
      . cases h
    . rename_i a hx
      have h1 := hev hx
      simp only [SV.den] at h1
      split at h
      . rename_i b hy
        have h2 := hev hy
        simp only [SV.den] at h2
        split at h
        . rename_i i hi
          split at h
          . rename_i hyy
            have hu := TT.bol hT hi hyy
            unfold Qgn at h
            split at h
            . cases a <;> cases b <;> simp only [Option.some.injEq, Prod.mk.injEq] at h <;> obtain ⟨rfl, rfl⟩ := h <;> exact ⟨hc, (Qfv hq hu h1 h2 hw).eq (by simp only [SV.den]; rfl)⟩
            . cases a <;> cases b <;> simp only [Option.some.injEq, Prod.mk.injEq] at h <;> obtain ⟨rfl, rfl⟩ := h <;> exact ⟨hc, (QdM hq hu h1 h2 hw).eq (by simp only [SV.den]; rfl)⟩
            . cases h
          . cases h
        . cases h
      . cases h
    . cases h
  . -- not
    rename_i t x
    split at h
    . rename_i hx
      simp only [Option.some.injEq, Prod.mk.injEq] at h
      obtain ⟨rfl, rfl⟩ := h
      have h1 := hev hx
      simp only [SV.den] at h1
      exact ⟨hc, (F6 hq h1 hw).eq (by simp only [SV.den]; rfl)⟩
    . rename_i hx
      simp only [Option.some.injEq, Prod.mk.injEq] at h
      obtain ⟨rfl, rfl⟩ := h
      have h1 := hev hx
      simp only [SV.den] at h1
      exact ⟨hc, (F6 hq h1 hw).eq (by simp only [SV.den]; rfl)⟩
    . rename_i p d hx
      simp only [Option.some.injEq, Prod.mk.injEq] at h
      obtain ⟨rfl, rfl⟩ := h
      have h1 := hev hx
      simp only [SV.den] at h1
      exact ⟨hc, (F6 hq h1 hw).eq (by simp only [SV.den]; by_cases hp : p <;> simp [hp])⟩
    . cases h
  . -- convert
    rename_i s t x
    split at h
    . rename_i i' hs
      split at h
      . rename_i i ht
        split at h
        . rename_i K' hk
          split at h
          . rename_i K m hx
            have h1 := hev hx
            simp only [SV.den] at h1
            obtain ⟨ds, hds⟩ := TT.und hT hs
            split at h
            . simp only [Option.some.injEq, Prod.mk.injEq] at h
              obtain ⟨rfl, rfl⟩ := h
              exact ⟨hc, (Dd hq hds (TT.int hT ht hk) h1 rfl hw).eq (by simp only [SV.den])⟩
            . simp only [Option.some.injEq, Prod.mk.injEq] at h
              obtain ⟨rfl, rfl⟩ := h
              exact ⟨hc.2, (Dd hq hds (TT.int hT ht hk) h1 (Yt hc.1) hw).eq (by simp only [SV.den])⟩
          . cases h
        . cases h
      . cases h
    . cases h
  . -- extract
    rename_i x i
    split at h
    . rename_i l hx
      split at h
      . rename_i u hu
        simp only [Option.some.injEq, Prod.mk.injEq] at h
        obtain ⟨rfl, rfl⟩ := h
        have h1 := hev hx
        simp only [SV.den] at h1
        exact ⟨hc, F8 hq h1 (by simpa using HQ (FW hu)) hw⟩
      . cases h
    . cases h
  . -- nilCheck
    rename_i x
    split at h
    . rename_i k o' hx
      simp only [Option.some.injEq, Prod.mk.injEq] at h
      obtain ⟨rfl, rfl⟩ := h
      have h1 := hev hx
      simp only [SV.den] at h1
      exact ⟨hc, (YI hq h1 hw).eq (by simp only [SV.den])⟩
    . rename_i k o' hx
      simp only [Option.some.injEq, Prod.mk.injEq] at h
      obtain ⟨rfl, rfl⟩ := h
      have h1 := hev hx
      simp only [SV.den] at h1
      exact ⟨hc, (YI hq h1 hw).eq (by simp only [SV.den])⟩
    . rename_i k o' s' n' hx
      simp only [Option.some.injEq, Prod.mk.injEq] at h
      obtain ⟨rfl, rfl⟩ := h
      have h1 := hev hx
      simp only [SV.den] at h1
      exact ⟨hc, (YI hq h1 hw).eq (by simp only [SV.den])⟩
    . cases h
  . -- fieldAddr
    rename_i t x k
    split at h
    . rename_i i ht
      split at h
      . rename_i off sz hoff
        have hf := TT.fld hT ht (KZ hoff)
        split at h
        . rename_i b o' hx
          simp only [Option.some.injEq, Prod.mk.injEq] at h
          obtain ⟨rfl, rfl⟩ := h
          have h1 := hev hx
          simp only [SV.den] at h1
          exact ⟨hc, (Qcd hq hf h1 rfl hw).eq (by simp only [SV.den]; rfl)⟩
        . rename_i b o' hx
          simp only [Option.some.injEq, Prod.mk.injEq] at h
          obtain ⟨rfl, rfl⟩ := h
          have h1 := hev hx
          simp only [SV.den] at h1
          exact ⟨hc, (Qcd hq hf h1 rfl hw).eq (by simp only [SV.den, Nat.add_eq, Nat.add_assoc])⟩
        . cases h
      . cases h
    . cases h
  . -- len
    rename_i x t
    split at h
    . rename_i i ht
      split at h
      . rename_i b hx
        split at h
        . rename_i hy
          simp only [Option.some.injEq, Prod.mk.injEq] at h
          obtain ⟨rfl, rfl⟩ := h
          have h1 := hev hx
          simp only [SV.den] at h1
          exact ⟨hc, (QdP hq (TT.str hT ht hy) h1 hw).eq (by simp only [SV.den])⟩
        . cases h
      . rename_i a l c hx
        split at h
        . rename_i hy
          simp only [Option.some.injEq, Prod.mk.injEq] at h
          obtain ⟨rfl, rfl⟩ := h
          have h1 := hev hx
          simp only [SV.den] at h1
          exact ⟨hc, (F7 hq (TT.slc hT ht hy) h1 hw).eq (by simp only [SV.den])⟩
        . cases h
      . rename_i k o l c hx
        split at h
        . rename_i hy
          simp only [Option.some.injEq, Prod.mk.injEq] at h
          obtain ⟨rfl, rfl⟩ := h
          have h1 := hev hx
          simp only [SV.den] at h1
          exact ⟨hc, (F7 hq (TT.slc hT ht hy) h1 hw).eq (by simp only [SV.den])⟩
        . cases h
      . rename_i k o l c hx
        split at h
        . rename_i hy
          simp only [Option.some.injEq, Prod.mk.injEq] at h
          obtain ⟨rfl, rfl⟩ := h
          have h1 := hev hx
          simp only [SV.den] at h1
          exact ⟨hc, (F7 hq (TT.slc hT ht hy) h1 hw).eq (by simp only [SV.den])⟩
        . cases h
      . cases h
    . cases h
  . -- min
    rename_i x y ts
    split at h
    . rename_i K m hx
      have h1 := hev hx
      simp only [SV.den] at h1
      split at h
      . rename_i K' n hy
        have h2 := hev hy
        simp only [SV.den] at h2
        split at h
        . rename_i hk
          rw [Uo hk] at h2
          simp only [Option.some.injEq, Prod.mk.injEq] at h
          obtain ⟨rfl, rfl⟩ := h
          exact ⟨hc, (Qfo hq h1 h2 hw).eq (by simp only [SV.den])⟩
        . cases h
      . cases h
    . cases h
  . rename_i x y ts
    split at h
    . rename_i K m hx
      have h1 := hev hx
      simp only [SV.den] at h1
      split at h
      . rename_i K' n hy
        have h2 := hev hy
        simp only [SV.den] at h2
        split at h
        . rename_i hk
          rw [Uo hk] at h2
          simp only [Option.some.injEq, Prod.mk.injEq] at h
          obtain ⟨rfl, rfl⟩ := h
          exact ⟨hc, (Qfp hq h1 h2 hw).eq (by simp only [SV.den])⟩
        . cases h
      . cases h
    . cases h
  . cases h
end
end Go.Proofs.YtbiboamaigedjaaDoor
namespace Go.Proofs.YtbiboamaigedjaaDoor
open Go.RowKit
set_option linter.unusedVariables false
set_option linter.constructorNameAsVariable false
set_option linter.unusedSimpArgs false

/-- The cell at a place: in which symbol it lies, and where in it. -/
def F0 {α : Type} : List SV -> Nat -> (SV -> Nat -> Option α) -> Option α
  | [], _, _ => none
  | x :: l, o, K => match Nat.ble x.wd o with
    | true => F0 l (Nat.sub o x.wd) K
    | false => K x o
theorem VC {α : Type} {K : SV -> Nat -> Option α} {r : α} (ρ : Qs) : ∀ {l : List SV} {o : Nat}, XW l -> F0 l o K = some r -> ∃ x j, K x j = some r /\ j < x.wd /\ x.ok /\ ∀ i, j + i < x.wd -> (Qd ρ l)[o + i]? = (x.cs (x.den ρ))[j + i]?
  | [], _, _, h => by cases h
  | x :: l, o, hk, h => by
    unfold F0 at h
    have hl := JC hk.1 (x.den ρ)
    cases hb : Nat.ble x.wd o with
    | true =>
      rw [hb] at h
      have hle := Nat.le_of_ble_eq_true hb
      obtain ⟨y, j, h1, h2, h3, h4⟩ := VC ρ hk.2 h
      refine ⟨y, j, h1, h2, h3, fun i hi => ?_⟩
      rw [<- h4 i hi]
      simp only [Qd]
      rw [List.getElem?_append_right (by omega), hl]
      have : Nat.sub o x.wd = o - x.wd := rfl
      rw [this, show o + i - x.wd = o - x.wd + i by omega]
    | false =>
      rw [hb] at h
      have hlt : o < x.wd := by
        rcases Nat.lt_or_ge o x.wd with h' | h'
        . exact h'
        . rw [Nat.ble_eq_true_of_le h'] at hb; cases hb
      refine ⟨x, o, h, hlt, hk.1, fun i hi => ?_⟩
      simp only [Qd]
      rw [List.getElem?_append_left (by omega)]
def Ua {α : Type} (n : Nat) (K : Nat -> α) : α := match n with
  | 0 => K 0
  | q + 1 => K (q + 1)
theorem XO {α : Type} {n : Nat} {K : Nat -> α} : Ua n K = K n := by cases n <;> rfl
def Us : List SV -> Nat -> Option (List SV)
  | [], o => match Nat.beq o 0 with
    | true => some []
    | false => none
  | x :: l, o => match Nat.beq o 0 with
    | true => some (x :: l)
    | false => match Nat.ble x.wd o with
      | true => Ua (Nat.sub o x.wd) fun q => Us l q
      | false => match x with
        | .a K zs n => Ua (Nat.sub n o) fun q => some (.a K (zs.drop o) q :: l)
        | _ => none
theorem YJ (ρ : Qs) : ∀ {l r : List SV} {o : Nat}, XW l -> Us l o = some r -> XW r /\ Qd ρ r = (Qd ρ l).drop o /\ o + XU r = XU l
  | [], r, o, hk, h => by
    unfold Us at h
    cases hb : Nat.beq o 0 with
    | true => rw [hb] at h; cases h; have := Nat.eq_of_beq_eq_true hb; subst this; exact ⟨trivial, by simp [Qd], by simp [XU]⟩
    | false => rw [hb] at h; cases h
  | x :: l, r, o, hk, h => by
    unfold Us at h
    cases hb : Nat.beq o 0 with
    | true => rw [hb] at h; cases h; have := Nat.eq_of_beq_eq_true hb; subst this; exact ⟨hk, by simp, by simp⟩
    | false =>
      rw [hb] at h
      cases hc : Nat.ble x.wd o with
      | false =>
        rw [hc] at h
        have hlt : o < x.wd := by
          rcases Nat.lt_or_ge o x.wd with h' | h'
          . exact h'
          . rw [Nat.ble_eq_true_of_le h'] at hc; cases hc
        simp only at h
        split at h
        . rename_i K zs n
          rw [XO] at h
          cases h
          have hz : zs.length = n := hk.1
          have e : Nat.sub n o = n - o := rfl
          simp only [SV.wd] at hlt
          refine ⟨⟨by show (zs.drop o).length = Nat.sub n o; rw [List.length_drop, e]; omega, hk.2⟩, ?_, ?_⟩
          . simp only [Qd, SV.cs]
            rw [List.drop_append_of_le_length (by rw [List.length_map]; omega), List.map_drop]
          . simp only [XU, SV.wd]; rw [e]; omega
        . cases h
      | true =>
        rw [hc] at h
        simp only [XO] at h
        have hle := Nat.le_of_ble_eq_true hc
        obtain ⟨h1, h2, h3⟩ := YJ ρ hk.2 h
        have hl := JC hk.1 (x.den ρ)
        have e : Nat.sub o x.wd = o - x.wd := rfl
        refine ⟨h1, ?_, ?_⟩
        . rw [h2]
          simp only [Qd, List.drop_append, hl, e]
          rw [show List.drop o (x.cs (x.den ρ)) = [] from List.drop_eq_nil_of_le (by omega), List.nil_append]
        . simp only [XU]; rw [e] at h3; omega
/-- It has so many cells. -/
def eqW : List SV -> Nat -> Bool
  | [], s => Nat.beq s 0
  | x :: l, s => match Nat.ble x.wd s with
    | true => Ua (Nat.sub s x.wd) fun q => eqW l q
    | false => false
theorem Gg : ∀ {l : List SV} {s : Nat}, eqW l s = true -> XU l = s
  | [], s, h => (Nat.eq_of_beq_eq_true h).symm
  | x :: l, s, h => by
    unfold eqW at h
    cases hc : Nat.ble x.wd s with
    | false => rw [hc] at h; cases h
    | true =>
      rw [hc] at h
      simp only [XO] at h
      have hle := Nat.le_of_ble_eq_true hc
      have := Gg h
      have e : Nat.sub s x.wd = s - x.wd := rfl
      simp only [XU]
      rw [e] at this
      omega
def Yn {α : Type} : List SV -> Nat -> (List SV -> Option α) -> Option α
  | [], s, K => match Nat.beq s 0 with
    | true => K []
    | false => none
  | x :: l, s, K => match Nat.beq s 0 with
    | true => K []
    | false => match Nat.ble x.wd s with
      | true => Ua (Nat.sub s x.wd) fun q => Yn l q fun r => K (x :: r)
      | false => match x with
        | .a K' zs n => K [.a K' (zs.take s) s]
        | _ => none
theorem Ym {α : Type} (ρ : Qs) : ∀ {l : List SV} {s : Nat} {K : List SV -> Option α} {r : α}, XW l -> Yn l s K = some r -> ∃ t, K t = some r /\ XW t /\ Qd ρ t = (Qd ρ l).take s /\ XU t = s
  | [], s, K, r, hk, h => by
    unfold Yn at h
    cases hb : Nat.beq s 0 with
    | true => rw [hb] at h; have := Nat.eq_of_beq_eq_true hb; subst this; exact ⟨[], h, trivial, by simp [Qd], rfl⟩
    | false => rw [hb] at h; cases h
  | x :: l, s, K, r, hk, h => by
    unfold Yn at h
    cases hb : Nat.beq s 0 with
    | true => rw [hb] at h; have := Nat.eq_of_beq_eq_true hb; subst this; exact ⟨[], h, trivial, by simp [Qd], rfl⟩
    | false =>
      rw [hb] at h
      cases hc : Nat.ble x.wd s with
      | false =>
        rw [hc] at h
        have hlt : s < x.wd := by
          rcases Nat.lt_or_ge s x.wd with h' | h'
          . exact h'
          . rw [Nat.ble_eq_true_of_le h'] at hc; cases hc
        simp only at h
        split at h
        . rename_i K' zs n
          have hz : zs.length = n := hk.1
          simp only [SV.wd] at hlt
          refine ⟨_, h, ⟨by show (zs.take s).length = s; rw [List.length_take]; omega, trivial⟩, ?_, by simp [XU, SV.wd]⟩
          simp only [Qd, SV.cs, List.append_nil]
          rw [List.take_append_of_le_length (by rw [List.length_map]; omega), List.map_take]
        . cases h
      | true =>
        rw [hc] at h
        simp only [XO] at h
        have hle := Nat.le_of_ble_eq_true hc
        obtain ⟨t, h1, h2, h3, h4⟩ := Ym ρ hk.2 h
        have hl := JC hk.1 (x.den ρ)
        have e : Nat.sub s x.wd = s - x.wd := rfl
        rw [e] at h3 h4
        refine ⟨x :: t, h1, ⟨hk.1, h2⟩, ?_, by simp only [XU]; omega⟩
        simp only [Qd, List.take_append, hl, h3]
        rw [show List.take s (x.cs (x.den ρ)) = x.cs (x.den ρ) from List.take_of_length_le (by omega)]
def Ff {α : Type} : List SV -> List SV -> (List SV -> α) -> α
  | [], b, K => K b
  | x :: l, b, K => Ff l b fun r => K (x :: r)
theorem VU {α : Type} : ∀ {a b : List SV} {K : List SV -> α}, Ff a b K = K (a ++ b)
  | [], b, K => rfl
  | x :: l, b, K => by unfold Ff; rw [VU]; rfl
/-- A symbol of one cell. -/
def SV.atom : SV -> Bool
  | .i _ _ => true
  | .lit _ _ => true
  | .c _ _ => true
  | .l _ => true
  | .s _ => true
  | .p _ _ => true
  | .x _ _ _ _ => true
  | .q _ _ => true
  | .y _ _ _ _ => true
  | .z _ _ _ _ => true
  | .r _ _ _ _ => true
  | .o _ _ _ => true
  | .f _ _ => true
  | _ => false
theorem VP {x : SV} (h : x.atom = true) (ρ : Qs) : (x.den ρ).oneCell' = true /\ x.wd = 1 /\ x.cs (x.den ρ) = [x.den ρ] /\ x.ok := by
  cases x <;> simp_all [SV.atom, SV.den, SV.wd, SV.cs, SV.ok, Value.oneCell']
/-- QK cells are of one. -/
def D0 : List SV -> Bool
  | [] => true
  | .a _ _ _ :: l => D0 l
  | x :: l => match x.atom with
    | true => D0 l
    | false => false
theorem Vy (ρ : Qs) : ∀ {l : List SV}, D0 l = true -> ∀ v ∈ Qd ρ l, v.oneCell' = true
  | [], _, v, hv => by simp [Qd] at hv
  | x :: l, h, v, hv => by
    simp only [Qd, List.mem_append] at hv
    cases x
    case a K zs n =>
      rcases hv with hv | hv
      . simp only [SV.cs, List.mem_map] at hv
        obtain ⟨z, _, rfl⟩ := hv
        rfl
      . exact Vy ρ (by simpa only [D0] using h) v hv
    all_goals
      unfold D0 at h
      split at h
      . rename_i ha
        rcases hv with hv | hv
        . rw [(VP ha ρ).2.2.1, List.mem_singleton] at hv
          rw [hv]
          exact (VP ha ρ).1
        . exact Vy ρ h v hv
      . cases h
def Jp : List SV -> Bool
  | [] => false
  | .a _ _ _ :: _ => true
  | _ :: l => Jp l
theorem Z5 : ∀ {l : List SV}, Jp l = false -> XW l
  | [], _ => trivial
  | x :: l, h => by
    cases x
    case a K zs n => simp [Jp] at h
    all_goals exact ⟨trivial, Z5 (by simpa only [Jp] using h)⟩
/-- The cells of a value that is stored. -/
def Z9 (acc : List Prop) : SV -> Option (List SV × List Prop)
  | .g l => match D0 l with
    | true => match Jp l with
      | true => some (l, XW l :: acc)
      | false => some (l, acc)
    | false => none
  | .a K zs n => some ([.a K zs n], (zs.length = n) :: acc)
  | x => match x.atom with
    | true => some ([x], acc)
    | false => none
theorem XR {ρ : Qs} {acc acc' : List Prop} {x : SV} {c : List SV} (h : Z9 acc x = some (c, acc')) (hc : QK acc') : QK acc /\ XW c /\ (x.den ρ).cells.toList = Qd ρ c /\ ∀ v ∈ Qd ρ c, v.oneCell' = true := by
  cases x
  case g l =>
    simp only [Z9] at h
    split at h
    . rename_i h1
      split at h
      . simp only [Option.some.injEq, Prod.mk.injEq] at h
        obtain ⟨rfl, rfl⟩ := h
        exact ⟨hc.2, hc.1, by simp only [SV.den, Value.cells], Vy ρ h1⟩
      . rename_i h2
        simp only [Option.some.injEq, Prod.mk.injEq] at h
        obtain ⟨rfl, rfl⟩ := h
        exact ⟨hc, Z5 h2, by simp only [SV.den, Value.cells], Vy ρ h1⟩
    . cases h
  case a K zs n =>
    simp only [Z9, Option.some.injEq, Prod.mk.injEq] at h
    obtain ⟨rfl, rfl⟩ := h
    refine ⟨hc.2, ⟨hc.1, trivial⟩, by simp only [SV.den, Value.cells, Qd, SV.cs, List.append_nil], Vy ρ rfl⟩
  all_goals
    simp only [Z9] at h
    split at h
    . rename_i ha
      simp only [Option.some.injEq, Prod.mk.injEq] at h
      obtain ⟨rfl, rfl⟩ := h
      have h1 := VP ha ρ
      refine ⟨hc, ⟨h1.2.2.2, trivial⟩, by simp only [Qd, List.append_nil]; rw [h1.2.2.1]; exact FV h1.1, fun v hv => ?_⟩
      simp only [Qd, List.append_nil] at hv
      rw [h1.2.2.1, List.mem_singleton] at hv
      rw [hv]
      exact h1.1
    . cases h
abbrev atD : SD -> Nat -> Option (List SV) := Xm
theorem Dn {m : SD} {k : Nat} {c : List SV} (h : atD m k = some c) : (k, c) ∈ m := XE h
/-- Where a pointer leads: the cells, and the place among them. -/
def En (m : SM) (d : SD) : SV -> Option (List SV × Nat)
  | .p k o => match Xm m k with
    | some c => some (c, o)
    | none => none
  | .q j o => match atD d j with
    | some c => some (c, o)
    | none => none
  | _ => none
def VD (i : TI) : List SV -> SV
  | [.a K zs n] => match Nat.beq i.n 0 with
    | true => .g [.a K zs n]
    | false => .a K zs n
  | l => .g l
theorem YU (ρ : Qs) (i : TI) (l : List SV) : (VD i l).den ρ = .agg (Qd ρ l).toArray := by
  unfold VD
  split
  . split
    . simp only [SV.den]
    . simp only [SV.den, Qd, SV.cs, List.append_nil]
  . simp only [SV.den]
def Hv (x : SV) (j : Nat) : Option SV := match x with
  | .a K zs _ => some (.i K (zs.getD j 0))
  | .t _ => none
  | .g _ => none
  | x => match Nat.beq j 0 with
    | true => some x
    | false => none
theorem Hu {ρ : Qs} {x v : SV} {j : Nat} (h : Hv x j = some v) (hx : x.ok) (hj : j < x.wd) : (x.cs (x.den ρ))[j]? = some (v.den ρ) := by
  cases x
  case a K zs n =>
    simp only [Hv, Option.some.injEq] at h
    subst h
    simp only [SV.wd] at hj
    have : zs.length = n := hx
    simp only [SV.cs, SV.den, List.getElem?_map]
    rw [List.getD_eq_getElem?_getD, List.getElem?_eq_getElem (by omega)]
    rfl
  all_goals first
    | (cases h; done)
    | (simp only [Hv] at h
       split at h
       . rename_i hb
         cases h
         rw [Nat.eq_of_beq_eq_true hb]
         rfl
       . cases h)
/-- A variable place: among which cells, from where on, steps of what size, how many. -/
def Qal (m : SM) (d : SD) : SV -> Option (List SV × Nat × Nat × Int)
  | .x k o s n => match Xm m k with
    | some c => some (c, o, s, n)
    | none => none
  | .r j o s n => match atD d j with
    | some c => some (c, o, s, n)
    | none => none
  | _ => none
/-- What a load gives. -/
def V9 (T : TT) (m : SM) (d : SD) (acc : List Prop) (t : Nat) (x : SV) : Option (SV × List Prop) := match T.get t with
  | none => none
  | some i => match Qal m d x with
    | some (c, o, s, n) => match i.g with
      | true => F0 c o fun x j => match x with
        | .a K zs z => some (VD i [.a K ((zs.drop (Nat.add j (Nat.mul (Int.toNat n) s))).take i.s) i.s], (0 <= n /\ j + n.toNat * s + i.s <= z) :: acc)
        | _ => none
      | false => match Nat.beq s 1 with
        | true => F0 c o fun x j => match x with
          | .a K zs z => match Nat.beq j 0 with
            | true => some (.i K (zs.getD n.toNat 0), (0 <= n /\ n < (z : Int)) :: acc)
            | false => some (.i K (zs.getD (Nat.add j n.toNat) 0), (0 <= n /\ (j : Int) + n < (z : Int)) :: acc)
          | _ => none
        | false => none
    | none => match i.g with
      | true => match En m d x with
        | some (c, o) => match Us c o with
          | some r => Yn r i.s fun r => some (VD i r, acc)
          | none => none
        | none => none
      | false => match En m d x with
        | some (c, o) => F0 c o fun x j => match Hv x j with
          | some v => some (v, acc)
          | none => none
        | none => none
/-- A pointer at a variable place, where the block's cells are told one by one: at that place. -/
def nrm (c : List SV) (x : SV) : SV := match x with
  | .x k o s n => match Jp c with
    | true => .x k o s n
    | false => .p k (Nat.add o (Nat.mul (Int.toNat n) s))
  | .r k o s n => match Jp c with
    | true => .r k o s n
    | false => .q k (Nat.add o (Nat.mul (Int.toNat n) s))
  | x => x
theorem K3 {ρ : Qs} {c : List SV} {x : SV} : (nrm c x).den ρ = x.den ρ := by
  unfold nrm
  split
  . split
    . rfl
    . simp only [SV.den]; rfl
  . split
    . rfl
    . simp only [SV.den]; rfl
  . rfl
def K4 (m : SM) (d : SD) (x : SV) : SV := match x with
  | .x k o s n => match Xm m k with
    | some c => nrm c (.x k o s n)
    | none => .x k o s n
  | .r k o s n => match atD d k with
    | some c => nrm c (.r k o s n)
    | none => .r k o s n
  | x => x
theorem QbE {ρ : Qs} {m : SM} {d : SD} {x : SV} : (K4 m d x).den ρ = x.den ρ := by
  unfold K4
  split
  . split
    . exact K3
    . rfl
  . split
    . exact K3
    . rfl
  . rfl
def Jk (T : TT) (m : SM) (d : SD) (acc : List Prop) (t : Nat) (x : SV) : Option (SV × List Prop) := V9 T m d acc t (K4 m d x)
section
variable {P : Program} {ops : Array Oper} {o : Oper} {N : Nat} {w w0 : World} {ρ : Qs} {T : TT} {acc acc' : List Prop} {L0 : List Nat} {m : SM} {d : SD} {n : Nat} {Γ : List Qq} {fl : Fl}
theorem Dp (hW : WM ρ L0 w0 m d n Γ w) {x : SV} {c : List SV} {o' : Nat} (h : En m d x = some (c, o')) : ∃ X o0, x.den ρ = .pointer (some ⟨X, o0 + o', none⟩) /\ w.rangeAt X o0 (Qd ρ c) /\ XW c := by
  unfold En at h
  split at h
  . rename_i k o
    split at h
    . rename_i c' hk
      simp only [Option.some.injEq, Prod.mk.injEq] at h
      obtain ⟨rfl, rfl⟩ := h
      obtain ⟨h1, h2⟩ := hW.cell hk
      exact ⟨ρ.b k, 0, by simp only [SV.den, Nat.zero_add], h1.range, h2⟩
    . cases h
  . rename_i k o
    split at h
    . rename_i c' hk
      simp only [Option.some.injEq, Prod.mk.injEq] at h
      obtain ⟨rfl, rfl⟩ := h
      obtain ⟨_, h1, h2, _⟩ := hW.dat _ (Dn hk)
      exact ⟨(ρ.d k).1, (ρ.d k).2, by simp only [SV.den], h1, h2⟩
    . cases h
  . cases h
theorem Qee (hW : WM ρ L0 w0 m d n Γ w) {x : SV} {c : List SV} {o' s' : Nat} {n' : Int} (h : Qal m d x = some (c, o', s', n')) : ∃ X o0, x.den ρ = .pointer (some ⟨X, o0 + (o' + n'.toNat * s'), none⟩) /\ w.rangeAt X o0 (Qd ρ c) /\ XW c := by
  unfold Qal at h
  split at h
  . rename_i k o s n
    split at h
    . rename_i c' hk
      simp only [Option.some.injEq, Prod.mk.injEq] at h
      obtain ⟨rfl, rfl, rfl, rfl⟩ := h
      obtain ⟨h1, h2⟩ := hW.cell hk
      exact ⟨ρ.b k, 0, by simp only [SV.den, Nat.zero_add], h1.range, h2⟩
    . cases h
  . rename_i k o s n
    split at h
    . rename_i c' hk
      simp only [Option.some.injEq, Prod.mk.injEq] at h
      obtain ⟨rfl, rfl, rfl, rfl⟩ := h
      obtain ⟨_, h1, h2, _⟩ := hW.dat _ (Dn hk)
      exact ⟨(ρ.d k).1, (ρ.d k).2, by simp only [SV.den], h1, h2⟩
    . cases h
  . cases h
theorem Qaa (hT : T.ok P = true) (hW : WM ρ L0 w0 m d n Γ w) (hw : Qg ops o fl = some true) {t : Nat} {x : Operand} {sx v : SV} (ho : o.op = .load t x) (hx : ev fl x = some (sx.den ρ)) (h : V9 T m d acc t sx = some (v, acc')) (hc : QK acc') : QK acc /\ Yl P ops o N ρ fl w v := by
  have cell : ∀ {c : List SV} {o' X o0 : Nat} {y : SV}, w.rangeAt X o0 (Qd ρ c) -> (Qd ρ c)[o']? = some (y.den ρ) -> w.cell? ⟨X, o0 + o', none⟩ = some (y.den ρ) := fun h1 h2 => h1 _ _ h2
  unfold V9 at h
  split at h
  . cases h
  . rename_i i hi
    split at h
    . rename_i c o' s' n' ha
      obtain ⟨X, o0, e1, e2, e3⟩ := Qee hW ha
      rw [e1] at hx
      split at h
      . rename_i hg
        obtain ⟨y, j, h1, h2, h3, h4⟩ := VC ρ e3 h
        split at h1
        . rename_i K zs z
          simp only [Option.some.injEq, Prod.mk.injEq] at h1
          obtain ⟨rfl, rfl⟩ := h1
          obtain ⟨⟨g1, g2⟩, g3⟩ := hc
          refine ⟨g3, ?_⟩
          have hz : zs.length = z := h3
          show DV P ops o N fl w _
          rw [YU]
          refine HN ho (TT.agg hT hi hg) hx (cs := Qd ρ [.a K ((zs.drop (Nat.add j (Nat.mul (Int.toNat n') s'))).take i.s) i.s]) ?_ ?_ hw
          . intro q u hq
            simp only [Qd, SV.cs, List.append_nil, List.getElem?_map, List.getElem?_take, List.getElem?_drop] at hq
            split at hq
            . rename_i hlt
              have h5 := h4 (n'.toNat * s' + q) (by simp only [SV.wd]; omega)
              simp only [SV.cs, List.getElem?_map] at h5
              have e : Nat.add j (Nat.mul (Int.toNat n') s') + q = j + (n'.toNat * s' + q) := Nat.add_assoc _ _ _
              rw [e, <- h5] at hq
              have := e2 _ _ hq
              rw [show o0 + (o' + (n'.toNat * s' + q)) = o0 + (o' + n'.toNat * s') + q by omega] at this
              exact this
            . simp at hq
          . have e : Nat.add j (Nat.mul (Int.toNat n') s') = j + n'.toNat * s' := rfl
            simp only [Qd, SV.cs, List.append_nil, List.length_map, List.length_take, List.length_drop, e]
            omega
        . cases h1
      . rename_i hg
        have ht := TT.one hT hi hg
        split at h
        . rename_i hs
          obtain ⟨y, j, h1, h2, h3, h4⟩ := VC ρ e3 h
          have es := Nat.eq_of_beq_eq_true hs
          subst es
          split at h1
          . rename_i K zs z
            have hz : zs.length = z := h3
            split at h1
            . rename_i hj
              simp only [Option.some.injEq, Prod.mk.injEq] at h1
              obtain ⟨rfl, rfl⟩ := h1
              refine ⟨hc.2, ?_⟩
              obtain ⟨g1, g2⟩ := hc.1
              have ej := Nat.eq_of_beq_eq_true hj
              subst ej
              have h5 := h4 n'.toNat (by simp only [SV.wd]; omega)
              simp only [SV.cs, Nat.zero_add, List.getElem?_map] at h5
              have hz2 : n'.toNat < zs.length := by omega
              rw [show zs[n'.toNat]? = some zs[n'.toNat] from List.getElem?_eq_getElem hz2] at h5
              simp only [Nat.mul_one] at hx
              have hcell := e2 _ _ h5
              refine (Gm ho ht hx hcell hw).eq ?_
              simp only [SV.den, List.getD_eq_getElem?_getD]
              rw [List.getElem?_eq_getElem (by omega)]
              rfl
            . simp only [Option.some.injEq, Prod.mk.injEq] at h1
              obtain ⟨rfl, rfl⟩ := h1
              refine ⟨hc.2, ?_⟩
              obtain ⟨g1, g2⟩ := hc.1
              have h5 := h4 n'.toNat (by simp only [SV.wd]; omega)
              simp only [SV.cs, List.getElem?_map] at h5
              have hz2 : j + n'.toNat < zs.length := by omega
              rw [show zs[j + n'.toNat]? = some zs[j + n'.toNat] from List.getElem?_eq_getElem hz2] at h5
              simp only [Nat.mul_one] at hx
              have hcell := e2 _ _ h5
              refine (Gm ho ht hx hcell hw).eq ?_
              have e : Nat.add j n'.toNat = j + n'.toNat := rfl
              simp only [SV.den, List.getD_eq_getElem?_getD, e]
              rw [List.getElem?_eq_getElem (by omega)]
              rfl
          . cases h1
        . cases h
    . split at h
      . rename_i hg
        split at h
        . rename_i c o' ha
          split at h
          . rename_i r hr
            obtain ⟨X, o0, e1, e2, e3⟩ := Dp hW ha
            obtain ⟨h1, h2, h3⟩ := YJ ρ e3 hr
            obtain ⟨r', h4, h5, h6, h7⟩ := Ym ρ h1 h
            simp only [Option.some.injEq, Prod.mk.injEq] at h4
            obtain ⟨rfl, rfl⟩ := h4
            refine ⟨hc, ?_⟩
            show DV P ops o N fl w ((VD i r').den ρ)
            rw [YU]
            rw [e1] at hx
            refine HN ho (TT.agg hT hi hg) hx (cs := Qd ρ r') ?_ (by rw [QC ρ h5, h7]) hw
            have := Y9 e2 o' i.s
            rwa [<- h2, <- h6] at this
          . cases h
        . cases h
      . rename_i hg
        have ht := TT.one hT hi hg
        split at h
        . rename_i c o' ha
          obtain ⟨X, o0, e1, e2, e3⟩ := Dp hW ha
          obtain ⟨y, j, h1, h2, h3, h4⟩ := VC ρ e3 h
          split at h1
          . rename_i u hu
            simp only [Option.some.injEq, Prod.mk.injEq] at h1
            obtain ⟨rfl, rfl⟩ := h1
            rw [e1] at hx
            exact ⟨hc, Gm ho ht hx (cell e2 (by have h5 := h4 0 h2; rw [Nat.add_zero, Nat.add_zero] at h5; rw [h5]; exact Hu hu h3 h2)) hw⟩
          . cases h1
        . cases h
theorem Jj (hT : T.ok P = true) (hW : WM ρ L0 w0 m d n Γ w) (hw : Qg ops o fl = some true) {t : Nat} {x : Operand} {sx v : SV} (ho : o.op = .load t x) (hx : ev fl x = some (sx.den ρ)) (h : Jk T m d acc t sx = some (v, acc')) (hc : QK acc') : QK acc /\ Yl P ops o N ρ fl w v :=
  Qaa hT hW hw ho (hx.trans (by rw [QbE])) h hc
end
end Go.Proofs.YtbiboamaigedjaaDoor
namespace Go.Proofs.YtbiboamaigedjaaDoor
open Go.RowKit
set_option linter.unusedVariables false
set_option linter.constructorNameAsVariable false
set_option linter.unusedSimpArgs false

def DB {α : Type} : List SV -> Nat -> (SV -> Nat -> Option (SV × List Prop)) -> (List SV -> List Prop -> Option α) -> Option α
  | [], _, _, _ => none
  | x :: l, o, g, K => match Nat.ble x.wd o with
    | true => DB l (Nat.sub o x.wd) g fun r acc => K (x :: r) acc
    | false => match g x o with
      | some (y, acc) => K (y :: l) acc
      | none => none
theorem UE {α : Type} {g : SV -> Nat -> Option (SV × List Prop)} : ∀ {l : List SV} {o : Nat} {K : List SV -> List Prop -> Option α} {r : α}, DB l o g K = some r -> ∃ pre x y j acc post, l = pre ++ x :: post /\ K (pre ++ y :: post) acc = some r /\ g x j = some (y, acc) /\ j < x.wd /\ o = XU pre + j
  | [], _, _, _, h => by cases h
  | x :: l, o, K, r, h => by
    unfold DB at h
    cases hb : Nat.ble x.wd o with
    | true =>
      rw [hb] at h
      have hle := Nat.le_of_ble_eq_true hb
      obtain ⟨pre, z, y, j, acc, post, h1, h2, h3, h4, h5⟩ := UE h
      have e : Nat.sub o x.wd = o - x.wd := rfl
      rw [e] at h5
      exact ⟨x :: pre, z, y, j, acc, post, by rw [h1]; rfl, h2, h3, h4, by simp only [XU]; omega⟩
    | false =>
      rw [hb] at h
      simp only at h
      split at h
      . rename_i y acc hg
        have hlt : o < x.wd := by
          rcases Nat.lt_or_ge o x.wd with h' | h'
          . exact h'
          . rw [Nat.ble_eq_true_of_le h'] at hb; cases hb
        exact ⟨[], x, y, o, acc, l, rfl, h, hg, hlt, by simp [XU]⟩
      . cases h
theorem UA : ∀ {a b : List SV}, XU (a ++ b) = XU a + XU b
  | [], b => by simp [XU]
  | x :: l, b => by simp only [List.cons_append, XU, UA (a := l) (b := b)]; omega
/-- One cell of a symbol, written anew. -/
theorem JY {ρ : Qs} {pre post : List SV} {x y : SV} {j : Nat} {v : Value} (h : XW (pre ++ x :: post)) (hj : j < x.wd) (hy : y.ok) (he : y.cs (y.den ρ) = (x.cs (x.den ρ)).set j v) : XW (pre ++ y :: post) /\ (Qd ρ (pre ++ x :: post)).take (XU pre + j) ++ ([v] ++ (Qd ρ (pre ++ x :: post)).drop (XU pre + j + 1)) = Qd ρ (pre ++ y :: post) := by
  obtain ⟨h1, h2, h3⟩ := Xr.1 h
  have hl := QC ρ h1
  have hx := JC h2 (x.den ρ)
  refine ⟨Xr.2 ⟨h1, hy, h3⟩, ?_⟩
  rw [Xp, Xp]
  simp only [Qd]
  rw [he, List.set_eq_take_append_cons_drop, if_pos (by omega)]
  rw [List.take_append, List.drop_append, hl, List.take_of_length_le (by omega), List.drop_eq_nil_of_le (by omega)]
  rw [show XU pre + j - XU pre = j by omega, show XU pre + j + 1 - XU pre = j + 1 by omega]
  rw [List.take_append, List.drop_append, hx, show j - x.wd = 0 by omega, show j + 1 - x.wd = 0 by omega]
  simp
def KJ (acc : List Prop) (v : SV) (x : SV) (j : Nat) : Option (SV × List Prop) := match x with
  | .a K zs n => match v with
    | .i K' y => match kq K' K with
      | true => some (.a K (zs.set j y) n, acc)
      | false => none
    | _ => none
  | .t _ => none
  | .g _ => none
  | _ => match Nat.beq j 0 with
    | true => match v.atom with
      | true => some (v, acc)
      | false => none
    | false => none
def Fx (acc : List Prop) (v : SV) (i : Int) (x : SV) (j : Nat) : Option (SV × List Prop) := match x with
  | .a K zs n => match v with
    | .i K' y => match kq K' K with
      | true => match Nat.beq j 0 with
        | true => some (.a K (zs.set i.toNat y) n, (0 <= i /\ i < (n : Int)) :: acc)
        | false => none
      | false => none
    | _ => none
  | _ => none
/-- A row of numbers at a variable place among others. -/
def QaE (acc : List Prop) (K : IntKind) (ys : List Int) (q s : Nat) (i : Int) (x : SV) (j : Nat) : Option (SV × List Prop) := match x with
  | .a K' zs n => match kq K' K with
    | true => some (.a K (zs.take (Nat.add j (Nat.mul (Int.toNat i) s)) ++ (ys ++ zs.drop (Nat.add (Nat.add j (Nat.mul (Int.toNat i) s)) q))) n, (0 <= i /\ j + i.toNat * s + q <= n /\ ys.length = q) :: acc)
    | false => none
  | _ => none
/-- What a store leaves of a block. -/
def KL (T : TT) (acc : List Prop) (t : Nat) (x v : SV) (c : List SV) : Option (List SV × List Prop) := match T.get t with
  | none => none
  | some i => match i.g with
    | true => match x with
      | .p k o => match Z9 acc v with
        | some (vs, acc) => match eqW vs i.s with
          | true => Yn c o fun a => match Us c (Nat.add o i.s) with
            | some b => Ff vs b fun vb => Ff a vb fun c' => some (c', acc)
            | none => none
          | false => none
        | none => none
      | .x k o s z => match Z9 acc v with
        | some ([.a K ys q], acc) => match Nat.beq q i.s with
          | true => DB c o (QaE acc K ys i.s s z) fun c' acc => some (c', acc)
          | false => none
        | _ => none
      | _ => none
    | false => match x with
      | .p k o => DB c o (KJ acc v) fun c' acc => some (c', acc)
      | .x k o s i => match Nat.beq s 1 with
        | true => DB c o (Fx acc v i) fun c' acc => some (c', acc)
        | false => none
      | _ => none
/-- Which Xq block a pointer leads to. -/
def VE : SV -> Option Nat
  | .p k _ => some k
  | .x k _ _ _ => some k
  | _ => none
theorem K0 {c : List SV} {x : SV} : VE (nrm c x) = VE x := by
  unfold nrm
  split
  . split <;> rfl
  . split <;> rfl
  . rfl
def FA (T : TT) (acc : List Prop) (t : Nat) (x v : SV) (c : List SV) : Option (List SV × List Prop) := KL T acc t (nrm c x) v c
/-- What a store leaves. -/
def Fy (T : TT) (m : SM) (acc : List Prop) (t : Nat) (x v : SV) : Option (SM × List Prop) := match VE x with
  | some k => match Xm m k with
    | some c => match FA T acc t x v c with
      | some (c', acc) => QaO k c' m fun m' => some (m', acc)
      | none => none
    | none => none
  | none => none
theorem DL {ρ : Qs} {acc acc' : List Prop} {v x y : SV} {j : Nat} (h : KJ acc v x j = some (y, acc')) (hx : x.ok) (hj : j < x.wd) : acc' = acc /\ y.ok /\ (v.den ρ).oneCell' = true /\ y.cs (y.den ρ) = (x.cs (x.den ρ)).set j (v.den ρ) := by
  cases x
  case a K zs n =>
    simp only [KJ] at h
    split at h
    . rename_i K' z
      split at h
      . rename_i hk
        simp only [Option.some.injEq, Prod.mk.injEq] at h
        obtain ⟨rfl, rfl⟩ := h
        have e := Uo hk
        subst e
        have : zs.length = n := hx
        exact ⟨rfl, by simp only [SV.ok, List.length_set]; exact this, by simp only [SV.den, Value.oneCell'], by simp only [SV.cs, SV.den, List.map_set]⟩
      . cases h
    . cases h
  all_goals first
    | (cases h; done)
    | (simp only [KJ] at h
       split at h
       . rename_i hb
         split at h
         . rename_i ha
           simp only [Option.some.injEq, Prod.mk.injEq] at h
           obtain ⟨rfl, rfl⟩ := h
           have h1 := VP ha ρ
           rw [Nat.eq_of_beq_eq_true hb]
           exact ⟨rfl, h1.2.2.2, h1.1, by rw [h1.2.2.1]; rfl⟩
         . cases h
       . cases h)
theorem DJ {ρ : Qs} {acc acc' : List Prop} {v x y : SV} {i : Int} {j : Nat} (h : Fx acc v i x j = some (y, acc')) (hc : QK acc') (hx : x.ok) : QK acc /\ j = 0 /\ i.toNat < x.wd /\ y.ok /\ (v.den ρ).oneCell' = true /\ y.cs (y.den ρ) = (x.cs (x.den ρ)).set i.toNat (v.den ρ) := by
  unfold Fx at h
  split at h
  . rename_i K zs n
    split at h
    . rename_i K' z
      split at h
      . rename_i hk
        split at h
        . rename_i hj
          simp only [Option.some.injEq, Prod.mk.injEq] at h
          obtain ⟨rfl, rfl⟩ := h
          have e := Uo hk
          subst e
          have : zs.length = n := hx
          obtain ⟨⟨g1, g2⟩, g3⟩ := hc
          exact ⟨g3, Nat.eq_of_beq_eq_true hj, by simp only [SV.wd]; omega, by simp only [SV.ok, List.length_set]; exact this, by simp only [SV.den, Value.oneCell'], by simp only [SV.cs, SV.den, List.map_set]⟩
        . cases h
      . cases h
    . cases h
  . cases h
section
variable {P : Program} {ops : Array Oper} {o : Oper} {N : Nat} {w w0 : World} {ρ : Qs} {T : TT} {acc acc' : List Prop} {L0 : List Nat} {m m' : SM} {d : SD} {n : Nat} {Γ : List Qq} {fl : Fl}
theorem FQ {A B C V : List Value} {a p q : Nat} (ha : A.length = a) (hp : p + q <= B.length) : (A ++ (B ++ C)).take (a + p) ++ (V ++ (A ++ (B ++ C)).drop (a + p + q)) = A ++ ((B.take p ++ (V ++ B.drop (p + q))) ++ C) := by
  subst ha
  rw [List.take_length_add_append, show A.length + p + q = A.length + (p + q) by omega, List.drop_length_add_append, List.take_append_of_le_length (by omega), List.drop_append_of_le_length (by omega)]
  simp only [List.append_assoc]
theorem Fz (hT : T.ok P = true) (hw : Qg ops o fl = some true) {t k : Nat} {x y : Operand} {sx v : SV} {c c' : List SV} (hk : VE sx = some k) (hb : XZ w (ρ.b k) (Qd ρ c)) (hok : XW c) (ho : o.op = .store t x y) (hx : ev fl x = some (sx.den ρ)) (hy : ev fl y = some (v.den ρ)) (h : KL T acc t sx v c = some (c', acc')) (hc : QK acc') : QK acc /\ XW c' /\ DR P ops o N fl w fun _ W => XZ W (ρ.b k) (Qd ρ c') /\ VW (ρ.b k) w W := by
  unfold KL at h
  split at h
  . cases h
  . rename_i i hi
    have hsz := TT.size hT hi
    split at h
    . rename_i hg
      split at h
      . rename_i k' o'
        cases hk
        split at h
        . rename_i vs acc1 hv
          split at h
          . rename_i hwd
            obtain ⟨a, h1, h2, h3, h4⟩ := Ym ρ hok h
            split at h1
            . rename_i b hb'
              simp only [VU, Option.some.injEq, Prod.mk.injEq] at h1
              obtain ⟨rfl, rfl⟩ := h1
              obtain ⟨c0, c1, c2, c3⟩ := XR (ρ := ρ) hv hc
              obtain ⟨d1, d2, d3⟩ := YJ ρ hok hb'
              have hws := Gg hwd
              have e : Nat.add o' i.s = o' + i.s := rfl
              rw [e] at d2 d3
              simp only [SV.den] at hx
              exact ⟨c0, Xr.2 ⟨h2, Xr.2 ⟨c1, d1⟩⟩, VG (cs' := Qd ρ (a ++ (vs ++ b))) ho hsz hx hy c2 c3 hb (by rw [QC ρ c1, hws]) (by rw [QC ρ hok]; omega) (by rw [Xp, Xp, h3, d2]) hw⟩
            . cases h1
          . cases h
        . cases h
      . rename_i k' o' s ii
        cases hk
        split at h
        . rename_i K ys qq acc1 hv
          split at h
          . rename_i hq
            have hq := Nat.eq_of_beq_eq_true hq
            obtain ⟨pre, z, y', j, acc2, post, e1, h1, h2, h3, h4⟩ := UE h
            simp only [Option.some.injEq, Prod.mk.injEq] at h1
            obtain ⟨rfl, rfl⟩ := h1
            subst e1
            unfold QaE at h2
            split at h2
            . rename_i K' zs n'
              split at h2
              . rename_i hkk
                simp only [Option.some.injEq, Prod.mk.injEq] at h2
                obtain ⟨rfl, rfl⟩ := h2
                obtain ⟨⟨g1, g2, g3⟩, g4⟩ := hc
                obtain ⟨c0, c1, c2, c3⟩ := XR (ρ := ρ) hv g4
                have ek := Uo hkk
                subst ek
                obtain ⟨p1, p2, p3⟩ := Xr.1 hok
                have hz : zs.length = n' := p2
                have hlp := QC ρ p1
                have ep : Nat.add j (Nat.mul ii.toNat s) = j + ii.toNat * s := rfl
                have eq2 : Nat.add (j + ii.toNat * s) i.s = j + ii.toNat * s + i.s := rfl
                simp only [SV.den] at hx
                refine ⟨c0, Xr.2 ⟨p1, ?_, p3⟩, VG (cs' := Qd ρ (pre ++ SV.a K' (zs.take (j + ii.toNat * s) ++ (ys ++ zs.drop (j + ii.toNat * s + i.s))) n' :: post)) ho hsz hx hy c2 c3 hb ?_ ?_ ?_ hw⟩
                . show (zs.take (Nat.add j (Nat.mul ii.toNat s)) ++ (ys ++ zs.drop (Nat.add (Nat.add j (Nat.mul ii.toNat s)) i.s))).length = n'
                  simp only [ep, eq2, List.length_append, List.length_take, List.length_drop]
                  omega
                . simp only [Qd, SV.cs, List.append_nil, List.length_map]; exact g3
                . rw [QC ρ hok, UA]; simp only [XU, SV.wd]; omega
                . rw [Xp, Xp]
                  simp only [Qd, SV.cs, List.append_nil, List.map_append, List.map_take, List.map_drop]
                  rw [show o' + ii.toNat * s = XU pre + (j + ii.toNat * s) by omega, show XU pre + (j + ii.toNat * s) + i.s = XU pre + (j + ii.toNat * s) + i.s from rfl]
                  exact FQ hlp (by rw [List.length_map]; omega)
              . cases h2
            . cases h2
          . cases h
        . cases h
      . cases h
    . rename_i hg
      have hs1 : i.s = 1 := by
        have := TT.at hT hi
        simp only [tB, Bool.and_eq_true] at this
        have := this.1.1.1.1.1.1.1.2
        rw [hg] at this
        simp only [cond_false, Bool.and_eq_true] at this
        exact Nat.eq_of_beq_eq_true this.2
      rw [hs1] at hsz
      split at h
      . rename_i k' o'
        cases hk
        obtain ⟨pre, z, y', j, acc1, post, e1, h1, h2, h3, h4⟩ := UE h
        simp only [Option.some.injEq, Prod.mk.injEq] at h1
        obtain ⟨rfl, rfl⟩ := h1
        subst e1
        obtain ⟨rfl, g1, g2, g3⟩ := DL (ρ := ρ) h2 (Xr.1 hok).2.1 h3
        obtain ⟨q1, q2⟩ := JY hok h3 g1 g3
        simp only [SV.den] at hx
        exact ⟨hc, q1, VG (vs := [v.den ρ]) (cs' := Qd ρ (pre ++ y' :: post)) ho hsz hx hy (FV g2) (EN g2 QbB) hb rfl (by rw [QC ρ hok, UA]; simp only [XU]; omega) (by rw [h4]; exact q2) hw⟩
      . rename_i k' o' s ii
        cases hk
        split at h
        . rename_i hs
          obtain ⟨pre, z, y', j, acc1, post, e1, h1, h2, h3, h4⟩ := UE h
          simp only [Option.some.injEq, Prod.mk.injEq] at h1
          obtain ⟨rfl, rfl⟩ := h1
          subst e1
          obtain ⟨g0, rfl, gi, g1, g2, g3⟩ := DJ (ρ := ρ) h2 hc (Xr.1 hok).2.1
          obtain ⟨q1, q2⟩ := JY hok gi g1 g3
          simp only [SV.den, Nat.eq_of_beq_eq_true hs, Nat.mul_one] at hx
          exact ⟨g0, q1, VG (vs := [v.den ρ]) (cs' := Qd ρ (pre ++ y' :: post)) ho hsz hx hy (FV g2) (EN g2 QbB) hb rfl (by rw [QC ρ hok, UA]; simp only [XU]; omega) (by rw [h4, Nat.add_zero]; exact q2) hw⟩
        . cases h
      . cases h
theorem JZ (hT : T.ok P = true) (hw : Qg ops o fl = some true) {t k : Nat} {x y : Operand} {sx v : SV} {c c' : List SV} (hk : VE sx = some k) (hb : XZ w (ρ.b k) (Qd ρ c)) (hok : XW c) (ho : o.op = .store t x y) (hx : ev fl x = some (sx.den ρ)) (hy : ev fl y = some (v.den ρ)) (h : FA T acc t sx v c = some (c', acc')) (hc : QK acc') : QK acc /\ XW c' /\ DR P ops o N fl w fun _ W => XZ W (ρ.b k) (Qd ρ c') /\ VW (ρ.b k) w W :=
  Fz hT hw (K0.trans hk) hb hok ho (hx.trans (by rw [K3])) hy h hc
theorem DK (hT : T.ok P = true) (hW : WM ρ L0 w0 m d n Γ w) (hw : Qg ops o fl = some true) {t : Nat} {x y : Operand} {sx v : SV} (ho : o.op = .store t x y) (hx : ev fl x = some (sx.den ρ)) (hy : ev fl y = some (v.den ρ)) (h : Fy T m acc t sx v = some (m', acc')) (hc : QK acc') : QK acc /\ DR P ops o N fl w fun _ W => WM ρ L0 w0 m' d n Γ W := by
  unfold Fy at h
  split at h
  . rename_i k hk
    split at h
    . rename_i c hm
      split at h
      . rename_i c' acc1 hs
        simp only [KO, Option.some.injEq, Prod.mk.injEq] at h
        obtain ⟨rfl, rfl⟩ := h
        obtain ⟨b1, b2⟩ := hW.cell hm
        obtain ⟨h1, h2, h3⟩ := JZ (N := N) hT hw hk b1 b2 ho hx hy hs hc
        exact ⟨h1, h3.mono fun _ W hq => hW.put hm hq.1 h2 hq.2⟩
      . cases h
    . cases h
  . cases h
end
end Go.Proofs.YtbiboamaigedjaaDoor
namespace Go.Proofs.YtbiboamaigedjaaDoor
open Go.RowKit
set_option linter.unusedVariables false
set_option linter.constructorNameAsVariable false
set_option linter.unusedSimpArgs false

theorem Ks (off : Nat) : ∀ (vs : List Value) (k : Nat) (cs : List Value), off + k + vs.length <= cs.length ->
    ((vs.zipIdx k).foldl (fun (cs : Array Value) (p : Value × Nat) => cs.setIfInBounds (off + p.2) p.1) cs.toArray) = (cs.take (off + k) ++ (vs ++ cs.drop (off + k + vs.length))).toArray
  | [], k, cs, h => by simp
  | v :: vs, k, cs, h => by
    simp only [List.length_cons] at h
    rw [List.zipIdx_cons, List.foldl_cons]
    simp only [List.setIfInBounds_toArray]
    rw [Ks off vs (k + 1) (cs.set (off + k) v) (by rw [List.length_set]; omega)]
    have hl : (cs.take (off + k)).length = off + k := by rw [List.length_take]; omega
    have e0 : cs.set (off + k) v = cs.take (off + k) ++ v :: cs.drop (off + k + 1) := by rw [List.set_eq_take_append_cons_drop, if_pos (by omega)]
    have e1 : (cs.set (off + k) v).take (off + (k + 1)) = cs.take (off + k) ++ [v] := by
      rw [e0, List.take_append, hl, List.take_of_length_le (by omega), show off + (k + 1) - (off + k) = 1 by omega]
      rfl
    have e2 : (cs.set (off + k) v).drop (off + (k + 1) + vs.length) = cs.drop (off + k + (vs.length + 1)) := by
      rw [e0, List.drop_append, hl, show List.drop (off + (k + 1) + vs.length) (cs.take (off + k)) = [] from List.drop_eq_nil_of_le (by omega), show off + (k + 1) + vs.length - (off + k) = vs.length + 1 by omega]
      rw [List.nil_append, List.drop_succ_cons, List.drop_drop]
      congr 1
      omega
    rw [e1, e2]
    simp only [List.append_assoc, List.cons_append, List.nil_append, List.length_cons]
def Kh (i : TI) (k : Nat) : Option (Nat × Nat) := match Nat.beq i.n 0 with
  | true => QbD i.o k
  | false => some (Nat.mul k i.q, i.q)
def Yb (i : TI) (f : SF) : List (Nat × Operand) -> List SV -> List Prop -> Option (List SV × List Prop)
  | [], c, acc => some (c, acc)
  | (k, x) :: l, c, acc => match Kh i k with
    | some (off, sz) => match ZL f x with
      | some v => match Z9 acc v with
        | some (vs, acc) => match eqW vs sz with
          | true => Yn c off fun a => match Us c (Nat.add off sz) with
            | some b => Ff vs b fun vb => Ff a vb fun c' => Yb i f l c' acc
            | none => none
          | false => none
        | none => none
      | none => none
    | none => none
theorem Ej : ∀ {i : TI} {f : SF} {l : List (Nat × Operand)} {c c' : List SV} {acc acc' : List Prop}, Yb i f l c acc = some (c', acc') -> QK acc' -> QK acc := by
  intro i f l
  induction l with
  | nil =>
    intro c c' acc acc' h hc
    simp only [Yb, Option.some.injEq, Prod.mk.injEq] at h
    obtain ⟨rfl, rfl⟩ := h
    exact hc
  | cons p l ih =>
    intro c c' acc acc' h hc
    obtain ⟨k, x⟩ := p
    unfold Yb at h
    split at h
    . split at h
      . split at h
        . rename_i vs acc1 hvs
          split at h
          . have tk : ∀ {α : Type} {l : List SV} {s : Nat} {K : List SV -> Option α} {r : α}, Yn l s K = some r -> ∃ t, K t = some r := by
              intro α l
              induction l with
              | nil => intro s K r h; unfold Yn at h; split at h; exact ⟨_, h⟩; cases h
              | cons y l ih => intro s K r h; unfold Yn at h; split at h; exact ⟨_, h⟩; split at h; rw [XO] at h; obtain ⟨t, ht⟩ := ih h; exact ⟨_, ht⟩; (split at h; exact ⟨_, h⟩; cases h)
            obtain ⟨a, h1⟩ := tk h
            split at h1
            . simp only [VU] at h1
              exact (XR (ρ := Qt) hvs (ih h1 hc)).1
            . cases h1
          . cases h
        . cases h
      . cases h
    . cases h
theorem Uh {i : TI} {f : SF} {ρ : Qs} {place : Nat -> Option (Nat × Nat)} (hp : ∀ k q, Kh i k = some q -> place k = some q) : ∀ {l : List (Nat × Operand)} {c c' : List SV} {acc acc' : List Prop}, XW c -> Yb i f l c acc = some (c', acc') -> QK acc' ->
    QK acc /\ XW c' /\ ∃ vs, evl (Qo ρ f) (l.map (·.2)) = some vs /\ Instr.fill place (Qd ρ c).toArray ((l.map (·.1)).zip vs) = some (Qd ρ c').toArray
  | [], c, c', acc, acc', hk, h, hc => by
    simp only [Yb, Option.some.injEq, Prod.mk.injEq] at h
    obtain ⟨rfl, rfl⟩ := h
    exact ⟨hc, hk, [], rfl, rfl⟩
  | (k, x) :: l, c, c', acc, acc', hk, h, hc => by
    unfold Yb at h
    split at h
    . rename_i off sz ho
      split at h
      . rename_i v hv
        split at h
        . rename_i vs acc1 hvs
          split at h
          . rename_i hw
            obtain ⟨a, h1, h2, h3, h4⟩ := Ym ρ hk h
            split at h1
            . rename_i b hb
              simp only [VU] at h1
              obtain ⟨d1, d2, d3⟩ := YJ ρ hk hb
              have hws := Gg hw
              have e : Nat.add off sz = off + sz := rfl
              have d2 : Qd ρ b = (Qd ρ c).drop (off + sz) := d2
              have d3 : off + sz + XU b = XU c := d3
              have key : QK acc1 -> XW vs /\ (v.den ρ).cells.toList = Qd ρ vs /\ QK acc := fun ha => by
                obtain ⟨c0, c1, c2, c3⟩ := XR (ρ := ρ) hvs ha
                exact ⟨c1, c2, c0⟩
              have okvs : ∀ ha : QK acc1, XW (a ++ (vs ++ b)) := fun ha => Xr.2 ⟨h2, Xr.2 ⟨(key ha).1, d1⟩⟩
              have hacc : QK acc1 := Ej h1 hc
              obtain ⟨_, g1, us, g2, g3⟩ := Uh hp (okvs hacc) h1 hc
              obtain ⟨k1, k2, k3⟩ := key hacc
              refine ⟨k3, g1, v.den ρ :: us, ?_, ?_⟩
              . simp only [List.map_cons]
                unfold evl
                rw [Qk hv, g2]
              . simp only [List.map_cons, List.zip_cons_cons]
                unfold Instr.fill
                rw [hp k _ ho]
                have hlen : (v.den ρ).cells.size = sz := by rw [<- Array.length_toList, k2, QC ρ k1, hws]
                have hcl := QC ρ hk
                simp only
                rw [if_neg (by simp only [hlen, ne_eq, not_true_eq_false, decide_false, Bool.false_or, decide_eq_true_eq, List.size_toArray, hcl, gt_iff_lt, false_or]; omega)]
                have hf := Ks off (Qd ρ vs) 0 (Qd ρ c) (by rw [hcl, QC ρ k1]; omega)
                rw [<- Array.foldl_toList, Array.toList_zipIdx, k2]
                rw [hf]
                simp only [Nat.add_zero]
                rw [QC ρ k1, hws, <- h3, <- d2, <- Xp, <- Xp]
                exact g3
            . cases h1
          . cases h
        . cases h
      . cases h
    . cases h
section
variable {P : Program} {ops : Array Oper} {o : Oper} {N : Nat} {w w0 : World} {ρ : Qs} {T : TT} {acc acc' : List Prop} {L0 : List Nat} {m m' : SM} {d : SD} {n : Nat} {Γ : List Qq} {f : SF}
def Gx (T : TT) (f : SF) (acc : List Prop) (t : Nat) (ps : Array (Nat × Operand)) : Option (SV × List Prop) := match T.get t with
  | some i => match i.g with
    | true => match i.z with
      | some z => match ps with
        | ⟨l⟩ => match Yb i f l z acc with
          | some (c, acc) => some (VD i c, acc)
          | none => none
      | none => none
    | false => none
  | none => none
theorem Kx (hT : T.ok P = true) (hw : Qg ops o (Qo ρ f) = some true) {t : Nat} {ps : Array (Nat × Operand)} (ho : o.op = .build t ps) {v : SV} (h : Gx T f acc t ps = some (v, acc')) (hc : QK acc') : QK acc /\ Yl P ops o N ρ (Qo ρ f) w v := by
  unfold Gx at h
  split at h
  . rename_i i hi
    split at h
    case h_2 => cases h
    rename_i hg
    split at h
    . rename_i z hz
      split at h
      rename_i l
      split at h
      . rename_i c acc1 hb
        simp only [Option.some.injEq, Prod.mk.injEq] at h
        obtain ⟨rfl, rfl⟩ := h
        obtain ⟨z1, z2, Z, z3, z4⟩ := TT.zero hT hi hz
        have hpl := TT.places hT hi
        have go : ∀ place : Nat -> Option (Nat × Nat), (∀ k q, Kh i k = some q -> place k = some q) -> (∀ ps' : List (Nat × Value), Instr.fill place Z.cells ps' = some (Qd ρ c).toArray -> P.built t ps' = some (Qd ρ c).toArray) -> QK acc /\ Yl P ops o N ρ (Qo ρ f) w (VD i c) := fun place hp hbuilt => by
          obtain ⟨h1, h2, vs, h3, h4⟩ := Uh (ρ := ρ) hp z1 hb hc
          refine ⟨h1, ?_⟩
          show DV P ops o N (Qo ρ f) w ((VD i c).den ρ)
          rw [YU]
          refine Qcf ho (ps := (l.map (·.1)).zip vs) (by simp only [h3, Option.map_some]) (hbuilt _ ?_) hw
          have : Z.cells = (Qd ρ z).toArray := by rw [<- z4 ρ]
          rw [this]
          exact h4
        unfold UJ at hpl
        cases hI : P.info? t with
        | none => rw [hI] at z3; cases z3
        | some it =>
          rw [hI] at z3
          have z3' : it.zero = some Z := z3
          split at hpl
          . rename_i fields hu
            split at hpl
            . rename_i pl hm
              have e := of_decide_eq_true hpl
              subst e
              have hn : Nat.beq i.n 0 = true := by
                cases hb' : Nat.beq i.n 0 with
                | true => rfl
                | false => have := TT.arr hT hi hb'; rw [hu] at this; cases this
              refine go (fun k => i.o.toArray[k]?) (fun k q hq => ?_) (fun ps' hf => ?_)
              . unfold Kh at hq; rw [hn] at hq; simpa using KZ hq
              . unfold Program.built; simp only [hI, hu, z3', hm]; exact hf
            . cases hpl
          . rename_i nn e hu
            split at hpl
            . rename_i ie he
              simp only [Bool.and_eq_true] at hpl
              have hq := Nat.eq_of_beq_eq_true hpl.1
              refine go (fun k => some (k * ie.size, ie.size)) (fun k q hk => ?_) (fun ps' hf => ?_)
              . unfold Kh at hk
                split at hk
                . have : i.o = [] := by simpa using hpl.2
                  rw [this] at hk; cases hk
                . cases hk; rw [hq]; rfl
              . unfold Program.built; simp only [hI, hu, z3', he]; exact hf
            . cases hpl
          . rename_i hns hna
            obtain ⟨d, hd, hr, _⟩ := UM (TT.agg hT hi hg)
            cases d <;> simp [TypeDesc.isRow] at hr
            . exact (hna _ _ hd).elim
            . exact (hns _ hd).elim
      . cases h
    . cases h
  . cases h
end
end Go.Proofs.YtbiboamaigedjaaDoor
namespace Go.Proofs.YtbiboamaigedjaaDoor
open Go.RowKit
set_option linter.unusedVariables false
set_option linter.constructorNameAsVariable false
set_option linter.unusedSimpArgs false

/-- A bound that is given, or is not. -/
def QfD (v : Option Value) (d x : Nat) : Prop := (v = none /\ x = d) \/ ∃ K, v = some (.int K (x : Int))
theorem Y8 {P : Program} {w : World} {b : Bool} {n c l h : Nat} {lo hi : Option Value} (h1 : QfD lo 0 l) (h2 : QfD hi n h) (hlh : l <= h) (hhc : h <= c) : (Instr.sliceBounds b n c lo hi none).run P w = .ok (l, h, c) w := by
  have g1 : (0 : Int) <= (l : Int) /\ (l : Int) <= (h : Int) := by omega
  have g2 : (0 : Int) <= (h : Int) /\ (h : Int) <= (c : Int) := by omega
  unfold Instr.sliceBounds
  rcases h1 with ⟨rfl, rfl⟩ | ⟨K, rfl⟩ <;> rcases h2 with ⟨rfl, rfl⟩ | ⟨K', rfl⟩ <;>
    simp only [Instr.sliceBound, asIntOf, Sem.run_bind, Sem.run_pure, Result.andThen_ok, if_pos g1, if_pos g2, Int.toNat_natCast]
def BdF (f : Fl) (x : Option Operand) (d n : Nat) : Prop := match x with
  | none => n = d
  | some y => ∃ K, ev f y = some (.int K (n : Int))
section
variable {P : Program} {ops : Array Oper} {o : Oper} {N : Nat} {f : Fl} {w : World}
theorem BdF.bd {a : Act} (ha : Fr N a f) {x : Option Operand} {d n : Nat} (h : BdF f x d n) : QfD (x.map a.eval) d n := by
  cases x with
  | none => exact .inl ⟨rfl, h⟩
  | some y => obtain ⟨K, h⟩ := h; exact .inr ⟨K, by rw [Option.map_some, ha.ev h]⟩
theorem Qb8 {t e : TypeId} {x : Operand} {lo hi : Option Operand} {n s B o0 l h : Nat} (ho : o.op = .slice t x lo hi none) (hu : P.underlying t = some (.array n e)) (hs : X2 P e s = true) (hx : ev f x = some (.pointer (some ⟨B, o0, none⟩))) (hl : BdF f lo 0 l) (hh : BdF f hi n h) (h1 : l <= h) (h2 : h <= n) (hw : Qg ops o f = some true := by rfl) : DV P ops o N f w (.slice (some ⟨B, JR n l o0 s, none⟩) (h - l) (n - l)) := fun a ha => by
  have hx := ha.ev hx
  have hb := Y8 (P := P) (w := w) (b := false) (hl.bd ha) (hh.bd ha) h1 h2
  obtain ⟨i, hi', hsz⟩ := YC hs
  refine Qe.pure (Qc ha hw) _ ?_ ⟨rfl, rfl⟩
  unfold execOp
  simp only [ho, Option.map_none, hx, Instr.sliceAt, Sem.run_bind, run_underlying hu, Result.andThen_ok, Instr.sureAddr, hb, Sem.run_pure, sizeOf, typeInfo, run_program, hi']
  simp [hsz, Y2, Addr.add]
  unfold JR
  split
  . rfl
  . split
    . rename_i h; rw [h]; rfl
    . rfl
theorem Qb7 {t s B o0 n c l h : Nat} {x : Operand} {lo hi : Option Operand} (ho : o.op = .slice t x lo hi none) (ht : V6 P t s = true) (hx : ev f x = some (.slice (some ⟨B, o0, none⟩) n c)) (hl : BdF f lo 0 l) (hh : BdF f hi n h) (h1 : l <= h) (h2 : h <= c) (hw : Qg ops o f = some true := by rfl) :
    DV P ops o N f w (.slice (some ⟨B, JR c l o0 s, none⟩) (h - l) (c - l)) := fun a ha => by
  obtain ⟨e, hu, hs⟩ := Ki ht
  have hx := ha.ev hx
  have hb := Y8 (P := P) (w := w) (b := true) (hl.bd ha) (hh.bd ha) h1 h2
  cases hi : P.info? e with
  | none => rw [hi] at hs; cases hs
  | some q =>
    have hq : q.size = s := by simpa [hi] using hs
    refine Qe.pure (Qc ha hw) _ ?_ ⟨rfl, rfl⟩
    unfold execOp
    simp only [ho, Option.map_none, hx, Instr.sliceAt, Sem.run_bind, run_underlying hu, Result.andThen_ok, Instr.slice, hb, Sem.run_pure, sizeOf, typeInfo, run_program, hi]
    simp [hq, Y2, Addr.add]
    exact Qdu
theorem Qfk {t : TypeId} {x : Operand} {lo hi : Option Operand} {s : ByteArray} {l h : Nat} (ho : o.op = .slice t x lo hi none) (ht : P.underlying t = some .string) (hx : ev f x = some (.string s)) (hl : BdF f lo 0 l) (hh : BdF f hi s.size h) (h1 : l <= h) (h2 : h <= s.size) (hw : Qg ops o f = some true := by rfl) : DV P ops o N f w (.string (s.extract l h)) := fun a ha => by
  have hx := ha.ev hx
  have hb := Y8 (P := P) (w := w) (b := false) (hl.bd ha) (hh.bd ha) h1 h2
  refine Qe.pure (Qc ha hw) _ ?_ ⟨rfl, rfl⟩
  unfold execOp
  simp only [ho, Option.map_none, hx, Instr.sliceAt, Sem.run_bind, run_underlying ht, Result.andThen_ok, Instr.slice, Option.isSome_none]
  simp [hb, Sem.run_bind]
/-- A place in a slice. -/
theorem Gn {t e n c s B o0 o1 : Nat} {x y : Operand} {K : IntKind} {i : Int} (ho : o.op = .indexAddr t x y) (hu : P.underlying t = some (.slice e)) (hs : X2 P e s = true) (hx : ev f x = some (.slice (some ⟨B, o0, none⟩) n c)) (hy : ev f y = some (.int K i)) (h0 : 0 <= i /\ i < n) (h1 : o0 + i.toNat * s = o1) (hw : Qg ops o f = some true := by rfl) : DV P ops o N f w (.pointer (some ⟨B, o1, none⟩)) := fun a ha => by
  have hx := ha.ev hx
  have hy := ha.ev hy
  exact Qe.pure (Qc ha hw) _ (by unfold execOp; simp only [ho, hx, hy, Sem.run_bind, QaT hu (Zf hs) B o0 K i h0.1 h0.2, Result.andThen_ok, h1]; rfl) ⟨rfl, rfl⟩
end
theorem V5 {P : Program} {t e s : Nat} (hu : P.underlying t = some (.slice e)) (hs : X2 P e s = true) : V6 P t s = true := by
  unfold V6
  rw [hu]
  exact hs
/-- A number that is known, as any other. -/
def unN : Option SV -> Option SV
  | some (.lit K c) => some (.i K (c : Int))
  | r => r
theorem QcY {r : Option SV} {v : SV} (h : unN r = some v) (ρ : Qs) : ∃ u, r = some u /\ u.den ρ = v.den ρ := by
  unfold unN at h
  split at h
  . cases h; exact ⟨_, rfl, by simp only [SV.den]⟩
  . exact ⟨v, h, rfl⟩
theorem U0 {ρ : Qs} {f : SF} {x : Operand} {v : SV} (h : unN (ZL f x) = some v) : ev (Qo ρ f) x = some (v.den ρ) := by
  obtain ⟨u, h1, h2⟩ := QcY h ρ
  rw [Qk h1, h2]
/-- A bound, by symbols. -/
def bdS (f : SF) (d : Nat) (acc : List Prop) : Option Operand -> Option (Nat × List Prop)
  | none => some (d, acc)
  | some y => match y with
    | .const (.int _ (.ofNat c)) => some (c, acc)
    | y => match ZL f y with
      | some (.i _ n) => some (n.toNat, (0 <= n) :: acc)
      | some (.lit _ c) => some (c, acc)
      | _ => none
theorem Zz {ρ : Qs} {f : SF} {d n : Nat} {acc acc' : List Prop} {x : Option Operand} (h : bdS f d acc x = some (n, acc')) (hc : QK acc') : QK acc /\ BdF (Qo ρ f) x d n := by
  unfold bdS at h
  split at h
  . simp only [Option.some.injEq, Prod.mk.injEq] at h
    obtain ⟨rfl, rfl⟩ := h
    exact ⟨hc, rfl⟩
  . split at h
    . simp only [Option.some.injEq, Prod.mk.injEq] at h
      obtain ⟨rfl, rfl⟩ := h
      exact ⟨hc, _, rfl⟩
    . split at h
      . rename_i K z hy
        simp only [Option.some.injEq, Prod.mk.injEq] at h
        obtain ⟨rfl, rfl⟩ := h
        have h1 := Qk (ρ := ρ) hy
        simp only [SV.den] at h1
        exact ⟨hc.2, K, by rw [Int.toNat_of_nonneg hc.1]; exact h1⟩
      . rename_i K z hy
        simp only [Option.some.injEq, Prod.mk.injEq] at h
        obtain ⟨rfl, rfl⟩ := h
        have h1 := Qk (ρ := ρ) hy
        simp only [SV.den] at h1
        exact ⟨hc, K, h1⟩
      . cases h
/-- Where a part begins. -/
def D2 (c l o s : Nat) : Nat := match Nat.beq c l with
  | true => o
  | false => Nat.add o (Nat.mul l s)
theorem UK (c l o s : Nat) : D2 c l o s = JR c l o s := by
  unfold D2 JR
  cases h : Nat.beq c l with
  | true => rw [if_pos (Nat.eq_of_beq_eq_true h)]
  | false => rw [if_neg (Nat.ne_of_beq_eq_false h)]; rfl
theorem Hl (c l a b s : Nat) : a + JR c l b s = JR c l (a + b) s := by
  unfold JR
  split <;> omega
def Qc7 (T : TT) (f : SF) (acc : List Prop) (t : Nat) (x : Operand) (lo hi : Option Operand) : Option (SV × List Prop) := match T.get t with
  | none => none
  | some i => match ZL f x with
    | some (.p k o) => match Nat.beq i.n 0 with
      | true => none
      | false => match bdS f 0 acc lo with
        | none => none
        | some (l, acc) => match bdS f i.n acc hi with
          | none => none
          | some (h, acc) => some (.y k (D2 i.n l o i.q) (Nat.sub h l) (Nat.sub i.n l), (l <= h /\ h <= i.n) :: acc)
    | some (.q k o) => match Nat.beq i.n 0 with
      | true => none
      | false => match bdS f 0 acc lo with
        | none => none
        | some (l, acc) => match bdS f i.n acc hi with
          | none => none
          | some (h, acc) => some (.z k (D2 i.n l o i.q) (Nat.sub h l) (Nat.sub i.n l), (l <= h /\ h <= i.n) :: acc)
    | some (.y k o n c) => match Nat.beq i.y 2 with
      | false => none
      | true => match T.get i.e with
        | none => none
        | some j => match bdS f 0 acc lo with
          | none => none
          | some (l, acc) => match bdS f n acc hi with
            | none => none
            | some (h, acc) => some (.y k (D2 c l o j.s) (Nat.sub h l) (Nat.sub c l), (l <= h /\ h <= c) :: acc)
    | some (.z k o n c) => match Nat.beq i.y 2 with
      | false => none
      | true => match T.get i.e with
        | none => none
        | some j => match bdS f 0 acc lo with
          | none => none
          | some (l, acc) => match bdS f n acc hi with
            | none => none
            | some (h, acc) => some (.z k (D2 c l o j.s) (Nat.sub h l) (Nat.sub c l), (l <= h /\ h <= c) :: acc)
    | some (.s b) => match Nat.beq i.y 1 with
      | false => none
      | true => match bdS f 0 acc lo with
        | none => none
        | some (l, acc) => match bdS f b.size acc hi with
          | none => none
          | some (h, acc) => some (.s (b.extract l h), (l <= h /\ h <= b.size) :: acc)
    | _ => none
theorem TT.elem {P : Program} {T : TT} (hT : T.ok P = true) {t : Nat} {i : TI} (hi : T.get t = some i) (hn : Nat.beq i.n 0 = false) : X2 P i.e i.q = true := by
  have hu := TT.arr hT hi hn
  have hp := TT.places hT hi
  unfold UJ at hp
  rw [hu] at hp
  simp only at hp
  split at hp
  . rename_i ie he
    simp only [Bool.and_eq_true] at hp
    unfold X2
    rw [he]
    simpa using Nat.eq_of_beq_eq_true hp.1
  . cases hp
section
variable {P : Program} {ops : Array Oper} {o : Oper} {N : Nat} {w : World} {ρ : Qs} {T : TT} {acc acc' : List Prop} {f : SF}
theorem Ew (hT : T.ok P = true) (hw : Qg ops o (Qo ρ f) = some true) {t : Nat} {x : Operand} {lo hi : Option Operand} (ho : o.op = .slice t x lo hi none) {v : SV} (h : Qc7 T f acc t x lo hi = some (v, acc')) (hc : QK acc') : QK acc /\ Yl P ops o N ρ (Qo ρ f) w v := by
  unfold Qc7 at h
  split at h
  . cases h
  . rename_i i hi
    split at h
    . rename_i k o' hx
      have h1 := Qk (ρ := ρ) hx
      simp only [SV.den] at h1
      split at h
      . cases h
      . rename_i hn
        split at h
        . cases h
        . rename_i l acc1 hl
          split at h
          . cases h
          . rename_i hh acc2 hhi
            simp only [Option.some.injEq, Prod.mk.injEq] at h
            obtain ⟨rfl, rfl⟩ := h
            obtain ⟨⟨g1, g2⟩, g3⟩ := hc
            obtain ⟨g4, b2⟩ := Zz (ρ := ρ) hhi g3
            obtain ⟨g5, b1⟩ := Zz (ρ := ρ) hl g4
            exact ⟨g5, (Qb8 ho (TT.arr hT hi hn) (TT.elem hT hi hn) h1 b1 b2 g1 g2 hw).eq (by simp only [SV.den, UK]; rfl)⟩
    . rename_i k o' hx
      have h1 := Qk (ρ := ρ) hx
      simp only [SV.den] at h1
      split at h
      . cases h
      . rename_i hn
        split at h
        . cases h
        . rename_i l acc1 hl
          split at h
          . cases h
          . rename_i hh acc2 hhi
            simp only [Option.some.injEq, Prod.mk.injEq] at h
            obtain ⟨rfl, rfl⟩ := h
            obtain ⟨⟨g1, g2⟩, g3⟩ := hc
            obtain ⟨g4, b2⟩ := Zz (ρ := ρ) hhi g3
            obtain ⟨g5, b1⟩ := Zz (ρ := ρ) hl g4
            exact ⟨g5, (Qb8 ho (TT.arr hT hi hn) (TT.elem hT hi hn) h1 b1 b2 g1 g2 hw).eq (by simp only [SV.den, UK, Hl]; rfl)⟩
    . rename_i k o' n c hx
      have h1 := Qk (ρ := ρ) hx
      simp only [SV.den] at h1
      split at h
      . cases h
      . rename_i hy
        split at h
        . cases h
        . rename_i j hj
          split at h
          . cases h
          . rename_i l acc1 hl
            split at h
            . cases h
            . rename_i hh acc2 hhi
              simp only [Option.some.injEq, Prod.mk.injEq] at h
              obtain ⟨rfl, rfl⟩ := h
              obtain ⟨⟨g1, g2⟩, g3⟩ := hc
              obtain ⟨g4, b2⟩ := Zz (ρ := ρ) hhi g3
              obtain ⟨g5, b1⟩ := Zz (ρ := ρ) hl g4
              exact ⟨g5, (Qb7 ho (V5 (TT.slc hT hi hy) (TT.size hT hj)) h1 b1 b2 g1 g2 hw).eq (by simp only [SV.den, UK]; rfl)⟩
    . rename_i k o' n c hx
      have h1 := Qk (ρ := ρ) hx
      simp only [SV.den] at h1
      split at h
      . cases h
      . rename_i hy
        split at h
        . cases h
        . rename_i j hj
          split at h
          . cases h
          . rename_i l acc1 hl
            split at h
            . cases h
            . rename_i hh acc2 hhi
              simp only [Option.some.injEq, Prod.mk.injEq] at h
              obtain ⟨rfl, rfl⟩ := h
              obtain ⟨⟨g1, g2⟩, g3⟩ := hc
              obtain ⟨g4, b2⟩ := Zz (ρ := ρ) hhi g3
              obtain ⟨g5, b1⟩ := Zz (ρ := ρ) hl g4
              exact ⟨g5, (Qb7 ho (V5 (TT.slc hT hi hy) (TT.size hT hj)) h1 b1 b2 g1 g2 hw).eq (by simp only [SV.den, UK, Hl]; rfl)⟩
    . rename_i b hx
      have h1 := Qk (ρ := ρ) hx
      simp only [SV.den] at h1
      split at h
      . cases h
      . rename_i hy
        split at h
        . cases h
        . rename_i l acc1 hl
          split at h
          . cases h
          . rename_i hh acc2 hhi
            simp only [Option.some.injEq, Prod.mk.injEq] at h
            obtain ⟨rfl, rfl⟩ := h
            obtain ⟨⟨g1, g2⟩, g3⟩ := hc
            obtain ⟨g4, b2⟩ := Zz (ρ := ρ) hhi g3
            obtain ⟨g5, b1⟩ := Zz (ρ := ρ) hl g4
            exact ⟨g5, (Qfk ho (TT.str hT hi hy) h1 b1 b2 g1 g2 hw).eq (by simp only [SV.den])⟩
    . cases h
/-- An array of a slice's cells. -/
def Qdb (T : TT) (f : SF) (acc : List Prop) (t : Nat) (x : Operand) : Option (SV × List Prop) := match T.get t with
  | none => none
  | some i => match Nat.beq i.n 0 with
    | true => none
    | false => match ZL f x with
      | some (.y k o l _) => some (.p k o, (i.n <= l) :: acc)
      | some (.z k o l _) => some (.q k o, (i.n <= l) :: acc)
      | _ => none
theorem Qb9 {t e n B o0 l c : Nat} {x : Operand} {f : Fl} (ho : o.op = .sliceToArrayPointer t x) (hu : P.underlying t = some (.array n e)) (hx : ev f x = some (.slice (some ⟨B, o0, none⟩) l c)) (h : n <= l) (hw : Qg ops o f = some true := by rfl) : DV P ops o N f w (.pointer (some ⟨B, o0, none⟩)) := fun a ha => by
  have hx := ha.ev hx
  refine Qe.pure (Qc ha hw) _ ?_ ⟨rfl, rfl⟩
  unfold execOp
  simp only [ho, hx, Instr.arrayAt, Sem.run_bind, run_underlying hu, Result.andThen_ok, if_neg (show ¬ l < n by omega), Sem.run_pure]
theorem Ez (hT : T.ok P = true) (hw : Qg ops o (Qo ρ f) = some true) {t : Nat} {x : Operand} (ho : o.op = .sliceToArrayPointer t x) {v : SV} (h : Qdb T f acc t x = some (v, acc')) (hc : QK acc') : QK acc /\ Yl P ops o N ρ (Qo ρ f) w v := by
  unfold Qdb at h
  split at h
  . cases h
  . rename_i i hi
    split at h
    . cases h
    . rename_i hn
      split at h
      . rename_i k o' l c hx
        have h1 := Qk (ρ := ρ) hx
        simp only [SV.den] at h1
        simp only [Option.some.injEq, Prod.mk.injEq] at h
        obtain ⟨rfl, rfl⟩ := h
        exact ⟨hc.2, (Qb9 ho (TT.arr hT hi hn) h1 hc.1 hw).eq (by simp only [SV.den])⟩
      . rename_i k o' l c hx
        have h1 := Qk (ρ := ρ) hx
        simp only [SV.den] at h1
        simp only [Option.some.injEq, Prod.mk.injEq] at h
        obtain ⟨rfl, rfl⟩ := h
        exact ⟨hc.2, (Qb9 ho (TT.arr hT hi hn) h1 hc.1 hw).eq (by simp only [SV.den])⟩
      . cases h
/-- A slice that is written out. -/
theorem Qfx {t len : Nat} {parts : Array (Nat × Operand)} {e : TypeId} {i : TypeInfo} {Z : Value} {ps : List (Nat × Value)} {cs : List Value} {f : Fl} (ho : o.op = .buildSlice t len parts) (hu : P.underlying t = some (.slice e)) (hi : P.info? e = some i) (hz : i.zero = some Z)
    (hp : (evl f (parts.toList.map (·.2))).map (fun vs => (parts.toList.map (·.1)).zip vs) = some ps) (hlen : len * i.size <= 16777216)
    (hf : Instr.fill (fun k => some (k * i.size, i.size)) (if len * i.size = 0 then #[] else (Array.range (len * i.size)).map (Z.cells[· % Z.cells.size]!)) ps = some cs.toArray) (hw : Qg ops o f = some true := by rfl) : DR P ops o N f w (fun u W => u = .slice (some ⟨w.heap.size, 0, none⟩) len len /\ XZ W w.heap.size cs /\ Below w.heap.size w W /\ w.heap.size < W.heap.size) := fun a ha => by
  have key : (parts.map fun (i, x) => (i, a.eval x)).toList = ps := by
    cases hq : evl f (parts.toList.map (·.2)) with
    | none => rw [hq] at hp; cases hp
    | some vs =>
      rw [hq] at hp
      have h1 := ha.evl hq
      simp only [Option.map_some, Option.some.injEq] at hp
      rw [<- hp, <- h1, Array.toList_map]
      clear hp h1 hq ho
      induction parts.toList with
      | nil => rfl
      | cons p l ih => simp only [List.map_cons, List.zip_cons_cons, List.cons.injEq, true_and]; exact ih
  have hrun := U4 (w := w) hu hi hz len (parts.map fun (i, x) => (i, a.eval x)) hlen (cs := cs.toArray) (by rw [key]; exact hf)
  exact Qe.of_wp (Qc ha hw) fun K hK => by
    unfold Oper.wp execOp
    simp only [ho, Sem.run_bind, hrun, Sem.run_pure, Result.andThen_ok]
    obtain ⟨n1, n2, n3⟩ := Hn w e cs
    exact hK _ _ ⟨rfl, n1, n2, n3⟩
def Qdi {α : Type} (l : List SV) : Nat -> (List SV -> α) -> α
  | 0, K => K []
  | n + 1, K => Qdi l n fun r => Ff l r K
theorem ED {α : Type} {l : List SV} : ∀ {n : Nat} {K : List SV -> α}, Qdi l n K = K (List.replicate n l).flatten
  | 0, K => rfl
  | n + 1, K => by unfold Qdi; rw [ED, VU]; rfl
theorem KX {l : List SV} (h : XW l) : ∀ n : Nat, XW (List.replicate n l).flatten
  | 0 => trivial
  | n + 1 => Xr.2 ⟨h, KX h n⟩
theorem JA (ρ : Qs) (l : List SV) : ∀ n : Nat, Qd ρ (List.replicate n l).flatten = (List.replicate n (Qd ρ l)).flatten
  | 0 => by simp only [List.replicate, List.flatten_nil, Qd]
  | n + 1 => by
    rw [List.replicate_succ, List.replicate_succ, List.flatten_cons, List.flatten_cons, Xp, JA ρ l n]
def QdB (T : TT) (f : SF) (acc : List Prop) (t len : Nat) (ps : List (Nat × Operand)) : Option (List SV × List Prop) := match T.get t with
  | none => none
  | some i => match Nat.beq i.y 2 with
    | false => none
    | true => match T.get i.e with
      | none => none
      | some j => match j.z with
        | none => none
        | some z => match Nat.ble (Nat.mul len j.s) 16777216 with
          | false => none
          | true => match Nat.ble 1 len with
            | false => none
            | true => match Nat.ble 1 j.s with
              | false => none
              | true => match eqW z j.s with
                | false => none
                | true => Qdi z len fun c => Yb { s := 0, g := true, n := len, q := j.s } f ps c acc
theorem EW (hT : T.ok P = true) (hw : Qg ops o (Qo ρ f) = some true) {t len : Nat} {ps : List (Nat × Operand)} (ho : o.op = .buildSlice t len ⟨ps⟩) {c : List SV} (h : QdB T f acc t len ps = some (c, acc')) (hc : QK acc') : QK acc /\ XW c /\ DR P ops o N (Qo ρ f) w (fun u W => u = .slice (some ⟨w.heap.size, 0, none⟩) len len /\ XZ W w.heap.size (Qd ρ c) /\ Below w.heap.size w W /\ w.heap.size < W.heap.size) := by
  unfold QdB at h
  split at h
  . cases h
  . rename_i i hi
    split at h
    . cases h
    . rename_i hy
      split at h
      . cases h
      . rename_i j hj
        split at h
        . cases h
        . rename_i z hz
          split at h
          . cases h
          . rename_i hb
            have hb := Nat.le_of_ble_eq_true hb
            split at h
            . cases h
            . rename_i hl
              have hl := Nat.le_of_ble_eq_true hl
              split at h
              . cases h
              . rename_i hs
                have hs := Nat.le_of_ble_eq_true hs
                split at h
                . cases h
                rename_i hzw
                have hzw := Gg hzw
                rw [ED] at h
                obtain ⟨z1, z2, Z, z3, z4⟩ := TT.zero hT hj hz
                obtain ⟨ti, hti, hsz⟩ := YC (TT.size hT hj)
                rw [hti] at z3
                simp only [Option.bind_some] at z3
                have hn0 : Nat.beq len 0 = false := by
                  cases hq : Nat.beq len 0 with
                  | false => rfl
                  | true => have := Nat.eq_of_beq_eq_true hq; omega
                obtain ⟨g1, g2, vs, g3, g4⟩ := Uh (ρ := ρ) (place := fun k => some (k * j.s, j.s)) (fun k q hq => by
                  simp only [Kh, hn0, Option.some.injEq] at hq
                  rw [<- hq]; rfl) (KX z1 len) h hc
                refine ⟨g1, g2, Qfx (ps := (ps.map (·.1)).zip vs) ho (TT.slc hT hi hy) hti z3 (by show Option.map _ (evl (Qo ρ f) (ps.map (·.2))) = _; rw [g3]; rfl) (by rw [hsz]; exact hb) ?_ hw⟩
                have hm : len * j.s <= 16777216 := hb
                have hpos : 0 < len * j.s := Nat.mul_pos hl hs
                have hzl : Z.cells.size = j.s := by
                  have e1 : Z.cells.toList.length = XU z := by rw [z4 ρ, QC ρ z1]
                  rw [Array.length_toList] at e1
                  rw [e1, hzw]
                rw [hsz, if_neg (by omega)]
                have hmr := Kk (Z := Z) (r := Qd ρ z) (z4 ρ) hzl hs len
                unfold madeCells at hmr
                rw [hmr, <- JA]
                exact g4
theorem Qce {x y : Operand} {t t' : TypeId} {B X o1 o2 n c m c' : Nat} {cs ys : List Value} {f : Fl} (ho : o.op = .call { callee := .builtin .copy, args := #[x, y], argTypes := #[t, t'] }) (ht : V6 P t 1 = true) (hx : ev f x = some (.slice (some ⟨B, o1, none⟩) n c)) (hy : ev f y = some (.slice (some ⟨X, o2, none⟩) m c')) (hb : XZ w B cs) (hr : w.rangeAt X o2 ys) (hm : ys.length = Nat.min m n) (hn : o1 + Nat.min m n <= cs.length) (h1 : ∀ v ∈ ys, v.oneCell' = true) (hw : Qg ops o f = some true := by rfl) :
    DR P ops o N f w fun v W => v = .int .i64 ((Nat.min m n : Nat) : Int) /\ XZ W B (cs.take o1 ++ (ys ++ cs.drop (o1 + Nat.min m n))) /\ VW B w W := fun a ha => by
  have hx := ha.ev hx
  have hy := ha.ev hy
  obtain ⟨e, hu, hs⟩ := Ki ht
  obtain ⟨tt, hb'⟩ := hb
  cases hi : P.info? e with
  | none => rw [hi] at hs; cases hs
  | some q =>
    have hq : q.size = 1 := by simpa [hi] using hs
    generalize hk : Nat.min m n = k at *
    have hf := run_firstCells_some (P := P) w q.size k ⟨X, o2, none⟩ m c' ys (by rw [hq]; omega) (fun j u hj => by rw [Y2]; exact hr j u hj)
    have hst := run_storeCells_at P B o1 tt ys 0 _ w hb' (by simp; omega) h1
    simp only [Nat.add_zero] at hst
    rw [hm] at hst
    exact Qe.of_wp (Qc ha hw) fun K hK => by
      unfold Oper.wp execOp
      simp only [ho, resolve, invoke, builtin, Sem.run_bind, Sem.run_pure, Result.andThen_ok, List.map_toArray, List.map_cons, List.map_nil, hx, hy, Builtin.copy_, run_underlying hu, List.getElem?_toArray, List.getElem?_cons_zero, List.getElem?_cons_succ, Builtin.lenOf, hk, sizeOf, typeInfo, run_program, hi, hf, hst]
      have hfin : XZ (w.setRow B (cs.toArray.toList.take o1 ++ ys ++ cs.toArray.toList.drop (o1 + k)).toArray) B (cs.take o1 ++ (ys ++ cs.drop (o1 + k))) := ⟨tt, by rw [setRow_heap w B _ _ tt (0, 0) hb']; simp⟩
      exact hK _ _ ⟨rfl, hfin, Um w B _⟩
/-- A copy among arrays of numbers: to which block, what it holds then, how many, which block is read. -/
def Gr (T : TT) (f : SF) (m : SM) (acc : List Prop) (t : Nat) (x y : Operand) : Option (Nat × Cl × Nat × Nat × List Prop) := match T.get t with
  | none => none
  | some i => match Nat.beq i.y 2 with
    | false => none
    | true => match T.get i.e with
      | none => none
      | some j => match Nat.beq j.s 1 with
        | false => none
        | true => match ZL f x with
          | some (.y k o1 l _) => match ZL f y with
            | some (.y k' o2 l' _) => match Xm m k with
              | some [.a K zs n] => match Xm m k' with
                | some [.a K' ys n'] => some (k, [.a K (zs.take o1 ++ ((ys.drop o2).take (Nat.min l' l) ++ zs.drop (Nat.add o1 (Nat.min l' l)))) n], Nat.min l' l, k', (K' = K /\ o1 + Nat.min l' l <= n /\ o2 + Nat.min l' l <= n') :: acc)
                | _ => none
              | _ => none
            | _ => none
          | _ => none
theorem Dg {L0 : List Nat} {w0 : World} {m : SM} {d : SD} {n0 : Nat} {Γ : List Qq} (hT : T.ok P = true) (hW : WM ρ L0 w0 m d n0 Γ w) (hw : Qg ops o (Qo ρ f) = some true) {t t' : Nat} {x y : Operand} (ho : o.op = .call { callee := .builtin .copy, args := #[x, y], argTypes := #[t, t'] }) {k q r : Nat} {c' : Cl} (h : Gr T f m acc t x y = some (k, c', q, r, acc')) (hc : QK acc') : QK acc /\ XW c' /\ (∃ c0, Xm m k = some c0) /\ DR P ops o N (Qo ρ f) w (fun u W => u = .int .i64 (q : Int) /\ XZ W (ρ.b k) (Qd ρ c') /\ VW (ρ.b k) w W) := by
  unfold Gr at h
  split at h
  . cases h
  . rename_i i hi
    split at h
    . cases h
    . rename_i hy
      split at h
      . cases h
      . rename_i j hj
        split at h
        . cases h
        . rename_i hs
          have hs := Nat.eq_of_beq_eq_true hs
          split at h
          . rename_i k1 o1 l c1 hx
            split at h
            . rename_i k2 o2 l' c2 hyy
              split at h
              . rename_i K zs n hk1
                split at h
                . rename_i K' ys n' hk2
                  simp only [Option.some.injEq, Prod.mk.injEq] at h
                  obtain ⟨rfl, rfl, rfl, rfl, rfl⟩ := h
                  obtain ⟨⟨rfl, g1, g2⟩, g3⟩ := hc
                  have h1 := Qk (ρ := ρ) hx
                  have h2 := Qk (ρ := ρ) hyy
                  simp only [SV.den] at h1 h2
                  obtain ⟨b1, b2⟩ := hW.cell hk1
                  obtain ⟨b3, b4⟩ := hW.cell hk2
                  have z1 : zs.length = n := b2.1
                  have z2 : ys.length = n' := b4.1
                  simp only [Qd, SV.cs, List.append_nil] at b1 b3
                  have hsl := V5 (TT.slc hT hi hy) (TT.size hT hj)
                  rw [hs] at hsl
                  refine ⟨g3, ⟨?_, trivial⟩, ⟨_, hk1⟩, (Qce (ys := (((ys.drop o2).take (Nat.min l' l)).map (Value.int K'))) ho hsl h1 h2 b1 ?_ ?_ ?_ ?_ hw).mono fun u W ⟨e1, e2, e3⟩ => ⟨e1, ?_, e3⟩⟩
                  . show (zs.take o1 ++ ((ys.drop o2).take (Nat.min l' l) ++ zs.drop (Nat.add o1 (Nat.min l' l)))).length = n
                    have e : Nat.add o1 (Nat.min l' l) = o1 + Nat.min l' l := rfl
                    simp only [e, List.length_append, List.length_take, List.length_drop]
                    omega
                  . have := Y9 b3.range o2 (Nat.min l' l)
                    rw [Nat.zero_add] at this
                    rw [List.map_take, List.map_drop]
                    exact this
                  . rw [List.length_map, List.length_take, List.length_drop]; omega
                  . rw [List.length_map]; omega
                  . intro v hv
                    obtain ⟨z, _, rfl⟩ := List.mem_map.1 hv
                    rfl
                  . simp only [Qd, SV.cs, List.append_nil, List.map_append]
                    rw [List.map_take (l := zs), List.map_drop (l := zs)]
                    exact e2
                . cases h
              . cases h
            . cases h
          . cases h
end
end Go.Proofs.YtbiboamaigedjaaDoor
namespace Go.Proofs.YtbiboamaigedjaaDoor
open Go.RowKit
set_option linter.unusedVariables false
set_option linter.constructorNameAsVariable false
set_option linter.unusedSimpArgs false

/-- A constant index. -/
def cix : Operand -> Option Nat
  | .const (.int _ (.ofNat c)) => some c
  | _ => none
def Ee (f : SF) (y : Operand) : Option Nat := match cix y with
  | some c => some c
  | none => match ZL f y with
    | some (.lit _ c) => some c
    | _ => none
theorem VJ {ρ : Qs} {f : SF} {y : Operand} {c : Nat} (h : Ee f y = some c) : ∃ K, ev (Qo ρ f) y = some (.int K (c : Int)) := by
  unfold Ee at h
  split at h
  . rename_i c' hc
    cases h
    unfold cix at hc
    split at hc
    . cases hc; exact ⟨_, rfl⟩
    . cases hc
  . split at h
    . rename_i K c' hy
      cases h
      have := Qk (ρ := ρ) hy
      simp only [SV.den] at this
      exact ⟨K, this⟩
    . cases h
def QdH (T : TT) (f : SF) (acc : List Prop) (t : Nat) (x y : Operand) : Option (SV × List Prop) := match T.get t with
  | some i => match Nat.beq i.n 0 with
    | true => match Nat.beq i.y 2 with
      | false => none
      | true => match T.get i.e with
        | none => none
        | some j => match ZL f x with
          | some (.y k o l _) => match Ee f y with
            | some c => some (.p k (Nat.add o (Nat.mul c j.s)), (c < l) :: acc)
            | none => match ZL f y with
              | some (.i _ n) => some (.x k o j.s n, (0 <= n /\ n < (l : Int)) :: acc)
              | _ => none
          | some (.z k o l _) => match Ee f y with
            | some c => some (.q k (Nat.add o (Nat.mul c j.s)), (c < l) :: acc)
            | none => match ZL f y with
              | some (.i _ n) => some (.r k o j.s n, (0 <= n /\ n < (l : Int)) :: acc)
              | _ => none
          | _ => none
    | false => match ZL f x with
      | some (.p k o) => match Ee f y with
        | some c => match Nat.blt c i.n with
          | true => some (.p k (Nat.add o (Nat.mul c i.q)), acc)
          | false => none
        | none => match ZL f y with
          | some (.i _ n) => some (.x k o i.q n, (0 <= n /\ n < (i.n : Int)) :: acc)
          | _ => none
      | some (.q k o) => match Ee f y with
        | some c => match Nat.blt c i.n with
          | true => some (.q k (Nat.add o (Nat.mul c i.q)), acc)
          | false => none
        | none => match ZL f y with
          | some (.i _ n) => some (.r k o i.q n, (0 <= n /\ n < (i.n : Int)) :: acc)
          | _ => none
      | _ => none
  | none => none
def ixO (T : TT) (f : SF) (acc : List Prop) (t : Nat) (x y : Operand) : Option (SV × List Prop) := match T.get t with
  | some i => match unN (ZL f y) with
    | some (.i _ n) => match ZL f x with
      | some (.s b) => match Nat.beq i.y 1 with
        | true => some (.i .u8 (atS b n.toNat), (0 <= n /\ n < (b.size : Int)) :: acc)
        | false => none
      | some (.a K zs z) => match Nat.beq i.n 0 with
        | true => none
        | false => match T.get i.e with
          | some j => match j.g with
            | true => none
            | false => some (.i K (zs.getD n.toNat 0), (0 <= n /\ n < (i.n : Int) /\ zs.length = i.n) :: acc)
          | none => none
      | some (.g l) => match Nat.beq i.n 0 with
        | true => none
        | false => match T.get i.e with
          | some j => match j.g with
            | true => none
            | false => match Ee f y with
              | some c => match Nat.blt c i.n with
                | true => match Jp l with
                  | true => none
                  | false => match nth l c with
                    | some v => some (v, acc)
                    | none => none
                | false => none
              | none => none
          | none => none
      | _ => none
    | _ => none
  | none => none
def QdJ (f : SF) (acc : List Prop) (fn : Fn) (first caps : Array Operand) : Option (SV × List Prop) := match fn with
  | .func F => match first with
    | ⟨[]⟩ => match caps with
      | ⟨l⟩ => match Ge f l with
        | some vs => some (.f F vs, acc)
        | none => none
    | _ => none
  | _ => none
def D5 (f : SF) (m : SM) (d : SD) (n : Nat) (c : List SV) (acc : List Prop) : Option (SV × SM × Nat × List Prop) := match Dy n f with
  | true => match JW n m with
    | true => match JM n d with
      | true => match Zt n c with
        | true => some (.p n 0, (n, c) :: m, Nat.succ n, acc)
        | false => none
      | false => none
    | false => none
  | false => none
def QbH (f : SF) (m : SM) (d : SD) (n : Nat) (c : List SV) (l : Nat) (acc : List Prop) : Option (SV × SM × Nat × List Prop) := match Dy n f with
  | true => match JW n m with
    | true => match JM n d with
      | true => match Zt n c with
        | true => some (.y n 0 l l, (n, c) :: m, Nat.succ n, acc)
        | false => none
      | false => none
    | false => none
  | false => none
/-- One operation: what it yields, and what the Xq blocks hold behind it. -/
def Qe7 (T : TT) (md : Bool) (f : SF) (m : SM) (d : SD) (n : Nat) (acc : List Prop) : Op -> Option (SV × SM × Nat × List Prop)
  | .load t x => match ZL f x with
    | some sx => match Jk T m d acc t sx with
      | some (v, acc) => some (v, m, n, acc)
      | none => none
    | none => none
  | .store t x y => match ZL f x with
    | some sx => match ZL f y with
      | some sy => match Fy T m acc t sx sy with
        | some (m, acc) => some (.u, m, n, acc)
        | none => none
      | none => none
    | none => none
  | .box t x => match ZL f x with
    | some sx => match Z9 acc sx with
      | some (c, acc) => D5 f m d n c acc
      | none => none
    | none => none
  | .alloc t => match T.get t with
    | some i => match i.z with
      | some c => D5 f m d n c acc
      | none => none
    | none => none
  | .indexAddr t x y => match QdH T f acc t x y with
    | some (v, acc) => some (v, m, n, acc)
    | none => none
  | .index t x y => match ixO T f acc t x y with
    | some (v, acc) => some (v, m, n, acc)
    | none => none
  | .makeFunc fn first caps => match QdJ f acc fn first caps with
    | some (v, acc) => some (v, m, n, acc)
    | none => none
  | .slice t x lo hi none => match Qc7 T f acc t x lo hi with
    | some (v, acc) => some (v, m, n, acc)
    | none => none
  | .sliceToArrayPointer t x => match Qdb T f acc t x with
    | some (v, acc) => some (v, m, n, acc)
    | none => none
  | .buildSlice t len ⟨ps⟩ => match QdB T f acc t len ps with
    | some (c, acc) => QbH f m d n c len acc
    | none => none
  | .call { callee := .builtin .copy, args := ⟨[x, y]⟩, argTypes := ⟨[t, _]⟩ } => match Gr T f m acc t x y with
    | some (k, c, q, _, acc) => QaO k c m fun m' => some (.i .i64 (q : Int), m', n, acc)
    | none => none
  | .build t ps => match Gx T f acc t ps with
    | some (v, acc) => some (v, m, n, acc)
    | none => none
  | .move x => match ZL f x with
    | some v => some (v, m, n, acc)
    | none => none
  | .assign x => match ZL f x with
    | some v => some (v, m, n, acc)
    | none => none
  | op => match G9 T md (fun x => unN (ZL f x)) acc op with
    | some (v, acc) => some (v, m, n, acc)
    | none => none
section
variable {P : Program} {ops : Array Oper} {o : Oper} {N : Nat} {w w0 : World} {ρ : Qs} {T : TT} {acc acc' : List Prop} {L0 : List Nat} {m m' : SM} {d : SD} {n n' : Nat} {Γ : List Qq} {f : SF} {md : Bool}
theorem E1 (hT : T.ok P = true) (hw : Qg ops o (Qo ρ f) = some true) {t : Nat} {x y : Operand} (ho : o.op = .indexAddr t x y) {v : SV} (h : QdH T f acc t x y = some (v, acc')) (hc : QK acc') : QK acc /\ Yl P ops o N ρ (Qo ρ f) w v := by
  unfold QdH at h
  split at h
  . rename_i i hi
    split at h
    . split at h
      . cases h
      . rename_i hy2
        have hu := TT.slc hT hi hy2
        split at h
        . cases h
        . rename_i j hj
          have he := TT.size hT hj
          split at h
          . rename_i k o' l c0 hx
            have h1 := Qk (ρ := ρ) hx
            simp only [SV.den] at h1
            split at h
            . rename_i c hy
              obtain ⟨K, h2⟩ := VJ (ρ := ρ) hy
              simp only [Option.some.injEq, Prod.mk.injEq] at h
              obtain ⟨rfl, rfl⟩ := h
              obtain ⟨g1, g2⟩ := hc
              exact ⟨g2, (Gn (o1 := Nat.add o' (Nat.mul c j.s)) ho hu he h1 h2 (by omega) (by rw [Int.toNat_natCast]; rfl) hw).eq (by simp only [SV.den])⟩
            . split at h
              . rename_i K nn hy
                have h2 := Qk (ρ := ρ) hy
                simp only [SV.den] at h2
                simp only [Option.some.injEq, Prod.mk.injEq] at h
                obtain ⟨rfl, rfl⟩ := h
                exact ⟨hc.2, (Gn ho hu he h1 h2 hc.1 rfl hw).eq (by simp only [SV.den])⟩
              . cases h
          . rename_i k o' l c0 hx
            have h1 := Qk (ρ := ρ) hx
            simp only [SV.den] at h1
            split at h
            . rename_i c hy
              obtain ⟨K, h2⟩ := VJ (ρ := ρ) hy
              simp only [Option.some.injEq, Prod.mk.injEq] at h
              obtain ⟨rfl, rfl⟩ := h
              obtain ⟨g1, g2⟩ := hc
              exact ⟨g2, (Gn ho hu he h1 h2 (by omega) rfl hw).eq (by simp only [SV.den, Int.toNat_natCast, Nat.add_assoc]; rfl)⟩
            . split at h
              . rename_i K nn hy
                have h2 := Qk (ρ := ρ) hy
                simp only [SV.den] at h2
                simp only [Option.some.injEq, Prod.mk.injEq] at h
                obtain ⟨rfl, rfl⟩ := h
                exact ⟨hc.2, (Gn ho hu he h1 h2 hc.1 rfl hw).eq (by simp only [SV.den, Nat.add_assoc])⟩
              . cases h
          . cases h
    . rename_i hn
      have hu := TT.arr hT hi hn
      have he := TT.elem hT hi hn
      split at h
      . rename_i k o' hx
        have h1 := Qk (ρ := ρ) hx
        simp only [SV.den] at h1
        split at h
        . rename_i c hy
          obtain ⟨K, h2⟩ := VJ (ρ := ρ) hy
          split at h
          . rename_i hlt
            have hlt := Qw hlt
            simp only [Option.some.injEq, Prod.mk.injEq] at h
            obtain ⟨rfl, rfl⟩ := h
            exact ⟨hc, (UN (o1 := Nat.add o' (Nat.mul c i.q)) ho hu he h1 h2 (by omega) (by rw [Int.toNat_natCast]; rfl) hw).eq (by simp only [SV.den])⟩
          . cases h
        . split at h
          . rename_i K nn hy
            have h2 := Qk (ρ := ρ) hy
            simp only [SV.den] at h2
            simp only [Option.some.injEq, Prod.mk.injEq] at h
            obtain ⟨rfl, rfl⟩ := h
            exact ⟨hc.2, (UN ho hu he h1 h2 hc.1 rfl hw).eq (by simp only [SV.den])⟩
          . cases h
      . rename_i k o' hx
        have h1 := Qk (ρ := ρ) hx
        simp only [SV.den] at h1
        split at h
        . rename_i c hy
          obtain ⟨K, h2⟩ := VJ (ρ := ρ) hy
          split at h
          . rename_i hlt
            have hlt := Qw hlt
            simp only [Option.some.injEq, Prod.mk.injEq] at h
            obtain ⟨rfl, rfl⟩ := h
            exact ⟨hc, (UN ho hu he h1 h2 (by omega) rfl hw).eq (by simp only [SV.den, Int.toNat_natCast, Nat.add_assoc]; rfl)⟩
          . cases h
        . split at h
          . rename_i K nn hy
            have h2 := Qk (ρ := ρ) hy
            simp only [SV.den] at h2
            simp only [Option.some.injEq, Prod.mk.injEq] at h
            obtain ⟨rfl, rfl⟩ := h
            exact ⟨hc.2, (UN ho hu he h1 h2 hc.1 rfl hw).eq (by simp only [SV.den, Nat.add_assoc])⟩
          . cases h
      . cases h
  . cases h
theorem Qcc {fl : Fl} {t e nn : Nat} {x y : Operand} {cs : List Value} {v : Value} {K : IntKind} {i : Int} (ho : o.op = .index t x y) (hu : P.underlying t = some (.array nn e)) (he : FS P e = true) (hx : ev fl x = some (.agg cs.toArray)) (hy : ev fl y = some (.int K i)) (h0 : 0 <= i) (h1 : i < nn) (hv : cs[i.toNat]? = some v) (hw : Qg ops o fl = some true) : DV P ops o N fl w v := fun q hq => by
  have hx := hq.ev hx
  have hy := hq.ev hy
  obtain ⟨dd, hue, hd, hs⟩ := UL he
  have hagg : (isAgg e).run P w = .ok false w := by
    unfold isAgg
    rw [Sem.run_bind, run_underlying hue w]
    cases dd <;> simp_all
  refine Qe.pure (Qc hq hw) _ ?_ ⟨rfl, rfl⟩
  cases hi : P.info? e with
  | none => rw [hi] at hs; cases hs
  | some ie =>
    have h5 : ie.size = 1 := by simpa [hi] using hs
    unfold execOp
    simp only [ho, hx, hy, Instr.index, asIntOf, Sem.run_bind, Sem.run_pure, Result.andThen_ok, run_underlying hu]
    simp [h0, h1, sizeOf, typeInfo, hi, h5, part, Sem.run_bind, hagg, hv]
theorem Hz {ρ : Qs} : ∀ {l : List SV}, Jp l = false -> Qd ρ l = Qr ρ l
  | [], _ => by simp only [Qd, Qr]
  | x :: l, h => by
    cases x
    case a K zs n => simp [Jp] at h
    all_goals
      have := Hz (ρ := ρ) (l := l) (by simpa only [Jp] using h)
      simp only [Qd, Qr, SV.cs, this, List.singleton_append]
theorem QbW (hT : T.ok P = true) (hw : Qg ops o (Qo ρ f) = some true) {t : Nat} {x y : Operand} (ho : o.op = .index t x y) {v : SV} (h : ixO T f acc t x y = some (v, acc')) (hc : QK acc') : QK acc /\ Yl P ops o N ρ (Qo ρ f) w v := by
  unfold ixO at h
  split at h
  . rename_i i hi
    split at h
    . rename_i K n' hy
      have h2 := U0 (ρ := ρ) hy
      simp only [SV.den] at h2
      split at h
      . rename_i b hx
        have h1 := Qk (ρ := ρ) hx
        simp only [SV.den] at h1
        split at h
        . rename_i hs
          simp only [Option.some.injEq, Prod.mk.injEq] at h
          obtain ⟨rfl, rfl⟩ := h
          obtain ⟨⟨g1, g2⟩, g3⟩ := hc
          exact ⟨g3, (Qgg n'.toNat ho (TT.str hT hi hs) h1 h2 (by omega) (by omega) hw).eq (by simp only [SV.den])⟩
        . cases h
      . rename_i K' zs z hx
        have h1 := Qk (ρ := ρ) hx
        simp only [SV.den] at h1
        split at h
        . cases h
        . rename_i hn
          split at h
          . rename_i j hj
            split at h
            . cases h
            . rename_i hg
              simp only [Option.some.injEq, Prod.mk.injEq] at h
              obtain ⟨rfl, rfl⟩ := h
              obtain ⟨⟨g1, g2, g4⟩, g3⟩ := hc
              refine ⟨g3, (Qcc ho (TT.arr hT hi hn) (TT.one hT hj hg) h1 h2 g1 g2 (v := .int K' (zs.getD n'.toNat 0)) ?_ hw).eq (by simp only [SV.den])⟩
              rw [List.getElem?_map, List.getD_eq_getElem?_getD, List.getElem?_eq_getElem (by omega)]
              rfl
          . cases h
      . rename_i l hx
        have h1 := Qk (ρ := ρ) hx
        simp only [SV.den] at h1
        split at h
        . cases h
        . rename_i hn
          split at h
          . rename_i j hj
            split at h
            . cases h
            . rename_i hg
              split at h
              . rename_i c hcx
                obtain ⟨K2, h3⟩ := VJ (ρ := ρ) hcx
                split at h
                . rename_i hlt
                  have hlt := Qw hlt
                  split at h
                  . cases h
                  . rename_i hA
                    split at h
                    . rename_i u hu
                      simp only [Option.some.injEq, Prod.mk.injEq] at h
                      obtain ⟨rfl, rfl⟩ := h
                      rw [Hz hA] at h1
                      exact ⟨hc, Qcc ho (TT.arr hT hi hn) (TT.one hT hj hg) h1 h3 (by omega) (by omega) (by rw [Int.toNat_natCast]; exact HQ (FW hu)) hw⟩
                    . cases h
                . cases h
              . cases h
          . cases h
      . cases h
    . cases h
  . cases h
theorem E3 (hw : Qg ops o (Qo ρ f) = some true) {fn : Fn} {first caps : Array Operand} (ho : o.op = .makeFunc fn first caps) {v : SV} (h : QdJ f acc fn first caps = some (v, acc')) (hc : QK acc') : QK acc /\ Yl P ops o N ρ (Qo ρ f) w v := by
  unfold QdJ at h
  split at h
  . split at h
    . split at h
      rename_i l
      split at h
      . rename_i vs hv
        simp only [Option.some.injEq, Prod.mk.injEq] at h
        obtain ⟨rfl, rfl⟩ := h
        exact ⟨hc, (QdS ho rfl (Zi (ρ := ρ) hv) hw).eq (by simp only [SV.den])⟩
      . cases h
    . cases h
  . cases h
/-- What holds behind an operation. -/
def Eo (P : Program) (ρ : Qs) (L0 : List Nat) (w0 : World) (f : SF) (m' : SM) (d : SD) (n n' : Nat) (Γ : List Qq) (o : Oper) (v : SV) (u : Value) (W : World) : Prop := ∃ ρ', Qs.upto n ρ ρ' /\ Qo ρ' f = Qo ρ f /\ (o.dst = none \/ u = v.den ρ') /\ WM ρ' L0 w0 m' d n' Γ W
theorem Eo.of (hW : WM ρ L0 w0 m d n Γ w) {v : SV} (h : Yl P ops o N ρ (Qo ρ f) w v) : DR P ops o N (Qo ρ f) w (Eo P ρ L0 w0 f m d n n Γ o v) := h.mono fun u W e => ⟨ρ, fun _ _ => ⟨rfl, rfl⟩, rfl, .inr e.1, by rw [e.2]; exact hW⟩
theorem QbI {c : List SV} {v : SV} (h : D5 f m d n c acc = some (v, m', n', acc')) : acc' = acc := by
  unfold D5 at h
  split at h
  . split at h
    . split at h
      . split at h
        . simp only [Option.some.injEq, Prod.mk.injEq] at h
          exact h.2.2.2.symm
        . cases h
      . cases h
    . cases h
  . cases h
theorem EQ (hW : WM ρ L0 w0 m d n Γ w) {c : List SV} (hk : XW c) {v : SV} (h : D5 f m d n c acc = some (v, m', n', acc')) : acc' = acc /\ ∀ {u : Value} {W : World}, Qef w (Qd ρ c) u W -> Eo P ρ L0 w0 f m' d n n' Γ o v u W := by
  unfold D5 at h
  split at h
  . rename_i h1
    split at h
    . rename_i h2
      split at h
      . rename_i h3
        split at h
        . rename_i h4
          simp only [Option.some.injEq, Prod.mk.injEq] at h
          obtain ⟨rfl, rfl, rfl, rfl⟩ := h
          refine ⟨rfl, fun {u W} hn => ?_⟩
          obtain ⟨rfl, k1, k2, k3⟩ := hn
          exact ⟨ρ.setb n w.heap.size, Qs.setb_upto _ _ _, (XQ (Qs.setb_upto _ _ _) f h1).symm, .inr (by simp only [SV.den, Qs.setb_at]), hW.new h2 h3 hk h4 (Nat.le_refl _) k2 k1⟩
        . cases h
      . cases h
    . cases h
  . cases h
theorem QbG {c : List SV} {l : Nat} {v : SV} (h : QbH f m d n c l acc = some (v, m', n', acc')) : acc' = acc := by
  unfold QbH at h
  split at h
  . split at h
    . split at h
      . split at h
        . simp only [Option.some.injEq, Prod.mk.injEq] at h
          exact h.2.2.2.symm
        . cases h
      . cases h
    . cases h
  . cases h
theorem Qdx (hW : WM ρ L0 w0 m d n Γ w) {c : List SV} {l : Nat} (hk : XW c) {v : SV} (h : QbH f m d n c l acc = some (v, m', n', acc')) {u : Value} {W : World} (hn : u = .slice (some ⟨w.heap.size, 0, none⟩) l l /\ XZ W w.heap.size (Qd ρ c) /\ Below w.heap.size w W /\ w.heap.size < W.heap.size) : Eo P ρ L0 w0 f m' d n n' Γ o v u W := by
  unfold QbH at h
  split at h
  . rename_i h1
    split at h
    . rename_i h2
      split at h
      . rename_i h3
        split at h
        . rename_i h4
          simp only [Option.some.injEq, Prod.mk.injEq] at h
          obtain ⟨rfl, rfl, rfl, rfl⟩ := h
          obtain ⟨rfl, k1, k2, k3⟩ := hn
          exact ⟨ρ.setb n w.heap.size, Qs.setb_upto _ _ _, (XQ (Qs.setb_upto _ _ _) f h1).symm, .inr (by simp only [SV.den, Qs.setb_at]), hW.new h2 h3 hk h4 (Nat.le_refl _) k2 k1⟩
        . cases h
      . cases h
    . cases h
  . cases h
theorem ET (hT : T.ok P = true) (hW : WM ρ L0 w0 m d n Γ w) (hw : Qg ops o (Qo ρ f) = some true) {v : SV} (hd : (∃ t x y, o.op = .store t x y) -> o.dst = none) (h : Qe7 T md f m d n acc o.op = some (v, m', n', acc')) (hc : QK acc') : QK acc /\ DR P ops o N (Qo ρ f) w (Eo P ρ L0 w0 f m' d n n' Γ o v) := by
  generalize hq : o.op = q at h
  unfold Qe7 at h
  split at h
  . split at h
    . rename_i sx hx
      split at h
      . rename_i u acc1 hl
        simp only [Option.some.injEq, Prod.mk.injEq] at h
        obtain ⟨rfl, rfl, rfl, rfl⟩ := h
        obtain ⟨h1, h2⟩ := Jj hT hW hw hq (Qk hx) hl hc
        exact ⟨h1, Eo.of hW h2⟩
      . cases h
    . cases h
  . rename_i t x y
    split at h
    . rename_i sx hx
      split at h
      . rename_i sy hy
        split at h
        . rename_i m1 acc1 hs
          simp only [Option.some.injEq, Prod.mk.injEq] at h
          obtain ⟨rfl, rfl, rfl, rfl⟩ := h
          obtain ⟨h1, h2⟩ := DK hT hW hw hq (Qk hx) (Qk hy) hs hc
          exact ⟨h1, h2.mono fun u W hW' => ⟨ρ, fun _ _ => ⟨rfl, rfl⟩, rfl, .inl (hd ⟨_, _, _, hq⟩), hW'⟩⟩
        . cases h
      . cases h
    . cases h
  . split at h
    . rename_i sx hx
      split at h
      . rename_i c acc1 hcv
        obtain ⟨e, hn⟩ := EQ (P := P) (o := o) hW (c := c) (by
          have := QbI h
          subst this
          exact (XR (ρ := ρ) hcv hc).2.1) h
        subst e
        obtain ⟨c0, c1, c2, c3⟩ := XR (ρ := ρ) hcv hc
        exact ⟨c0, (Qcg hq (Qk hx) c2 hw).mono fun u W hb => hn hb⟩
      . cases h
    . cases h
  . split at h
    . rename_i i hi
      split at h
      . rename_i c hz
        obtain ⟨z1, z2, Z, z3, z4⟩ := TT.zero hT hi hz
        obtain ⟨e, hn⟩ := EQ (P := P) (o := o) hW z1 h
        subst e
        exact ⟨hc, (HO hq z3 (z4 ρ) hw).mono fun u W hb => hn hb⟩
      . cases h
    . cases h
  . split at h
    . rename_i u acc1 hl
      simp only [Option.some.injEq, Prod.mk.injEq] at h
      obtain ⟨rfl, rfl, rfl, rfl⟩ := h
      obtain ⟨h1, h2⟩ := E1 (N := N) (w := w) hT hw hq hl hc
      exact ⟨h1, Eo.of hW h2⟩
    . cases h
  . split at h
    . rename_i u acc1 hl
      simp only [Option.some.injEq, Prod.mk.injEq] at h
      obtain ⟨rfl, rfl, rfl, rfl⟩ := h
      obtain ⟨h1, h2⟩ := QbW (N := N) (w := w) hT hw hq hl hc
      exact ⟨h1, Eo.of hW h2⟩
    . cases h
  . split at h
    . rename_i u acc1 hl
      simp only [Option.some.injEq, Prod.mk.injEq] at h
      obtain ⟨rfl, rfl, rfl, rfl⟩ := h
      obtain ⟨h1, h2⟩ := E3 (P := P) (N := N) (w := w) hw hq hl hc
      exact ⟨h1, Eo.of hW h2⟩
    . cases h
  . split at h
    . rename_i u acc1 hl
      simp only [Option.some.injEq, Prod.mk.injEq] at h
      obtain ⟨rfl, rfl, rfl, rfl⟩ := h
      obtain ⟨h1, h2⟩ := Ew (P := P) (N := N) (w := w) hT hw hq hl hc
      exact ⟨h1, Eo.of hW h2⟩
    . cases h
  . split at h
    . rename_i u acc1 hl
      simp only [Option.some.injEq, Prod.mk.injEq] at h
      obtain ⟨rfl, rfl, rfl, rfl⟩ := h
      obtain ⟨h1, h2⟩ := Ez (P := P) (N := N) (w := w) hT hw hq hl hc
      exact ⟨h1, Eo.of hW h2⟩
    . cases h
  . split at h
    . rename_i c acc1 hl
      have e := QbG h
      subst e
      obtain ⟨h1, h2, h3⟩ := EW (P := P) (N := N) (w := w) (ρ := ρ) hT hw hq hl hc
      exact ⟨h1, h3.mono fun u W hu => Qdx hW h2 h hu⟩
    . cases h
  . split at h
    . rename_i k c q r acc1 hl
      rw [KO] at h
      simp only [Option.some.injEq, Prod.mk.injEq] at h
      obtain ⟨rfl, rfl, rfl, rfl⟩ := h
      obtain ⟨h1, h2, ⟨c0, h3⟩, h4⟩ := Dg (P := P) (N := N) hT hW hw hq hl hc
      exact ⟨h1, h4.mono fun u W ⟨e1, e2, e3⟩ => ⟨ρ, fun _ _ => ⟨rfl, rfl⟩, rfl, .inr (by rw [e1]; simp only [SV.den]), hW.put h3 e2 h2 e3⟩⟩
    . cases h
  . split at h
    . rename_i u acc1 hl
      simp only [Option.some.injEq, Prod.mk.injEq] at h
      obtain ⟨rfl, rfl, rfl, rfl⟩ := h
      obtain ⟨h1, h2⟩ := Kx (N := N) (w := w) hT hw hq hl hc
      exact ⟨h1, Eo.of hW h2⟩
    . cases h
  . split at h
    . rename_i x v1 hx
      simp only [Option.some.injEq, Prod.mk.injEq] at h
      obtain ⟨rfl, rfl, rfl, rfl⟩ := h
      exact ⟨hc, Eo.of hW (Gl hq (Qk hx) hw)⟩
    . cases h
  . split at h
    . rename_i x v1 hx
      simp only [Option.some.injEq, Prod.mk.injEq] at h
      obtain ⟨rfl, rfl, rfl, rfl⟩ := h
      exact ⟨hc, Eo.of hW (Ud hq (Qk hx) hw)⟩
    . cases h
  . split at h
    . rename_i u acc1 hl
      simp only [Option.some.injEq, Prod.mk.injEq] at h
      obtain ⟨rfl, rfl, rfl, rfl⟩ := h
      rw [<- hq] at hl
      obtain ⟨h1, h2⟩ := U6 (N := N) (w := w) hT (fun hx => U0 hx) hw hl hc
      exact ⟨h1, Eo.of hW h2⟩
    . cases h
end
end Go.Proofs.YtbiboamaigedjaaDoor
namespace Go.Proofs.YtbiboamaigedjaaDoor
open Go.RowKit
set_option linter.unusedVariables false
set_option linter.constructorNameAsVariable false
set_option linter.unusedSimpArgs false

/-- Whether an operation runs. -/
inductive Gd where
  | on
  | off
  | un (p : Prop) (d : Decidable p)
def Vk (ops : Array Oper) (o : Oper) (f : SF) : Option Gd := match o.guard with
  | none => some .on
  | some (g, b) => match QF ops g with
    | none => none
    | some t => match lk f t with
      | some (.l true) => match b with
        | true => some .on
        | false => some .off
      | some (.l false) => match b with
        | true => some .off
        | false => some .on
      | some (.c p d) => match b with
        | true => some (.un p d)
        | false => some (.un (¬ p) (@instDecidableNot p d))
      | some (.w p d (.c q e)) => match b with
        | true => some (.un (p /\ q) (@instDecidableAnd p q d e))
        | false => some (.un (p /\ ¬ q) (@instDecidableAnd p (¬ q) d (@instDecidableNot q e)))
      | some .u => some .off
      | _ => none
/-- The operands of a guarded operation, where its guard holds. -/
def uwF (p : Prop) (f : SF) : List Operand -> SF -> List Prop -> SF × List Prop
  | [], f', cs => (f', cs)
  | .tmp t :: l, f', cs => match lk f t with
    | some (.w q _ y) => uwF p f l ((t, y) :: f') ((p -> q) :: cs)
    | _ => uwF p f l f' cs
  | _ :: l, f', cs => uwF p f l f' cs
def Qfb : Op -> Bool
  | .store _ _ _ => true
  | _ => false
def QaG (T : TT) (md : Bool) (N : Nat) (ops : Array Oper) (f : SF) (m : SM) (d : SD) (n : Nat) (acc : List Prop) (o : Oper) : Option (SF × SM × Nat × List Prop) := match Vk ops o f with
  | some .on => match Qe7 T md f m d n acc o.op with
    | some (v, m', n', acc') => match o.dst with
      | some t => match Nat.blt t N with
        | true => match Qfb o.op with
          | true => none
          | false => some ((t, v) :: f, m', n', acc')
        | false => none
      | none => some (f, m', n', acc')
    | none => none
  | some .off => match o.dst with
    | some t => match Nat.blt t N with
      | true => some ((t, .u) :: f, m, n, acc)
      | false => none
    | none => some (f, m, n, acc)
  | some (.un p dp) => match o.dst with
    | some t => match Nat.blt t N with
      | true => match uwF p f o.op.operands.toList f [] with
        | (f', cs) => match Vk ops o f' with
          | some (.un p' _) => match G9 T md (ZL f') [] o.op with
            | some (v, cs') => some ((t, .w p dp v) :: f, m, n, (p -> p') :: (p -> QK cs') :: QK cs :: acc)
            | none => none
          | _ => none
      | false => none
    | none => none
  | none => none
section
variable {P : Program} {ops : Array Oper} {o : Oper} {N : Nat} {w w0 : World} {ρ : Qs} {T : TT} {acc acc' : List Prop} {L0 : List Nat} {m m' : SM} {d : SD} {n n' : Nat} {Γ : List Qq} {f f' : SF} {md : Bool}
theorem Zy {ρ : Qs} : (Vk ops o f = some .on -> Qg ops o (Qo ρ f) = some true) /\ (Vk ops o f = some .off -> Qg ops o (Qo ρ f) = some false) /\ (∀ p dp, Vk ops o f = some (.un p dp) -> Qg ops o (Qo ρ f) = some (@decide p dp)) := by
  cases hg : o.guard with
  | none => simp [Vk, Qg, hg]
  | some gb =>
    obtain ⟨g, b⟩ := gb
    cases hd : QF ops g with
    | none => simp [Vk, hg, hd]
    | some t =>
      cases hl : lk f t with
      | none => simp [Vk, hg, hd, hl]
      | some v =>
        have h1 := XD (ρ := ρ) hl
        have key : ∀ c : Bool, v.den ρ = .bool c -> Qg ops o (Qo ρ f) = some (c == b) := fun c e => by
          rw [e] at h1
          simp [Qg, hg, hd, h1]
        have off : v.den ρ = undef -> Qg ops o (Qo ρ f) = some false := fun e => by
          rw [e] at h1
          simp [Qg, hg, hd, h1, undef]
        cases v
        case l c =>
          have := key c (by simp only [SV.den])
          rw [this]
          cases c <;> cases b <;> simp [Vk, hg, hd, hl]
        case c p dp =>
          have := key (@decide p dp) (by simp only [SV.den])
          rw [this]
          cases b
          . refine ⟨fun h => by simp [Vk, hg, hd, hl] at h, fun h => by simp [Vk, hg, hd, hl] at h, fun q dq h => ?_⟩
            simp only [Vk, hg, hd, hl, Option.some.injEq, Gd.un.injEq] at h
            obtain ⟨rfl, h⟩ := h
            cases h
            by_cases hp : p <;> simp [hp]
          . refine ⟨fun h => by simp [Vk, hg, hd, hl] at h, fun h => by simp [Vk, hg, hd, hl] at h, fun q dq h => ?_⟩
            simp only [Vk, hg, hd, hl, Option.some.injEq, Gd.un.injEq] at h
            obtain ⟨rfl, h⟩ := h
            cases h
            by_cases hp : p <;> simp [hp]
        case u =>
          rw [off (by simp only [SV.den])]
          simp [Vk, hg, hd, hl]
        case w p dp y =>
          cases y
          case c q dq =>
            have e : Qg ops o (Qo ρ f) = some (if p then (decide q == b) else false) := by
              cases dp with
              | isTrue hp => rw [if_pos hp]; exact key (@decide q dq) (by simp only [SV.den])
              | isFalse hp => rw [if_neg hp]; exact off (by simp only [SV.den])
            rw [e]
            cases b
            . refine ⟨fun h => by simp [Vk, hg, hd, hl] at h, fun h => by simp [Vk, hg, hd, hl] at h, fun r dr h => ?_⟩
              simp only [Vk, hg, hd, hl, Option.some.injEq, Gd.un.injEq] at h
              obtain ⟨rfl, h⟩ := h
              cases h
              by_cases hp : p <;> by_cases hq : q <;> simp [hp, hq]
            . refine ⟨fun h => by simp [Vk, hg, hd, hl] at h, fun h => by simp [Vk, hg, hd, hl] at h, fun r dr h => ?_⟩
              simp only [Vk, hg, hd, hl, Option.some.injEq, Gd.un.injEq] at h
              obtain ⟨rfl, h⟩ := h
              cases h
              by_cases hp : p <;> by_cases hq : q <;> simp [hp, hq]
          all_goals simp [Vk, hg, hd, hl]
        all_goals simp [Vk, hg, hd, hl]
theorem UD {p : Prop} {f : SF} : ∀ {l : List Operand} {g g' : SF} {cs cs' : List Prop}, uwF p f l g cs = (g', cs') -> QK cs' -> QK cs
  | [], g, g', cs, cs', h, hc => by
    simp only [uwF, Prod.mk.injEq] at h
    obtain ⟨rfl, rfl⟩ := h
    exact hc
  | x :: l, g, g', cs, cs', h, hc => by
    cases x
    case tmp t =>
      unfold uwF at h
      split at h
      . exact (UD h hc).2
      . exact UD h hc
    all_goals
      unfold uwF at h
      exact UD h hc
theorem KF {p : Prop} (hp : p) {a : Act} (ha : Fr N a (Qo ρ f)) : ∀ {l : List Operand} {g g' : SF} {cs cs' : List Prop}, uwF p f l g cs = (g', cs') -> QK cs' -> Fr N a (Qo ρ g) -> QK cs /\ Fr N a (Qo ρ g')
  | [], g, g', cs, cs', h, hc, hg => by
    simp only [uwF, Prod.mk.injEq] at h
    obtain ⟨rfl, rfl⟩ := h
    exact ⟨hc, hg⟩
  | x :: l, g, g', cs, cs', h, hc, hg => by
    cases x
    case tmp t =>
      unfold uwF at h
      split at h
      . rename_i q dq y hl
        have hall : QK ((p -> q) :: cs) := UD h hc
        have hq : q := hall.1 hp
        have hg' : Fr N a (Qo ρ ((t, y) :: g)) := by
          refine ⟨hg.1, fun t' v hv => ?_⟩
          unfold Qo Zw at hv
          cases hk : Nat.beq t t' with
          | false => rw [hk] at hv; exact hg.2 t' v hv
          | true =>
            rw [hk] at hv
            cases hv
            have e := Nat.eq_of_beq_eq_true hk
            subst e
            have h1 := ha.2 t _ (XD hl)
            rw [h1]
            cases dq with
            | isTrue _ => simp only [SV.den]
            | isFalse hn => exact absurd hq hn
        exact ⟨hall.2, (KF hp ha h hc hg').2⟩
      . exact KF hp ha h hc hg
    all_goals
      unfold uwF at h
      exact KF hp ha h hc hg
theorem QdC {q : Op} (h : Qfb q = false) : ¬ ∃ t x y, q = .store t x y := fun ⟨t, x, y, e⟩ => by subst e; cases h
theorem QaF (hT : T.ok P = true) (h : QaG T md N ops f m d n acc o = some (f', m', n', acc')) (hc : QK acc') (hW : WM ρ L0 w0 m d n Γ w) {Q : Exit -> Act -> World -> Prop} {rest : List Oper}
    (k : ∀ ρ' W, WM ρ' L0 w0 m' d n' Γ W -> WL P ops Q N rest (Qo ρ' f') W) : WL P ops Q N (o :: rest) (Qo ρ f) w := by
  unfold QaG at h
  split at h
  . rename_i hg
    have hw := (Zy (ρ := ρ)).1 hg
    split at h
    . rename_i v m1 n1 acc1 hm
      split at h
      . rename_i t ht
        split at h
        . rename_i hlt
          split at h
          . cases h
          . rename_i hs
            simp only [Option.some.injEq, Prod.mk.injEq] at h
            obtain ⟨rfl, rfl, rfl, rfl⟩ := h
            obtain ⟨_, h2⟩ := ET (N := N) hT hW hw (fun hst => absurd hst (QdC hs)) hm hc
            refine WL.get h2 ht (decide_eq_true (Qw hlt)) fun u W hA => ?_
            obtain ⟨ρ', e1, e2, e3, e4⟩ := hA
            rcases e3 with e3 | e3
            . rw [ht] at e3; cases e3
            . subst e3
              rw [<- e2]
              exact k ρ' W e4
        . cases h
      . rename_i ht
        simp only [Option.some.injEq, Prod.mk.injEq] at h
        obtain ⟨rfl, rfl, rfl, rfl⟩ := h
        obtain ⟨_, h2⟩ := ET (N := N) hT hW hw (fun _ => ht) hm hc
        refine WL.do h2 ht fun u W hA => ?_
        obtain ⟨ρ', e1, e2, e3, e4⟩ := hA
        rw [<- e2]
        exact k ρ' W e4
    . cases h
  . rename_i hg
    have hw := (Zy (ρ := ρ)).2.1 hg
    split at h
    . rename_i t ht
      split at h
      . rename_i hlt
        simp only [Option.some.injEq, Prod.mk.injEq] at h
        obtain ⟨rfl, rfl, rfl, rfl⟩ := h
        refine WL.off hw ht (decide_eq_true (Qw hlt)) ?_
        have := k ρ w hW
        simp only [Qo, SV.den] at this
        exact this
      . cases h
    . rename_i ht
      simp only [Option.some.injEq, Prod.mk.injEq] at h
      obtain ⟨rfl, rfl, rfl, rfl⟩ := h
      exact WL.offn hw ht (k ρ w hW)
  . rename_i p dp hg
    have hw := (Zy (ρ := ρ)).2.2 p dp hg
    split at h
    . rename_i t ht
      split at h
      . rename_i hlt
        split at h
        rename_i g cs hu
        split at h
        . rename_i p' dp' hg'
          split at h
          . rename_i v cs' hp
            simp only [Option.some.injEq, Prod.mk.injEq] at h
            obtain ⟨rfl, rfl, rfl, rfl⟩ := h
            obtain ⟨c1, c2, c3, c4⟩ := hc
            have hk := k ρ w hW
            by_cases hp0 : p
            . have hd : DV P ops o N (Qo ρ f) w (v.den ρ) := fun a ha => by
                obtain ⟨_, hfr⟩ := KF (ρ := ρ) hp0 ha hu c3 ha
                have hw' := (Zy (ρ := ρ)).2.2 p' dp' hg'
                rw [decide_eq_true (c1 hp0)] at hw'
                exact (U6 (N := N) (w := w) hT (fun hx => Qk hx) hw' hp (c2 hp0)).2 a hfr
              refine WL.val hd ht (decide_eq_true (Qw hlt)) ?_
              have e : (SV.w p dp v).den ρ = v.den ρ := by
                cases dp with
                | isTrue _ => simp only [SV.den]
                | isFalse hn => exact absurd hp0 hn
              simp only [Qo, e] at hk
              exact hk
            . rw [decide_eq_false hp0] at hw
              refine WL.off hw ht (decide_eq_true (Qw hlt)) ?_
              have e : (SV.w p dp v).den ρ = undef := by
                cases dp with
                | isTrue hn => exact absurd hn hp0
                | isFalse _ => simp only [SV.den]
              simp only [Qo, e] at hk
              exact hk
          . cases h
        . cases h
      . cases h
    . cases h
  . cases h
end
/-- What a function's walk is about. -/
structure Cx where
  P : Program
  T : TT
  N : Nat
  fn : Func
  R : Value -> World -> Prop
  w0 : World
  L0 : List Nat
  ok : T.ok P = true
/-- What is still to do: code, a block's end, operations of a region, a loop's next round. -/
inductive It where
  | c (x : Code)
  | b (id : Nat)
  | o (ops : Array Oper) (l : List Oper)
  | r (J : Act -> World -> Prop)
def Qge (c : Cx) : Exit -> Act -> World -> Prop
  | .ret, a, w => Qff c.P c.fn c.R c.w0 a w
  | .normal, a, w => Qff c.P c.fn c.R c.w0 a w
  | _, _, _ => False
def Kn (c : Cx) : List It -> Exit -> Act -> World -> Prop
  | [] => Qge c
  | .c x :: ks => Exit.then (fun a w => x.wp c.P (Kn c ks) a w) (Kn c ks)
  | .b id :: ks => Exit.inBlock id (Kn c ks)
  | .o ops l :: ks => Exit.then (fun a w => wpList c.P ops (Kn c ks) l a w) (Kn c ks)
  | .r J :: ks => Exit.then J (Kn c ks)
def S (c : Cx) (ks : List It) (f : SF) (m : SM) (d : SD) (n : Nat) (Γ : List Qq) : Prop := ∀ ρ a w, Fr c.N a (Qo ρ f) -> WM ρ c.L0 c.w0 m d n Γ w -> Kn c ks .normal a w
def V3 (id : Nat) : List It -> Option (List It)
  | [] => none
  | .b id' :: ks => match Nat.beq id id' with
    | true => some ks
    | false => V3 id ks
  | _ :: ks => V3 id ks
theorem V2 {c : Cx} {id : Nat} {a : Act} {w : World} : ∀ {ks ks' : List It}, V3 id ks = some ks' -> Kn c ks' .normal a w -> Kn c ks (.exit id) a w
  | [], _, h, _ => by cases h
  | x :: ks, ks', h, k => by
    cases x
    case b id' =>
      unfold V3 at h
      split at h
      . rename_i hb
        cases h
        have := Nat.eq_of_beq_eq_true hb
        subst this
        show (if id = id then Kn c _ .normal a w else _)
        rw [if_pos rfl]
        exact k
      . rename_i hb
        show (if id = id' then _ else Kn c _ (.exit id) a w)
        rw [if_neg (Nat.ne_of_beq_eq_false hb)]
        exact V2 (ks := ks) h k
    all_goals
      unfold V3 at h
      exact V2 (ks := ks) (c := c) h k
def Qea {α : Type} : List Prop -> List Prop -> (List Prop -> α) -> α
  | [], b, K => K b
  | x :: l, b, K => Qea l b fun r => K (x :: r)
theorem GE {α : Type} : ∀ {a b : List Prop} {K : List Prop -> α}, Qea a b K = K (a ++ b)
  | [], b, K => rfl
  | x :: l, b, K => by unfold Qea; rw [GE]; rfl
theorem GH : ∀ {a b : List Prop}, QK (a ++ b) ↔ QK a /\ QK b
  | [], b => by simp [QK]
  | x :: l, b => by simp only [List.cons_append, QK, GH (a := l) (b := b), and_assoc]
def run (T : TT) (md : Bool) (N : Nat) (d : SD) : Nat -> List It -> SF -> SM -> Nat -> List Prop -> List It × SF × SM × Nat × List Prop
  | 0, ks, f, m, n, acc => (ks, f, m, n, acc)
  | k + 1, ks, f, m, n, acc => match ks with
    | .c x :: l => match x with
      | .seq a b => run T md N d k (.c a :: .c b :: l) f m n acc
      | .skip => run T md N d k l f m n acc
      | .block id b => run T md N d k (.c b :: .b id :: l) f m n acc
      | .exit id => match V3 id l with
        | some l' => run T md N d k l' f m n acc
        | none => (.c (.exit id) :: l, f, m, n, acc)
      | .region _ ⟨os⟩ false => run T md N d k (.o ⟨os⟩ os :: l) f m n acc
      | .cond (.tmp t) a b => match lk f t with
        | some (.l true) => run T md N d k (.c a :: l) f m n acc
        | some (.l false) => run T md N d k (.c b :: l) f m n acc
        | _ => (.c (.cond (.tmp t) a b) :: l, f, m, n, acc)
      | x => (.c x :: l, f, m, n, acc)
    | .b _ :: l => run T md N d k l f m n acc
    | .o _ [] :: l => run T md N d k l f m n acc
    | .o ops (o :: r) :: l => match QaG T md N ops f m d n [] o with
      | some (f', m', n', cs) => Qea cs acc fun acc' => run T md N d k (.o ops r :: l) f' m' n' acc'
      | none => (.o ops (o :: r) :: l, f, m, n, acc)
    | ks => (ks, f, m, n, acc)
theorem XC {T : TT} {N : Nat} {md : Bool} {d : SD} : ∀ {k : Nat} {ks ks' : List It} {f f' : SF} {m m' : SM} {n n' : Nat} {acc acc' : List Prop}, run T md N d k ks f m n acc = (ks', f', m', n', acc') -> QK acc' -> QK acc
  | 0, ks, ks', f, f', m, m', n, n', acc, acc', h, hc => by
    simp only [run, Prod.mk.injEq] at h
    obtain ⟨rfl, rfl, rfl, rfl, rfl⟩ := h
    exact hc
  | k + 1, ks, ks', f, f', m, m', n, n', acc, acc', h, hc => by
    have stop : ∀ {x y : List It × SF × SM × Nat × List Prop}, x = (ks', f', m', n', acc') -> x.2.2.2.2 = acc -> QK acc := fun e1 e2 => by
      rw [e1] at e2
      simp only at e2
      rw [<- e2]; exact hc
    unfold run at h
    split at h
    . split at h
      . exact XC h hc
      . exact XC h hc
      . exact XC h hc
      . split at h
        . exact XC h hc
        . exact stop (y := default) h rfl
      . exact XC h hc
      . split at h
        . exact XC h hc
        . exact XC h hc
        . exact stop (y := default) h rfl
      . exact stop (y := default) h rfl
    . exact XC h hc
    . exact XC h hc
    . split at h
      . rw [GE] at h
        exact (GH.1 (XC h hc)).2
      . exact stop (y := default) h rfl
    . exact stop (y := default) h rfl
theorem XJ {c : Cx} {md : Bool} {d : SD} {Γ : List Qq} : ∀ {k : Nat} {ks ks' : List It} {f f' : SF} {m m' : SM} {n n' : Nat} {acc acc' : List Prop}, run c.T md c.N d k ks f m n acc = (ks', f', m', n', acc') -> QK acc' -> S c ks' f' m' d n' Γ -> S c ks f m d n Γ
  | 0, ks, ks', f, f', m, m', n, n', acc, acc', h, hc, hs => by
    simp only [run, Prod.mk.injEq] at h
    obtain ⟨rfl, rfl, rfl, rfl, rfl⟩ := h
    exact hs
  | k + 1, ks, ks', f, f', m, m', n, n', acc, acc', h, hc, hs => by
    have stop : ∀ {x}, x = (ks', f', m', n', acc') -> x = (ks, f, m, n, acc) -> S c ks f m d n Γ := fun e1 e2 => by
      rw [e1] at e2
      simp only [Prod.mk.injEq] at e2
      obtain ⟨rfl, rfl, rfl, rfl, rfl⟩ := e2
      exact hs
    unfold run at h
    split at h
    . split at h
      . exact fun ρ a w ha hW => wp_seq (XJ h hc hs ρ a w ha hW)
      . exact fun ρ a w ha hW => wp_skip (XJ h hc hs ρ a w ha hW)
      . exact fun ρ a w ha hW => wp_block (XJ h hc hs ρ a w ha hW)
      . split at h
        . rename_i l' hu
          exact fun ρ a w ha hW => wp_exit (V2 hu (XJ h hc hs ρ a w ha hW))
        . exact stop h rfl
      . exact fun ρ a w ha hW => wp_region_lit (XJ h hc hs ρ a w ha hW)
      . split at h
        . rename_i hl
          exact fun ρ a w ha hW => wp_cond_true (by have := ha.2 _ _ (XD hl); simp only [SV.den] at this; exact this) (XJ h hc hs ρ a w ha hW)
        . rename_i hl
          exact fun ρ a w ha hW => wp_cond_false (by have := ha.2 _ _ (XD hl); simp only [SV.den] at this; exact this) (XJ h hc hs ρ a w ha hW)
        . exact stop h rfl
      . exact stop h rfl
    . exact fun ρ a w ha hW => XJ h hc hs ρ a w ha hW
    . rename_i ops l
      exact fun ρ a w ha hW => wpList_nil (P := c.P) (ops := ops) (Q := Kn c l) (XJ h hc hs ρ a w ha hW)
    . split at h
      . rename_i f1 m1 n1 cs hst
        rw [GE] at h
        intro ρ a w ha hW
        have hall := (GH.1 (XC h hc)).1
        exact QaF c.ok hst hall hW (fun ρ' W hW' a' ha' => XJ h hc hs ρ' a' W ha' hW') a ha
      . exact stop h rfl
    . exact stop h rfl
end Go.Proofs.YtbiboamaigedjaaDoor
namespace Go.Proofs.YtbiboamaigedjaaDoor
open Go.RowKit
set_option linter.unusedVariables false
set_option linter.constructorNameAsVariable false
set_option linter.unusedSimpArgs false

/-- A contract of a call: what it gives is one of these values, with these facts, and this holds. -/
def CX (P : Program) (F : FuncId) (args : List Value) (w : World) (L : List Nat) {α : Type} (sv : α -> SV) (fs : α -> List Qq) (pr : α -> Prop) : Prop := CV P F args w fun v W => ∃ x, v = (sv x).den Qt /\ Hs (fs x) L W /\ pr x
def val (ρ : Qs) : List SV -> Value
  | [v] => v.den ρ
  | l => .tuple (Qr ρ l).toArray
theorem XT {x : SV} (h : x.wf 0 = true) (ρ ρ' : Qs) : x.den ρ = x.den ρ' := SV.den_upto (fun k hk => absurd hk (Nat.not_lt_zero k)) x h
section
variable {c : Cx} {ks ks' : List It} {f f' : SF} {m m' : SM} {d : SD} {n n' : Nat} {Γ : List Qq} {cs : List Prop}
theorem S.go (md : Bool) (h : run c.T md c.N d 5000 ks f m n [] = (ks', f', m', n', cs)) (hc : QK cs) (k : S c ks' f' m' d n' Γ) : S c ks f m d n Γ := XJ h hc k
/-- The same, where what is asked follows from what is known. -/
theorem S.g (md : Bool) (h : run c.T md c.N d 5000 ks f m n [] = (ks', f', m', n', cs)) (k : S c ks' f' m' d n' Γ) (hc : QK cs := by repeat' (first | exact True.intro | exact fun h => h | refine And.intro ?_ ?_ | omega | exact rfl | (simp only [Int.reduceToNat, Int.reducePow]; omega) | intro _)) : S c ks f m d n Γ := XJ h hc k
theorem S.cond {t : Nat} {a b : Code} {p : Prop} {dp : Decidable p} (hl : lk f t = some (.c p dp)) (ht : p -> S c (.c a :: ks) f m d n Γ) (hf : ¬ p -> S c (.c b :: ks) f m d n Γ) : S c (.c (.cond (.tmp t) a b) :: ks) f m d n Γ := fun ρ x w ha hW => by
  have h1 := ha.2 t _ (XD hl)
  simp only [SV.den] at h1
  by_cases hp : p
  . exact wp_cond_true (by rw [h1, decide_eq_true hp]) (ht hp ρ x w ha hW)
  . exact wp_cond_false (by rw [h1, decide_eq_false hp]) (hf hp ρ x w ha hW)
theorem S.condT {t : Nat} {a b : Code} {p : Prop} {dp : Decidable p} (hl : lk f t = some (.c p dp)) (hp : p) (k : S c (.c a :: ks) f m d n Γ) : S c (.c (.cond (.tmp t) a b) :: ks) f m d n Γ := S.cond hl (fun _ => k) fun h => absurd hp h
theorem S.condF {t : Nat} {a b : Code} {p : Prop} {dp : Decidable p} (hl : lk f t = some (.c p dp)) (hp : ¬ p) (k : S c (.c b :: ks) f m d n Γ) : S c (.c (.cond (.tmp t) a b) :: ks) f m d n Γ := S.cond hl (fun h => absurd h hp) fun _ => k
/-- A call. -/
theorem S.call {ops : Array Oper} {o : Oper} {r : List Oper} {t : Nat} {g : Operand} {xs : List Operand} {ts : Array TypeId} {F : FuncId} {caps vs : List SV} {fn : Func} {α : Type} {sv : α -> SV} {fs : α -> List Qq} {pr : α -> Prop} (ho : o.op = .call { callee := .value g, args := ⟨xs⟩, argTypes := ts }) (hg : Vk ops o f = some .on) (hF : ZL f g = some (.f F caps)) (hx : Ge f xs = some vs) (hd : o.dst = some t) (hlt : Nat.blt t c.N = true) (hf : c.P.funcs[F]? = some fn) (hn : (fn.name == "runtime.NumGoroutine") = false) (hb : fn.body.isNone = false)
    (hc : ∀ ρ w, WM ρ c.L0 c.w0 m d n Γ w -> CX c.P F (Qr ρ (vs ++ caps)) w (Xq ρ m c.L0) sv fs pr) (hwf : ∀ x, (sv x).wf 0 = true) (k : ∀ x, pr x -> S c (.o ops r :: ks) ((t, sv x) :: f) m d n (Γ ++ fs x)) : S c (.o ops (o :: r) :: ks) f m d n Γ := fun ρ a w ha hW => by
  have hw := (Zy (ρ := ρ)).1 hg
  have h1 := Qk (ρ := ρ) hF
  simp only [SV.den] at h1
  have hcc := hc ρ w hW
  unfold CX at hcc
  have e : Qr ρ (vs ++ caps) = Qr ρ vs ++ Qr ρ caps := Jz ρ vs caps
  rw [e] at hcc
  have hdr := F9 (P := c.P) (ops := ops) (o := o) (N := c.N) (xs := xs) (cs := Qr ρ caps) (by rw [ho]) h1 hf hn hb (Zi hx) hcc hw
  refine (WL.get hdr hd (decide_eq_true (Qw hlt)) (Q := Kn c ks) (rest := r) fun v W hv => ?_) a ha
  obtain ⟨⟨x, rfl, hfs, hp⟩, hbel⟩ := hv
  have hW' := hW.below hbel
  have hk := k x hp ρ
  rw [XT (hwf x) Qt ρ]
  intro a' ha'
  refine hk a' W ha' ⟨hW'.mem, hW'.key, hW'.nod, hW'.low, hW'.bel, hW'.dat, hW'.dky, hW'.ll, hW'.hs.app hfs⟩
theorem QcL : ∀ {ks : List It} {a : Act} {w : World}, Qge c .ret a w -> Kn c ks .ret a w
  | [], a, w, h => h
  | x :: ks, a, w, h => by
    cases x <;> exact QcL (ks := ks) h
/-- What a result is. -/
def QeL (T : TT) (f : SF) (m : SM) : ResultVar -> Option SV
  | .tmp t => lk f t
  | .cell t ty => match lk f t with
    | some (.p k o) => match T.get ty with
      | some i => match Xm m k with
        | some cc => match i.g with
          | true => match Us cc o with
            | some r => Yn r i.s fun r => some (VD i r)
            | none => none
          | false => F0 cc o Hv
        | none => none
      | none => none
    | _ => none
def FJ (T : TT) (f : SF) (m : SM) : List ResultVar -> Option (List SV)
  | [] => some []
  | r :: l => match QeL T f m r with
    | some v => match FJ T f m l with
      | some vs => some (v :: vs)
      | none => none
    | none => none
theorem Qdh {ρ : Qs} {w : World} (hW : WM ρ c.L0 c.w0 m d n Γ w) {r : ResultVar} {v : SV} (h : QeL c.T f m r = some v) : RV c.P (Qo ρ f) w r (v.den ρ) := by
  cases r with
  | tmp t => exact .tmp (XD h)
  | cell t ty =>
    unfold QeL at h
    simp only at h
    split at h
    . rename_i k o hl
      have h1 := XD (ρ := ρ) hl
      simp only [SV.den] at h1
      split at h
      . rename_i i hi
        split at h
        . rename_i cc hk
          obtain ⟨b1, b2⟩ := hW.cell hk
          split at h
          . rename_i hg
            split at h
            . rename_i r hr
              obtain ⟨q1, q2, q3⟩ := YJ ρ b2 hr
              obtain ⟨r', g1, g2, g3, g4⟩ := Ym ρ q1 h
              simp only [Option.some.injEq] at g1
              subst g1
              rw [YU]
              refine .agg h1 (TT.agg c.ok hi hg) (cs := Qd ρ r') ?_ (by rw [QC ρ g2, g4])
              have := b1.part o i.s
              rwa [<- q2, <- g3] at this
            . cases h
          . rename_i hg
            obtain ⟨y, j, g1, g2, g3, g4⟩ := VC ρ b2 h
            have g5 := g4 0 g2
            rw [Nat.add_zero, Nat.add_zero] at g5
            exact .one h1 (TT.one c.ok hi hg) (b1.cell (by rw [g5]; exact Hu g1 g3 g2))
        . cases h
      . cases h
    . cases h
theorem EC {a : Act} {ρ : Qs} {w : World} (ha : Fr c.N a (Qo ρ f)) (hW : WM ρ c.L0 c.w0 m d n Γ w) : ∀ {rs : List ResultVar} {vs : List SV}, FJ c.T f m rs = some vs -> (rs.mapM (KS a.tmps)).run c.P w = .ok (Qr ρ vs) w
  | [], vs, h => by cases h; simp [Qr]
  | r :: l, vs, h => by
    unfold FJ at h
    split at h
    . rename_i v hv
      split at h
      . rename_i us hu
        cases h
        have h1 := (Qdh hW hv).run ha
        have h2 := EC ha hW hu
        simp only [List.mapM_cons, Sem.run_bind, h1, Result.andThen_ok, h2, Sem.run_pure, Qr]
      . cases h
    . cases h
theorem QeA (ρ : Qs) (vs : List SV) : (if h : (Qr ρ vs).toArray.size = 1 then (Qr ρ vs).toArray[0] else Value.tuple (Qr ρ vs).toArray) = val ρ vs := by
  match vs with
  | [] => simp [Qr, val]
  | [v] => simp [Qr, val]
  | v :: u :: l => simp [Qr, val]
theorem Qfe {rs : List ResultVar} {vs : List SV} (hr : c.fn.results = ⟨rs⟩) (hv : FJ c.T f m rs = some vs) (post : ∀ ρ W, WM ρ c.L0 c.w0 m d n Γ W -> c.R (val ρ vs) W) {ρ : Qs} {a : Act} {w : World} (ha : Fr c.N a (Qo ρ f)) (hW : WM ρ c.L0 c.w0 m d n Γ w) : Qff c.P c.fn c.R c.w0 a w := by
  refine ⟨ha.1.2, val ρ vs, ?_, post ρ w hW, hW.bel⟩
  have h1 := EC ha hW hv
  rw [FI, hr]
  simp only [List.mapM_toArray, Sem.run_bind, Sem.run_map, h1, Result.andThen_ok, Sem.run_pure]
  rw [<- QeA ρ vs]
theorem S.ret {rs : List ResultVar} {vs : List SV} (hr : c.fn.results = ⟨rs⟩) (hv : FJ c.T f m rs = some vs) (post : ∀ ρ W, WM ρ c.L0 c.w0 m d n Γ W -> c.R (val ρ vs) W) : S c (.c .ret :: ks) f m d n Γ := fun ρ a w ha hW => wp_ret (QcL (ks := ks) (Qfe hr hv post ha hW))
end
def Qak : List SV -> Nat -> SF
  | [], _ => []
  | x :: l, k => (k, x) :: Qak l (Nat.succ k)
theorem Fe (ρ : Qs) : ∀ (l : List SV) (k : Nat), Qo ρ (Qak l k) = ((Qr ρ l).zipIdx k).map fun p => (p.2, p.1)
  | [], k => by simp [Qak, Qo, Qr]
  | x :: l, k => by simp only [Qak, Qo, Qr, List.zipIdx_cons, List.map_cons, Fe ρ l (Nat.succ k)]
theorem S.enter {P : Program} {T : TT} (ok : T.ok P = true) {F : FuncId} {fn : Func} {body : Code} {w : World} {L : List Nat} {R : Value -> World -> Prop} {N : Nat} {vs : List Value} (args : List SV) (Γ : List Qq) (hf : P.funcs[F]? = some fn) (hb : fn.body = some body) (hn : fn.ntmps = N) (hN : decide (vs.length <= N) = true) (ha : ∀ ρ, Qr ρ args = vs) (hL : LL L w) (hs : Hs Γ L w)
    (h : S ⟨P, T, N, fn, R, w, L, ok⟩ [.c body] (Qak args 0) [] [] 0 Γ) : CV P F vs w R :=
  Qcs vs (Qo Qt (Qak args 0)) hf hb hn hN (by rw [Fe, ha]) fun a hfr => by
    have := h Qt a w hfr ⟨(fun x hx => by cases hx), (fun x hx => by cases hx), List.nodup_nil, (fun x hx => by cases hx), Below.refl _ _, (fun x hx => by cases hx), (fun x hx => by cases hx), hL, hs⟩
    refine wp_mono this fun e a w hq => ?_
    cases e <;> first
      | exact hq.elim
      | (obtain ⟨h1, v, h2, h3, h4⟩ := hq; exact ⟨h1, v, h2, v, rfl, h3, h4⟩)
/-- The values of what is kept, and of what is said anew, are the same. -/
def SV.eqv : SV -> SV -> Prop
  | .i K1 n1, .i K2 n2 => K1 = K2 /\ n1 = n2
  | .c p1 _, .c p2 _ => p1 ↔ p2
  | .s m1, .s m2 => m1 = m2
  | .y k1 o1 l1 e1, .y k2 o2 l2 e2 => k1 = k2 /\ o1 = o2 /\ l1 = l2 /\ e1 = e2
  | .x k1 o1 j1 n1, .x k2 o2 j2 n2 => k1 = k2 /\ o1 = o2 /\ j1 = j2 /\ n1 = n2
  | .x k1 o1 j1 n1, .p k2 o2 => k1 = k2 /\ o1 + n1.toNat * j1 = o2
  | .r k1 o1 j1 n1, .q k2 o2 => k1 = k2 /\ o1 + n1.toNat * j1 = o2
  | y1, y2 => y1 = y2
theorem Da {x y : SV} (h : x.eqv y) (ρ : Qs) : x.den ρ = y.den ρ := by
  unfold SV.eqv at h
  split at h
  . obtain ⟨rfl, rfl⟩ := h; rfl
  . rename_i p dp q dq
    simp only [SV.den]
    by_cases hp : p
    . have hq : q := h.1 hp
      simp [hp, hq]
    . have hq : ¬ q := fun hq => hp (h.2 hq)
      simp [hp, hq]
  . subst h; rfl
  . obtain ⟨rfl, rfl, rfl, rfl⟩ := h; rfl
  . obtain ⟨rfl, rfl, rfl, rfl⟩ := h; rfl
  . obtain ⟨rfl, rfl⟩ := h; simp only [SV.den, SV.cs]
  . obtain ⟨rfl, rfl⟩ := h; simp only [SV.den, SV.cs]
  . subst h; rfl
def mF (f : SF) : SF -> Prop
  | [] => True
  | (t, v) :: l => (match lk f t with
    | some u => u.eqv v
    | none => False) /\ mF f l
theorem K7 {ρ : Qs} {f : SF} : ∀ {g : SF}, mF f g -> Sub (Qo ρ g) (Qo ρ f)
  | [], _ => trivial
  | (t, v) :: l, h => by
    obtain ⟨h1, h2⟩ := h
    split at h1
    . rename_i u hu
      exact ⟨by rw [XD hu, Da h1], K7 h2⟩
    . exact h1.elim
def Qfj : List SV -> List SV -> Prop
  | [], [] => True
  | x :: l, y :: l' => x.eqv y /\ y.ok /\ Qfj l l'
  | _, _ => False
theorem Qfi {x y : SV} (h : x.eqv y) (ρ : Qs) : x.cs (x.den ρ) = y.cs (y.den ρ) := by
  have hd := Da h ρ
  unfold SV.eqv at h
  split at h
  . obtain ⟨rfl, rfl⟩ := h; rfl
  . simp only [SV.cs, hd]
  . subst h; rfl
  . obtain ⟨rfl, rfl, rfl, rfl⟩ := h; rfl
  . obtain ⟨rfl, rfl, rfl, rfl⟩ := h; rfl
  . obtain ⟨rfl, rfl⟩ := h; simp only [SV.den, SV.cs]
  . obtain ⟨rfl, rfl⟩ := h; simp only [SV.den, SV.cs]
  . subst h; rfl
theorem Jt {ρ : Qs} : ∀ {l l' : List SV}, Qfj l l' -> Qd ρ l = Qd ρ l' /\ XW l'
  | [], [], _ => ⟨rfl, trivial⟩
  | x :: l, y :: l', h => by
    obtain ⟨h1, h2, h3⟩ := h
    obtain ⟨g1, g2⟩ := Jt (ρ := ρ) h3
    exact ⟨by simp only [Qd, Qfi h1, g1], h2, g2⟩
  | [], _ :: _, h => h.elim
  | _ :: _, [], h => h.elim
def mM (m : SM) : SM -> Prop
  | [] => True
  | (k, c) :: l => (match Xm m k with
    | some c' => Qfj c' c
    | none => False) /\ mM m l
theorem Kl {m : SM} {ρ : Qs} : ∀ {m' : SM}, mM m m' -> ∀ x ∈ m', ∃ c', (x.1, c') ∈ m /\ Qd ρ c' = Qd ρ x.2 /\ XW x.2
  | [], _, x, hx => by cases hx
  | (k, c) :: l, h, x, hx => by
    obtain ⟨h1, h2⟩ := h
    cases hx with
    | head =>
      split at h1
      . rename_i c' hk
        exact ⟨c', XE hk, (Jt (ρ := ρ) h1).1, (Jt (ρ := ρ) h1).2⟩
      . exact h1.elim
    | tail _ hx => exact Kl h2 x hx
def Jm : SM -> Bool
  | [] => true
  | (k, _) :: l => match l.any fun x => Nat.beq x.1 k with
    | true => false
    | false => Jm l
theorem Up : ∀ {m : SM}, Jm m = true -> (m.map Prod.fst).Nodup
  | [], _ => List.nodup_nil
  | (k, c) :: l, h => by
    unfold Jm at h
    split at h
    . cases h
    . rename_i hn
      rw [List.map_cons, List.nodup_cons]
      refine ⟨fun hk => ?_, Up h⟩
      obtain ⟨x, hx, e⟩ := List.mem_map.1 hk
      rw [Bool.eq_false_iff] at hn
      refine hn (List.any_eq_true.2 ⟨x, hx, ?_⟩)
      simp only [e]
      exact Nat.beq_refl k
/-- Less is kept in mind. -/
theorem WM.sub {ρ : Qs} {L0 : List Nat} {w0 w : World} {m m' : SM} {d d' : SD} {n n' : Nat} {Γ Γ' : List Qq} (h : WM ρ L0 w0 m d n Γ w) (hm : mM m m') (hk : Jm m' = true) (hmn : JW n' m' = true) (hd : ∀ x ∈ d', x ∈ d) (hdn : JM n' d' = true) (hs : Hs Γ' (Xq ρ m L0) w) : WM ρ L0 w0 m' d' n' Γ' w := by
  have hsub : ∀ x ∈ Xq ρ m' L0, x ∈ Xq ρ m L0 := fun x hx => by
    rcases List.mem_append.1 hx with h1 | h1
    . obtain ⟨y, hy, rfl⟩ := List.mem_map.1 h1
      obtain ⟨c', hc, _⟩ := Kl (ρ := ρ) hm y hy
      exact List.mem_append_left _ (List.mem_map.2 ⟨(y.1, c'), hc, rfl⟩)
    . exact List.mem_append_right _ h1
  refine ⟨fun x hx => ?_, fun x hx => (UX hmn x hx).1, ?_, fun x hx => ?_, h.bel, fun x hx => ?_, fun x hx => (KD hdn x hx).1, h.ll, hs.stp (Dr.refl _ _) fun x hx => .inl (hsub x hx)⟩
  . obtain ⟨c', hc, e1, e2⟩ := Kl (ρ := ρ) hm x hx
    rw [<- e1]
    exact ⟨(h.mem _ hc).1, e2⟩
  . have hn := Up hk
    have : (m'.map fun x => ρ.b x.1) = (m'.map Prod.fst).map ρ.b := by simp
    rw [this]
    refine List.pairwise_map.2 (hn.imp_of_mem fun {a b} ha hb hne => ?_)
    obtain ⟨x, hx, rfl⟩ := List.mem_map.1 ha
    obtain ⟨y, hy, rfl⟩ := List.mem_map.1 hb
    obtain ⟨c1, hc1, _⟩ := Kl (ρ := ρ) hm x hx
    obtain ⟨c2, hc2, _⟩ := Kl (ρ := ρ) hm y hy
    exact Vz (x := (x.1, c1)) (y := (y.1, c2)) h.nod hc1 hc2 hne
  . obtain ⟨c', hc, _⟩ := Kl (ρ := ρ) hm x hx
    exact h.low (x.1, c') hc
  . obtain ⟨h1, h2⟩ := h.dat x (hd x hx)
    exact ⟨fun hx => h1 (hsub _ hx), h2⟩
/-- What a loop's round begins from. -/
def Hd (c : Cx) (f : SF) (m : SM) (d : SD) (n : Nat) (Γ : List Qq) (a : Act) (w : World) : Prop := ∃ ρ, Fr c.N a (Qo ρ f) /\ WM ρ c.L0 c.w0 m d n Γ w
def E0 (f : SF) : List Nat -> Option SF
  | [] => some []
  | t :: l => match lk f t with
    | some v => match E0 f l with
      | some r => some ((t, v) :: r)
      | none => none
    | none => none
theorem Ko {ρ : Qs} {f : SF} : ∀ {l : List Nat} {g : SF}, E0 f l = some g -> Sub (Qo ρ g) (Qo ρ f)
  | [], g, h => by cases h; trivial
  | t :: l, g, h => by
    unfold E0 at h
    split at h
    . rename_i v hv
      split at h
      . rename_i r hr
        cases h
        exact ⟨XD hv, Ko hr⟩
      . cases h
    . cases h
theorem Dq {f : Fl} : ∀ {a b : Fl}, Sub a f -> Sub b f -> Sub (a ++ b) f
  | [], b, _, h => h
  | (t, v) :: l, b, h, h' => ⟨h.1, Dq h.2 h'⟩
theorem HR (ρ : Qs) : ∀ a b : SF, Qo ρ (a ++ b) = Qo ρ a ++ Qo ρ b
  | [], b => rfl
  | (t, v) :: l, b => by simp only [List.cons_append, Qo, HR ρ l b]
section
variable {c : Cx} {ks ks' : List It} {f f' : SF} {m m' : SM} {d : SD} {n n' : Nat} {Γ : List Qq} {cs : List Prop}
/-- A loop: kp the slots that stay as they are, ch those that are said anew, mm the Xq blocks, Δ the facts that come and go. -/
theorem S.loop {α : Type} {body : Code} (kp : List Nat) (ch : α -> SF) (mm : α -> SM) (Δ : α -> List Qq) (I : α -> Prop) (μ : α -> Nat) (s0 : α) {fk : SF} (hk : E0 f kp = some fk) (hkm : ∀ s, Jm (mm s) = true) (hmn : ∀ s, JW n (mm s) = true) (hdn : JM n d = true)
    (h0 : mF f (ch s0)) (h1 : mM m (mm s0)) (h2 : ∀ ρ w, WM ρ c.L0 c.w0 m d n Γ w -> Hs (Δ s0) (Xq ρ m c.L0) w) (h3 : I s0)
    (round : ∀ (J : Act -> World -> Prop) s, I s -> (∀ s', I s' -> μ s' < μ s -> ∀ a w, Hd c (ch s' ++ fk) (mm s') d n (Γ ++ Δ s') a w -> J a w) -> S c (.c body :: .r J :: ks) (ch s ++ fk) (mm s) d n (Γ ++ Δ s)) : S c (.c (.loop body) :: ks) f m d n Γ := fun ρ a w ha hW => by
  refine wp_loop_ghost (fun k a w => ∃ s, μ s = k /\ I s /\ Hd c (ch s ++ fk) (mm s) d n (Γ ++ Δ s) a w) (μ s0) ⟨s0, rfl, h3, ρ, ?_, ?_⟩ fun k a w hI => ?_
  . rw [HR]
    exact ha.sub (Dq (K7 h0) (Ko hk))
  . exact hW.sub h1 (hkm s0) (hmn s0) (fun x hx => hx) hdn (hW.hs.app (h2 ρ w hW))
  . obtain ⟨s, rfl, hi, ρ', ha', hW'⟩ := hI
    exact round _ s hi (fun s' hi' hlt a w hd => ⟨μ s', hlt, s', rfl, hi', hd⟩) ρ' a w ha' hW'
theorem Hs.pre {L : List Nat} {w : World} : ∀ {Γ Δ : List Qq}, Hs (Γ ++ Δ) L w -> Hs Γ L w
  | [], _, _ => trivial
  | φ :: l, Δ, h => ⟨h.1, Hs.pre h.2⟩
/-- A round's end. -/
theorem S.again {J : Act -> World -> Prop} {g : SF} {mm : SM} {d' : SD} {n0 : Nat} {Γ' : List Qq} (hJ : ∀ a w, Hd c g mm d' n0 Γ' a w -> J a w) (h0 : mF f g) (h1 : mM m mm) (hk : Jm mm = true) (hmn : JW n0 mm = true) (hd : ∀ x ∈ d', x ∈ d) (hdn : JM n0 d' = true) (hs : ∀ ρ w, WM ρ c.L0 c.w0 m d n Γ w -> Hs Γ' (Xq ρ m c.L0) w) : S c (.r J :: ks) f m d n Γ := fun ρ a w ha hW => hJ a w ⟨ρ, ha.sub (K7 h0), hW.sub h1 hk hmn hd hdn (hs ρ w hW)⟩
end
end Go.Proofs.YtbiboamaigedjaaDoor
namespace Go.Proofs.YtbiboamaigedjaaDoor
open Go.RowKit
set_option linter.unusedVariables false
set_option linter.unusedSimpArgs false
set_option maxRecDepth 8000
set_option maxHeartbeats 2000000

def tt : TT := { M := 142, tr := (.t (.t (.t (.t (.t (.t (.t (.t .n (some { s := 1, g := false, z := some [.v .nilFunc] }) .n) (some { s := 1, g := false, y := 2, e := 69, z := some [.o none 0 0] }) .n) (some { s := 1, g := false, z := some [.v .nilFunc] }) (.t .n (some { s := 1, g := false, z := some [.v .nilFunc] }) .n)) (some { s := 1, g := false, z := some [.v (.pointer none)] }) (.t (.t .n (some { s := 1, g := false, z := some [.v .nilFunc] }) .n) (some { s := 1, g := false, z := some [.v .nilFunc] }) (.t .n (some { s := 1, g := false, z := some [.v .nilFunc] }) .n))) (some { s := 4, g := true, o := [(0, 1), (1, 1), (2, 1), (3, 1)], z := some [.i .i64 0, .i .i64 0, .l false, .i .u8 0] }) (.t (.t (.t (.t .n (some { s := 1, g := false, k := some .u8, z := some [.i .u8 0] }) .n) (some { s := 1, g := false, z := some [.v .nilFunc] }) .n) (some { s := 1, g := false, z := some [.v .nilFunc] }) (.t .n (some { s := 1, g := false, z := some [.v .nilFunc] }) .n)) (some { s := 1, g := false, y := 2, e := 5, z := some [.o none 0 0] }) (.t .n (some { s := 1, g := false, z := some [.v .nilFunc] }) (.t .n (some { s := 1, g := false, z := some [.v .nilFunc] }) .n)))) (some { s := 1, g := false, k := some .i64, z := some [.i .i64 0] }) (.t (.t (.t (.t .n (some { s := 10, g := true, o := [(0, 5), (5, 5)], z := some [.i .u64 0, .i .u64 0, .i .u64 0, .i .u64 0, .i .u64 0, .i .u64 0, .i .u64 0, .i .u64 0, .i .u64 0, .i .u64 0] }) .n) (some { s := 1, g := false, z := some [.v .nilFunc] }) (.t .n (some { s := 1, g := false, z := some [.v .nilFunc] }) .n)) (some { s := 1, g := true, o := [(0, 1)], z := some [.v (.pointer none)] }) (.t (.t .n (some { s := 1, g := false, z := some [.v .nilFunc] }) .n) none (.t .n (some { s := 1, g := false, z := some [.v .nilFunc] }) .n))) (some { s := 1, g := false, y := 1, z := some [.s ⟨#[]⟩] }) (.t (.t (.t (.t .n (some { s := 1, g := false, k := some .i32, z := some [.i .i32 0] }) .n) (some { s := 1, g := false, z := some [.v .nilFunc] }) .n) none (.t .n (some { s := 1, g := false, z := some [.v .nilFunc] }) .n)) (some { s := 64, g := true, n := 64, e := 5, q := 1, u := true, z := some [.a .u8 (List.replicate 64 0) 64] }) (.t (.t .n (some { s := 1, g := false, z := some [.v .nilFunc] }) .n) (some { s := 1, g := false, z := some [.v .nilFunc] }) (.t .n (some { s := 1, g := false, z := some [.v .nilFunc] }) .n))))) (some { s := 1, g := false, z := some [.v .nilFunc] }) (.t (.t (.t (.t (.t (.t .n (some { s := 4, g := true, o := [(0, 1), (1, 1), (2, 1), (3, 1)], z := some [.v (.pointer none), .v (.pointer none), .v (.pointer none), .s ⟨#[]⟩] }) .n) (some { s := 5, g := true, n := 5, e := 32, q := 1, u := true, z := some [.i .u64 0, .i .u64 0, .i .u64 0, .i .u64 0, .i .u64 0] }) .n) (some { s := 4, g := true, n := 4, e := 32, q := 1, u := true, z := some [.i .u64 0, .i .u64 0, .i .u64 0, .i .u64 0] }) (.t .n (some { s := 1, g := false, z := some [.v .nilFunc] }) .n)) (some { s := 1, g := false, z := some [.v (.pointer none)] }) (.t (.t .n (some { s := 14, g := true, o := [(0, 1), (1, 1), (2, 8), (10, 1), (11, 1), (12, 1), (13, 1)], z := some [.i .i64 0, .i .i64 0, .i .u64 0, .i .u64 0, .i .u64 0, .i .u64 0, .i .u64 0, .i .u64 0, .i .u64 0, .i .u64 0, .v .nilFunc, .v .nilFunc, .v .nilFunc, .v .nilFunc] }) .n) (some { s := 12, g := true, o := [(0, 4), (4, 4), (8, 4)], z := some [.i .u64 0, .i .u64 0, .i .u64 0, .i .u64 0, .i .u64 0, .i .u64 0, .i .u64 0, .i .u64 0, .i .u64 0, .i .u64 0, .i .u64 0, .i .u64 0] }) .n)) (some { s := 1, g := false, y := 1, z := some [.s ⟨#[]⟩] }) (.t (.t (.t (.t .n (some { s := 1, g := false, z := some [.v (.pointer none)] }) .n) (some { s := 1, g := false, z := some [.v .nilFunc] }) .n) (some { s := 1, g := false, z := some [.v .nilFunc] }) (.t .n (some { s := 1, g := false, z := some [.v (.pointer none)] }) .n)) (some { s := 1, g := false, z := some [.v .nilFunc] }) (.t (.t .n (some { s := 1, g := false, z := some [.v .nilFunc] }) .n) (some { s := 4, g := true, n := 4, e := 32, q := 1, u := true, z := some [.i .u64 0, .i .u64 0, .i .u64 0, .i .u64 0] }) (.t .n (some { s := 1, g := false, z := some [.v .nilFunc] }) .n)))) (some { s := 1, g := false, k := some .u8, z := some [.i .u8 0] }) (.t (.t (.t (.t (.t .n (some { s := 1, g := false, z := some [.v .nilFunc] }) .n) (some { s := 20, g := true, o := [(0, 10), (10, 5), (15, 5)], z := some [.i .u64 0, .i .u64 0, .i .u64 0, .i .u64 0, .i .u64 0, .i .u64 0, .i .u64 0, .i .u64 0, .i .u64 0, .i .u64 0, .i .u64 0, .i .u64 0, .i .u64 0, .i .u64 0, .i .u64 0, .i .u64 0, .i .u64 0, .i .u64 0, .i .u64 0, .i .u64 0] }) .n) none (.t .n (some { s := 320, g := true, n := 16, e := 69, q := 20, z := some [.a .u64 (List.replicate 320 0) 320] }) .n)) (some { s := 1, g := false, k := some .i32, z := some [.i .i32 0] }) (.t (.t .n (some { s := 1, g := false, z := some [.v .nilFunc] }) .n) (some { s := 1, g := false, z := some [.v .nilFunc] }) (.t .n (some { s := 2, g := true, o := [(0, 1), (1, 1)], z := some [.i .u64 0, .i .u64 0] }) .n))) (some { s := 2, g := true, o := [(0, 1), (1, 1)], z := some [.s ⟨#[]⟩, .i .u64 0] }) (.t (.t (.t (.t .n (some { s := 11, g := true, o := [(0, 1), (1, 1), (2, 1), (3, 1), (4, 1), (5, 1), (6, 1), (7, 1), (8, 1), (9, 1), (10, 1)], z := some [.i .u64 0, .i .u64 0, .i .u32 0, .i .u8 0, .i .u8 0, .i .u8 0, .i .u8 0, .v .nilFunc, .v (.pointer none), .i .i32 0, .i .i32 0] }) .n) (some { s := 8, g := true, n := 8, e := 32, q := 1, u := true, z := some [.i .u64 0, .i .u64 0, .i .u64 0, .i .u64 0, .i .u64 0, .i .u64 0, .i .u64 0, .i .u64 0] }) .n) (some { s := 1, g := false, z := some [.v .nilFunc] }) (.t .n (some { s := 1, g := false, z := some [.v .nilFunc] }) .n)) (some { s := 1, g := false, z := some [.v .nilFunc] }) (.t (.t .n (some { s := 1, g := false, z := some [.v .nilFunc] }) .n) (some { s := 1, g := false, z := some [.v .nilFunc] }) (.t .n (some { s := 1, g := false, z := some [.v .nilFunc] }) .n)))))) none (.t (.t (.t (.t (.t (.t (.t .n (some { s := 4, g := true, o := [(0, 1), (1, 1), (2, 1), (3, 1)], z := some [.v (.pointer none), .v (.pointer none), .v (.pointer none), .s ⟨#[]⟩] }) .n) (some { s := 5, g := true, n := 5, e := 32, q := 1, u := true, z := some [.i .u64 0, .i .u64 0, .i .u64 0, .i .u64 0, .i .u64 0] }) .n) (some { s := 1, g := false, k := some .u64, z := some [.i .u64 0] }) (.t .n (some { s := 1, g := false, z := some [.v .nilFunc] }) .n)) (some { s := 1, g := false, z := some [.v (.pointer none)] }) (.t (.t .n (some { s := 1, g := false, z := some [.v .nilFunc] }) .n) (some { s := 1, g := false, k := some .u64, z := some [.i .u64 0] }) (.t .n (some { s := 1, g := false, z := some [.v .nilFunc] }) .n))) (some { s := 4, g := true, o := [(0, 1), (1, 1), (2, 1), (3, 1)], z := some [.i .i64 0, .i .i64 0, .l false, .i .u8 0] }) (.t (.t (.t (.t .n (some { s := 1, g := false, z := some [.v .nilFunc] }) .n) (some { s := 1, g := false, z := some [.v .nilFunc] }) .n) (some { s := 1, g := false, z := some [.v .nilFunc] }) (.t .n (some { s := 1, g := false, z := some [.v .nilFunc] }) .n)) (some { s := 1, g := false, z := some [.v .nilFunc] }) (.t (.t .n (some { s := 1, g := false, z := some [.v .nilFunc] }) .n) (some { s := 1, g := false, z := some [.v .nilFunc] }) (.t .n (some { s := 1, g := false, z := some [.v .nilFunc] }) .n)))) (some { s := 1, g := false, y := 3, z := some [.l false] }) (.t (.t (.t (.t .n (some { s := 20, g := true, o := [(0, 10), (10, 5), (15, 5)], z := some [.i .u64 0, .i .u64 0, .i .u64 0, .i .u64 0, .i .u64 0, .i .u64 0, .i .u64 0, .i .u64 0, .i .u64 0, .i .u64 0, .i .u64 0, .i .u64 0, .i .u64 0, .i .u64 0, .i .u64 0, .i .u64 0, .i .u64 0, .i .u64 0, .i .u64 0, .i .u64 0] }) .n) (some { s := 1, g := false, k := some .i64, z := some [.i .i64 0] }) (.t .n (some { s := 1, g := false, y := 2, e := 101, z := some [.o none 0 0] }) .n)) none (.t (.t .n (some { s := 1, g := false, z := some [.v .nilFunc] }) .n) (some { s := 1, g := false, z := some [.v .nilFunc] }) (.t .n (some { s := 2, g := true, o := [(0, 1), (1, 1)], z := some [.i .u64 0, .i .u64 0] }) .n))) (some { s := 1, g := false, k := some .u64, z := some [.i .u64 0] }) (.t (.t (.t (.t .n (some { s := 11, g := true, o := [(0, 1), (1, 1), (2, 1), (3, 1), (4, 1), (5, 1), (6, 1), (7, 1), (8, 1), (9, 1), (10, 1)], z := some [.i .u64 0, .i .u64 0, .i .u32 0, .i .u8 0, .i .u8 0, .i .u8 0, .i .u8 0, .v .nilFunc, .v (.pointer none), .i .i32 0, .i .i32 0] }) .n) (some { s := 8, g := true, n := 8, e := 32, q := 1, u := true, z := some [.i .u64 0, .i .u64 0, .i .u64 0, .i .u64 0, .i .u64 0, .i .u64 0, .i .u64 0, .i .u64 0] }) .n) (some { s := 1, g := false, z := some [.v .nilFunc] }) (.t .n (some { s := 1, g := false, y := 2, e := 32, z := some [.o none 0 0] }) .n)) (some { s := 1, g := false, z := some [.v .nilFunc] }) (.t .n (some { s := 1, g := false, z := some [.v .nilFunc] }) (.t .n (some { s := 1, g := false, z := some [.v .nilFunc] }) .n))))) (some { s := 1, g := false, k := some .i64, z := some [.i .i64 0] }) (.t (.t (.t (.t (.t .n (some { s := 10, g := true, o := [(0, 5), (5, 5)], z := some [.i .u64 0, .i .u64 0, .i .u64 0, .i .u64 0, .i .u64 0, .i .u64 0, .i .u64 0, .i .u64 0, .i .u64 0, .i .u64 0] }) .n) (some { s := 4, g := true, n := 4, e := 32, q := 1, u := true, z := some [.i .u64 0, .i .u64 0, .i .u64 0, .i .u64 0] }) (.t .n (some { s := 1, g := false, k := some .u32, z := some [.i .u32 0] }) .n)) (some { s := 1, g := true, o := [(0, 1)], z := some [.v (.pointer none)] }) (.t (.t .n (some { s := 14, g := true, o := [(0, 1), (1, 1), (2, 8), (10, 1), (11, 1), (12, 1), (13, 1)], z := some [.i .i64 0, .i .i64 0, .i .u64 0, .i .u64 0, .i .u64 0, .i .u64 0, .i .u64 0, .i .u64 0, .i .u64 0, .i .u64 0, .v .nilFunc, .v .nilFunc, .v .nilFunc, .v .nilFunc] }) .n) (some { s := 12, g := true, o := [(0, 4), (4, 4), (8, 4)], z := some [.i .u64 0, .i .u64 0, .i .u64 0, .i .u64 0, .i .u64 0, .i .u64 0, .i .u64 0, .i .u64 0, .i .u64 0, .i .u64 0, .i .u64 0, .i .u64 0] }) (.t .n (some { s := 1, g := false, z := some [.v .nilFunc] }) .n))) (some { s := 1, g := false, y := 1, z := some [.s ⟨#[]⟩] }) (.t (.t (.t (.t .n (some { s := 1, g := false, k := some .i32, z := some [.i .i32 0] }) .n) (some { s := 1, g := false, y := 2, e := 22, z := some [.o none 0 0] }) .n) (some { s := 1, g := false, z := some [.v .nilFunc] }) (.t .n (some { s := 1, g := false, z := some [.v .nilFunc] }) .n)) (some { s := 1, g := false, z := some [.v .nilFunc] }) (.t (.t .n (some { s := 1, g := false, z := some [.v .nilFunc] }) .n) none (.t .n (some { s := 80, g := true, n := 80, e := 32, q := 1, u := true, z := some [.a .u64 (List.replicate 80 0) 80] }) .n)))) (some { s := 1, g := false, k := some .u8, z := some [.i .u8 0] }) (.t (.t (.t (.t (.t .n (some { s := 1, g := false, k := some .u8, z := some [.i .u8 0] }) .n) (some { s := 1, g := false, z := some [.v .nilFunc] }) .n) (some { s := 1, g := false, z := some [.v .nilFunc] }) (.t .n (some { s := 1, g := false, z := some [.v .nilFunc] }) .n)) (some { s := 32, g := true, n := 32, e := 5, q := 1, u := true, z := some [.a .u8 (List.replicate 32 0) 32] }) (.t (.t .n (some { s := 1, g := false, z := some [.v .nilFunc] }) .n) (some { s := 1, g := false, z := some [.v .nilFunc] }) (.t .n (some { s := 1, g := false, z := some [.v .nilFunc] }) .n))) (some { s := 2, g := true, o := [(0, 1), (1, 1)], z := some [.s ⟨#[]⟩, .i .u64 0] }) (.t (.t (.t .n (some { s := 1, g := false, y := 2, e := 23, z := some [.o none 0 0] }) .n) (some { s := 1, g := false, z := some [.v .nilFunc] }) .n) (some { s := 1, g := false, z := some [.v .nilFunc] }) (.t .n (some { s := 1, g := false, z := some [.v .nilFunc] }) (.t .n (some { s := 1, g := false, z := some [.v (.pointer none)] }) .n))))))) }
theorem Qm : TT.ok Tryd.prog tt = true := by kernel_rfl
section
variable {P : Program} {ops : Array Oper} {md : Region.Mode}
/-- As KC, where G speaks of the values too; where what waits for one is not asked to bear it. G holds throughout, said of which operations have run; what is shown of an operation (F) bears what others do to the world (R). -/
theorem KB {Q : Exit -> Act -> World -> Prop} (hb : JQ md ops = true) (a : Act) (G : (Nat -> Bool) -> (Nat -> Value) -> World -> Prop) (F : Ds) (R : Nat -> (Nat -> Value) -> World -> World -> Prop)
    (hF : ∀ i f w w' j g, R i f w w' -> j ≠ i -> i ∉ QT md ops j -> F j g w -> F j g w')
    (hstep : ∀ i o, ops[i]? = some o -> ∀ L f w, L i = false -> (∀ j, i ∈ QT md ops j -> L j = false) -> (∀ j ∈ Ql md o, L j = true) -> G L f w -> (∀ j ∈ Ql md o, F j (Zb f (j :: QT md ops j)) w) ->
      Qe P ops o (Q1 ops f (Ql md o) a) w fun v w' => R i (Zb f (Ql md o)) w w' /\ G (X6 L i true) (X6 f i v) w' /\ F i (Zb (X6 f i v) (i :: Ql md o)) w')
    (hend : ∀ L f w, (∀ j, L j = decide (j < ops.size)) -> G L f w -> (∀ j, j < ops.size -> F j (Zb f (j :: QT md ops j)) w) -> Q .normal (Q1 ops f (List.range ops.size) a) w) :
    ∀ (fuel : Nat) (listed : Array Bool) (f : Nat -> Value) (a' : Act) (w : World), listed.size = ops.size -> (listed.toList.countP (fun b => !b) <= fuel) ->
      (∀ j, listed.getD j false = true -> ∀ k ∈ QT md ops j, listed.getD k false = true) ->
      Qz ops (fun j => listed.getD j false = true) f a a' -> G (fun j => listed.getD j false) f w -> (∀ j, listed.getD j false = true -> F j (Zb f (j :: QT md ops j)) w) -> wpAny P md ops Q fuel listed a' w := by
  have ho := Hj hb
  have fin : ∀ (listed : Array Bool) (f : Nat -> Value) (a' : Act) (w : World), listed.size = ops.size -> Region.ready md ops listed = [] ->
      Qz ops (fun j => listed.getD j false = true) f a a' -> G (fun j => listed.getD j false) f w -> (∀ j, listed.getD j false = true -> F j (Zb f (j :: QT md ops j)) w) -> Q .normal a' w := by
    intro listed f a' w hsz hr hag hg hf
    have hl := JL hb hsz hr
    have hout : ∀ j, listed.getD j false = true -> j < ops.size := by
      intro j h
      rcases Nat.lt_or_ge j ops.size with h' | h'
      . exact h'
      . simp [Array.getElem?_eq_none (by omega : listed.size <= j)] at h
    have e : a' = Q1 ops f (List.range ops.size) a := by
      refine hag.unique ((Qz.of ho f a (List.range ops.size)).congr (fun j => ?_) (fun _ _ => rfl))
      rw [List.mem_range]
      exact ⟨hl j, hout j⟩
    rw [e]
    refine hend _ f w (fun j => ?_) hg fun j hj => hf j (hl j hj)
    by_cases hj : j < ops.size
    . rw [hl j hj]; simp [hj]
    . have : ¬ listed.getD j false = true := fun h => hj (hout j h)
      rw [Bool.not_eq_true] at this
      rw [this]; simp [hj]
  intro fuel
  induction fuel with
  | zero =>
    intro listed f a' w hsz hc hcl hag hg hf
    have hr : Region.ready md ops listed = [] := by
      rw [List.eq_nil_iff_forall_not_mem]
      intro j hj
      obtain ⟨h0, o, hoj, _⟩ := mem_ready.1 hj
      have hjs : j < ops.size := (Array.getElem?_eq_some_iff.1 hoj).1
      have hc0 : listed.toList.countP (fun b => !b) = 0 := by omega
      rw [List.countP_eq_zero] at hc0
      have h1 := hc0 listed[j] (by simp)
      rw [Array.getD_eq_getD_getElem?, Array.getElem?_eq_getElem (by omega)] at h0
      simp only [Option.getD_some] at h0
      rw [h0] at h1
      exact h1 rfl
    exact ⟨hr, fin listed f a' w hsz hr hag hg hf⟩
  | succ fuel ih =>
    intro listed f a' w hsz hc hcl hag hg hf
    refine ⟨fun hr => fin listed f a' w hsz hr hag hg hf, fun i hi => ?_⟩
    obtain ⟨h0, o, hoi, hdep⟩ := mem_ready.1 hi
    have his : i < ops.size := (Array.getElem?_eq_some_iff.1 hoi).1
    obtain ⟨hsel, hlt, hlook⟩ := YS hb hoi
    have hdl : ∀ j ∈ Ql md o, listed.getD j false = true := by
      intro j hj
      obtain ⟨e, he, rfl⟩ := List.mem_map.1 hj
      obtain ⟨he1, he2⟩ := List.mem_filter.1 he
      exact hdep e (by simpa using he1) he2
    have hun : ¬ listed.getD i false = true := by
      intro h
      rw [Array.getD_eq_getD_getElem?, Array.getElem?_eq_getElem (by omega)] at h0 h
      simp only [Option.getD_some] at h0 h
      rw [h0] at h
      cases h
    have hA := Qz.of ho f a (Ql md o)
    have hdst : o.dst = QF ops i := by simp [QF, hoi]
    have hset : ∀ j, (listed.setIfInBounds i true).getD j false = X6 (fun j => listed.getD j false) i true j := by
      intro j
      unfold X6
      by_cases e : j = i
      . subst e
        simp [Array.getD_eq_getD_getElem?, hsz, his]
      . rw [getD_set_ne false (fun h => e h.symm), if_neg e]
    refine Qe.wpOp hoi hsel (a := Q1 ops f (Ql md o) a) (by rw [hag.size, hA.size]) (fun t ht => ?_)
      (hstep i o hoi (fun j => listed.getD j false) f w (by simpa using hun) (fun j hj => by
        rw [<- Bool.not_eq_true]
        exact fun h => hun (hcl j h i hj)) hdl hg fun j hj => hf j (hdl j hj)) fun v w' hR => ?_
    . by_cases hts : t < a.tmps.size
      . by_cases e : ∃ j, QF ops j = some t
        . obtain ⟨j, hd⟩ := e
          have hj' : j < ops.size := by
            rcases Nat.lt_or_ge j ops.size with h | h
            . exact h
            . simp [QF, Array.getElem?_eq_none h] at hd
          have hl := hlook j t hj' hd
          by_cases hjd : j ∈ Ql md o
          . rw [hag.put j t (hdl j hjd) hd hts, hA.put j t hjd hd hts]
          . have hjl : ¬ listed.getD j false = true := by
              intro hjl
              rcases hl.1 ht with h | h | h
              . exact hun (h ▸ hjl)
              . exact hjd h
              . exact hun (hcl j hjl i h)
            rw [hag.same t (fun k hk hkd => hjl (ho k j t hkd hd ▸ hk)), hA.same t (fun k hk hkd => hjd (ho k j t hkd hd ▸ hk))]
        . have hn : ∀ j, QF ops j ≠ some t := fun j hj => e ⟨j, hj⟩
          rw [hag.same t (fun j _ => hn j), hA.same t (fun j _ => hn j)]
      . rw [Array.getElem?_eq_none (by rw [hag.size]; exact Nat.le_of_not_lt hts), Array.getElem?_eq_none (by rw [hA.size]; exact Nat.le_of_not_lt hts)]
    . obtain ⟨hR1, hR3, hR2⟩ := hR
      have hset' : ∀ j, (listed.setIfInBounds i true).getD j false = true ↔ (j = i \/ listed.getD j false = true) := by
        intro j
        rw [hset j]
        unfold X6
        by_cases e : j = i <;> simp [e]
      rw [hdst]
      refine ih (listed.setIfInBounds i true) (X6 f i v) _ w' (by simp [hsz]) ?_ ?_ ?_ (by rw [show (fun j => (listed.setIfInBounds i true).getD j false) = X6 (fun j => listed.getD j false) i true from funext hset]; exact hR3) ?_
      . have hc2 : (listed.setIfInBounds i true).toList.countP (fun b => !b) + 1 <= listed.toList.countP (fun b => !b) := by
          rw [Array.toList_setIfInBounds]
          have hlen : i < listed.toList.length := by simpa [hsz] using his
          have hli : listed.toList[i] = false := by
            rw [Array.getD_eq_getD_getElem?, Array.getElem?_eq_getElem (by omega)] at h0
            simpa using h0
          rw [List.countP_set hlen, hli]
          have : 0 < listed.toList.countP (fun b => !b) := List.countP_pos_iff.2 ⟨false, by rw [<- hli]; exact List.getElem_mem _, rfl⟩
          simp only [Bool.not_false, Bool.not_true, if_true, Bool.false_eq_true, if_false]
          omega
        omega
      . intro j hj k hk
        rw [hset'] at hj ⊢
        rcases hj with rfl | hj
        . rw [YZ hoi] at hk
          exact .inr (hdl k hk)
        . exact .inr (hcl j hj k hk)
      . exact hag.step ho i v hset' (fun j hji _ => by simp [X6, hji]) (by simp [X6])
      . intro j hj
        rw [hset'] at hj
        by_cases e : j = i
        . subst e
          rw [YZ hoi]
          exact hR2
        . have hjl := hj.resolve_left e
          have hnc : (j :: QT md ops j).contains i = false := by
            rw [<- Bool.not_eq_true, List.contains_iff_mem, List.mem_cons]
            rintro (h | h)
            . exact e h.symm
            . exact hun (hcl j hjl i h)
          rw [J7 hnc]
          exact hF i _ w w' j _ hR1 e (fun h => hun (hcl j hjl i h)) (hf j hjl)
end
end Go.Proofs.YtbiboamaigedjaaDoor
namespace Go.Proofs.YtbiboamaigedjaaDoor
open Go.RowKit
set_option linter.unusedVariables false
set_option linter.constructorNameAsVariable false
set_option linter.unusedSimpArgs false

mutual
/-- It does not name k. -/
def SV.av (k : Nat) : SV -> Bool
  | .p j _ => !Nat.beq j k
  | .x j _ _ _ => !Nat.beq j k
  | .q j _ => !Nat.beq j k
  | .y j _ _ _ => !Nat.beq j k
  | .z j _ _ _ => !Nat.beq j k
  | .r j _ _ _ => !Nat.beq j k
  | .t l => GC k l
  | .g l => GC k l
  | .f _ l => GC k l
  | .w _ _ x => x.av k
  | .v _ => true
  | .i _ _ => true
  | .lit _ _ => true
  | .c _ _ => true
  | .l _ => true
  | .s _ => true
  | .o _ _ _ => true
  | .a _ _ _ => true
  | .u => true
def GC (k : Nat) : List SV -> Bool
  | [] => true
  | x :: l => match x.av k with
    | true => GC k l
    | false => false
end
/-- The same but at k. -/
def Qs.but (k : Nat) (ρ ρ' : Qs) : Prop := ∀ j, j ≠ k -> ρ.b j = ρ'.b j /\ ρ.d j = ρ'.d j
theorem Ky {j k : Nat} (h : (!Nat.beq j k) = true) : j ≠ k := by
  intro e; subst e; simp at h
mutual
theorem SV.den_but {k : Nat} {ρ ρ' : Qs} (h : Qs.but k ρ ρ') : ∀ x : SV, x.av k = true -> x.den ρ = x.den ρ'
  | .v x, _ => by simp only [SV.den]
  | .i K n, _ => by simp only [SV.den]
  | .lit K c, _ => by simp only [SV.den]
  | .c p d, _ => by simp only [SV.den]
  | .l b, _ => by simp only [SV.den]
  | .s x, _ => by simp only [SV.den]
  | .p j o, hw => by have := (h j (Ky (by simpa only [SV.av] using hw))).1; simp only [SV.den, this]
  | .o _ _ _, _ => by simp only [SV.den]
  | .x j o s n, hw => by have := (h j (Ky (by simpa only [SV.av] using hw))).1; simp only [SV.den, this]
  | .q j o, hw => by have := (h j (Ky (by simpa only [SV.av] using hw))).2; simp only [SV.den, this]
  | .y j _ _ _, hw => by have := (h j (Ky (by simpa only [SV.av] using hw))).1; simp only [SV.den, this]
  | .z j _ _ _, hw => by have := (h j (Ky (by simpa only [SV.av] using hw))).2; simp only [SV.den, this]
  | .r j _ _ _, hw => by have := (h j (Ky (by simpa only [SV.av] using hw))).2; simp only [SV.den, this]
  | .t l, hw => by simp only [SV.den, Jy h l (by simpa only [SV.av] using hw)]
  | .g l, hw => by simp only [SV.den, VI h l (by simpa only [SV.av] using hw)]
  | .a K zs _, _ => by simp only [SV.den]
  | .f F l, hw => by simp only [SV.den, Jy h l (by simpa only [SV.av] using hw)]
  | .w p d x, hw => by
    have := SV.den_but h x (by simpa only [SV.av] using hw)
    cases d with
    | isTrue hp => simp only [SV.den, this]
    | isFalse hp => simp only [SV.den]
  | .u, _ => by simp only [SV.den]
theorem Jy {k : Nat} {ρ ρ' : Qs} (h : Qs.but k ρ ρ') : ∀ l : List SV, GC k l = true -> Qr ρ l = Qr ρ' l
  | [], _ => by simp only [Qr]
  | x :: l, hw => by
    unfold GC at hw
    split at hw
    . rename_i hx
      simp only [Qr, SV.den_but h x hx, Jy h l hw]
    . cases hw
theorem VI {k : Nat} {ρ ρ' : Qs} (h : Qs.but k ρ ρ') : ∀ l : List SV, GC k l = true -> Qd ρ l = Qd ρ' l
  | [], _ => by simp only [Qd]
  | x :: l, hw => by
    unfold GC at hw
    split at hw
    . rename_i hx
      simp only [Qd, SV.den_but h x hx, VI h l hw]
    . cases hw
end
def Yv (k : Nat) (c : Cl) : SM -> SM
  | [] => [(k, c)]
  | (j, x) :: l => match Nat.beq j k with
    | true => (j, c) :: l
    | false => (j, x) :: Yv k c l
def QaP {α : Type} (k : Nat) (c : Cl) : SM -> (SM -> α) -> α
  | [], K => K [(k, c)]
  | (j, x) :: l, K => match Nat.beq j k with
    | true => K ((j, c) :: l)
    | false => QaP k c l fun l' => K ((j, x) :: l')
theorem KP {α : Type} {k : Nat} {c : Cl} : ∀ {m : SM} {K : SM -> α}, QaP k c m K = K (Yv k c m)
  | [], K => rfl
  | (j, x) :: l, K => by
    unfold QaP Yv
    cases hk : Nat.beq j k with
    | true => rfl
    | false => exact KP
theorem Xf (k : Nat) : Nat.beq k k = true := Nat.beq_refl k
theorem QZ {j k : Nat} (h : j ≠ k) : Nat.beq j k = false := by
  cases e : Nat.beq j k with
  | false => rfl
  | true => exact absurd (Nat.eq_of_beq_eq_true e) h
theorem JG {k : Nat} {c : Cl} : ∀ {m : SM} {q : Nat}, Xm (Yv k c m) q = if q = k then some c else Xm m q
  | [], q => by
    unfold Yv Xm
    by_cases h : q = k
    . subst h; rw [Xf, if_pos rfl]
    . rw [QZ (fun e => h e.symm), if_neg h]
      rfl
  | (j, x) :: l, q => by
    unfold Yv
    cases hk : Nat.beq j k with
    | true =>
      have e := Nat.eq_of_beq_eq_true hk
      subst e
      by_cases h : q = j
      . subst h; simp only [Xm, Xf, if_true]
      . simp only [Xm, QZ (fun e => h e.symm), if_neg h]
    | false =>
      have hne := Nat.ne_of_beq_eq_false hk
      by_cases h : q = j
      . subst h; simp only [Xm, Xf]; rw [if_neg hne]
      . simp only [Xm, QZ (fun e => h e.symm)]; exact JG
theorem Ka {k : Nat} {c : Cl} : ∀ {m : SM}, (m.map Prod.fst).Nodup -> ((Yv k c m).map Prod.fst).Nodup /\ ∀ q, q ∈ (Yv k c m).map Prod.fst -> q = k \/ q ∈ m.map Prod.fst
  | [], _ => by simp [Yv]
  | (j, x) :: l, h => by
    simp only [List.map_cons, List.nodup_cons] at h
    unfold Yv
    cases hk : Nat.beq j k with
    | true => exact ⟨by simp only [List.map_cons, List.nodup_cons]; exact h, fun q hq => .inr hq⟩
    | false =>
      obtain ⟨h1, h2⟩ := Ka (k := k) (c := c) h.2
      simp only [List.map_cons, List.nodup_cons]
      refine ⟨⟨fun hm => ?_, h1⟩, fun q hq => ?_⟩
      . rcases h2 j hm with e | e
        . exact Nat.ne_of_beq_eq_false hk e
        . exact h.1 e
      . cases hq with
        | head => exact .inr (.head _)
        | tail _ hq => exact (h2 q hq).imp id fun e => .tail _ e
theorem XS : ∀ {m : SM} {k : Nat} {c : Cl}, (m.map Prod.fst).Nodup -> (k, c) ∈ m -> Xm m k = some c
  | [], _, _, _, h => by cases h
  | (j, x) :: l, k, c, hn, h => by
    simp only [List.map_cons, List.nodup_cons] at hn
    cases h with
    | head => simp only [Xm, Xf]
    | tail _ h =>
      have : j ≠ k := fun e => hn.1 (e ▸ List.mem_map.2 ⟨(k, c), h, rfl⟩)
      simp only [Xm, QZ this]
      exact XS hn.2 h
theorem EI {ρ : Qs} {m : SM} {L0 : List Nat} {x : Nat} (hn : (m.map Prod.fst).Nodup) : x ∈ Xq ρ m L0 ↔ (∃ k c, Xm m k = some c /\ ρ.b k = x) \/ x ∈ L0 := by
  unfold Xq
  rw [List.mem_append, List.mem_map]
  refine or_congr ⟨fun ⟨y, hy, e⟩ => ⟨y.1, y.2, XS hn hy, e⟩, fun ⟨k, c, hk, e⟩ => ⟨(k, c), XE hk, e⟩⟩ Iff.rfl
section
variable {ρ : Qs} {L0 : List Nat} {w0 w : World} {m m2 : SM} {d : SD} {n : Nat} {Γ : List Qq}
theorem K5 {m : SM} (h1 : (m.map Prod.fst).Nodup) (h2 : ∀ k c k' c', Xm m k = some c -> Xm m k' = some c' -> k ≠ k' -> ρ.b k ≠ ρ.b k') : (m.map fun x => ρ.b x.1).Nodup := by
  have : (m.map fun x => ρ.b x.1) = (m.map Prod.fst).map ρ.b := by simp
  rw [this]
  refine List.pairwise_map.2 (h1.imp_of_mem fun {a b} ha hb hne => ?_)
  obtain ⟨x, hx, rfl⟩ := List.mem_map.1 ha
  obtain ⟨y, hy, rfl⟩ := List.mem_map.1 hb
  exact h2 _ _ _ _ (XS h1 hx) (XS h1 hy) hne
theorem WM.inj (h : WM ρ L0 w0 m d n Γ w) {k k' : Nat} {c c' : Cl} (hk : Xm m k = some c) (hk' : Xm m k' = some c') (hn : k ≠ k') : ρ.b k ≠ ρ.b k' := Vz (x := (k, c)) (y := (k', c')) h.nod (XE hk) (XE hk') hn
/-- The Xq blocks in another order. -/
theorem WM.ext (h : WM ρ L0 w0 m d n Γ w) (he : ∀ k, Xm m2 k = Xm m k) (hn : (m2.map Prod.fst).Nodup) : WM ρ L0 w0 m2 d n Γ w := by
  have h1 := Xi h.nod
  have hown : ∀ x, x ∈ Xq ρ m2 L0 ↔ x ∈ Xq ρ m L0 := fun x => by rw [EI hn, EI h1]; simp only [he]
  have hmem : ∀ x ∈ m2, x ∈ m := fun x hx => XE (by rw [<- he]; exact XS hn hx)
  exact ⟨fun x hx => h.mem x (hmem x hx), fun x hx => h.key x (hmem x hx), K5 hn fun k c k' c' hk hk' hne => h.inj (by rw [<- he]; exact hk) (by rw [<- he]; exact hk') hne, fun x hx => h.low x (hmem x hx), h.bel, fun x hx => ⟨fun hx' => (h.dat x hx).1 ((hown _).1 hx'), (h.dat x hx).2⟩, h.dky, h.ll, h.hs.stp (Dr.refl _ _) fun x hx => .inl ((hown x).1 hx)⟩
theorem J9 {k : Nat} {c c' : Cl} : ∀ {m : SM}, Xm m k = some c -> Vb k c' m = Yv k c' m
  | [], h => by cases h
  | (j, x) :: l, h => by
    unfold Xm at h
    unfold Vb Yv
    cases hk : Nat.beq j k with
    | true => rfl
    | false => rw [hk] at h; simp only; rw [J9 h]
end
/-- What an operation of a drawn region does to Xq blocks. -/
inductive Ef where
  | no
  | wr (k : Nat) (c : Cl)
def QE : List Ef -> SM -> SM
  | [], m => m
  | .no :: l, m => QE l m
  | .wr k c :: l, m => QE l (Yv k c m)
def XM (L : Nat -> Bool) : Nat -> List Ef -> List Ef
  | _, [] => []
  | k, e :: l => (match L k with
    | true => e
    | false => .no) :: XM L (k + 1) l
def Ef.on (q : Nat) : Ef -> Bool
  | .no => false
  | .wr k _ => Nat.beq k q
theorem XP : ∀ {l : List Ef} {m : SM}, (m.map Prod.fst).Nodup -> ((QE l m).map Prod.fst).Nodup
  | [], _, h => h
  | .no :: l, m, h => XP (l := l) h
  | .wr k c :: l, m, h => XP (l := l) (Ka h).1
/-- The last that was written to q. -/
def Zh (q : Nat) : List Ef -> Option Cl -> Option Cl
  | [], c => c
  | .no :: l, c => Zh q l c
  | .wr k x :: l, c => Zh q l (if q = k then some x else c)
theorem Xe {q : Nat} : ∀ {l : List Ef} {m : SM}, Xm (QE l m) q = Zh q l (Xm m q)
  | [], m => rfl
  | .no :: l, m => Xe (l := l)
  | .wr k c :: l, m => by
    show Xm (QE l (Yv k c m)) q = Zh q l (if q = k then some c else Xm m q)
    rw [Xe (l := l), JG]
theorem X7 {q : Nat} : ∀ {l : List Ef} {c : Option Cl}, (∀ e ∈ l, e.on q = false) -> Zh q l c = c
  | [], _, _ => rfl
  | .no :: l, c, h => X7 (l := l) fun e he => h e (.tail _ he)
  | .wr k x :: l, c, h => by
    have := h _ (.head _)
    simp only [Ef.on] at this
    show Zh q l (if q = k then some x else c) = c
    rw [if_neg (fun e => Nat.ne_of_beq_eq_false this e.symm)]
    exact X7 fun e he => h e (.tail _ he)
theorem Q4 {L : Nat -> Bool} : ∀ {l : List Ef} {k i : Nat}, (XM L k l)[i]? = (l[i]?).map fun e => match L (k + i) with
    | true => e
    | false => .no
  | [], k, i => by simp [XM]
  | e :: l, k, 0 => by simp only [XM, List.getElem?_cons_zero, Nat.add_zero, Option.map_some]
  | e :: l, k, i + 1 => by simp only [XM, List.getElem?_cons_succ]; rw [Q4 (l := l), show k + 1 + i = k + (i + 1) by omega]
/-- What two runs of effects leave at q, where they agree on those that touch it. -/
theorem Zg {q : Nat} : ∀ {l l' : List Ef} {c : Option Cl}, (∀ i : Nat, (l[i]?.map (Ef.on q)).getD false = (l'[i]?.map (Ef.on q)).getD false) -> (∀ (i : Nat) (e e' : Ef), l[i]? = some e -> l'[i]? = some e' -> Ef.on q e = true -> e = e') -> Zh q l c = Zh q l' c
  | [], l', c, h, _ => by
    rw [X7 (l := l') fun e he => ?_]
    . rfl
    . obtain ⟨i, hi⟩ := List.mem_iff_getElem?.1 he
      have := h i
      rw [hi] at this
      simpa using this.symm
  | l, [], c, h, _ => by
    rw [X7 (l := l) fun e he => ?_]
    . rfl
    . obtain ⟨i, hi⟩ := List.mem_iff_getElem?.1 he
      have := h i
      rw [hi] at this
      simpa using this
  | e :: l, e' :: l', c, h, he => by
    have h0 := h 0
    simp only [List.getElem?_cons_zero, Option.map_some, Option.getD_some] at h0
    have ih : ∀ c, Zh q l c = Zh q l' c := fun c => Zg (fun i => by simpa using h (i + 1)) fun i a b ha hb => he (i + 1) a b (by simpa using ha) (by simpa using hb)
    have one : ∀ (e : Ef) (l : List Ef), e.on q = false -> Zh q (e :: l) c = Zh q l c := fun e l h => by
      cases e with
      | no => rfl
      | wr k x =>
        simp only [Ef.on] at h
        show Zh q l (if q = k then some x else c) = _
        rw [if_neg (fun e => Nat.ne_of_beq_eq_false h e.symm)]
    cases ho : e.on q with
    | false => rw [one e l ho, one e' l' (by rw [<- h0]; exact ho)]; exact ih c
    | true =>
      have := he 0 e e' rfl rfl ho
      subst this
      cases e with
      | no => cases ho
      | wr k x => exact ih _
end Go.Proofs.YtbiboamaigedjaaDoor
namespace Go.Proofs.YtbiboamaigedjaaDoor
open Go.RowKit
set_option linter.unusedVariables false
set_option linter.constructorNameAsVariable false
set_option linter.unusedSimpArgs false

/-- A function of values: what it gives, where G holds. -/
structure PV (P : Program) (G : List Qq) (F : FuncId) (args : List SV) (v : SV) : Prop where
  fn : ∃ fn, P.funcs[F]? = some fn /\ (fn.name == "runtime.NumGoroutine") = false /\ fn.body.isNone = false
  wa : Zt 0 args = true
  wv : v.wf 0 = true
  h : ∀ w L, LL L w -> Hs G L w -> CX P F (Qr Qt args) w L (fun _ : Unit => v) (fun _ => []) (fun _ => True)
theorem PV.mk' {P : Program} {G : List Qq} {F : FuncId} {args : List SV} {v : SV} {fn : Func} (hf : P.funcs[F]? = some fn) (hn : (fn.name == "runtime.NumGoroutine") = false) (hb : fn.body.isNone = false) (wa : Zt 0 args = true) (wv : v.wf 0 = true) (h : ∀ w L, LL L w -> Hs G L w -> CX P F (Qr Qt args) w L (fun _ : Unit => v) (fun _ => []) (fun _ => True)) : PV P G F args v := ⟨⟨fn, hf, hn, hb⟩, wa, wv, h⟩
theorem VH {l : List SV} (h : Zt 0 l = true) (ρ ρ' : Qs) : Qr ρ l = Qr ρ' l := Y0 (fun k hk => absurd hk (Nat.not_lt_zero k)) l h
theorem PV.at {P : Program} {G : List Qq} {F : FuncId} {args : List SV} {v : SV} (h : PV P G F args v) (ρ : Qs) {w : World} {L : List Nat} (hL : LL L w) (hG : Hs G L w) : CX P F (Qr ρ args) w L (fun _ : Unit => v) (fun _ => []) (fun _ => True) := by
  rw [VH h.wa ρ Qt]
  exact h.h w L hL hG
/-- A block that stays, off all that is one's Xq. -/
def fG (B : Nat) (cs : List Value) : Qq := ⟨fun L w => B ∉ L /\ B < w.heap.size /\ w.rangeAt B 0 cs, fun {L L' w w'} h hs hl => ⟨fun hx => by
  rcases hl B hx with h1 | h1
  . exact h.1 h1
  . have := h.2.1; omega, Nat.lt_of_lt_of_le h.2.1 hs.size, Zn h.2.2 hs.agree h.1⟩⟩
/-- What a load of a block that stays gives. -/
structure GL (P : Program) (G : List Qq) (t g : Nat) (v : SV) : Prop where
  wv : v.wf 0 = true
  h : ∀ w L, LL L w -> Hs G L w -> ∀ (ops : Array Oper) (o : Oper) (N : Nat) (fl : Fl), o.op = .load t (.global g) -> Qg ops o fl = some true -> DV P ops o N fl w (v.den Qt)
theorem GL.of {P : Program} {T : TT} (hT : T.ok P = true) {G : List Qq} {t g : Nat} {v : SV} (cs : List SV) (hf : ∀ L w, Hs G L w -> g ∉ L /\ w.rangeAt g 0 (Qd Qt cs)) (hl : Jk T [] [(0, cs)] [] t (.q 0 0) = some (v, [])) (hok : XW cs) (hw : Zt 0 cs = true) (h0 : 0 < XU cs) (wv : v.wf 0 = true) : GL P G t g v :=
  ⟨wv, fun w L hL hG ops o N fl ho hq => by
    have h1 := hf L w hG
    have e : Qd (Qt.setd 0 (g, 0)) cs = Qd Qt cs := QW (fun k hk => absurd hk (Nat.not_lt_zero k)) cs hw
    have hW : WM (Qt.setd 0 (g, 0)) L w [] [(0, cs)] 1 [] w := ⟨fun x hx => (by cases hx), fun x hx => (by cases hx), List.nodup_nil, fun x hx => (by cases hx), Below.refl _ _, fun x hx => (by
      cases hx with
      | head => exact ⟨h1.1, by rw [e]; exact h1.2, hok, h0⟩
      | tail _ hx => cases hx), fun x hx => (by
      cases hx with
      | head => exact Nat.zero_lt_one
      | tail _ hx => cases hx), hL, trivial⟩
    have := (Jj (N := N) hT hW hq ho (show ev fl (.global g) = some ((SV.q 0 0).den (Qt.setd 0 (g, 0))) from by simp only [SV.den]; rfl) hl trivial).2
    have e2 : v.den (Qt.setd 0 (g, 0)) = v.den Qt := XT wv _ _
    unfold Yl at this
    rw [e2] at this
    exact this⟩
/-- A function of values and of what some blocks hold. -/
structure PR (P : Program) (G : List Qq) (F : FuncId) (args : List SV) (mc : SM) (v : SV) : Prop where
  fn : ∃ fn, P.funcs[F]? = some fn /\ (fn.name == "runtime.NumGoroutine") = false /\ fn.body.isNone = false
  wv : v.wf 0 = true
  h : ∀ ρ w, (∃ L, Hs G L w) -> (∀ x ∈ mc, XZ w (ρ.b x.1) (Qd ρ x.2) /\ XW x.2) -> CX P F (Qr ρ args) w [] (fun _ : Unit => v) (fun _ => []) (fun _ => True)
def Qcq (m : SM) : List Nat -> Option SM
  | [] => some []
  | k :: l => match Xm m k with
    | some c => match Qcq m l with
      | some r => some ((k, c) :: r)
      | none => none
    | none => none
theorem UO {m : SM} : ∀ {l : List Nat} {r : SM}, Qcq m l = some r -> ∀ x ∈ r, x.1 ∈ l /\ Xm m x.1 = some x.2
  | [], r, h, x, hx => by cases h; cases hx
  | k :: l, r, h, x, hx => by
    unfold Qcq at h
    split at h
    . rename_i c hk
      split at h
      . rename_i r' hr
        cases h
        cases hx with
        | head => exact ⟨.head _, hk⟩
        | tail _ hx => exact ⟨.tail _ (UO hr x hx).1, (UO hr x hx).2⟩
      . cases h
    . cases h
theorem CX.any {P : Program} {F : FuncId} {args : List Value} {w : World} {L L' : List Nat} {v : SV} (h : CX P F args w L (fun _ : Unit => v) (fun _ => []) (fun _ => True)) : CX P F args w L' (fun _ : Unit => v) (fun _ => []) (fun _ => True) := h
theorem Ku {P : Program} {ops : Array Oper} {o : Oper} {N : Nat} {f : Fl} {w : World} {F : FuncId} {xs : List Operand} {ts : Array TypeId} {vs : List Value} {v : Value} {g : Operand} (ho : o.op = .call { callee := .value g, args := xs.toArray, argTypes := ts }) (hcv : ev f g = some (.func (.func F) #[] #[])) (hx : evl f xs = some vs) (hr : (callFunc F vs.toArray).run P w = .ok (.value v) w) (hw : Qg ops o f = some true) : DV P ops o N f w v := fun a ha => by
  have he := HJ (ha.evl hx)
  have hc' := ha.ev hcv
  refine Qe.pure (Qc ha hw) _ ?_ ⟨rfl, rfl⟩
  unfold execOp
  simp only [ho, resolve, he, hc', Deferred.ofValue, Sem.run_bind, Sem.run_pure, Result.andThen_ok, invoke, Array.empty_append, Array.append_empty]
  rw [hr]
/-- A function without a body, of values. -/
structure PE (P : Program) (F : FuncId) (args : List SV) (v : SV) : Prop where
  wa : Zt 0 args = true
  wv : v.wf 0 = true
  h : ∀ w, (callFunc F (Qr Qt args).toArray).run P w = .ok (.value (v.den Qt)) w
def lkX : List Nat -> Nat -> Bool
  | [], _ => false
  | k :: l, i => match Nat.beq k i with
    | true => true
    | false => lkX l i
/-- The table, with what calls are known to give. -/
def TT.wo (T : TT) (P : Program) (G : List Qq) (pv : List (Nat × SV)) (rk : List (Nat × List Nat) := []) (xk : List Nat := []) : TT := { T with pq := PV P G, pl := GL P G, pv := pv, pr := PR P G, rk := rk, px := PE P, xk := xk }
def lkR : List (Nat × List Nat) -> Nat -> List Nat
  | [], _ => []
  | (k, x) :: l, i => match Nat.beq k i with
    | true => x
    | false => lkR l i
def lkP : List (Nat × SV) -> Nat -> Option SV
  | [], _ => none
  | (k, x) :: l, i => match Nat.beq k i with
    | true => some x
    | false => lkP l i
/-- What an operation yields that writes nothing. -/
def Fs (T : TT) (md : Bool) (f : SF) (m : SM) (d : SD) (acc : List Prop) : Op -> Option (SV × List Prop)
  | .load t x => match ZL f x with
    | some sx => Jk T m d acc t sx
    | none => none
  | .indexAddr t x y => QdH T f acc t x y
  | .index t x y => ixO T f acc t x y
  | .makeFunc fn first caps => QdJ f acc fn first caps
  | .build t ps => Gx T f acc t ps
  | .slice t x lo hi none => Qc7 T f acc t x lo hi
  | .sliceToArrayPointer t x => Qdb T f acc t x
  | .move x => match ZL f x with
    | some v => some (v, acc)
    | none => none
  | .assign x => match ZL f x with
    | some v => some (v, acc)
    | none => none
  | op => G9 T md (fun x => unN (ZL f x)) acc op
def Qa6 (f : SF) : Op -> Option Nat
  | .load _ x => match ZL f x with
    | some sx => VE sx
    | none => none
  | _ => none
theorem Hw {T : TT} {m m' : SM} {d : SD} {acc : List Prop} {t : Nat} {x : SV} (h : ∀ k, VE x = some k -> Xm m k = Xm m' k) : Jk T m d acc t x = Jk T m' d acc t x := by
  have hn : K4 m d x = K4 m' d x := by
    cases x
    case x k o s n => have := h k rfl; simp only [K4, this]
    all_goals rfl
  unfold Jk
  rw [hn]
  have hk : ∀ k, VE (K4 m' d x) = some k -> Xm m k = Xm m' k := fun k e => by
    refine h k ?_
    rw [<- e]
    unfold K4
    split
    . split
      . exact K0.symm
      . rfl
    . split
      . exact K0.symm
      . rfl
    . rfl
  generalize K4 m' d x = y at hk
  cases y
  case p k o => have := hk k rfl; simp only [V9, En, Qal, this]
  case x k o s n => have := hk k rfl; simp only [V9, En, Qal, this]
  all_goals simp only [V9, En, Qal]
theorem Fq {T : TT} {md : Bool} {f : SF} {m m' : SM} {d : SD} {acc : List Prop} {op : Op} (h : ∀ k, Qa6 f op = some k -> Xm m k = Xm m' k) : Fs T md f m d acc op = Fs T md f m' d acc op := by
  cases op
  case load t x =>
    simp only [Fs]
    split
    . rename_i sx hx
      exact Hw fun k hk => h k (by simp only [Qa6, hx]; exact hk)
    . rfl
  case slice t x lo hi mx => cases mx <;> rfl
  all_goals rfl
section
variable {P : Program} {ops : Array Oper} {o : Oper} {N : Nat} {w w0 : World} {ρ : Qs} {T : TT} {acc acc' : List Prop} {L0 : List Nat} {m m' : SM} {d : SD} {n n' : Nat} {Γ : List Qq} {f : SF} {md : Bool}
theorem QcW (hT : T.ok P = true) (hW : WM ρ L0 w0 m d n Γ w) (hw : Qg ops o (Qo ρ f) = some true) {v : SV} (h : Fs T md f m d acc o.op = some (v, acc')) (hc : QK acc') : Yl P ops o N ρ (Qo ρ f) w v := by
  generalize hq : o.op = q at h
  unfold Fs at h
  split at h
  . split at h
    . rename_i sx hx
      exact (Jj hT hW hw hq (Qk hx) h hc).2
    . cases h
  . exact (E1 (N := N) (w := w) hT hw hq h hc).2
  . exact (QbW (N := N) (w := w) hT hw hq h hc).2
  . exact (E3 (P := P) (N := N) (w := w) hw hq h hc).2
  . exact (Kx (N := N) (w := w) hT hw hq h hc).2
  . exact (Ew (N := N) (w := w) hT hw hq h hc).2
  . exact (Ez (N := N) (w := w) hT hw hq h hc).2
  . split at h
    . rename_i v1 hx
      cases h
      exact Gl hq (Qk hx) hw
    . cases h
  . split at h
    . rename_i v1 hx
      cases h
      exact Ud hq (Qk hx) hw
    . cases h
  . rw [<- hq] at h
    exact (U6 (N := N) (w := w) hT (fun hx => U0 hx) hw h hc).2
end
abbrev VR := List (Nat × Option Nat × SV)
def Yi : VR -> Nat -> Option (Option Nat × SV)
  | [], _ => none
  | (k, x) :: l, i => match Nat.beq k i with
    | true => some x
    | false => Yi l i
def Yh (V : VR) : List Nat -> SF -> Option SF
  | [], f => some f
  | i :: l, f => match Yi V i with
    | some (some t, v) => Yh V l ((t, v) :: f)
    | some (none, _) => Yh V l f
    | none => none
def Zo : List (Nat × Nat) -> Nat -> Nat
  | [], _ => 0
  | (k, x) :: l, i => match Nat.beq k i with
    | true => x
    | false => Zo l i
def Zr (A : List (Nat × Nat)) : List Nat -> Nat -> Nat
  | [], a => a
  | i :: l, a => Zr A l (Nat.lor a (Nat.lor (Nat.pow 2 i) (Zo A i)))
def tb (m i : Nat) : Bool := Nat.beq (Nat.mod (Nat.div m (Nat.pow 2 i)) 2) 1
theorem GT (m i : Nat) : tb m i = Nat.testBit m i := by
  rw [Nat.testBit_eq_decide_div_mod_eq]
  unfold tb
  show Nat.beq (m / 2 ^ i % 2) 1 = _
  by_cases h : m / 2 ^ i % 2 = 1
  . rw [h]; rfl
  . rw [QZ h, decide_eq_false h]
theorem Ev (i : Nat) : tb 0 i = false := by rw [GT]; simp
theorem Qek (a b i : Nat) : tb (Nat.lor a b) i = (tb a i || tb b i) := by
  rw [GT, GT, GT]; exact Nat.testBit_or a b i
theorem QeD (a i : Nat) : tb (Nat.pow 2 a) i = decide (a = i) := by
  rw [GT]; exact Nat.testBit_two_pow
theorem JK {A : List (Nat × Nat)} {q : Nat} : ∀ {l : List Nat} {a : Nat}, tb (Zr A l a) q = true -> tb a q = true \/ ∃ i ∈ l, i = q \/ tb (Zo A i) q = true
  | [], a, h => .inl h
  | i :: l, a, h => by
    unfold Zr at h
    rcases JK h with h1 | ⟨k, hk, h1⟩
    . rw [Qek, Qek, QeD, Bool.or_eq_true, Bool.or_eq_true, decide_eq_true_eq] at h1
      rcases h1 with h1 | h1 | h1
      . exact .inl h1
      . exact .inr ⟨i, .head _, .inl h1⟩
      . exact .inr ⟨i, .head _, .inr h1⟩
    . exact .inr ⟨k, .tail _ hk, h1⟩
theorem Eb {T : TT} {f : SF} {m m' : SM} {acc : List Prop} {t : Nat} {x y : Operand} {r : Nat × Cl × Nat × Nat × List Prop} (hr : Gr T f m' acc t x y = some r) (h : ∀ k, k ∈ [r.1, r.2.2.2.1] -> Xm m k = Xm m' k) : Gr T f m acc t x y = Gr T f m' acc t x y := by
  have hr' := hr
  unfold Gr at hr ⊢
  split at hr
  . cases hr
  . split at hr
    . cases hr
    . split at hr
      . cases hr
      . split at hr
        . cases hr
        . split at hr
          . rename_i k1 o1 l c1 hx
            split at hr
            . rename_i k2 o2 l' c2 hy
              split at hr
              . rename_i K zs n hk1
                split at hr
                . rename_i K' ys n' hk2
                  simp only [Option.some.injEq] at hr
                  subst hr
                  have e1 := h k1 (.head _)
                  have e2 := h k2 (.tail _ (.head _))
                  rw [e1, e2]
                  simp only [hk1, hk2]
                . cases hr
              . cases hr
            . cases hr
          . cases hr
def Qdr : Option Nat -> List Nat
  | none => []
  | some q => [q]
theorem Qbw {x : Option Nat} {q : Nat} : q ∈ Qdr x ↔ x = some q := by
  cases x with
  | none => simp [Qdr]
  | some y => simp [Qdr]; exact eq_comm
def drS (T : TT) (md : Bool) (f : SF) (m : SM) (d : SD) (n k j : Nat) (sv : SV) (o : Oper) : Option (SV × Ef × List Prop × List Nat) := match Nat.beq k j with
  | true => some (sv, .no, [], [])
  | false => match lkP T.pv k with
    | some v => match o.op with
      | .call { callee := .value g, args := ⟨xs⟩, argTypes := _ } => match ZL f g with
        | some (.f F caps) => match Ge f xs with
          | some vs => match lkX T.xk k with
            | true => match caps with
              | [] => some (v, .no, [T.px F vs v], [])
              | _ => none
            | false => match lkR T.rk k with
              | [] => some (v, .no, [T.pq F (vs ++ caps) v], [])
              | q :: l => match Qcq m (q :: l) with
                | some mc => some (v, .no, [T.pr F (vs ++ caps) mc v], q :: l)
                | none => none
          | none => none
        | _ => none
      | .load t (.global g) => some (v, .no, [T.pl t g v], [])
      | _ => none
    | none => match o.op with
      | .store t px pv => match o.dst with
        | some _ => none
        | none => match ZL f px with
          | some sx => match VE sx with
            | some q => match Xm m q with
              | some c => match ZL f pv with
                | some v => match FA T [] t sx v c with
                  | some (c', cs) => some (.u, .wr q c', cs, [q])
                  | none => none
                | none => none
              | none => none
            | none => none
          | none => none
      | .box _ x => match ZL f x with
        | some sx => match Z9 [] sx with
          | some (c, cs) => some (.p (Nat.add n k) 0, .wr (Nat.add n k) c, cs, [])
          | none => none
        | none => none
      | .alloc t => match T.get t with
        | some i => match i.z with
          | some c => some (.p (Nat.add n k) 0, .wr (Nat.add n k) c, [], [])
          | none => none
        | none => none
      | .buildSlice t len ⟨ps⟩ => match QdB T f [] t len ps with
        | some (c, cs) => some (.y (Nat.add n k) 0 len len, .wr (Nat.add n k) c, cs, [])
        | none => none
      | .call { callee := .builtin .copy, args := ⟨[x, y]⟩, argTypes := ⟨[t, _]⟩ } => match Gr T f m [] t x y with
        | some (q, c', z, q', cs) => some (.i .i64 (z : Int), .wr q c', cs, [q, q'])
        | none => none
      | op => match Fs T md f m d [] op with
        | some (v, cs) => some (v, .no, cs, Qdr (Qa6 f op))
        | none => none
def QfS {α : Type} (e : Ef) (m : SM) (K : SM -> α) : α := match e with
  | .no => K m
  | .wr k c => QaP k c m K
theorem Ex {α : Type} {e : Ef} {m : SM} {K : SM -> α} : QfS e m K = K (QE [e] m) := by
  cases e with
  | no => rfl
  | wr k c => exact KP
theorem Jq {e : Ef} {l : List Ef} {m : SM} : QE (e :: l) m = QE l (QE [e] m) := by cases e <;> rfl
def okD (N : Nat) (o : Oper) : Bool := match o.dst with
  | some t => Nat.blt t N
  | none => Qfb o.op
def HV : Nat -> List Nat -> List (Nat × Nat) -> List (Nat × Nat)
  | _, [], l => l
  | k, q :: r, l => (k, q) :: HV k r l
/-- An operation, where it is known whether it runs. -/
def drG (T : TT) (md : Bool) (ops : Array Oper) (f : SF) (m : SM) (d : SD) (n k j : Nat) (sv : SV) (o : Oper) : Option (SV × Ef × List Prop × List Nat) := match Vk ops o f with
  | some .on => drS T md f m d n k j sv o
  | some .off => match Nat.beq k j with
    | true => none
    | false => some (.u, .no, [], [])
  | _ => none
def drx (T : TT) (md : Bool) (N : Nat) (d : SD) (n j : Nat) (sv : SV) (f : SF) (ops : Array Oper) : List Oper -> Nat -> VR -> SM -> List (Nat × Nat) -> Option (VR × List Ef × List (Nat × Nat) × List Prop × List Prop × List (Nat × Nat))
  | [], _, V, _, A => some (V, [], A, [], [], [])
  | o :: os, k, V, m, A => match true with
    | false => none
    | true => match Yh V (Ql .any o) f with
      | none => none
      | some fk => match drG T md ops fk m d n k j sv o with
        | none => none
        | some (v, e, cs, fp) => match okD N o with
          | false => none
          | true => Ua (Zr A (Ql .any o) 0) fun a => QfS e m fun m' => match drx T md N d n j sv f ops os (Nat.succ k) ((k, o.dst, v) :: V) m' ((k, a) :: A) with
            | none => none
            | some (Vf, es, Af, cA, cB, fps) => match tb a j with
              | true => some (Vf, e :: es, Af, cA, QK cs :: cB, HV k fp fps)
              | false => some (Vf, e :: es, Af, QK cs :: cA, cB, HV k fp fps)
/-- What is known of the operation at a place. -/
structure Sp (T : TT) (md : Bool) (N : Nat) (d : SD) (n j : Nat) (sv : SV) (f : SF) (ops : Array Oper) (V : VR) (E : List Ef) (A : List (Nat × Nat)) (cA cB : List Prop) (fps : List (Nat × Nat)) (m : SM) (k i : Nat) (o : Oper) : Prop where
  sp : ∃ fk v e cs fp, True /\ Yh V (Ql .any o) f = some fk /\ Yi V (k + i) = some (o.dst, v) /\ E[i]? = some e /\ drG T md ops fk (QE (E.take i) m) d n (k + i) j sv o = some (v, e, cs, fp) /\ okD N o = true /\ Zo A (k + i) = Zr A (Ql .any o) 0 /\ (tb (Zo A (k + i)) j = false -> QK cA -> QK cs) /\ (tb (Zo A (k + i)) j = true -> QK cB -> QK cs) /\ ∀ q, q ∈ fp -> (k + i, q) ∈ fps
theorem X9 {k : Nat} {l : List (Nat × Nat)} : ∀ {fp : List Nat}, (∀ x ∈ l, x ∈ HV k fp l) /\ ∀ q, q ∈ fp -> (k, q) ∈ HV k fp l
  | [] => ⟨fun x hx => hx, fun q h => by cases h⟩
  | p :: r => ⟨fun x hx => .tail _ (X9.1 x hx), fun q h => by
    cases h with
    | head => exact .head _
    | tail _ h => exact .tail _ (X9.2 q h)⟩
theorem EV {V : VR} {k i : Nat} {x : Option Nat × SV} (h : i ≠ k) : Yi ((k, x) :: V) i = Yi V i := by
  simp only [Yi, QZ fun e => h e.symm]
theorem Jw {T : TT} {md : Bool} {N : Nat} {d : SD} {n j : Nat} {sv : SV} {f : SF} {ops : Array Oper} : ∀ {os : List Oper} {k : Nat} {V Vf : VR} {m : SM} {A Af : List (Nat × Nat)} {es : List Ef} {cA cB : List Prop} {fps : List (Nat × Nat)}, drx T md N d n j sv f ops os k V m A = some (Vf, es, Af, cA, cB, fps) -> (∀ i, i < k -> Yi Vf i = Yi V i /\ Zo Af i = Zo A i) /\ es.length = os.length
  | [], k, V, Vf, m, A, Af, es, cA, cB, fps, h => by
    simp only [drx, Option.some.injEq, Prod.mk.injEq] at h
    obtain ⟨rfl, rfl, rfl, _⟩ := h
    exact ⟨fun i _ => ⟨rfl, rfl⟩, rfl⟩
  | o :: os, k, V, Vf, m, A, Af, es, cA, cB, fps, h => by
    unfold drx at h
    split at h
    . rename_i hbad; cases hbad
    . split at h
      . cases h
      . split at h
        . cases h
        . split at h
          . cases h
          . rw [XO, Ex] at h
            split at h
            . cases h
            . rename_i hr
              obtain ⟨g1, g2⟩ := Jw hr
              have key : ∀ i, i < k -> Yi Vf i = Yi V i /\ Zo Af i = Zo A i -> Yi Vf i = Yi V i /\ Zo Af i = Zo A i := fun _ _ h => h
              split at h <;>
              . simp only [Option.some.injEq, Prod.mk.injEq] at h
                obtain ⟨rfl, rfl, rfl, _⟩ := h
                refine ⟨fun i hi => ?_, by simp only [List.length_cons, g2]⟩
                have := g1 i (Nat.lt_succ_of_lt hi)
                rw [EV (by omega)] at this
                simp only [Zo, QZ (show k ≠ i by omega)] at this
                exact this
theorem Jx {V V' : VR} : ∀ {l : List Nat} {f : SF}, (∀ i ∈ l, Yi V' i = Yi V i) -> Yh V' l f = Yh V l f
  | [], f, _ => rfl
  | i :: l, f, h => by
    have h0 := h i (.head _)
    have ih : ∀ f, Yh V' l f = Yh V l f := fun f => Jx fun i hi => h i (.tail _ hi)
    unfold Yh
    rw [h0]
    split <;> first | exact ih _ | rfl
theorem Uu {A A' : List (Nat × Nat)} : ∀ {l : List Nat} {a : Nat}, (∀ i ∈ l, Zo A' i = Zo A i) -> Zr A' l a = Zr A l a
  | [], a, _ => rfl
  | i :: l, a, h => by
    unfold Zr
    rw [h i (.head _)]
    exact Uu fun i hi => h i (.tail _ hi)
theorem Qcj {T : TT} {md : Bool} {N : Nat} {d : SD} {n j : Nat} {sv : SV} {f : SF} {ops : Array Oper} : ∀ {os : List Oper} {k : Nat} {V Vf : VR} {m : SM} {A Af : List (Nat × Nat)} {es : List Ef} {cA cB : List Prop} {fps : List (Nat × Nat)}, drx T md N d n j sv f ops os k V m A = some (Vf, es, Af, cA, cB, fps) -> (∀ i o, os[i]? = some o -> ∀ q ∈ Ql .any o, q < k + i) -> ∀ i o, os[i]? = some o -> Sp T md N d n j sv f ops Vf es Af cA cB fps m k i o
  | [], k, V, Vf, m, A, Af, es, cA, cB, fps, h, _, i, o, ho => by simp at ho
  | o :: os, k, V, Vf, m, A, Af, es, cA, cB, fps, h, hd, i, o', ho => by
    have h' := h
    unfold drx at h
    split at h
    . rename_i hbad; cases hbad
    . have hg : True := trivial
      split at h
      . cases h
      . rename_i fk hfk
        split at h
        . cases h
        . rename_i v e cs fp hs
          split at h
          . cases h
          . rename_i hok
            rw [XO, Ex] at h
            split at h
            . cases h
            . rename_i Vf1 es1 Af1 cA1 cB1 fps1 hr
              have hdk : ∀ q ∈ Ql .any o, q < k := fun q hq => by have := hd 0 o rfl q hq; omega
              obtain ⟨g1, g2⟩ := Jw hr
              have hk := g1 k (Nat.lt_succ_self k)
              have hlow : ∀ q, q < k -> Yi Vf1 q = Yi V q /\ Zo Af1 q = Zo A q := fun q hq => by
                have := g1 q (Nat.lt_succ_of_lt hq)
                rw [EV (by omega)] at this
                simp only [Zo, QZ (show k ≠ q by omega)] at this
                exact this
              have ha : Zo Af1 k = Zr Af1 (Ql .any o) 0 := by
                rw [hk.2, Uu (A := A) fun q hq => (hlow q (hdk q hq)).2]
                simp only [Zo, Xf]
              have hv : Yi Vf1 k = some (o.dst, v) := by rw [hk.1]; simp only [Yi, Xf]
              have hf : Yh Vf1 (Ql .any o) f = some fk := by rw [Jx (V := V) fun q hq => (hlow q (hdk q hq)).1]; exact hfk
              have hbit : tb (Zo Af1 k) j = tb (Zr A (Ql .any o) 0) j := by rw [hk.2]; simp only [Zo, Xf]
              have ih := fun i o ho => (Qcj hr (fun i o ho q hq => by have := hd (i + 1) o (by simpa using ho) q hq; omega) i o ho).sp
              split at h
              . rename_i ht
                simp only [Option.some.injEq, Prod.mk.injEq] at h
                obtain ⟨rfl, rfl, rfl, rfl, rfl, rfl⟩ := h
                cases i with
                | zero =>
                  simp only [List.getElem?_cons_zero, Option.some.injEq] at ho
                  subst ho
                  refine ⟨⟨fk, v, e, cs, fp, ?_⟩⟩
                  rw [Nat.add_zero]
                  exact ⟨hg, hf, hv, rfl, hs, hok, ha, (fun h0 => by rw [hbit, ht] at h0; cases h0), (fun _ hc => hc.1), X9.2⟩
                | succ i =>
                  obtain ⟨fk', v', e', cs', fp', q1, q2, q3, q4, q5, q6, q7, q8, q9, q10⟩ := ih i o' (by simpa using ho)
                  rw [show Nat.succ k + i = k + (i + 1) by omega] at q3 q5 q7 q8 q9 q10
                  exact ⟨⟨fk', v', e', cs', fp', q1, q2, q3, by simpa using q4, by rw [List.take_succ_cons, Jq]; exact q5, q6, q7, q8, (fun hb hc => q9 hb hc.2), fun q hq => X9.1 _ (q10 q hq)⟩⟩
              . rename_i ht
                simp only [Option.some.injEq, Prod.mk.injEq] at h
                obtain ⟨rfl, rfl, rfl, rfl, rfl, rfl⟩ := h
                cases i with
                | zero =>
                  simp only [List.getElem?_cons_zero, Option.some.injEq] at ho
                  subst ho
                  refine ⟨⟨fk, v, e, cs, fp, ?_⟩⟩
                  rw [Nat.add_zero]
                  exact ⟨hg, hf, hv, rfl, hs, hok, ha, (fun _ hc => hc.1), (fun h0 => by rw [hbit, ht] at h0; cases h0), X9.2⟩
                | succ i =>
                  obtain ⟨fk', v', e', cs', fp', q1, q2, q3, q4, q5, q6, q7, q8, q9, q10⟩ := ih i o' (by simpa using ho)
                  rw [show Nat.succ k + i = k + (i + 1) by omega] at q3 q5 q7 q8 q9 q10
                  exact ⟨⟨fk', v', e', cs', fp', q1, q2, q3, by simpa using q4, by rw [List.take_succ_cons, Jq]; exact q5, q6, q7, (fun hb hc => q8 hb hc.2), q9, fun q hq => X9.1 _ (q10 q hq)⟩⟩
end Go.Proofs.YtbiboamaigedjaaDoor
namespace Go.Proofs.YtbiboamaigedjaaDoor
open Go.RowKit
set_option linter.unusedVariables false
set_option linter.constructorNameAsVariable false
set_option linter.unusedSimpArgs false

def Ef.av (q : Nat) : Ef -> Bool
  | .no => true
  | .wr _ c => GC q c
def Gu (A : List (Nat × Nat)) (k q : Nat) : List Ef -> Nat -> Bool
  | [], _ => true
  | .no :: l, i => Gu A k q l (Nat.succ i)
  | .wr q' _ :: l, i => match Nat.beq q' q with
    | true => match Nat.beq i k with
      | true => Gu A k q l (Nat.succ i)
      | false => match tb (Zo A k) i with
        | true => Gu A k q l (Nat.succ i)
        | false => match tb (Zo A i) k with
          | true => Gu A k q l (Nat.succ i)
          | false => false
    | false => Gu A k q l (Nat.succ i)
def HY (A : List (Nat × Nat)) (E : List Ef) : List (Nat × Nat) -> Bool
  | [] => true
  | (k, q) :: l => match Gu A k q E 0 with
    | true => HY A E l
    | false => false
/-- What does not follow on k does not name its new block. -/
def HZ (A : List (Nat × Nat)) (V : VR) (k q : Nat) : List Ef -> Nat -> Bool
  | [], _ => true
  | e :: l, i => match Nat.beq i k with
    | true => HZ A V k q l (Nat.succ i)
    | false => match tb (Zo A i) k with
      | true => HZ A V k q l (Nat.succ i)
      | false => match e.on q with
        | true => false
        | false => match e.av q with
          | true => match Yi V i with
            | some (_, v) => match v.av q with
              | true => HZ A V k q l (Nat.succ i)
              | false => false
            | none => false
          | false => false
def Uy (A : List (Nat × Nat)) (V : VR) (E : List Ef) (n : Nat) : List Ef -> Nat -> Bool
  | [], _ => true
  | .no :: l, k => Uy A V E n l (Nat.succ k)
  | .wr q c :: l, k => match Nat.beq q (Nat.add n k) with
    | true => match GC q c with
      | true => match HZ A V k q E 0 with
        | true => Uy A V E n l (Nat.succ k)
        | false => false
      | false => false
    | false => Uy A V E n l (Nat.succ k)
theorem Gt {A : List (Nat × Nat)} {k q : Nat} : ∀ {l : List Ef} {s : Nat}, Gu A k q l s = true -> ∀ (i : Nat) (e : Ef), l[i]? = some e -> e.on q = true -> s + i = k \/ tb (Zo A k) (s + i) = true \/ tb (Zo A (s + i)) k = true
  | [], s, _, i, e, h, _ => by simp at h
  | .no :: l, s, hc, i, e, h, ho => by
    cases i with
    | zero => simp at h; subst h; cases ho
    | succ i =>
      have := Gt (l := l) hc i e (by simpa using h) ho
      rwa [show Nat.succ s + i = s + (i + 1) by omega] at this
  | .wr q' c :: l, s, hc, i, e, h, ho => by
    unfold Gu at hc
    have rest : Gu A k q l (Nat.succ s) = true := by
      split at hc
      . split at hc
        . exact hc
        . split at hc
          . exact hc
          . split at hc
            . exact hc
            . cases hc
      . exact hc
    cases i with
    | zero =>
      simp at h
      subst h
      simp only [Ef.on] at ho
      rw [ho] at hc
      simp only at hc
      rw [Nat.add_zero]
      split at hc
      . rename_i hb; exact .inl (Nat.eq_of_beq_eq_true hb)
      . split at hc
        . rename_i hb; exact .inr (.inl hb)
        . split at hc
          . rename_i hb; exact .inr (.inr hb)
          . cases hc
    | succ i =>
      have := Gt (l := l) rest i e (by simpa using h) ho
      rwa [show Nat.succ s + i = s + (i + 1) by omega] at this
theorem Gs {A : List (Nat × Nat)} {E : List Ef} : ∀ {l : List (Nat × Nat)}, HY A E l = true -> ∀ k q, (k, q) ∈ l -> ∀ (i : Nat) (e : Ef), E[i]? = some e -> e.on q = true -> i = k \/ tb (Zo A k) i = true \/ tb (Zo A i) k = true
  | [], _, k, q, h => by cases h
  | (k', q') :: l, hc, k, q, h => by
    unfold HY at hc
    split at hc
    . rename_i h1
      cases h with
      | head => intro i e he ho; have := Gt h1 i e he ho; rwa [Nat.zero_add] at this
      | tail _ h => exact Gs hc k q h
    . cases hc
theorem Gv {A : List (Nat × Nat)} {V : VR} {k q : Nat} : ∀ {l : List Ef} {s : Nat}, HZ A V k q l s = true -> ∀ (i : Nat) (e : Ef), l[i]? = some e -> s + i ≠ k -> tb (Zo A (s + i)) k = false -> e.on q = false /\ e.av q = true /\ ∀ d v, Yi V (s + i) = some (d, v) -> v.av q = true
  | [], s, _, i, e, h, _, _ => by simp at h
  | e' :: l, s, hc, i, e, h, hne, hb => by
    unfold HZ at hc
    have rest : HZ A V k q l (Nat.succ s) = true := by
      split at hc
      . exact hc
      . split at hc
        . exact hc
        . split at hc
          . cases hc
          . split at hc
            . split at hc
              . split at hc
                . exact hc
                . cases hc
              . cases hc
            . cases hc
    cases i with
    | zero =>
      simp at h
      subst h
      rw [Nat.add_zero] at hne hb ⊢
      rw [QZ hne] at hc
      simp only at hc
      rw [hb] at hc
      simp only at hc
      split at hc
      . cases hc
      . rename_i h0
        split at hc
        . rename_i h1
          split at hc
          . rename_i d0 v0 hl
            split at hc
            . rename_i h2
              refine ⟨h0, h1, fun d v hv => ?_⟩
              rw [hl] at hv
              cases hv
              exact h2
            . cases hc
          . cases hc
        . cases hc
    | succ i =>
      have := Gv (l := l) rest i e (by simpa using h) (by omega) (by rw [show Nat.succ s + i = s + (i + 1) by omega]; exact hb)
      rwa [show Nat.succ s + i = s + (i + 1) by omega] at this
theorem UP {A : List (Nat × Nat)} {V : VR} {E : List Ef} {n : Nat} : ∀ {l : List Ef} {s : Nat}, Uy A V E n l s = true -> ∀ (k : Nat) (c : Cl), l[k]? = some (.wr (n + (s + k)) c) -> GC (n + (s + k)) c = true /\ HZ A V (s + k) (n + (s + k)) E 0 = true
  | [], s, _, k, c, h => by simp at h
  | e :: l, s, hc, k, c, h => by
    cases k with
    | zero =>
      simp at h
      subst h
      unfold Uy at hc
      have : Nat.beq (n + s) (Nat.add n s) = true := Xf _
      rw [this] at hc
      simp only at hc
      rw [Nat.add_zero]
      split at hc
      . rename_i h1
        split at hc
        . rename_i h2; exact ⟨h1, h2⟩
        . cases hc
      . cases hc
    | succ k =>
      have rest : Uy A V E n l (Nat.succ s) = true := by
        cases e with
        | no => exact hc
        | wr q c' =>
          unfold Uy at hc
          split at hc
          . split at hc
            . split at hc
              . exact hc
              . cases hc
            . cases hc
          . exact hc
      have := UP (l := l) rest k c (by rw [show Nat.succ s + k = s + (k + 1) by omega]; simpa using h)
      rwa [show Nat.succ s + k = s + (k + 1) by omega] at this
/-- A new block of a number that nothing names yet. -/
theorem WM.newB {ρ : Qs} {L0 : List Nat} {w0 w w' : World} {m : SM} {d : SD} {n n' q : Nat} {Γ : List Qq} (h : WM ρ L0 w0 m d n' Γ w) (hq : n <= q) (hqn : q < n') (hm : ∀ x ∈ m, GC q x.2 = true) (hk : Xm m q = none) (hd : JM n d = true) {c : Cl} (hc : XW c) (hcw : GC q c = true) {B : Nat} (hB : w.heap.size <= B) (hb : Below w.heap.size w w') (hbk : XZ w' B (Qd ρ c)) :
    WM (ρ.setb q B) L0 w0 ((q, c) :: m) d n' Γ w' := by
  have hbut : Qs.but q ρ (ρ.setb q B) := fun j hj => ⟨by simp only [Qs.setb]; rw [if_neg hj], rfl⟩
  have hup : Qs.upto n ρ (ρ.setb q B) := fun j hj => hbut j (by omega)
  have hne : ∀ x ∈ m, x.1 ≠ q := fun x hx e => by
    have := XS (Xi h.nod) (k := x.1) (c := x.2) hx
    rw [e, hk] at this
    cases this
  have h1 := h.below hb
  have hbs := h.bel.size
  have e1 : (m.map fun x => (ρ.setb q B).b x.1) = m.map fun x => ρ.b x.1 := List.map_congr_left fun x hx => ((hbut x.1 (hne x hx)).1).symm
  have hown : Xq (ρ.setb q B) ((q, c) :: m) L0 = B :: Xq ρ m L0 := by
    unfold Xq
    rw [List.map_cons, e1]
    simp [Qs.setb_at]
  refine ⟨fun x hx => ?_, fun x hx => ?_, ?_, fun x hx => ?_, h1.bel, fun x hx => ?_, h.dky, h1.ll, ?_⟩
  . cases hx with
    | head => rw [Qs.setb_at, <- VI hbut c hcw]; exact ⟨hbk, hc⟩
    | tail _ hx => rw [<- (hbut x.1 (hne x hx)).1, <- VI hbut x.2 (hm x hx)]; exact h1.mem x hx
  . cases hx with
    | head => exact hqn
    | tail _ hx => exact h.key x hx
  . rw [List.map_cons, List.nodup_cons, e1]
    refine ⟨fun hx => ?_, h.nod⟩
    rw [Qs.setb_at] at hx
    obtain ⟨y, hy, he⟩ := List.mem_map.1 hx
    have := (h.mem y hy).1.lt
    omega
  . cases hx with
    | head => rw [Qs.setb_at]; omega
    | tail _ hx => rw [<- (hbut x.1 (hne x hx)).1]; exact h1.low x hx
  . obtain ⟨g1, g2⟩ := h1.dat x hx
    have hxn := KD hd x hx
    rw [hown, <- (hup x.1 hxn.1).2, <- QW hup x.2 hxn.2]
    refine ⟨?_, g2⟩
    simp only [List.mem_cons, not_or]
    refine ⟨?_, g1⟩
    obtain ⟨_, g3, g4, g5⟩ := h.dat x hx
    have := Zc g3 (by rw [QC _ g4]; exact g5)
    omega
  . rw [hown]
    refine h.hs.stp (.of_below hb) fun x hx => ?_
    cases hx with
    | head => exact .inr hB
    | tail _ hx => exact .inl hx
theorem Jl {q : Nat} {c : Cl} : ∀ {l : List Ef} {k : Nat} {x : Option Cl}, l[k]? = some (.wr q c) -> (∀ (i : Nat) (e : Ef), l[i]? = some e -> k < i -> e.on q = false) -> Zh q l x = some c
  | [], k, x, h, _ => by simp at h
  | e :: l, 0, x, h, ho => by
    simp at h
    subst h
    show Zh q l (if q = q then some c else x) = some c
    rw [if_pos rfl]
    exact X7 fun e he => by
      obtain ⟨i, hi⟩ := List.mem_iff_getElem?.1 he
      exact ho (i + 1) e (by simpa using hi) (by omega)
  | e :: l, k + 1, x, h, ho => by
    have ih := fun x => Jl (l := l) (k := k) (x := x) (c := c) (by simpa using h) fun i e hi hk => ho (i + 1) e (by simpa using hi) (by omega)
    cases e with
    | no => exact ih x
    | wr k' c' => exact ih _
end Go.Proofs.YtbiboamaigedjaaDoor
namespace Go.Proofs.YtbiboamaigedjaaDoor
open Go.RowKit
set_option linter.unusedVariables false
set_option linter.constructorNameAsVariable false
set_option linter.unusedSimpArgs false

/-- What has run is closed. -/
def Cl0 (os : List Oper) (L : Nat -> Bool) : Prop := ∀ (k : Nat) (o : Oper), os[k]? = some o -> L k = true -> ∀ q ∈ Ql .any o, L q = true
section
variable {os : List Oper} {A : List (Nat × Nat)} {L : Nat -> Bool}
theorem QcI (hA : ∀ (k : Nat) (o : Oper), os[k]? = some o -> Zo A k = Zr A (Ql .any o) 0) (hd : ∀ (k : Nat) (o : Oper), os[k]? = some o -> ∀ q ∈ Ql .any o, q < k) : ∀ (k : Nat) (o : Oper), os[k]? = some o -> ∀ i, tb (Zo A k) i = true -> i < k := by
  intro k
  induction k using Nat.strongRecOn with
  | _ k ih =>
    intro o ho i hi
    rw [hA k o ho] at hi
    rcases JK hi with h | ⟨q, hq, h⟩
    . rw [Ev] at h; cases h
    . have hqk := hd k o ho q hq
      rcases h with h | h
      . omega
      . have hq2 : q < os.length := by have := (List.getElem?_eq_some_iff.1 ho).1; omega
        have := ih q hqk _ (List.getElem?_eq_getElem hq2) i h
        omega
theorem Uj (hA : ∀ (k : Nat) (o : Oper), os[k]? = some o -> Zo A k = Zr A (Ql .any o) 0) (hd : ∀ (k : Nat) (o : Oper), os[k]? = some o -> ∀ q ∈ Ql .any o, q < k) (hL : Cl0 os L) : ∀ (k : Nat) (o : Oper), os[k]? = some o -> (∀ q ∈ Ql .any o, L q = true) -> ∀ i, tb (Zo A k) i = true -> L i = true := by
  intro k
  induction k using Nat.strongRecOn with
  | _ k ih =>
    intro o ho hdl i hi
    rw [hA k o ho] at hi
    rcases JK hi with h | ⟨q, hq, h⟩
    . rw [Ev] at h; cases h
    . rcases h with h | h
      . subst h; exact hdl q hq
      . have hqk := hd k o ho q hq
        have hq2 : q < os.length := by have := (List.getElem?_eq_some_iff.1 ho).1; omega
        exact ih q hqk _ (List.getElem?_eq_getElem hq2) (hL q _ (List.getElem?_eq_getElem hq2) (hdl q hq)) i h
end
/-- A drawn region, its call (the operation j, or none) by what it gives. -/
structure Dw (c : Cx) (md : Bool) (os : List Oper) (f : SF) (m : SM) (d : SD) (n : Nat) (Γ : List Qq) (α : Type) (j : Nat) (sv : α -> SV) (fs : α -> List Qq) (pr : α -> Prop) (V : α -> VR) (E : α -> List Ef) (A : List (Nat × Nat)) (cA : List Prop) (cB : α -> List Prop) (fps : List (Nat × Nat)) (pv : List (Nat × SV)) (G : List Qq) (rk : List (Nat × List Nat)) (xk : List Nat) : Prop where
  hb : JQ .any os.toArray = true
  hx : ∀ x, drx (c.T.wo c.P G pv rk xk) md c.N d n j (sv x) f os.toArray os 0 [] m [] = some (V x, E x, A, cA, cB x, fps)
  ho : ∀ x, HY A (E x) fps = true
  hn : ∀ x, Uy A (V x) (E x) n (E x) 0 = true
  hi : ∀ x x' i, tb (Zo A i) j = false -> i ≠ j -> Yi (V x) i = Yi (V x') i /\ (E x)[i]? = (E x')[i]?
  hA : QK cA
  hB : ∀ x, pr x -> QK (cB x)
  wf : ∀ x, (sv x).wf 0 = true
  wff : Dy n f = true
  wfm : JW n m = true
  wfd : JM n d = true
  hj : ∀ o, os[j]? = some o -> ∀ x0 fk, Yh (V x0) (Ql .any o) f = some fk -> ∀ ρ W L', LL L' W -> Hs Γ L' W -> DR c.P os.toArray o c.N (Qo ρ fk) W fun v W' => ∃ x, v = (sv x).den Qt /\ Hs (fs x) L' W' /\ pr x /\ Below W.heap.size W W'
  hG : ∀ L' W, Hs Γ L' W -> Hs G L' W
section
variable {c : Cx} {md : Bool} {os : List Oper} {f : SF} {m : SM} {d : SD} {n : Nat} {Γ : List Qq} {α : Type} {j : Nat} {sv : α -> SV} {fs : α -> List Qq} {pr : α -> Prop} {V : α -> VR} {E : α -> List Ef} {A : List (Nat × Nat)} {cA : List Prop} {cB : α -> List Prop} {fps : List (Nat × Nat)} {pv : List (Nat × SV)} {G : List Qq} {rk : List (Nat × List Nat)} {xk : List Nat}
/-- What holds, of what has run. -/
def DG (c : Cx) (os : List Oper) (f : SF) (m : SM) (d : SD) (n : Nat) (Γ : List Qq) (j : Nat) (fs : α -> List Qq) (pr : α -> Prop) (V : α -> VR) (E : α -> List Ef) (ρ0 : Qs) (L : Nat -> Bool) (g : Nat -> Value) (W : World) : Prop :=
  ∃ ρ x, Qo ρ f = Qo ρ0 f /\ (∀ i t v, L i = true -> Yi (V x) i = some (some t, v) -> g i = v.den ρ) /\ (L j = true -> pr x) /\ Cl0 os L /\ WM ρ c.L0 c.w0 (QE (XM L 0 (E x)) m) d (n + os.length) (Γ ++ bif L j then fs x else []) W
theorem Dw.dep (h : Dw c md os f m d n Γ α j sv fs pr V E A cA cB fps pv G rk xk) : ∀ (k : Nat) (o : Oper), os[k]? = some o -> ∀ q ∈ Ql .any o, q < k := fun k o ho q hq => (YS h.hb (i := k) (o := o) (by simpa using ho)).2.1 q hq
theorem Dw.sp (h : Dw c md os f m d n Γ α j sv fs pr V E A cA cB fps pv G rk xk) (x : α) {k : Nat} {o : Oper} (ho : os[k]? = some o) : ∃ fk v e cs fp, True /\ Yh (V x) (Ql .any o) f = some fk /\ Yi (V x) k = some (o.dst, v) /\ (E x)[k]? = some e /\ drG (c.T.wo c.P G pv rk xk) md os.toArray fk (QE ((E x).take k) m) d n k j (sv x) o = some (v, e, cs, fp) /\ okD c.N o = true /\ Zo A k = Zr A (Ql .any o) 0 /\ (tb (Zo A k) j = false -> QK cA -> QK cs) /\ (tb (Zo A k) j = true -> QK (cB x) -> QK cs) /\ ∀ q, q ∈ fp -> (k, q) ∈ fps := by
  have := (Qcj (h.hx x) (fun i o ho q hq => by have := h.dep i o ho q hq; omega) k o ho).sp
  simp only [Nat.zero_add] at this
  exact this
theorem Dw.anc (h : Dw c md os f m d n Γ α j sv fs pr V E A cA cB fps pv G rk xk) (x : α) : ∀ (k : Nat) (o : Oper), os[k]? = some o -> Zo A k = Zr A (Ql .any o) 0 := fun k o ho => by
  obtain ⟨_, _, _, _, _, _, _, _, _, _, _, h7, _⟩ := h.sp x ho
  exact h7
theorem Dw.len (h : Dw c md os f m d n Γ α j sv fs pr V E A cA cB fps pv G rk xk) (x : α) : (E x).length = os.length := (Jw (h.hx x)).2
/-- Who else writes what an operation touches has run, or has not, as it is listed. -/
theorem Dw.mem (h : Dw c md os f m d n Γ α j sv fs pr V E A cA cB fps pv G rk xk) (x : α) {L : Nat -> Bool} (hL : Cl0 os L) {k q : Nat} {o : Oper} (ho : os[k]? = some o) (hk : L k = false) (hdl : ∀ q ∈ Ql .any o, L q = true) (hq : (k, q) ∈ fps) : Xm (QE (XM L 0 (E x)) m) q = Xm (QE ((E x).take k) m) q := by
  rw [Xe, Xe]
  have hchk := Gs (h.ho x) k q hq
  have hlt := QcI (h.anc x) h.dep
  have hin := Uj (h.anc x) h.dep hL
  have hel := h.len x
  have hos : ∀ (i : Nat) (e : Ef), (E x)[i]? = some e -> ∃ o', os[i]? = some o' := fun i e he => ⟨_, List.getElem?_eq_getElem (by have := (List.getElem?_eq_some_iff.1 he).1; omega)⟩
  have below : ∀ (i : Nat) (e : Ef), (E x)[i]? = some e -> e.on q = true -> i < k -> L i = true := fun i e he hon hik => by
    obtain ⟨o', ho'⟩ := hos i e he
    rcases hchk i e he hon with h1 | h1 | h1
    . omega
    . exact hin k o ho hdl i h1
    . have := hlt i o' ho' k h1; omega
  have above : ∀ (i : Nat) (e : Ef), (E x)[i]? = some e -> e.on q = true -> ¬ i < k -> L i = false := fun i e he hon hik => by
    obtain ⟨o', ho'⟩ := hos i e he
    rcases hchk i e he hon with h1 | h1 | h1
    . rw [h1]; exact hk
    . have := hlt k o ho i h1; omega
    . cases hLi : L i with
      | false => rfl
      | true =>
        have := hin i o' ho' (hL i o' ho' hLi) k h1
        rw [hk] at this; cases this
  refine Zg (fun i => ?_) fun i e e' h1 h2 hon => ?_
  . rw [Q4, Nat.zero_add, List.getElem?_take]
    cases he : (E x)[i]? with
    | none => split <;> simp
    | some e =>
      by_cases hik : i < k
      . rw [if_pos hik]
        show Ef.on q (match L i with | true => e | false => .no) = Ef.on q e
        cases hon : e.on q with
        | true => rw [below i e he hon hik]; exact hon
        | false => split <;> first | exact hon | rfl
      . rw [if_neg hik]
        show Ef.on q (match L i with | true => e | false => .no) = false
        cases hon : e.on q with
        | true => rw [above i e he hon hik]; rfl
        | false => split <;> first | exact hon | rfl
  . rw [Q4, Nat.zero_add] at h1
    rw [List.getElem?_take] at h2
    split at h2
    . rw [h2] at h1
      simp only [Option.map_some, Option.some.injEq] at h1
      split at h1
      . exact h1.symm
      . subst h1; cases hon
    . cases h2
/-- An operation's effect, where those who write the same come before it or have not run. -/
theorem Dw.put1 (h : Dw c md os f m d n Γ α j sv fs pr V E A cA cB fps pv G rk xk) (x : α) {L : Nat -> Bool} {k q : Nat} {cl : Cl} (hk : L k = false) (he : (E x)[k]? = some (.wr q cl)) (hoff : ∀ (i : Nat) (e : Ef), (E x)[i]? = some e -> e.on q = true -> k < i -> L i = false) (q' : Nat) : Xm (QE (XM (X6 L k true) 0 (E x)) m) q' = if q' = q then some cl else Xm (QE (XM L 0 (E x)) m) q' := by
  rw [Xe, Xe]
  by_cases hq : q' = q
  . subst hq
    rw [if_pos rfl]
    refine Jl (k := k) (by rw [Q4, he, Nat.zero_add]; simp [X6]) fun i e hi hki => ?_
    rw [Q4, Nat.zero_add] at hi
    cases hE : (E x)[i]? with
    | none => rw [hE] at hi; cases hi
    | some e' =>
      rw [hE] at hi
      simp only [Option.map_some, Option.some.injEq] at hi
      subst hi
      cases hon : e'.on q' with
      | false => split <;> first | exact hon | rfl
      | true =>
        have h1 := hoff i e' hE hon hki
        have : X6 L k true i = false := by simp only [X6]; rw [if_neg (by omega)]; exact h1
        rw [this]; rfl
  . rw [if_neg hq]
    refine Zg (fun i => ?_) fun i e e' h1 h2 hon => ?_
    . rw [Q4, Q4, Nat.zero_add]
      by_cases hik : i = k
      . subst hik
        rw [he, hk]
        simp only [X6, if_true, Option.map_some, Option.getD_some, Ef.on]
        exact QZ fun e => hq e.symm
      . simp only [X6, if_neg hik]
    . rw [Q4, Nat.zero_add] at h1 h2
      by_cases hik : i = k
      . subst hik
        rw [he, hk] at h2
        simp only [Option.map_some, Option.some.injEq] at h2
        rw [he] at h1
        simp only [X6, if_true, Option.map_some, Option.some.injEq] at h1
        subst h1
        simp only [Ef.on] at hon
        exact absurd (Nat.eq_of_beq_eq_true hon).symm hq
      . simp only [X6, if_neg hik] at h1
        rw [h1] at h2
        exact Option.some.inj h2
theorem Dw.putN (h : Dw c md os f m d n Γ α j sv fs pr V E A cA cB fps pv G rk xk) (x : α) {L : Nat -> Bool} {k : Nat} (he : (E x)[k]? = some .no) (q' : Nat) : Xm (QE (XM (X6 L k true) 0 (E x)) m) q' = Xm (QE (XM L 0 (E x)) m) q' := by
  rw [Xe, Xe]
  refine Zg (fun i => ?_) fun i e e' h1 h2 hon => ?_
  . rw [Q4, Q4, Nat.zero_add]
    by_cases hik : i = k
    . subst hik
      rw [he]
      cases L i <;> simp [X6, Ef.on]
    . simp only [X6, if_neg hik]
  . rw [Q4, Nat.zero_add] at h1 h2
    by_cases hik : i = k
    . subst hik
      rw [he] at h1
      simp only [Option.map_some, Option.some.injEq] at h1
      split at h1 <;> (subst h1; cases hon)
    . simp only [X6, if_neg hik] at h1
      rw [h1] at h2
      exact Option.some.inj h2
/-- The frame that an operation looks at. -/
theorem Dw.fr (h : Dw c md os f m d n Γ α j sv fs pr V E A cA cB fps pv G rk xk) (x : α) {ρ : Qs} {L : Nat -> Bool} {g : Nat -> Value} (hg : ∀ i t v, L i = true -> Yi (V x) i = some (some t, v) -> g i = v.den ρ) : ∀ {l : List Nat} {f1 fk : SF} {a : Act}, (∀ i ∈ l, L i = true /\ i < os.length) -> Yh (V x) l f1 = some fk -> Fr c.N a (Qo ρ f1) -> Fr c.N (Q1 os.toArray g l a) (Qo ρ fk)
  | [], f1, fk, a, _, hd, ha => by cases hd; exact ha
  | i :: l, f1, fk, a, hl, hd, ha => by
    obtain ⟨h1, h2⟩ := hl i (.head _)
    have hoi : os[i]? = some os[i] := List.getElem?_eq_getElem h2
    obtain ⟨_, v, _, _, _, _, _, q3, _, _, q6, _⟩ := h.sp x hoi
    have hdst : QF os.toArray i = os[i].dst := by simp [QF, hoi]
    unfold Yh at hd
    unfold Q1
    rw [q3] at hd
    rw [hdst]
    unfold okD at q6
    cases ht : os[i].dst with
    | none =>
      rw [ht] at hd q3
      exact h.fr x hg (fun i hi => hl i (.tail _ hi)) hd ha
    | some t =>
      rw [ht] at hd q3 q6
      refine h.fr x hg (fun i hi => hl i (.tail _ hi)) hd ?_
      rw [hg i t v h1 q3]
      exact ha.put (decide_eq_true (Qw q6)) _
end
end Go.Proofs.YtbiboamaigedjaaDoor
