/- Records, Format, Open, Append, Compact. Append, Compact. The theory of the journal, over the program's data: sealed sectors, what a half reads, what i -/
import Derived.Test.YtfachlmgdlnpoaaDoorPE
namespace Go.Proofs.YtfachlmgdlnpoaaDoor
open Go.RowKit
set_option linter.unusedVariables false
set_option linter.unusedSimpArgs false
set_option maxRecDepth 8000
set_option maxHeartbeats 2000000

theorem EL {z : List Int} {p : Pg} (h : Zi z = some p) : p.dat.length <= 100 := by
  unfold Zi at h
  split at h
  . cases h
  . rename_i hb
    split at h
    . cases h
      unfold VM at hb
      show ((z.drop 14).take (z[12]?.getD 0).toNat).length <= 100
      rw [List.length_take]
      omega
    . cases h
theorem QaT {Qb : List (List Int)} {Qa : List (Int × List Int)} {Qc : Bool} {a ix : Int} {p : Pg} (h : Uz Qb Qa Qc a ix = some p) : p.dat.length <= 100 := by
  unfold Uz at h
  split at h
  . cases h
  . split at h
    . rename_i q hq
      split at h
      . cases h; exact EL hq
      . cases h
    . cases h
theorem QbS {pg : Nat -> Option Pg} {sz st : Nat} {gen : Int} (hpg : ∀ k p, pg k = some p -> p.dat.length <= 100) : ∀ (f k : Nat) (out r : List Int) (k' : Nat), YS pg sz st gen f k out = some (r, k') -> st <= k -> out.length = 100 * (k - st) -> st < k' /\ ZV r = k' - st /\ k' <= sz
  | 0, k, out, r, k', h, _, _ => by cases h
  | f + 1, k, out, r, k', h, hk, ho => by
    rw [YS] at h
    split at h
    . rename_i hks
      split at h
      . cases h
      . rename_i p hp
        have hd := hpg k p hp
        split at h
        . cases h
        . split at h
          . split at h
            . cases h
            . rename_i hz
              cases h
              refine ⟨by omega, ?_, by omega⟩
              unfold ZV
              rw [List.length_append, ho]
              split <;> omega
          . split at h
            . cases h
            . rename_i h100
              obtain ⟨h1, h2, h3⟩ := QbS hpg f (k + 1) _ r k' h (by omega) (by rw [List.length_append, ho]; omega)
              exact ⟨h1, h2, h3⟩
    . cases h
theorem QbV {pg : Nat -> Option Pg} {sz st : Nat} {gen : Int} (hpg : ∀ k p, pg k = some p -> p.dat.length <= 100) {r : List Int} {k' : Nat} (h : V6 pg sz st gen = some (r, k')) : st < k' /\ ZV r = k' - st /\ k' <= sz := QbS hpg _ _ _ _ _ h (Nat.le_refl _) (by simp)
theorem F5 {pg : Nat -> Option Pg} {sz n : Nat} {gen : Int} (hpg : ∀ k p, pg k = some p -> p.dat.length <= 100) : ∀ (f k : Nat) (l l' : List (List Int)) (k' : Nat), Z2 pg sz n gen f k l = some (l', k') -> k = 1 + Qz l -> k' = 1 + Qz l'
  | 0, k, l, l', k', h, _ => by cases h
  | f + 1, k, l, l', k', h, hk => by
    rw [Z2] at h
    split at h
    . split at h
      . cases h
      . rename_i out k2 hr
        split at h
        . cases h
        . have := QbV hpg hr
          exact F5 hpg f k2 _ l' k' h (by rw [ZT]; omega)
    . cases h; exact hk
theorem F3 {pg : Nat -> Option Pg} {sz : Nat} {gen : Int} (hpg : ∀ k p, pg k = some p -> p.dat.length <= 100) : ∀ (f k : Nat) (l : List (List Int)), k = 1 + Qz l -> (Ya pg sz gen f k l).2 = 1 + Qz (Ya pg sz gen f k l).1
  | 0, k, l, hk => hk
  | f + 1, k, l, hk => by
    rw [Ya]
    split
    . exact hk
    . rename_i out k2 hr
      have := QbV hpg hr
      exact F3 hpg f k2 _ (by rw [ZT]; omega)
theorem Qds {pg : Nat -> Option Pg} {sz : Nat} (hpg : ∀ k p, pg k = some p -> p.dat.length <= 100) {l : List (List Int)} {g : Int} {u : Nat} (h : ZP pg sz = some (l, g, u)) : u = 1 + Qz l := by
  unfold ZP at h
  split at h
  . cases h
  . split at h
    . cases h
    . split at h
      . cases h
      . split at h
        . cases h
        . rename_i l1 k1 h1
          cases h
          exact F3 hpg _ _ _ (F5 hpg _ _ _ _ _ h1 rfl)
def Et (Qb : List (List Int)) (Qa : List (Int × List Int)) (Qc : Bool) (q : Int) : Option (List (List Int) × Int × Nat) := ZP (Hu Qb Qa Qc (q * ((Qb.length : Int) / 2))) (Qb.length / 2)
def Yb (Qb : List (List Int)) (Qa : List (Int × List Int)) (Qc : Bool) (q : Int) : Option (List (List Int) × Int × Nat) := if ¬ XA Qb Qa Qc = 0 \/ (¬ q = 0 /\ ¬ q = 1) then none else Et Qb Qa Qc q
theorem QdK {Qb : List (List Int)} {Qa : List (Int × List Int)} {Qc : Bool} {q : Int} {l : List (List Int)} {g : Int} {u : Nat} (h : Et Qb Qa Qc q = some (l, g, u)) : u = 1 + Qz l := Qds (fun _ _ => QaT) h
def Js (x : Option (List (List Int) × Int × Nat)) (sz : Nat) (rs : List JJ) (g : Int) (b : Bool) : Prop := (b = true -> ∃ used, x = some (rs.map Prod.fst, g, used) /\ used <= sz + 1 /\ used = 1 + Qz (rs.map Prod.fst)) /\ (b = false -> x = none /\ rs = [] /\ g = 0)
theorem QbP (Qb : List (List Int)) (Qa : List (Int × List Int)) (Qd : Int) (Qc : Bool) (s1 s2 : Value) (q : Int) (fr : Int) (hfe : fr = q * ((Qb.length : Int) / 2)) (sz : Int) (hse : sz = (Qb.length : Int) / 2) (w : World) (L : List Nat) (hL : LL L w) (h1 : QC 128 L w s1 (Qb.map Qq)) (h2 : QC 129 L w s2 (Qa.map QD)) (hq : q = 0 \/ q = 1) (hsz : Qb.length <= 2048) (hbd : YJ Qb Qa) (hT : ZF w) : CV Tryd.prog 39 [.agg #[s1, s2, .int .i64 Qd, .bool Qc, .int .i64 fr, .int .i64 sz]] w fun v W => ∃ (rs : List JJ) (lv : Value) (g : Int) (b : Bool), v = .tuple #[lv, .int .i64 g, .bool b] /\ QC 1 L W lv (rs.map JD) /\ YP L W rs /\ (∀ r ∈ rs, ZX r.1 /\ r.1.length <= 1000000) /\ Js (Et Qb Qa Qc q) (Qb.length / 2) rs g b := by
 have e : sz = ((Qb.length / 2 : Nat) : Int) := by omega
 rw [e]
 subst hfe
 refine Calls.mono (Qeq Qb Qa Qd Qc s1 s2 (q * ((Qb.length : Int) / 2)) (Qb.length / 2) w L hL hL h1 h2 (by rcases hq with rfl | rfl <;> omega) (by omega) hbd hT) fun _ W h => ?_
 obtain ⟨v, he, hr, hb⟩ := h
 refine ⟨v, he, ?_, hb⟩
 rcases hr with ⟨rs, lv, g, used, hv, hx, h3, h4, h5, h6, h7⟩ | ⟨hv, hx⟩
 . exact ⟨rs, lv, g, true, hv, h3, h4, fun r hr => ⟨(h5 r hr).1, Nat.le_trans (h5 r hr).2 (by decide)⟩, fun _ => ⟨used, hx, h6, QdK (q := q) hx⟩, fun h => by cases h⟩
 . exact ⟨[], _, 0, false, hv, QC.nil (by decide), (fun r hr => by cases hr), (fun r hr => by cases hr), fun h => (by cases h), fun _ => ⟨hx, rfl, rfl⟩⟩
theorem UT {Qb : List (List Int)} {Qa : List (Int × List Int)} {Qc : Bool} (h : XA Qb Qa Qc = 0) : QH Qb Qa = true /\ 8 <= Qb.length /\ Qb.length <= 2048 /\ Qc = false := by
  unfold XA at h
  split at h
  . cases h
  . rename_i hc
    split at h
    . cases h
    . rename_i hd
      have hr : QH Qb Qa = true := by
        cases e : QH Qb Qa
        . exact absurd (.inl e) hc
        . rfl
      exact ⟨hr, by omega, (Zz hr).2.1, by simpa using hd⟩

set_option maxHeartbeats 1000000 in
theorem Hs (Qb : List (List Int)) (Qa : List (Int × List Int)) (Qd : Int) (Qc : Bool) (s1 s2 : Value) (q : Int) (w : World) (L : List Nat) (hL : LL L w) (h1 : QC 128 L w s1 (Qb.map Qq)) (h2 : QC 129 L w s2 (Qa.map QD))  (hbd : YJ Qb Qa) (hT : ZF w) : CV Tryd.prog 14 [.agg #[s1, s2, .int .i64 Qd, .bool Qc], .int .i64 q] w fun v W => ∃ (rs : List JJ) (lv : Value) (g : Int) (b : Bool), v = .tuple #[lv, .int .i64 g, .bool b] /\ QC 1 L W lv (rs.map JD) /\ YP L W rs /\ (∀ r ∈ rs, ZX r.1 /\ r.1.length <= 1000000) /\ Js (Yb Qb Qa Qc q) (Qb.length / 2) rs g b := by
 refine QL (N := 25) (f := [(0, .agg #[s1, s2, .int .i64 Qd, .bool Qc]), (1, .int .i64 q)]) Tryd.func14 rfl rfl rfl rfl fun Q hQ hE => ?_
 have hB := Below.refl w.heap.size w
 have h1m : Qb.length <= maxLen := by have := h1.len; rwa [List.length_map] at this
 unfold maxLen at h1m
 have h2m : Qa.length <= maxLen := by have := h2.len; rwa [List.length_map] at this
 unfold maxLen at h2m
 refine Sq fun K1 hK1 => (Rg ?_)
 refine Ge (Xb rfl rfl rfl) rfl rfl ?_
 rintro _ W2 ⟨rfl, k3, b4, z5⟩
 have l6 := hB.size
 replace h1 := h1.more b4 (Nat.le_refl _)
 replace h2 := h2.more b4 (Nat.le_refl _)
 replace hB := Qe hB b4
 replace hL := LL.more hL z5
 refine Pu rfl (Pu rfl (Pu rfl (Ni (hK1 (Sq fun K7 hK7 => (Sq fun K8 hK8 => (Rg ?_)))))))
 refine Va (Qg rfl Qf rfl k3.range rfl) rfl rfl ?_
 refine Ge (QO rfl Tryd.func32 rfl rfl rfl (Gc Qb Qa Qd Qc _ _ W2 _ hL h1 h2)) rfl rfl ?_
 rintro _ W10 ⟨rfl, b9⟩
 replace h1 := h1.below b9
 replace h2 := h2.below b9
 replace k3 := k3.below b9
 replace hB := Qe hB b9
 replace hL := LL.below hL b9
 refine Va (Xr rfl rfl rfl) rfl rfl (Pu rfl ?_)
 refine WL.split 10 rfl (fun g11 => ?_) (fun g11 => ?_)
 .
  replace g11 := Q7 g11
  replace g11 := dF g11
  refine Of rfl (Of rfl (Of rfl (Of rfl (Of rfl (Of rfl (Pu rfl (Ni ?_)))))))
  refine hK8 (WC.condT rfl (Sq fun K12 hK12 => (Rg (Pu rfl (Pu rfl (Pu rfl (Ni ?_)))))))
  refine hK12 ?_
  exact WC.ret fun a_ ha_ => hQ (Xp rfl (.tmp rfl) (.tmp rfl) (.tmp rfl) ⟨[], _, 0, false, rfl, QC.nil (by decide), (fun r hr => by cases hr), (fun r hr => by cases hr), fun h => (by cases h), fun _ => ⟨by unfold Yb; rw [if_pos (by first | omega | (simp_all; done))], rfl, rfl⟩⟩ hB ha_)
 .
  replace g11 := Q4 g11
  replace g11 := dT g11
  refine Pu rfl (Va (Xr rfl rfl rfl) rfl rfl (Pu rfl ?_))
  refine WL.split 13 rfl (fun g13 => ?_) (fun g13 => ?_)
  .
   replace g13 := Q7 g13
   replace g13 := dF g13
   refine Pu rfl (Va (Xr rfl rfl rfl) rfl rfl (Pu rfl (Pu rfl (Ni (hK8 ?_)))))
   refine WC.cond rfl (fun c14 => ?_) (fun c14 => ?_)
   .
    replace c14 := Q7 c14
    replace c14 := dF c14
    refine Sq fun K15 hK15 => (Rg (Pu rfl (Pu rfl (Pu rfl (Ni (hK15 ?_))))))
    exact WC.ret fun a_ ha_ => hQ (Xp rfl (.tmp rfl) (.tmp rfl) (.tmp rfl) ⟨[], _, 0, false, rfl, QC.nil (by decide), (fun r hr => by cases hr), (fun r hr => by cases hr), fun h => (by cases h), fun _ => ⟨by unfold Yb; rw [if_pos (by first | omega | (simp_all; done))], rfl, rfl⟩⟩ hB ha_)
   .
    replace c14 := Q4 c14
    replace c14 := dT c14
    refine WC.skip (hK7 (Sq fun K16 hK16 => ?_))
    obtain ⟨hr1, hr2, hr3, hr4⟩ := UT (Qb := Qb) (Qa := Qa) (Qc := Qc) (by first | assumption | omega)
    have hq : q = 0 \/ q = 1 := by omega
    refine Rg (Va (Qg rfl Qf rfl k3.range rfl) rfl rfl (Pu rfl ?_))
    refine Ge (QO rfl Tryd.func38 rfl rfl rfl (J7 Qb Qa Qd Qc _ _ q W10 _ hL h1 h2 hq (by omega))) rfl rfl ?_
    rintro _ W18 ⟨rfl, b17⟩
    replace h1 := h1.below b17
    replace h2 := h2.below b17
    replace hB := Qe hB b17
    replace hL := LL.below hL b17
    refine Ge (QO rfl Tryd.func39 rfl rfl rfl (QbP Qb Qa Qd Qc _ _ q _ rfl _ rfl W18 _ hL h1 h2 hq (by omega) hbd (hT.below hB))) rfl rfl ?_
    rintro _ W20 ⟨⟨rs, lv, g, hb_, rfl, h3, hrs, hrb, hhu⟩, b19⟩
    replace hB := Qe hB b19
    refine Pu rfl (Pu rfl (Pu rfl (Pu rfl (Pu rfl (Pu rfl (Ni (hK16 ?_)))))))
    exact WC.ret fun a_ ha_ => hQ (Xp rfl (.tmp rfl) (.tmp rfl) (.tmp rfl) ⟨rs, lv, g, hb_, rfl, (h3.less (fun x hx => (.tail _ hx))), (hrs.less (fun x hx => (.tail _ hx))), hrb, by unfold Yb; rw [if_neg (by first | omega | (simp_all; done))]; exact hhu⟩ hB ha_)
  .
   replace g13 := Q4 g13
   replace g13 := dT g13
   refine Of rfl (Of rfl (Pu rfl (Pu rfl (Ni (hK8 (WC.condF rfl (WC.skip ?_)))))))
   refine hK7 (Sq fun K21 hK21 => ?_)
   obtain ⟨hr1, hr2, hr3, hr4⟩ := UT (Qb := Qb) (Qa := Qa) (Qc := Qc) (by first | assumption | omega)
   have hq : q = 0 \/ q = 1 := by omega
   refine Rg (Va (Qg rfl Qf rfl k3.range rfl) rfl rfl (Pu rfl ?_))
   refine Ge (QO rfl Tryd.func38 rfl rfl rfl (J7 Qb Qa Qd Qc _ _ q W10 _ hL h1 h2 hq (by omega))) rfl rfl ?_
   rintro _ W23 ⟨rfl, b22⟩
   replace h1 := h1.below b22
   replace h2 := h2.below b22
   replace hB := Qe hB b22
   replace hL := LL.below hL b22
   refine Ge (QO rfl Tryd.func39 rfl rfl rfl (QbP Qb Qa Qd Qc _ _ q _ rfl _ rfl W23 _ hL h1 h2 hq (by omega) hbd (hT.below hB))) rfl rfl ?_
   rintro _ W25 ⟨⟨rs, lv, g, hb_, rfl, h3, hrs, hrb, hhu⟩, b24⟩
   replace hB := Qe hB b24
   refine Pu rfl (Pu rfl (Pu rfl (Pu rfl (Pu rfl (Pu rfl (Ni (hK21 ?_)))))))
   exact WC.ret fun a_ ha_ => hQ (Xp rfl (.tmp rfl) (.tmp rfl) (.tmp rfl) ⟨rs, lv, g, hb_, rfl, (h3.less (fun x hx => (.tail _ hx))), (hrs.less (fun x hx => (.tail _ hx))), hrb, by unfold Yb; rw [if_neg (by first | omega | (simp_all; done))]; exact hhu⟩ hB ha_)

theorem JO {r : List Int} (h : r.length <= 4096) : X2 (r.length : Int) = (ZV r : Int) := by
 unfold X2 ZV
 rw [if_neg (show ¬ ((r.length : Int) < 0 \/ 4096 < (r.length : Int)) by omega)]
 split <;> split <;> omega
def Xa (Qb : List (List Int)) (Qa : List (Int × List Int)) (Qd : Int) (Qc : Bool) : DO × Int × Int × Int :=
 if ¬ XA Qb Qa Qc = 0 then (⟨Qb, Qa, Qd, Qc, XA Qb Qa Qc⟩, 0, 0, 0) else QQ Qb Qa Qd Qc 0 []
def Ed : Option (List (List Int) × Int × Nat) -> Option (List (List Int) × Int × Nat) -> Option (List (List Int) × Int)
 | none, none => none
 | some a, none => some (a.1, 1)
 | none, some b => some (b.1, 0)
 | some a, some b => if a.2.1 < b.2.1 then some (b.1, 0) else some (a.1, 1)
def Jq (Qb : List (List Int)) (Qa : List (Int × List Int)) (Qc : Bool) : Option (List (List Int) × Int) := Ed (Yb Qb Qa Qc 0) (Yb Qb Qa Qc 1)
def YM (Qb : List (List Int)) (Qa : List (Int × List Int)) (Qd : Int) (Qc : Bool) : (DO × Int × Int × Int) × List (List Int) :=
 if ¬ XA Qb Qa Qc = 0 then ((⟨Qb, Qa, Qd, Qc, XA Qb Qa Qc⟩, 0, 0, 0), [])
 else match Jq Qb Qa Qc with
  | none => ((⟨Qb, Qa, Qd, Qc, 20⟩, 0, 0, 0), [])
  | some (l, q) => if (QQ Qb Qa Qd Qc q l).1.err = 0 then (QQ Qb Qa Qd Qc q l, l) else (QQ Qb Qa Qd Qc q l, [])
def Qc2 (Qb : List (List Int)) (Qa : List (Int × List Int)) (Qd : Int) (Qc : Bool) (half gen used : Int) (rec : List Int) : DO := Xw (Xx Qb Qa Qd Qc) (XI (QT (Xx Qb Qa Qd Qc) (half * ((Qb.length : Int) / 2)) (Xo gen used rec)))
def QW (Qb : List (List Int)) (Qa : List (Int × List Int)) (Qd : Int) (Qc : Bool) (half gen used : Int) (rec : List Int) : DO × Int × Int × Int :=
 if ¬ XA Qb Qa Qc = 0 then (⟨Qb, Qa, Qd, Qc, XA Qb Qa Qc⟩, half, gen, used)
 else if ¬ Yn (Qb.length : Int) half gen used = 0 then (⟨Qb, Qa, Qd, Qc, Yn (Qb.length : Int) half gen used⟩, half, gen, used)
 else if 4096 < rec.length then (⟨Qb, Qa, Qd, Qc, 3⟩, half, gen, used)
 else if (Qb.length : Int) / 2 < used + X2 (rec.length : Int) then (⟨Qb, Qa, Qd, Qc, 10⟩, half, gen, used)
 else if (Qc2 Qb Qa Qd Qc half gen used rec).err = 0 then (Qc2 Qb Qa Qd Qc half gen used rec, half, gen, used + X2 (rec.length : Int))
 else (Qc2 Qb Qa Qd Qc half gen used rec, half, gen, used)
section
variable {Qb : List (List Int)} {Qa : List (Int × List Int)} {Qd : Int} {Qc : Bool}
theorem Kw (h : ¬ XA Qb Qa Qc = 0) : Xa Qb Qa Qd Qc = (⟨Qb, Qa, Qd, Qc, XA Qb Qa Qc⟩, 0, 0, 0) := if_pos h
theorem U9 (h : XA Qb Qa Qc = 0) : Xa Qb Qa Qd Qc = QQ Qb Qa Qd Qc 0 [] := if_neg (fun q => q h)
theorem QdC (h : ¬ XA Qb Qa Qc = 0) : YM Qb Qa Qd Qc = ((⟨Qb, Qa, Qd, Qc, XA Qb Qa Qc⟩, 0, 0, 0), []) := if_pos h
theorem DQ (h : XA Qb Qa Qc = 0) (hb : Jq Qb Qa Qc = none) : YM Qb Qa Qd Qc = ((⟨Qb, Qa, Qd, Qc, 20⟩, 0, 0, 0), []) := by unfold YM; rw [if_neg (fun q => q h), hb]
theorem JZ {l : List (List Int)} {q : Int} (h : XA Qb Qa Qc = 0) (hb : Jq Qb Qa Qc = some (l, q)) (he : (QQ Qb Qa Qd Qc q l).1.err = 0) : YM Qb Qa Qd Qc = (QQ Qb Qa Qd Qc q l, l) := by unfold YM; rw [if_neg (fun q => q h), hb]; exact if_pos he
theorem KW {l : List (List Int)} {q : Int} (h : XA Qb Qa Qc = 0) (hb : Jq Qb Qa Qc = some (l, q)) (he : ¬ (QQ Qb Qa Qd Qc q l).1.err = 0) : YM Qb Qa Qd Qc = (QQ Qb Qa Qd Qc q l, []) := by unfold YM; rw [if_neg (fun q => q h), hb]; exact if_neg he
end
theorem U6 {Qb : List (List Int)} {Qa : List (Int × List Int)} {Qd : Int} {Qc : Bool} {q : Int} {l : List (List Int)} (h : ¬ (QQ Qb Qa Qd Qc q l).1.err = 0) : (QQ Qb Qa Qd Qc q l).2 = (0, 0, 0) := by
  unfold QQ at h ⊢
  split
  . rfl
  . rename_i h1
    rw [if_neg h1] at h
    split
    . rename_i h2
      rw [if_pos h2] at h
      exact absurd h2 h
    . rfl
theorem Js.cnt {x : Option (List (List Int) × Int × Nat)} {sz : Nat} {rs : List JJ} {g : Int} {b : Bool} (h : Js x sz rs g b) : Qz (rs.map Prod.fst) <= sz := by
 cases b with
 | false => rw [(h.2 rfl).2.1]; exact Nat.zero_le _
 | true => obtain ⟨u, _, h1, h2⟩ := h.1 rfl; omega
set_option maxHeartbeats 1000000 in
theorem Ev (Qb : List (List Int)) (Qa : List (Int × List Int)) (Qd : Int) (Qc : Bool) (s1 s2 : Value) (w : World) (L : List Nat) (hL : LL L w) (h1 : QC 128 L w s1 (Qb.map Qq)) (h2 : QC 129 L w s2 (Qa.map QD))  (hfu : -9223372036854775808 <= Qd /\ Qd <= 9223372036854775807) (hbd : YJ Qb Qa) (hT : ZF w) : CV Tryd.prog 20 [.agg #[s1, s2, .int .i64 Qd, .bool Qc]] w fun v W => ∃ t1 t2, v = .tuple #[.agg #[t1, t2, .int .i64 (Xa Qb Qa Qd Qc).1.Qd, .bool (Xa Qb Qa Qd Qc).1.Qc], .agg #[.int .i64 (Xa Qb Qa Qd Qc).2.1, .int .i64 (Xa Qb Qa Qd Qc).2.2.1, .int .i64 (Xa Qb Qa Qd Qc).2.2.2], .int .i64 (Xa Qb Qa Qd Qc).1.err] /\ QC 128 L W t1 ((Xa Qb Qa Qd Qc).1.Qb.map Qq) /\ QC 129 L W t2 ((Xa Qb Qa Qd Qc).1.Qa.map QD) := by
 refine QL (N := 18) (f := [(0, .agg #[s1, s2, .int .i64 Qd, .bool Qc])]) Tryd.func20 rfl rfl rfl rfl fun Q hQ hE => ?_
 have hB := Below.refl w.heap.size w
 have h1m : Qb.length <= maxLen := by have := h1.len; rwa [List.length_map] at this
 unfold maxLen at h1m
 have h2m : Qa.length <= maxLen := by have := h2.len; rwa [List.length_map] at this
 unfold maxLen at h2m
 refine Sq fun K1 hK1 => (Rg ?_)
 refine Ge (Xb rfl rfl rfl) rfl rfl ?_
 rintro _ W2 ⟨rfl, k3, b4, z5⟩
 have l6 := hB.size
 replace h1 := h1.more b4 (Nat.le_refl _)
 replace h2 := h2.more b4 (Nat.le_refl _)
 replace hB := Qe hB b4
 replace hL := LL.more hL z5
 refine Ge (Qs rfl QU rfl) rfl rfl ?_
 rintro _ W7 ⟨rfl, k8, b9, z10⟩
 have l12 := hB.size
 replace h1 := h1.more b9 (Nat.le_refl _)
 replace h2 := h2.more b9 (Nat.le_refl _)
 replace k3 := k3.below b9
 replace hB := Qe hB b9
 replace hL := LL.more hL z10
 refine Ge (Qs rfl XE rfl) rfl rfl ?_
 rintro _ W13 ⟨rfl, k14, b15, z16⟩
 have n18 : W2.heap.size ≠ W7.heap.size := Nat.ne_of_lt k8.lt
 have l19 := hB.size
 replace h1 := h1.more b15 (Nat.le_refl _)
 replace h2 := h2.more b15 (Nat.le_refl _)
 replace k3 := k3.below b15
 replace k8 := k8.below b15
 replace hB := Qe hB b15
 replace hL := LL.more hL z16
 refine Pu rfl (Ni (hK1 (Sq fun K20 hK20 => (Sq fun K21 hK21 => (Rg (Va (Qg rfl Qf rfl k3.range rfl) rfl rfl ?_))))))
 refine Ge (QO rfl Tryd.func32 rfl rfl rfl (Gc Qb Qa Qd Qc _ _ W13 _ hL h1 h2)) rfl rfl ?_
 rintro _ W23 ⟨rfl, b22⟩
 replace h1 := h1.below b22
 replace h2 := h2.below b22
 replace k3 := k3.below b22
 replace k8 := k8.below b22
 replace k14 := k14.below b22
 replace hB := Qe hB b22
 replace hL := LL.below hL b22
 refine Pu rfl (Ni (hK21 (Sq fun K24 hK24 => (Rg (Pu rfl (Va (Xr rfl rfl rfl) rfl rfl (Ni ?_)))))))
 refine hK24 ?_
 refine WC.cond rfl (fun c25 => ?_) (fun c25 => ?_)
 .
  replace c25 := Q7 c25
  replace c25 := dF c25
  refine Sq fun K26 hK26 => (Rg (Va (Qg rfl Qf rfl k3.range rfl) rfl rfl (Va (QP rfl rfl (Xi (cs := [.int .i64 0, .int .i64 0, .int .i64 0]) (by kernel_rfl) Qk)) rfl rfl (Pu rfl ?_))))
  refine WL.do (Qh (cs' := [s1, s2, .int .i64 Qd, .bool Qc]) (vs := [s1, s2, .int .i64 Qd, .bool Qc]) rfl Qj rfl rfl rfl (oC h1.one (oC h2.one (oC rfl (oC rfl Qk)))) k8 rfl (nB rfl) rfl) rfl ?_
  rintro _ W27 ⟨k29, o28⟩
  replace k14 := k14.other o28 n18.symm
  clear k8
  replace h1 := h1.only o28 (.tail _ (.head _))
  replace h2 := h2.only o28 (.tail _ (.head _))
  replace hB := o28.below hB l12
  refine WL.do (Qh (cs' := [.int .i64 0, .int .i64 0, .int .i64 0]) (vs := [.int .i64 0, .int .i64 0, .int .i64 0]) rfl Qv rfl rfl rfl (oC rfl (oC rfl (oC rfl Qk))) k14 rfl (nB rfl) rfl) rfl ?_
  rintro _ W30 ⟨k32, o31⟩
  replace k29 := k29.other o31 n18
  clear k14
  replace h1 := h1.only o31 (.head _)
  replace h2 := h2.only o31 (.head _)
  replace hB := o31.below hB l19
  refine Pu rfl (Ni (hK26 ?_))
  exact WC.ret fun a_ ha_ => hQ (Xp rfl (.agg rfl Qf k29.range rfl) (.agg rfl Qr k32.range rfl) (.tmp rfl) (by rw [Kw (by first | assumption | omega)]; exact ⟨_, _, rfl, (h1.less (fun x hx => (.tail _ (.tail _ (.tail _ hx))))), (h2.less (fun x hx => (.tail _ (.tail _ (.tail _ hx)))))⟩) hB ha_)
 .
  replace c25 := Q4 c25
  replace c25 := dT c25
  refine WC.skip (hK20 (Sq fun K33 hK33 => ?_))
  obtain ⟨hr1, hr2, hr3, hr4⟩ := UT (Qb := Qb) (Qa := Qa) (Qc := Qc) (by first | assumption | omega)
  refine Rg (Va (Qg rfl Qf rfl k3.range rfl) rfl rfl ?_)
  refine Ge (QO rfl Tryd.func33 rfl rfl rfl (Er Qb Qa Qd Qc _ _ 0 [] (.slice none 0 0) W23 _ hL h1 h2 (QC.nil (by decide)) (fun r hr => by cases hr) hfu (.inl rfl) (by omega) hbd (fun r hr => by cases hr) (Nat.zero_le _) (hT.below hB))) rfl rfl ?_
  rintro _ W35 ⟨⟨a1, a2, rfl, ag1, ag2⟩, b34⟩
  replace k8 := k8.below b34
  replace k14 := k14.below b34
  replace hB := Qe hB b34
  refine Pu rfl (Pu rfl (Pu rfl ?_))
  refine WL.do (Qh (cs' := [a1, a2, .int .i64 ((QQ Qb Qa Qd Qc 0 []).1.Qd), .bool ((QQ Qb Qa Qd Qc 0 []).1.Qc)]) (vs := [a1, a2, .int .i64 ((QQ Qb Qa Qd Qc 0 []).1.Qd), .bool ((QQ Qb Qa Qd Qc 0 []).1.Qc)]) rfl Qj rfl rfl rfl (oC ag1.one (oC ag2.one (oC rfl (oC rfl Qk)))) k8 rfl (nB rfl) rfl) rfl ?_
  rintro _ W36 ⟨k38, o37⟩
  replace k14 := k14.other o37 n18.symm
  clear k8
  replace ag1 := ag1.only o37 (.tail _ (.head _))
  replace ag2 := ag2.only o37 (.tail _ (.head _))
  replace hB := o37.below hB l12
  refine WL.do (Qh (cs' := [.int .i64 ((QQ Qb Qa Qd Qc 0 []).2.1), .int .i64 ((QQ Qb Qa Qd Qc 0 []).2.2.1), .int .i64 ((QQ Qb Qa Qd Qc 0 []).2.2.2)]) (vs := [.int .i64 ((QQ Qb Qa Qd Qc 0 []).2.1), .int .i64 ((QQ Qb Qa Qd Qc 0 []).2.2.1), .int .i64 ((QQ Qb Qa Qd Qc 0 []).2.2.2)]) rfl Qv rfl rfl rfl (oC rfl (oC rfl (oC rfl Qk))) k14 rfl (nB rfl) rfl) rfl ?_
  rintro _ W39 ⟨k41, o40⟩
  replace k38 := k38.other o40 n18
  clear k14
  replace ag1 := ag1.only o40 (.head _)
  replace ag2 := ag2.only o40 (.head _)
  replace hB := o40.below hB l19
  refine Pu rfl (Ni (hK33 ?_))
  exact WC.ret fun a_ ha_ => hQ (Xp rfl (.agg rfl Qf k38.range rfl) (.agg rfl Qr k41.range rfl) (.tmp rfl) (by rw [U9 (by first | assumption | omega)]; exact ⟨_, _, rfl, (ag1.less (fun x hx => (.tail _ (.tail _ (.tail _ hx))))), (ag2.less (fun x hx => (.tail _ (.tail _ (.tail _ hx)))))⟩) hB ha_)

section
variable {x0 x1 : Option (List (List Int) × Int × Nat)} {n : Nat} {rs0 rs1 : List JJ} {g0 g1 : Int} {b0 b1 : Bool}
theorem Qb4 (h0 : Js x0 n rs0 g0 b0) (h1 : Js x1 n rs1 g1 b1) (hc : b1 = true /\ (b0 = false \/ g0 < g1)) : Ed x0 x1 = some (rs1.map Prod.fst, 0) := by
 obtain ⟨u1, e1, _⟩ := h1.1 hc.1
 cases b0 with
 | false => rw [(h0.2 rfl).1, e1]; rfl
 | true =>
  obtain ⟨u0, e0, _⟩ := h0.1 rfl
  rw [e0, e1]
  exact if_pos (hc.2.resolve_left (by decide))
theorem Qb5 (h0 : Js x0 n rs0 g0 b0) (h1 : Js x1 n rs1 g1 b1) (hc : ¬ (b1 = true /\ (b0 = false \/ g0 < g1))) (hb : b0 = true) : Ed x0 x1 = some (rs0.map Prod.fst, 1) := by
 subst hb
 obtain ⟨u0, e0, _⟩ := h0.1 rfl
 cases b1 with
 | false => rw [(h1.2 rfl).1, e0]; rfl
 | true =>
  obtain ⟨u1, e1, _⟩ := h1.1 rfl
  rw [e0, e1]
  exact if_neg (fun q => hc ⟨rfl, .inr q⟩)
theorem Qb3 (h0 : Js x0 n rs0 g0 b0) (h1 : Js x1 n rs1 g1 b1) (hc : ¬ (b1 = true /\ (b0 = false \/ g0 < g1))) (hb : b0 = false) : Ed x0 x1 = none := by
 subst hb
 have : b1 = false := by
  cases b1
  . rfl
  . exact absurd ⟨rfl, .inl rfl⟩ hc
 subst this
 rw [(h0.2 rfl).1, (h1.2 rfl).1]; rfl
end
theorem QdH {x : Int × Int × Int} {d r : Value} {e : Int} (h : x = (0, 0, 0)) : Value.tuple #[d, .agg #[.int .i64 0, .int .i64 0, .int .i64 0], r, .int .i64 e] = .tuple #[d, .agg #[.int .i64 x.1, .int .i64 x.2.1, .int .i64 x.2.2], r, .int .i64 e] := by rw [h]
theorem KV {d l r : Value} {e : Int} (h : e = 0) : Value.tuple #[d, l, r, .int .i64 0] = .tuple #[d, l, r, .int .i64 e] := by rw [h]
set_option maxHeartbeats 1000000 in
theorem Qez (Qb : List (List Int)) (Qa : List (Int × List Int)) (Qd : Int) (Qc : Bool) (s1 s2 : Value) (w : World) (L : List Nat) (hL : LL L w) (h1 : QC 128 L w s1 (Qb.map Qq)) (h2 : QC 129 L w s2 (Qa.map QD))  (hfu : -9223372036854775808 <= Qd /\ Qd <= 9223372036854775807) (hbd : YJ Qb Qa) (hT : ZF w) : CV Tryd.prog 12 [.agg #[s1, s2, .int .i64 Qd, .bool Qc]] w fun v W => ∃ t1 t2 lv rs, v = .tuple #[.agg #[t1, t2, .int .i64 (YM Qb Qa Qd Qc).1.1.Qd, .bool (YM Qb Qa Qd Qc).1.1.Qc], .agg #[.int .i64 (YM Qb Qa Qd Qc).1.2.1, .int .i64 (YM Qb Qa Qd Qc).1.2.2.1, .int .i64 (YM Qb Qa Qd Qc).1.2.2.2], lv, .int .i64 (YM Qb Qa Qd Qc).1.1.err] /\ QC 128 L W t1 ((YM Qb Qa Qd Qc).1.1.Qb.map Qq) /\ QC 129 L W t2 ((YM Qb Qa Qd Qc).1.1.Qa.map QD) /\ QC 1 L W lv (rs.map JD) /\ YP L W rs /\ (∀ r ∈ rs, ZX r.1 /\ r.1.length <= 1000000) /\ rs.map Prod.fst = (YM Qb Qa Qd Qc).2 := by
 refine QL (N := 67) (f := [(0, .agg #[s1, s2, .int .i64 Qd, .bool Qc])]) Tryd.func12 rfl rfl rfl rfl fun Q hQ hE => ?_
 have hB := Below.refl w.heap.size w
 have h1m : Qb.length <= maxLen := by have := h1.len; rwa [List.length_map] at this
 unfold maxLen at h1m
 have h2m : Qa.length <= maxLen := by have := h2.len; rwa [List.length_map] at this
 unfold maxLen at h2m
 refine Sq fun K1 hK1 => (Rg ?_)
 refine Ge (Xb rfl rfl rfl) rfl rfl ?_
 rintro _ W2 ⟨rfl, k3, b4, z5⟩
 have l6 := hB.size
 replace h1 := h1.more b4 (Nat.le_refl _)
 replace h2 := h2.more b4 (Nat.le_refl _)
 replace hB := Qe hB b4
 replace hL := LL.more hL z5
 refine Ge (Qs rfl QU rfl) rfl rfl ?_
 rintro _ W7 ⟨rfl, k8, b9, z10⟩
 have n11 : w.heap.size ≠ W2.heap.size := Nat.ne_of_lt k3.lt
 have l12 := hB.size
 replace h1 := h1.more b9 (Nat.le_refl _)
 replace h2 := h2.more b9 (Nat.le_refl _)
 replace k3 := k3.below b9
 replace hB := Qe hB b9
 replace hL := LL.more hL z10
 refine Ge (Qs rfl XE rfl) rfl rfl ?_
 rintro _ W13 ⟨rfl, k14, b15, z16⟩
 have n17 : w.heap.size ≠ W7.heap.size := Nat.ne_of_lt k3.lt
 have n18 : W2.heap.size ≠ W7.heap.size := Nat.ne_of_lt k8.lt
 have l19 := hB.size
 replace h1 := h1.more b15 (Nat.le_refl _)
 replace h2 := h2.more b15 (Nat.le_refl _)
 replace k3 := k3.below b15
 replace k8 := k8.below b15
 replace hB := Qe hB b15
 replace hL := LL.more hL z16
 refine Pu rfl (Pu rfl (Ni (hK1 (Sq fun K20 hK20 => (Sq fun K21 hK21 => (Rg (Va (Qg rfl Qf rfl k3.range rfl) rfl rfl ?_)))))))
 refine Ge (QO rfl Tryd.func32 rfl rfl rfl (Gc Qb Qa Qd Qc _ _ W13 _ hL h1 h2)) rfl rfl ?_
 rintro _ W23 ⟨rfl, b22⟩
 replace h1 := h1.below b22
 replace h2 := h2.below b22
 replace k3 := k3.below b22
 replace k8 := k8.below b22
 replace k14 := k14.below b22
 replace hB := Qe hB b22
 replace hL := LL.below hL b22
 refine Pu rfl (Ni (hK21 (Sq fun K24 hK24 => (Rg (Pu rfl (Va (Xr rfl rfl rfl) rfl rfl (Ni ?_)))))))
 refine hK24 ?_
 refine WC.cond rfl (fun c25 => ?_) (fun c25 => ?_)
 .
  replace c25 := Q7 c25
  replace c25 := dF c25
  refine Sq fun K26 hK26 => (Rg (Va (Qg rfl Qf rfl k3.range rfl) rfl rfl (Va (QP rfl rfl (Xi (cs := [.int .i64 0, .int .i64 0, .int .i64 0]) (by kernel_rfl) Qk)) rfl rfl (Pu rfl ?_))))
  refine WL.do (Qh (cs' := [s1, s2, .int .i64 Qd, .bool Qc]) (vs := [s1, s2, .int .i64 Qd, .bool Qc]) rfl Qj rfl rfl rfl (oC h1.one (oC h2.one (oC rfl (oC rfl Qk)))) k8 rfl (nB rfl) rfl) rfl ?_
  rintro _ W27 ⟨k29, o28⟩
  replace k14 := k14.other o28 n18.symm
  clear k8
  replace h1 := h1.only o28 (.tail _ (.head _))
  replace h2 := h2.only o28 (.tail _ (.head _))
  replace hB := o28.below hB l12
  refine WL.do (Qh (cs' := [.int .i64 0, .int .i64 0, .int .i64 0]) (vs := [.int .i64 0, .int .i64 0, .int .i64 0]) rfl Qv rfl rfl rfl (oC rfl (oC rfl (oC rfl Qk))) k14 rfl (nB rfl) rfl) rfl ?_
  rintro _ W30 ⟨k32, o31⟩
  replace k29 := k29.other o31 n18
  clear k14
  replace h1 := h1.only o31 (.head _)
  replace h2 := h2.only o31 (.head _)
  replace hB := o31.below hB l19
  refine Pu rfl (Pu rfl (Ni (hK26 ?_)))
  exact WC.ret fun a_ ha_ => hQ (YO rfl (.agg rfl Qf k29.range rfl) (.agg rfl Qr k32.range rfl) (.tmp rfl) (.tmp rfl) (by rw [QdC (by first | assumption | omega)]; exact ⟨_, _, _, [], rfl, (h1.less (fun x hx => (.tail _ (.tail _ (.tail _ hx))))), (h2.less (fun x hx => (.tail _ (.tail _ (.tail _ hx))))), QC.nil (by decide), (fun r hr => by cases hr), (fun r hr => by cases hr), rfl⟩) hB ha_)
 .
  replace c25 := Q4 c25
  replace c25 := dT c25
  refine WC.skip (hK20 (Sq fun K33 hK33 => ?_))
  obtain ⟨hr1, hr2, hr3, hr4⟩ := UT (Qb := Qb) (Qa := Qa) (Qc := Qc) (by first | assumption | omega)
  refine Rg (Va (Qg rfl Qf rfl k3.range rfl) rfl rfl ?_)
  refine Ge (QO rfl Tryd.func14 rfl rfl rfl (Hs Qb Qa Qd Qc _ _ 0 W23 _ hL h1 h2 hbd (hT.below hB))) rfl rfl ?_
  rintro _ W35 ⟨⟨rs0, lv0, gn0, bb0, rfl, hl0, hs0, hy0, hu0⟩, b34⟩
  replace h1 := h1.below b34
  replace h2 := h2.below b34
  replace k3 := k3.below b34
  replace k8 := k8.below b34
  replace k14 := k14.below b34
  replace hB := Qe hB b34
  replace hL := LL.below hL b34
  refine Pu rfl (Pu rfl (Pu rfl (Pu rfl (Pu rfl (Pu rfl (Pu rfl (Ni ?_)))))))
  refine hK33 (Sq fun K36 hK36 => (Rg (Pu rfl (Ni (hK36 (Sq fun K37 hK37 => (Sq fun K38 hK38 => ?_)))))))
  refine Rg (Va (Qg rfl Qf rfl k3.range rfl) rfl rfl ?_)
  refine Ge (QO rfl Tryd.func14 rfl rfl rfl (Hs Qb Qa Qd Qc _ _ 1 W35 _ hL h1 h2 hbd (hT.below hB))) rfl rfl ?_
  rintro _ W40 ⟨⟨rs1, lv1, gn1, bb1, rfl, hl1, hs1, hy1, hu1⟩, b39⟩
  replace h1 := h1.below b39
  replace h2 := h2.below b39
  replace hl0 := hl0.below b39
  replace hs0 := hs0.below b39
  replace k3 := k3.below b39
  replace k8 := k8.below b39
  replace k14 := k14.below b39
  replace hB := Qe hB b39
  replace hL := LL.below hL b39
  refine Pu rfl (Pu rfl (Pu rfl (Pu rfl (Pu rfl (Pu rfl (Pu rfl (Ni ?_)))))))
  refine hK38 (Sq fun K41 hK41 => (Rg (Pu rfl (Pu rfl ?_))))
  refine WL.split 37 rfl (fun g42 => ?_) (fun g42 => ?_)
  .
   refine Pu rfl (Va (XP rfl rfl) rfl rfl (Pu rfl ?_))
   refine WL.split 40 rfl (fun g43 => ?_) (fun g43 => ?_)
   .
    replace g43 := Q7 g43
    replace g43 := ZN g43
    refine Of rfl (Of rfl (Of rfl (Pu rfl (Pu rfl (Ni (hK41 (WC.condT rfl ?_)))))))
    have hpk : Jq Qb Qa Qc = some (rs1.map Prod.fst, 0) := Qb4 hu0 hu1 (by first | (simp_all; done) | (simp_all; omega))
    refine Rg (Pu rfl (Pu rfl (Pu rfl (Pu rfl (Ni (hK37 (Sq fun K44 hK44 => ?_)))))))
    refine Sq fun K45 hK45 => (Rg (Pu rfl (Va (XP rfl rfl) rfl rfl (Ni (hK45 (WC.condF rfl (WC.skip ?_)))))))
    refine hK44 (Sq fun K46 hK46 => (Rg (Va (Qg rfl Qf rfl k3.range rfl) rfl rfl (Pu rfl (Pu rfl ?_)))))
    refine Ge (QO rfl Tryd.func33 rfl rfl rfl (Er Qb Qa Qd Qc _ _ 0 rs1 lv1 W40 _ hL h1 h2 hl1 hs1 hfu (.inl rfl) (by omega) hbd hy1 (Nat.le_trans hu1.cnt (by omega)) (hT.below hB))) rfl rfl ?_
    rintro _ W48 ⟨⟨a1, a2, rfl, ag1, ag2⟩, b47⟩
    replace h1 := h1.below b47
    replace h2 := h2.below b47
    replace hl0 := hl0.below b47
    replace hs0 := hs0.below b47
    replace hl1 := hl1.below b47
    replace hs1 := hs1.below b47
    replace k3 := k3.below b47
    replace k8 := k8.below b47
    replace k14 := k14.below b47
    replace hB := Qe hB b47
    replace hL := LL.below hL b47
    refine Pu rfl (Pu rfl (Pu rfl (Pu rfl ?_)))
    refine Ge (Qs rfl QU rfl) rfl rfl ?_
    rintro _ W49 ⟨rfl, k50, b51, z52⟩
    have n53 : w.heap.size ≠ W48.heap.size := Nat.ne_of_lt k3.lt
    have n54 : W2.heap.size ≠ W48.heap.size := Nat.ne_of_lt k8.lt
    have n55 : W7.heap.size ≠ W48.heap.size := Nat.ne_of_lt k14.lt
    have l56 := hB.size
    replace h1 := h1.more b51 (Nat.le_refl _)
    replace h2 := h2.more b51 (Nat.le_refl _)
    replace hl0 := hl0.more b51 (Nat.le_refl _)
    replace hs0 := hs0.more b51 (Nat.le_refl _)
    replace hl1 := hl1.more b51 (Nat.le_refl _)
    replace hs1 := hs1.more b51 (Nat.le_refl _)
    replace ag1 := ag1.more b51 (Nat.le_refl _)
    replace ag2 := ag2.more b51 (Nat.le_refl _)
    replace k3 := k3.below b51
    replace k8 := k8.below b51
    replace k14 := k14.below b51
    replace hB := Qe hB b51
    replace hL := LL.more hL z52
    refine Ge (Qs rfl XE rfl) rfl rfl ?_
    rintro _ W57 ⟨rfl, k58, b59, z60⟩
    have n61 : w.heap.size ≠ W49.heap.size := Nat.ne_of_lt k3.lt
    have n62 : W2.heap.size ≠ W49.heap.size := Nat.ne_of_lt k8.lt
    have n63 : W7.heap.size ≠ W49.heap.size := Nat.ne_of_lt k14.lt
    have n64 : W48.heap.size ≠ W49.heap.size := Nat.ne_of_lt k50.lt
    have l65 := hB.size
    replace h1 := h1.more b59 (Nat.le_refl _)
    replace h2 := h2.more b59 (Nat.le_refl _)
    replace hl0 := hl0.more b59 (Nat.le_refl _)
    replace hs0 := hs0.more b59 (Nat.le_refl _)
    replace hl1 := hl1.more b59 (Nat.le_refl _)
    replace hs1 := hs1.more b59 (Nat.le_refl _)
    replace ag1 := ag1.more b59 (Nat.le_refl _)
    replace ag2 := ag2.more b59 (Nat.le_refl _)
    replace k3 := k3.below b59
    replace k8 := k8.below b59
    replace k14 := k14.below b59
    replace k50 := k50.below b59
    replace hB := Qe hB b59
    replace hL := LL.more hL z60
    refine WL.do (Qh (cs' := [a1, a2, .int .i64 ((QQ Qb Qa Qd Qc 0 (rs1.map Prod.fst)).1.Qd), .bool ((QQ Qb Qa Qd Qc 0 (rs1.map Prod.fst)).1.Qc)]) (vs := [a1, a2, .int .i64 ((QQ Qb Qa Qd Qc 0 (rs1.map Prod.fst)).1.Qd), .bool ((QQ Qb Qa Qd Qc 0 (rs1.map Prod.fst)).1.Qc)]) rfl Qj rfl rfl rfl (oC ag1.one (oC ag2.one (oC rfl (oC rfl Qk)))) k50 rfl (nB rfl) rfl) rfl ?_
    rintro _ W66 ⟨k68, o67⟩
    replace k3 := k3.other o67 n53
    replace k8 := k8.other o67 n54
    replace k14 := k14.other o67 n55
    replace k58 := k58.other o67 n64.symm
    clear k50
    replace h1 := h1.only o67 (.tail _ (.head _))
    replace h2 := h2.only o67 (.tail _ (.head _))
    replace hl0 := hl0.only o67 (.tail _ (.head _))
    replace hs0 := hs0.only o67 (.tail _ (.head _))
    replace hl1 := hl1.only o67 (.tail _ (.head _))
    replace hs1 := hs1.only o67 (.tail _ (.head _))
    replace ag1 := ag1.only o67 (.tail _ (.head _))
    replace ag2 := ag2.only o67 (.tail _ (.head _))
    replace hB := o67.below hB l56
    replace hL := LL.only hL o67
    refine WL.do (Qh (cs' := [.int .i64 ((QQ Qb Qa Qd Qc 0 (rs1.map Prod.fst)).2.1), .int .i64 ((QQ Qb Qa Qd Qc 0 (rs1.map Prod.fst)).2.2.1), .int .i64 ((QQ Qb Qa Qd Qc 0 (rs1.map Prod.fst)).2.2.2)]) (vs := [.int .i64 ((QQ Qb Qa Qd Qc 0 (rs1.map Prod.fst)).2.1), .int .i64 ((QQ Qb Qa Qd Qc 0 (rs1.map Prod.fst)).2.2.1), .int .i64 ((QQ Qb Qa Qd Qc 0 (rs1.map Prod.fst)).2.2.2)]) rfl Qv rfl rfl rfl (oC rfl (oC rfl (oC rfl Qk))) k58 rfl (nB rfl) rfl) rfl ?_
    rintro _ W69 ⟨k71, o70⟩
    replace k3 := k3.other o70 n61
    replace k8 := k8.other o70 n62
    replace k14 := k14.other o70 n63
    replace k68 := k68.other o70 n64
    clear k58
    replace h1 := h1.only o70 (.head _)
    replace h2 := h2.only o70 (.head _)
    replace hl0 := hl0.only o70 (.head _)
    replace hs0 := hs0.only o70 (.head _)
    replace hl1 := hl1.only o70 (.head _)
    replace hs1 := hs1.only o70 (.head _)
    replace ag1 := ag1.only o70 (.head _)
    replace ag2 := ag2.only o70 (.head _)
    replace hB := o70.below hB l65
    replace hL := LL.only hL o70
    refine Pu rfl (Ni (hK46 (Sq fun K72 hK72 => (Sq fun K73 hK73 => (Rg (Pu rfl (Va (Xr rfl rfl rfl) rfl rfl ?_)))))))
    refine Ni (hK73 ?_)
    refine WC.cond rfl (fun c74 => ?_) (fun c74 => ?_)
    .
     replace c74 := Q7 c74
     replace c74 := dF c74
     refine Sq fun K75 hK75 => (Rg (Va (Qg rfl Qf rfl k68.range rfl) rfl rfl (Va (QP rfl rfl (Xi (cs := [.int .i64 0, .int .i64 0, .int .i64 0]) (by kernel_rfl) Qk)) rfl rfl (Pu rfl ?_))))
     refine WL.do (Qh (cs' := [a1, a2, .int .i64 ((QQ Qb Qa Qd Qc 0 (rs1.map Prod.fst)).1.Qd), .bool ((QQ Qb Qa Qd Qc 0 (rs1.map Prod.fst)).1.Qc)]) (vs := [a1, a2, .int .i64 ((QQ Qb Qa Qd Qc 0 (rs1.map Prod.fst)).1.Qd), .bool ((QQ Qb Qa Qd Qc 0 (rs1.map Prod.fst)).1.Qc)]) rfl Qj rfl rfl rfl (oC ag1.one (oC ag2.one (oC rfl (oC rfl Qk)))) k8 rfl (nB rfl) rfl) rfl ?_
     rintro _ W76 ⟨k78, o77⟩
     replace k14 := k14.other o77 n18.symm
     clear k8
     replace ag1 := ag1.only o77 (.tail _ (.tail _ (.tail _ (.head _))))
     replace ag2 := ag2.only o77 (.tail _ (.tail _ (.tail _ (.head _))))
     replace hB := o77.below hB l12
     refine WL.do (Qh (cs' := [.int .i64 0, .int .i64 0, .int .i64 0]) (vs := [.int .i64 0, .int .i64 0, .int .i64 0]) rfl Qv rfl rfl rfl (oC rfl (oC rfl (oC rfl Qk))) k14 rfl (nB rfl) rfl) rfl ?_
     rintro _ W79 ⟨k81, o80⟩
     replace k78 := k78.other o80 n18
     clear k14
     replace ag1 := ag1.only o80 (.tail _ (.tail _ (.head _)))
     replace ag2 := ag2.only o80 (.tail _ (.tail _ (.head _)))
     replace hB := o80.below hB l19
     refine Pu rfl (Pu rfl (Ni (hK75 ?_)))
     exact WC.ret fun a_ ha_ => hQ (YO rfl (.agg rfl Qf k78.range rfl) (.agg rfl Qr k81.range rfl) (.tmp rfl) (.tmp rfl) (by rw [KW (by first | assumption | omega) hpk (by assumption)]; exact ⟨_, _, _, [], QdH (U6 (by assumption)), (ag1.less (fun x hx => (.tail _ (.tail _ (.tail _ (.tail _ (.tail _ hx))))))), (ag2.less (fun x hx => (.tail _ (.tail _ (.tail _ (.tail _ (.tail _ hx))))))), QC.nil (by decide), (fun r hr => by cases hr), (fun r hr => by cases hr), rfl⟩) hB ha_)
    .
     replace c74 := Q4 c74
     replace c74 := dT c74
     refine WC.skip (hK72 (Sq fun K82 hK82 => ?_))
     refine WC.drawC 5 [(3, W2.heap.size, [.slice none 0 0, .slice none 0 0, .int .i64 0, .bool false], fun cs_ _ => cs_ = [a1, a2, .int .i64 ((QQ Qb Qa Qd Qc 0 (rs1.map Prod.fst)).1.Qd), .bool ((QQ Qb Qa Qd Qc 0 (rs1.map Prod.fst)).1.Qc)]), (4, W7.heap.size, [.int .i64 0, .int .i64 0, .int .i64 0], fun cs_ _ => cs_ = [.int .i64 ((QQ Qb Qa Qd Qc 0 (rs1.map Prod.fst)).2.1), .int .i64 ((QQ Qb Qa Qd Qc 0 (rs1.map Prod.fst)).2.2.1), .int .i64 ((QQ Qb Qa Qd Qc 0 (rs1.map Prod.fst)).2.2.2)])] [(some 64, .is (.agg #[a1, a2, .int .i64 ((QQ Qb Qa Qd Qc 0 (rs1.map Prod.fst)).1.Qd), .bool ((QQ Qb Qa Qd Qc 0 (rs1.map Prod.fst)).1.Qc)])), (some 65, .is (.agg #[.int .i64 ((QQ Qb Qa Qd Qc 0 (rs1.map Prod.fst)).2.1), .int .i64 ((QQ Qb Qa Qd Qc 0 (rs1.map Prod.fst)).2.2.1), .int .i64 ((QQ Qb Qa Qd Qc 0 (rs1.map Prod.fst)).2.2.2)])), (some 66, .is (lv1)), (none, .by fun _ _ => True), (none, .by fun _ _ => True)] [[], [], [], [0, 0], [1, 3, 0, 1, 3]] ⟨fun _ _ _ _ h => h, fun _ _ _ _ h => h, trivial⟩ (mB ⟨fun _ _ _ _ h => h, fun _ _ _ _ h => h, trivial⟩ ⟨fun _ _ _ _ h => h, fun _ _ _ _ h => h, trivial⟩) ⟨fun x hx => (by simp only [List.mem_cons, List.not_mem_nil, or_false] at hx; subst hx; exact ⟨(show ¬ ((4 : Nat) = 3) by decide), n18.symm⟩), ⟨fun x hx => (by cases hx), trivial⟩⟩ (XF (mB ⟨_, rfl⟩ ⟨_, rfl⟩)) (mB k8 k14) ?_ ?_
     .
      refine Ql.cons rfl (fun Wd hd hbs_ => ?_) ?_
      .
       have k68 := k68.chgM hd (by simp only [List.map_cons, List.map_nil, List.mem_cons, List.not_mem_nil, or_false, not_or]; exact ⟨n54.symm, n55.symm⟩)
       exact Dd (Qg rfl Qf rfl k68.range rfl) rfl
      refine Ql.cons rfl (fun Wd hd hbs_ => ?_) ?_
      .
       have k71 := k71.chgM hd (by simp only [List.map_cons, List.map_nil, List.mem_cons, List.not_mem_nil, or_false, not_or]; exact ⟨n62.symm, n63.symm⟩)
       exact Dd (Qg rfl Qr rfl k71.range rfl) rfl
      refine Ql.cons rfl (fun Wd hd hbs_ => ?_) ?_
      .
       exact Dd (Qt rfl rfl) rfl
      refine Ql.hit rfl (fun Wd hd hb_ => ?_) ?_
      .
       have ag1 := ag1.chgM hd (mB (.tail _ (.tail _ (.tail _ (.head _)))) (.tail _ (.tail _ (.head _))))
       have ag2 := ag2.chgM hd (mB (.tail _ (.tail _ (.tail _ (.head _)))) (.tail _ (.tail _ (.head _))))
       exact (QB (vs := [a1, a2, .int .i64 ((QQ Qb Qa Qd Qc 0 (rs1.map Prod.fst)).1.Qd), .bool ((QQ Qb Qa Qd Qc 0 (rs1.map Prod.fst)).1.Qc)]) rfl Qj rfl rfl rfl (oC ag1.one (oC ag2.one (oC rfl (oC rfl Qk)))) hb_ rfl rfl).mono (fun _ W' h => ⟨h.2, XC.is h.1, trivial⟩)
      refine Ql.hit rfl (fun Wd hd hb_ => ?_) ?_
      .
       intro u14_3 p14_3 u14_3 p14_3
       exact (QB (vs := [.int .i64 ((QQ Qb Qa Qd Qc 0 (rs1.map Prod.fst)).2.1), .int .i64 ((QQ Qb Qa Qd Qc 0 (rs1.map Prod.fst)).2.2.1), .int .i64 ((QQ Qb Qa Qd Qc 0 (rs1.map Prod.fst)).2.2.2)]) rfl Qv rfl rfl rfl (oC rfl (oC rfl (oC rfl Qk))) hb_ rfl rfl).mono (fun _ W' h => ⟨h.2, XC.is h.1, trivial⟩)
      exact trivial
     .
      intro W83 hd hq_
      replace h1 := h1.chgM hd (mB (.tail _ (.tail _ (.tail _ (.head _)))) (.tail _ (.tail _ (.head _))))
      replace h2 := h2.chgM hd (mB (.tail _ (.tail _ (.tail _ (.head _)))) (.tail _ (.tail _ (.head _))))
      replace hl0 := hl0.chgM hd (mB (.tail _ (.tail _ (.tail _ (.head _)))) (.tail _ (.tail _ (.head _))))
      replace hs0 := hs0.chgM hd (mB (.tail _ (.tail _ (.tail _ (.head _)))) (.tail _ (.tail _ (.head _))))
      replace hl1 := hl1.chgM hd (mB (.tail _ (.tail _ (.tail _ (.head _)))) (.tail _ (.tail _ (.head _))))
      replace hs1 := hs1.chgM hd (mB (.tail _ (.tail _ (.tail _ (.head _)))) (.tail _ (.tail _ (.head _))))
      replace ag1 := ag1.chgM hd (mB (.tail _ (.tail _ (.tail _ (.head _)))) (.tail _ (.tail _ (.head _))))
      replace ag2 := ag2.chgM hd (mB (.tail _ (.tail _ (.tail _ (.head _)))) (.tail _ (.tail _ (.head _))))
      replace k3 := k3.chgM hd (by simp only [List.map_cons, List.map_nil, List.mem_cons, List.not_mem_nil, or_false, not_or]; exact ⟨n11, n17⟩)
      replace k68 := k68.chgM hd (by simp only [List.map_cons, List.map_nil, List.mem_cons, List.not_mem_nil, or_false, not_or]; exact ⟨n54.symm, n55.symm⟩)
      replace k71 := k71.chgM hd (by simp only [List.map_cons, List.map_nil, List.mem_cons, List.not_mem_nil, or_false, not_or]; exact ⟨n62.symm, n63.symm⟩)
      have k84 := hq_ _ (.head _)
      replace k84 := XC.blk k84
      have k85 := hq_ _ (.tail _ (.head _))
      replace k85 := XC.blk k85
      replace hB := hd.toBelow hB (mB l12 l19)
      replace hL := hL.chgM hd
      intro _ _
      intro _ _
      refine Pu rfl (Pu rfl (Ni (hK82 ?_)))
      exact WC.ret fun a_ ha_ => hQ (YO rfl (.agg rfl Qf k84.range rfl) (.agg rfl Qr k85.range rfl) (.tmp rfl) (.tmp rfl) (by rw [JZ (by first | assumption | omega) hpk (by first | assumption | exact Classical.not_not.1 (by assumption))]; exact ⟨_, _, _, rs1, KV (by first | assumption | exact Classical.not_not.1 (by assumption)), (ag1.less (fun x hx => (.tail _ (.tail _ (.tail _ (.tail _ (.tail _ hx))))))), (ag2.less (fun x hx => (.tail _ (.tail _ (.tail _ (.tail _ (.tail _ hx))))))), (hl1.less (fun x hx => (.tail _ (.tail _ (.tail _ (.tail _ (.tail _ hx))))))), (hs1.less (fun x hx => (.tail _ (.tail _ (.tail _ (.tail _ (.tail _ hx))))))), hy1, rfl⟩) hB ha_)
   .
    replace g43 := Q4 g43
    refine Pu rfl (Pu rfl (Va (XQ rfl rfl rfl) rfl rfl (Pu rfl (Pu rfl (Ni (hK41 ?_))))))
    refine WC.cond rfl (fun c86 => ?_) (fun c86 => ?_)
    .
     replace c86 := dT c86
     have hpk : Jq Qb Qa Qc = some (rs1.map Prod.fst, 0) := Qb4 hu0 hu1 (by first | (simp_all; done) | (simp_all; omega))
     refine Rg (Pu rfl (Pu rfl (Pu rfl (Pu rfl (Ni (hK37 (Sq fun K87 hK87 => ?_)))))))
     refine Sq fun K88 hK88 => (Rg (Pu rfl (Va (XP rfl rfl) rfl rfl (Ni (hK88 (WC.condF rfl (WC.skip ?_)))))))
     refine hK87 (Sq fun K89 hK89 => (Rg (Va (Qg rfl Qf rfl k3.range rfl) rfl rfl (Pu rfl (Pu rfl ?_)))))
     refine Ge (QO rfl Tryd.func33 rfl rfl rfl (Er Qb Qa Qd Qc _ _ 0 rs1 lv1 W40 _ hL h1 h2 hl1 hs1 hfu (.inl rfl) (by omega) hbd hy1 (Nat.le_trans hu1.cnt (by omega)) (hT.below hB))) rfl rfl ?_
     rintro _ W91 ⟨⟨a1, a2, rfl, ag1, ag2⟩, b90⟩
     replace h1 := h1.below b90
     replace h2 := h2.below b90
     replace hl0 := hl0.below b90
     replace hs0 := hs0.below b90
     replace hl1 := hl1.below b90
     replace hs1 := hs1.below b90
     replace k3 := k3.below b90
     replace k8 := k8.below b90
     replace k14 := k14.below b90
     replace hB := Qe hB b90
     replace hL := LL.below hL b90
     refine Pu rfl (Pu rfl (Pu rfl (Pu rfl ?_)))
     refine Ge (Qs rfl QU rfl) rfl rfl ?_
     rintro _ W92 ⟨rfl, k93, b94, z95⟩
     have n96 : w.heap.size ≠ W91.heap.size := Nat.ne_of_lt k3.lt
     have n97 : W2.heap.size ≠ W91.heap.size := Nat.ne_of_lt k8.lt
     have n98 : W7.heap.size ≠ W91.heap.size := Nat.ne_of_lt k14.lt
     have l99 := hB.size
     replace h1 := h1.more b94 (Nat.le_refl _)
     replace h2 := h2.more b94 (Nat.le_refl _)
     replace hl0 := hl0.more b94 (Nat.le_refl _)
     replace hs0 := hs0.more b94 (Nat.le_refl _)
     replace hl1 := hl1.more b94 (Nat.le_refl _)
     replace hs1 := hs1.more b94 (Nat.le_refl _)
     replace ag1 := ag1.more b94 (Nat.le_refl _)
     replace ag2 := ag2.more b94 (Nat.le_refl _)
     replace k3 := k3.below b94
     replace k8 := k8.below b94
     replace k14 := k14.below b94
     replace hB := Qe hB b94
     replace hL := LL.more hL z95
     refine Ge (Qs rfl XE rfl) rfl rfl ?_
     rintro _ W100 ⟨rfl, k101, b102, z103⟩
     have n104 : w.heap.size ≠ W92.heap.size := Nat.ne_of_lt k3.lt
     have n105 : W2.heap.size ≠ W92.heap.size := Nat.ne_of_lt k8.lt
     have n106 : W7.heap.size ≠ W92.heap.size := Nat.ne_of_lt k14.lt
     have n107 : W91.heap.size ≠ W92.heap.size := Nat.ne_of_lt k93.lt
     have l108 := hB.size
     replace h1 := h1.more b102 (Nat.le_refl _)
     replace h2 := h2.more b102 (Nat.le_refl _)
     replace hl0 := hl0.more b102 (Nat.le_refl _)
     replace hs0 := hs0.more b102 (Nat.le_refl _)
     replace hl1 := hl1.more b102 (Nat.le_refl _)
     replace hs1 := hs1.more b102 (Nat.le_refl _)
     replace ag1 := ag1.more b102 (Nat.le_refl _)
     replace ag2 := ag2.more b102 (Nat.le_refl _)
     replace k3 := k3.below b102
     replace k8 := k8.below b102
     replace k14 := k14.below b102
     replace k93 := k93.below b102
     replace hB := Qe hB b102
     replace hL := LL.more hL z103
     refine WL.do (Qh (cs' := [a1, a2, .int .i64 ((QQ Qb Qa Qd Qc 0 (rs1.map Prod.fst)).1.Qd), .bool ((QQ Qb Qa Qd Qc 0 (rs1.map Prod.fst)).1.Qc)]) (vs := [a1, a2, .int .i64 ((QQ Qb Qa Qd Qc 0 (rs1.map Prod.fst)).1.Qd), .bool ((QQ Qb Qa Qd Qc 0 (rs1.map Prod.fst)).1.Qc)]) rfl Qj rfl rfl rfl (oC ag1.one (oC ag2.one (oC rfl (oC rfl Qk)))) k93 rfl (nB rfl) rfl) rfl ?_
     rintro _ W109 ⟨k111, o110⟩
     replace k3 := k3.other o110 n96
     replace k8 := k8.other o110 n97
     replace k14 := k14.other o110 n98
     replace k101 := k101.other o110 n107.symm
     clear k93
     replace h1 := h1.only o110 (.tail _ (.head _))
     replace h2 := h2.only o110 (.tail _ (.head _))
     replace hl0 := hl0.only o110 (.tail _ (.head _))
     replace hs0 := hs0.only o110 (.tail _ (.head _))
     replace hl1 := hl1.only o110 (.tail _ (.head _))
     replace hs1 := hs1.only o110 (.tail _ (.head _))
     replace ag1 := ag1.only o110 (.tail _ (.head _))
     replace ag2 := ag2.only o110 (.tail _ (.head _))
     replace hB := o110.below hB l99
     replace hL := LL.only hL o110
     refine WL.do (Qh (cs' := [.int .i64 ((QQ Qb Qa Qd Qc 0 (rs1.map Prod.fst)).2.1), .int .i64 ((QQ Qb Qa Qd Qc 0 (rs1.map Prod.fst)).2.2.1), .int .i64 ((QQ Qb Qa Qd Qc 0 (rs1.map Prod.fst)).2.2.2)]) (vs := [.int .i64 ((QQ Qb Qa Qd Qc 0 (rs1.map Prod.fst)).2.1), .int .i64 ((QQ Qb Qa Qd Qc 0 (rs1.map Prod.fst)).2.2.1), .int .i64 ((QQ Qb Qa Qd Qc 0 (rs1.map Prod.fst)).2.2.2)]) rfl Qv rfl rfl rfl (oC rfl (oC rfl (oC rfl Qk))) k101 rfl (nB rfl) rfl) rfl ?_
     rintro _ W112 ⟨k114, o113⟩
     replace k3 := k3.other o113 n104
     replace k8 := k8.other o113 n105
     replace k14 := k14.other o113 n106
     replace k111 := k111.other o113 n107
     clear k101
     replace h1 := h1.only o113 (.head _)
     replace h2 := h2.only o113 (.head _)
     replace hl0 := hl0.only o113 (.head _)
     replace hs0 := hs0.only o113 (.head _)
     replace hl1 := hl1.only o113 (.head _)
     replace hs1 := hs1.only o113 (.head _)
     replace ag1 := ag1.only o113 (.head _)
     replace ag2 := ag2.only o113 (.head _)
     replace hB := o113.below hB l108
     replace hL := LL.only hL o113
     refine Pu rfl (Ni (hK89 (Sq fun K115 hK115 => (Sq fun K116 hK116 => (Rg (Pu rfl (Va (Xr rfl rfl rfl) rfl rfl ?_)))))))
     refine Ni (hK116 ?_)
     refine WC.cond rfl (fun c117 => ?_) (fun c117 => ?_)
     .
      replace c117 := Q7 c117
      replace c117 := dF c117
      refine Sq fun K118 hK118 => (Rg (Va (Qg rfl Qf rfl k111.range rfl) rfl rfl (Va (QP rfl rfl (Xi (cs := [.int .i64 0, .int .i64 0, .int .i64 0]) (by kernel_rfl) Qk)) rfl rfl (Pu rfl ?_))))
      refine WL.do (Qh (cs' := [a1, a2, .int .i64 ((QQ Qb Qa Qd Qc 0 (rs1.map Prod.fst)).1.Qd), .bool ((QQ Qb Qa Qd Qc 0 (rs1.map Prod.fst)).1.Qc)]) (vs := [a1, a2, .int .i64 ((QQ Qb Qa Qd Qc 0 (rs1.map Prod.fst)).1.Qd), .bool ((QQ Qb Qa Qd Qc 0 (rs1.map Prod.fst)).1.Qc)]) rfl Qj rfl rfl rfl (oC ag1.one (oC ag2.one (oC rfl (oC rfl Qk)))) k8 rfl (nB rfl) rfl) rfl ?_
      rintro _ W119 ⟨k121, o120⟩
      replace k14 := k14.other o120 n18.symm
      clear k8
      replace ag1 := ag1.only o120 (.tail _ (.tail _ (.tail _ (.head _))))
      replace ag2 := ag2.only o120 (.tail _ (.tail _ (.tail _ (.head _))))
      replace hB := o120.below hB l12
      refine WL.do (Qh (cs' := [.int .i64 0, .int .i64 0, .int .i64 0]) (vs := [.int .i64 0, .int .i64 0, .int .i64 0]) rfl Qv rfl rfl rfl (oC rfl (oC rfl (oC rfl Qk))) k14 rfl (nB rfl) rfl) rfl ?_
      rintro _ W122 ⟨k124, o123⟩
      replace k121 := k121.other o123 n18
      clear k14
      replace ag1 := ag1.only o123 (.tail _ (.tail _ (.head _)))
      replace ag2 := ag2.only o123 (.tail _ (.tail _ (.head _)))
      replace hB := o123.below hB l19
      refine Pu rfl (Pu rfl (Ni (hK118 ?_)))
      exact WC.ret fun a_ ha_ => hQ (YO rfl (.agg rfl Qf k121.range rfl) (.agg rfl Qr k124.range rfl) (.tmp rfl) (.tmp rfl) (by rw [KW (by first | assumption | omega) hpk (by assumption)]; exact ⟨_, _, _, [], QdH (U6 (by assumption)), (ag1.less (fun x hx => (.tail _ (.tail _ (.tail _ (.tail _ (.tail _ hx))))))), (ag2.less (fun x hx => (.tail _ (.tail _ (.tail _ (.tail _ (.tail _ hx))))))), QC.nil (by decide), (fun r hr => by cases hr), (fun r hr => by cases hr), rfl⟩) hB ha_)
     .
      replace c117 := Q4 c117
      replace c117 := dT c117
      refine WC.skip (hK115 (Sq fun K125 hK125 => ?_))
      refine WC.drawC 5 [(3, W2.heap.size, [.slice none 0 0, .slice none 0 0, .int .i64 0, .bool false], fun cs_ _ => cs_ = [a1, a2, .int .i64 ((QQ Qb Qa Qd Qc 0 (rs1.map Prod.fst)).1.Qd), .bool ((QQ Qb Qa Qd Qc 0 (rs1.map Prod.fst)).1.Qc)]), (4, W7.heap.size, [.int .i64 0, .int .i64 0, .int .i64 0], fun cs_ _ => cs_ = [.int .i64 ((QQ Qb Qa Qd Qc 0 (rs1.map Prod.fst)).2.1), .int .i64 ((QQ Qb Qa Qd Qc 0 (rs1.map Prod.fst)).2.2.1), .int .i64 ((QQ Qb Qa Qd Qc 0 (rs1.map Prod.fst)).2.2.2)])] [(some 64, .is (.agg #[a1, a2, .int .i64 ((QQ Qb Qa Qd Qc 0 (rs1.map Prod.fst)).1.Qd), .bool ((QQ Qb Qa Qd Qc 0 (rs1.map Prod.fst)).1.Qc)])), (some 65, .is (.agg #[.int .i64 ((QQ Qb Qa Qd Qc 0 (rs1.map Prod.fst)).2.1), .int .i64 ((QQ Qb Qa Qd Qc 0 (rs1.map Prod.fst)).2.2.1), .int .i64 ((QQ Qb Qa Qd Qc 0 (rs1.map Prod.fst)).2.2.2)])), (some 66, .is (lv1)), (none, .by fun _ _ => True), (none, .by fun _ _ => True)] [[], [], [], [0, 0], [1, 3, 0, 1, 3]] ⟨fun _ _ _ _ h => h, fun _ _ _ _ h => h, trivial⟩ (mB ⟨fun _ _ _ _ h => h, fun _ _ _ _ h => h, trivial⟩ ⟨fun _ _ _ _ h => h, fun _ _ _ _ h => h, trivial⟩) ⟨fun x hx => (by simp only [List.mem_cons, List.not_mem_nil, or_false] at hx; subst hx; exact ⟨(show ¬ ((4 : Nat) = 3) by decide), n18.symm⟩), ⟨fun x hx => (by cases hx), trivial⟩⟩ (XF (mB ⟨_, rfl⟩ ⟨_, rfl⟩)) (mB k8 k14) ?_ ?_
      .
       refine Ql.cons rfl (fun Wd hd hbs_ => ?_) ?_
       .
        have k111 := k111.chgM hd (by simp only [List.map_cons, List.map_nil, List.mem_cons, List.not_mem_nil, or_false, not_or]; exact ⟨n97.symm, n98.symm⟩)
        exact Dd (Qg rfl Qf rfl k111.range rfl) rfl
       refine Ql.cons rfl (fun Wd hd hbs_ => ?_) ?_
       .
        have k114 := k114.chgM hd (by simp only [List.map_cons, List.map_nil, List.mem_cons, List.not_mem_nil, or_false, not_or]; exact ⟨n105.symm, n106.symm⟩)
        exact Dd (Qg rfl Qr rfl k114.range rfl) rfl
       refine Ql.cons rfl (fun Wd hd hbs_ => ?_) ?_
       .
        exact Dd (Qt rfl rfl) rfl
       refine Ql.hit rfl (fun Wd hd hb_ => ?_) ?_
       .
        have ag1 := ag1.chgM hd (mB (.tail _ (.tail _ (.tail _ (.head _)))) (.tail _ (.tail _ (.head _))))
        have ag2 := ag2.chgM hd (mB (.tail _ (.tail _ (.tail _ (.head _)))) (.tail _ (.tail _ (.head _))))
        exact (QB (vs := [a1, a2, .int .i64 ((QQ Qb Qa Qd Qc 0 (rs1.map Prod.fst)).1.Qd), .bool ((QQ Qb Qa Qd Qc 0 (rs1.map Prod.fst)).1.Qc)]) rfl Qj rfl rfl rfl (oC ag1.one (oC ag2.one (oC rfl (oC rfl Qk)))) hb_ rfl rfl).mono (fun _ W' h => ⟨h.2, XC.is h.1, trivial⟩)
       refine Ql.hit rfl (fun Wd hd hb_ => ?_) ?_
       .
        intro u14_3 p14_3 u14_3 p14_3
        exact (QB (vs := [.int .i64 ((QQ Qb Qa Qd Qc 0 (rs1.map Prod.fst)).2.1), .int .i64 ((QQ Qb Qa Qd Qc 0 (rs1.map Prod.fst)).2.2.1), .int .i64 ((QQ Qb Qa Qd Qc 0 (rs1.map Prod.fst)).2.2.2)]) rfl Qv rfl rfl rfl (oC rfl (oC rfl (oC rfl Qk))) hb_ rfl rfl).mono (fun _ W' h => ⟨h.2, XC.is h.1, trivial⟩)
       exact trivial
      .
       intro W126 hd hq_
       replace h1 := h1.chgM hd (mB (.tail _ (.tail _ (.tail _ (.head _)))) (.tail _ (.tail _ (.head _))))
       replace h2 := h2.chgM hd (mB (.tail _ (.tail _ (.tail _ (.head _)))) (.tail _ (.tail _ (.head _))))
       replace hl0 := hl0.chgM hd (mB (.tail _ (.tail _ (.tail _ (.head _)))) (.tail _ (.tail _ (.head _))))
       replace hs0 := hs0.chgM hd (mB (.tail _ (.tail _ (.tail _ (.head _)))) (.tail _ (.tail _ (.head _))))
       replace hl1 := hl1.chgM hd (mB (.tail _ (.tail _ (.tail _ (.head _)))) (.tail _ (.tail _ (.head _))))
       replace hs1 := hs1.chgM hd (mB (.tail _ (.tail _ (.tail _ (.head _)))) (.tail _ (.tail _ (.head _))))
       replace ag1 := ag1.chgM hd (mB (.tail _ (.tail _ (.tail _ (.head _)))) (.tail _ (.tail _ (.head _))))
       replace ag2 := ag2.chgM hd (mB (.tail _ (.tail _ (.tail _ (.head _)))) (.tail _ (.tail _ (.head _))))
       replace k3 := k3.chgM hd (by simp only [List.map_cons, List.map_nil, List.mem_cons, List.not_mem_nil, or_false, not_or]; exact ⟨n11, n17⟩)
       replace k111 := k111.chgM hd (by simp only [List.map_cons, List.map_nil, List.mem_cons, List.not_mem_nil, or_false, not_or]; exact ⟨n97.symm, n98.symm⟩)
       replace k114 := k114.chgM hd (by simp only [List.map_cons, List.map_nil, List.mem_cons, List.not_mem_nil, or_false, not_or]; exact ⟨n105.symm, n106.symm⟩)
       have k127 := hq_ _ (.head _)
       replace k127 := XC.blk k127
       have k128 := hq_ _ (.tail _ (.head _))
       replace k128 := XC.blk k128
       replace hB := hd.toBelow hB (mB l12 l19)
       replace hL := hL.chgM hd
       intro _ _
       intro _ _
       refine Pu rfl (Pu rfl (Ni (hK125 ?_)))
       exact WC.ret fun a_ ha_ => hQ (YO rfl (.agg rfl Qf k127.range rfl) (.agg rfl Qr k128.range rfl) (.tmp rfl) (.tmp rfl) (by rw [JZ (by first | assumption | omega) hpk (by first | assumption | exact Classical.not_not.1 (by assumption))]; exact ⟨_, _, _, rs1, KV (by first | assumption | exact Classical.not_not.1 (by assumption)), (ag1.less (fun x hx => (.tail _ (.tail _ (.tail _ (.tail _ (.tail _ hx))))))), (ag2.less (fun x hx => (.tail _ (.tail _ (.tail _ (.tail _ (.tail _ hx))))))), (hl1.less (fun x hx => (.tail _ (.tail _ (.tail _ (.tail _ (.tail _ hx))))))), (hs1.less (fun x hx => (.tail _ (.tail _ (.tail _ (.tail _ (.tail _ hx))))))), hy1, rfl⟩) hB ha_)
    .
     replace c86 := dF c86
     refine WC.skip (hK37 (Sq fun K129 hK129 => (Sq fun K130 hK130 => ?_)))
     have hnp : ¬ (bb1 = true /\ (bb0 = false \/ gn0 < gn1)) := by first | (simp_all; done) | (simp_all; omega) | skip
     refine Rg (Pu rfl (Va (XP rfl rfl) rfl rfl (Ni (hK130 ?_))))
     refine WC.cond rfl (fun c131 => ?_) (fun c131 => ?_)
     .
      replace c131 := Q7 c131
      replace c131 := ZN c131
      refine Sq fun K132 hK132 => (Rg (Va (Qg rfl Qf rfl k3.range rfl) rfl rfl (Va (QP rfl rfl (Xi (cs := [.int .i64 0, .int .i64 0, .int .i64 0]) (by kernel_rfl) Qk)) rfl rfl ?_)))
      refine WL.do (Qh (cs' := [s1, s2, .int .i64 Qd, .bool Qc]) (vs := [s1, s2, .int .i64 Qd, .bool Qc]) rfl Qj rfl rfl rfl (oC h1.one (oC h2.one (oC rfl (oC rfl Qk)))) k8 rfl (nB rfl) rfl) rfl ?_
      rintro _ W133 ⟨k135, o134⟩
      replace k14 := k14.other o134 n18.symm
      clear k8
      replace h1 := h1.only o134 (.tail _ (.head _))
      replace h2 := h2.only o134 (.tail _ (.head _))
      replace hB := o134.below hB l12
      refine WL.do (Qh (cs' := [.int .i64 0, .int .i64 0, .int .i64 0]) (vs := [.int .i64 0, .int .i64 0, .int .i64 0]) rfl Qv rfl rfl rfl (oC rfl (oC rfl (oC rfl Qk))) k14 rfl (nB rfl) rfl) rfl ?_
      rintro _ W136 ⟨k138, o137⟩
      replace k135 := k135.other o137 n18
      clear k14
      replace h1 := h1.only o137 (.head _)
      replace h2 := h2.only o137 (.head _)
      replace hB := o137.below hB l19
      refine Pu rfl (Pu rfl (Ni (hK132 ?_)))
      exact WC.ret fun a_ ha_ => hQ (YO rfl (.agg rfl Qf k135.range rfl) (.agg rfl Qr k138.range rfl) (.tmp rfl) (.tmp rfl) (by rw [DQ (by first | assumption | omega) (Qb3 hu0 hu1 hnp (by first | assumption | (simp_all; done)))]; exact ⟨_, _, _, [], rfl, (h1.less (fun x hx => (.tail _ (.tail _ (.tail _ hx))))), (h2.less (fun x hx => (.tail _ (.tail _ (.tail _ hx))))), QC.nil (by decide), (fun r hr => by cases hr), (fun r hr => by cases hr), rfl⟩) hB ha_)
     .
      replace c131 := Q4 c131
      refine WC.skip (hK129 (Sq fun K139 hK139 => ?_))
      have hpk : Jq Qb Qa Qc = some (rs0.map Prod.fst, 1) := Qb5 hu0 hu1 hnp (by first | assumption | (simp_all; done))
      refine Rg (Va (Qg rfl Qf rfl k3.range rfl) rfl rfl (Pu rfl (Pu rfl ?_)))
      refine Ge (QO rfl Tryd.func33 rfl rfl rfl (Er Qb Qa Qd Qc _ _ 1 rs0 lv0 W40 _ hL h1 h2 hl0 hs0 hfu (.inr rfl) (by omega) hbd hy0 (Nat.le_trans hu0.cnt (by omega)) (hT.below hB))) rfl rfl ?_
      rintro _ W141 ⟨⟨a1, a2, rfl, ag1, ag2⟩, b140⟩
      replace h1 := h1.below b140
      replace h2 := h2.below b140
      replace hl0 := hl0.below b140
      replace hs0 := hs0.below b140
      replace hl1 := hl1.below b140
      replace hs1 := hs1.below b140
      replace k3 := k3.below b140
      replace k8 := k8.below b140
      replace k14 := k14.below b140
      replace hB := Qe hB b140
      replace hL := LL.below hL b140
      refine Pu rfl (Pu rfl (Pu rfl (Pu rfl ?_)))
      refine Ge (Qs rfl QU rfl) rfl rfl ?_
      rintro _ W142 ⟨rfl, k143, b144, z145⟩
      have n146 : w.heap.size ≠ W141.heap.size := Nat.ne_of_lt k3.lt
      have n147 : W2.heap.size ≠ W141.heap.size := Nat.ne_of_lt k8.lt
      have n148 : W7.heap.size ≠ W141.heap.size := Nat.ne_of_lt k14.lt
      have l149 := hB.size
      replace h1 := h1.more b144 (Nat.le_refl _)
      replace h2 := h2.more b144 (Nat.le_refl _)
      replace hl0 := hl0.more b144 (Nat.le_refl _)
      replace hs0 := hs0.more b144 (Nat.le_refl _)
      replace hl1 := hl1.more b144 (Nat.le_refl _)
      replace hs1 := hs1.more b144 (Nat.le_refl _)
      replace ag1 := ag1.more b144 (Nat.le_refl _)
      replace ag2 := ag2.more b144 (Nat.le_refl _)
      replace k3 := k3.below b144
      replace k8 := k8.below b144
      replace k14 := k14.below b144
      replace hB := Qe hB b144
      replace hL := LL.more hL z145
      refine Ge (Qs rfl XE rfl) rfl rfl ?_
      rintro _ W150 ⟨rfl, k151, b152, z153⟩
      have n154 : w.heap.size ≠ W142.heap.size := Nat.ne_of_lt k3.lt
      have n155 : W2.heap.size ≠ W142.heap.size := Nat.ne_of_lt k8.lt
      have n156 : W7.heap.size ≠ W142.heap.size := Nat.ne_of_lt k14.lt
      have n157 : W141.heap.size ≠ W142.heap.size := Nat.ne_of_lt k143.lt
      have l158 := hB.size
      replace h1 := h1.more b152 (Nat.le_refl _)
      replace h2 := h2.more b152 (Nat.le_refl _)
      replace hl0 := hl0.more b152 (Nat.le_refl _)
      replace hs0 := hs0.more b152 (Nat.le_refl _)
      replace hl1 := hl1.more b152 (Nat.le_refl _)
      replace hs1 := hs1.more b152 (Nat.le_refl _)
      replace ag1 := ag1.more b152 (Nat.le_refl _)
      replace ag2 := ag2.more b152 (Nat.le_refl _)
      replace k3 := k3.below b152
      replace k8 := k8.below b152
      replace k14 := k14.below b152
      replace k143 := k143.below b152
      replace hB := Qe hB b152
      replace hL := LL.more hL z153
      refine WL.do (Qh (cs' := [a1, a2, .int .i64 ((QQ Qb Qa Qd Qc 1 (rs0.map Prod.fst)).1.Qd), .bool ((QQ Qb Qa Qd Qc 1 (rs0.map Prod.fst)).1.Qc)]) (vs := [a1, a2, .int .i64 ((QQ Qb Qa Qd Qc 1 (rs0.map Prod.fst)).1.Qd), .bool ((QQ Qb Qa Qd Qc 1 (rs0.map Prod.fst)).1.Qc)]) rfl Qj rfl rfl rfl (oC ag1.one (oC ag2.one (oC rfl (oC rfl Qk)))) k143 rfl (nB rfl) rfl) rfl ?_
      rintro _ W159 ⟨k161, o160⟩
      replace k3 := k3.other o160 n146
      replace k8 := k8.other o160 n147
      replace k14 := k14.other o160 n148
      replace k151 := k151.other o160 n157.symm
      clear k143
      replace h1 := h1.only o160 (.tail _ (.head _))
      replace h2 := h2.only o160 (.tail _ (.head _))
      replace hl0 := hl0.only o160 (.tail _ (.head _))
      replace hs0 := hs0.only o160 (.tail _ (.head _))
      replace hl1 := hl1.only o160 (.tail _ (.head _))
      replace hs1 := hs1.only o160 (.tail _ (.head _))
      replace ag1 := ag1.only o160 (.tail _ (.head _))
      replace ag2 := ag2.only o160 (.tail _ (.head _))
      replace hB := o160.below hB l149
      replace hL := LL.only hL o160
      refine WL.do (Qh (cs' := [.int .i64 ((QQ Qb Qa Qd Qc 1 (rs0.map Prod.fst)).2.1), .int .i64 ((QQ Qb Qa Qd Qc 1 (rs0.map Prod.fst)).2.2.1), .int .i64 ((QQ Qb Qa Qd Qc 1 (rs0.map Prod.fst)).2.2.2)]) (vs := [.int .i64 ((QQ Qb Qa Qd Qc 1 (rs0.map Prod.fst)).2.1), .int .i64 ((QQ Qb Qa Qd Qc 1 (rs0.map Prod.fst)).2.2.1), .int .i64 ((QQ Qb Qa Qd Qc 1 (rs0.map Prod.fst)).2.2.2)]) rfl Qv rfl rfl rfl (oC rfl (oC rfl (oC rfl Qk))) k151 rfl (nB rfl) rfl) rfl ?_
      rintro _ W162 ⟨k164, o163⟩
      replace k3 := k3.other o163 n154
      replace k8 := k8.other o163 n155
      replace k14 := k14.other o163 n156
      replace k161 := k161.other o163 n157
      clear k151
      replace h1 := h1.only o163 (.head _)
      replace h2 := h2.only o163 (.head _)
      replace hl0 := hl0.only o163 (.head _)
      replace hs0 := hs0.only o163 (.head _)
      replace hl1 := hl1.only o163 (.head _)
      replace hs1 := hs1.only o163 (.head _)
      replace ag1 := ag1.only o163 (.head _)
      replace ag2 := ag2.only o163 (.head _)
      replace hB := o163.below hB l158
      replace hL := LL.only hL o163
      refine Pu rfl (Ni (hK139 (Sq fun K165 hK165 => (Sq fun K166 hK166 => (Rg (Pu rfl (Va (Xr rfl rfl rfl) rfl rfl ?_)))))))
      refine Ni (hK166 ?_)
      refine WC.cond rfl (fun c167 => ?_) (fun c167 => ?_)
      .
       replace c167 := Q7 c167
       replace c167 := dF c167
       refine Sq fun K168 hK168 => (Rg (Va (Qg rfl Qf rfl k161.range rfl) rfl rfl (Va (QP rfl rfl (Xi (cs := [.int .i64 0, .int .i64 0, .int .i64 0]) (by kernel_rfl) Qk)) rfl rfl (Pu rfl ?_))))
       refine WL.do (Qh (cs' := [a1, a2, .int .i64 ((QQ Qb Qa Qd Qc 1 (rs0.map Prod.fst)).1.Qd), .bool ((QQ Qb Qa Qd Qc 1 (rs0.map Prod.fst)).1.Qc)]) (vs := [a1, a2, .int .i64 ((QQ Qb Qa Qd Qc 1 (rs0.map Prod.fst)).1.Qd), .bool ((QQ Qb Qa Qd Qc 1 (rs0.map Prod.fst)).1.Qc)]) rfl Qj rfl rfl rfl (oC ag1.one (oC ag2.one (oC rfl (oC rfl Qk)))) k8 rfl (nB rfl) rfl) rfl ?_
       rintro _ W169 ⟨k171, o170⟩
       replace k14 := k14.other o170 n18.symm
       clear k8
       replace ag1 := ag1.only o170 (.tail _ (.tail _ (.tail _ (.head _))))
       replace ag2 := ag2.only o170 (.tail _ (.tail _ (.tail _ (.head _))))
       replace hB := o170.below hB l12
       refine WL.do (Qh (cs' := [.int .i64 0, .int .i64 0, .int .i64 0]) (vs := [.int .i64 0, .int .i64 0, .int .i64 0]) rfl Qv rfl rfl rfl (oC rfl (oC rfl (oC rfl Qk))) k14 rfl (nB rfl) rfl) rfl ?_
       rintro _ W172 ⟨k174, o173⟩
       replace k171 := k171.other o173 n18
       clear k14
       replace ag1 := ag1.only o173 (.tail _ (.tail _ (.head _)))
       replace ag2 := ag2.only o173 (.tail _ (.tail _ (.head _)))
       replace hB := o173.below hB l19
       refine Pu rfl (Pu rfl (Ni (hK168 ?_)))
       exact WC.ret fun a_ ha_ => hQ (YO rfl (.agg rfl Qf k171.range rfl) (.agg rfl Qr k174.range rfl) (.tmp rfl) (.tmp rfl) (by rw [KW (by first | assumption | omega) hpk (by assumption)]; exact ⟨_, _, _, [], QdH (U6 (by assumption)), (ag1.less (fun x hx => (.tail _ (.tail _ (.tail _ (.tail _ (.tail _ hx))))))), (ag2.less (fun x hx => (.tail _ (.tail _ (.tail _ (.tail _ (.tail _ hx))))))), QC.nil (by decide), (fun r hr => by cases hr), (fun r hr => by cases hr), rfl⟩) hB ha_)
      .
       replace c167 := Q4 c167
       replace c167 := dT c167
       refine WC.skip (hK165 (Sq fun K175 hK175 => ?_))
       refine WC.drawC 5 [(3, W2.heap.size, [.slice none 0 0, .slice none 0 0, .int .i64 0, .bool false], fun cs_ _ => cs_ = [a1, a2, .int .i64 ((QQ Qb Qa Qd Qc 1 (rs0.map Prod.fst)).1.Qd), .bool ((QQ Qb Qa Qd Qc 1 (rs0.map Prod.fst)).1.Qc)]), (4, W7.heap.size, [.int .i64 0, .int .i64 0, .int .i64 0], fun cs_ _ => cs_ = [.int .i64 ((QQ Qb Qa Qd Qc 1 (rs0.map Prod.fst)).2.1), .int .i64 ((QQ Qb Qa Qd Qc 1 (rs0.map Prod.fst)).2.2.1), .int .i64 ((QQ Qb Qa Qd Qc 1 (rs0.map Prod.fst)).2.2.2)])] [(some 64, .is (.agg #[a1, a2, .int .i64 ((QQ Qb Qa Qd Qc 1 (rs0.map Prod.fst)).1.Qd), .bool ((QQ Qb Qa Qd Qc 1 (rs0.map Prod.fst)).1.Qc)])), (some 65, .is (.agg #[.int .i64 ((QQ Qb Qa Qd Qc 1 (rs0.map Prod.fst)).2.1), .int .i64 ((QQ Qb Qa Qd Qc 1 (rs0.map Prod.fst)).2.2.1), .int .i64 ((QQ Qb Qa Qd Qc 1 (rs0.map Prod.fst)).2.2.2)])), (some 66, .is (lv0)), (none, .by fun _ _ => True), (none, .by fun _ _ => True)] [[], [], [], [0, 0], [1, 3, 0, 1, 3]] ⟨fun _ _ _ _ h => h, fun _ _ _ _ h => h, trivial⟩ (mB ⟨fun _ _ _ _ h => h, fun _ _ _ _ h => h, trivial⟩ ⟨fun _ _ _ _ h => h, fun _ _ _ _ h => h, trivial⟩) ⟨fun x hx => (by simp only [List.mem_cons, List.not_mem_nil, or_false] at hx; subst hx; exact ⟨(show ¬ ((4 : Nat) = 3) by decide), n18.symm⟩), ⟨fun x hx => (by cases hx), trivial⟩⟩ (XF (mB ⟨_, rfl⟩ ⟨_, rfl⟩)) (mB k8 k14) ?_ ?_
       .
        refine Ql.cons rfl (fun Wd hd hbs_ => ?_) ?_
        .
         have k161 := k161.chgM hd (by simp only [List.map_cons, List.map_nil, List.mem_cons, List.not_mem_nil, or_false, not_or]; exact ⟨n147.symm, n148.symm⟩)
         exact Dd (Qg rfl Qf rfl k161.range rfl) rfl
        refine Ql.cons rfl (fun Wd hd hbs_ => ?_) ?_
        .
         have k164 := k164.chgM hd (by simp only [List.map_cons, List.map_nil, List.mem_cons, List.not_mem_nil, or_false, not_or]; exact ⟨n155.symm, n156.symm⟩)
         exact Dd (Qg rfl Qr rfl k164.range rfl) rfl
        refine Ql.cons rfl (fun Wd hd hbs_ => ?_) ?_
        .
         exact Dd (Qt rfl rfl) rfl
        refine Ql.hit rfl (fun Wd hd hb_ => ?_) ?_
        .
         have ag1 := ag1.chgM hd (mB (.tail _ (.tail _ (.tail _ (.head _)))) (.tail _ (.tail _ (.head _))))
         have ag2 := ag2.chgM hd (mB (.tail _ (.tail _ (.tail _ (.head _)))) (.tail _ (.tail _ (.head _))))
         exact (QB (vs := [a1, a2, .int .i64 ((QQ Qb Qa Qd Qc 1 (rs0.map Prod.fst)).1.Qd), .bool ((QQ Qb Qa Qd Qc 1 (rs0.map Prod.fst)).1.Qc)]) rfl Qj rfl rfl rfl (oC ag1.one (oC ag2.one (oC rfl (oC rfl Qk)))) hb_ rfl rfl).mono (fun _ W' h => ⟨h.2, XC.is h.1, trivial⟩)
        refine Ql.hit rfl (fun Wd hd hb_ => ?_) ?_
        .
         intro u14_3 p14_3 u14_3 p14_3
         exact (QB (vs := [.int .i64 ((QQ Qb Qa Qd Qc 1 (rs0.map Prod.fst)).2.1), .int .i64 ((QQ Qb Qa Qd Qc 1 (rs0.map Prod.fst)).2.2.1), .int .i64 ((QQ Qb Qa Qd Qc 1 (rs0.map Prod.fst)).2.2.2)]) rfl Qv rfl rfl rfl (oC rfl (oC rfl (oC rfl Qk))) hb_ rfl rfl).mono (fun _ W' h => ⟨h.2, XC.is h.1, trivial⟩)
        exact trivial
       .
        intro W176 hd hq_
        replace h1 := h1.chgM hd (mB (.tail _ (.tail _ (.tail _ (.head _)))) (.tail _ (.tail _ (.head _))))
        replace h2 := h2.chgM hd (mB (.tail _ (.tail _ (.tail _ (.head _)))) (.tail _ (.tail _ (.head _))))
        replace hl0 := hl0.chgM hd (mB (.tail _ (.tail _ (.tail _ (.head _)))) (.tail _ (.tail _ (.head _))))
        replace hs0 := hs0.chgM hd (mB (.tail _ (.tail _ (.tail _ (.head _)))) (.tail _ (.tail _ (.head _))))
        replace hl1 := hl1.chgM hd (mB (.tail _ (.tail _ (.tail _ (.head _)))) (.tail _ (.tail _ (.head _))))
        replace hs1 := hs1.chgM hd (mB (.tail _ (.tail _ (.tail _ (.head _)))) (.tail _ (.tail _ (.head _))))
        replace ag1 := ag1.chgM hd (mB (.tail _ (.tail _ (.tail _ (.head _)))) (.tail _ (.tail _ (.head _))))
        replace ag2 := ag2.chgM hd (mB (.tail _ (.tail _ (.tail _ (.head _)))) (.tail _ (.tail _ (.head _))))
        replace k3 := k3.chgM hd (by simp only [List.map_cons, List.map_nil, List.mem_cons, List.not_mem_nil, or_false, not_or]; exact ⟨n11, n17⟩)
        replace k161 := k161.chgM hd (by simp only [List.map_cons, List.map_nil, List.mem_cons, List.not_mem_nil, or_false, not_or]; exact ⟨n147.symm, n148.symm⟩)
        replace k164 := k164.chgM hd (by simp only [List.map_cons, List.map_nil, List.mem_cons, List.not_mem_nil, or_false, not_or]; exact ⟨n155.symm, n156.symm⟩)
        have k177 := hq_ _ (.head _)
        replace k177 := XC.blk k177
        have k178 := hq_ _ (.tail _ (.head _))
        replace k178 := XC.blk k178
        replace hB := hd.toBelow hB (mB l12 l19)
        replace hL := hL.chgM hd
        intro _ _
        intro _ _
        refine Pu rfl (Pu rfl (Ni (hK175 ?_)))
        exact WC.ret fun a_ ha_ => hQ (YO rfl (.agg rfl Qf k177.range rfl) (.agg rfl Qr k178.range rfl) (.tmp rfl) (.tmp rfl) (by rw [JZ (by first | assumption | omega) hpk (by first | assumption | exact Classical.not_not.1 (by assumption))]; exact ⟨_, _, _, rs0, KV (by first | assumption | exact Classical.not_not.1 (by assumption)), (ag1.less (fun x hx => (.tail _ (.tail _ (.tail _ (.tail _ (.tail _ hx))))))), (ag2.less (fun x hx => (.tail _ (.tail _ (.tail _ (.tail _ (.tail _ hx))))))), (hl0.less (fun x hx => (.tail _ (.tail _ (.tail _ (.tail _ (.tail _ hx))))))), (hs0.less (fun x hx => (.tail _ (.tail _ (.tail _ (.tail _ (.tail _ hx))))))), hy0, rfl⟩) hB ha_)
  .
   replace g42 := ZN g42
   refine Of rfl (Of rfl (Of rfl (Of rfl (Of rfl (Of rfl (Of rfl (Pu rfl ?_)))))))
   refine Ni (hK41 (WC.condF rfl (WC.skip (hK37 (Sq fun K179 hK179 => (Sq fun K180 hK180 => ?_))))))
   have hnp : ¬ (bb1 = true /\ (bb0 = false \/ gn0 < gn1)) := by first | (simp_all; done) | (simp_all; omega) | skip
   refine Rg (Pu rfl (Va (XP rfl rfl) rfl rfl (Ni (hK180 ?_))))
   refine WC.cond rfl (fun c181 => ?_) (fun c181 => ?_)
   .
    replace c181 := Q7 c181
    replace c181 := ZN c181
    refine Sq fun K182 hK182 => (Rg (Va (Qg rfl Qf rfl k3.range rfl) rfl rfl (Va (QP rfl rfl (Xi (cs := [.int .i64 0, .int .i64 0, .int .i64 0]) (by kernel_rfl) Qk)) rfl rfl ?_)))
    refine WL.do (Qh (cs' := [s1, s2, .int .i64 Qd, .bool Qc]) (vs := [s1, s2, .int .i64 Qd, .bool Qc]) rfl Qj rfl rfl rfl (oC h1.one (oC h2.one (oC rfl (oC rfl Qk)))) k8 rfl (nB rfl) rfl) rfl ?_
    rintro _ W183 ⟨k185, o184⟩
    replace k14 := k14.other o184 n18.symm
    clear k8
    replace h1 := h1.only o184 (.tail _ (.head _))
    replace h2 := h2.only o184 (.tail _ (.head _))
    replace hB := o184.below hB l12
    refine WL.do (Qh (cs' := [.int .i64 0, .int .i64 0, .int .i64 0]) (vs := [.int .i64 0, .int .i64 0, .int .i64 0]) rfl Qv rfl rfl rfl (oC rfl (oC rfl (oC rfl Qk))) k14 rfl (nB rfl) rfl) rfl ?_
    rintro _ W186 ⟨k188, o187⟩
    replace k185 := k185.other o187 n18
    clear k14
    replace h1 := h1.only o187 (.head _)
    replace h2 := h2.only o187 (.head _)
    replace hB := o187.below hB l19
    refine Pu rfl (Pu rfl (Ni (hK182 ?_)))
    exact WC.ret fun a_ ha_ => hQ (YO rfl (.agg rfl Qf k185.range rfl) (.agg rfl Qr k188.range rfl) (.tmp rfl) (.tmp rfl) (by rw [DQ (by first | assumption | omega) (Qb3 hu0 hu1 hnp (by first | assumption | (simp_all; done)))]; exact ⟨_, _, _, [], rfl, (h1.less (fun x hx => (.tail _ (.tail _ (.tail _ hx))))), (h2.less (fun x hx => (.tail _ (.tail _ (.tail _ hx))))), QC.nil (by decide), (fun r hr => by cases hr), (fun r hr => by cases hr), rfl⟩) hB ha_)
   .
    replace c181 := Q4 c181
    refine WC.skip (hK179 (Sq fun K189 hK189 => ?_))
    have hpk : Jq Qb Qa Qc = some (rs0.map Prod.fst, 1) := Qb5 hu0 hu1 hnp (by first | assumption | (simp_all; done))
    refine Rg (Va (Qg rfl Qf rfl k3.range rfl) rfl rfl (Pu rfl (Pu rfl ?_)))
    refine Ge (QO rfl Tryd.func33 rfl rfl rfl (Er Qb Qa Qd Qc _ _ 1 rs0 lv0 W40 _ hL h1 h2 hl0 hs0 hfu (.inr rfl) (by omega) hbd hy0 (Nat.le_trans hu0.cnt (by omega)) (hT.below hB))) rfl rfl ?_
    rintro _ W191 ⟨⟨a1, a2, rfl, ag1, ag2⟩, b190⟩
    replace h1 := h1.below b190
    replace h2 := h2.below b190
    replace hl0 := hl0.below b190
    replace hs0 := hs0.below b190
    replace hl1 := hl1.below b190
    replace hs1 := hs1.below b190
    replace k3 := k3.below b190
    replace k8 := k8.below b190
    replace k14 := k14.below b190
    replace hB := Qe hB b190
    replace hL := LL.below hL b190
    refine Pu rfl (Pu rfl (Pu rfl (Pu rfl ?_)))
    refine Ge (Qs rfl QU rfl) rfl rfl ?_
    rintro _ W192 ⟨rfl, k193, b194, z195⟩
    have n196 : w.heap.size ≠ W191.heap.size := Nat.ne_of_lt k3.lt
    have n197 : W2.heap.size ≠ W191.heap.size := Nat.ne_of_lt k8.lt
    have n198 : W7.heap.size ≠ W191.heap.size := Nat.ne_of_lt k14.lt
    have l199 := hB.size
    replace h1 := h1.more b194 (Nat.le_refl _)
    replace h2 := h2.more b194 (Nat.le_refl _)
    replace hl0 := hl0.more b194 (Nat.le_refl _)
    replace hs0 := hs0.more b194 (Nat.le_refl _)
    replace hl1 := hl1.more b194 (Nat.le_refl _)
    replace hs1 := hs1.more b194 (Nat.le_refl _)
    replace ag1 := ag1.more b194 (Nat.le_refl _)
    replace ag2 := ag2.more b194 (Nat.le_refl _)
    replace k3 := k3.below b194
    replace k8 := k8.below b194
    replace k14 := k14.below b194
    replace hB := Qe hB b194
    replace hL := LL.more hL z195
    refine Ge (Qs rfl XE rfl) rfl rfl ?_
    rintro _ W200 ⟨rfl, k201, b202, z203⟩
    have n204 : w.heap.size ≠ W192.heap.size := Nat.ne_of_lt k3.lt
    have n205 : W2.heap.size ≠ W192.heap.size := Nat.ne_of_lt k8.lt
    have n206 : W7.heap.size ≠ W192.heap.size := Nat.ne_of_lt k14.lt
    have n207 : W191.heap.size ≠ W192.heap.size := Nat.ne_of_lt k193.lt
    have l208 := hB.size
    replace h1 := h1.more b202 (Nat.le_refl _)
    replace h2 := h2.more b202 (Nat.le_refl _)
    replace hl0 := hl0.more b202 (Nat.le_refl _)
    replace hs0 := hs0.more b202 (Nat.le_refl _)
    replace hl1 := hl1.more b202 (Nat.le_refl _)
    replace hs1 := hs1.more b202 (Nat.le_refl _)
    replace ag1 := ag1.more b202 (Nat.le_refl _)
    replace ag2 := ag2.more b202 (Nat.le_refl _)
    replace k3 := k3.below b202
    replace k8 := k8.below b202
    replace k14 := k14.below b202
    replace k193 := k193.below b202
    replace hB := Qe hB b202
    replace hL := LL.more hL z203
    refine WL.do (Qh (cs' := [a1, a2, .int .i64 ((QQ Qb Qa Qd Qc 1 (rs0.map Prod.fst)).1.Qd), .bool ((QQ Qb Qa Qd Qc 1 (rs0.map Prod.fst)).1.Qc)]) (vs := [a1, a2, .int .i64 ((QQ Qb Qa Qd Qc 1 (rs0.map Prod.fst)).1.Qd), .bool ((QQ Qb Qa Qd Qc 1 (rs0.map Prod.fst)).1.Qc)]) rfl Qj rfl rfl rfl (oC ag1.one (oC ag2.one (oC rfl (oC rfl Qk)))) k193 rfl (nB rfl) rfl) rfl ?_
    rintro _ W209 ⟨k211, o210⟩
    replace k3 := k3.other o210 n196
    replace k8 := k8.other o210 n197
    replace k14 := k14.other o210 n198
    replace k201 := k201.other o210 n207.symm
    clear k193
    replace h1 := h1.only o210 (.tail _ (.head _))
    replace h2 := h2.only o210 (.tail _ (.head _))
    replace hl0 := hl0.only o210 (.tail _ (.head _))
    replace hs0 := hs0.only o210 (.tail _ (.head _))
    replace hl1 := hl1.only o210 (.tail _ (.head _))
    replace hs1 := hs1.only o210 (.tail _ (.head _))
    replace ag1 := ag1.only o210 (.tail _ (.head _))
    replace ag2 := ag2.only o210 (.tail _ (.head _))
    replace hB := o210.below hB l199
    replace hL := LL.only hL o210
    refine WL.do (Qh (cs' := [.int .i64 ((QQ Qb Qa Qd Qc 1 (rs0.map Prod.fst)).2.1), .int .i64 ((QQ Qb Qa Qd Qc 1 (rs0.map Prod.fst)).2.2.1), .int .i64 ((QQ Qb Qa Qd Qc 1 (rs0.map Prod.fst)).2.2.2)]) (vs := [.int .i64 ((QQ Qb Qa Qd Qc 1 (rs0.map Prod.fst)).2.1), .int .i64 ((QQ Qb Qa Qd Qc 1 (rs0.map Prod.fst)).2.2.1), .int .i64 ((QQ Qb Qa Qd Qc 1 (rs0.map Prod.fst)).2.2.2)]) rfl Qv rfl rfl rfl (oC rfl (oC rfl (oC rfl Qk))) k201 rfl (nB rfl) rfl) rfl ?_
    rintro _ W212 ⟨k214, o213⟩
    replace k3 := k3.other o213 n204
    replace k8 := k8.other o213 n205
    replace k14 := k14.other o213 n206
    replace k211 := k211.other o213 n207
    clear k201
    replace h1 := h1.only o213 (.head _)
    replace h2 := h2.only o213 (.head _)
    replace hl0 := hl0.only o213 (.head _)
    replace hs0 := hs0.only o213 (.head _)
    replace hl1 := hl1.only o213 (.head _)
    replace hs1 := hs1.only o213 (.head _)
    replace ag1 := ag1.only o213 (.head _)
    replace ag2 := ag2.only o213 (.head _)
    replace hB := o213.below hB l208
    replace hL := LL.only hL o213
    refine Pu rfl (Ni (hK189 (Sq fun K215 hK215 => (Sq fun K216 hK216 => (Rg (Pu rfl (Va (Xr rfl rfl rfl) rfl rfl ?_)))))))
    refine Ni (hK216 ?_)
    refine WC.cond rfl (fun c217 => ?_) (fun c217 => ?_)
    .
     replace c217 := Q7 c217
     replace c217 := dF c217
     refine Sq fun K218 hK218 => (Rg (Va (Qg rfl Qf rfl k211.range rfl) rfl rfl (Va (QP rfl rfl (Xi (cs := [.int .i64 0, .int .i64 0, .int .i64 0]) (by kernel_rfl) Qk)) rfl rfl (Pu rfl ?_))))
     refine WL.do (Qh (cs' := [a1, a2, .int .i64 ((QQ Qb Qa Qd Qc 1 (rs0.map Prod.fst)).1.Qd), .bool ((QQ Qb Qa Qd Qc 1 (rs0.map Prod.fst)).1.Qc)]) (vs := [a1, a2, .int .i64 ((QQ Qb Qa Qd Qc 1 (rs0.map Prod.fst)).1.Qd), .bool ((QQ Qb Qa Qd Qc 1 (rs0.map Prod.fst)).1.Qc)]) rfl Qj rfl rfl rfl (oC ag1.one (oC ag2.one (oC rfl (oC rfl Qk)))) k8 rfl (nB rfl) rfl) rfl ?_
     rintro _ W219 ⟨k221, o220⟩
     replace k14 := k14.other o220 n18.symm
     clear k8
     replace ag1 := ag1.only o220 (.tail _ (.tail _ (.tail _ (.head _))))
     replace ag2 := ag2.only o220 (.tail _ (.tail _ (.tail _ (.head _))))
     replace hB := o220.below hB l12
     refine WL.do (Qh (cs' := [.int .i64 0, .int .i64 0, .int .i64 0]) (vs := [.int .i64 0, .int .i64 0, .int .i64 0]) rfl Qv rfl rfl rfl (oC rfl (oC rfl (oC rfl Qk))) k14 rfl (nB rfl) rfl) rfl ?_
     rintro _ W222 ⟨k224, o223⟩
     replace k221 := k221.other o223 n18
     clear k14
     replace ag1 := ag1.only o223 (.tail _ (.tail _ (.head _)))
     replace ag2 := ag2.only o223 (.tail _ (.tail _ (.head _)))
     replace hB := o223.below hB l19
     refine Pu rfl (Pu rfl (Ni (hK218 ?_)))
     exact WC.ret fun a_ ha_ => hQ (YO rfl (.agg rfl Qf k221.range rfl) (.agg rfl Qr k224.range rfl) (.tmp rfl) (.tmp rfl) (by rw [KW (by first | assumption | omega) hpk (by assumption)]; exact ⟨_, _, _, [], QdH (U6 (by assumption)), (ag1.less (fun x hx => (.tail _ (.tail _ (.tail _ (.tail _ (.tail _ hx))))))), (ag2.less (fun x hx => (.tail _ (.tail _ (.tail _ (.tail _ (.tail _ hx))))))), QC.nil (by decide), (fun r hr => by cases hr), (fun r hr => by cases hr), rfl⟩) hB ha_)
    .
     replace c217 := Q4 c217
     replace c217 := dT c217
     refine WC.skip (hK215 (Sq fun K225 hK225 => ?_))
     refine WC.drawC 5 [(3, W2.heap.size, [.slice none 0 0, .slice none 0 0, .int .i64 0, .bool false], fun cs_ _ => cs_ = [a1, a2, .int .i64 ((QQ Qb Qa Qd Qc 1 (rs0.map Prod.fst)).1.Qd), .bool ((QQ Qb Qa Qd Qc 1 (rs0.map Prod.fst)).1.Qc)]), (4, W7.heap.size, [.int .i64 0, .int .i64 0, .int .i64 0], fun cs_ _ => cs_ = [.int .i64 ((QQ Qb Qa Qd Qc 1 (rs0.map Prod.fst)).2.1), .int .i64 ((QQ Qb Qa Qd Qc 1 (rs0.map Prod.fst)).2.2.1), .int .i64 ((QQ Qb Qa Qd Qc 1 (rs0.map Prod.fst)).2.2.2)])] [(some 64, .is (.agg #[a1, a2, .int .i64 ((QQ Qb Qa Qd Qc 1 (rs0.map Prod.fst)).1.Qd), .bool ((QQ Qb Qa Qd Qc 1 (rs0.map Prod.fst)).1.Qc)])), (some 65, .is (.agg #[.int .i64 ((QQ Qb Qa Qd Qc 1 (rs0.map Prod.fst)).2.1), .int .i64 ((QQ Qb Qa Qd Qc 1 (rs0.map Prod.fst)).2.2.1), .int .i64 ((QQ Qb Qa Qd Qc 1 (rs0.map Prod.fst)).2.2.2)])), (some 66, .is (lv0)), (none, .by fun _ _ => True), (none, .by fun _ _ => True)] [[], [], [], [0, 0], [1, 3, 0, 1, 3]] ⟨fun _ _ _ _ h => h, fun _ _ _ _ h => h, trivial⟩ (mB ⟨fun _ _ _ _ h => h, fun _ _ _ _ h => h, trivial⟩ ⟨fun _ _ _ _ h => h, fun _ _ _ _ h => h, trivial⟩) ⟨fun x hx => (by simp only [List.mem_cons, List.not_mem_nil, or_false] at hx; subst hx; exact ⟨(show ¬ ((4 : Nat) = 3) by decide), n18.symm⟩), ⟨fun x hx => (by cases hx), trivial⟩⟩ (XF (mB ⟨_, rfl⟩ ⟨_, rfl⟩)) (mB k8 k14) ?_ ?_
     .
      refine Ql.cons rfl (fun Wd hd hbs_ => ?_) ?_
      .
       have k211 := k211.chgM hd (by simp only [List.map_cons, List.map_nil, List.mem_cons, List.not_mem_nil, or_false, not_or]; exact ⟨n197.symm, n198.symm⟩)
       exact Dd (Qg rfl Qf rfl k211.range rfl) rfl
      refine Ql.cons rfl (fun Wd hd hbs_ => ?_) ?_
      .
       have k214 := k214.chgM hd (by simp only [List.map_cons, List.map_nil, List.mem_cons, List.not_mem_nil, or_false, not_or]; exact ⟨n205.symm, n206.symm⟩)
       exact Dd (Qg rfl Qr rfl k214.range rfl) rfl
      refine Ql.cons rfl (fun Wd hd hbs_ => ?_) ?_
      .
       exact Dd (Qt rfl rfl) rfl
      refine Ql.hit rfl (fun Wd hd hb_ => ?_) ?_
      .
       have ag1 := ag1.chgM hd (mB (.tail _ (.tail _ (.tail _ (.head _)))) (.tail _ (.tail _ (.head _))))
       have ag2 := ag2.chgM hd (mB (.tail _ (.tail _ (.tail _ (.head _)))) (.tail _ (.tail _ (.head _))))
       exact (QB (vs := [a1, a2, .int .i64 ((QQ Qb Qa Qd Qc 1 (rs0.map Prod.fst)).1.Qd), .bool ((QQ Qb Qa Qd Qc 1 (rs0.map Prod.fst)).1.Qc)]) rfl Qj rfl rfl rfl (oC ag1.one (oC ag2.one (oC rfl (oC rfl Qk)))) hb_ rfl rfl).mono (fun _ W' h => ⟨h.2, XC.is h.1, trivial⟩)
      refine Ql.hit rfl (fun Wd hd hb_ => ?_) ?_
      .
       intro u14_3 p14_3 u14_3 p14_3
       exact (QB (vs := [.int .i64 ((QQ Qb Qa Qd Qc 1 (rs0.map Prod.fst)).2.1), .int .i64 ((QQ Qb Qa Qd Qc 1 (rs0.map Prod.fst)).2.2.1), .int .i64 ((QQ Qb Qa Qd Qc 1 (rs0.map Prod.fst)).2.2.2)]) rfl Qv rfl rfl rfl (oC rfl (oC rfl (oC rfl Qk))) hb_ rfl rfl).mono (fun _ W' h => ⟨h.2, XC.is h.1, trivial⟩)
      exact trivial
     .
      intro W226 hd hq_
      replace h1 := h1.chgM hd (mB (.tail _ (.tail _ (.tail _ (.head _)))) (.tail _ (.tail _ (.head _))))
      replace h2 := h2.chgM hd (mB (.tail _ (.tail _ (.tail _ (.head _)))) (.tail _ (.tail _ (.head _))))
      replace hl0 := hl0.chgM hd (mB (.tail _ (.tail _ (.tail _ (.head _)))) (.tail _ (.tail _ (.head _))))
      replace hs0 := hs0.chgM hd (mB (.tail _ (.tail _ (.tail _ (.head _)))) (.tail _ (.tail _ (.head _))))
      replace hl1 := hl1.chgM hd (mB (.tail _ (.tail _ (.tail _ (.head _)))) (.tail _ (.tail _ (.head _))))
      replace hs1 := hs1.chgM hd (mB (.tail _ (.tail _ (.tail _ (.head _)))) (.tail _ (.tail _ (.head _))))
      replace ag1 := ag1.chgM hd (mB (.tail _ (.tail _ (.tail _ (.head _)))) (.tail _ (.tail _ (.head _))))
      replace ag2 := ag2.chgM hd (mB (.tail _ (.tail _ (.tail _ (.head _)))) (.tail _ (.tail _ (.head _))))
      replace k3 := k3.chgM hd (by simp only [List.map_cons, List.map_nil, List.mem_cons, List.not_mem_nil, or_false, not_or]; exact ⟨n11, n17⟩)
      replace k211 := k211.chgM hd (by simp only [List.map_cons, List.map_nil, List.mem_cons, List.not_mem_nil, or_false, not_or]; exact ⟨n197.symm, n198.symm⟩)
      replace k214 := k214.chgM hd (by simp only [List.map_cons, List.map_nil, List.mem_cons, List.not_mem_nil, or_false, not_or]; exact ⟨n205.symm, n206.symm⟩)
      have k227 := hq_ _ (.head _)
      replace k227 := XC.blk k227
      have k228 := hq_ _ (.tail _ (.head _))
      replace k228 := XC.blk k228
      replace hB := hd.toBelow hB (mB l12 l19)
      replace hL := hL.chgM hd
      intro _ _
      intro _ _
      refine Pu rfl (Pu rfl (Ni (hK225 ?_)))
      exact WC.ret fun a_ ha_ => hQ (YO rfl (.agg rfl Qf k227.range rfl) (.agg rfl Qr k228.range rfl) (.tmp rfl) (.tmp rfl) (by rw [JZ (by first | assumption | omega) hpk (by first | assumption | exact Classical.not_not.1 (by assumption))]; exact ⟨_, _, _, rs0, KV (by first | assumption | exact Classical.not_not.1 (by assumption)), (ag1.less (fun x hx => (.tail _ (.tail _ (.tail _ (.tail _ (.tail _ hx))))))), (ag2.less (fun x hx => (.tail _ (.tail _ (.tail _ (.tail _ (.tail _ hx))))))), (hl0.less (fun x hx => (.tail _ (.tail _ (.tail _ (.tail _ (.tail _ hx))))))), (hs0.less (fun x hx => (.tail _ (.tail _ (.tail _ (.tail _ (.tail _ hx))))))), hy0, rfl⟩) hB ha_)

theorem Yv.chgM {L : List Nat} {w w' : World} {rs : List PV} (h : Yv L w rs) {Cs : List Nat} (g : Vv Cs w w') (hC : ∀ C ∈ Cs, C ∈ L) : Yv L w' rs := fun q hq => (h q hq).chgM g hC
theorem Qco {n half gen used : Int} (h : Yn n half gen used = 0) : (half = 0 \/ half = 1) /\ 1 <= gen /\ gen <= 1099511627776 /\ 1 <= used /\ used <= n / 2 := by
 unfold Yn at h
 split at h
 . cases h
 . omega
section
variable {Qb : List (List Int)} {Qa : List (Int × List Int)} {Qd : Int} {Qc : Bool} {half gen used : Int} {rec : List Int} {l : List (List Int)}
theorem KB (h : ¬ XA Qb Qa Qc = 0) : QW Qb Qa Qd Qc half gen used rec = (⟨Qb, Qa, Qd, Qc, XA Qb Qa Qc⟩, half, gen, used) := if_pos h
theorem HN (h : XA Qb Qa Qc = 0) (h2 : ¬ Yn (Qb.length : Int) half gen used = 0) : QW Qb Qa Qd Qc half gen used rec = (⟨Qb, Qa, Qd, Qc, Yn (Qb.length : Int) half gen used⟩, half, gen, used) := by unfold QW; rw [if_neg (fun q => q h), if_pos h2]
theorem HQ (h : XA Qb Qa Qc = 0) (h2 : Yn (Qb.length : Int) half gen used = 0) (h3 : 4096 < rec.length) : QW Qb Qa Qd Qc half gen used rec = (⟨Qb, Qa, Qd, Qc, 3⟩, half, gen, used) := by unfold QW; rw [if_neg (fun q => q h), if_neg (fun q => q h2), if_pos h3]
theorem HR (h : XA Qb Qa Qc = 0) (h2 : Yn (Qb.length : Int) half gen used = 0) (h3 : ¬ 4096 < rec.length) (h4 : (Qb.length : Int) / 2 < used + X2 (rec.length : Int)) : QW Qb Qa Qd Qc half gen used rec = (⟨Qb, Qa, Qd, Qc, 10⟩, half, gen, used) := by unfold QW; rw [if_neg (fun q => q h), if_neg (fun q => q h2), if_neg h3, if_pos h4]
theorem HO (h : XA Qb Qa Qc = 0) (h2 : Yn (Qb.length : Int) half gen used = 0) (h3 : ¬ 4096 < rec.length) (h4 : ¬ (Qb.length : Int) / 2 < used + X2 (rec.length : Int)) {d : DO} (hd : d = QT (Xx Qb Qa Qd Qc) (half * ((Qb.length : Int) / 2)) (Xo gen used rec)) (he : (Xw (Xx Qb Qa Qd Qc) (XI d)).err = 0) : QW Qb Qa Qd Qc half gen used rec = (Xw (Xx Qb Qa Qd Qc) (XI d), half, gen, used + X2 (rec.length : Int)) := by
 subst hd
 unfold QW; rw [if_neg (fun q => q h), if_neg (fun q => q h2), if_neg h3, if_neg h4]; exact if_pos he
theorem HM (h : XA Qb Qa Qc = 0) (h2 : Yn (Qb.length : Int) half gen used = 0) (h3 : ¬ 4096 < rec.length) (h4 : ¬ (Qb.length : Int) / 2 < used + X2 (rec.length : Int)) {d : DO} (hd : d = QT (Xx Qb Qa Qd Qc) (half * ((Qb.length : Int) / 2)) (Xo gen used rec)) (he : ¬ (Xw (Xx Qb Qa Qd Qc) (XI d)).err = 0) : QW Qb Qa Qd Qc half gen used rec = (Xw (Xx Qb Qa Qd Qc) (XI d), half, gen, used) := by
 subst hd
 unfold QW; rw [if_neg (fun q => q h), if_neg (fun q => q h2), if_neg h3, if_neg h4]; exact if_neg he
theorem QbA (n : Int) : 0 <= X2 n /\ X2 n <= 41 := by
 unfold X2
 split
 . omega
 . split <;> omega
end
set_option maxHeartbeats 1000000 in
theorem EF (Qb : List (List Int)) (Qa : List (Int × List Int)) (Qd : Int) (Qc : Bool) (s1 s2 : Value) (half gen used : Int) (rec : List Int) (rv : Value) (w : World) (L : List Nat) (hL : LL L w) (h1 : QC 128 L w s1 (Qb.map Qq)) (h2 : QC 129 L w s2 (Qa.map QD)) (h3 : QC 1 L w rv (Vq rec))  (hfu : -9223372036854775808 <= Qd /\ Qd <= 9223372036854775807) (hbd : YJ Qb Qa) (hrb : ZX rec) (hul : -9223372036854775808 <= used /\ used <= 9223372036854775807) (hrm : rec.length <= 1000000000) (hT : ZF w) : CV Tryd.prog 18 [.agg #[s1, s2, .int .i64 Qd, .bool Qc], .agg #[.int .i64 half, .int .i64 gen, .int .i64 used], rv] w fun v W => ∃ t1 t2, v = .tuple #[.agg #[t1, t2, .int .i64 (QW Qb Qa Qd Qc half gen used rec).1.Qd, .bool (QW Qb Qa Qd Qc half gen used rec).1.Qc], .agg #[.int .i64 (QW Qb Qa Qd Qc half gen used rec).2.1, .int .i64 (QW Qb Qa Qd Qc half gen used rec).2.2.1, .int .i64 (QW Qb Qa Qd Qc half gen used rec).2.2.2], .int .i64 (QW Qb Qa Qd Qc half gen used rec).1.err] /\ QC 128 L W t1 ((QW Qb Qa Qd Qc half gen used rec).1.Qb.map Qq) /\ QC 129 L W t2 ((QW Qb Qa Qd Qc half gen used rec).1.Qa.map QD) := by
 refine QL (N := 93) (f := [(0, .agg #[s1, s2, .int .i64 Qd, .bool Qc]), (1, .agg #[.int .i64 half, .int .i64 gen, .int .i64 used]), (2, rv)]) Tryd.func18 rfl rfl rfl rfl fun Q hQ hE => ?_
 have hB := Below.refl w.heap.size w
 have h1m : Qb.length <= maxLen := by have := h1.len; rwa [List.length_map] at this
 unfold maxLen at h1m
 have h2m : Qa.length <= maxLen := by have := h2.len; rwa [List.length_map] at this
 unfold maxLen at h2m
 refine Sq fun K1 hK1 => (Rg ?_)
 refine Ge (Xb rfl rfl rfl) rfl rfl ?_
 rintro _ W2 ⟨rfl, k3, b4, z5⟩
 have l6 := hB.size
 replace h1 := h1.more b4 (Nat.le_refl _)
 replace h2 := h2.more b4 (Nat.le_refl _)
 replace h3 := h3.more b4 (Nat.le_refl _)
 replace hB := Qe hB b4
 replace hL := LL.more hL z5
 refine Ge (Xb rfl rfl rfl) rfl rfl ?_
 rintro _ W7 ⟨rfl, k8, b9, z10⟩
 have n11 : w.heap.size ≠ W2.heap.size := Nat.ne_of_lt k3.lt
 have l12 := hB.size
 replace h1 := h1.more b9 (Nat.le_refl _)
 replace h2 := h2.more b9 (Nat.le_refl _)
 replace h3 := h3.more b9 (Nat.le_refl _)
 replace k3 := k3.below b9
 replace hB := Qe hB b9
 replace hL := LL.more hL z10
 refine Ge (Qs rfl QU rfl) rfl rfl ?_
 rintro _ W13 ⟨rfl, k14, b15, z16⟩
 have n17 : w.heap.size ≠ W7.heap.size := Nat.ne_of_lt k3.lt
 have n18 : W2.heap.size ≠ W7.heap.size := Nat.ne_of_lt k8.lt
 have l19 := hB.size
 replace h1 := h1.more b15 (Nat.le_refl _)
 replace h2 := h2.more b15 (Nat.le_refl _)
 replace h3 := h3.more b15 (Nat.le_refl _)
 replace k3 := k3.below b15
 replace k8 := k8.below b15
 replace hB := Qe hB b15
 replace hL := LL.more hL z16
 refine Ge (Qs rfl XE rfl) rfl rfl ?_
 rintro _ W20 ⟨rfl, k21, b22, z23⟩
 have n24 : w.heap.size ≠ W13.heap.size := Nat.ne_of_lt k3.lt
 have n25 : W2.heap.size ≠ W13.heap.size := Nat.ne_of_lt k8.lt
 have n26 : W7.heap.size ≠ W13.heap.size := Nat.ne_of_lt k14.lt
 have l27 := hB.size
 replace h1 := h1.more b22 (Nat.le_refl _)
 replace h2 := h2.more b22 (Nat.le_refl _)
 replace h3 := h3.more b22 (Nat.le_refl _)
 replace k3 := k3.below b22
 replace k8 := k8.below b22
 replace k14 := k14.below b22
 replace hB := Qe hB b22
 replace hL := LL.more hL z23
 refine Pu rfl (Ni (hK1 (Sq fun K28 hK28 => (Sq fun K29 hK29 => (Rg (Va (Qg rfl Qf rfl k3.range rfl) rfl rfl ?_))))))
 refine Ge (QO rfl Tryd.func32 rfl rfl rfl (Gc Qb Qa Qd Qc _ _ W20 _ hL h1 h2)) rfl rfl ?_
 rintro _ W31 ⟨rfl, b30⟩
 replace h1 := h1.below b30
 replace h2 := h2.below b30
 replace h3 := h3.below b30
 replace k3 := k3.below b30
 replace k8 := k8.below b30
 replace k14 := k14.below b30
 replace k21 := k21.below b30
 replace hB := Qe hB b30
 replace hL := LL.below hL b30
 refine Pu rfl (Ni (hK29 (Sq fun K32 hK32 => (Rg (Pu rfl (Va (Xr rfl rfl rfl) rfl rfl (Ni ?_)))))))
 refine hK32 ?_
 refine WC.cond rfl (fun c33 => ?_) (fun c33 => ?_)
 .
  replace c33 := Q7 c33
  replace c33 := dF c33
  refine Sq fun K34 hK34 => ?_
  refine WC.drawC 5 [(3, W7.heap.size, [.slice none 0 0, .slice none 0 0, .int .i64 0, .bool false], fun cs_ _ => cs_ = [s1, s2, .int .i64 Qd, .bool Qc]), (4, W13.heap.size, [.int .i64 0, .int .i64 0, .int .i64 0], fun cs_ _ => cs_ = [.int .i64 half, .int .i64 gen, .int .i64 used])] [(some 20, .is (.agg #[s1, s2, .int .i64 Qd, .bool Qc])), (some 21, .is (.agg #[.int .i64 half, .int .i64 gen, .int .i64 used])), (some 22, .is (.int .i64 (XA Qb Qa Qc))), (none, .by fun _ _ => True), (none, .by fun _ _ => True)] [[], [], [], [0, 0], [1, 3, 0, 1, 3]] ⟨fun _ _ _ _ h => h, fun _ _ _ _ h => h, trivial⟩ (mB ⟨fun _ _ _ _ h => h, fun _ _ _ _ h => h, trivial⟩ ⟨fun _ _ _ _ h => h, fun _ _ _ _ h => h, trivial⟩) ⟨fun x hx => (by simp only [List.mem_cons, List.not_mem_nil, or_false] at hx; subst hx; exact ⟨(show ¬ ((4 : Nat) = 3) by decide), n26.symm⟩), ⟨fun x hx => (by cases hx), trivial⟩⟩ (XF (mB ⟨_, rfl⟩ ⟨_, rfl⟩)) (mB k14 k21) ?_ ?_
  .
   refine Ql.cons rfl (fun Wd hd hbs_ => ?_) ?_
   .
    have k3 := k3.chgM hd (by simp only [List.map_cons, List.map_nil, List.mem_cons, List.not_mem_nil, or_false, not_or]; exact ⟨n17, n24⟩)
    exact Dd (Qg rfl Qf rfl k3.range rfl) rfl
   refine Ql.cons rfl (fun Wd hd hbs_ => ?_) ?_
   .
    have k8 := k8.chgM hd (by simp only [List.map_cons, List.map_nil, List.mem_cons, List.not_mem_nil, or_false, not_or]; exact ⟨n18, n25⟩)
    exact Dd (Qg rfl Qr rfl k8.range rfl) rfl
   refine Ql.cons rfl (fun Wd hd hbs_ => ?_) ?_
   .
    exact Dd (Qt rfl rfl) rfl
   refine Ql.hit rfl (fun Wd hd hb_ => ?_) ?_
   .
    have h1 := h1.chgM hd (mB (.tail _ (.head _)) (.head _))
    have h2 := h2.chgM hd (mB (.tail _ (.head _)) (.head _))
    exact (QB (vs := [s1, s2, .int .i64 Qd, .bool Qc]) rfl Qj rfl rfl rfl (oC h1.one (oC h2.one (oC rfl (oC rfl Qk)))) hb_ rfl rfl).mono (fun _ W' h => ⟨h.2, XC.is h.1, trivial⟩)
   refine Ql.hit rfl (fun Wd hd hb_ => ?_) ?_
   .
    intro u3_3 p3_3 u3_3 p3_3
    exact (QB (vs := [.int .i64 half, .int .i64 gen, .int .i64 used]) rfl Qv rfl rfl rfl (oC rfl (oC rfl (oC rfl Qk))) hb_ rfl rfl).mono (fun _ W' h => ⟨h.2, XC.is h.1, trivial⟩)
   exact trivial
  .
   intro W35 hd hq_
   replace h1 := h1.chgM hd (mB (.tail _ (.head _)) (.head _))
   replace h2 := h2.chgM hd (mB (.tail _ (.head _)) (.head _))
   replace h3 := h3.chgM hd (mB (.tail _ (.head _)) (.head _))
   replace k3 := k3.chgM hd (by simp only [List.map_cons, List.map_nil, List.mem_cons, List.not_mem_nil, or_false, not_or]; exact ⟨n17, n24⟩)
   replace k8 := k8.chgM hd (by simp only [List.map_cons, List.map_nil, List.mem_cons, List.not_mem_nil, or_false, not_or]; exact ⟨n18, n25⟩)
   have k36 := hq_ _ (.head _)
   replace k36 := XC.blk k36
   have k37 := hq_ _ (.tail _ (.head _))
   replace k37 := XC.blk k37
   replace hB := hd.toBelow hB (mB l19 l27)
   replace hL := hL.chgM hd
   intro _ _
   intro _ _
   refine Pu rfl (Ni (hK34 ?_))
   exact WC.ret fun a_ ha_ => hQ (Xp rfl (.agg rfl Qf k36.range rfl) (.agg rfl Qr k37.range rfl) (.tmp rfl) (by rw [KB (by first | assumption | omega)]; exact ⟨_, _, rfl, (h1.less (fun x hx => (.tail _ (.tail _ (.tail _ (.tail _ hx)))))), (h2.less (fun x hx => (.tail _ (.tail _ (.tail _ (.tail _ hx))))))⟩) hB ha_)
 .
  replace c33 := Q4 c33
  replace c33 := dT c33
  refine WC.skip (hK28 (Sq fun K38 hK38 => (Sq fun K39 hK39 => ?_)))
  obtain ⟨hr1, hr2, hr3, hr4⟩ := UT (Qb := Qb) (Qa := Qa) (Qc := Qc) (by first | assumption | omega)
  refine Rg (Va (Qg rfl Qf rfl k3.range rfl) rfl rfl (Va (Qg rfl Qr rfl k8.range rfl) rfl rfl ?_))
  refine Ge (QO rfl Tryd.func40 rfl rfl rfl (Qfd Qb Qa Qd Qc _ _ half gen used W31 _ hL h1 h2 (by omega))) rfl rfl ?_
  rintro _ W41 ⟨rfl, b40⟩
  replace h1 := h1.below b40
  replace h2 := h2.below b40
  replace h3 := h3.below b40
  replace k3 := k3.below b40
  replace k8 := k8.below b40
  replace k14 := k14.below b40
  replace k21 := k21.below b40
  replace hB := Qe hB b40
  replace hL := LL.below hL b40
  refine Pu rfl (Ni (hK39 (Sq fun K42 hK42 => (Rg (Pu rfl (Va (Xr rfl rfl rfl) rfl rfl (Ni ?_)))))))
  refine hK42 ?_
  refine WC.cond rfl (fun c43 => ?_) (fun c43 => ?_)
  .
   replace c43 := Q7 c43
   replace c43 := dF c43
   refine Sq fun K44 hK44 => ?_
   refine WC.drawC 5 [(3, W7.heap.size, [.slice none 0 0, .slice none 0 0, .int .i64 0, .bool false], fun cs_ _ => cs_ = [s1, s2, .int .i64 Qd, .bool Qc]), (4, W13.heap.size, [.int .i64 0, .int .i64 0, .int .i64 0], fun cs_ _ => cs_ = [.int .i64 half, .int .i64 gen, .int .i64 used])] [(some 28, .is (.agg #[s1, s2, .int .i64 Qd, .bool Qc])), (some 29, .is (.agg #[.int .i64 half, .int .i64 gen, .int .i64 used])), (some 30, .is (.int .i64 (Yn (Qb.length : Int) half gen used))), (none, .by fun _ _ => True), (none, .by fun _ _ => True)] [[], [], [], [0, 0], [1, 3, 0, 1, 3]] ⟨fun _ _ _ _ h => h, fun _ _ _ _ h => h, trivial⟩ (mB ⟨fun _ _ _ _ h => h, fun _ _ _ _ h => h, trivial⟩ ⟨fun _ _ _ _ h => h, fun _ _ _ _ h => h, trivial⟩) ⟨fun x hx => (by simp only [List.mem_cons, List.not_mem_nil, or_false] at hx; subst hx; exact ⟨(show ¬ ((4 : Nat) = 3) by decide), n26.symm⟩), ⟨fun x hx => (by cases hx), trivial⟩⟩ (XF (mB ⟨_, rfl⟩ ⟨_, rfl⟩)) (mB k14 k21) ?_ ?_
   .
    refine Ql.cons rfl (fun Wd hd hbs_ => ?_) ?_
    .
     have k3 := k3.chgM hd (by simp only [List.map_cons, List.map_nil, List.mem_cons, List.not_mem_nil, or_false, not_or]; exact ⟨n17, n24⟩)
     exact Dd (Qg rfl Qf rfl k3.range rfl) rfl
    refine Ql.cons rfl (fun Wd hd hbs_ => ?_) ?_
    .
     have k8 := k8.chgM hd (by simp only [List.map_cons, List.map_nil, List.mem_cons, List.not_mem_nil, or_false, not_or]; exact ⟨n18, n25⟩)
     exact Dd (Qg rfl Qr rfl k8.range rfl) rfl
    refine Ql.cons rfl (fun Wd hd hbs_ => ?_) ?_
    .
     exact Dd (Qt rfl rfl) rfl
    refine Ql.hit rfl (fun Wd hd hb_ => ?_) ?_
    .
     have h1 := h1.chgM hd (mB (.tail _ (.head _)) (.head _))
     have h2 := h2.chgM hd (mB (.tail _ (.head _)) (.head _))
     exact (QB (vs := [s1, s2, .int .i64 Qd, .bool Qc]) rfl Qj rfl rfl rfl (oC h1.one (oC h2.one (oC rfl (oC rfl Qk)))) hb_ rfl rfl).mono (fun _ W' h => ⟨h.2, XC.is h.1, trivial⟩)
    refine Ql.hit rfl (fun Wd hd hb_ => ?_) ?_
    .
     intro u6_3 p6_3 u6_3 p6_3
     exact (QB (vs := [.int .i64 half, .int .i64 gen, .int .i64 used]) rfl Qv rfl rfl rfl (oC rfl (oC rfl (oC rfl Qk))) hb_ rfl rfl).mono (fun _ W' h => ⟨h.2, XC.is h.1, trivial⟩)
    exact trivial
   .
    intro W45 hd hq_
    replace h1 := h1.chgM hd (mB (.tail _ (.head _)) (.head _))
    replace h2 := h2.chgM hd (mB (.tail _ (.head _)) (.head _))
    replace h3 := h3.chgM hd (mB (.tail _ (.head _)) (.head _))
    replace k3 := k3.chgM hd (by simp only [List.map_cons, List.map_nil, List.mem_cons, List.not_mem_nil, or_false, not_or]; exact ⟨n17, n24⟩)
    replace k8 := k8.chgM hd (by simp only [List.map_cons, List.map_nil, List.mem_cons, List.not_mem_nil, or_false, not_or]; exact ⟨n18, n25⟩)
    have k46 := hq_ _ (.head _)
    replace k46 := XC.blk k46
    have k47 := hq_ _ (.tail _ (.head _))
    replace k47 := XC.blk k47
    replace hB := hd.toBelow hB (mB l19 l27)
    replace hL := hL.chgM hd
    intro _ _
    intro _ _
    refine Pu rfl (Ni (hK44 ?_))
    exact WC.ret fun a_ ha_ => hQ (Xp rfl (.agg rfl Qf k46.range rfl) (.agg rfl Qr k47.range rfl) (.tmp rfl) (by rw [HN (by first | assumption | omega) (by first | assumption | omega)]; exact ⟨_, _, rfl, (h1.less (fun x hx => (.tail _ (.tail _ (.tail _ (.tail _ hx)))))), (h2.less (fun x hx => (.tail _ (.tail _ (.tail _ (.tail _ hx))))))⟩) hB ha_)
  .
   replace c43 := Q4 c43
   replace c43 := dT c43
   refine WC.skip (hK38 (Sq fun K48 hK48 => (Sq fun K49 hK49 => ?_)))
   obtain ⟨hl1, hl2, hl3, hl4, hl5⟩ := Qco (n := (Qb.length : Int)) (half := half) (gen := gen) (used := used) (by first | assumption | omega)
   refine Rg (Pu rfl (Va (ZS (Yj rfl QF rfl h3) (show _ = Value.int .i64 (rec.length : Int) by rw [List.length_map])) rfl rfl (Va (XQ rfl rfl rfl) rfl rfl (Ni (hK49 ?_)))))
   refine WC.cond rfl (fun c50 => ?_) (fun c50 => ?_)
   .
    replace c50 := dT c50
    refine Sq fun K51 hK51 => ?_
    refine WC.drawC 3 [(2, W7.heap.size, [.slice none 0 0, .slice none 0 0, .int .i64 0, .bool false], fun cs_ _ => cs_ = [s1, s2, .int .i64 Qd, .bool Qc])] [(some 34, .is (.agg #[s1, s2, .int .i64 Qd, .bool Qc])), (some 35, .is (.agg #[.int .i64 half, .int .i64 gen, .int .i64 used])), (none, .by fun _ _ => True)] [[], [], [0, 0]] ⟨fun _ _ _ _ h => h, trivial⟩ (mA ⟨fun _ _ _ _ h => h, trivial⟩) ⟨fun x hx => (by cases hx), trivial⟩ (XF (mA ⟨_, rfl⟩)) (mA k14) ?_ ?_
    .
     refine Ql.cons rfl (fun Wd hd hbs_ => ?_) ?_
     .
      have k3 := k3.chgM hd (by simp only [List.map_cons, List.map_nil, List.mem_cons, List.not_mem_nil, or_false, not_or]; exact n17)
      exact Dd (Qg rfl Qf rfl k3.range rfl) rfl
     refine Ql.cons rfl (fun Wd hd hbs_ => ?_) ?_
     .
      have k8 := k8.chgM hd (by simp only [List.map_cons, List.map_nil, List.mem_cons, List.not_mem_nil, or_false, not_or]; exact n18)
      exact Dd (Qg rfl Qr rfl k8.range rfl) rfl
     refine Ql.hit rfl (fun Wd hd hb_ => ?_) ?_
     .
      have h1 := h1.chgM hd (mA (.tail _ (.head _)))
      have h2 := h2.chgM hd (mA (.tail _ (.head _)))
      exact (QB (vs := [s1, s2, .int .i64 Qd, .bool Qc]) rfl Qj rfl rfl rfl (oC h1.one (oC h2.one (oC rfl (oC rfl Qk)))) hb_ rfl rfl).mono (fun _ W' h => ⟨h.2, XC.is h.1, trivial⟩)
     exact trivial
    .
     intro W52 hd hq_
     replace h1 := h1.chgM hd (mA (.tail _ (.head _)))
     replace h2 := h2.chgM hd (mA (.tail _ (.head _)))
     replace h3 := h3.chgM hd (mA (.tail _ (.head _)))
     replace k3 := k3.chgM hd (by simp only [List.map_cons, List.map_nil, List.mem_cons, List.not_mem_nil, or_false, not_or]; exact n17)
     replace k8 := k8.chgM hd (by simp only [List.map_cons, List.map_nil, List.mem_cons, List.not_mem_nil, or_false, not_or]; exact n18)
     replace k21 := k21.chgM hd (by simp only [List.map_cons, List.map_nil, List.mem_cons, List.not_mem_nil, or_false, not_or]; exact n26.symm)
     have k53 := hq_ _ (.head _)
     replace k53 := XC.blk k53
     replace hB := hd.toBelow hB (mA l19)
     replace hL := hL.chgM hd
     intro _ _
     refine WL.do (Qh (cs' := [.int .i64 half, .int .i64 gen, .int .i64 used]) (vs := [.int .i64 half, .int .i64 gen, .int .i64 used]) rfl Qv rfl rfl rfl (oC rfl (oC rfl (oC rfl Qk))) k21 rfl (nB rfl) rfl) rfl ?_
     rintro _ W54 ⟨k56, o55⟩
     replace k53 := k53.other o55 n26
     clear k21
     replace h1 := h1.only o55 (.head _)
     replace h2 := h2.only o55 (.head _)
     replace hB := o55.below hB l27
     refine Pu rfl (Ni (hK51 ?_))
     exact WC.ret fun a_ ha_ => hQ (Xp rfl (.agg rfl Qf k53.range rfl) (.agg rfl Qr k56.range rfl) (.tmp rfl) (by rw [HQ (by first | assumption | omega) (by first | assumption | omega) (by first | assumption | omega)]; exact ⟨_, _, rfl, (h1.less (fun x hx => (.tail _ (.tail _ (.tail _ (.tail _ hx)))))), (h2.less (fun x hx => (.tail _ (.tail _ (.tail _ (.tail _ hx))))))⟩) hB ha_)
   .
    replace c50 := dF c50
    refine WC.skip (hK48 (Sq fun K57 hK57 => (Rg (Va (Qg rfl Qf rfl k3.range rfl) rfl rfl (Va (Qm (o1 := 0) rfl ZM rfl rfl) rfl rfl (Va (Qi rfl Qu rfl (k8.cell (k := 0) rfl)) rfl rfl ?_))))))
    refine Ge (QO rfl Tryd.func38 rfl rfl rfl (J7 Qb Qa Qd Qc _ _ half W41 _ hL h1 h2 hl1 (by omega))) rfl rfl ?_
    rintro _ W59 ⟨rfl, b58⟩
    replace h1 := h1.below b58
    replace h2 := h2.below b58
    replace h3 := h3.below b58
    replace k3 := k3.below b58
    replace k8 := k8.below b58
    replace k14 := k14.below b58
    replace k21 := k21.below b58
    replace hB := Qe hB b58
    replace hL := LL.below hL b58
    refine Va (QP rfl rfl (G9 _ _ _ _ _ _)) rfl rfl ?_
    refine Ge (Xb rfl rfl rfl) rfl rfl ?_
    rintro _ W60 ⟨rfl, k61, b62, z63⟩
    have n64 : w.heap.size ≠ W59.heap.size := Nat.ne_of_lt k3.lt
    have n65 : W2.heap.size ≠ W59.heap.size := Nat.ne_of_lt k8.lt
    have n66 : W7.heap.size ≠ W59.heap.size := Nat.ne_of_lt k14.lt
    have n67 : W13.heap.size ≠ W59.heap.size := Nat.ne_of_lt k21.lt
    have l68 := hB.size
    replace h1 := h1.more b62 (Nat.le_refl _)
    replace h2 := h2.more b62 (Nat.le_refl _)
    replace h3 := h3.more b62 (Nat.le_refl _)
    replace k3 := k3.below b62
    replace k8 := k8.below b62
    replace k14 := k14.below b62
    replace k21 := k21.below b62
    replace hB := Qe hB b62
    replace hL := LL.more hL z63
    refine Pu rfl (Ni (hK57 (Sq fun K69 hK69 => (Sq fun K70 hK70 => ?_))))
    have hsd := QbA (rec.length : Int)
    have hhf : 0 <= (half * ((Qb.length : Int) / 2)) /\ (half * ((Qb.length : Int) / 2)) <= 100000 := by rcases hl1 with h_ | h_ <;> rw [h_] <;> omega
    refine dM 11 [(some 42, .is (.pointer (some ⟨W2.heap.size, 2, none⟩))), (some 43, .is (.int .i64 used)), (some 44, .is (rv)), (some 45, .is (.int .i64 (rec.length : Int))), (some 46, .is (.int .i64 (X2 (rec.length : Int)))), (some 47, .is (.int .i64 (used + (X2 (rec.length : Int))))), (some 48, .is (.pointer (some ⟨W59.heap.size, 0, none⟩))), (some 49, .is (.pointer (some ⟨W59.heap.size, 0, none⟩))), (some 50, .is (.pointer (some ⟨W59.heap.size, 0, none⟩))), (some 51, .is (.pointer (some ⟨W59.heap.size, 5, none⟩))), (some 52, .is (.int .i64 ((Qb.length : Int) / 2)))] [[], [0], [], [2], [3], [1, 4], [], [6], [7], [8], [9]] (by exact trivial) ?_ ?_
    .
     refine Dc (fun Wd hd => ?_) ?_
     .
      exact Dd (Qm (o1 := 2) rfl Xf rfl rfl) rfl
     refine Dc (fun Wd hd => ?_) ?_
     .
      have k8 := k8.below hd
      exact Dd (Qi rfl Qu rfl (k8.cell (k := 2) rfl)) rfl
     refine Dc (fun Wd hd => ?_) ?_
     .
      exact Dd (Qt rfl rfl) rfl
     refine Dc (fun Wd hd => ?_) ?_
     .
      have h3 := h3.below hd
      exact Dd (ZS (Yj rfl QF rfl h3) (show _ = Value.int .i64 (rec.length : Int) by rw [List.length_map])) rfl
     refine Dc (fun Wd hd => ?_) ?_
     .
      exact DR.mono (QO rfl Tryd.func22 rfl rfl rfl (ES (rec.length : Int) Wd [] (LL.nil _) (by omega))) (fun v W' ⟨h, hb⟩ => ⟨hb, (by rw [h]; exact rfl)⟩)
     refine Dc (fun Wd hd => ?_) ?_
     .
      exact Dd (QR (r := used + (X2 (rec.length : Int))) rfl rfl rfl (Qn (by omega))) rfl
     refine Dc (fun Wd hd => ?_) ?_
     .
      exact Dd (Qt rfl rfl) rfl
     refine Dc (fun Wd hd => ?_) ?_
     .
      exact Dd (Q0 rfl rfl) rfl
     refine Dc (fun Wd hd => ?_) ?_
     .
      exact Dd (Qm (o1 := 0) rfl Zv rfl rfl) rfl
     refine Dc (fun Wd hd => ?_) ?_
     .
      exact Dd (Qm (o1 := 5) rfl VX rfl rfl) rfl
     refine Dc (fun Wd hd => ?_) ?_
     .
      have k61 := k61.below hd
      exact Dd (Qi rfl Qu rfl (k61.cell (k := 5) rfl)) rfl
     exact trivial
    .
     intro W71 b72
     replace h1 := h1.below b72
     replace h2 := h2.below b72
     replace h3 := h3.below b72
     replace k3 := k3.below b72
     replace k8 := k8.below b72
     replace k14 := k14.below b72
     replace k21 := k21.below b72
     replace k61 := k61.below b72
     replace hB := Qe hB b72
     replace hL := LL.below hL b72
     refine Va (XQ rfl rfl rfl) rfl rfl (Ni (hK70 ?_))
     refine WC.cond rfl (fun c73 => ?_) (fun c73 => ?_)
     .
      replace c73 := dT c73
      refine Sq fun K74 hK74 => ?_
      refine WC.drawC 3 [(2, W7.heap.size, [.slice none 0 0, .slice none 0 0, .int .i64 0, .bool false], fun cs_ _ => cs_ = [s1, s2, .int .i64 Qd, .bool Qc])] [(some 54, .is (.agg #[s1, s2, .int .i64 Qd, .bool Qc])), (some 55, .is (.agg #[.int .i64 half, .int .i64 gen, .int .i64 used])), (none, .by fun _ _ => True)] [[], [], [0, 0]] ⟨fun _ _ _ _ h => h, trivial⟩ (mA ⟨fun _ _ _ _ h => h, trivial⟩) ⟨fun x hx => (by cases hx), trivial⟩ (XF (mA ⟨_, rfl⟩)) (mA k14) ?_ ?_
      .
       refine Ql.cons rfl (fun Wd hd hbs_ => ?_) ?_
       .
        have k3 := k3.chgM hd (by simp only [List.map_cons, List.map_nil, List.mem_cons, List.not_mem_nil, or_false, not_or]; exact n17)
        exact Dd (Qg rfl Qf rfl k3.range rfl) rfl
       refine Ql.cons rfl (fun Wd hd hbs_ => ?_) ?_
       .
        have k8 := k8.chgM hd (by simp only [List.map_cons, List.map_nil, List.mem_cons, List.not_mem_nil, or_false, not_or]; exact n18)
        exact Dd (Qg rfl Qr rfl k8.range rfl) rfl
       refine Ql.hit rfl (fun Wd hd hb_ => ?_) ?_
       .
        have h1 := h1.chgM hd (mA (.tail _ (.tail _ (.head _))))
        have h2 := h2.chgM hd (mA (.tail _ (.tail _ (.head _))))
        exact (QB (vs := [s1, s2, .int .i64 Qd, .bool Qc]) rfl Qj rfl rfl rfl (oC h1.one (oC h2.one (oC rfl (oC rfl Qk)))) hb_ rfl rfl).mono (fun _ W' h => ⟨h.2, XC.is h.1, trivial⟩)
       exact trivial
      .
       intro W75 hd hq_
       replace h1 := h1.chgM hd (mA (.tail _ (.tail _ (.head _))))
       replace h2 := h2.chgM hd (mA (.tail _ (.tail _ (.head _))))
       replace h3 := h3.chgM hd (mA (.tail _ (.tail _ (.head _))))
       replace k3 := k3.chgM hd (by simp only [List.map_cons, List.map_nil, List.mem_cons, List.not_mem_nil, or_false, not_or]; exact n17)
       replace k8 := k8.chgM hd (by simp only [List.map_cons, List.map_nil, List.mem_cons, List.not_mem_nil, or_false, not_or]; exact n18)
       replace k21 := k21.chgM hd (by simp only [List.map_cons, List.map_nil, List.mem_cons, List.not_mem_nil, or_false, not_or]; exact n26.symm)
       replace k61 := k61.chgM hd (by simp only [List.map_cons, List.map_nil, List.mem_cons, List.not_mem_nil, or_false, not_or]; exact n66.symm)
       have k76 := hq_ _ (.head _)
       replace k76 := XC.blk k76
       replace hB := hd.toBelow hB (mA l19)
       replace hL := hL.chgM hd
       intro _ _
       refine WL.do (Qh (cs' := [.int .i64 half, .int .i64 gen, .int .i64 used]) (vs := [.int .i64 half, .int .i64 gen, .int .i64 used]) rfl Qv rfl rfl rfl (oC rfl (oC rfl (oC rfl Qk))) k21 rfl (nB rfl) rfl) rfl ?_
       rintro _ W77 ⟨k79, o78⟩
       replace k76 := k76.other o78 n26
       clear k21
       replace h1 := h1.only o78 (.tail _ (.head _))
       replace h2 := h2.only o78 (.tail _ (.head _))
       replace hB := o78.below hB l27
       refine Pu rfl (Ni (hK74 ?_))
       exact WC.ret fun a_ ha_ => hQ (Xp rfl (.agg rfl Qf k76.range rfl) (.agg rfl Qr k79.range rfl) (.tmp rfl) (by rw [HR (by first | assumption | omega) (by first | assumption | omega) (by first | assumption | omega) (by first | assumption | omega)]; exact ⟨_, _, rfl, (h1.less (fun x hx => (.tail _ (.tail _ (.tail _ (.tail _ (.tail _ hx))))))), (h2.less (fun x hx => (.tail _ (.tail _ (.tail _ (.tail _ (.tail _ hx)))))))⟩) hB ha_)
     .
      replace c73 := dF c73
      refine WC.skip (hK69 (Sq fun K80 hK80 => (Sq fun K81 hK81 => ?_)))
      have h1w := h1
      have h2w := h2
      replace k61 : Xe W71 W59.heap.size (wrC s1 s2 (Xx Qb Qa Qd Qc) (half * ((Qb.length : Int) / 2)) ((Qb.length : Int) / 2)) := k61
      refine Rg (Va (Qm (o1 := 1) rfl XN rfl rfl) rfl rfl (Va (Qi rfl Qu rfl (k8.cell (k := 1) rfl)) rfl rfl (Va (Qm (o1 := 2) rfl Xf rfl rfl) rfl rfl (Va (Qi rfl Qu rfl (k8.cell (k := 2) rfl)) rfl rfl (Pu rfl ?_)))))
      refine Ge (QO rfl Tryd.func41 rfl rfl rfl (DM gen used rec rv W71 _ hL hL h3 (by omega) (by omega))) rfl rfl ?_
      rintro pv W83 ⟨⟨qs, h6, hqf, hqs⟩, b82⟩
      replace h1 := h1.below b82
      replace h2 := h2.below b82
      replace h3 := h3.below b82
      replace h1w := h1w.below b82
      replace h2w := h2w.below b82
      replace k3 := k3.below b82
      replace k8 := k8.below b82
      replace k14 := k14.below b82
      replace k21 := k21.below b82
      replace k61 := k61.below b82
      replace hB := Qe hB b82
      replace hL := LL.below hL b82
      refine Va (QY rfl X1 rfl h6) rfl rfl (Pu rfl (Ni (hK81 (WC.block ?_))))
      have hql : qs.length = ZV rec := by rw [<- XK (gen := gen) (fr := used), <- hqf, List.length_map]
      have hnp : (ZV rec : Int) = X2 (rec.length : Int) := (JO (by omega)).symm
      have hfu0 : EH (Xx Qb Qa Qd Qc) := hfu
      have j1 := h1w
      have j2 := h2w
      refine WC.loop4 (fun (j : Nat) (d : DO) (t1 : Value) (t2 : Value) => [(2, rv), (3, .pointer (some ⟨w.heap.size, 0, none⟩)), (4, .pointer (some ⟨W2.heap.size, 0, none⟩)), (6, .pointer (some ⟨W7.heap.size, 0, none⟩)), (7, .pointer (some ⟨W13.heap.size, 0, none⟩)), (8, .int .i64 0), (11, .pointer (some ⟨W59.heap.size, 0, none⟩)), (61, pv), (62, .int .i64 (qs.length : Int)), (63, .int .i64 (j : Int))]) (fun (j : Nat) (d : DO) (t1 : Value) (t2 : Value) W => j <= qs.length /\ d = QT (Xx Qb Qa Qd Qc) (half * ((Qb.length : Int) / 2)) ((qs.map Prod.fst).take j) /\ EH d /\ Below w.heap.size w W /\ LL (W59.heap.size :: W13.heap.size :: W7.heap.size :: W2.heap.size :: w.heap.size :: L) W /\ QC 128 (W59.heap.size :: W13.heap.size :: W7.heap.size :: W2.heap.size :: w.heap.size :: L) W s1 (Qb.map Qq) /\ QC 129 (W59.heap.size :: W13.heap.size :: W7.heap.size :: W2.heap.size :: w.heap.size :: L) W s2 (Qa.map QD) /\ QC 1 (W59.heap.size :: W13.heap.size :: W7.heap.size :: W2.heap.size :: w.heap.size :: L) W rv (Vq rec) /\ QC 4 (W59.heap.size :: W13.heap.size :: W7.heap.size :: W2.heap.size :: w.heap.size :: L) W pv (qs.map Yk) /\ Yv (W59.heap.size :: W13.heap.size :: W7.heap.size :: W2.heap.size :: w.heap.size :: L) W qs /\ QC 128 (W59.heap.size :: W13.heap.size :: W7.heap.size :: W2.heap.size :: w.heap.size :: L) W t1 (d.Qb.map Qq) /\ QC 129 (W59.heap.size :: W13.heap.size :: W7.heap.size :: W2.heap.size :: w.heap.size :: L) W t2 (d.Qa.map QD) /\ Xe W w.heap.size [s1, s2, .int .i64 Qd, .bool Qc] /\ Xe W W2.heap.size [.int .i64 half, .int .i64 gen, .int .i64 used] /\ Xe W W7.heap.size [.slice none 0 0, .slice none 0 0, .int .i64 0, .bool false] /\ Xe W W13.heap.size [.int .i64 0, .int .i64 0, .int .i64 0] /\ Xe W W59.heap.size [t1, t2, .int .i64 d.Qd, .bool d.Qc, .int .i64 (half * ((Qb.length : Int) / 2)), .int .i64 ((Qb.length : Int) / 2), .int .i64 d.err]) (fun (j : Nat) (d : DO) (t1 : Value) (t2 : Value) => qs.length - j) 0 (Xx Qb Qa Qd Qc) s1 s2 (by repeat first | exact trivial | refine aR ?_ | refine aI (by omega) ?_) ⟨Nat.zero_le _, rfl, hfu0, hB, hL, h1, h2, h3, h6, hqs, j1, j2, k3, k8, k14, k21, k61⟩ ?_
      clear h1 h2 h3 h6 hqs j1 j2 k3 k8 k14 k21 k61 hB hL
      rintro K84 j d t1 t2 W85 ⟨hj, hd, hfd, hB, hL, h1, h2, h3, h6, hqs, j1, j2, k3, k8, k14, k21, k61⟩ hK84
      refine Sq fun K86 hK86 => (Rg (Va (Xh rfl rfl rfl) rfl rfl (Ni (hK86 (Sq fun K87 hK87 => ?_)))))
      refine WC.cond rfl (fun c88 => ?_) (fun c88 => ?_)
      .
       replace c88 := dT c88
       refine WC.skip (hK87 (Sq fun K89 hK89 => (WC.block (Sq fun K90 hK90 => (Rg ?_)))))
       obtain ⟨r91, e92⟩ : ∃ x, qs[j]? = some x := ⟨_, List.getElem?_eq_getElem (by omega)⟩
       refine Ge (XR j rfl X1 rfl rfl h6 (by omega) (XL (enc := Yk) e92)) rfl rfl ?_
       rintro u93 _ ⟨rfl, p94⟩
       refine Va (X6 rfl Xn rfl p94 rfl) rfl rfl ?_
       refine Ge (Qs rfl ZK rfl) rfl rfl ?_
       rintro _ W95 ⟨rfl, k96, b97, z98⟩
       have n99 : w.heap.size ≠ W85.heap.size := Nat.ne_of_lt k3.lt
       have n100 : W2.heap.size ≠ W85.heap.size := Nat.ne_of_lt k8.lt
       have n101 : W7.heap.size ≠ W85.heap.size := Nat.ne_of_lt k14.lt
       have n102 : W13.heap.size ≠ W85.heap.size := Nat.ne_of_lt k21.lt
       have n103 : W59.heap.size ≠ W85.heap.size := Nat.ne_of_lt k61.lt
       have l104 := hB.size
       replace h1 := h1.more b97 (Nat.le_refl _)
       replace h2 := h2.more b97 (Nat.le_refl _)
       replace h3 := h3.more b97 (Nat.le_refl _)
       replace h6 := h6.more b97 (Nat.le_refl _)
       replace hqs := hqs.more b97 (Nat.le_refl _)
       replace j1 := j1.more b97 (Nat.le_refl _)
       replace j2 := j2.more b97 (Nat.le_refl _)
       replace k3 := k3.below b97
       replace k8 := k8.below b97
       replace k14 := k14.below b97
       replace k21 := k21.below b97
       replace k61 := k61.below b97
       replace hB := Qe hB b97
       replace hL := LL.more hL z98
       refine WL.do (Qh (cs' := [.int .i64 r91.1.gen, .int .i64 r91.1.idx, .int .i64 r91.1.mks, r91.2]) (vs := [.int .i64 r91.1.gen, .int .i64 r91.1.idx, .int .i64 r91.1.mks, r91.2]) rfl Xt rfl rfl rfl (oC rfl (oC rfl (oC rfl (oC (hqs r91 (List.mem_of_getElem? e92)).one Qk)))) k96 rfl (nB rfl) rfl) rfl ?_
       rintro _ W105 ⟨k107, o106⟩
       replace k3 := k3.other o106 n99
       replace k8 := k8.other o106 n100
       replace k14 := k14.other o106 n101
       replace k21 := k21.other o106 n102
       replace k61 := k61.other o106 n103
       clear k96
       replace h1 := h1.only o106 (.head _)
       replace h2 := h2.only o106 (.head _)
       replace h3 := h3.only o106 (.head _)
       replace h6 := h6.only o106 (.head _)
       replace hqs := hqs.only o106 (.head _)
       replace j1 := j1.only o106 (.head _)
       replace j2 := j2.only o106 (.head _)
       replace hB := o106.below hB l104
       replace hL := LL.only hL o106
       refine Ni (hK90 ?_)
       obtain ⟨hqi, hqk, hqd⟩ := Jx (gen := gen) (fr := used) (rec := rec) (k := j) (p := r91.1) (by rw [<- hqf, List.getElem?_map, e92]; rfl)
       refine Rg (Pu rfl (Va (Qg rfl Xn rfl k107.range rfl) rfl rfl ?_))
       have j1o := j1
       have j2o := j2
       refine Ge (US rfl Tryd.func42 rfl rfl rfl (Qef d r91.1 (half * ((Qb.length : Int) / 2)) ((Qb.length : Int) / 2) t1 t2 r91.2 W59.heap.size W105 _ hL (.tail _ (.head _)) k61 j1o j2o (hqs r91 (List.mem_of_getElem? e92)) hfd hhf (by rw [hqi]; omega) (by rw [hqd]; exact JG hrb _) (by rw [hqd]; exact G6 _ _) (fun {_} g => hT.below (g.toBelow hB l68)))) rfl rfl ?_
       rintro _ W113 ⟨⟨rfl, x108, x109, hp114, j110, j111⟩, g112⟩
       replace h1 := h1.chgL g112 (.tail _ (.head _))
       replace h2 := h2.chgL g112 (.tail _ (.head _))
       replace h3 := h3.chgL g112 (.tail _ (.head _))
       replace h6 := h6.chgL g112 (.tail _ (.head _))
       replace hqs := hqs.chgL g112 (.tail _ (.head _))
       replace k3 := k3.chg g112 n64
       replace k8 := k8.chg g112 n65
       replace k14 := k14.chg g112 n66
       replace k21 := k21.chg g112 n67
       replace hB := g112.toBelow hB l68
       replace hL := hL.chg g112
       clear j1o j2o
       refine Ni (hK89 (Rg (Va (QR (r := (j : Int) + 1) rfl rfl rfl (Qn (by omega))) rfl rfl (Pu rfl (Ni ?_)))))
       replace hL := hL.less (fun x hx => (.tail _ hx))
       replace h1 := h1.less (fun x hx => (.tail _ hx))
       replace h2 := h2.less (fun x hx => (.tail _ hx))
       replace h3 := h3.less (fun x hx => (.tail _ hx))
       replace h6 := h6.less (fun x hx => (.tail _ hx))
       replace hqs := hqs.less (fun x hx => (.tail _ hx))
       replace j110 := j110.less (fun x hx => (.tail _ hx))
       replace j111 := j111.less (fun x hx => (.tail _ hx))
       exact hK84 (j + 1) (Ym d (half * ((Qb.length : Int) / 2)) r91.1) x108 x109 ⟨(by omega), (by rw [hd]; exact (UZ (by rw [List.getElem?_map, e92]; rfl)).symm), (Gl hfd), hB, hL, h1, h2, h3, h6, hqs, j110, j111, k3, k8, k14, k21, hp114⟩ (by omega) (by repeat first | exact trivial | refine aR ?_ | refine aI (by omega) ?_)
      .
       replace c88 := dF c88
       refine WC.exit ?_
       refine hK80 (Sq fun K115 hK115 => ?_)
       have hjq : j = qs.length := by omega
       have hdA : d = QT (Xx Qb Qa Qd Qc) (half * ((Qb.length : Int) / 2)) (Xo gen used rec) := by rw [hd, List.take_of_length_le (by rw [List.length_map]; omega), hqf]
       refine Rg (Pu rfl ?_)
       have j1o := j1
       have j2o := j2
       refine Ge (US rfl Tryd.func43 rfl rfl rfl (Qem d (half * ((Qb.length : Int) / 2)) ((Qb.length : Int) / 2) t1 t2 W59.heap.size W85 _ hL (.head _) k61 j1o j2o hfd)) rfl rfl ?_
       rintro _ W121 ⟨⟨rfl, x116, x117, hp122, j118, j119⟩, g120⟩
       replace h1 := h1.chgL g120 (.head _)
       replace h2 := h2.chgL g120 (.head _)
       replace h3 := h3.chgL g120 (.head _)
       replace h6 := h6.chgL g120 (.head _)
       replace hqs := hqs.chgL g120 (.head _)
       replace k3 := k3.chg g120 n64
       replace k8 := k8.chg g120 n65
       replace k14 := k14.chg g120 n66
       replace k21 := k21.chg g120 n67
       replace hB := g120.toBelow hB l68
       replace hL := hL.chg g120
       clear j1o j2o
       refine Ni (hK115 (Sq fun K123 hK123 => (Rg (Pu rfl (Va (Qg rfl Qf rfl k3.range rfl) rfl rfl ?_)))))
       refine Ge (QO rfl Tryd.func44 rfl rfl rfl (QcQ (Xx Qb Qa Qd Qc) (XI d) (half * ((Qb.length : Int) / 2)) ((Qb.length : Int) / 2) W59.heap.size s1 s2 x116 x117 W121 _ hL j118 j119 h1 h2 hp122)) rfl rfl ?_
       rintro _ W125 ⟨⟨a1, a2, rfl, g1, g2⟩, b124⟩
       replace h1 := h1.below b124
       replace h2 := h2.below b124
       replace h3 := h3.below b124
       replace h6 := h6.below b124
       replace hqs := hqs.below b124
       replace j118 := j118.below b124
       replace j119 := j119.below b124
       replace k3 := k3.below b124
       replace k8 := k8.below b124
       replace k14 := k14.below b124
       replace k21 := k21.below b124
       replace hp122 := hp122.below b124
       replace hB := Qe hB b124
       replace hL := LL.below hL b124
       refine Pu rfl (Pu rfl (Pu rfl ?_))
       refine Ge (Qs rfl QU rfl) rfl rfl ?_
       rintro _ W126 ⟨rfl, k127, b128, z129⟩
       have n130 : w.heap.size ≠ W125.heap.size := Nat.ne_of_lt k3.lt
       have n131 : W2.heap.size ≠ W125.heap.size := Nat.ne_of_lt k8.lt
       have n132 : W7.heap.size ≠ W125.heap.size := Nat.ne_of_lt k14.lt
       have n133 : W13.heap.size ≠ W125.heap.size := Nat.ne_of_lt k21.lt
       have n134 : W59.heap.size ≠ W125.heap.size := Nat.ne_of_lt hp122.lt
       have l135 := hB.size
       replace h1 := h1.more b128 (Nat.le_refl _)
       replace h2 := h2.more b128 (Nat.le_refl _)
       replace h3 := h3.more b128 (Nat.le_refl _)
       replace h6 := h6.more b128 (Nat.le_refl _)
       replace hqs := hqs.more b128 (Nat.le_refl _)
       replace j118 := j118.more b128 (Nat.le_refl _)
       replace j119 := j119.more b128 (Nat.le_refl _)
       replace g1 := g1.more b128 (Nat.le_refl _)
       replace g2 := g2.more b128 (Nat.le_refl _)
       replace k3 := k3.below b128
       replace k8 := k8.below b128
       replace k14 := k14.below b128
       replace k21 := k21.below b128
       replace hp122 := hp122.below b128
       replace hB := Qe hB b128
       replace hL := LL.more hL z129
       refine WL.do (Qh (cs' := [a1, a2, .int .i64 ((Xw (Xx Qb Qa Qd Qc) (XI d)).Qd), .bool ((Xw (Xx Qb Qa Qd Qc) (XI d)).Qc)]) (vs := [a1, a2, .int .i64 ((Xw (Xx Qb Qa Qd Qc) (XI d)).Qd), .bool ((Xw (Xx Qb Qa Qd Qc) (XI d)).Qc)]) rfl Qj rfl rfl rfl (oC g1.one (oC g2.one (oC rfl (oC rfl Qk)))) k127 rfl (nB rfl) rfl) rfl ?_
       rintro _ W136 ⟨k138, o137⟩
       replace k3 := k3.other o137 n130
       replace k8 := k8.other o137 n131
       replace k14 := k14.other o137 n132
       replace k21 := k21.other o137 n133
       replace hp122 := hp122.other o137 n134
       clear k127
       replace h1 := h1.only o137 (.head _)
       replace h2 := h2.only o137 (.head _)
       replace h3 := h3.only o137 (.head _)
       replace h6 := h6.only o137 (.head _)
       replace hqs := hqs.only o137 (.head _)
       replace j118 := j118.only o137 (.head _)
       replace j119 := j119.only o137 (.head _)
       replace g1 := g1.only o137 (.head _)
       replace g2 := g2.only o137 (.head _)
       replace hB := o137.below hB l135
       replace hL := LL.only hL o137
       refine Pu rfl (Ni (hK123 (Sq fun K139 hK139 => (Sq fun K140 hK140 => (Rg (Pu rfl (Va (Xr rfl rfl rfl) rfl rfl ?_)))))))
       refine Ni (hK140 ?_)
       refine WC.cond rfl (fun c141 => ?_) (fun c141 => ?_)
       .
        replace c141 := Q7 c141
        replace c141 := dF c141
        refine Sq fun K142 hK142 => ?_
        refine WC.drawC 5 [(3, W7.heap.size, [.slice none 0 0, .slice none 0 0, .int .i64 0, .bool false], fun cs_ _ => cs_ = [a1, a2, .int .i64 ((Xw (Xx Qb Qa Qd Qc) (XI d)).Qd), .bool ((Xw (Xx Qb Qa Qd Qc) (XI d)).Qc)]), (4, W13.heap.size, [.int .i64 0, .int .i64 0, .int .i64 0], fun cs_ _ => cs_ = [.int .i64 half, .int .i64 gen, .int .i64 used])] [(some 81, .is (.agg #[a1, a2, .int .i64 ((Xw (Xx Qb Qa Qd Qc) (XI d)).Qd), .bool ((Xw (Xx Qb Qa Qd Qc) (XI d)).Qc)])), (some 82, .is (.agg #[.int .i64 half, .int .i64 gen, .int .i64 used])), (some 83, .is (.int .i64 ((Xw (Xx Qb Qa Qd Qc) (XI d)).err))), (none, .by fun _ _ => True), (none, .by fun _ _ => True)] [[], [], [], [0, 0], [1, 3, 0, 1, 3]] ⟨fun _ _ _ _ h => h, fun _ _ _ _ h => h, trivial⟩ (mB ⟨fun _ _ _ _ h => h, fun _ _ _ _ h => h, trivial⟩ ⟨fun _ _ _ _ h => h, fun _ _ _ _ h => h, trivial⟩) ⟨fun x hx => (by simp only [List.mem_cons, List.not_mem_nil, or_false] at hx; subst hx; exact ⟨(show ¬ ((4 : Nat) = 3) by decide), n26.symm⟩), ⟨fun x hx => (by cases hx), trivial⟩⟩ (XF (mB ⟨_, rfl⟩ ⟨_, rfl⟩)) (mB k14 k21) ?_ ?_
        .
         refine Ql.cons rfl (fun Wd hd hbs_ => ?_) ?_
         .
          have k138 := k138.chgM hd (by simp only [List.map_cons, List.map_nil, List.mem_cons, List.not_mem_nil, or_false, not_or]; exact ⟨n132.symm, n133.symm⟩)
          exact Dd (Qg rfl Qf rfl k138.range rfl) rfl
         refine Ql.cons rfl (fun Wd hd hbs_ => ?_) ?_
         .
          have k8 := k8.chgM hd (by simp only [List.map_cons, List.map_nil, List.mem_cons, List.not_mem_nil, or_false, not_or]; exact ⟨n18, n25⟩)
          exact Dd (Qg rfl Qr rfl k8.range rfl) rfl
         refine Ql.cons rfl (fun Wd hd hbs_ => ?_) ?_
         .
          exact Dd (Qt rfl rfl) rfl
         refine Ql.hit rfl (fun Wd hd hb_ => ?_) ?_
         .
          have g1 := g1.chgM hd (mB (.tail _ (.tail _ (.tail _ (.head _)))) (.tail _ (.tail _ (.head _))))
          have g2 := g2.chgM hd (mB (.tail _ (.tail _ (.tail _ (.head _)))) (.tail _ (.tail _ (.head _))))
          exact (QB (vs := [a1, a2, .int .i64 ((Xw (Xx Qb Qa Qd Qc) (XI d)).Qd), .bool ((Xw (Xx Qb Qa Qd Qc) (XI d)).Qc)]) rfl Qj rfl rfl rfl (oC g1.one (oC g2.one (oC rfl (oC rfl Qk)))) hb_ rfl rfl).mono (fun _ W' h => ⟨h.2, XC.is h.1, trivial⟩)
         refine Ql.hit rfl (fun Wd hd hb_ => ?_) ?_
         .
          intro u20_3 p20_3 u20_3 p20_3
          exact (QB (vs := [.int .i64 half, .int .i64 gen, .int .i64 used]) rfl Qv rfl rfl rfl (oC rfl (oC rfl (oC rfl Qk))) hb_ rfl rfl).mono (fun _ W' h => ⟨h.2, XC.is h.1, trivial⟩)
         exact trivial
        .
         intro W143 hd hq_
         replace h1 := h1.chgM hd (mB (.tail _ (.tail _ (.tail _ (.head _)))) (.tail _ (.tail _ (.head _))))
         replace h2 := h2.chgM hd (mB (.tail _ (.tail _ (.tail _ (.head _)))) (.tail _ (.tail _ (.head _))))
         replace h3 := h3.chgM hd (mB (.tail _ (.tail _ (.tail _ (.head _)))) (.tail _ (.tail _ (.head _))))
         replace h6 := h6.chgM hd (mB (.tail _ (.tail _ (.tail _ (.head _)))) (.tail _ (.tail _ (.head _))))
         replace hqs := hqs.chgM hd (mB (.tail _ (.tail _ (.tail _ (.head _)))) (.tail _ (.tail _ (.head _))))
         replace j118 := j118.chgM hd (mB (.tail _ (.tail _ (.tail _ (.head _)))) (.tail _ (.tail _ (.head _))))
         replace j119 := j119.chgM hd (mB (.tail _ (.tail _ (.tail _ (.head _)))) (.tail _ (.tail _ (.head _))))
         replace g1 := g1.chgM hd (mB (.tail _ (.tail _ (.tail _ (.head _)))) (.tail _ (.tail _ (.head _))))
         replace g2 := g2.chgM hd (mB (.tail _ (.tail _ (.tail _ (.head _)))) (.tail _ (.tail _ (.head _))))
         replace k3 := k3.chgM hd (by simp only [List.map_cons, List.map_nil, List.mem_cons, List.not_mem_nil, or_false, not_or]; exact ⟨n17, n24⟩)
         replace k8 := k8.chgM hd (by simp only [List.map_cons, List.map_nil, List.mem_cons, List.not_mem_nil, or_false, not_or]; exact ⟨n18, n25⟩)
         replace hp122 := hp122.chgM hd (by simp only [List.map_cons, List.map_nil, List.mem_cons, List.not_mem_nil, or_false, not_or]; exact ⟨n66.symm, n67.symm⟩)
         replace k138 := k138.chgM hd (by simp only [List.map_cons, List.map_nil, List.mem_cons, List.not_mem_nil, or_false, not_or]; exact ⟨n132.symm, n133.symm⟩)
         have k144 := hq_ _ (.head _)
         replace k144 := XC.blk k144
         have k145 := hq_ _ (.tail _ (.head _))
         replace k145 := XC.blk k145
         replace hB := hd.toBelow hB (mB l19 l27)
         replace hL := hL.chgM hd
         intro _ _
         intro _ _
         refine Pu rfl (Ni (hK142 ?_))
         exact WC.ret fun a_ ha_ => hQ (Xp rfl (.agg rfl Qf k144.range rfl) (.agg rfl Qr k145.range rfl) (.tmp rfl) (by rw [HM (by first | assumption | omega) (by first | assumption | omega) (by first | assumption | omega) (by first | assumption | omega) hdA (by first | assumption | omega)]; exact ⟨_, _, rfl, (g1.less (fun x hx => (.tail _ (.tail _ (.tail _ (.tail _ (.tail _ (.tail _ hx)))))))), (g2.less (fun x hx => (.tail _ (.tail _ (.tail _ (.tail _ (.tail _ (.tail _ hx))))))))⟩) hB ha_)
       .
        replace c141 := Q4 c141
        replace c141 := dT c141
        refine WC.skip (hK139 (Sq fun K146 hK146 => ?_))
        refine dM 5 [(some 84, .is (.pointer (some ⟨W2.heap.size, 2, none⟩))), (some 85, .is (.int .i64 used)), (some 86, .is (rv)), (some 87, .is (.int .i64 (rec.length : Int))), (some 88, .is (.int .i64 (X2 (rec.length : Int))))] [[], [0], [], [2], [3]] (by exact trivial) ?_ ?_
        .
         refine Dc (fun Wd hd => ?_) ?_
         .
          exact Dd (Qm (o1 := 2) rfl Xf rfl rfl) rfl
         refine Dc (fun Wd hd => ?_) ?_
         .
          have k8 := k8.below hd
          exact Dd (Qi rfl Qu rfl (k8.cell (k := 2) rfl)) rfl
         refine Dc (fun Wd hd => ?_) ?_
         .
          exact Dd (Qt rfl rfl) rfl
         refine Dc (fun Wd hd => ?_) ?_
         .
          have h3 := h3.below hd
          exact Dd (ZS (Yj rfl QF rfl h3) (show _ = Value.int .i64 (rec.length : Int) by rw [List.length_map])) rfl
         refine Dc (fun Wd hd => ?_) ?_
         .
          exact DR.mono (QO rfl Tryd.func22 rfl rfl rfl (ES (rec.length : Int) Wd [] (LL.nil _) (by omega))) (fun v W' ⟨h, hb⟩ => ⟨hb, (by rw [h]; exact rfl)⟩)
         exact trivial
        .
         intro W147 b148
         replace h1 := h1.below b148
         replace h2 := h2.below b148
         replace h3 := h3.below b148
         replace h6 := h6.below b148
         replace hqs := hqs.below b148
         replace j118 := j118.below b148
         replace j119 := j119.below b148
         replace g1 := g1.below b148
         replace g2 := g2.below b148
         replace k3 := k3.below b148
         replace k8 := k8.below b148
         replace k14 := k14.below b148
         replace k21 := k21.below b148
         replace hp122 := hp122.below b148
         replace k138 := k138.below b148
         replace hB := Qe hB b148
         replace hL := LL.below hL b148
         refine Va (QR (r := used + (X2 (rec.length : Int))) rfl rfl rfl (Qn (by omega))) rfl rfl (Va (Qm (o1 := 2) rfl Xf rfl rfl) rfl rfl ?_)
         refine WL.do (Qh (cs' := [.int .i64 half, .int .i64 gen, .int .i64 (used + (X2 (rec.length : Int)))]) (vs := [.int .i64 (used + (X2 (rec.length : Int)))]) rfl Zr rfl rfl rfl (oC rfl Qk) k8 rfl (nB rfl) rfl) rfl ?_
         rintro _ W149 ⟨k151, o150⟩
         replace k3 := k3.other o150 n11
         replace k14 := k14.other o150 n18.symm
         replace k21 := k21.other o150 n25.symm
         replace hp122 := hp122.other o150 n65.symm
         replace k138 := k138.other o150 n131.symm
         clear k8
         replace h1 := h1.only o150 (.tail _ (.tail _ (.tail _ (.tail _ (.head _)))))
         replace h2 := h2.only o150 (.tail _ (.tail _ (.tail _ (.tail _ (.head _)))))
         replace h3 := h3.only o150 (.tail _ (.tail _ (.tail _ (.tail _ (.head _)))))
         replace h6 := h6.only o150 (.tail _ (.tail _ (.tail _ (.tail _ (.head _)))))
         replace hqs := hqs.only o150 (.tail _ (.tail _ (.tail _ (.tail _ (.head _)))))
         replace j118 := j118.only o150 (.tail _ (.tail _ (.tail _ (.tail _ (.head _)))))
         replace j119 := j119.only o150 (.tail _ (.tail _ (.tail _ (.tail _ (.head _)))))
         replace g1 := g1.only o150 (.tail _ (.tail _ (.tail _ (.tail _ (.head _)))))
         replace g2 := g2.only o150 (.tail _ (.tail _ (.tail _ (.tail _ (.head _)))))
         replace hB := o150.below hB l12
         replace hL := LL.only hL o150
         refine Ni (hK146 (Sq fun K152 hK152 => ?_))
         refine WC.drawC 3 [(2, W7.heap.size, [.slice none 0 0, .slice none 0 0, .int .i64 0, .bool false], fun cs_ _ => cs_ = [a1, a2, .int .i64 ((Xw (Xx Qb Qa Qd Qc) (XI d)).Qd), .bool ((Xw (Xx Qb Qa Qd Qc) (XI d)).Qc)])] [(some 91, .is (.agg #[a1, a2, .int .i64 ((Xw (Xx Qb Qa Qd Qc) (XI d)).Qd), .bool ((Xw (Xx Qb Qa Qd Qc) (XI d)).Qc)])), (some 92, .is (.agg #[.int .i64 half, .int .i64 gen, .int .i64 (used + (X2 (rec.length : Int)))])), (none, .by fun _ _ => True)] [[], [], [0, 0]] ⟨fun _ _ _ _ h => h, trivial⟩ (mA ⟨fun _ _ _ _ h => h, trivial⟩) ⟨fun x hx => (by cases hx), trivial⟩ (XF (mA ⟨_, rfl⟩)) (mA k14) ?_ ?_
         .
          refine Ql.cons rfl (fun Wd hd hbs_ => ?_) ?_
          .
           have k138 := k138.chgM hd (by simp only [List.map_cons, List.map_nil, List.mem_cons, List.not_mem_nil, or_false, not_or]; exact n132.symm)
           exact Dd (Qg rfl Qf rfl k138.range rfl) rfl
          refine Ql.cons rfl (fun Wd hd hbs_ => ?_) ?_
          .
           have k151 := k151.chgM hd (by simp only [List.map_cons, List.map_nil, List.mem_cons, List.not_mem_nil, or_false, not_or]; exact n18)
           exact Dd (Qg rfl Qr rfl k151.range rfl) rfl
          refine Ql.hit rfl (fun Wd hd hb_ => ?_) ?_
          .
           have g1 := g1.chgM hd (mA (.tail _ (.tail _ (.tail _ (.head _)))))
           have g2 := g2.chgM hd (mA (.tail _ (.tail _ (.tail _ (.head _)))))
           exact (QB (vs := [a1, a2, .int .i64 ((Xw (Xx Qb Qa Qd Qc) (XI d)).Qd), .bool ((Xw (Xx Qb Qa Qd Qc) (XI d)).Qc)]) rfl Qj rfl rfl rfl (oC g1.one (oC g2.one (oC rfl (oC rfl Qk)))) hb_ rfl rfl).mono (fun _ W' h => ⟨h.2, XC.is h.1, trivial⟩)
          exact trivial
         .
          intro W153 hd hq_
          replace h1 := h1.chgM hd (mA (.tail _ (.tail _ (.tail _ (.head _)))))
          replace h2 := h2.chgM hd (mA (.tail _ (.tail _ (.tail _ (.head _)))))
          replace h3 := h3.chgM hd (mA (.tail _ (.tail _ (.tail _ (.head _)))))
          replace h6 := h6.chgM hd (mA (.tail _ (.tail _ (.tail _ (.head _)))))
          replace hqs := hqs.chgM hd (mA (.tail _ (.tail _ (.tail _ (.head _)))))
          replace j118 := j118.chgM hd (mA (.tail _ (.tail _ (.tail _ (.head _)))))
          replace j119 := j119.chgM hd (mA (.tail _ (.tail _ (.tail _ (.head _)))))
          replace g1 := g1.chgM hd (mA (.tail _ (.tail _ (.tail _ (.head _)))))
          replace g2 := g2.chgM hd (mA (.tail _ (.tail _ (.tail _ (.head _)))))
          replace k3 := k3.chgM hd (by simp only [List.map_cons, List.map_nil, List.mem_cons, List.not_mem_nil, or_false, not_or]; exact n17)
          replace k151 := k151.chgM hd (by simp only [List.map_cons, List.map_nil, List.mem_cons, List.not_mem_nil, or_false, not_or]; exact n18)
          replace k21 := k21.chgM hd (by simp only [List.map_cons, List.map_nil, List.mem_cons, List.not_mem_nil, or_false, not_or]; exact n26.symm)
          replace hp122 := hp122.chgM hd (by simp only [List.map_cons, List.map_nil, List.mem_cons, List.not_mem_nil, or_false, not_or]; exact n66.symm)
          replace k138 := k138.chgM hd (by simp only [List.map_cons, List.map_nil, List.mem_cons, List.not_mem_nil, or_false, not_or]; exact n132.symm)
          have k154 := hq_ _ (.head _)
          replace k154 := XC.blk k154
          replace hB := hd.toBelow hB (mA l19)
          replace hL := hL.chgM hd
          intro _ _
          refine WL.do (Qh (cs' := [.int .i64 half, .int .i64 gen, .int .i64 (used + (X2 (rec.length : Int)))]) (vs := [.int .i64 half, .int .i64 gen, .int .i64 (used + (X2 (rec.length : Int)))]) rfl Qv rfl rfl rfl (oC rfl (oC rfl (oC rfl Qk))) k21 rfl (nB rfl) rfl) rfl ?_
          rintro _ W155 ⟨k157, o156⟩
          replace k154 := k154.other o156 n26
          clear k21
          replace g1 := g1.only o156 (.tail _ (.tail _ (.head _)))
          replace g2 := g2.only o156 (.tail _ (.tail _ (.head _)))
          replace hB := o156.below hB l27
          refine Pu rfl (Ni (hK152 ?_))
          exact WC.ret fun a_ ha_ => hQ (Xp rfl (.agg rfl Qf k154.range rfl) (.agg rfl Qr k157.range rfl) (.tmp rfl) (by rw [HO (by first | assumption | omega) (by first | assumption | omega) (by first | assumption | omega) (by first | assumption | omega) hdA (by first | assumption | exact Classical.not_not.1 (by assumption))]; exact ⟨_, _, Fg (by first | assumption | exact Classical.not_not.1 (by assumption)), (g1.less (fun x hx => (.tail _ (.tail _ (.tail _ (.tail _ (.tail _ (.tail _ hx)))))))), (g2.less (fun x hx => (.tail _ (.tail _ (.tail _ (.tail _ (.tail _ (.tail _ hx))))))))⟩) hB ha_)

section
variable {Qb : List (List Int)} {Qa : List (Int × List Int)} {Qd : Int} {Qc : Bool} {half gen used : Int} {l : List (List Int)}
end
end Go.Proofs.YtfachlmgdlnpoaaDoor
namespace Go.Proofs.YtfachlmgdlnpoaaDoor
set_option linter.unusedVariables false
set_option maxRecDepth 8000

theorem FM : ∀ (k : Nat) (n : Int), 0 <= n -> Za (ZA k n) = n % 2 ^ (8 * k)
 | 0, n, h => by show (0 : Int) = n % 1; omega
 | k + 1, n, h => by
  rw [KZ, UF, FM k n h, Xm, QaL, QaL, Int.pow_succ]
  have hp : (0 : Int) < 256 ^ k := Int.pow_pos (by decide)
  generalize (256 : Int) ^ k = m at *
  have h1 := Int.mul_ediv_add_emod n m
  have h2 := Int.mul_ediv_add_emod n (m * 256)
  have e : n / m / 256 = n / (m * 256) := by rw [Int.ediv_ediv, if_neg (fun q => absurd q.1 (by omega))]; omega
  rw [<- e] at h2
  have h3 := Int.mul_ediv_add_emod (n / m) 256
  generalize n / m = a at *
  generalize a / 256 = b at *
  generalize a % 256 = c at *
  generalize n % m = r at *
  generalize n % (m * 256) = t at *
  have e1 : m * 256 * b = m * (256 * b) := Int.mul_assoc ..
  have e2 : m * a = m * (256 * b) + m * c := by rw [<- Int.mul_add, h3]
  rw [Int.mul_comm c m]
  omega
theorem J8 {k : Nat} {n : Int} (hk : k <= 8) (h0 : 0 <= n) (h1 : n < 2 ^ (8 * k)) (h2 : n < 9223372036854775808) : X4 (ZA k n) = n := by
 unfold X4
 rw [FM k n h0, Int.emod_eq_of_lt h0 h1, Qn (by omega)]
structure KD (p : Pg) : Prop where
 g1 : 1 <= p.gen
 g2 : p.gen <= 1099511627776
 i1 : 0 <= p.idx
 i2 : p.idx < 4294967296
 m1 : 0 <= p.mks
 m2 : p.mks <= 3
 dl : p.dat.length <= 100
 db : ZX p.dat
theorem GD {p : Pg} (h : p.dat.length <= 100) : ((Xj p).drop 0).take 8 = ZA 8 p.gen /\ ((Xj p).drop 8).take 4 = ZA 4 p.idx /\ (Xj p)[12]? = some ((p.dat.length : Int) % 256) /\ (Xj p)[13]? = some (p.mks % 256) /\ ((Xj p).drop 14).take p.dat.length = p.dat := by
  unfold Xj XJ
  have h8 := Xm 8 p.gen
  have h4 := Xm 4 p.idx
  generalize ZA 8 p.gen = a at *
  generalize ZA 4 p.idx = b at *
  simp only [List.append_assoc]
  refine ⟨?_, ?_, ?_, ?_, ?_⟩
  . rw [List.drop_zero, List.take_append_of_le_length (by omega), List.take_of_length_le (by omega)]
  . rw [List.drop_append_of_le_length (by omega), List.drop_of_length_le (by omega), List.nil_append, List.take_append_of_le_length (by omega), List.take_of_length_le (by omega)]
  . rw [List.getElem?_append_right (by omega), List.getElem?_append_right (by omega), h8, h4]; rfl
  . rw [List.getElem?_append_right (by omega), List.getElem?_append_right (by omega), h8, h4]; rfl
  . rw [show 14 = a.length + (b.length + (1 + 1)) by omega, List.drop_append, List.drop_append, List.drop_of_length_le (by omega), List.drop_of_length_le (by omega)]
    rw [show a.length + (b.length + (1 + 1)) - a.length - b.length = 2 by omega]
    simp
theorem Qb6 {p : Pg} (h : KD p) : V2 (Xj p) = p := by
 obtain ⟨e1, e2, e3, e4, e5⟩ := GD h.dl
 unfold V2
 rw [e1, e2, e3, e4]
 have := h.g1; have := h.g2; have := h.i1; have := h.i2; have := h.m1; have := h.m2; have := h.dl
 rw [J8 (by decide) (by omega) (by show p.gen < 18446744073709551616; omega) (by omega), J8 (by decide) h.i1 (by show p.idx < 4294967296; omega) (by omega)]
 simp only [Option.getD_some]
 rw [show (p.dat.length : Int) % 256 = p.dat.length by omega, Int.toNat_natCast, e5, show p.mks % 256 = p.mks by omega]
theorem FQ {p : Pg} (h : KD p) : Zi (Xj p) = some p := by
 have e := Qb6 h
 obtain ⟨e1, e2, e3, e4, e5⟩ := GD h.dl
 have hb : ¬ VM (Xj p) := by
  unfold VM
  rw [e1, e3, e4]
  have := h.g1; have := h.g2; have := h.i1; have := h.i2; have := h.m1; have := h.m2; have := h.dl
  rw [J8 (by decide) (by omega) (by show p.gen < 18446744073709551616; omega) (by omega)]
  simp only [Option.getD_some]
  omega
 unfold Zi
 rw [if_neg hb, e, if_pos rfl]
theorem Qap : Zi z0 = none := by
 unfold Zi
 rw [if_pos (by unfold VM; exact .inl (by decide +kernel))]
def Xk (Qb : List (List Int)) (Qa : List (Int × List Int)) (a : Nat) : Option Pg := Zi (Xl Qb Qa false (a : Int)).1
def UM (V : Nat -> Option Pg) (fr k : Nat) : Option Pg := match V (fr + k) with
 | some p => if p.idx = (k : Int) then some p else none
 | none => none
theorem QeN {Qb : List (List Int)} {a : Nat} (h : a < Qb.length) : Vm Qb (a : Int) = true := by
 unfold Vm
 rw [decide_eq_true (by omega), decide_eq_true (by omega)]; rfl
theorem JS {Qb : List (List Int)} {Qa : List (Int × List Int)} (hr : QH Qb Qa = true) {a : Nat} (ha : a < Qb.length) : Xl Qb Qa false (a : Int) = match Zf Qa (a : Int) Qa.length with | some z => (z, 0) | none => (Qb[a]?.getD [], 0) := by
 unfold Xl
 rw [if_neg (by rw [hr]; decide), if_neg (by rw [QeN ha]; decide), if_neg (by decide)]
 rfl
theorem QbX {Qb : List (List Int)} {Qa : List (Int × List Int)} (hr : QH Qb Qa = true) {a : Nat} (ha : a < Qb.length) : (Xl Qb Qa false (a : Int)).2 = 0 := by
 rw [JS hr ha]
 split <;> rfl
theorem QaS {Qb : List (List Int)} {Qa : List (Int × List Int)} (hr : QH Qb Qa = true) {fr k : Nat} (ha : fr + k < Qb.length) : Hu Qb Qa false (fr : Int) k = UM (Xk Qb Qa) fr k := by
 show Uz Qb Qa false ((fr : Int) + (k : Int)) (k : Int) = _
 rw [show (fr : Int) + (k : Int) = ((fr + k : Nat) : Int) by omega]
 unfold Uz UM Xk
 rw [if_neg (fun q => q (QbX hr ha))]
 generalize Zi (Xl Qb Qa false ((fr + k : Nat) : Int)).1 = x
 cases x <;> rfl
theorem F8 {pg pg' : Nat -> Option Pg} {sz st : Nat} {gen : Int} (h : ∀ k, k < sz -> pg k = pg' k) : ∀ (f k : Nat) (out : List Int), YS pg sz st gen f k out = YS pg' sz st gen f k out
  | 0, k, out => rfl
  | f + 1, k, out => by
    rw [YS, YS]
    by_cases hk : k < sz
    . rw [if_pos hk, if_pos hk, h k hk]
      split
      . rfl
      . rw [F8 h f]
    . rw [if_neg hk, if_neg hk]
theorem GJ {pg pg' : Nat -> Option Pg} {sz st : Nat} {gen : Int} (h : ∀ k, k < sz -> pg k = pg' k) : V6 pg sz st gen = V6 pg' sz st gen := F8 h _ _ _
theorem Hr {pg pg' : Nat -> Option Pg} {sz n : Nat} {gen : Int} (h : ∀ k, k < sz -> pg k = pg' k) : ∀ (f k : Nat) (l : List (List Int)), Z2 pg sz n gen f k l = Z2 pg' sz n gen f k l
  | 0, k, l => rfl
  | f + 1, k, l => by
    rw [Z2, Z2, GJ h]
    split
    . split
      . rfl
      . rw [Hr h f]
    . rfl
theorem Hq {pg pg' : Nat -> Option Pg} {sz : Nat} {gen : Int} (h : ∀ k, k < sz -> pg k = pg' k) : ∀ (f k : Nat) (l : List (List Int)), Ya pg sz gen f k l = Ya pg' sz gen f k l
 | 0, k, l => rfl
 | f + 1, k, l => by
  rw [Ya, Ya, GJ h]
  split
  . rfl
  . rw [Hq h f]
theorem Kj {pg pg' : Nat -> Option Pg} {sz : Nat} (hs : 0 < sz) (h : ∀ k, k < sz -> pg k = pg' k) : ZP pg sz = ZP pg' sz := by
  unfold ZP
  rw [h 0 hs]
  split
  . rfl
  . split
    . rfl
    . split
      . rfl
      . rw [Hr h]
        split
        . rfl
        . rw [Hq h]
theorem Qa4 {Qb : List (List Int)} {Qa : List (Int × List Int)} (hr : QH Qb Qa = true) (hn : 2 <= Qb.length) {q : Int} {Q : Nat} (hq : q = (Q : Int)) (hQ : Q <= 1) : Et Qb Qa false q = ZP (UM (Xk Qb Qa) (Q * (Qb.length / 2))) (Qb.length / 2) := by
 subst hq
 unfold Et
 have e : (Q : Int) * ((Qb.length : Int) / 2) = ((Q * (Qb.length / 2) : Nat) : Int) := by rw [Int.natCast_mul]; rfl
 rw [e]
 refine Kj (by omega) fun k hk => QaS hr ?_
 have : Q = 0 \/ Q = 1 := by omega
 rcases this with rfl | rfl <;> omega
theorem YD {gen fr : Int} {r : List Int} {k : Nat} (hk : k < ZV r) : (Xo gen fr r)[k]? = some ⟨gen, fr + (k : Int), (if k = 0 then 1 else 0) + (if k + 1 = ZV r then 2 else 0), Jo r k⟩ := by
 unfold Xo
 rw [List.getElem?_map, List.getElem?_range hk]; rfl
theorem QdG {k n : Nat} : b1 ((if k = 0 then 1 else 0) + (if k + 1 = n then 2 else 0)) = decide (k = 0) := by
 by_cases h1 : k = 0 <;> by_cases h2 : k + 1 = n <;> simp only [h1, h2, if_true, if_false, decide_true, decide_false] <;> first | decide | (subst h1; simp only [h2, if_true, if_false]; decide)
theorem DX {k n : Nat} : b2 ((if k = 0 then 1 else 0) + (if k + 1 = n then 2 else 0)) = decide (k + 1 = n) := by
 by_cases h1 : k = 0 <;> by_cases h2 : k + 1 = n <;> simp only [h1, h2, if_true, if_false, decide_true, decide_false] <;> first | decide | (subst h1; simp only [h2, if_true, if_false]; decide)
theorem QcT (r : List Int) (k : Nat) : r.take (100 * k) ++ Jo r k = r.take (100 * (k + 1)) := by
 unfold Jo
 rw [Nat.mul_add, Nat.mul_one, List.take_add]
theorem J2 (r : List Int) : 1 <= ZV r := by unfold ZV; split <;> omega
theorem Ht {pg : Nat -> Option Pg} {sz st : Nat} {gen : Int} {r : List Int} (h : ∀ k, k < ZV r -> pg (st + k) = (Xo gen (st : Int) r)[k]?) (hs : st + ZV r <= sz) : ∀ (j k f : Nat), k + j = ZV r -> 1 <= j -> j <= f -> YS pg sz st gen f (st + k) (r.take (100 * k)) = some (r, st + ZV r)
 | 0, k, f, _, h1, _ => absurd h1 (by decide)
 | j + 1, k, 0, _, _, h2 => absurd h2 (by omega)
 | j + 1, k, f + 1, e, _, h2 => by
  have hp := h k (by omega)
  rw [YD (by omega)] at hp
  have hg : ¬ (¬ gen = gen \/ ¬ b1 ((if k = 0 then 1 else 0) + (if k + 1 = ZV r then 2 else 0)) = decide (st + k = st)) := by
   rw [QdG]
   have : (k = 0) ↔ (st + k = st) := by omega
   rintro (q | q)
   . exact q rfl
   . exact q (decide_eq_decide.2 this)
  have hn : r.length = 0 /\ ZV r = 1 \/ 0 < r.length /\ ZV r = (r.length + 99) / 100 := by unfold ZV; split <;> omega
  have hc : (Jo r k).length = min 100 (r.length - 100 * k) := by unfold Jo; rw [List.length_take, List.length_drop]
  cases j with
  | zero =>
   rw [EZ (by omega) hp hg (by rw [DX]; exact decide_eq_true (by omega)) (by rintro ⟨q1, q2⟩; rw [hc] at q2; omega)]
   rw [QcT, List.take_of_length_le (by omega)]
   congr 2
   omega
  | succ j =>
   rw [QbU (by omega) hp hg (by rw [DX]; simp; omega) (by rw [hc]; omega), QcT]
   exact Ht h hs (j + 1) (k + 1) f (by omega) (by omega) (by omega)
theorem QaF {pg : Nat -> Option Pg} {sz st : Nat} {gen : Int} {r : List Int} (h : ∀ k, k < ZV r -> pg (st + k) = (Xo gen (st : Int) r)[k]?) (hs : st + ZV r <= sz) : V6 pg sz st gen = some (r, st + ZV r) := by
 have := Ht h hs (ZV r) 0 (sz - st + 1) (by omega) (J2 r) (by omega)
 exact this
theorem G4 (a b : List (List Int)) : Qz (a ++ b) = Qz a + Qz b := by unfold Qz; rw [List.map_append, List.sum_append]
theorem Uc (r : List Int) (b : List (List Int)) : Qz (r :: b) = ZV r + Qz b := by unfold Qz; rw [List.map_cons, List.sum_cons]
theorem Ey (l : List (List Int)) : l.length <= Qz l := by
 induction l with
 | nil => exact Nat.zero_le _
 | cons a l ih => have := J2 a; rw [Uc, List.length_cons]; omega
theorem Eh (gen : Int) : ∀ (a b : List (List Int)) (u : Int), Zh gen u (a ++ b) = Zh gen u a ++ Zh gen (u + (Qz a : Int)) b
 | [], b, u => by show Zh gen u b = Zh gen (u + ((0 : Nat) : Int)) b; congr 1; omega
 | r :: a, b, u => by
  rw [List.cons_append, Zh, Zh, Eh gen a b, List.append_assoc, Uc]
  congr 3
  omega
theorem ZQ (gen : Int) : ∀ (l : List (List Int)) (u : Int), (Zh gen u l).length = Qz l
 | [], u => rfl
 | r :: l, u => by rw [Zh, List.length_append, XK, ZQ gen l, Uc]
theorem Qdz {gen : Int} {a b : List (List Int)} {r : List Int} {k : Nat} (hk : k < ZV r) : (Zh gen 1 (a ++ r :: b))[Qz a + k]? = (Xo gen ((1 + Qz a : Nat) : Int) r)[k]? := by
 rw [Eh, List.getElem?_append_right (by rw [ZQ]; omega), ZQ, Nat.add_sub_cancel_left, Zh, List.getElem?_append_left (by rw [XK]; exact hk)]
 congr 2
theorem Vg {gen : Int} : ∀ {l : List (List Int)} {u : Int} {k : Nat} {p : Pg}, (Zh gen u l)[k]? = some p -> p.idx = u + (k : Int) /\ p.gen = gen /\ 0 <= p.mks /\ p.mks <= 3 /\ p.dat.length <= 100 /\ ∃ r ∈ l, ∃ j, p.dat = Jo r j
  | [], u, k, p, h => by simp [Zh] at h
  | r :: l, u, k, p, h => by
    rw [Zh] at h
    by_cases hk : k < ZV r
    . rw [List.getElem?_append_left (by rw [XK]; exact hk), YD hk] at h
      cases h
      refine ⟨rfl, rfl, ?_, ?_, G6 _ _, r, .head _, k, rfl⟩
      . show (0 : Int) <= (if k = 0 then 1 else 0) + (if k + 1 = ZV r then 2 else 0); split <;> split <;> decide
      . show (if k = 0 then (1 : Int) else 0) + (if k + 1 = ZV r then 2 else 0) <= 3; split <;> split <;> decide
    . rw [List.getElem?_append_right (by rw [XK]; omega), XK] at h
      obtain ⟨h1, h2, h3, h4, h5, q, hq, j, h6⟩ := Vg h
      exact ⟨by rw [h1]; omega, h2, h3, h4, h5, q, .tail _ hq, j, h6⟩
theorem Qdy {gen u : Int} {l : List (List Int)} (hg : 1 <= gen /\ gen <= 1099511627776) (hb : ∀ r ∈ l, ZX r) (hu : 0 <= u) (hc : u + (Qz l : Int) <= 4294967296) {k : Nat} {p : Pg} (h : (Zh gen u l)[k]? = some p) : KD p := by
 have hk := (List.getElem?_eq_some_iff.1 h).1
 rw [ZQ] at hk
 obtain ⟨h1, h2, h3, h4, h5, q, hq, j, h6⟩ := Vg h
 exact ⟨by omega, by omega, by omega, by omega, h3, h4, h5, by rw [h6]; exact JG (hb q hq) j⟩
theorem QeM {gen : Int} {n : Nat} (hg : 1 <= gen /\ gen <= 1099511627776) : KD (ZE gen (n : Int)) := ⟨hg.1, hg.2, Int.le_refl _, by show (0 : Int) < _; decide, by show (0 : Int) <= 3; decide, by show (3 : Int) <= 3; decide, by show 7 <= 100; decide, K0 _ _⟩
theorem Qby {gen : Int} {n : Nat} (h : (n : Int) < 4294967296) : VC (ZE gen (n : Int)) = some (n : Int) := by
 unfold VC ZE
 rw [if_pos ⟨rfl, rfl, rfl, rfl⟩]
 show some (X4 (ZA 4 (n : Int))) = _
 rw [J8 (by decide) (by omega) (by show (n : Int) < 4294967296; omega) (by omega)]
structure UB (pg : Nat -> Option Pg) (sz : Nat) (gen : Int) (A B : List (List Int)) : Prop where
 hdr : pg 0 = some (ZE gen (Qz A : Int))
 pgs : ∀ k, k < Qz (A ++ B) -> pg (1 + k) = (Zh gen 1 (A ++ B))[k]?
 fit : 1 + Qz (A ++ B) <= sz
 stop : V6 pg sz (1 + Qz (A ++ B)) gen = none
theorem UB.one {pg : Nat -> Option Pg} {sz : Nat} {gen : Int} {A B C D : List (List Int)} {r : List Int} (h : UB pg sz gen A B) (e : A ++ B = C ++ r :: D) : V6 pg sz (1 + Qz C) gen = some (r, 1 + Qz C + ZV r) := by
 have hc : Qz (A ++ B) = Qz C + (ZV r + Qz D) := by rw [e, G4, Uc]
 have hf := h.fit
 refine QaF (fun k hk => ?_) (by omega)
 rw [Nat.add_assoc, h.pgs _ (by omega), e]
 exact Qdz hk
theorem UB.r1 {pg : Nat -> Option Pg} {sz : Nat} {gen : Int} {A B : List (List Int)} (h : UB pg sz gen A B) : ∀ (D C : List (List Int)) (f : Nat), A = C ++ D -> D.length < f -> Z2 pg sz (Qz A) gen f (1 + Qz C) C = some (A, 1 + Qz A)
 | [], C, 0, _, hf => absurd hf (by simp)
 | [], C, f + 1, e, _ => by
  rw [List.append_nil] at e
  subst e
  exact DG (by omega)
 | r :: D, C, 0, _, hf => absurd hf (by simp)
 | r :: D, C, f + 1, e, hf => by
  have hc : Qz A = Qz C + (ZV r + Qz D) := by rw [e, G4, Uc]
  have hp := J2 r
  rw [DF (by omega) (h.one (C := C) (r := r) (D := D ++ B) (by rw [e]; simp)) (by omega)]
  have := UB.r1 h D (C ++ [r]) f (by rw [e]; simp) (by simp at hf; omega)
  rw [ZT, <- Nat.add_assoc] at this
  exact this
theorem UB.r2 {pg : Nat -> Option Pg} {sz : Nat} {gen : Int} {A B : List (List Int)} (h : UB pg sz gen A B) : ∀ (D C : List (List Int)) (f : Nat), A ++ B = C ++ D -> D.length <= f -> Ya pg sz gen f (1 + Qz C) C = (A ++ B, 1 + Qz (A ++ B))
 | [], C, f, e, _ => by
  rw [List.append_nil] at e
  rw [<- e]
  exact DB h.stop f
 | r :: D, C, 0, _, hf => absurd hf (by simp)
 | r :: D, C, f + 1, e, hf => by
  rw [DC (h.one (C := C) (r := r) (D := D) e)]
  have := UB.r2 h D (C ++ [r]) f (by rw [e]; simp) (by simp at hf; omega)
  rw [ZT, <- Nat.add_assoc] at this
  exact this
theorem UB.recs {pg : Nat -> Option Pg} {sz : Nat} {gen : Int} {A B : List (List Int)} (h : UB pg sz gen A B) (hs : sz <= 100000) : ZP pg sz = some (A ++ B, gen, 1 + Qz (A ++ B)) := by
 have hc := G4 A B
 have hf := h.fit
 have hA := Ey A
 have hBl := Ey B
 refine Dz (N := Qz A) h.hdr (Qby (by omega)) (by omega) (Int.toNat_natCast _) (h.r1 A [] (sz + 1) rfl (by omega)) ?_
 exact h.r2 B A _ rfl (by omega)
end Go.Proofs.YtfachlmgdlnpoaaDoor
namespace Go.Proofs.YtfachlmgdlnpoaaDoor
open Go.RowKit
set_option linter.unusedVariables false
set_option linter.unusedSimpArgs false
set_option maxRecDepth 8000
set_option maxHeartbeats 2000000

section
variable {P : Program} {ops : Array Oper} {o : Oper} {N : Nat} {f : Fl} {w : World}
theorem QcH {t s n c : Nat} {a : Option Addr} {x y z : Operand} {K K2 : IntKind} (l h : Nat) {i j : Int} (ho : o.op = .slice t x (some y) (some z) none) (ht : XZ P t s = true) (hx : ev f x = some (.slice a n c)) (hy : ev f y = some (.int K i)) (hz : ev f z = some (.int K2 j)) (hi : i = (l : Int)) (hj : j = (h : Int)) (hl : l <= h) (hn : h <= c) (hw : QN ops o f = some true := by rfl) :
  DV P ops o N f w (.slice (a.map fun q => if c = l then q else q.add (l * s)) (h - l) (c - l)) := fun k ha => by
 subst hi hj
 obtain ⟨e, hu, hs⟩ := X0 ht
 have hx := ha.ev hx
 have hy := ha.ev hy
 have hz := ha.ev hz
 cases hi : P.info? e with
 | none => rw [hi] at hs; cases hs
 | some q =>
  have hq : q.size = s := by simpa [hi] using hs
  refine QJ.pure (Qw ha hw) _ ?_ ⟨rfl, rfl⟩
  have h1 : ((l : Int) <= (h : Int)) := by omega
  have h2 : ((h : Int) <= (c : Int)) := by omega
  have h3 : (0 : Int) <= (l : Int) := by omega
  unfold execOp
  simp only [ho, Option.map_none, Option.map_some, hx, hy, hz, Instr.sliceAt, Sem.run_bind, run_underlying hu, Result.andThen_ok, Instr.slice, Instr.sliceBounds, Instr.sliceBound, asIntOf, Sem.run_pure, sizeOf, typeInfo, run_program, hi]
  cases a with
  | none => simp [h1, h2, h3, hq, hl]
  | some a => simp [h1, h2, h3, hq, hl]; split <;> rfl
theorem QcG {t : Nat} {x y z : Operand} {K K2 : IntKind} {L : List Nat} {v : Value} {zs : List Int} {w0 : World} (l h : Nat) {i j : Int} (ho : o.op = .slice t x (some y) (some z) none) (ht : XZ P t 1 = true) (hx : ev f x = some v) (hr : QC 1 L w0 v (zs.map fun z => [Value.int .u8 z])) (hy : ev f y = some (.int K i)) (hz : ev f z = some (.int K2 j)) (hi : i = (l : Int)) (hj : j = (h : Int)) (hl : l <= h) (hk : h <= zs.length) (hw : QN ops o f = some true := by rfl) :
    DR P ops o N f w fun u W => w = W /\ QC 1 L w0 u (((zs.drop l).take (h - l)).map fun z => [Value.int .u8 z]) := by
  obtain ⟨h0, h1, a, cap, rfl, h2, h3, h4, h5⟩ := hr
  rw [List.length_map] at hx h2
  refine (QcH l h ho ht hx hy hz hi hj hl (by omega) hw).mono fun u W hh => ?_
  obtain ⟨rfl, rfl⟩ := hh
  refine ⟨rfl, h0, fun r hr => h1 r (by rw [List.map_take, List.map_drop] at hr; exact List.mem_of_mem_drop (List.mem_of_mem_take hr)), _, cap - l, by rw [List.length_map, List.length_take, List.length_drop]; congr 1; omega, by rw [List.length_map, List.length_take, List.length_drop]; omega, by omega, fun e => by have := h4 (by cases a with | none => rfl | some q => cases e); omega, fun hn => ?_⟩
  have hlt : l < zs.length := by
    rcases Nat.lt_or_ge l zs.length with h | h
    . exact h
    . exact absurd (by simp [List.drop_of_length_le h]) hn
  obtain ⟨X, q, e, hX, hc⟩ := h5 (fun e => by have := congrArg List.length e; rw [List.length_map, List.length_nil] at this; omega)
  subst e
  refine ⟨X, q + l, ?_, hX, fun j u hj => ?_⟩
  . rw [Option.map_some]
    by_cases hc : cap = l
    . omega
    . rw [if_neg hc, Nat.mul_one]
      congr 1
      exact Zl X q l
  . rw [Jb, List.map_take, List.getElem?_take] at hj
    split at hj
    . rw [List.map_drop, List.getElem?_drop] at hj
      have := hc (l + j) u (by rw [Jb]; exact hj)
      rw [<- Nat.add_assoc] at this
      exact this
    . cases hj
end
def Vl (s base : Nat) (L : List Nat) (rs : List (List Value)) (u : Value) (w : World) : Prop := (u = .slice none 0 0 /\ rs = [] /\ 0 < s) \/ ∃ B, base <= B /\ B ∉ L /\ Y2 s w u rs B
section
variable {s base : Nat} {L L' : List Nat} {rs : List (List Value)} {u : Value} {w w' : World}
theorem Vl.toW (h : Vl s base L rs u w) : Zq s base rs u w := by
 rcases h with h | ⟨B, h1, h2, h3⟩
 . exact .inl h
 . exact .inr ⟨B, h1, h3⟩
theorem Vl.of (h : Zq s base rs u w) (hL : ∀ x ∈ L, x < base) : Vl s base L rs u w := by
 rcases h with h | ⟨B, h1, h3⟩
 . exact .inl h
 . exact .inr ⟨B, h1, fun e => by have := hL B e; omega, h3⟩
theorem Vl.below (h : Vl s base L rs u w) (hb : Below w.heap.size w w') : Vl s base L rs u w' := by
 rcases h with h | ⟨B, h1, h2, h3⟩
 . exact .inl h
 . exact .inr ⟨B, h1, h2, h3.below hb⟩
theorem Vl.more (h : Vl s base L rs u w) (hb : Below w.heap.size w w') {B : Nat} (hB : w.heap.size <= B) : Vl s base (B :: L) rs u w' := by
  rcases h with h | ⟨D, h1, h2, h3⟩
  . exact .inl h
  . have := h3.lt
    exact .inr ⟨D, h1, fun e => by rcases List.mem_cons.1 e with e | e; omega; exact h2 e, h3.below hb⟩
theorem Vl.only (h : Vl s base L rs u w) {B : Nat} (ho : Yf B w w') (hB : B ∈ L) : Vl s base L rs u w' := by
 rcases h with h | ⟨D, h1, h2, h3⟩
 . exact .inl h
 . exact .inr ⟨D, h1, h2, h3.other ho (fun e => h2 (e ▸ hB))⟩
end
abbrev YU (q : PV) : List Value := [.int .i64 q.1.gen, .int .i64 q.1.idx, .int .u8 q.1.mks, q.2]
theorem Qfk {rec : List Int} {i m : Nat} (hm : m = min rec.length (100 * i + 100)) : (rec.drop (100 * i)).take (m - 100 * i) = Jo rec i := by
 unfold Jo
 by_cases h : 100 * i + 100 <= rec.length
 . rw [show m - 100 * i = 100 by omega]
 . rw [List.take_of_length_le (by rw [List.length_drop]; omega), List.take_of_length_le (by rw [List.length_drop]; omega)]
theorem Qbc (a b d : Value) (ha : ∃ n, a = .int .i64 n) (hb : ∃ n, b = .int .i64 n) (hd : ∃ x n c, d = .slice x n c) : Tryd.prog.built 96 [(0, a), (1, b), (3, d)] = some [a, b, .int .u8 0, d].toArray := by
 obtain ⟨n, rfl⟩ := ha
 obtain ⟨m, rfl⟩ := hb
 obtain ⟨x, y, c, rfl⟩ := hd
 kernel_rfl
theorem QC.slice {s : Nat} {L : List Nat} {w : World} {v : Value} {rs : List (List Value)} (h : QC s L w v rs) : ∃ x n c, v = .slice x n c := by
 obtain ⟨_, _, a, cap, rfl, _⟩ := h
 exact ⟨_, _, _, rfl⟩
set_option maxHeartbeats 1000000 in
theorem F1 (gen fr : Int) (rec : List Int) (dv : Value) (w0 : World) (w : World) (L : List Nat) (hL : LL L w)   (hL0 : LL L w) (hb0 : Below w0.heap.size w0 w) (h10 : QC 1 L w0 dv (Vq rec)) (hfr : 0 <= fr /\ fr <= 100000) (hrl : rec.length <= 4096) : CV Tryd.prog 46 [dv, .int .i64 gen, .int .i64 fr] w fun v W => ∃ qs : List PV, Zq 4 w.heap.size (qs.map YU) v W /\ qs.map Prod.fst = Xo gen fr rec /\ Yv L w0 qs := by
 have h1 := h10.below hb0
 have hn4 := JO hrl
 have hnp := J2 rec
 have hn41 : ZV rec <= 41 := by unfold ZV; split <;> omega
 refine QL (N := 50) (f := [(0, dv), (1, .int .i64 gen), (2, .int .i64 fr)]) Tryd.func46 rfl rfl rfl rfl fun Q hQ hE => ?_
 have hB := Below.refl w.heap.size w
 refine Sq fun K1 hK1 => (Rg (Pu rfl (Ni (hK1 (Sq fun K2 hK2 => (Rg (Pu rfl ?_)))))))
 refine Ni (hK2 (Sq fun K3 hK3 => (Rg (Pu rfl (Va (ZS (Yj rfl QF rfl h10) (show _ = Value.int .i64 (rec.length : Int) by rw [List.length_map])) rfl rfl ?_)))))
 refine Ge (QO rfl Tryd.func23 rfl rfl rfl ((by have h_ := Fa ((rec.length : Nat) : Int) w [] (LL.nil _) (by omega); rw [hn4] at h_; exact h_))) rfl rfl ?_
 rintro _ W5 ⟨rfl, b4⟩
 replace hB := Qe hB b4
 replace hL := LL.below hL b4
 refine Pu rfl (Ni (hK3 (Sq fun K6 hK6 => (Sq fun K7 hK7 => (Rg (Pu rfl (Ni ?_)))))))
 refine hK7 (WC.block ?_)
 have h5 : Vl 4 w.heap.size (L) (([] : List PV).map YU) (.slice none 0 0) W5 := .inl ⟨rfl, rfl, by decide⟩
 refine WC.loop3 (fun (i : Nat) (qs : List PV) (ov : Value) => [(0, dv), (1, .int .i64 gen), (2, .int .i64 fr), (8, .int .i64 (ZV rec : Int)), (7, ov), (9, .int .i64 (i : Int))]) (fun (i : Nat) (qs : List PV) (ov : Value) W => i <= ZV rec /\ qs.map Prod.fst = (Xo gen fr rec).take i /\ Yv L w0 qs /\ qs.length = i /\ Below w.heap.size w W /\ LL (L) W /\ Vl 4 w.heap.size (L) (qs.map YU) ov W) (fun (i : Nat) (qs : List PV) (ov : Value) => ZV rec - i) 0 [] (.slice none 0 0) (by repeat first | exact trivial | refine aR ?_ | refine aI (by omega) ?_) ⟨Nat.zero_le _, rfl, (fun q hq => by cases hq), rfl, hB, hL, h5⟩ ?_
 clear h5 hB hL
 rintro K8 i qs ov W9 ⟨hi, hqf, hqs, hql, hB, hL, h5⟩ hK8
 refine Sq fun K10 hK10 => (Sq fun K11 hK11 => (Rg (Pu rfl (Pu rfl (Va (Xh rfl rfl rfl) rfl rfl (Ni (hK11 ?_)))))))
 refine WC.cond rfl (fun c12 => ?_) (fun c12 => ?_)
 .
  replace c12 := dT c12
  refine WC.skip (hK10 (Sq fun K13 hK13 => (WC.block (Sq fun K14 hK14 => (Rg (Pu rfl (Pu rfl ?_)))))))
  refine Pu rfl (Va (QR (r := fr + (i : Int)) rfl rfl rfl (Qn (by omega))) rfl rfl (Pu rfl (Pu rfl (Va (VJ (r := 100 * (i : Int)) rfl rfl rfl (by rw [Qn (by omega)])) rfl rfl (Pu rfl (Va (ZS (Yj rfl QF rfl h10) (show _ = Value.int .i64 (rec.length : Int) by rw [List.length_map])) rfl rfl (Pu rfl ?_)))))))
  refine Va (VJ (r := 100 * (i : Int)) rfl rfl rfl (by rw [Qn (by omega)])) rfl rfl (Va (QR (r := 100 * (i : Int) + 100) rfl rfl rfl (by rw [Qn (by omega)])) rfl rfl ?_)
  obtain ⟨m, hm⟩ : ∃ m : Nat, m = min rec.length (100 * i + 100) := ⟨_, rfl⟩
  have hmm : (m : Int) = if (100 * (i : Int) + 100) < (rec.length : Int) then 100 * (i : Int) + 100 else (rec.length : Int) := by split <;> omega
  refine Va (ZS (Di rfl rfl rfl) (congrArg (Value.int .i64) hmm.symm)) rfl rfl ?_
  have hlo : 100 * i <= m := by rw [hm]; unfold ZV at hi; have : i < ZV rec := (by omega); unfold ZV at this; split at this <;> omega
  refine Ge (QcG (100 * i) m rfl QF rfl h10 rfl rfl (by omega) rfl hlo (by omega)) rfl rfl ?_
  rintro u15 _ ⟨rfl, hsl⟩
  rw [Qfk hm] at hsl
  refine Va (QP rfl rfl (Qbc _ _ _ ⟨_, rfl⟩ ⟨_, rfl⟩ hsl.slice)) rfl rfl ?_
  refine Ge (Qs rfl VA rfl) rfl rfl ?_
  rintro _ W16 ⟨rfl, k17, b18, z19⟩
  have l20 := hB.size
  replace h5 := h5.more b18 (Nat.le_refl _)
  replace hB := Qe hB b18
  replace hL := LL.more hL z19
  refine WL.do (Qh (cs' := [.int .i64 gen, .int .i64 (fr + (i : Int)), .int .u8 0, u15]) (vs := [.int .i64 gen, .int .i64 (fr + (i : Int)), .int .u8 0, u15]) rfl ZG rfl rfl rfl (oC rfl (oC rfl (oC rfl (oC hsl.one Qk)))) k17 rfl (nB rfl) rfl) rfl ?_
  rintro _ W21 ⟨k23, o22⟩
  clear k17
  replace h5 := h5.only o22 (.head _)
  replace hB := o22.below hB l20
  replace hL := LL.only hL o22
  refine Ni (hK14 (Sq fun K24 hK24 => (Sq fun K25 hK25 => (Rg (Pu rfl (Va (Zo rfl rfl rfl) rfl rfl (Ni ?_)))))))
  refine hK25 ?_
  refine WC.cond rfl (fun c26 => ?_) (fun c26 => ?_)
  .
   replace c26 := dT c26
   refine Rg (Va (Qm (o1 := 2) rfl Zs rfl rfl) rfl rfl ?_)
   refine WL.do (Qh (cs' := [.int .i64 gen, .int .i64 (fr + (i : Int)), .int .u8 1, u15]) (vs := [.int .u8 1]) rfl Qx rfl rfl rfl (oC rfl Qk) k23 rfl (nB rfl) rfl) rfl ?_
   rintro _ W27 ⟨k29, o28⟩
   clear k23
   replace h5 := h5.only o28 (.head _)
   replace hB := o28.below hB l20
   replace hL := LL.only hL o28
   refine Ni (hK24 (Sq fun K30 hK30 => (Sq fun K31 hK31 => (Rg (Pu rfl (Pu rfl (Va (Zn (r := (ZV rec : Int) - 1) rfl rfl rfl (Qn (by omega))) rfl rfl ?_)))))))
   refine Va (Zo rfl rfl rfl) rfl rfl (Ni (hK31 ?_))
   refine WC.cond rfl (fun c32 => ?_) (fun c32 => ?_)
   .
    replace c32 := dT c32
    refine Rg (Va (Qm (o1 := 2) rfl Zs rfl rfl) rfl rfl (Va (Qi rfl XX rfl (k29.cell (k := 2) rfl)) rfl rfl (Va (QR (r := 3) rfl rfl rfl (by decide)) rfl rfl (Va (Qm (o1 := 2) rfl Zs rfl rfl) rfl rfl ?_))))
    refine WL.do (Qh (cs' := [.int .i64 gen, .int .i64 (fr + (i : Int)), .int .u8 3, u15]) (vs := [.int .u8 3]) rfl Qx rfl rfl rfl (oC rfl Qk) k29 rfl (nB rfl) rfl) rfl ?_
    rintro _ W33 ⟨k35, o34⟩
    clear k29
    replace h5 := h5.only o34 (.head _)
    replace hB := o34.below hB l20
    replace hL := LL.only hL o34
    refine Ni (hK30 (Rg (Pu rfl (Va (Qg rfl XB rfl k35.range rfl) rfl rfl ?_))))
    refine Ge (ZJ (r := [.int .i64 gen, .int .i64 (fr + (i : Int)), .int .u8 3, u15]) rfl Yr (by decide) (by decide) rfl rfl rfl) rfl rfl ?_
    rintro u40 W36 ⟨k37, b38, z39⟩
    replace h5 := h5.below b38
    replace hB := Qe hB b38
    replace hL := LL.below hL b38
    refine Ge (VZ (base := w.heap.size) rfl Yr rfl rfl h5.toW (k37.rd (L := []) (by simp)) (fun r_ hr_ u_ hu_ => by rw [List.mem_singleton.1 hr_] at hu_; exact oC rfl (oC rfl (oC rfl (oC hsl.one Qk))) u_ hu_) (by rw [List.length_map]; unfold maxLen; simp; omega) (by rw [List.length_map]; simp; omega) hB.size) rfl rfl ?_
    rintro u41 W42 ⟨h5, b43⟩
    replace h5 : Zq 4 w.heap.size ((qs ++ [((⟨gen, fr + (i : Int), 3, Jo rec i⟩ : Pg), u15)]).map YU) u41 W42 := by rw [List.map_append]; exact h5
    replace h5 := Vl.of (L := L) h5 hL0
    replace hB := hB.trans b43
    have hL : LL L W42 := fun x hx => Nat.lt_of_lt_of_le (hL0 x hx) hB.size
    refine Pu rfl (Ni (hK13 (Rg (Pu rfl (Va (QR (r := (i : Int) + 1) rfl rfl rfl (Qn (by omega))) rfl rfl (Pu rfl (Ni ?_)))))))
    exact hK8 (i + 1) (qs ++ [((⟨gen, fr + (i : Int), 3, Jo rec i⟩ : Pg), u15)]) u41 ⟨(by omega), (by rw [List.map_append, hqf, List.take_add_one, YD (by omega), show (if i = 0 then (1 : Int) else 0) + (if i + 1 = ZV rec then 2 else 0) = 3 by split <;> split <;> omega]; rfl), (fun q hq => by rcases List.mem_append.1 hq with h_ | h_; exact hqs q h_; rw [List.mem_singleton.1 h_]; exact hsl), (by rw [List.length_append, List.length_singleton]; omega), hB, hL, h5⟩ (by omega) (by repeat first | exact trivial | refine aR ?_ | refine aI (by omega) ?_)
   .
    replace c32 := dF c32
    refine WC.skip (hK30 (Rg (Pu rfl (Va (Qg rfl XB rfl k29.range rfl) rfl rfl ?_))))
    refine Ge (ZJ (r := [.int .i64 gen, .int .i64 (fr + (i : Int)), .int .u8 1, u15]) rfl Yr (by decide) (by decide) rfl rfl rfl) rfl rfl ?_
    rintro u48 W44 ⟨k45, b46, z47⟩
    replace h5 := h5.below b46
    replace hB := Qe hB b46
    replace hL := LL.below hL b46
    refine Ge (VZ (base := w.heap.size) rfl Yr rfl rfl h5.toW (k45.rd (L := []) (by simp)) (fun r_ hr_ u_ hu_ => by rw [List.mem_singleton.1 hr_] at hu_; exact oC rfl (oC rfl (oC rfl (oC hsl.one Qk))) u_ hu_) (by rw [List.length_map]; unfold maxLen; simp; omega) (by rw [List.length_map]; simp; omega) hB.size) rfl rfl ?_
    rintro u49 W50 ⟨h5, b51⟩
    replace h5 : Zq 4 w.heap.size ((qs ++ [((⟨gen, fr + (i : Int), 1, Jo rec i⟩ : Pg), u15)]).map YU) u49 W50 := by rw [List.map_append]; exact h5
    replace h5 := Vl.of (L := L) h5 hL0
    replace hB := hB.trans b51
    have hL : LL L W50 := fun x hx => Nat.lt_of_lt_of_le (hL0 x hx) hB.size
    refine Pu rfl (Ni (hK13 (Rg (Pu rfl (Va (QR (r := (i : Int) + 1) rfl rfl rfl (Qn (by omega))) rfl rfl (Pu rfl (Ni ?_)))))))
    exact hK8 (i + 1) (qs ++ [((⟨gen, fr + (i : Int), 1, Jo rec i⟩ : Pg), u15)]) u49 ⟨(by omega), (by rw [List.map_append, hqf, List.take_add_one, YD (by omega), show (if i = 0 then (1 : Int) else 0) + (if i + 1 = ZV rec then 2 else 0) = 1 by split <;> split <;> omega]; rfl), (fun q hq => by rcases List.mem_append.1 hq with h_ | h_; exact hqs q h_; rw [List.mem_singleton.1 h_]; exact hsl), (by rw [List.length_append, List.length_singleton]; omega), hB, hL, h5⟩ (by omega) (by repeat first | exact trivial | refine aR ?_ | refine aI (by omega) ?_)
  .
   replace c26 := dF c26
   refine WC.skip (hK24 (Sq fun K52 hK52 => (Sq fun K53 hK53 => (Rg (Pu rfl (Pu rfl (Va (Zn (r := (ZV rec : Int) - 1) rfl rfl rfl (Qn (by omega))) rfl rfl ?_)))))))
   refine Va (Zo rfl rfl rfl) rfl rfl (Ni (hK53 ?_))
   refine WC.cond rfl (fun c54 => ?_) (fun c54 => ?_)
   .
    replace c54 := dT c54
    refine Rg (Va (Qm (o1 := 2) rfl Zs rfl rfl) rfl rfl (Va (Qi rfl XX rfl (k23.cell (k := 2) rfl)) rfl rfl (Va (QR (r := 2) rfl rfl rfl (by decide)) rfl rfl (Va (Qm (o1 := 2) rfl Zs rfl rfl) rfl rfl ?_))))
    refine WL.do (Qh (cs' := [.int .i64 gen, .int .i64 (fr + (i : Int)), .int .u8 2, u15]) (vs := [.int .u8 2]) rfl Qx rfl rfl rfl (oC rfl Qk) k23 rfl (nB rfl) rfl) rfl ?_
    rintro _ W55 ⟨k57, o56⟩
    clear k23
    replace h5 := h5.only o56 (.head _)
    replace hB := o56.below hB l20
    replace hL := LL.only hL o56
    refine Ni (hK52 (Rg (Pu rfl (Va (Qg rfl XB rfl k57.range rfl) rfl rfl ?_))))
    refine Ge (ZJ (r := [.int .i64 gen, .int .i64 (fr + (i : Int)), .int .u8 2, u15]) rfl Yr (by decide) (by decide) rfl rfl rfl) rfl rfl ?_
    rintro u62 W58 ⟨k59, b60, z61⟩
    replace h5 := h5.below b60
    replace hB := Qe hB b60
    replace hL := LL.below hL b60
    refine Ge (VZ (base := w.heap.size) rfl Yr rfl rfl h5.toW (k59.rd (L := []) (by simp)) (fun r_ hr_ u_ hu_ => by rw [List.mem_singleton.1 hr_] at hu_; exact oC rfl (oC rfl (oC rfl (oC hsl.one Qk))) u_ hu_) (by rw [List.length_map]; unfold maxLen; simp; omega) (by rw [List.length_map]; simp; omega) hB.size) rfl rfl ?_
    rintro u63 W64 ⟨h5, b65⟩
    replace h5 : Zq 4 w.heap.size ((qs ++ [((⟨gen, fr + (i : Int), 2, Jo rec i⟩ : Pg), u15)]).map YU) u63 W64 := by rw [List.map_append]; exact h5
    replace h5 := Vl.of (L := L) h5 hL0
    replace hB := hB.trans b65
    have hL : LL L W64 := fun x hx => Nat.lt_of_lt_of_le (hL0 x hx) hB.size
    refine Pu rfl (Ni (hK13 (Rg (Pu rfl (Va (QR (r := (i : Int) + 1) rfl rfl rfl (Qn (by omega))) rfl rfl (Pu rfl (Ni ?_)))))))
    exact hK8 (i + 1) (qs ++ [((⟨gen, fr + (i : Int), 2, Jo rec i⟩ : Pg), u15)]) u63 ⟨(by omega), (by rw [List.map_append, hqf, List.take_add_one, YD (by omega), show (if i = 0 then (1 : Int) else 0) + (if i + 1 = ZV rec then 2 else 0) = 2 by split <;> split <;> omega]; rfl), (fun q hq => by rcases List.mem_append.1 hq with h_ | h_; exact hqs q h_; rw [List.mem_singleton.1 h_]; exact hsl), (by rw [List.length_append, List.length_singleton]; omega), hB, hL, h5⟩ (by omega) (by repeat first | exact trivial | refine aR ?_ | refine aI (by omega) ?_)
   .
    replace c54 := dF c54
    refine WC.skip (hK52 (Rg (Pu rfl (Va (Qg rfl XB rfl k23.range rfl) rfl rfl ?_))))
    refine Ge (ZJ (r := [.int .i64 gen, .int .i64 (fr + (i : Int)), .int .u8 0, u15]) rfl Yr (by decide) (by decide) rfl rfl rfl) rfl rfl ?_
    rintro u70 W66 ⟨k67, b68, z69⟩
    replace h5 := h5.below b68
    replace hB := Qe hB b68
    replace hL := LL.below hL b68
    refine Ge (VZ (base := w.heap.size) rfl Yr rfl rfl h5.toW (k67.rd (L := []) (by simp)) (fun r_ hr_ u_ hu_ => by rw [List.mem_singleton.1 hr_] at hu_; exact oC rfl (oC rfl (oC rfl (oC hsl.one Qk))) u_ hu_) (by rw [List.length_map]; unfold maxLen; simp; omega) (by rw [List.length_map]; simp; omega) hB.size) rfl rfl ?_
    rintro u71 W72 ⟨h5, b73⟩
    replace h5 : Zq 4 w.heap.size ((qs ++ [((⟨gen, fr + (i : Int), 0, Jo rec i⟩ : Pg), u15)]).map YU) u71 W72 := by rw [List.map_append]; exact h5
    replace h5 := Vl.of (L := L) h5 hL0
    replace hB := hB.trans b73
    have hL : LL L W72 := fun x hx => Nat.lt_of_lt_of_le (hL0 x hx) hB.size
    refine Pu rfl (Ni (hK13 (Rg (Pu rfl (Va (QR (r := (i : Int) + 1) rfl rfl rfl (Qn (by omega))) rfl rfl (Pu rfl (Ni ?_)))))))
    exact hK8 (i + 1) (qs ++ [((⟨gen, fr + (i : Int), 0, Jo rec i⟩ : Pg), u15)]) u71 ⟨(by omega), (by rw [List.map_append, hqf, List.take_add_one, YD (by omega), show (if i = 0 then (1 : Int) else 0) + (if i + 1 = ZV rec then 2 else 0) = 0 by split <;> split <;> omega]; rfl), (fun q hq => by rcases List.mem_append.1 hq with h_ | h_; exact hqs q h_; rw [List.mem_singleton.1 h_]; exact hsl), (by rw [List.length_append, List.length_singleton]; omega), hB, hL, h5⟩ (by omega) (by repeat first | exact trivial | refine aR ?_ | refine aI (by omega) ?_)
 .
  replace c12 := dF c12
  refine WC.exit ?_
  refine hK6 (Sq fun K74 hK74 => (Rg (Pu rfl (Pu rfl (Ni (hK74 ?_))))))
  exact WC.ret fun a_ ha_ => hQ (QI rfl (.tmp rfl) ⟨qs, h5.toW, by rw [hqf, List.take_of_length_le (by rw [XK]; omega)], hqs⟩ hB ha_)

end Go.Proofs.YtfachlmgdlnpoaaDoor
namespace Go.Proofs.YtfachlmgdlnpoaaDoor
set_option linter.unusedVariables false
set_option maxRecDepth 8000

theorem JR {Qb : List (List Int)} {Qa : List (Int × List Int)} (h1 : 1 <= Qb.length) (h2 : Qb.length <= 2048) (h3 : Qa.length <= 4096) (h4 : ∀ p ∈ Qa, 0 <= p.1 /\ p.1 < Qb.length) : QH Qb Qa = true := by
 unfold QH
 rw [decide_eq_false (by omega), decide_eq_false (by omega), decide_eq_false (by omega)]
 rw [Bool.or_false, Bool.or_false, Bool.not_false, Bool.true_and, Bool.not_eq_true']
 refine List.any_eq_false.2 fun p hp => ?_
 have := h4 p hp
 unfold Vm
 rw [decide_eq_true this.1, decide_eq_true this.2]; decide
theorem YC {Qb : List (List Int)} {Qa ws : List (Int × List Int)} (h : QH Qb Qa = true) (hl : Qa.length + ws.length <= 4096) (hw : ∀ p ∈ ws, 0 <= p.1 /\ p.1 < Qb.length) : QH Qb (Qa ++ ws) = true := by
 obtain ⟨h1, h2, h3, h4⟩ := Zz h
 refine JR (List.length_pos_iff.2 h1) h2 (by rw [List.length_append]; exact hl) fun p hp => ?_
 rcases List.mem_append.1 hp with hp | hp
 . exact h4 p hp
 . exact hw p hp
def Kg (fr : Int) (ps : List Pg) : List (Int × List Int) := ps.map fun p => (fr + p.idx, Xj p)
theorem Y3 (fr : Int) (ps : List Pg) : (Kg fr ps).length = ps.length := List.length_map ..
theorem EJ {Qb : List (List Int)} {Qa : List (Int × List Int)} {f fr : Int} {p : Pg} (h : QH Qb Qa = true) (hl : Qa.length < 4096) (hp : 0 <= fr + p.idx /\ fr + p.idx < Qb.length) : Ym ⟨Qb, Qa, f, false, 0⟩ fr p = if f = 0 then ⟨Qb, Qa, 0, true, 9⟩ else ⟨Qb, Qa ++ Kg fr [p], if f < 0 then f else f - 1, false, 0⟩ := by
  rw [FJ rfl]
  show Q1 Qb Qa f false (fr + p.idx) (Xj p) = _
  have hh : Vm Qb (fr + p.idx) = true := by unfold Vm; rw [decide_eq_true hp.1, decide_eq_true hp.2]; rfl
  unfold Q1
  rw [if_neg (by rw [h]; decide), if_neg (by rw [hh]; decide), if_neg (by decide), if_neg (by omega)]
  unfold Q8
  by_cases h0 : f = 0
  . subst h0; rfl
  . rw [if_neg h0, if_neg h0]
    by_cases h1 : 0 < f
    . rw [if_pos h1, if_neg (show ¬ f < 0 by omega)]; rfl
    . rw [if_neg h1, if_pos (show f < 0 by omega)]; rfl
theorem Dr {fr : Int} : ∀ (ps : List Pg) (d : DO), ¬ d.err = 0 -> QT d fr ps = d
 | [], d, h => rfl
 | p :: ps, d, h => by
  show QT (Ym d fr p) fr ps = d
  rw [Gm h]
  exact Dr ps d h
theorem HY {Qb : List (List Int)} {fr : Int} : ∀ (ps : List Pg) (Qa : List (Int × List Int)) (f : Int), QH Qb Qa = true -> Qa.length + ps.length <= 4096 -> (∀ p ∈ ps, 0 <= fr + p.idx /\ fr + p.idx < Qb.length) -> (f < 0 \/ (ps.length : Int) <= f) -> QT ⟨Qb, Qa, f, false, 0⟩ fr ps = ⟨Qb, Qa ++ Kg fr ps, if f < 0 then f else f - (ps.length : Int), false, 0⟩
 | [], Qa, f, _, _, _, _ => by
  show (⟨Qb, Qa, f, false, 0⟩ : DO) = ⟨Qb, Qa ++ [], if f < 0 then f else f - ((0 : Nat) : Int), false, 0⟩
  rw [List.append_nil]
  congr 1
  split <;> omega
 | p :: ps, Qa, f, h, hl, hp, hf => by
  rw [List.length_cons] at hl hf
  show QT (Ym ⟨Qb, Qa, f, false, 0⟩ fr p) fr ps = _
  rw [EJ h (by omega) (hp p (.head _)), if_neg (by omega), HY ps _ _ (YC h (by rw [Y3, List.length_singleton]; omega) (fun q hq => by rw [List.mem_singleton.1 hq]; exact hp p (.head _))) (by rw [List.length_append, Y3, List.length_singleton]; omega) (fun q hq => hp q (.tail _ hq)) (by split <;> omega)]
  rw [List.append_assoc, List.length_cons]
  show (⟨Qb, Qa ++ Kg fr (p :: ps), _, false, 0⟩ : DO) = _
  congr 1
  by_cases hz : f < 0
  . simp only [hz, if_true]
  . simp only [hz, if_false]; split <;> omega
def YY (Qb : List (List Int)) (Qa : List (Int × List Int)) : List (List Int) := XT (fun _ _ z => z) Qa Qb 0
theorem KT {Qb : List (List Int)} {Qa : List (Int × List Int)} {f : Int} (h : QH Qb Qa = true) : XI ⟨Qb, Qa, f, false, 0⟩ = if f = 0 then ⟨Qb, Qa, 0, true, 9⟩ else ⟨YY Qb Qa, [], if f < 0 then f else f - 1, false, 0⟩ := by
  rw [FK rfl]
  show Xz Qb Qa f false = _
  unfold Xz
  rw [if_neg (by rw [h]; decide), if_neg (by decide)]
  unfold Q8
  by_cases h0 : f = 0
  . subst h0; rfl
  . rw [if_neg h0, if_neg h0]
    by_cases h1 : 0 < f
    . rw [if_pos h1, if_neg (show ¬ f < 0 by omega)]; rfl
    . rw [if_neg h1, if_pos (show f < 0 by omega)]; rfl
theorem Gx : ∀ (l : List (Int × List Int)) (Qb : List (List Int)) (i j : Nat), XT (fun _ _ z => z) l Qb i = XT (fun _ _ z => z) l Qb j
 | [], Qb, i, j => rfl
 | p :: l, Qb, i, j => by rw [XT, XT]; exact Gx l _ _ _
theorem GB (Qb : List (List Int)) (l m : List (Int × List Int)) : YY Qb (l ++ m) = YY (YY Qb l) m := by
 unfold YY
 generalize hi : (0 : Nat) = i
 clear hi
 induction l generalizing Qb i with
 | nil => rfl
 | cons p l ih =>
  rw [List.cons_append, XT, XT, ih]
  exact Gx _ _ _ _
theorem Gz (Qb : List (List Int)) (p : Int × List Int) : YY Qb [p] = Qb.set p.1.toNat p.2 := rfl
theorem Dv {α : Type} {P : List α -> Prop} (h0 : P []) (h1 : ∀ l x, P l -> P (l ++ [x])) (l : List α) : P l := by
 have : ∀ n (l : List α), l.length = n -> P l := by
  intro n
  induction n with
  | zero => intro l e; rw [List.length_eq_zero_iff.1 e]; exact h0
  | succ n ih =>
   intro l e
   have hne : l ≠ [] := fun q => by rw [q] at e; cases e
   rw [<- List.dropLast_concat_getLast hne]
   exact h1 _ _ (ih _ (by rw [List.length_dropLast, e]; rfl))
 exact this _ l rfl
theorem Z8 (Qb : List (List Int)) (l : List (Int × List Int)) : (YY Qb l).length = Qb.length := by
 induction l using Dv with
 | h0 => rfl
 | h1 l x ih => rw [GB, Gz, List.length_set, ih]
theorem Hx {l : List (Int × List Int)} {p : Int × List Int} {a : Int} : ∀ n, n <= l.length -> Zf (l ++ [p]) a n = Zf l a n
 | 0, _ => rfl
 | n + 1, h => by rw [Zf, Zf, List.getElem?_append_left (by omega), Hx n (by omega)]
theorem GU (l : List (Int × List Int)) (p : Int × List Int) (a : Int) : Zf (l ++ [p]) a (l ++ [p]).length = if p.1 = a then some p.2 else Zf l a l.length := by
 rw [List.length_append, List.length_singleton, Zf, List.getElem?_append_right (Nat.le_refl _), Nat.sub_self]
 show (if p.1 = a then some p.2 else Zf (l ++ [p]) a l.length) = _
 rw [Hx _ (Nat.le_refl _)]
theorem QbD {Qb : List (List Int)} {a : Nat} (ha : a < Qb.length) (l : List (Int × List Int)) : (∀ p ∈ l, 0 <= p.1) -> (YY Qb l)[a]? = some (match Zf l (a : Int) l.length with | some z => z | none => Qb[a]?.getD []) := by
 induction l using Dv with
 | h0 => intro _; show Qb[a]? = some (Qb[a]?.getD []); rw [List.getElem?_eq_getElem ha]; rfl
 | h1 l p ih =>
  intro h
  have ih := ih fun q hq => h q (List.mem_append_left _ hq)
  have hp := h p (List.mem_append_right _ (.head _))
  rw [GB, Gz, GU, List.getElem?_set]
  by_cases e : p.1 = (a : Int)
  . rw [if_pos (by omega), if_pos (by rw [Z8]; omega), if_pos e]
  . rw [if_neg (by omega), if_neg e]; exact ih
theorem Qao {Qb : List (List Int)} {Qa : List (Int × List Int)} (h : QH Qb Qa = true) {a : Nat} (ha : a < Qb.length) : Xk (YY Qb Qa) [] a = Xk Qb Qa a := by
 obtain ⟨h1, h2, h3, h4⟩ := Zz h
 have hr : QH (YY Qb Qa) [] = true := JR (by rw [Z8]; exact List.length_pos_iff.2 h1) (by rw [Z8]; exact h2) (by rw [List.length_nil]; omega) (fun p hp => absurd hp List.not_mem_nil)
 have e0 : Zf [] (a : Int) ([] : List (Int × List Int)).length = none := rfl
 have e : Xl (YY Qb Qa) [] false (a : Int) = Xl Qb Qa false (a : Int) := by
  rw [JS h ha, JS hr (by rw [Z8]; exact ha), QbD ha Qa fun p hp => (h4 p hp).1, e0]
  generalize Zf Qa (a : Int) Qa.length = x
  cases x <;> rfl
 unfold Xk
 rw [e]
theorem Qdc {Qb : List (List Int)} {Qa : List (Int × List Int)} (h : QH Qb Qa = true) (hl : Qa.length < 4096) {b : Int} {p : Pg} (hb : 0 <= b /\ b < Qb.length) (hp : KD p) {a : Nat} (ha : a < Qb.length) : Xk Qb (Qa ++ [(b, Xj p)]) a = if b = (a : Int) then some p else Xk Qb Qa a := by
 have hr : QH Qb (Qa ++ [(b, Xj p)]) = true := YC h (by rw [List.length_singleton]; omega) (fun q hq => by rw [List.mem_singleton.1 hq]; exact hb)
 have hs := FQ hp
 unfold Xk
 rw [JS h ha, JS hr ha, GU]
 generalize Xj p = z at *
 generalize Zf Qa (a : Int) Qa.length = x at *
 by_cases e : b = (a : Int)
 . rw [if_pos e, if_pos e]; exact hs
 . rw [if_neg e, if_neg e]
def V7 (V : Nat -> Option Pg) (u : Nat) (ps : List Pg) (a : Nat) : Option Pg := if u <= a /\ a < u + ps.length then ps[a - u]? else V a
theorem QaK (V : Nat -> Option Pg) (u : Nat) (ps : List Pg) (p : Pg) (a : Nat) : V7 V u (ps ++ [p]) a = if u + ps.length = a then some p else V7 V u ps a := by
  unfold V7
  rw [List.length_append, List.length_singleton]
  by_cases h : u + ps.length = a
  . rw [if_pos h, if_pos (by omega), List.getElem?_append_right (by omega), show a - u - ps.length = 0 by omega]; rfl
  . rw [if_neg h]
    by_cases h2 : u <= a /\ a < u + ps.length
    . rw [if_pos h2, if_pos (by omega), List.getElem?_append_left (by omega)]
    . rw [if_neg h2, if_neg (by omega)]
theorem Qbq {Qb : List (List Int)} {Qa : List (Int × List Int)} (h : QH Qb Qa = true) {fr u : Nat} {a : Nat} (ha : a < Qb.length) (ps : List Pg) : Qa.length + ps.length <= 4096 -> u + ps.length <= Qb.length -> (∀ k p, ps[k]? = some p -> (fr : Int) + p.idx = ((u + k : Nat) : Int) /\ KD p) -> Xk Qb (Qa ++ Kg (fr : Int) ps) a = V7 (Xk Qb Qa) u ps a := by
 induction ps using Dv with
 | h0 =>
  intro _ _ _
  show Xk Qb (Qa ++ []) a = V7 _ u [] a
  rw [List.append_nil]
  unfold V7
  rw [if_neg (by rw [List.length_nil]; omega)]
 | h1 ps p ih =>
  intro hl hu hk
  rw [List.length_append, List.length_singleton] at hl hu
  have hk0 : ∀ k q, ps[k]? = some q -> (fr : Int) + q.idx = ((u + k : Nat) : Int) /\ KD q := fun k q hq => hk k q (by rw [List.getElem?_append_left (List.getElem?_eq_some_iff.1 hq).1]; exact hq)
  have hp := hk ps.length p (by rw [List.getElem?_append_right (Nat.le_refl _), Nat.sub_self]; rfl)
  have ih := ih (by omega) (by omega) hk0
  have hrp : QH Qb (Qa ++ Kg (fr : Int) ps) = true := YC h (by rw [Y3]; omega) fun q hq => by
   obtain ⟨x, hx, rfl⟩ := List.mem_map.1 hq
   obtain ⟨k, hk1⟩ := List.mem_iff_getElem?.1 hx
   have := (hk0 k x hk1).1
   have := (List.getElem?_eq_some_iff.1 hk1).1
   show 0 <= (fr : Int) + x.idx /\ (fr : Int) + x.idx < _
   omega
  rw [show Kg (fr : Int) (ps ++ [p]) = Kg (fr : Int) ps ++ [((fr : Int) + p.idx, Xj p)] from by unfold Kg; rw [List.map_append]; rfl, <- List.append_assoc]
  rw [Qdc hrp (by rw [List.length_append, Y3]; omega) (by omega) hp.2 ha, ih, QaK, hp.1]
  by_cases e : u + ps.length = a
  . rw [if_pos e, if_pos (by omega)]
  . rw [if_neg e, if_neg (by omega)]
def Yu (V : Nat -> Option Pg) : Nat -> Int
 | 0 => 0
 | k + 1 => E8 (Yu V k) (V k)
theorem Kr (Qb : List (List Int)) (Qa : List (Int × List Int)) : ∀ k, Ze Qb Qa false k = Yu (Xk Qb Qa) k
 | 0 => rfl
 | k + 1 => by rw [Ze, Yu, Kr Qb Qa k]; rfl
theorem VR {V : Nat -> Option Pg} {p : Pg} : ∀ {k a : Nat}, a < k -> V a = some p -> p.gen <= Yu V k
  | 0, a, h, _ => absurd h (by omega)
  | k + 1, a, h, e => by
    rw [Yu]
    have hm : Yu V k <= E8 (Yu V k) (V k) := by
      cases V k with
      | none => exact Int.le_refl _
      | some q => show _ <= (if _ < q.gen then q.gen else _); split <;> omega
    by_cases ha : a = k
    . subst ha
      rw [e]
      show _ <= (if _ < p.gen then p.gen else _)
      split <;> omega
    . exact Int.le_trans (VR (by omega) e) hm
theorem KY {V : Nat -> Option Pg} {m : Int} (hm : 0 <= m) : ∀ {k : Nat}, (∀ a p, a < k -> V a = some p -> p.gen <= m) -> Yu V k <= m
 | 0, _ => hm
 | k + 1, h => by
  rw [Yu]
  have ih := KY hm (k := k) fun a p ha => h a p (by omega)
  cases e : V k with
  | none => exact ih
  | some q => have := h k q (by omega) e; show (if _ < q.gen then q.gen else _) <= m; split <;> omega
theorem Eo {V V' : Nat -> Option Pg} : ∀ {k : Nat}, (∀ a, a < k -> V a = V' a) -> Yu V k = Yu V' k
 | 0, _ => rfl
 | k + 1, h => by rw [Yu, Yu, Eo (k := k) fun a ha => h a (by omega), h k (by omega)]
theorem GA {Qb : List (List Int)} {Qa : List (Int × List Int)} (h : YJ Qb Qa) : YJ (YY Qb Qa) [] := by
 refine ⟨?_, fun p hp => by cases hp⟩
 have : ∀ l : List (Int × List Int), (∀ p ∈ l, ZX p.2) -> ∀ z ∈ YY Qb l, ZX z := by
  intro l
  induction l using Dv with
  | h0 => intro _; exact h.1
  | h1 l p ih =>
   intro hl z hz
   rw [GB, Gz] at hz
   rcases List.mem_or_eq_of_mem_set hz with hz | rfl
   . exact ih (fun q hq => hl q (List.mem_append_left _ hq)) z hz
   . exact hl p (List.mem_append_right _ (.head _))
 exact this Qa h.2
end Go.Proofs.YtfachlmgdlnpoaaDoor
namespace Go.Proofs.YtfachlmgdlnpoaaDoor
open Go.RowKit
set_option linter.unusedVariables false
set_option linter.unusedSimpArgs false
set_option maxRecDepth 8000
set_option maxHeartbeats 2000000

theorem KC.wr {base t : Nat} {L : List Nat} {r : DO} {u : Value} {w w' : World} (h : KC L r u w) (hw : WrT base t 4 w w') : KC L r u w' := by
 obtain ⟨t1, t2, e, h1, h2⟩ := h
 exact ⟨t1, t2, e, h1.wr hw (by decide), h2.wr hw (by decide)⟩
theorem KS.wr {base t : Nat} {L : List Nat} {r : DO} {u : Value} {w w' : World} (h : KS L r u w) (hw : WrT base t 4 w w') : KS L r u w' := by
 obtain ⟨t1, t2, e, h1, h2⟩ := h
 exact ⟨t1, t2, e, h1.wr hw (by decide), h2.wr hw (by decide)⟩
def Qak (L : List Nat) (base t : Nat) (r : DO) (u : Value) (W : World) : Prop := ∃ t1 t2, Hh base t [t1, t2, .int .i64 r.Qd, .bool r.Qc] u W /\ QC 128 L W t1 (r.Qb.map Qq) /\ QC 129 L W t2 (r.Qa.map QD)
theorem Qak.below {L : List Nat} {base t : Nat} {r : DO} {u : Value} {w w' : World} (h : Qak L base t r u w) (hb : Below w.heap.size w w') : Qak L base t r u w' := by
 obtain ⟨t1, t2, e, h1, h2⟩ := h
 exact ⟨t1, t2, e.below hb, h1.below hb, h2.below hb⟩
theorem Qbo (d : DO) (fr : Int) (p : Pg) : (Ym d fr p).Qb = d.Qb := by
  unfold Ym Q1
  split
  . split
    . rfl
    . split
      . rfl
      . split
        . rfl
        . split
          . rfl
          . split <;> rfl
  . rfl
theorem Vz {fr : Int} : ∀ (ps : List Pg) (d : DO), (QT d fr ps).Qb = d.Qb
 | [], d => rfl
 | p :: ps, d => (Vz ps (Ym d fr p)).trans (Qbo d fr p)
theorem QbY {d0 d : DO} {fr : Int} {ps : List Pg} {i : Nat} {p : Pg} (hd : d = QT d0 fr (ps.take i)) (hp : ps[i]? = some p) (he : ¬ (Ym d fr p).err = 0) : XI (QT d0 fr ps) = Ym d fr p := by
 have e : QT d0 fr (ps.take (i + 1)) = Ym d fr p := by rw [hd]; exact UZ hp
 have e2 : QT d0 fr ps = Ym d fr p := by
  rw [<- List.take_append_drop (i + 1) ps, Hl, e]
  exact Dr _ _ he
 rw [e2, Gn he]
set_option maxHeartbeats 1000000 in
theorem EW (Qb : List (List Int)) (Qa : List (Int × List Int)) (Qd : Int) (Qc : Bool) (s1 s2 : Value) (q : Int) (qs : List PV) (lv : Value) (w : World) (L : List Nat) (hL : LL L w) (h1 : QC 128 L w s1 (Qb.map Qq)) (h2 : QC 129 L w s2 (Qa.map QD)) (h4 : QC 4 L w lv (qs.map YU)) (hqs : Yv L w qs)  (hfu : -9223372036854775808 <= Qd /\ Qd <= 9223372036854775807) (hq : q = 0 \/ q = 1) (hsl : Qb.length <= 2048) (hqo : ∀ q ∈ qs, (0 <= q.1.idx /\ q.1.idx <= 100000) /\ ZX q.1.dat /\ q.1.dat.length <= 100 /\ (0 <= q.1.mks /\ q.1.mks <= 255)) (hR : UD w) : CV Tryd.prog 47 [.agg #[s1, s2, .int .i64 Qd, .bool Qc], .int .i64 q, lv] w fun v W => ∃ t1 t2, v = .tuple #[.agg #[t1, t2, .int .i64 (XI (QT (Xx Qb Qa Qd Qc) (q * ((Qb.length : Int) / 2)) (qs.map Prod.fst))).Qd, .bool (XI (QT (Xx Qb Qa Qd Qc) (q * ((Qb.length : Int) / 2)) (qs.map Prod.fst))).Qc], .int .i64 (XI (QT (Xx Qb Qa Qd Qc) (q * ((Qb.length : Int) / 2)) (qs.map Prod.fst))).err] /\ QC 128 L W t1 ((XI (QT (Xx Qb Qa Qd Qc) (q * ((Qb.length : Int) / 2)) (qs.map Prod.fst))).Qb.map Qq) /\ QC 129 L W t2 ((XI (QT (Xx Qb Qa Qd Qc) (q * ((Qb.length : Int) / 2)) (qs.map Prod.fst))).Qa.map QD) := by
 have hfr : 0 <= (q * ((Qb.length : Int) / 2)) /\ (q * ((Qb.length : Int) / 2)) <= 100000 := by rcases hq with h_ | h_ <;> rw [h_] <;> omega
 refine QL (N := 48) (f := [(0, .agg #[s1, s2, .int .i64 Qd, .bool Qc]), (1, .int .i64 q), (2, lv)]) Tryd.func47 rfl rfl rfl rfl fun Q hQ hE => ?_
 have hB := Below.refl w.heap.size w
 have h1m : Qb.length <= maxLen := by have := h1.len; rwa [List.length_map] at this
 unfold maxLen at h1m
 have h2m : Qa.length <= maxLen := by have := h2.len; rwa [List.length_map] at this
 unfold maxLen at h2m
 have h4m : qs.length <= maxLen := by have := h4.len; rwa [List.length_map] at this
 unfold maxLen at h4m
 refine Sq fun K1 hK1 => (Rg ?_)
 refine Ge (Xb rfl rfl rfl) rfl rfl ?_
 rintro _ W2 ⟨rfl, k3, b4, z5⟩
 have l6 := hB.size
 replace h1 := h1.more b4 (Nat.le_refl _)
 replace h2 := h2.more b4 (Nat.le_refl _)
 replace h4 := h4.more b4 (Nat.le_refl _)
 replace hqs := hqs.more b4 (Nat.le_refl _)
 replace hB := Qe hB b4
 replace hL := LL.more hL z5
 refine Ge (Qs rfl QU rfl) rfl rfl ?_
 rintro _ W7 ⟨rfl, k8, b9, z10⟩
 have n11 : w.heap.size ≠ W2.heap.size := Nat.ne_of_lt k3.lt
 have l12 := hB.size
 replace h1 := h1.more b9 (Nat.le_refl _)
 replace h2 := h2.more b9 (Nat.le_refl _)
 replace h4 := h4.more b9 (Nat.le_refl _)
 replace hqs := hqs.more b9 (Nat.le_refl _)
 replace k3 := k3.below b9
 replace hB := Qe hB b9
 replace hL := LL.more hL z10
 refine Pu rfl (Ni (hK1 (Sq fun K13 hK13 => (Sq fun K14 hK14 => (Rg (Pu rfl (Ni ?_)))))))
 refine hK14 (WC.block ?_)
 have j1 := h1
 have j2 := h2
 replace k3 : Xe W7 w.heap.size [s1, s2, .int .i64 (Xx Qb Qa Qd Qc).Qd, .bool (Xx Qb Qa Qd Qc).Qc] := k3
 refine WC.loop4 (fun (i : Nat) (d : DO) (t1 : Value) (t2 : Value) => [(1, .int .i64 q), (2, lv), (3, .pointer (some ⟨w.heap.size, 0, none⟩)), (6, .pointer (some ⟨W2.heap.size, 0, none⟩)), (8, .int .i64 (i : Int))]) (fun (i : Nat) (d : DO) (t1 : Value) (t2 : Value) W => i <= qs.length /\ d = QT (Xx Qb Qa Qd Qc) (q * ((Qb.length : Int) / 2)) ((qs.map Prod.fst).take i) /\ d.err = 0 /\ EH d /\ Below w.heap.size w W /\ LL (W2.heap.size :: w.heap.size :: L) W /\ QC 4 (W2.heap.size :: w.heap.size :: L) W lv (qs.map YU) /\ Yv (W2.heap.size :: w.heap.size :: L) W qs /\ QC 128 (W2.heap.size :: w.heap.size :: L) W t1 (d.Qb.map Qq) /\ QC 129 (W2.heap.size :: w.heap.size :: L) W t2 (d.Qa.map QD) /\ Xe W w.heap.size [t1, t2, .int .i64 d.Qd, .bool d.Qc] /\ Xe W W2.heap.size [.slice none 0 0, .slice none 0 0, .int .i64 0, .bool false]) (fun (i : Nat) (d : DO) (t1 : Value) (t2 : Value) => qs.length - i) 0 (Xx Qb Qa Qd Qc) s1 s2 (by repeat first | exact trivial | refine aR ?_ | refine aI (by omega) ?_) ⟨Nat.zero_le _, rfl, rfl, hfu, hB, hL, h4, hqs, j1, j2, k3, k8⟩ ?_
 clear h4 hqs j1 j2 k3 k8 hB hL
 rintro K15 i d t1 t2 W16 ⟨hi, hd0, hde, hfd, hB, hL, h4, hqs, j1, j2, k3, k8⟩ hK15
 refine Sq fun K17 hK17 => (Sq fun K18 hK18 => (Rg (Pu rfl (Pu rfl (Va (QY rfl YA rfl h4) rfl rfl (Va (Xh rfl rfl rfl) rfl rfl (Ni ?_)))))))
 refine hK18 ?_
 refine WC.cond rfl (fun c19 => ?_) (fun c19 => ?_)
 .
  replace c19 := dT c19
  refine WC.skip (hK17 (Sq fun K20 hK20 => (WC.block (Sq fun K21 hK21 => ?_))))
  obtain ⟨r22, e23⟩ : ∃ x, qs[i]? = some x := ⟨_, List.getElem?_eq_getElem (by omega)⟩
  have hqm := List.mem_of_getElem? e23
  have hr22 := hqs r22 hqm
  obtain ⟨hq1, hq2, hq3, hq4⟩ := hqo r22 hqm
  have hsl2 : d.Qb.length = Qb.length := by rw [hd0, Vz]; rfl
  refine WC.drawR 24 23 22 9 (fun u W => KQ W16.heap.size 25 4 u W) (fun u W => Qak (W2.heap.size :: w.heap.size :: L) W16.heap.size 25 (Ym d (q * ((Qb.length : Int) / 2)) r22.1) u W) (WrT W16.heap.size 25 4) [(some 18, .is (.agg #[t1, t2, .int .i64 d.Qd, .bool d.Qc])), (some 19, .is (.int .i64 q)), (some 20, .is (.pointer (some ⟨w.heap.size, 0, none⟩))), (some 21, .is (t1)), (some 22, .is (.int .i64 (Qb.length : Int))), (some 23, .is (.int .i64 ((Qb.length : Int) / 2))), (some 24, .is (.int .i64 (q * ((Qb.length : Int) / 2)))), (some 25, .is (lv)), (some 26, .is (.int .i64 (i : Int))), (some 27, .by fun u W => PtB W16.heap.size (W2.heap.size :: w.heap.size :: L) W u [.int .i64 r22.1.gen, .int .i64 r22.1.idx, .int .u8 r22.1.mks, r22.2]), (some 28, .by fun u W => PtB W16.heap.size (W2.heap.size :: w.heap.size :: L) W u [.int .i64 r22.1.idx]), (some 29, .is (.int .i64 r22.1.idx)), (some 30, .is (.int .i64 ((q * ((Qb.length : Int) / 2)) + r22.1.idx))), (some 31, .is (lv)), (some 32, .is (.int .i64 (i : Int))), (some 33, .by fun u W => PtB W16.heap.size (W2.heap.size :: w.heap.size :: L) W u [.int .i64 r22.1.gen, .int .i64 r22.1.idx, .int .u8 r22.1.mks, r22.2]), (some 34, .is (.agg #[.int .i64 r22.1.gen, .int .i64 r22.1.idx, .int .u8 r22.1.mks, r22.2])), (some 35, .is (.agg (Qq (Xj r22.1)).toArray)), (some 36, .by fun u W => KC (W2.heap.size :: w.heap.size :: L) (Ym d (q * ((Qb.length : Int) / 2)) r22.1) u W), (some 17, .by fun u W => KC (W2.heap.size :: w.heap.size :: L) (Ym d (q * ((Qb.length : Int) / 2)) r22.1) u W), (some 37, .by fun u W => KS (W2.heap.size :: w.heap.size :: L) (Ym d (q * ((Qb.length : Int) / 2)) r22.1) u W), (some 38, .is (.int .i64 ((Ym d (q * ((Qb.length : Int) / 2)) r22.1).err))), (some 9, .by fun u W => KQ W16.heap.size 25 4 u W), (none, .by fun _ _ => True)] [[], [], [], [2], [3], [4], [1, 5], [], [], [7, 8], [9], [10], [6, 11], [], [], [13, 14], [15], [16], [0, 12, 17, 17], [18], [19], [19], [], [22, 20, 18, 0, 1, 2, 3, 4, 5, 6, 7, 8, 9, 10, 11, 12, 13, 14, 15, 16, 17, 18, 19, 20, 22]] (by kernel_rfl) (by kernel_rfl) (by kernel_rfl) (by kernel_rfl) (by kernel_rfl) (by kernel_rfl) (by kernel_rfl) ⟨fun _ _ _ hb h => h.below hb, fun _ _ _ hb h => h.below hb, fun _ _ _ hb h => h.below hb, fun _ _ _ hb h => h.below hb, fun _ _ _ hb h => h.below hb, fun _ _ _ hb h => h.below hb, fun _ _ _ hb h => h.below hb, fun _ _ _ _ h => h, trivial⟩ rfl rfl rfl (by decide) (by decide) ⟨fun _ _ _ hw h => h.wr hw, fun _ _ _ hw h => h.wr hw, fun _ _ _ hw h => h.wr hw, fun _ _ _ hw h => h.wr hw, fun _ _ _ hw h => h.wr hw, fun _ _ _ hw h => h.wr hw, fun _ _ _ hw h => h.wr hw, fun _ _ _ _ h => h, trivial⟩ (fun _ _ _ hb h => h.below hb) (fun _ _ hb hw => hw.below hb) ?_ ?_
  .
   refine Q5.cons (by decide) (fun Wd hd => ?_) ?_
   .
    have k3 := k3.below hd
    exact Dd (Qg rfl Qf rfl k3.range rfl) rfl
   refine Q5.cons (by decide) (fun Wd hd => ?_) ?_
   .
    exact Dd (Qt rfl rfl) rfl
   refine Q5.cons (by decide) (fun Wd hd => ?_) ?_
   .
    exact Dd (Qm (o1 := 0) rfl QE rfl rfl) rfl
   refine Q5.cons (by decide) (fun Wd hd => ?_) ?_
   .
    have k3 := k3.below hd
    exact Dd (Qi rfl Q9 rfl (k3.cell (k := 0) rfl)) rfl
   refine Q5.cons (by decide) (fun Wd hd => ?_) ?_
   .
    have j1 := j1.below hd
    exact Dd (ZS (QY rfl QX rfl j1) (show _ = Value.int .i64 (Qb.length : Int) by rw [hsl2])) rfl
   refine Q5.cons (by decide) (fun Wd hd => ?_) ?_
   .
    exact Dd (Vn (r := (Qb.length : Int) / 2) rfl rfl rfl (by omega) (by rw [Int.tdiv_eq_ediv_of_nonneg (by omega)]; exact (Qn (by omega)))) rfl
   refine Q5.cons (by decide) (fun Wd hd => ?_) ?_
   .
    exact Dd (VJ (r := (q * ((Qb.length : Int) / 2))) rfl rfl rfl (by rw [Qn (by rcases hq with h_ | h_ <;> rw [h_] <;> omega)])) rfl
   refine Q5.cons (by decide) (fun Wd hd => ?_) ?_
   .
    exact Dd (Qt rfl rfl) rfl
   refine Q5.cons (by decide) (fun Wd hd => ?_) ?_
   .
    exact Dd (Qt rfl rfl) rfl
   refine Q5.cons (by decide) (fun Wd hd => ?_) ?_
   .
    have zh4 := h4
    exact (D5 i rfl YA rfl rfl zh4 hd (by omega) (XL (enc := YU) e23)).mono (fun v W' h => ⟨by rw [<- h.1]; exact Below.refl _ _, by rw [<- h.1]; exact h.2⟩)
   refine Q5.cons (by decide) (fun Wd hd => ?_) ?_
   .
    intro u4_9 p4_9
    exact (Qd0 1 rfl Y6 rfl p4_9 (cs' := [.int .i64 r22.1.idx]) rfl (Nat.succ_pos _)).mono (fun v W' h => ⟨by rw [<- h.1]; exact Below.refl _ _, by rw [<- h.1]; exact h.2⟩)
   refine Q5.cons (by decide) (fun Wd hd => ?_) ?_
   .
    intro u4_10 p4_10
    exact Dd (ZR rfl Qu rfl p4_10.ptr) rfl
   refine Q5.cons (by decide) (fun Wd hd => ?_) ?_
   .
    exact Dd (QR (r := (q * ((Qb.length : Int) / 2)) + r22.1.idx) rfl rfl rfl (Qn (by omega))) rfl
   refine Q5.cons (by decide) (fun Wd hd => ?_) ?_
   .
    exact Dd (Qt rfl rfl) rfl
   refine Q5.cons (by decide) (fun Wd hd => ?_) ?_
   .
    exact Dd (Qt rfl rfl) rfl
   refine Q5.cons (by decide) (fun Wd hd => ?_) ?_
   .
    have zh4 := h4
    exact (D5 i rfl YA rfl rfl zh4 hd (by omega) (XL (enc := YU) e23)).mono (fun v W' h => ⟨by rw [<- h.1]; exact Below.refl _ _, by rw [<- h.1]; exact h.2⟩)
   refine Q5.cons (by decide) (fun Wd hd => ?_) ?_
   .
    intro u4_15 p4_15
    exact Dd (X6 rfl XB rfl p4_15.ptr rfl) rfl
   refine Q5.cons (by decide) (fun Wd hd => ?_) ?_
   .
    have hr22 := hr22.below hd
    exact DR.mono (QO rfl Tryd.func67 rfl rfl rfl (Dw r22.1 _ Wd _ (LL.below hL hd) hr22 hq2 hq3 hq4 (hR.below (Qe hB hd)))) (fun v W' ⟨h, hb⟩ => ⟨hb, (by rw [h]; exact rfl)⟩)
   refine Q5.cons (by decide) (fun Wd hd => ?_) ?_
   .
    have j1 := j1.below hd
    have j2 := j2.below hd
    exact DR.mono (QO rfl Tryd.func66 rfl rfl rfl (QbJ d.Qb d.Qa d.Qd d.Qc _ _ ((q * ((Qb.length : Int) / 2)) + r22.1.idx) (Xj r22.1) Wd _ (LL.below hL hd) j1 j2 (LL.below hL hd) hfd (Z5 (by omega)))) (fun v W_ h => ⟨h.2, by rw [FJ hde]; exact h.1⟩)
   refine Q5.cons (by decide) (fun Wd hd => ?_) ?_
   .
    intro u4_18 p4_18
    exact DV.dr (Qt rfl rfl) ⟨Below.refl _ _, p4_18⟩
   refine Q5.cons (by decide) (fun Wd hd => ?_) ?_
   .
    intro u4_19 p4_19
    obtain ⟨t1_, t2_, rfl, g1_, g2_⟩ := p4_19
    exact DV.dr (X7 rfl rfl rfl) ⟨Below.refl _ _, ⟨t1_, t2_, rfl, g1_, g2_⟩⟩
   refine Q5.cons (by decide) (fun Wd hd => ?_) ?_
   .
    intro u4_19 p4_19
    obtain ⟨t1_, t2_, rfl, g1_, g2_⟩ := p4_19
    exact Dd (X7 rfl rfl rfl) rfl
   refine Q5.cons (by decide) (fun Wd hd => ?_) ?_
   .
    exact (Ky (cs := [.slice none 0 0, .slice none 0 0, .int .i64 0, .bool false]) rfl QU rfl).mono (fun v W' h => ⟨h.1, (h.2 hd).newT rfl⟩)
   refine Q5.hit (fun Wd hd ut hut => ?_) ?_
   .
    intro u4_20 p4_20 u4_18 p4_18 u4_9 p4_9 u4_10 p4_10 u4_15 p4_15 u4_18 p4_18 u4_19 p4_19 u4_20 p4_20
    obtain ⟨va, vb, rfl, ka, kb⟩ := p4_20
    exact (HE (vs := [va, vb, .int .i64 (Ym d (q * ((Qb.length : Int) / 2)) r22.1).Qd, .bool (Ym d (q * ((Qb.length : Int) / 2)) r22.1).Qc]) rfl Qj rfl hut rfl rfl (oC ka.one (oC kb.one (oC rfl (oC rfl Qk)))) rfl).mono (fun v W' h => ⟨h.1, va, vb, h.2, ka.wr h.1 (by decide), kb.wr h.1 (by decide)⟩)
   exact trivial
  .
   intro W24 b25
   rintro _ - ⟨va, vb, ⟨B4_22, rfl, q4_22, t4_22⟩, ka, kb⟩
   have k4_22 := t4_22.blk
   intro u4_9 p4_9
   intro u4_10 p4_10
   intro u4_15 p4_15
   intro _ _
   intro _ _
   intro _ _
   intro _ _
   replace h4 := h4.more b25 q4_22
   replace hqs := hqs.more b25 q4_22
   replace k3 := k3.below b25
   replace k8 := k8.below b25
   have l28 := Nat.le_trans hB.size q4_22
   replace hB := Qe hB b25
   replace hL := LL.below hL b25
   replace hL := LL.cons hL k4_22.lt
   replace ka := ka.offB k4_22 (by simp)
   replace kb := kb.offB k4_22 (by simp)
   refine Pu rfl (Ni (hK21 (Sq fun K29 hK29 => (Rg (Va (Qg rfl Qf rfl k4_22.range rfl) rfl rfl ?_)))))
   refine WL.do (Qh (cs' := [va, vb, .int .i64 ((Ym d (q * ((Qb.length : Int) / 2)) r22.1).Qd), .bool ((Ym d (q * ((Qb.length : Int) / 2)) r22.1).Qc)]) (vs := [va, vb, .int .i64 ((Ym d (q * ((Qb.length : Int) / 2)) r22.1).Qd), .bool ((Ym d (q * ((Qb.length : Int) / 2)) r22.1).Qc)]) rfl Qj rfl rfl rfl (oC ka.one (oC kb.one (oC rfl (oC rfl Qk)))) k3 rfl (nB rfl) rfl) rfl ?_
   rintro _ W30 ⟨k32, o31⟩
   replace k8 := k8.other o31 n11.symm
   clear k3
   replace h4 := h4.only o31 (.tail _ (.tail _ (.head _)))
   replace hqs := hqs.only o31 (.tail _ (.tail _ (.head _)))
   replace ka := ka.only o31 (.tail _ (.tail _ (.head _)))
   replace kb := kb.only o31 (.tail _ (.tail _ (.head _)))
   replace hB := o31.below hB l6
   replace hL := LL.only hL o31
   refine Ni (hK29 (Sq fun K33 hK33 => (Rg (Pu rfl (Va (Xr rfl rfl rfl) rfl rfl (Ni (hK33 ?_)))))))
   refine WC.cond rfl (fun c34 => ?_) (fun c34 => ?_)
   .
    replace c34 := Q7 c34
    replace c34 := dF c34
    refine Sq fun K35 hK35 => (Rg (Va (Qg rfl Qf rfl k32.range rfl) rfl rfl (Pu rfl ?_)))
    refine WL.do (Qh (cs' := [va, vb, .int .i64 ((Ym d (q * ((Qb.length : Int) / 2)) r22.1).Qd), .bool ((Ym d (q * ((Qb.length : Int) / 2)) r22.1).Qc)]) (vs := [va, vb, .int .i64 ((Ym d (q * ((Qb.length : Int) / 2)) r22.1).Qd), .bool ((Ym d (q * ((Qb.length : Int) / 2)) r22.1).Qc)]) rfl Qj rfl rfl rfl (oC ka.one (oC kb.one (oC rfl (oC rfl Qk)))) k8 rfl (nB rfl) rfl) rfl ?_
    rintro _ W36 ⟨k38, o37⟩
    clear k8
    replace ka := ka.only o37 (.tail _ (.head _))
    replace kb := kb.only o37 (.tail _ (.head _))
    replace hB := o37.below hB l12
    refine Pu rfl (Ni (hK35 ?_))
    exact WC.ret fun a_ ha_ => hQ (QM rfl (.agg rfl Qf k38.range rfl) (.tmp rfl) (by rw [QbY hd0 (by rw [List.getElem?_map, e23]; rfl) (by assumption)]; exact ⟨_, _, rfl, (ka.less (fun x hx => (.tail _ (.tail _ (.tail _ hx))))), (kb.less (fun x hx => (.tail _ (.tail _ (.tail _ hx)))))⟩) hB ha_)
   .
    replace c34 := Q4 c34
    replace c34 := dT c34
    refine WC.skip (hK20 (Rg (Pu rfl (Va (QR (r := (i : Int) + 1) rfl rfl rfl (Qn (by omega))) rfl rfl (Pu rfl (Ni ?_))))))
    replace hL := hL.less (fun x hx => (.tail _ hx))
    replace h4 := h4.less (fun x hx => (.tail _ hx))
    replace hqs := hqs.less (fun x hx => (.tail _ hx))
    replace ka := ka.less (fun x hx => (.tail _ hx))
    replace kb := kb.less (fun x hx => (.tail _ hx))
    exact hK15 (i + 1) (Ym d (q * ((Qb.length : Int) / 2)) r22.1) va vb ⟨(by omega), (by rw [hd0]; exact (UZ (by rw [List.getElem?_map, e23]; rfl)).symm), (by first | assumption | exact Classical.not_not.1 (by assumption)), (Gl hfd), hB, hL, h4, hqs, ka, kb, k32, k8⟩ (by omega) (by repeat first | exact trivial | refine aR ?_ | refine aI (by omega) ?_)
 .
  replace c19 := dF c19
  refine WC.exit ?_
  refine hK13 (Sq fun K39 hK39 => ?_)
  have hie : i = qs.length := by omega
  have hdA : d = QT (Xx Qb Qa Qd Qc) (q * ((Qb.length : Int) / 2)) (qs.map Prod.fst) := by rw [hd0, List.take_of_length_le (by rw [List.length_map]; omega)]
  refine Rg (Va (Qg rfl Qf rfl k3.range rfl) rfl rfl ?_)
  refine Ge (QO rfl Tryd.func68 rfl rfl rfl (Qdo d.Qb d.Qa d.Qd d.Qc _ _ W16 _ hL j1 j2 hL hfd)) rfl rfl ?_
  rintro _ W41 ⟨⟨z1, z2, rfl, y1, y2⟩, b40⟩
  replace k8 := k8.below b40
  replace hB := Qe hB b40
  refine Pu rfl (Pu rfl ?_)
  refine WL.do (Qh (cs' := [z1, z2, .int .i64 ((Xz d.Qb d.Qa d.Qd d.Qc).Qd), .bool ((Xz d.Qb d.Qa d.Qd d.Qc).Qc)]) (vs := [z1, z2, .int .i64 ((Xz d.Qb d.Qa d.Qd d.Qc).Qd), .bool ((Xz d.Qb d.Qa d.Qd d.Qc).Qc)]) rfl Qj rfl rfl rfl (oC y1.one (oC y2.one (oC rfl (oC rfl Qk)))) k8 rfl (nB rfl) rfl) rfl ?_
  rintro _ W42 ⟨k44, o43⟩
  clear k8
  replace y1 := y1.only o43 (.head _)
  replace y2 := y2.only o43 (.head _)
  replace hB := o43.below hB l12
  refine Pu rfl (Ni (hK39 ?_))
  exact WC.ret fun a_ ha_ => hQ (QM rfl (.agg rfl Qf k44.range rfl) (.tmp rfl) (by rw [<- hdA, FK hde]; exact ⟨_, _, rfl, (y1.less (fun x hx => (.tail _ (.tail _ hx)))), (y2.less (fun x hx => (.tail _ (.tail _ hx))))⟩) hB ha_)

end Go.Proofs.YtfachlmgdlnpoaaDoor
namespace Go.Proofs.YtfachlmgdlnpoaaDoor
set_option linter.unusedVariables false
set_option maxRecDepth 8000

theorem QeC {Qb : List (List Int)} {Qa : List (Int × List Int)} (h : Yu (Xk Qb Qa) Qb.length < 1099511627776) : Xs Qb Qa false = (Yu (Xk Qb Qa) Qb.length + 1, 0) := by
 unfold Xs
 rw [Kr, if_neg (by omega)]
theorem Fe (Qb : List (List Int)) (Qa : List (Int × List Int)) : 0 <= Yu (Xk Qb Qa) Qb.length /\ Yu (Xk Qb Qa) Qb.length <= 1099511627776 := by
 rw [<- Kr]; exact VT Qb Qa false _
def UQ (V : Nat -> Option Pg) (fr : Nat) (G : Int) (recs : List (List Int)) : Nat -> Option Pg := V7 (V7 V (fr + 1) (Zh G 1 recs)) fr [ZE G (Qz recs : Int)]
theorem Yw {n Q : Nat} (hQ : Q <= 1) {k : Nat} (hk : k < n / 2) : Q * (n / 2) + k < n := by
 have : Q = 0 \/ Q = 1 := by omega
 rcases this with rfl | rfl <;> omega
theorem GP {fr : Nat} {G : Int} {recs : List (List Int)} {n : Nat} (hf : fr + Qz recs < n) : ∀ p ∈ Zh G 1 recs, 0 <= (fr : Int) + p.idx /\ (fr : Int) + p.idx < (n : Int) := fun p hp => by
 obtain ⟨k, hk⟩ := List.mem_iff_getElem?.1 hp
 have h1 := (Vg hk).1
 have h2 := (List.getElem?_eq_some_iff.1 hk).1
 rw [ZQ] at h2
 omega
theorem G8 {Qb : List (List Int)} {Qa : List (Int × List Int)} (h : YJ Qb Qa) {fr : Int} {ps : List Pg} (hp : ∀ p ∈ ps, ZX p.dat) : YJ Qb (Qa ++ Kg fr ps) := by
  refine ⟨h.1, fun q hq => ?_⟩
  rcases List.mem_append.1 hq with hq | hq
  . exact h.2 q hq
  . obtain ⟨x, hx, rfl⟩ := List.mem_map.1 hq
    exact Qaz (hp x hx)
theorem Qca {G u : Int} {recs : List (List Int)} (hb : ∀ r ∈ recs, ZX r) : ∀ p ∈ Zh G u recs, ZX p.dat := fun p hp => by
 obtain ⟨k, hk⟩ := List.mem_iff_getElem?.1 hp
 obtain ⟨_, _, _, _, _, r, hr, j, e⟩ := Vg hk
 rw [e]; exact JG (hb r hr) j
theorem Gp {Qb : List (List Int)} {Qa : List (Int × List Int)} (h : QH Qb Qa = true) {fr u : Nat} {ps : List Pg} (hl : Qa.length + ps.length <= 4096) (hu : u + ps.length <= Qb.length) (hk : ∀ k p, ps[k]? = some p -> (fr : Int) + p.idx = ((u + k : Nat) : Int) /\ KD p) : ∀ a, a < Qb.length -> Xk (YY Qb (Qa ++ Kg (fr : Int) ps)) [] a = V7 (Xk Qb Qa) u ps a := fun a ha => by
 have hr : QH Qb (Qa ++ Kg (fr : Int) ps) = true := YC h (by rw [Y3]; exact hl) fun q hq => by
  obtain ⟨x, hx, rfl⟩ := List.mem_map.1 hq
  obtain ⟨k, hk1⟩ := List.mem_iff_getElem?.1 hx
  have := (hk k x hk1).1
  have := (List.getElem?_eq_some_iff.1 hk1).1
  show 0 <= (fr : Int) + x.idx /\ (fr : Int) + x.idx < _
  omega
 rw [Qao hr ha]
 exact Qbq h ha ps hl hu hk
theorem U3 {Qb : List (List Int)} {Qa l : List (Int × List Int)} (h : QH Qb Qa = true) : QH (YY Qb l) [] = true := by
 obtain ⟨h1, h2, h3, h4⟩ := Zz h
 exact JR (by rw [Z8]; exact List.length_pos_iff.2 h1) (by rw [Z8]; exact h2) (by rw [List.length_nil]; omega) (fun p hp => absurd hp List.not_mem_nil)
theorem Qff {Qb : List (List Int)} {Qa : List (Int × List Int)} {f q : Int} {Q : Nat} {recs : List (List Int)} (hr : QH Qb Qa = true) (hq : q = (Q : Int)) (hQ : Q <= 1) (hf : f < 0) (hg : Yu (Xk Qb Qa) Qb.length < 1099511627776) (hb : ∀ r ∈ recs, ZX r) (hfit : 1 + Qz recs <= Qb.length / 2) (hl : Qa.length + Qz recs <= 4096) (hbd : YJ Qb Qa) :
    ∃ S, QQ Qb Qa f false q recs = (⟨S, [], f, false, 0⟩, q, Yu (Xk Qb Qa) Qb.length + 1, 1 + (Qz recs : Int)) /\ S.length = Qb.length /\ QH S [] = true /\ YJ S [] /\ ∀ a, a < Qb.length -> Xk S [] a = UQ (Xk Qb Qa) (Q * (Qb.length / 2)) (Yu (Xk Qb Qa) Qb.length + 1) recs a := by
  have hm := Fe Qb Qa
  have hlen := (Zz hr).2.1
  generalize hG : Yu (Xk Qb Qa) Qb.length + 1 = G
  have hG1 : 1 <= G /\ G <= 1099511627776 := by omega
  have hin := Yw hQ (k := Qz recs) (n := Qb.length) (by omega)
  have hfr : q * ((Qb.length : Int) / 2) = ((Q * (Qb.length / 2) : Nat) : Int) := by rw [hq, Int.natCast_mul]; rfl
  generalize hFR : Q * (Qb.length / 2) = fr at *
  have hpl : (Zh G 1 recs).length = Qz recs := ZQ G recs 1
  have hpk : ∀ k p, (Zh G 1 recs)[k]? = some p -> (fr : Int) + p.idx = ((fr + 1 + k : Nat) : Int) /\ KD p := fun k p hk => ⟨by rw [(Vg hk).1]; omega, Qdy hG1 hb (by decide) (by omega) hk⟩
  have hhk : ∀ (k : Nat) (p : Pg), [ZE G (Qz recs : Int)][k]? = some p -> (fr : Int) + p.idx = ((fr + k : Nat) : Int) /\ KD p := fun k p hk => by
    have h1 := (List.getElem?_eq_some_iff.1 hk).1
    rw [List.length_singleton] at h1
    obtain rfl : k = 0 := by omega
    cases hk
    exact ⟨by show (fr : Int) + 0 = _; omega, QeM hG1⟩
  have hr1 : QH Qb (Qa ++ Kg (fr : Int) (Zh G 1 recs)) = true := YC hr (by rw [Y3, hpl]; exact hl) fun p hp => by
    obtain ⟨x, hx, rfl⟩ := List.mem_map.1 hp
    exact GP hin x hx
  have hr2 : QH (YY Qb (Qa ++ Kg (fr : Int) (Zh G 1 recs))) [] = true := U3 hr1
  have hl2 : (YY Qb (Qa ++ Kg (fr : Int) (Zh G 1 recs))).length = Qb.length := Z8 _ _
  have hr3 : QH (YY Qb (Qa ++ Kg (fr : Int) (Zh G 1 recs))) ([] ++ Kg (fr : Int) [ZE G (Qz recs : Int)]) = true := YC hr2 (by rw [Y3]; show 0 + 1 <= 4096; decide) fun p hp => by
    obtain ⟨x, hx, rfl⟩ := List.mem_map.1 hp
    rw [List.mem_singleton.1 hx, hl2]
    show 0 <= (fr : Int) + 0 /\ (fr : Int) + 0 < _
    omega
  refine ⟨YY (YY Qb (Qa ++ Kg (fr : Int) (Zh G 1 recs))) ([] ++ Kg (fr : Int) [ZE G (Qz recs : Int)]), ?_, ?_, ?_, ?_, ?_⟩
  . have e1 : Yy (Xx Qb Qa f false) (fr : Int) G recs = ⟨YY (YY Qb (Qa ++ Kg (fr : Int) (Zh G 1 recs))) ([] ++ Kg (fr : Int) [ZE G (Qz recs : Int)]), [], f, false, 0⟩ := by
      unfold Yy Xx
      rw [HY _ _ _ hr (by rw [hpl]; exact hl) (GP hin) (.inl hf), if_pos hf, KT hr1, if_neg (by omega), if_pos hf, EJ hr2 (by rw [List.length_nil]; omega) (by show 0 <= (fr : Int) + 0 /\ (fr : Int) + 0 < _; rw [hl2]; omega), if_neg (by omega), if_pos hf, KT hr3, if_neg (by omega), if_pos hf]
    unfold QQ
    rw [QeC hg, if_neg (fun q => q rfl)]
    show (if (Xw (Xx Qb Qa f false) (Yy (Xx Qb Qa f false) (q * ((Qb.length : Int) / 2)) (Yu (Xk Qb Qa) Qb.length + 1) recs)).err = 0 then _ else _) = _
    rw [hG, hfr, e1]
    rfl
  . rw [Z8, Z8]
  . exact U3 hr3
  . refine GA (G8 (GA (G8 hbd (Qca hb))) fun p hp => ?_)
    rw [List.mem_singleton.1 hp]
    exact K0 _ _
  . intro a ha
    rw [Gp hr2 (by rw [List.length_nil]; show 0 + 1 <= 4096; decide) (u := fr) (by rw [hl2]; show fr + 1 <= _; omega) hhk a (by rw [hl2]; exact ha)]
    unfold UQ V7
    rw [Gp hr (by rw [hpl]; exact hl) (u := fr + 1) (by rw [hpl]; omega) hpk a ha]
    rfl
theorem Qdv (V : Nat -> Option Pg) (fr : Nat) (G : Int) (recs : List (List Int)) : UM (UQ V fr G recs) fr 0 = some (ZE G (Qz recs : Int)) := by
 have e : UQ V fr G recs (fr + 0) = some (ZE G (Qz recs : Int)) := by
  unfold UQ V7
  rw [List.length_singleton, if_pos (show fr <= fr + 0 /\ fr + 0 < fr + 1 by omega), show fr + 0 - fr = 0 by omega]; rfl
 unfold UM
 rw [e]
 exact if_pos rfl
theorem DY {V : Nat -> Option Pg} {fr : Nat} {G : Int} {recs : List (List Int)} {k : Nat} (hk : k < Qz recs) : UQ V fr G recs (fr + (1 + k)) = (Zh G 1 recs)[k]? := by
 unfold UQ V7
 rw [List.length_singleton, if_neg (show ¬ (fr <= fr + (1 + k) /\ fr + (1 + k) < fr + 1) by omega), if_pos (show fr + 1 <= fr + (1 + k) /\ fr + (1 + k) < fr + 1 + (Zh G 1 recs).length by rw [ZQ]; omega), show fr + (1 + k) - (fr + 1) = k by omega]
theorem J5 {V : Nat -> Option Pg} {fr : Nat} {G : Int} {recs : List (List Int)} {a : Nat} (ha : a < fr \/ fr + 1 + Qz recs <= a) : UQ V fr G recs a = V a := by
 unfold UQ V7
 rw [List.length_singleton, if_neg (show ¬ (fr <= a /\ a < fr + 1) by omega), if_neg (by rw [ZQ]; omega)]
theorem DI {pg : Nat -> Option Pg} {sz st : Nat} {gen : Int} (h : st < sz -> ∀ p, pg st = some p -> p.gen ≠ gen) : V6 pg sz st gen = none := by
  unfold V6
  by_cases hs : st < sz
  . cases e : pg st with
    | none => exact QbR hs e
    | some p => exact QbT hs e (.inl (h hs p e))
  . exact F9 hs
theorem Qcq {V : Nat -> Option Pg} {fr h : Nat} {G : Int} {recs : List (List Int)} (hfit : 1 + Qz recs <= h) (hg : ∀ a p, fr <= a -> a < fr + h -> V a = some p -> p.gen < G) : UB (UM (UQ V fr G recs) fr) h G recs [] := by
  refine ⟨Qdv V fr G recs, ?_, ?_, ?_⟩
  . rw [List.append_nil]
    intro k hk
    have e := DY (V := V) (fr := fr) (G := G) hk
    unfold UM
    rw [e]
    cases e2 : (Zh G 1 recs)[k]? with
    | none => rfl
    | some p =>
      have := (Vg e2).1
      exact if_pos (by omega)
  . rw [List.append_nil]; exact hfit
  . rw [List.append_nil]
    refine DI fun hs p hp => ?_
    unfold UM at hp
    rw [J5 (by omega)] at hp
    split at hp
    . rename_i p' hp'
      split at hp
      . cases hp
        have := hg _ _ (by omega) (by omega) hp'
        omega
      . cases hp
    . cases hp
theorem Qa0 {V : Nat -> Option Pg} {Q h : Nat} {G : Int} {recs : List (List Int)} (hQ : Q <= 1) (hfit : 1 + Qz recs <= h) {k : Nat} (hk : k < h) : UM (UQ V (Q * h) G recs) ((1 - Q) * h) k = UM V ((1 - Q) * h) k := by
 unfold UM
 rw [J5 (by
  have : Q = 0 \/ Q = 1 := by omega
  rcases this with rfl | rfl <;> omega)]
theorem QdI {V : Nat -> Option Pg} {fr n : Nat} {G : Int} {recs : List (List Int)} (hG : 0 <= G) (hf : fr < n) (hg : ∀ a p, a < n -> V a = some p -> p.gen < G) : Yu (UQ V fr G recs) n = G := by
  refine Int.le_antisymm (KY hG fun a p ha hp => ?_) ?_
  . by_cases h1 : a < fr \/ fr + 1 + Qz recs <= a
    . rw [J5 h1] at hp
      exact Int.le_of_lt (hg a p ha hp)
    . by_cases h2 : a = fr
      . subst h2
        have : UQ V a G recs a = some (ZE G (Qz recs : Int)) := by
          unfold UQ V7
          rw [if_pos (by simp), Nat.sub_self]; rfl
        rw [this] at hp
        cases hp
        exact Int.le_refl _
      . have e := DY (V := V) (fr := fr) (G := G) (recs := recs) (k := a - fr - 1) (by omega)
        rw [show fr + (1 + (a - fr - 1)) = a by omega, hp] at e
        exact Int.le_of_eq (Vg e.symm).2.1
  . have : UQ V fr G recs fr = some (ZE G (Qz recs : Int)) := by
      unfold UQ V7
      rw [if_pos (by simp), Nat.sub_self]; rfl
    exact VR (p := ZE G (Qz recs : Int)) hf this
end Go.Proofs.YtfachlmgdlnpoaaDoor
namespace Go.Proofs.YtfachlmgdlnpoaaDoor
set_option linter.unusedVariables false
set_option maxRecDepth 8000

theorem Fd {pg : Nat -> Option Pg} {sz st : Nat} {gen : Int} : ∀ (f k : Nat) (out r : List Int) (k' : Nat), YS pg sz st gen f k out = some (r, k') -> k' <= sz
  | 0, k, out, r, k', h => by cases h
  | f + 1, k, out, r, k', h => by
    rw [YS] at h
    split at h
    . split at h
      . cases h
      . split at h
        . cases h
        . split at h
          . split at h
            . cases h
            . cases h; omega
          . split at h
            . cases h
            . exact Fd f _ _ r k' h
    . cases h
theorem F6 {pg : Nat -> Option Pg} {sz n : Nat} {gen : Int} : ∀ (f k : Nat) (l l' : List (List Int)) (k' : Nat), Z2 pg sz n gen f k l = some (l', k') -> k <= sz -> k' <= sz
  | 0, k, l, l', k', h, _ => by cases h
  | f + 1, k, l, l', k', h, hk => by
    rw [Z2] at h
    split at h
    . split at h
      . cases h
      . rename_i out k2 hr
        split at h
        . cases h
        . exact F6 f k2 _ l' k' h (Fd _ _ _ _ _ hr)
    . cases h; exact hk
theorem F4 {pg : Nat -> Option Pg} {sz : Nat} {gen : Int} : ∀ (f k : Nat) (l : List (List Int)), k <= sz -> (Ya pg sz gen f k l).2 <= sz
  | 0, k, l, hk => hk
  | f + 1, k, l, hk => by
    rw [Ya]
    split
    . exact hk
    . rename_i out k2 hr
      exact F4 f k2 _ (Fd _ _ _ _ _ hr)
theorem QbQ {pg : Nat -> Option Pg} {sz : Nat} (hs : 1 <= sz) {l : List (List Int)} {g : Int} {u : Nat} (h : ZP pg sz = some (l, g, u)) : u <= sz /\ ∃ p, pg 0 = some p /\ p.gen = g := by
  unfold ZP at h
  split at h
  . cases h
  . rename_i p hp
    split at h
    . cases h
    . split at h
      . cases h
      . split at h
        . cases h
        . rename_i l1 k1 h1
          cases h
          exact ⟨F4 _ _ _ (F6 _ _ _ _ _ h1 hs), p, hp, rfl⟩
theorem Qdw {Qb : List (List Int)} {Qa : List (Int × List Int)} {fr k : Nat} {p : Pg} (h : UM (Xk Qb Qa) fr k = some p) (hf : fr + k < Qb.length) : 1 <= p.gen /\ p.gen <= Yu (Xk Qb Qa) Qb.length := by
  unfold UM at h
  split at h
  . rename_i q hq
    split at h
    . cases h; exact ⟨(Gq hq).1, VR hf hq⟩
    . cases h
  . cases h
structure Opn (S : List (List Int)) (n Q : Nat) (G : Int) (l : List (List Int)) : Prop where
  len : S.length = n
  n1 : 8 <= n
  n2 : n <= 2048
  hQ : Q <= 1
  g1 : 1 <= G /\ G <= 1099511627776
  right : QH S [] = true
  byt : YJ S []
  half : ∃ A B, l = A ++ B /\ UB (UM (Xk S []) (Q * (n / 2))) (n / 2) G A B
  max : Yu (Xk S []) n = G
  oth : ∀ r g u, ZP (UM (Xk S []) ((1 - Q) * (n / 2))) (n / 2) = some (r, g, u) -> g < G
  lb : ∀ r ∈ l, ZX r
  beh : ∀ a p, Q * (n / 2) + 1 + Qz l <= a -> a < Q * (n / 2) + n / 2 -> Xk S [] a = some p -> p.gen < G
theorem F7 {Qb : List (List Int)} {Qa : List (Int × List Int)} (hr : QH Qb Qa = true) (hn : 8 <= Qb.length) {q : Int} {Q : Nat} (hq : q = (Q : Int)) (hQ : Q <= 1) : Yb Qb Qa false q = ZP (UM (Xk Qb Qa) (Q * (Qb.length / 2))) (Qb.length / 2) := by
 have hc : XA Qb Qa false = 0 := by
  unfold XA
  rw [if_neg (by rintro (e | e); rw [hr] at e; cases e; omega), if_neg (by decide)]
 unfold Yb
 rw [if_neg (by omega)]
 exact Qa4 hr (by omega) hq hQ
theorem Qeu {Q : Nat} (hQ : Q <= 1) {x : Nat -> Option (List (List Int) × Int × Nat)} {l : List (List Int)} {G : Int} {u : Nat} (h1 : x Q = some (l, G, u)) (h2 : ∀ r g v, x (1 - Q) = some (r, g, v) -> g < G) : Ed (x 0) (x 1) = some (l, ((1 - Q : Nat) : Int)) := by
  have : Q = 0 \/ Q = 1 := by omega
  rcases this with rfl | rfl
  . rw [h1]
    cases e : x 1 with
    | none => rfl
    | some b => have := h2 b.1 b.2.1 b.2.2 e; exact if_neg (by show ¬ G < b.2.1; omega)
  . rw [h1]
    cases e : x 0 with
    | none => rfl
    | some b => have := h2 b.1 b.2.1 b.2.2 e; exact if_pos (by show b.2.1 < G; omega)
theorem Opn.both {S : List (List Int)} {n Q : Nat} {G : Int} {l : List (List Int)} (h : Opn S n Q G l) : Jq S [] false = some (l, ((1 - Q : Nat) : Int)) := by
 obtain ⟨A, B, rfl, hh⟩ := h.half
 have e0 : Yb S [] false 0 = ZP (UM (Xk S []) (0 * (n / 2))) (n / 2) := by have := F7 h.right (by rw [h.len]; exact h.n1) (q := 0) (Q := 0) rfl (by decide); rw [h.len] at this; exact this
 have e1 : Yb S [] false 1 = ZP (UM (Xk S []) (1 * (n / 2))) (n / 2) := by have := F7 h.right (by rw [h.len]; exact h.n1) (q := 1) (Q := 1) rfl (by decide); rw [h.len] at this; exact this
 unfold Jq
 rw [e0, e1]
 exact Qeu (x := fun Q => ZP (UM (Xk S []) (Q * (n / 2))) (n / 2)) h.hQ (hh.recs (by have := h.n2; omega)) h.oth
theorem Qfg {Qb : List (List Int)} {Qa : List (Int × List Int)} {f q : Int} {Q : Nat} {recs : List (List Int)} (hr : QH Qb Qa = true) (h8 : 8 <= Qb.length) (hq : q = (Q : Int)) (hQ : Q <= 1) (hf : f < 0) (hg : Yu (Xk Qb Qa) Qb.length < 1099511627776) (hb : ∀ r ∈ recs, ZX r) (hfit : 1 + Qz recs <= Qb.length / 2) (hl : Qa.length + Qz recs <= 4096) (hbd : YJ Qb Qa) :
    ∃ S, QQ Qb Qa f false q recs = (⟨S, [], f, false, 0⟩, q, Yu (Xk Qb Qa) Qb.length + 1, 1 + (Qz recs : Int)) /\ Opn S Qb.length Q (Yu (Xk Qb Qa) Qb.length + 1) recs := by
  obtain ⟨S, e, hl1, hr1, hb1, hv⟩ := Qff hr hq hQ hf hg hb hfit hl hbd
  have hm := Fe Qb Qa
  have hn2 := (Zz hr).2.1
  refine ⟨S, e, hl1, h8, hn2, hQ, by omega, hr1, hb1, ?_, ?_, ?_, hb, ?_⟩
  . refine ⟨recs, [], (List.append_nil _).symm, ?_⟩
    have hh := Qcq (V := Xk Qb Qa) (fr := Q * (Qb.length / 2)) (h := Qb.length / 2) (G := Yu (Xk Qb Qa) Qb.length + 1) (recs := recs) hfit fun a p ha1 ha2 hp => by
      have := Yw hQ (k := a - Q * (Qb.length / 2)) (n := Qb.length) (by omega)
      have := VR (k := Qb.length) (by omega) hp
      omega
    have hx : ∀ k, k < Qb.length / 2 -> UM (Xk S []) (Q * (Qb.length / 2)) k = UM (UQ (Xk Qb Qa) (Q * (Qb.length / 2)) (Yu (Xk Qb Qa) Qb.length + 1) recs) (Q * (Qb.length / 2)) k := fun k hk => by
      unfold UM
      rw [hv _ (Yw hQ hk)]
    refine ⟨by rw [hx 0 (by omega)]; exact hh.hdr, fun k hk => by rw [hx _ (by have := hh.fit; omega)]; exact hh.pgs k hk, hh.fit, ?_⟩
    rw [GJ hx]
    exact hh.stop
  . rw [Eo hv]
    exact QdI (by omega) (by have := Yw hQ (k := 0) (n := Qb.length) (by omega); omega) fun a p ha hp => by have := VR ha hp; omega
  . intro r g u hru
    have hx : ∀ k, k < Qb.length / 2 -> UM (Xk S []) ((1 - Q) * (Qb.length / 2)) k = UM (Xk Qb Qa) ((1 - Q) * (Qb.length / 2)) k := fun k hk => by
      rw [<- Qa0 (V := Xk Qb Qa) (G := Yu (Xk Qb Qa) Qb.length + 1) (recs := recs) hQ hfit hk]
      unfold UM
      rw [hv _ (Yw (by omega) hk)]
    rw [Kj (by omega) hx] at hru
    obtain ⟨_, p, hp, rfl⟩ := QbQ (by omega) hru
    have := (Qdw hp (by have := Yw (Q := 1 - Q) (by omega) (k := 0) (n := Qb.length) (by omega); omega)).2
    omega
  . intro a p ha1 ha2 hp
    have hin := Yw hQ (k := a - Q * (Qb.length / 2)) (n := Qb.length) (by omega)
    rw [hv a (by omega), J5 (by omega)] at hp
    have := VR (k := Qb.length) (by omega) hp
    omega
theorem Vc {Qb : List (List Int)} {Qa : List (Int × List Int)} (hr : QH Qb Qa = true) (hn : 8 <= Qb.length) : XA Qb Qa false = 0 := by
 unfold XA
 rw [if_neg (by rintro (e | e); rw [hr] at e; cases e; omega), if_neg (by decide)]
theorem QaR {G : Int} {u : Nat} {r : List Int} (hg : 1 <= G /\ G <= 1099511627776) (hb : ZX r) (hc : u + ZV r <= 100000) {k : Nat} {p : Pg} (h : (Xo G (u : Int) r)[k]? = some p) : p.idx = (u : Int) + (k : Int) /\ p.gen = G /\ KD p := by
 have hk := (List.getElem?_eq_some_iff.1 h).1
 rw [XK] at hk
 rw [YD hk] at h
 cases h
 refine ⟨rfl, rfl, hg.1, hg.2, ?_, ?_, ?_, ?_, G6 _ _, JG hb _⟩
 . show (0 : Int) <= (u : Int) + (k : Int); omega
 . show (u : Int) + (k : Int) < 4294967296; omega
 . show (0 : Int) <= (if k = 0 then 1 else 0) + (if k + 1 = ZV r then 2 else 0); split <;> split <;> decide
 . show (if k = 0 then (1 : Int) else 0) + (if k + 1 = ZV r then 2 else 0) <= 3; split <;> split <;> decide
theorem QaW (G : Int) (l : List (List Int)) (r : List Int) : Zh G 1 (l ++ [r]) = Zh G 1 l ++ Xo G ((1 + Qz l : Nat) : Int) r := by
 rw [JY]
 congr 2
theorem Opn.app {S : List (List Int)} {n Q : Nat} {G : Int} {l : List (List Int)} (h : Opn S n Q G l) {f : Int} (hf : f < 0) {r : List Int} (hb : ZX r) (hr : r.length <= 4096) (hfit : 1 + Qz l + ZV r <= n / 2) : ∃ S', QW S [] f false (Q : Int) G (1 + (Qz l : Int)) r = (⟨S', [], f, false, 0⟩, (Q : Int), G, 1 + (Qz (l ++ [r]) : Int)) /\ Opn S' n Q G (l ++ [r]) := by
  have hQ := h.hQ; have hg := h.g1; have hn1 := h.n1; have hn2 := h.n2; have hlen := h.len
  have hin := Yw hQ (k := Qz l + ZV r) (n := n) (by omega)
  generalize hFR : Q * (n / 2) = fr at hin
  have hfr : (Q : Int) * ((S.length : Int) / 2) = (fr : Int) := by rw [hlen, <- hFR, Int.natCast_mul]; rfl
  have hpl : (Xo G ((1 + Qz l : Nat) : Int) r).length = ZV r := XK ..
  have hok : ∀ (k : Nat) (p : Pg), (Xo G ((1 + Qz l : Nat) : Int) r)[k]? = some p -> p.idx = ((1 + Qz l : Nat) : Int) + (k : Int) /\ p.gen = G /\ KD p := fun k p hp => QaR hg hb (by omega) hp
  have hpk : ∀ (k : Nat) (p : Pg), (Xo G ((1 + Qz l : Nat) : Int) r)[k]? = some p -> (fr : Int) + p.idx = ((fr + 1 + Qz l + k : Nat) : Int) /\ KD p := fun k p hp => ⟨by rw [(hok k p hp).1]; omega, (hok k p hp).2.2⟩
  have hpi : ∀ p ∈ Xo G ((1 + Qz l : Nat) : Int) r, 0 <= (fr : Int) + p.idx /\ (fr : Int) + p.idx < (S.length : Int) := fun p hp => by
    obtain ⟨k, hk⟩ := List.mem_iff_getElem?.1 hp
    have h1 := (hok k p hk).1
    have h2 := (List.getElem?_eq_some_iff.1 hk).1
    rw [hpl] at h2
    omega
  have hr1 : QH S ([] ++ Kg (fr : Int) (Xo G ((1 + Qz l : Nat) : Int) r)) = true := YC h.right (by rw [Y3, hpl, List.length_nil]; omega) fun p hp => by
    obtain ⟨x, hx, rfl⟩ := List.mem_map.1 hp
    exact hpi x hx
  have e : Qc2 S [] f false (Q : Int) G (1 + (Qz l : Int)) r = ⟨YY S ([] ++ Kg (fr : Int) (Xo G ((1 + Qz l : Nat) : Int) r)), [], f, false, 0⟩ := by
    unfold Qc2 Xx
    rw [hfr, show (1 + (Qz l : Int)) = ((1 + Qz l : Nat) : Int) by omega, HY _ _ _ h.right (by rw [hpl, List.length_nil]; omega) hpi (.inl hf), if_pos hf, KT hr1, if_neg (by omega), if_pos hf]
    rfl
  have hv : ∀ a, a < n -> Xk (YY S ([] ++ Kg (fr : Int) (Xo G ((1 + Qz l : Nat) : Int) r))) [] a = V7 (Xk S []) (fr + 1 + Qz l) (Xo G ((1 + Qz l : Nat) : Int) r) a := fun a ha => Gp h.right (by rw [hpl, List.length_nil]; omega) (by rw [hpl]; omega) hpk a (by omega)
  have hvin : ∀ k, k < ZV r -> V7 (Xk S []) (fr + 1 + Qz l) (Xo G ((1 + Qz l : Nat) : Int) r) (fr + (1 + (Qz l + k))) = (Xo G ((1 + Qz l : Nat) : Int) r)[k]? := fun k hk => by
    unfold V7
    rw [if_pos (by rw [hpl]; omega), show fr + (1 + (Qz l + k)) - (fr + 1 + Qz l) = k by omega]
  have hvout : ∀ a, a < fr + 1 + Qz l \/ fr + 1 + Qz l + ZV r <= a -> V7 (Xk S []) (fr + 1 + Qz l) (Xo G ((1 + Qz l : Nat) : Int) r) a = Xk S [] a := fun a ha => by
    unfold V7
    rw [if_neg (by rw [hpl]; omega)]
  have hlg : Yn (S.length : Int) (Q : Int) G (1 + (Qz l : Int)) = 0 := by
    unfold Yn
    rw [if_neg (by omega)]
  refine ⟨YY S ([] ++ Kg (fr : Int) (Xo G ((1 + Qz l : Nat) : Int) r)), ?_, by rw [Z8]; exact hlen, hn1, hn2, hQ, hg, U3 hr1, ?_, ?_, ?_, ?_, ?_, ?_⟩
  . unfold QW
    rw [if_neg (fun q => q (Vc h.right (by omega))), if_neg (fun q => q hlg), if_neg (by omega), if_neg (by rw [JO hr]; omega), e, if_pos rfl, JO hr, ZT]
    congr 3
    omega
  . refine GA (G8 h.byt fun p hp => ?_)
    obtain ⟨k, hk⟩ := List.mem_iff_getElem?.1 hp
    exact (hok k p hk).2.2.db
  . obtain ⟨A, B, rfl, hh⟩ := h.half
    rw [hFR] at hh ⊢
    refine ⟨A, B ++ [r], (List.append_assoc ..), ?_, ?_, ?_, ?_⟩
    . have : UM (Xk S []) fr 0 = some (ZE G (Qz A : Int)) := hh.hdr
      unfold UM at this ⊢
      rw [hv _ (by omega), hvout _ (by omega)]
      exact this
    . rw [<- List.append_assoc]
      intro k hk
      rw [ZT] at hk
      rw [QaW]
      by_cases hk2 : k < Qz (A ++ B)
      . have := hh.pgs k hk2
        unfold UM at this ⊢
        rw [hv _ (by omega), hvout _ (by omega), List.getElem?_append_left (by rw [ZQ]; exact hk2)]
        exact this
      . rw [List.getElem?_append_right (by rw [ZQ]; omega), ZQ]
        have e1 := hvin (k - Qz (A ++ B)) (by omega)
        rw [show fr + (1 + (Qz (A ++ B) + (k - Qz (A ++ B)))) = fr + (1 + k) by omega] at e1
        unfold UM
        rw [hv _ (by omega), e1]
        cases e2 : (Xo G ((1 + Qz (A ++ B) : Nat) : Int) r)[k - Qz (A ++ B)]? with
        | none => rfl
        | some p => exact if_pos (by rw [(hok _ _ e2).1]; omega)
    . rw [<- List.append_assoc, ZT]; omega
    . rw [<- List.append_assoc, ZT]
      refine DI fun hs p hp => ?_
      unfold UM at hp
      rw [hv _ (by have := Yw hQ (k := 1 + (Qz (A ++ B) + ZV r)) hs; omega), hvout _ (by omega)] at hp
      split at hp
      . rename_i p' hp'
        split at hp
        . cases hp
          have := h.beh _ _ (by omega) (by omega) hp'
          omega
        . cases hp
      . cases hp
  . refine Int.le_antisymm (KY (by omega) fun a p ha hp => ?_) ?_
    . rw [hv a ha] at hp
      by_cases h1 : a < fr + 1 + Qz l \/ fr + 1 + Qz l + ZV r <= a
      . rw [hvout a h1] at hp
        rw [<- h.max]
        exact VR ha hp
      . have e1 := hvin (a - (fr + 1 + Qz l)) (by omega)
        rw [show fr + (1 + (Qz l + (a - (fr + 1 + Qz l)))) = a by omega, hp] at e1
        exact Int.le_of_eq (hok _ _ e1.symm).2.1
    . obtain ⟨A, B, _, hh⟩ := h.half
      have hd : UM (Xk S []) fr 0 = some (ZE G (Qz A : Int)) := by rw [<- hFR]; exact hh.hdr
      unfold UM at hd
      split at hd
      . rename_i p hp
        split at hd
        . have e3 : p = ZE G (Qz A : Int) := Option.some.inj hd
          have hx : Xk (YY S ([] ++ Kg (fr : Int) (Xo G ((1 + Qz l : Nat) : Int) r))) [] (fr + 0) = some p := by rw [hv _ (by omega), hvout _ (by omega)]; exact hp
          have hge := VR (k := n) (by omega) hx
          rw [e3] at hge
          exact hge
        . cases hd
      . cases hd
  . intro r' g u hru
    have hx : ∀ k, k < n / 2 -> UM (Xk (YY S ([] ++ Kg (fr : Int) (Xo G ((1 + Qz l : Nat) : Int) r))) []) ((1 - Q) * (n / 2)) k = UM (Xk S []) ((1 - Q) * (n / 2)) k := fun k hk => by
      unfold UM
      rw [hv _ (Yw (by omega) hk), hvout _ (by
        have : Q = 0 \/ Q = 1 := by omega
        rcases this with rfl | rfl <;> omega)]
    rw [Kj (by omega) hx] at hru
    exact h.oth _ _ _ hru
  . intro x hx
    rcases List.mem_append.1 hx with hx | hx
    . exact h.lb x hx
    . rw [List.mem_singleton.1 hx]; exact hb
  . rw [ZT, hFR]
    intro a p ha1 ha2 hp
    rw [hv a (by have := Yw hQ (k := a - fr) (n := n) (by omega); omega), hvout a (by omega)] at hp
    exact h.beh a p (by omega) (by omega) hp
theorem Qbr (n : Nat) (a : Nat) : Xk (List.replicate n z0) [] a = none := by
  have e : (Xl (List.replicate n z0) [] false (a : Int)).1 = z0 := by
    unfold Xl
    split
    . rfl
    . split
      . rfl
      . rename_i h
        have hl : a < n := by
          cases hh : Vm (List.replicate n z0) (a : Int) with
          | false => exact absurd hh h
          | true => have := E7 hh; rw [List.length_replicate] at this; omega
        rw [if_neg (by decide)]
        show ((List.replicate n z0)[a]?.getD []) = z0
        rw [List.getElem?_replicate, if_pos hl]; rfl
  unfold Xk
  rw [e]; exact Qap
theorem Da {n : Nat} (h1 : 8 <= n) (h2 : n <= 2048) {f : Int} (hf : f < 0) : ∃ S, Xa (List.replicate n z0) [] f false = (⟨S, [], f, false, 0⟩, 0, 1, 1) /\ Opn S n 0 1 [] := by
 have hr : QH (List.replicate n z0) [] = true := JR (by rw [List.length_replicate]; omega) (by rw [List.length_replicate]; exact h2) (by rw [List.length_nil]; omega) (fun p hp => absurd hp List.not_mem_nil)
 have hm : Yu (Xk (List.replicate n z0) []) (List.replicate n z0).length = 0 := Int.le_antisymm (KY (Int.le_refl _) fun a p _ hp => by rw [Qbr] at hp; cases hp) (Fe _ _).1
 have hb : YJ (List.replicate n z0) [] := ⟨fun z hz => by rw [(List.mem_replicate.1 hz).2]; exact Gi, fun p hp => absurd hp List.not_mem_nil⟩
 obtain ⟨S, e, ho⟩ := Qfg (f := f) (q := 0) (Q := 0) (recs := []) hr (by rw [List.length_replicate]; exact h1) rfl (by decide) hf (by rw [hm]; decide) (fun r hr => by cases hr) (by rw [List.length_replicate]; show 1 + 0 <= _; omega) (by decide) hb
 rw [hm, List.length_replicate] at ho
 rw [hm] at e
 refine ⟨S, ?_, ho⟩
 rw [U9 (Vc hr (by rw [List.length_replicate]; exact h1)), e]
 rfl
end Go.Proofs.YtfachlmgdlnpoaaDoor
