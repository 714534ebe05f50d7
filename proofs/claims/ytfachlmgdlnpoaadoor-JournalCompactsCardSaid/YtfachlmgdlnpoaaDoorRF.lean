/- Records, Format, Open, Append, Compact. Append, Compact. The theory of the journal, over the program's data: sealed sectors, what a half reads, what i -/
import Derived.Test.YtfachlmgdlnpoaaDoorRE
namespace Go.Proofs.YtfachlmgdlnpoaaDoor
open Go.RowKit
set_option linter.unusedVariables false
set_option linter.unusedSimpArgs false
set_option maxRecDepth 8000
set_option maxHeartbeats 2000000

theorem EP {z : List Int} {p : Pg} (h : Zq z = some p) : p.dat.length <= 100 := by
  unfold Zq at h
  split at h
  . cases h
  . rename_i hb
    split at h
    . cases h
      unfold VR at hb
      show ((z.drop 14).take (z[12]?.getD 0).toNat).length <= 100
      rw [List.length_take]
      omega
    . cases h
theorem QaW {Qb : List (List Int)} {Qa : List (Int × List Int)} {Qc : Bool} {a ix : Int} {p : Pg} (h : UK Qb Qa Qc a ix = some p) : p.dat.length <= 100 := by
  unfold UK at h
  split at h
  . cases h
  . split at h
    . rename_i q hq
      split at h
      . cases h; exact EP hq
      . cases h
    . cases h
theorem Qb4 {pg : Nat -> Option Pg} {sz st : Nat} {gen : Int} (hpg : ∀ k p, pg k = some p -> p.dat.length <= 100) : ∀ (f k : Nat) (out r : List Int) (k' : Nat), YT pg sz st gen f k out = some (r, k') -> st <= k -> out.length = 100 * (k - st) -> st < k' /\ Z2 r = k' - st /\ k' <= sz
  | 0, k, out, r, k', h, _, _ => by cases h
  | f + 1, k, out, r, k', h, hk, ho => by
    rw [YT] at h
    split at h
    . rename_i hks
      split at h
      . cases h
      . rename_i p hp
        have hd := hpg k p hp
        split at h
        . cases h
        . split at h
          . split at h
            . cases h
            . rename_i hz
              cases h
              refine ⟨by omega, ?_, by omega⟩
              unfold Z2
              rw [List.length_append, ho]
              split <;> omega
          . split at h
            . cases h
            . rename_i h100
              obtain ⟨h1, h2, h3⟩ := Qb4 hpg f (k + 1) _ r k' h (by omega) (by rw [List.length_append, ho]; omega)
              exact ⟨h1, h2, h3⟩
    . cases h
theorem Qb7 {pg : Nat -> Option Pg} {sz st : Nat} {gen : Int} (hpg : ∀ k p, pg k = some p -> p.dat.length <= 100) {r : List Int} {k' : Nat} (h : Uf pg sz st gen = some (r, k')) : st < k' /\ Z2 r = k' - st /\ k' <= sz := Qb4 hpg _ _ _ _ _ h (Nat.le_refl _) (by simp)
theorem F8 {pg : Nat -> Option Pg} {sz n : Nat} {gen : Int} (hpg : ∀ k p, pg k = some p -> p.dat.length <= 100) : ∀ (f k : Nat) (l l' : List (List Int)) (k' : Nat), Z5 pg sz n gen f k l = some (l', k') -> k = 1 + Qz l -> k' = 1 + Qz l'
  | 0, k, l, l', k', h, _ => by cases h
  | f + 1, k, l, l', k', h, hk => by
    rw [Z5] at h
    split at h
    . split at h
      . cases h
      . rename_i out k2 hr
        split at h
        . cases h
        . have := Qb7 hpg hr
          exact F8 hpg f k2 _ l' k' h (by rw [ZJ]; omega)
    . cases h; exact hk
theorem F6 {pg : Nat -> Option Pg} {sz : Nat} {gen : Int} (hpg : ∀ k p, pg k = some p -> p.dat.length <= 100) : ∀ (f k : Nat) (l : List (List Int)), k = 1 + Qz l -> (Yd pg sz gen f k l).2 = 1 + Qz (Yd pg sz gen f k l).1
  | 0, k, l, hk => hk
  | f + 1, k, l, hk => by
    rw [Yd]
    split
    . exact hk
    . rename_i out k2 hr
      have := Qb7 hpg hr
      exact F6 hpg f k2 _ (by rw [ZJ]; omega)
theorem QdH {pg : Nat -> Option Pg} {sz : Nat} (hpg : ∀ k p, pg k = some p -> p.dat.length <= 100) {l : List (List Int)} {g : Int} {u : Nat} (h : ZV pg sz = some (l, g, u)) : u = 1 + Qz l := by
  unfold ZV at h
  split at h
  . cases h
  . split at h
    . cases h
    . split at h
      . cases h
      . split at h
        . cases h
        . rename_i l1 k1 h1
          cases h
          exact F6 hpg _ _ _ (F8 hpg _ _ _ _ _ h1 rfl)
def Ev (Qb : List (List Int)) (Qa : List (Int × List Int)) (Qc : Bool) (q : Int) : Option (List (List Int) × Int × Nat) := ZV (HJ Qb Qa Qc (q * ((Qb.length : Int) / 2))) (Qb.length / 2)
def Ye (Qb : List (List Int)) (Qa : List (Int × List Int)) (Qc : Bool) (q : Int) : Option (List (List Int) × Int × Nat) := if ¬ Xg Qb Qa Qc = 0 \/ (¬ q = 0 /\ ¬ q = 1) then none else Ev Qb Qa Qc q
theorem Qd0 {Qb : List (List Int)} {Qa : List (Int × List Int)} {Qc : Bool} {q : Int} {l : List (List Int)} {g : Int} {u : Nat} (h : Ev Qb Qa Qc q = some (l, g, u)) : u = 1 + Qz l := QdH (fun _ _ => QaW) h
def JC (x : Option (List (List Int) × Int × Nat)) (sz : Nat) (rs : List U6) (g : Int) (b : Bool) : Prop := (b = true -> ∃ used, x = some (rs.map Prod.fst, g, used) /\ used <= sz + 1 /\ used = 1 + Qz (rs.map Prod.fst)) /\ (b = false -> x = none /\ rs = [] /\ g = 0)
theorem Qb1 (Qb : List (List Int)) (Qa : List (Int × List Int)) (Qd : Int) (Qc : Bool) (s1 s2 : Value) (q : Int) (fr : Int) (hfe : fr = q * ((Qb.length : Int) / 2)) (sz : Int) (hse : sz = (Qb.length : Int) / 2) (w : World) (L : List Nat) (hL : LL L w) (h1 : QD 128 L w s1 (Qb.map Qr)) (h2 : QD 129 L w s2 (Qa.map QG)) (hq : q = 0 \/ q = 1) (hsz : Qb.length <= 2048) (hbd : YL Qb Qa) (hT : ZM w) : CV Tryd.prog 39 [.agg #[s1, s2, .int .i64 Qd, .bool Qc, .int .i64 fr, .int .i64 sz]] w fun v W => ∃ (rs : List U6) (lv : Value) (g : Int) (b : Bool), v = .tuple #[lv, .int .i64 g, .bool b] /\ QD 1 L W lv (rs.map YV) /\ Ya L W rs /\ (∀ r ∈ rs, Z0 r.1 /\ r.1.length <= 1000000) /\ JC (Ev Qb Qa Qc q) (Qb.length / 2) rs g b := by
 have e : sz = ((Qb.length / 2 : Nat) : Int) := by omega
 rw [e]
 subst hfe
 refine Calls.mono (QeG Qb Qa Qd Qc s1 s2 (q * ((Qb.length : Int) / 2)) (Qb.length / 2) w L hL hL h1 h2 (by rcases hq with rfl | rfl <;> omega) (by omega) hbd hT) fun _ W h => ?_
 obtain ⟨v, he, hr, hb⟩ := h
 refine ⟨v, he, ?_, hb⟩
 rcases hr with ⟨rs, lv, g, used, hv, hx, h3, h4, h5, h6, h7⟩ | ⟨hv, hx⟩
 . exact ⟨rs, lv, g, true, hv, h3, h4, fun r hr => ⟨(h5 r hr).1, Nat.le_trans (h5 r hr).2 (by decide)⟩, fun _ => ⟨used, hx, h6, Qd0 (q := q) hx⟩, fun h => by cases h⟩
 . exact ⟨[], _, 0, false, hv, QD.nil (by decide), (fun r hr => by cases hr), (fun r hr => by cases hr), fun h => (by cases h), fun _ => ⟨hx, rfl, rfl⟩⟩
theorem Un {Qb : List (List Int)} {Qa : List (Int × List Int)} {Qc : Bool} (h : Xg Qb Qa Qc = 0) : QM Qb Qa = true /\ 8 <= Qb.length /\ Qb.length <= 2048 /\ Qc = false := by
  unfold Xg at h
  split at h
  . cases h
  . rename_i hc
    split at h
    . cases h
    . rename_i hd
      have hr : QM Qb Qa = true := by
        cases e : QM Qb Qa
        . exact absurd (.inl e) hc
        . rfl
      exact ⟨hr, by omega, (ZU hr).2.1, by simpa using hd⟩

set_option maxHeartbeats 1000000 in
theorem HH (Qb : List (List Int)) (Qa : List (Int × List Int)) (Qd : Int) (Qc : Bool) (s1 s2 : Value) (q : Int) (w : World) (L : List Nat) (hL : LL L w) (h1 : QD 128 L w s1 (Qb.map Qr)) (h2 : QD 129 L w s2 (Qa.map QG))  (hbd : YL Qb Qa) (hT : ZM w) : CV Tryd.prog 14 [.agg #[s1, s2, .int .i64 Qd, .bool Qc], .int .i64 q] w fun v W => ∃ (rs : List U6) (lv : Value) (g : Int) (b : Bool), v = .tuple #[lv, .int .i64 g, .bool b] /\ QD 1 L W lv (rs.map YV) /\ Ya L W rs /\ (∀ r ∈ rs, Z0 r.1 /\ r.1.length <= 1000000) /\ JC (Ye Qb Qa Qc q) (Qb.length / 2) rs g b := by
 refine QN (N := 25) (f := [(0, .agg #[s1, s2, .int .i64 Qd, .bool Qc]), (1, .int .i64 q)]) Tryd.func14 rfl rfl rfl rfl fun Q hQ hE => ?_
 have hB := Below.refl w.heap.size w
 have h1m : Qb.length <= maxLen := by have := h1.len; rwa [List.length_map] at this
 unfold maxLen at h1m
 have h2m : Qa.length <= maxLen := by have := h2.len; rwa [List.length_map] at this
 unfold maxLen at h2m
 refine Sq fun K1 hK1 => (Rg ?_)
 refine Ge (Xa rfl rfl rfl) rfl rfl ?_
 rintro _ W2 ⟨rfl, k3, b4, z5⟩
 have l6 := hB.size
 replace h1 := h1.more b4 (Nat.le_refl _)
 replace h2 := h2.more b4 (Nat.le_refl _)
 replace hB := Qe hB b4
 replace hL := LL.more hL z5
 refine Pu rfl (Pu rfl (Pu rfl (Ni (hK1 (Sq fun K7 hK7 => (Sq fun K8 hK8 => (Rg ?_)))))))
 refine Va (Qg rfl Qf rfl k3.range rfl) rfl rfl ?_
 refine Ge (QQ rfl Tryd.func32 rfl rfl rfl (Km Qb Qa Qd Qc _ _ W2 _ hL h1 h2)) rfl rfl ?_
 rintro _ W10 ⟨rfl, b9⟩
 replace h1 := h1.below b9
 replace h2 := h2.below b9
 replace k3 := k3.below b9
 replace hB := Qe hB b9
 replace hL := LL.below hL b9
 refine Va (Xl rfl rfl rfl) rfl rfl (Pu rfl ?_)
 refine WL.split 10 rfl (fun g11 => ?_) (fun g11 => ?_)
 .
  replace g11 := Q4 g11
  replace g11 := dF g11
  refine Of rfl (Of rfl (Of rfl (Of rfl (Of rfl (Of rfl (Pu rfl (Ni ?_)))))))
  refine hK8 (WC.condT rfl (Sq fun K12 hK12 => (Rg (Pu rfl (Pu rfl (Pu rfl (Ni ?_)))))))
  refine hK12 ?_
  exact WC.ret fun a_ ha_ => hQ (Xh rfl (.tmp rfl) (.tmp rfl) (.tmp rfl) ⟨[], _, 0, false, rfl, QD.nil (by decide), (fun r hr => by cases hr), (fun r hr => by cases hr), fun h => (by cases h), fun _ => ⟨by unfold Ye; rw [if_pos (by first | omega | (simp_all; done))], rfl, rfl⟩⟩ hB ha_)
 .
  replace g11 := Q2 g11
  replace g11 := dT g11
  refine Pu rfl (Va (Xl rfl rfl rfl) rfl rfl (Pu rfl ?_))
  refine WL.split 13 rfl (fun g13 => ?_) (fun g13 => ?_)
  .
   replace g13 := Q4 g13
   replace g13 := dF g13
   refine Pu rfl (Va (Xl rfl rfl rfl) rfl rfl (Pu rfl (Pu rfl (Ni (hK8 ?_)))))
   refine WC.cond rfl (fun c14 => ?_) (fun c14 => ?_)
   .
    replace c14 := Q4 c14
    replace c14 := dF c14
    refine Sq fun K15 hK15 => (Rg (Pu rfl (Pu rfl (Pu rfl (Ni (hK15 ?_))))))
    exact WC.ret fun a_ ha_ => hQ (Xh rfl (.tmp rfl) (.tmp rfl) (.tmp rfl) ⟨[], _, 0, false, rfl, QD.nil (by decide), (fun r hr => by cases hr), (fun r hr => by cases hr), fun h => (by cases h), fun _ => ⟨by unfold Ye; rw [if_pos (by first | omega | (simp_all; done))], rfl, rfl⟩⟩ hB ha_)
   .
    replace c14 := Q2 c14
    replace c14 := dT c14
    refine WC.skip (hK7 (Sq fun K16 hK16 => ?_))
    obtain ⟨hr1, hr2, hr3, hr4⟩ := Un (Qb := Qb) (Qa := Qa) (Qc := Qc) (by first | assumption | omega)
    have hq : q = 0 \/ q = 1 := by omega
    refine Rg (Va (Qg rfl Qf rfl k3.range rfl) rfl rfl (Pu rfl ?_))
    refine Ge (QQ rfl Tryd.func38 rfl rfl rfl (Kh Qb Qa Qd Qc _ _ q W10 _ hL h1 h2 hq (by omega))) rfl rfl ?_
    rintro _ W18 ⟨rfl, b17⟩
    replace h1 := h1.below b17
    replace h2 := h2.below b17
    replace hB := Qe hB b17
    replace hL := LL.below hL b17
    refine Ge (QQ rfl Tryd.func39 rfl rfl rfl (Qb1 Qb Qa Qd Qc _ _ q _ rfl _ rfl W18 _ hL h1 h2 hq (by omega) hbd (hT.below hB))) rfl rfl ?_
    rintro _ W20 ⟨⟨rs, lv, g, hb_, rfl, h3, hrs, hrb, hhu⟩, b19⟩
    replace hB := Qe hB b19
    refine Pu rfl (Pu rfl (Pu rfl (Pu rfl (Pu rfl (Pu rfl (Ni (hK16 ?_)))))))
    exact WC.ret fun a_ ha_ => hQ (Xh rfl (.tmp rfl) (.tmp rfl) (.tmp rfl) ⟨rs, lv, g, hb_, rfl, (h3.less (fun x hx => (.tail _ hx))), (hrs.less (fun x hx => (.tail _ hx))), hrb, by unfold Ye; rw [if_neg (by first | omega | (simp_all; done))]; exact hhu⟩ hB ha_)
  .
   replace g13 := Q2 g13
   replace g13 := dT g13
   refine Of rfl (Of rfl (Pu rfl (Pu rfl (Ni (hK8 (WC.condF rfl (WC.skip ?_)))))))
   refine hK7 (Sq fun K21 hK21 => ?_)
   obtain ⟨hr1, hr2, hr3, hr4⟩ := Un (Qb := Qb) (Qa := Qa) (Qc := Qc) (by first | assumption | omega)
   have hq : q = 0 \/ q = 1 := by omega
   refine Rg (Va (Qg rfl Qf rfl k3.range rfl) rfl rfl (Pu rfl ?_))
   refine Ge (QQ rfl Tryd.func38 rfl rfl rfl (Kh Qb Qa Qd Qc _ _ q W10 _ hL h1 h2 hq (by omega))) rfl rfl ?_
   rintro _ W23 ⟨rfl, b22⟩
   replace h1 := h1.below b22
   replace h2 := h2.below b22
   replace hB := Qe hB b22
   replace hL := LL.below hL b22
   refine Ge (QQ rfl Tryd.func39 rfl rfl rfl (Qb1 Qb Qa Qd Qc _ _ q _ rfl _ rfl W23 _ hL h1 h2 hq (by omega) hbd (hT.below hB))) rfl rfl ?_
   rintro _ W25 ⟨⟨rs, lv, g, hb_, rfl, h3, hrs, hrb, hhu⟩, b24⟩
   replace hB := Qe hB b24
   refine Pu rfl (Pu rfl (Pu rfl (Pu rfl (Pu rfl (Pu rfl (Ni (hK21 ?_)))))))
   exact WC.ret fun a_ ha_ => hQ (Xh rfl (.tmp rfl) (.tmp rfl) (.tmp rfl) ⟨rs, lv, g, hb_, rfl, (h3.less (fun x hx => (.tail _ hx))), (hrs.less (fun x hx => (.tail _ hx))), hrb, by unfold Ye; rw [if_neg (by first | omega | (simp_all; done))]; exact hhu⟩ hB ha_)

theorem Ja {r : List Int} (h : r.length <= 4096) : ZD (r.length : Int) = (Z2 r : Int) := by
 unfold ZD Z2
 rw [if_neg (show ¬ ((r.length : Int) < 0 \/ 4096 < (r.length : Int)) by omega)]
 split <;> split <;> omega
def YA (Qb : List (List Int)) (Qa : List (Int × List Int)) (Qd : Int) (Qc : Bool) : DO × Int × Int × Int :=
 if ¬ Xg Qb Qa Qc = 0 then (⟨Qb, Qa, Qd, Qc, Xg Qb Qa Qc⟩, 0, 0, 0) else QC Qb Qa Qd Qc 0 []
def Eh : Option (List (List Int) × Int × Nat) -> Option (List (List Int) × Int × Nat) -> Option (List (List Int) × Int)
 | none, none => none
 | some a, none => some (a.1, 1)
 | none, some b => some (b.1, 0)
 | some a, some b => if a.2.1 < b.2.1 then some (b.1, 0) else some (a.1, 1)
def JA (Qb : List (List Int)) (Qa : List (Int × List Int)) (Qc : Bool) : Option (List (List Int) × Int) := Eh (Ye Qb Qa Qc 0) (Ye Qb Qa Qc 1)
def YO (Qb : List (List Int)) (Qa : List (Int × List Int)) (Qd : Int) (Qc : Bool) : (DO × Int × Int × Int) × List (List Int) :=
 if ¬ Xg Qb Qa Qc = 0 then ((⟨Qb, Qa, Qd, Qc, Xg Qb Qa Qc⟩, 0, 0, 0), [])
 else match JA Qb Qa Qc with
  | none => ((⟨Qb, Qa, Qd, Qc, 20⟩, 0, 0, 0), [])
  | some (l, q) => if (QC Qb Qa Qd Qc q l).1.err = 0 then (QC Qb Qa Qd Qc q l, l) else (QC Qb Qa Qd Qc q l, [])
def Qdg (Qb : List (List Int)) (Qa : List (Int × List Int)) (Qd : Int) (Qc : Bool) (half gen used : Int) (rec : List Int) : DO := Xx (XQ Qb Qa Qd Qc) (X0 (Q9 (XQ Qb Qa Qd Qc) (half * ((Qb.length : Int) / 2)) (Xw gen used rec)))
def X5 (Qb : List (List Int)) (Qa : List (Int × List Int)) (Qd : Int) (Qc : Bool) (half gen used : Int) (rec : List Int) : DO × Int × Int × Int :=
 if ¬ Xg Qb Qa Qc = 0 then (⟨Qb, Qa, Qd, Qc, Xg Qb Qa Qc⟩, half, gen, used)
 else if ¬ ZS (Qb.length : Int) half gen used = 0 then (⟨Qb, Qa, Qd, Qc, ZS (Qb.length : Int) half gen used⟩, half, gen, used)
 else if 4096 < rec.length then (⟨Qb, Qa, Qd, Qc, 3⟩, half, gen, used)
 else if (Qb.length : Int) / 2 < used + ZD (rec.length : Int) then (⟨Qb, Qa, Qd, Qc, 10⟩, half, gen, used)
 else if (Qdg Qb Qa Qd Qc half gen used rec).err = 0 then (Qdg Qb Qa Qd Qc half gen used rec, half, gen, used + ZD (rec.length : Int))
 else (Qdg Qb Qa Qd Qc half gen used rec, half, gen, used)
def G6 (l : List (List Int)) : Bool := l.any fun r => decide (4096 < r.length)
def Qy (Qb : List (List Int)) (Qa : List (Int × List Int)) (Qd : Int) (Qc : Bool) (half gen used : Int) (l : List (List Int)) : DO × Int × Int × Int :=
 if ¬ Xg Qb Qa Qc = 0 then (⟨Qb, Qa, Qd, Qc, Xg Qb Qa Qc⟩, half, gen, used)
 else if ¬ ZS (Qb.length : Int) half gen used = 0 then (⟨Qb, Qa, Qd, Qc, ZS (Qb.length : Int) half gen used⟩, half, gen, used)
 else if G6 l = true then (⟨Qb, Qa, Qd, Qc, 3⟩, half, gen, used)
 else if (Qb.length : Int) / 2 < 1 + (Qz l : Int) then (⟨Qb, Qa, Qd, Qc, 10⟩, half, gen, used)
 else if (QC Qb Qa Qd Qc (1 - half) l).1.err = 0 then QC Qb Qa Qd Qc (1 - half) l
 else ((QC Qb Qa Qd Qc (1 - half) l).1, half, gen, used)
section
variable {Qb : List (List Int)} {Qa : List (Int × List Int)} {Qd : Int} {Qc : Bool}
theorem Qa9 (h : ¬ Xg Qb Qa Qc = 0) : YA Qb Qa Qd Qc = (⟨Qb, Qa, Qd, Qc, Xg Qb Qa Qc⟩, 0, 0, 0) := if_pos h
theorem HQ (h : Xg Qb Qa Qc = 0) : YA Qb Qa Qd Qc = QC Qb Qa Qd Qc 0 [] := if_neg (fun q => q h)
theorem QdS (h : ¬ Xg Qb Qa Qc = 0) : YO Qb Qa Qd Qc = ((⟨Qb, Qa, Qd, Qc, Xg Qb Qa Qc⟩, 0, 0, 0), []) := if_pos h
theorem DX (h : Xg Qb Qa Qc = 0) (hb : JA Qb Qa Qc = none) : YO Qb Qa Qd Qc = ((⟨Qb, Qa, Qd, Qc, 20⟩, 0, 0, 0), []) := by unfold YO; rw [if_neg (fun q => q h), hb]
theorem J8 {l : List (List Int)} {q : Int} (h : Xg Qb Qa Qc = 0) (hb : JA Qb Qa Qc = some (l, q)) (he : (QC Qb Qa Qd Qc q l).1.err = 0) : YO Qb Qa Qd Qc = (QC Qb Qa Qd Qc q l, l) := by unfold YO; rw [if_neg (fun q => q h), hb]; exact if_pos he
theorem Gc {l : List (List Int)} {q : Int} (h : Xg Qb Qa Qc = 0) (hb : JA Qb Qa Qc = some (l, q)) (he : ¬ (QC Qb Qa Qd Qc q l).1.err = 0) : YO Qb Qa Qd Qc = (QC Qb Qa Qd Qc q l, []) := by unfold YO; rw [if_neg (fun q => q h), hb]; exact if_neg he
end
theorem Jf {Qb : List (List Int)} {Qa : List (Int × List Int)} {Qd : Int} {Qc : Bool} {q : Int} {l : List (List Int)} (h : ¬ (QC Qb Qa Qd Qc q l).1.err = 0) : (QC Qb Qa Qd Qc q l).2 = (0, 0, 0) := by
  unfold QC at h ⊢
  split
  . rfl
  . rename_i h1
    rw [if_neg h1] at h
    split
    . rename_i h2
      rw [if_pos h2] at h
      exact absurd h2 h
    . rfl
theorem JC.cnt {x : Option (List (List Int) × Int × Nat)} {sz : Nat} {rs : List U6} {g : Int} {b : Bool} (h : JC x sz rs g b) : Qz (rs.map Prod.fst) <= sz := by
 cases b with
 | false => rw [(h.2 rfl).2.1]; exact Nat.zero_le _
 | true => obtain ⟨u, _, h1, h2⟩ := h.1 rfl; omega
set_option maxHeartbeats 1000000 in
theorem QcM (Qb : List (List Int)) (Qa : List (Int × List Int)) (Qd : Int) (Qc : Bool) (s1 s2 : Value) (w : World) (L : List Nat) (hL : LL L w) (h1 : QD 128 L w s1 (Qb.map Qr)) (h2 : QD 129 L w s2 (Qa.map QG))  (hfu : -9223372036854775808 <= Qd /\ Qd <= 9223372036854775807) (hbd : YL Qb Qa) (hT : ZM w) : CV Tryd.prog 20 [.agg #[s1, s2, .int .i64 Qd, .bool Qc]] w fun v W => ∃ t1 t2, v = .tuple #[.agg #[t1, t2, .int .i64 (YA Qb Qa Qd Qc).1.Qd, .bool (YA Qb Qa Qd Qc).1.Qc], .agg #[.int .i64 (YA Qb Qa Qd Qc).2.1, .int .i64 (YA Qb Qa Qd Qc).2.2.1, .int .i64 (YA Qb Qa Qd Qc).2.2.2], .int .i64 (YA Qb Qa Qd Qc).1.err] /\ QD 128 L W t1 ((YA Qb Qa Qd Qc).1.Qb.map Qr) /\ QD 129 L W t2 ((YA Qb Qa Qd Qc).1.Qa.map QG) := by
 refine QN (N := 18) (f := [(0, .agg #[s1, s2, .int .i64 Qd, .bool Qc])]) Tryd.func20 rfl rfl rfl rfl fun Q hQ hE => ?_
 have hB := Below.refl w.heap.size w
 have h1m : Qb.length <= maxLen := by have := h1.len; rwa [List.length_map] at this
 unfold maxLen at h1m
 have h2m : Qa.length <= maxLen := by have := h2.len; rwa [List.length_map] at this
 unfold maxLen at h2m
 refine Sq fun K1 hK1 => (Rg ?_)
 refine Ge (Xa rfl rfl rfl) rfl rfl ?_
 rintro _ W2 ⟨rfl, k3, b4, z5⟩
 have l6 := hB.size
 replace h1 := h1.more b4 (Nat.le_refl _)
 replace h2 := h2.more b4 (Nat.le_refl _)
 replace hB := Qe hB b4
 replace hL := LL.more hL z5
 refine Ge (Qu rfl QV rfl) rfl rfl ?_
 rintro _ W7 ⟨rfl, k8, b9, z10⟩
 have l12 := hB.size
 replace h1 := h1.more b9 (Nat.le_refl _)
 replace h2 := h2.more b9 (Nat.le_refl _)
 replace k3 := k3.below b9
 replace hB := Qe hB b9
 replace hL := LL.more hL z10
 refine Ge (Qu rfl Xv rfl) rfl rfl ?_
 rintro _ W13 ⟨rfl, k14, b15, z16⟩
 have n18 : W2.heap.size ≠ W7.heap.size := Nat.ne_of_lt k8.lt
 have l19 := hB.size
 replace h1 := h1.more b15 (Nat.le_refl _)
 replace h2 := h2.more b15 (Nat.le_refl _)
 replace k3 := k3.below b15
 replace k8 := k8.below b15
 replace hB := Qe hB b15
 replace hL := LL.more hL z16
 refine Pu rfl (Ni (hK1 (Sq fun K20 hK20 => (Sq fun K21 hK21 => (Rg (Va (Qg rfl Qf rfl k3.range rfl) rfl rfl ?_))))))
 refine Ge (QQ rfl Tryd.func32 rfl rfl rfl (Km Qb Qa Qd Qc _ _ W13 _ hL h1 h2)) rfl rfl ?_
 rintro _ W23 ⟨rfl, b22⟩
 replace h1 := h1.below b22
 replace h2 := h2.below b22
 replace k3 := k3.below b22
 replace k8 := k8.below b22
 replace k14 := k14.below b22
 replace hB := Qe hB b22
 replace hL := LL.below hL b22
 refine Pu rfl (Ni (hK21 (Sq fun K24 hK24 => (Rg (Pu rfl (Va (Xl rfl rfl rfl) rfl rfl (Ni ?_)))))))
 refine hK24 ?_
 refine WC.cond rfl (fun c25 => ?_) (fun c25 => ?_)
 .
  replace c25 := Q4 c25
  replace c25 := dF c25
  refine Sq fun K26 hK26 => (Rg (Va (Qg rfl Qf rfl k3.range rfl) rfl rfl (Va (QS rfl rfl (Xi (cs := [.int .i64 0, .int .i64 0, .int .i64 0]) (by kernel_rfl) Qk)) rfl rfl (Pu rfl ?_))))
  refine WL.do (Qh (cs' := [s1, s2, .int .i64 Qd, .bool Qc]) (vs := [s1, s2, .int .i64 Qd, .bool Qc]) rfl Qj rfl rfl rfl (oC h1.one (oC h2.one (oC rfl (oC rfl Qk)))) k8 rfl (nB rfl) rfl) rfl ?_
  rintro _ W27 ⟨k29, o28⟩
  replace k14 := k14.other o28 n18.symm
  clear k8
  replace h1 := h1.only o28 (.tail _ (.head _))
  replace h2 := h2.only o28 (.tail _ (.head _))
  replace hB := o28.below hB l12
  refine WL.do (Qh (cs' := [.int .i64 0, .int .i64 0, .int .i64 0]) (vs := [.int .i64 0, .int .i64 0, .int .i64 0]) rfl Qs rfl rfl rfl (oC rfl (oC rfl (oC rfl Qk))) k14 rfl (nB rfl) rfl) rfl ?_
  rintro _ W30 ⟨k32, o31⟩
  replace k29 := k29.other o31 n18
  clear k14
  replace h1 := h1.only o31 (.head _)
  replace h2 := h2.only o31 (.head _)
  replace hB := o31.below hB l19
  refine Pu rfl (Ni (hK26 ?_))
  exact WC.ret fun a_ ha_ => hQ (Xh rfl (.agg rfl Qf k29.range rfl) (.agg rfl Qq k32.range rfl) (.tmp rfl) (by rw [Qa9 (by first | assumption | omega)]; exact ⟨_, _, rfl, (h1.less (fun x hx => (.tail _ (.tail _ (.tail _ hx))))), (h2.less (fun x hx => (.tail _ (.tail _ (.tail _ hx)))))⟩) hB ha_)
 .
  replace c25 := Q2 c25
  replace c25 := dT c25
  refine WC.skip (hK20 (Sq fun K33 hK33 => ?_))
  obtain ⟨hr1, hr2, hr3, hr4⟩ := Un (Qb := Qb) (Qa := Qa) (Qc := Qc) (by first | assumption | omega)
  refine Rg (Va (Qg rfl Qf rfl k3.range rfl) rfl rfl ?_)
  refine Ge (QQ rfl Tryd.func33 rfl rfl rfl (HO Qb Qa Qd Qc _ _ 0 [] (.slice none 0 0) W23 _ hL h1 h2 (QD.nil (by decide)) (fun r hr => by cases hr) hfu (.inl rfl) (by omega) hbd (fun r hr => by cases hr) (Nat.zero_le _) (hT.below hB))) rfl rfl ?_
  rintro _ W35 ⟨⟨a1, a2, rfl, ag1, ag2⟩, b34⟩
  replace k8 := k8.below b34
  replace k14 := k14.below b34
  replace hB := Qe hB b34
  refine Pu rfl (Pu rfl (Pu rfl ?_))
  refine WL.do (Qh (cs' := [a1, a2, .int .i64 ((QC Qb Qa Qd Qc 0 []).1.Qd), .bool ((QC Qb Qa Qd Qc 0 []).1.Qc)]) (vs := [a1, a2, .int .i64 ((QC Qb Qa Qd Qc 0 []).1.Qd), .bool ((QC Qb Qa Qd Qc 0 []).1.Qc)]) rfl Qj rfl rfl rfl (oC ag1.one (oC ag2.one (oC rfl (oC rfl Qk)))) k8 rfl (nB rfl) rfl) rfl ?_
  rintro _ W36 ⟨k38, o37⟩
  replace k14 := k14.other o37 n18.symm
  clear k8
  replace ag1 := ag1.only o37 (.tail _ (.head _))
  replace ag2 := ag2.only o37 (.tail _ (.head _))
  replace hB := o37.below hB l12
  refine WL.do (Qh (cs' := [.int .i64 ((QC Qb Qa Qd Qc 0 []).2.1), .int .i64 ((QC Qb Qa Qd Qc 0 []).2.2.1), .int .i64 ((QC Qb Qa Qd Qc 0 []).2.2.2)]) (vs := [.int .i64 ((QC Qb Qa Qd Qc 0 []).2.1), .int .i64 ((QC Qb Qa Qd Qc 0 []).2.2.1), .int .i64 ((QC Qb Qa Qd Qc 0 []).2.2.2)]) rfl Qs rfl rfl rfl (oC rfl (oC rfl (oC rfl Qk))) k14 rfl (nB rfl) rfl) rfl ?_
  rintro _ W39 ⟨k41, o40⟩
  replace k38 := k38.other o40 n18
  clear k14
  replace ag1 := ag1.only o40 (.head _)
  replace ag2 := ag2.only o40 (.head _)
  replace hB := o40.below hB l19
  refine Pu rfl (Ni (hK33 ?_))
  exact WC.ret fun a_ ha_ => hQ (Xh rfl (.agg rfl Qf k38.range rfl) (.agg rfl Qq k41.range rfl) (.tmp rfl) (by rw [HQ (by first | assumption | omega)]; exact ⟨_, _, rfl, (ag1.less (fun x hx => (.tail _ (.tail _ (.tail _ hx))))), (ag2.less (fun x hx => (.tail _ (.tail _ (.tail _ hx)))))⟩) hB ha_)

section
variable {x0 x1 : Option (List (List Int) × Int × Nat)} {n : Nat} {rs0 rs1 : List U6} {g0 g1 : Int} {b0 b1 : Bool}
theorem Qcg (h0 : JC x0 n rs0 g0 b0) (h1 : JC x1 n rs1 g1 b1) (hc : b1 = true /\ (b0 = false \/ g0 < g1)) : Eh x0 x1 = some (rs1.map Prod.fst, 0) := by
 obtain ⟨u1, e1, _⟩ := h1.1 hc.1
 cases b0 with
 | false => rw [(h0.2 rfl).1, e1]; rfl
 | true =>
  obtain ⟨u0, e0, _⟩ := h0.1 rfl
  rw [e0, e1]
  exact if_pos (hc.2.resolve_left (by decide))
theorem Qch (h0 : JC x0 n rs0 g0 b0) (h1 : JC x1 n rs1 g1 b1) (hc : ¬ (b1 = true /\ (b0 = false \/ g0 < g1))) (hb : b0 = true) : Eh x0 x1 = some (rs0.map Prod.fst, 1) := by
 subst hb
 obtain ⟨u0, e0, _⟩ := h0.1 rfl
 cases b1 with
 | false => rw [(h1.2 rfl).1, e0]; rfl
 | true =>
  obtain ⟨u1, e1, _⟩ := h1.1 rfl
  rw [e0, e1]
  exact if_neg (fun q => hc ⟨rfl, .inr q⟩)
theorem Qcf (h0 : JC x0 n rs0 g0 b0) (h1 : JC x1 n rs1 g1 b1) (hc : ¬ (b1 = true /\ (b0 = false \/ g0 < g1))) (hb : b0 = false) : Eh x0 x1 = none := by
 subst hb
 have : b1 = false := by
  cases b1
  . rfl
  . exact absurd ⟨rfl, .inl rfl⟩ hc
 subst this
 rw [(h0.2 rfl).1, (h1.2 rfl).1]; rfl
end
theorem QdX {x : Int × Int × Int} {d r : Value} {e : Int} (h : x = (0, 0, 0)) : Value.tuple #[d, .agg #[.int .i64 0, .int .i64 0, .int .i64 0], r, .int .i64 e] = .tuple #[d, .agg #[.int .i64 x.1, .int .i64 x.2.1, .int .i64 x.2.2], r, .int .i64 e] := by rw [h]
theorem Gb {d l r : Value} {e : Int} (h : e = 0) : Value.tuple #[d, l, r, .int .i64 0] = .tuple #[d, l, r, .int .i64 e] := by rw [h]
set_option maxHeartbeats 1000000 in
theorem QeP (Qb : List (List Int)) (Qa : List (Int × List Int)) (Qd : Int) (Qc : Bool) (s1 s2 : Value) (w : World) (L : List Nat) (hL : LL L w) (h1 : QD 128 L w s1 (Qb.map Qr)) (h2 : QD 129 L w s2 (Qa.map QG))  (hfu : -9223372036854775808 <= Qd /\ Qd <= 9223372036854775807) (hbd : YL Qb Qa) (hT : ZM w) : CV Tryd.prog 12 [.agg #[s1, s2, .int .i64 Qd, .bool Qc]] w fun v W => ∃ t1 t2 lv rs, v = .tuple #[.agg #[t1, t2, .int .i64 (YO Qb Qa Qd Qc).1.1.Qd, .bool (YO Qb Qa Qd Qc).1.1.Qc], .agg #[.int .i64 (YO Qb Qa Qd Qc).1.2.1, .int .i64 (YO Qb Qa Qd Qc).1.2.2.1, .int .i64 (YO Qb Qa Qd Qc).1.2.2.2], lv, .int .i64 (YO Qb Qa Qd Qc).1.1.err] /\ QD 128 L W t1 ((YO Qb Qa Qd Qc).1.1.Qb.map Qr) /\ QD 129 L W t2 ((YO Qb Qa Qd Qc).1.1.Qa.map QG) /\ QD 1 L W lv (rs.map YV) /\ Ya L W rs /\ (∀ r ∈ rs, Z0 r.1 /\ r.1.length <= 1000000) /\ rs.map Prod.fst = (YO Qb Qa Qd Qc).2 := by
 refine QN (N := 67) (f := [(0, .agg #[s1, s2, .int .i64 Qd, .bool Qc])]) Tryd.func12 rfl rfl rfl rfl fun Q hQ hE => ?_
 have hB := Below.refl w.heap.size w
 have h1m : Qb.length <= maxLen := by have := h1.len; rwa [List.length_map] at this
 unfold maxLen at h1m
 have h2m : Qa.length <= maxLen := by have := h2.len; rwa [List.length_map] at this
 unfold maxLen at h2m
 refine Sq fun K1 hK1 => (Rg ?_)
 refine Ge (Xa rfl rfl rfl) rfl rfl ?_
 rintro _ W2 ⟨rfl, k3, b4, z5⟩
 have l6 := hB.size
 replace h1 := h1.more b4 (Nat.le_refl _)
 replace h2 := h2.more b4 (Nat.le_refl _)
 replace hB := Qe hB b4
 replace hL := LL.more hL z5
 refine Ge (Qu rfl QV rfl) rfl rfl ?_
 rintro _ W7 ⟨rfl, k8, b9, z10⟩
 have n11 : w.heap.size ≠ W2.heap.size := Nat.ne_of_lt k3.lt
 have l12 := hB.size
 replace h1 := h1.more b9 (Nat.le_refl _)
 replace h2 := h2.more b9 (Nat.le_refl _)
 replace k3 := k3.below b9
 replace hB := Qe hB b9
 replace hL := LL.more hL z10
 refine Ge (Qu rfl Xv rfl) rfl rfl ?_
 rintro _ W13 ⟨rfl, k14, b15, z16⟩
 have n17 : w.heap.size ≠ W7.heap.size := Nat.ne_of_lt k3.lt
 have n18 : W2.heap.size ≠ W7.heap.size := Nat.ne_of_lt k8.lt
 have l19 := hB.size
 replace h1 := h1.more b15 (Nat.le_refl _)
 replace h2 := h2.more b15 (Nat.le_refl _)
 replace k3 := k3.below b15
 replace k8 := k8.below b15
 replace hB := Qe hB b15
 replace hL := LL.more hL z16
 refine Pu rfl (Pu rfl (Ni (hK1 (Sq fun K20 hK20 => (Sq fun K21 hK21 => (Rg (Va (Qg rfl Qf rfl k3.range rfl) rfl rfl ?_)))))))
 refine Ge (QQ rfl Tryd.func32 rfl rfl rfl (Km Qb Qa Qd Qc _ _ W13 _ hL h1 h2)) rfl rfl ?_
 rintro _ W23 ⟨rfl, b22⟩
 replace h1 := h1.below b22
 replace h2 := h2.below b22
 replace k3 := k3.below b22
 replace k8 := k8.below b22
 replace k14 := k14.below b22
 replace hB := Qe hB b22
 replace hL := LL.below hL b22
 refine Pu rfl (Ni (hK21 (Sq fun K24 hK24 => (Rg (Pu rfl (Va (Xl rfl rfl rfl) rfl rfl (Ni ?_)))))))
 refine hK24 ?_
 refine WC.cond rfl (fun c25 => ?_) (fun c25 => ?_)
 .
  replace c25 := Q4 c25
  replace c25 := dF c25
  refine Sq fun K26 hK26 => (Rg (Va (Qg rfl Qf rfl k3.range rfl) rfl rfl (Va (QS rfl rfl (Xi (cs := [.int .i64 0, .int .i64 0, .int .i64 0]) (by kernel_rfl) Qk)) rfl rfl (Pu rfl ?_))))
  refine WL.do (Qh (cs' := [s1, s2, .int .i64 Qd, .bool Qc]) (vs := [s1, s2, .int .i64 Qd, .bool Qc]) rfl Qj rfl rfl rfl (oC h1.one (oC h2.one (oC rfl (oC rfl Qk)))) k8 rfl (nB rfl) rfl) rfl ?_
  rintro _ W27 ⟨k29, o28⟩
  replace k14 := k14.other o28 n18.symm
  clear k8
  replace h1 := h1.only o28 (.tail _ (.head _))
  replace h2 := h2.only o28 (.tail _ (.head _))
  replace hB := o28.below hB l12
  refine WL.do (Qh (cs' := [.int .i64 0, .int .i64 0, .int .i64 0]) (vs := [.int .i64 0, .int .i64 0, .int .i64 0]) rfl Qs rfl rfl rfl (oC rfl (oC rfl (oC rfl Qk))) k14 rfl (nB rfl) rfl) rfl ?_
  rintro _ W30 ⟨k32, o31⟩
  replace k29 := k29.other o31 n18
  clear k14
  replace h1 := h1.only o31 (.head _)
  replace h2 := h2.only o31 (.head _)
  replace hB := o31.below hB l19
  refine Pu rfl (Pu rfl (Ni (hK26 ?_)))
  exact WC.ret fun a_ ha_ => hQ (YQ rfl (.agg rfl Qf k29.range rfl) (.agg rfl Qq k32.range rfl) (.tmp rfl) (.tmp rfl) (by rw [QdS (by first | assumption | omega)]; exact ⟨_, _, _, [], rfl, (h1.less (fun x hx => (.tail _ (.tail _ (.tail _ hx))))), (h2.less (fun x hx => (.tail _ (.tail _ (.tail _ hx))))), QD.nil (by decide), (fun r hr => by cases hr), (fun r hr => by cases hr), rfl⟩) hB ha_)
 .
  replace c25 := Q2 c25
  replace c25 := dT c25
  refine WC.skip (hK20 (Sq fun K33 hK33 => ?_))
  obtain ⟨hr1, hr2, hr3, hr4⟩ := Un (Qb := Qb) (Qa := Qa) (Qc := Qc) (by first | assumption | omega)
  refine Rg (Va (Qg rfl Qf rfl k3.range rfl) rfl rfl ?_)
  refine Ge (QQ rfl Tryd.func14 rfl rfl rfl (HH Qb Qa Qd Qc _ _ 0 W23 _ hL h1 h2 hbd (hT.below hB))) rfl rfl ?_
  rintro _ W35 ⟨⟨rs0, lv0, gn0, bb0, rfl, hl0, hs0, hy0, hu0⟩, b34⟩
  replace h1 := h1.below b34
  replace h2 := h2.below b34
  replace k3 := k3.below b34
  replace k8 := k8.below b34
  replace k14 := k14.below b34
  replace hB := Qe hB b34
  replace hL := LL.below hL b34
  refine Pu rfl (Pu rfl (Pu rfl (Pu rfl (Pu rfl (Pu rfl (Pu rfl (Ni ?_)))))))
  refine hK33 (Sq fun K36 hK36 => (Rg (Pu rfl (Ni (hK36 (Sq fun K37 hK37 => (Sq fun K38 hK38 => ?_)))))))
  refine Rg (Va (Qg rfl Qf rfl k3.range rfl) rfl rfl ?_)
  refine Ge (QQ rfl Tryd.func14 rfl rfl rfl (HH Qb Qa Qd Qc _ _ 1 W35 _ hL h1 h2 hbd (hT.below hB))) rfl rfl ?_
  rintro _ W40 ⟨⟨rs1, lv1, gn1, bb1, rfl, hl1, hs1, hy1, hu1⟩, b39⟩
  replace h1 := h1.below b39
  replace h2 := h2.below b39
  replace hl0 := hl0.below b39
  replace hs0 := hs0.below b39
  replace k3 := k3.below b39
  replace k8 := k8.below b39
  replace k14 := k14.below b39
  replace hB := Qe hB b39
  replace hL := LL.below hL b39
  refine Pu rfl (Pu rfl (Pu rfl (Pu rfl (Pu rfl (Pu rfl (Pu rfl (Ni ?_)))))))
  refine hK38 (Sq fun K41 hK41 => (Rg (Pu rfl (Pu rfl ?_))))
  refine WL.split 37 rfl (fun g42 => ?_) (fun g42 => ?_)
  .
   refine Pu rfl (Va (XU rfl rfl) rfl rfl (Pu rfl ?_))
   refine WL.split 40 rfl (fun g43 => ?_) (fun g43 => ?_)
   .
    replace g43 := Q4 g43
    replace g43 := ZY g43
    refine Of rfl (Of rfl (Of rfl (Pu rfl (Pu rfl (Ni (hK41 (WC.condT rfl ?_)))))))
    have hpk : JA Qb Qa Qc = some (rs1.map Prod.fst, 0) := Qcg hu0 hu1 (by first | (simp_all; done) | (simp_all; omega))
    refine Rg (Pu rfl (Pu rfl (Pu rfl (Pu rfl (Ni (hK37 (Sq fun K44 hK44 => ?_)))))))
    refine Sq fun K45 hK45 => (Rg (Pu rfl (Va (XU rfl rfl) rfl rfl (Ni (hK45 (WC.condF rfl (WC.skip ?_)))))))
    refine hK44 (Sq fun K46 hK46 => (Rg (Va (Qg rfl Qf rfl k3.range rfl) rfl rfl (Pu rfl (Pu rfl ?_)))))
    refine Ge (QQ rfl Tryd.func33 rfl rfl rfl (HO Qb Qa Qd Qc _ _ 0 rs1 lv1 W40 _ hL h1 h2 hl1 hs1 hfu (.inl rfl) (by omega) hbd hy1 (Nat.le_trans hu1.cnt (by omega)) (hT.below hB))) rfl rfl ?_
    rintro _ W48 ⟨⟨a1, a2, rfl, ag1, ag2⟩, b47⟩
    replace h1 := h1.below b47
    replace h2 := h2.below b47
    replace hl0 := hl0.below b47
    replace hs0 := hs0.below b47
    replace hl1 := hl1.below b47
    replace hs1 := hs1.below b47
    replace k3 := k3.below b47
    replace k8 := k8.below b47
    replace k14 := k14.below b47
    replace hB := Qe hB b47
    replace hL := LL.below hL b47
    refine Pu rfl (Pu rfl (Pu rfl (Pu rfl ?_)))
    refine Ge (Qu rfl QV rfl) rfl rfl ?_
    rintro _ W49 ⟨rfl, k50, b51, z52⟩
    have n53 : w.heap.size ≠ W48.heap.size := Nat.ne_of_lt k3.lt
    have n54 : W2.heap.size ≠ W48.heap.size := Nat.ne_of_lt k8.lt
    have n55 : W7.heap.size ≠ W48.heap.size := Nat.ne_of_lt k14.lt
    have l56 := hB.size
    replace h1 := h1.more b51 (Nat.le_refl _)
    replace h2 := h2.more b51 (Nat.le_refl _)
    replace hl0 := hl0.more b51 (Nat.le_refl _)
    replace hs0 := hs0.more b51 (Nat.le_refl _)
    replace hl1 := hl1.more b51 (Nat.le_refl _)
    replace hs1 := hs1.more b51 (Nat.le_refl _)
    replace ag1 := ag1.more b51 (Nat.le_refl _)
    replace ag2 := ag2.more b51 (Nat.le_refl _)
    replace k3 := k3.below b51
    replace k8 := k8.below b51
    replace k14 := k14.below b51
    replace hB := Qe hB b51
    replace hL := LL.more hL z52
    refine Ge (Qu rfl Xv rfl) rfl rfl ?_
    rintro _ W57 ⟨rfl, k58, b59, z60⟩
    have n61 : w.heap.size ≠ W49.heap.size := Nat.ne_of_lt k3.lt
    have n62 : W2.heap.size ≠ W49.heap.size := Nat.ne_of_lt k8.lt
    have n63 : W7.heap.size ≠ W49.heap.size := Nat.ne_of_lt k14.lt
    have n64 : W48.heap.size ≠ W49.heap.size := Nat.ne_of_lt k50.lt
    have l65 := hB.size
    replace h1 := h1.more b59 (Nat.le_refl _)
    replace h2 := h2.more b59 (Nat.le_refl _)
    replace hl0 := hl0.more b59 (Nat.le_refl _)
    replace hs0 := hs0.more b59 (Nat.le_refl _)
    replace hl1 := hl1.more b59 (Nat.le_refl _)
    replace hs1 := hs1.more b59 (Nat.le_refl _)
    replace ag1 := ag1.more b59 (Nat.le_refl _)
    replace ag2 := ag2.more b59 (Nat.le_refl _)
    replace k3 := k3.below b59
    replace k8 := k8.below b59
    replace k14 := k14.below b59
    replace k50 := k50.below b59
    replace hB := Qe hB b59
    replace hL := LL.more hL z60
    refine WL.do (Qh (cs' := [a1, a2, .int .i64 ((QC Qb Qa Qd Qc 0 (rs1.map Prod.fst)).1.Qd), .bool ((QC Qb Qa Qd Qc 0 (rs1.map Prod.fst)).1.Qc)]) (vs := [a1, a2, .int .i64 ((QC Qb Qa Qd Qc 0 (rs1.map Prod.fst)).1.Qd), .bool ((QC Qb Qa Qd Qc 0 (rs1.map Prod.fst)).1.Qc)]) rfl Qj rfl rfl rfl (oC ag1.one (oC ag2.one (oC rfl (oC rfl Qk)))) k50 rfl (nB rfl) rfl) rfl ?_
    rintro _ W66 ⟨k68, o67⟩
    replace k3 := k3.other o67 n53
    replace k8 := k8.other o67 n54
    replace k14 := k14.other o67 n55
    replace k58 := k58.other o67 n64.symm
    clear k50
    replace h1 := h1.only o67 (.tail _ (.head _))
    replace h2 := h2.only o67 (.tail _ (.head _))
    replace hl0 := hl0.only o67 (.tail _ (.head _))
    replace hs0 := hs0.only o67 (.tail _ (.head _))
    replace hl1 := hl1.only o67 (.tail _ (.head _))
    replace hs1 := hs1.only o67 (.tail _ (.head _))
    replace ag1 := ag1.only o67 (.tail _ (.head _))
    replace ag2 := ag2.only o67 (.tail _ (.head _))
    replace hB := o67.below hB l56
    replace hL := LL.only hL o67
    refine WL.do (Qh (cs' := [.int .i64 ((QC Qb Qa Qd Qc 0 (rs1.map Prod.fst)).2.1), .int .i64 ((QC Qb Qa Qd Qc 0 (rs1.map Prod.fst)).2.2.1), .int .i64 ((QC Qb Qa Qd Qc 0 (rs1.map Prod.fst)).2.2.2)]) (vs := [.int .i64 ((QC Qb Qa Qd Qc 0 (rs1.map Prod.fst)).2.1), .int .i64 ((QC Qb Qa Qd Qc 0 (rs1.map Prod.fst)).2.2.1), .int .i64 ((QC Qb Qa Qd Qc 0 (rs1.map Prod.fst)).2.2.2)]) rfl Qs rfl rfl rfl (oC rfl (oC rfl (oC rfl Qk))) k58 rfl (nB rfl) rfl) rfl ?_
    rintro _ W69 ⟨k71, o70⟩
    replace k3 := k3.other o70 n61
    replace k8 := k8.other o70 n62
    replace k14 := k14.other o70 n63
    replace k68 := k68.other o70 n64
    clear k58
    replace h1 := h1.only o70 (.head _)
    replace h2 := h2.only o70 (.head _)
    replace hl0 := hl0.only o70 (.head _)
    replace hs0 := hs0.only o70 (.head _)
    replace hl1 := hl1.only o70 (.head _)
    replace hs1 := hs1.only o70 (.head _)
    replace ag1 := ag1.only o70 (.head _)
    replace ag2 := ag2.only o70 (.head _)
    replace hB := o70.below hB l65
    replace hL := LL.only hL o70
    refine Pu rfl (Ni (hK46 (Sq fun K72 hK72 => (Sq fun K73 hK73 => (Rg (Pu rfl (Va (Xl rfl rfl rfl) rfl rfl ?_)))))))
    refine Ni (hK73 ?_)
    refine WC.cond rfl (fun c74 => ?_) (fun c74 => ?_)
    .
     replace c74 := Q4 c74
     replace c74 := dF c74
     refine Sq fun K75 hK75 => (Rg (Va (Qg rfl Qf rfl k68.range rfl) rfl rfl (Va (QS rfl rfl (Xi (cs := [.int .i64 0, .int .i64 0, .int .i64 0]) (by kernel_rfl) Qk)) rfl rfl (Pu rfl ?_))))
     refine WL.do (Qh (cs' := [a1, a2, .int .i64 ((QC Qb Qa Qd Qc 0 (rs1.map Prod.fst)).1.Qd), .bool ((QC Qb Qa Qd Qc 0 (rs1.map Prod.fst)).1.Qc)]) (vs := [a1, a2, .int .i64 ((QC Qb Qa Qd Qc 0 (rs1.map Prod.fst)).1.Qd), .bool ((QC Qb Qa Qd Qc 0 (rs1.map Prod.fst)).1.Qc)]) rfl Qj rfl rfl rfl (oC ag1.one (oC ag2.one (oC rfl (oC rfl Qk)))) k8 rfl (nB rfl) rfl) rfl ?_
     rintro _ W76 ⟨k78, o77⟩
     replace k14 := k14.other o77 n18.symm
     clear k8
     replace ag1 := ag1.only o77 (.tail _ (.tail _ (.tail _ (.head _))))
     replace ag2 := ag2.only o77 (.tail _ (.tail _ (.tail _ (.head _))))
     replace hB := o77.below hB l12
     refine WL.do (Qh (cs' := [.int .i64 0, .int .i64 0, .int .i64 0]) (vs := [.int .i64 0, .int .i64 0, .int .i64 0]) rfl Qs rfl rfl rfl (oC rfl (oC rfl (oC rfl Qk))) k14 rfl (nB rfl) rfl) rfl ?_
     rintro _ W79 ⟨k81, o80⟩
     replace k78 := k78.other o80 n18
     clear k14
     replace ag1 := ag1.only o80 (.tail _ (.tail _ (.head _)))
     replace ag2 := ag2.only o80 (.tail _ (.tail _ (.head _)))
     replace hB := o80.below hB l19
     refine Pu rfl (Pu rfl (Ni (hK75 ?_)))
     exact WC.ret fun a_ ha_ => hQ (YQ rfl (.agg rfl Qf k78.range rfl) (.agg rfl Qq k81.range rfl) (.tmp rfl) (.tmp rfl) (by rw [Gc (by first | assumption | omega) hpk (by assumption)]; exact ⟨_, _, _, [], QdX (Jf (by assumption)), (ag1.less (fun x hx => (.tail _ (.tail _ (.tail _ (.tail _ (.tail _ hx))))))), (ag2.less (fun x hx => (.tail _ (.tail _ (.tail _ (.tail _ (.tail _ hx))))))), QD.nil (by decide), (fun r hr => by cases hr), (fun r hr => by cases hr), rfl⟩) hB ha_)
    .
     replace c74 := Q2 c74
     replace c74 := dT c74
     refine WC.skip (hK72 (Sq fun K82 hK82 => ?_))
     refine WC.drawC 5 [(3, W2.heap.size, [.slice none 0 0, .slice none 0 0, .int .i64 0, .bool false], fun cs_ _ => cs_ = [a1, a2, .int .i64 ((QC Qb Qa Qd Qc 0 (rs1.map Prod.fst)).1.Qd), .bool ((QC Qb Qa Qd Qc 0 (rs1.map Prod.fst)).1.Qc)]), (4, W7.heap.size, [.int .i64 0, .int .i64 0, .int .i64 0], fun cs_ _ => cs_ = [.int .i64 ((QC Qb Qa Qd Qc 0 (rs1.map Prod.fst)).2.1), .int .i64 ((QC Qb Qa Qd Qc 0 (rs1.map Prod.fst)).2.2.1), .int .i64 ((QC Qb Qa Qd Qc 0 (rs1.map Prod.fst)).2.2.2)])] [(some 64, .is (.agg #[a1, a2, .int .i64 ((QC Qb Qa Qd Qc 0 (rs1.map Prod.fst)).1.Qd), .bool ((QC Qb Qa Qd Qc 0 (rs1.map Prod.fst)).1.Qc)])), (some 65, .is (.agg #[.int .i64 ((QC Qb Qa Qd Qc 0 (rs1.map Prod.fst)).2.1), .int .i64 ((QC Qb Qa Qd Qc 0 (rs1.map Prod.fst)).2.2.1), .int .i64 ((QC Qb Qa Qd Qc 0 (rs1.map Prod.fst)).2.2.2)])), (some 66, .is (lv1)), (none, .by fun _ _ => True), (none, .by fun _ _ => True)] [[], [], [], [0, 0], [1, 3, 0, 1, 3]] ⟨fun _ _ _ _ h => h, fun _ _ _ _ h => h, trivial⟩ (mB ⟨fun _ _ _ _ h => h, fun _ _ _ _ h => h, trivial⟩ ⟨fun _ _ _ _ h => h, fun _ _ _ _ h => h, trivial⟩) ⟨fun x hx => (by simp only [List.mem_cons, List.not_mem_nil, or_false] at hx; subst hx; exact ⟨(show ¬ ((4 : Nat) = 3) by decide), n18.symm⟩), ⟨fun x hx => (by cases hx), trivial⟩⟩ (Xo (mB ⟨_, rfl⟩ ⟨_, rfl⟩)) (mB k8 k14) ?_ ?_
     .
      refine Ql.cons rfl (fun Wd hd hbs_ => ?_) ?_
      .
       have k68 := k68.chgM hd (by simp only [List.map_cons, List.map_nil, List.mem_cons, List.not_mem_nil, or_false, not_or]; exact ⟨n54.symm, n55.symm⟩)
       exact Dd (Qg rfl Qf rfl k68.range rfl) rfl
      refine Ql.cons rfl (fun Wd hd hbs_ => ?_) ?_
      .
       have k71 := k71.chgM hd (by simp only [List.map_cons, List.map_nil, List.mem_cons, List.not_mem_nil, or_false, not_or]; exact ⟨n62.symm, n63.symm⟩)
       exact Dd (Qg rfl Qq rfl k71.range rfl) rfl
      refine Ql.cons rfl (fun Wd hd hbs_ => ?_) ?_
      .
       exact Dd (Qt rfl rfl) rfl
      refine Ql.hit rfl (fun Wd hd hb_ => ?_) ?_
      .
       have ag1 := ag1.chgM hd (mB (.tail _ (.tail _ (.tail _ (.head _)))) (.tail _ (.tail _ (.head _))))
       have ag2 := ag2.chgM hd (mB (.tail _ (.tail _ (.tail _ (.head _)))) (.tail _ (.tail _ (.head _))))
       exact (Qx (vs := [a1, a2, .int .i64 ((QC Qb Qa Qd Qc 0 (rs1.map Prod.fst)).1.Qd), .bool ((QC Qb Qa Qd Qc 0 (rs1.map Prod.fst)).1.Qc)]) rfl Qj rfl rfl rfl (oC ag1.one (oC ag2.one (oC rfl (oC rfl Qk)))) hb_ rfl rfl).mono (fun _ W' h => ⟨h.2, Xj.is h.1, trivial⟩)
      refine Ql.hit rfl (fun Wd hd hb_ => ?_) ?_
      .
       intro u14_3 p14_3 u14_3 p14_3
       exact (Qx (vs := [.int .i64 ((QC Qb Qa Qd Qc 0 (rs1.map Prod.fst)).2.1), .int .i64 ((QC Qb Qa Qd Qc 0 (rs1.map Prod.fst)).2.2.1), .int .i64 ((QC Qb Qa Qd Qc 0 (rs1.map Prod.fst)).2.2.2)]) rfl Qs rfl rfl rfl (oC rfl (oC rfl (oC rfl Qk))) hb_ rfl rfl).mono (fun _ W' h => ⟨h.2, Xj.is h.1, trivial⟩)
      exact trivial
     .
      intro W83 hd hq_
      replace h1 := h1.chgM hd (mB (.tail _ (.tail _ (.tail _ (.head _)))) (.tail _ (.tail _ (.head _))))
      replace h2 := h2.chgM hd (mB (.tail _ (.tail _ (.tail _ (.head _)))) (.tail _ (.tail _ (.head _))))
      replace hl0 := hl0.chgM hd (mB (.tail _ (.tail _ (.tail _ (.head _)))) (.tail _ (.tail _ (.head _))))
      replace hs0 := hs0.chgM hd (mB (.tail _ (.tail _ (.tail _ (.head _)))) (.tail _ (.tail _ (.head _))))
      replace hl1 := hl1.chgM hd (mB (.tail _ (.tail _ (.tail _ (.head _)))) (.tail _ (.tail _ (.head _))))
      replace hs1 := hs1.chgM hd (mB (.tail _ (.tail _ (.tail _ (.head _)))) (.tail _ (.tail _ (.head _))))
      replace ag1 := ag1.chgM hd (mB (.tail _ (.tail _ (.tail _ (.head _)))) (.tail _ (.tail _ (.head _))))
      replace ag2 := ag2.chgM hd (mB (.tail _ (.tail _ (.tail _ (.head _)))) (.tail _ (.tail _ (.head _))))
      replace k3 := k3.chgM hd (by simp only [List.map_cons, List.map_nil, List.mem_cons, List.not_mem_nil, or_false, not_or]; exact ⟨n11, n17⟩)
      replace k68 := k68.chgM hd (by simp only [List.map_cons, List.map_nil, List.mem_cons, List.not_mem_nil, or_false, not_or]; exact ⟨n54.symm, n55.symm⟩)
      replace k71 := k71.chgM hd (by simp only [List.map_cons, List.map_nil, List.mem_cons, List.not_mem_nil, or_false, not_or]; exact ⟨n62.symm, n63.symm⟩)
      have k84 := hq_ _ (.head _)
      replace k84 := Xj.blk k84
      have k85 := hq_ _ (.tail _ (.head _))
      replace k85 := Xj.blk k85
      replace hB := hd.toBelow hB (mB l12 l19)
      replace hL := hL.chgM hd
      intro _ _
      intro _ _
      refine Pu rfl (Pu rfl (Ni (hK82 ?_)))
      exact WC.ret fun a_ ha_ => hQ (YQ rfl (.agg rfl Qf k84.range rfl) (.agg rfl Qq k85.range rfl) (.tmp rfl) (.tmp rfl) (by rw [J8 (by first | assumption | omega) hpk (by first | assumption | exact Classical.not_not.1 (by assumption))]; exact ⟨_, _, _, rs1, Gb (by first | assumption | exact Classical.not_not.1 (by assumption)), (ag1.less (fun x hx => (.tail _ (.tail _ (.tail _ (.tail _ (.tail _ hx))))))), (ag2.less (fun x hx => (.tail _ (.tail _ (.tail _ (.tail _ (.tail _ hx))))))), (hl1.less (fun x hx => (.tail _ (.tail _ (.tail _ (.tail _ (.tail _ hx))))))), (hs1.less (fun x hx => (.tail _ (.tail _ (.tail _ (.tail _ (.tail _ hx))))))), hy1, rfl⟩) hB ha_)
   .
    replace g43 := Q2 g43
    refine Pu rfl (Pu rfl (Va (XL rfl rfl rfl) rfl rfl (Pu rfl (Pu rfl (Ni (hK41 ?_))))))
    refine WC.cond rfl (fun c86 => ?_) (fun c86 => ?_)
    .
     replace c86 := dT c86
     have hpk : JA Qb Qa Qc = some (rs1.map Prod.fst, 0) := Qcg hu0 hu1 (by first | (simp_all; done) | (simp_all; omega))
     refine Rg (Pu rfl (Pu rfl (Pu rfl (Pu rfl (Ni (hK37 (Sq fun K87 hK87 => ?_)))))))
     refine Sq fun K88 hK88 => (Rg (Pu rfl (Va (XU rfl rfl) rfl rfl (Ni (hK88 (WC.condF rfl (WC.skip ?_)))))))
     refine hK87 (Sq fun K89 hK89 => (Rg (Va (Qg rfl Qf rfl k3.range rfl) rfl rfl (Pu rfl (Pu rfl ?_)))))
     refine Ge (QQ rfl Tryd.func33 rfl rfl rfl (HO Qb Qa Qd Qc _ _ 0 rs1 lv1 W40 _ hL h1 h2 hl1 hs1 hfu (.inl rfl) (by omega) hbd hy1 (Nat.le_trans hu1.cnt (by omega)) (hT.below hB))) rfl rfl ?_
     rintro _ W91 ⟨⟨a1, a2, rfl, ag1, ag2⟩, b90⟩
     replace h1 := h1.below b90
     replace h2 := h2.below b90
     replace hl0 := hl0.below b90
     replace hs0 := hs0.below b90
     replace hl1 := hl1.below b90
     replace hs1 := hs1.below b90
     replace k3 := k3.below b90
     replace k8 := k8.below b90
     replace k14 := k14.below b90
     replace hB := Qe hB b90
     replace hL := LL.below hL b90
     refine Pu rfl (Pu rfl (Pu rfl (Pu rfl ?_)))
     refine Ge (Qu rfl QV rfl) rfl rfl ?_
     rintro _ W92 ⟨rfl, k93, b94, z95⟩
     have n96 : w.heap.size ≠ W91.heap.size := Nat.ne_of_lt k3.lt
     have n97 : W2.heap.size ≠ W91.heap.size := Nat.ne_of_lt k8.lt
     have n98 : W7.heap.size ≠ W91.heap.size := Nat.ne_of_lt k14.lt
     have l99 := hB.size
     replace h1 := h1.more b94 (Nat.le_refl _)
     replace h2 := h2.more b94 (Nat.le_refl _)
     replace hl0 := hl0.more b94 (Nat.le_refl _)
     replace hs0 := hs0.more b94 (Nat.le_refl _)
     replace hl1 := hl1.more b94 (Nat.le_refl _)
     replace hs1 := hs1.more b94 (Nat.le_refl _)
     replace ag1 := ag1.more b94 (Nat.le_refl _)
     replace ag2 := ag2.more b94 (Nat.le_refl _)
     replace k3 := k3.below b94
     replace k8 := k8.below b94
     replace k14 := k14.below b94
     replace hB := Qe hB b94
     replace hL := LL.more hL z95
     refine Ge (Qu rfl Xv rfl) rfl rfl ?_
     rintro _ W100 ⟨rfl, k101, b102, z103⟩
     have n104 : w.heap.size ≠ W92.heap.size := Nat.ne_of_lt k3.lt
     have n105 : W2.heap.size ≠ W92.heap.size := Nat.ne_of_lt k8.lt
     have n106 : W7.heap.size ≠ W92.heap.size := Nat.ne_of_lt k14.lt
     have n107 : W91.heap.size ≠ W92.heap.size := Nat.ne_of_lt k93.lt
     have l108 := hB.size
     replace h1 := h1.more b102 (Nat.le_refl _)
     replace h2 := h2.more b102 (Nat.le_refl _)
     replace hl0 := hl0.more b102 (Nat.le_refl _)
     replace hs0 := hs0.more b102 (Nat.le_refl _)
     replace hl1 := hl1.more b102 (Nat.le_refl _)
     replace hs1 := hs1.more b102 (Nat.le_refl _)
     replace ag1 := ag1.more b102 (Nat.le_refl _)
     replace ag2 := ag2.more b102 (Nat.le_refl _)
     replace k3 := k3.below b102
     replace k8 := k8.below b102
     replace k14 := k14.below b102
     replace k93 := k93.below b102
     replace hB := Qe hB b102
     replace hL := LL.more hL z103
     refine WL.do (Qh (cs' := [a1, a2, .int .i64 ((QC Qb Qa Qd Qc 0 (rs1.map Prod.fst)).1.Qd), .bool ((QC Qb Qa Qd Qc 0 (rs1.map Prod.fst)).1.Qc)]) (vs := [a1, a2, .int .i64 ((QC Qb Qa Qd Qc 0 (rs1.map Prod.fst)).1.Qd), .bool ((QC Qb Qa Qd Qc 0 (rs1.map Prod.fst)).1.Qc)]) rfl Qj rfl rfl rfl (oC ag1.one (oC ag2.one (oC rfl (oC rfl Qk)))) k93 rfl (nB rfl) rfl) rfl ?_
     rintro _ W109 ⟨k111, o110⟩
     replace k3 := k3.other o110 n96
     replace k8 := k8.other o110 n97
     replace k14 := k14.other o110 n98
     replace k101 := k101.other o110 n107.symm
     clear k93
     replace h1 := h1.only o110 (.tail _ (.head _))
     replace h2 := h2.only o110 (.tail _ (.head _))
     replace hl0 := hl0.only o110 (.tail _ (.head _))
     replace hs0 := hs0.only o110 (.tail _ (.head _))
     replace hl1 := hl1.only o110 (.tail _ (.head _))
     replace hs1 := hs1.only o110 (.tail _ (.head _))
     replace ag1 := ag1.only o110 (.tail _ (.head _))
     replace ag2 := ag2.only o110 (.tail _ (.head _))
     replace hB := o110.below hB l99
     replace hL := LL.only hL o110
     refine WL.do (Qh (cs' := [.int .i64 ((QC Qb Qa Qd Qc 0 (rs1.map Prod.fst)).2.1), .int .i64 ((QC Qb Qa Qd Qc 0 (rs1.map Prod.fst)).2.2.1), .int .i64 ((QC Qb Qa Qd Qc 0 (rs1.map Prod.fst)).2.2.2)]) (vs := [.int .i64 ((QC Qb Qa Qd Qc 0 (rs1.map Prod.fst)).2.1), .int .i64 ((QC Qb Qa Qd Qc 0 (rs1.map Prod.fst)).2.2.1), .int .i64 ((QC Qb Qa Qd Qc 0 (rs1.map Prod.fst)).2.2.2)]) rfl Qs rfl rfl rfl (oC rfl (oC rfl (oC rfl Qk))) k101 rfl (nB rfl) rfl) rfl ?_
     rintro _ W112 ⟨k114, o113⟩
     replace k3 := k3.other o113 n104
     replace k8 := k8.other o113 n105
     replace k14 := k14.other o113 n106
     replace k111 := k111.other o113 n107
     clear k101
     replace h1 := h1.only o113 (.head _)
     replace h2 := h2.only o113 (.head _)
     replace hl0 := hl0.only o113 (.head _)
     replace hs0 := hs0.only o113 (.head _)
     replace hl1 := hl1.only o113 (.head _)
     replace hs1 := hs1.only o113 (.head _)
     replace ag1 := ag1.only o113 (.head _)
     replace ag2 := ag2.only o113 (.head _)
     replace hB := o113.below hB l108
     replace hL := LL.only hL o113
     refine Pu rfl (Ni (hK89 (Sq fun K115 hK115 => (Sq fun K116 hK116 => (Rg (Pu rfl (Va (Xl rfl rfl rfl) rfl rfl ?_)))))))
     refine Ni (hK116 ?_)
     refine WC.cond rfl (fun c117 => ?_) (fun c117 => ?_)
     .
      replace c117 := Q4 c117
      replace c117 := dF c117
      refine Sq fun K118 hK118 => (Rg (Va (Qg rfl Qf rfl k111.range rfl) rfl rfl (Va (QS rfl rfl (Xi (cs := [.int .i64 0, .int .i64 0, .int .i64 0]) (by kernel_rfl) Qk)) rfl rfl (Pu rfl ?_))))
      refine WL.do (Qh (cs' := [a1, a2, .int .i64 ((QC Qb Qa Qd Qc 0 (rs1.map Prod.fst)).1.Qd), .bool ((QC Qb Qa Qd Qc 0 (rs1.map Prod.fst)).1.Qc)]) (vs := [a1, a2, .int .i64 ((QC Qb Qa Qd Qc 0 (rs1.map Prod.fst)).1.Qd), .bool ((QC Qb Qa Qd Qc 0 (rs1.map Prod.fst)).1.Qc)]) rfl Qj rfl rfl rfl (oC ag1.one (oC ag2.one (oC rfl (oC rfl Qk)))) k8 rfl (nB rfl) rfl) rfl ?_
      rintro _ W119 ⟨k121, o120⟩
      replace k14 := k14.other o120 n18.symm
      clear k8
      replace ag1 := ag1.only o120 (.tail _ (.tail _ (.tail _ (.head _))))
      replace ag2 := ag2.only o120 (.tail _ (.tail _ (.tail _ (.head _))))
      replace hB := o120.below hB l12
      refine WL.do (Qh (cs' := [.int .i64 0, .int .i64 0, .int .i64 0]) (vs := [.int .i64 0, .int .i64 0, .int .i64 0]) rfl Qs rfl rfl rfl (oC rfl (oC rfl (oC rfl Qk))) k14 rfl (nB rfl) rfl) rfl ?_
      rintro _ W122 ⟨k124, o123⟩
      replace k121 := k121.other o123 n18
      clear k14
      replace ag1 := ag1.only o123 (.tail _ (.tail _ (.head _)))
      replace ag2 := ag2.only o123 (.tail _ (.tail _ (.head _)))
      replace hB := o123.below hB l19
      refine Pu rfl (Pu rfl (Ni (hK118 ?_)))
      exact WC.ret fun a_ ha_ => hQ (YQ rfl (.agg rfl Qf k121.range rfl) (.agg rfl Qq k124.range rfl) (.tmp rfl) (.tmp rfl) (by rw [Gc (by first | assumption | omega) hpk (by assumption)]; exact ⟨_, _, _, [], QdX (Jf (by assumption)), (ag1.less (fun x hx => (.tail _ (.tail _ (.tail _ (.tail _ (.tail _ hx))))))), (ag2.less (fun x hx => (.tail _ (.tail _ (.tail _ (.tail _ (.tail _ hx))))))), QD.nil (by decide), (fun r hr => by cases hr), (fun r hr => by cases hr), rfl⟩) hB ha_)
     .
      replace c117 := Q2 c117
      replace c117 := dT c117
      refine WC.skip (hK115 (Sq fun K125 hK125 => ?_))
      refine WC.drawC 5 [(3, W2.heap.size, [.slice none 0 0, .slice none 0 0, .int .i64 0, .bool false], fun cs_ _ => cs_ = [a1, a2, .int .i64 ((QC Qb Qa Qd Qc 0 (rs1.map Prod.fst)).1.Qd), .bool ((QC Qb Qa Qd Qc 0 (rs1.map Prod.fst)).1.Qc)]), (4, W7.heap.size, [.int .i64 0, .int .i64 0, .int .i64 0], fun cs_ _ => cs_ = [.int .i64 ((QC Qb Qa Qd Qc 0 (rs1.map Prod.fst)).2.1), .int .i64 ((QC Qb Qa Qd Qc 0 (rs1.map Prod.fst)).2.2.1), .int .i64 ((QC Qb Qa Qd Qc 0 (rs1.map Prod.fst)).2.2.2)])] [(some 64, .is (.agg #[a1, a2, .int .i64 ((QC Qb Qa Qd Qc 0 (rs1.map Prod.fst)).1.Qd), .bool ((QC Qb Qa Qd Qc 0 (rs1.map Prod.fst)).1.Qc)])), (some 65, .is (.agg #[.int .i64 ((QC Qb Qa Qd Qc 0 (rs1.map Prod.fst)).2.1), .int .i64 ((QC Qb Qa Qd Qc 0 (rs1.map Prod.fst)).2.2.1), .int .i64 ((QC Qb Qa Qd Qc 0 (rs1.map Prod.fst)).2.2.2)])), (some 66, .is (lv1)), (none, .by fun _ _ => True), (none, .by fun _ _ => True)] [[], [], [], [0, 0], [1, 3, 0, 1, 3]] ⟨fun _ _ _ _ h => h, fun _ _ _ _ h => h, trivial⟩ (mB ⟨fun _ _ _ _ h => h, fun _ _ _ _ h => h, trivial⟩ ⟨fun _ _ _ _ h => h, fun _ _ _ _ h => h, trivial⟩) ⟨fun x hx => (by simp only [List.mem_cons, List.not_mem_nil, or_false] at hx; subst hx; exact ⟨(show ¬ ((4 : Nat) = 3) by decide), n18.symm⟩), ⟨fun x hx => (by cases hx), trivial⟩⟩ (Xo (mB ⟨_, rfl⟩ ⟨_, rfl⟩)) (mB k8 k14) ?_ ?_
      .
       refine Ql.cons rfl (fun Wd hd hbs_ => ?_) ?_
       .
        have k111 := k111.chgM hd (by simp only [List.map_cons, List.map_nil, List.mem_cons, List.not_mem_nil, or_false, not_or]; exact ⟨n97.symm, n98.symm⟩)
        exact Dd (Qg rfl Qf rfl k111.range rfl) rfl
       refine Ql.cons rfl (fun Wd hd hbs_ => ?_) ?_
       .
        have k114 := k114.chgM hd (by simp only [List.map_cons, List.map_nil, List.mem_cons, List.not_mem_nil, or_false, not_or]; exact ⟨n105.symm, n106.symm⟩)
        exact Dd (Qg rfl Qq rfl k114.range rfl) rfl
       refine Ql.cons rfl (fun Wd hd hbs_ => ?_) ?_
       .
        exact Dd (Qt rfl rfl) rfl
       refine Ql.hit rfl (fun Wd hd hb_ => ?_) ?_
       .
        have ag1 := ag1.chgM hd (mB (.tail _ (.tail _ (.tail _ (.head _)))) (.tail _ (.tail _ (.head _))))
        have ag2 := ag2.chgM hd (mB (.tail _ (.tail _ (.tail _ (.head _)))) (.tail _ (.tail _ (.head _))))
        exact (Qx (vs := [a1, a2, .int .i64 ((QC Qb Qa Qd Qc 0 (rs1.map Prod.fst)).1.Qd), .bool ((QC Qb Qa Qd Qc 0 (rs1.map Prod.fst)).1.Qc)]) rfl Qj rfl rfl rfl (oC ag1.one (oC ag2.one (oC rfl (oC rfl Qk)))) hb_ rfl rfl).mono (fun _ W' h => ⟨h.2, Xj.is h.1, trivial⟩)
       refine Ql.hit rfl (fun Wd hd hb_ => ?_) ?_
       .
        intro u14_3 p14_3 u14_3 p14_3
        exact (Qx (vs := [.int .i64 ((QC Qb Qa Qd Qc 0 (rs1.map Prod.fst)).2.1), .int .i64 ((QC Qb Qa Qd Qc 0 (rs1.map Prod.fst)).2.2.1), .int .i64 ((QC Qb Qa Qd Qc 0 (rs1.map Prod.fst)).2.2.2)]) rfl Qs rfl rfl rfl (oC rfl (oC rfl (oC rfl Qk))) hb_ rfl rfl).mono (fun _ W' h => ⟨h.2, Xj.is h.1, trivial⟩)
       exact trivial
      .
       intro W126 hd hq_
       replace h1 := h1.chgM hd (mB (.tail _ (.tail _ (.tail _ (.head _)))) (.tail _ (.tail _ (.head _))))
       replace h2 := h2.chgM hd (mB (.tail _ (.tail _ (.tail _ (.head _)))) (.tail _ (.tail _ (.head _))))
       replace hl0 := hl0.chgM hd (mB (.tail _ (.tail _ (.tail _ (.head _)))) (.tail _ (.tail _ (.head _))))
       replace hs0 := hs0.chgM hd (mB (.tail _ (.tail _ (.tail _ (.head _)))) (.tail _ (.tail _ (.head _))))
       replace hl1 := hl1.chgM hd (mB (.tail _ (.tail _ (.tail _ (.head _)))) (.tail _ (.tail _ (.head _))))
       replace hs1 := hs1.chgM hd (mB (.tail _ (.tail _ (.tail _ (.head _)))) (.tail _ (.tail _ (.head _))))
       replace ag1 := ag1.chgM hd (mB (.tail _ (.tail _ (.tail _ (.head _)))) (.tail _ (.tail _ (.head _))))
       replace ag2 := ag2.chgM hd (mB (.tail _ (.tail _ (.tail _ (.head _)))) (.tail _ (.tail _ (.head _))))
       replace k3 := k3.chgM hd (by simp only [List.map_cons, List.map_nil, List.mem_cons, List.not_mem_nil, or_false, not_or]; exact ⟨n11, n17⟩)
       replace k111 := k111.chgM hd (by simp only [List.map_cons, List.map_nil, List.mem_cons, List.not_mem_nil, or_false, not_or]; exact ⟨n97.symm, n98.symm⟩)
       replace k114 := k114.chgM hd (by simp only [List.map_cons, List.map_nil, List.mem_cons, List.not_mem_nil, or_false, not_or]; exact ⟨n105.symm, n106.symm⟩)
       have k127 := hq_ _ (.head _)
       replace k127 := Xj.blk k127
       have k128 := hq_ _ (.tail _ (.head _))
       replace k128 := Xj.blk k128
       replace hB := hd.toBelow hB (mB l12 l19)
       replace hL := hL.chgM hd
       intro _ _
       intro _ _
       refine Pu rfl (Pu rfl (Ni (hK125 ?_)))
       exact WC.ret fun a_ ha_ => hQ (YQ rfl (.agg rfl Qf k127.range rfl) (.agg rfl Qq k128.range rfl) (.tmp rfl) (.tmp rfl) (by rw [J8 (by first | assumption | omega) hpk (by first | assumption | exact Classical.not_not.1 (by assumption))]; exact ⟨_, _, _, rs1, Gb (by first | assumption | exact Classical.not_not.1 (by assumption)), (ag1.less (fun x hx => (.tail _ (.tail _ (.tail _ (.tail _ (.tail _ hx))))))), (ag2.less (fun x hx => (.tail _ (.tail _ (.tail _ (.tail _ (.tail _ hx))))))), (hl1.less (fun x hx => (.tail _ (.tail _ (.tail _ (.tail _ (.tail _ hx))))))), (hs1.less (fun x hx => (.tail _ (.tail _ (.tail _ (.tail _ (.tail _ hx))))))), hy1, rfl⟩) hB ha_)
    .
     replace c86 := dF c86
     refine WC.skip (hK37 (Sq fun K129 hK129 => (Sq fun K130 hK130 => ?_)))
     have hnp : ¬ (bb1 = true /\ (bb0 = false \/ gn0 < gn1)) := by first | (simp_all; done) | (simp_all; omega) | skip
     refine Rg (Pu rfl (Va (XU rfl rfl) rfl rfl (Ni (hK130 ?_))))
     refine WC.cond rfl (fun c131 => ?_) (fun c131 => ?_)
     .
      replace c131 := Q4 c131
      replace c131 := ZY c131
      refine Sq fun K132 hK132 => (Rg (Va (Qg rfl Qf rfl k3.range rfl) rfl rfl (Va (QS rfl rfl (Xi (cs := [.int .i64 0, .int .i64 0, .int .i64 0]) (by kernel_rfl) Qk)) rfl rfl ?_)))
      refine WL.do (Qh (cs' := [s1, s2, .int .i64 Qd, .bool Qc]) (vs := [s1, s2, .int .i64 Qd, .bool Qc]) rfl Qj rfl rfl rfl (oC h1.one (oC h2.one (oC rfl (oC rfl Qk)))) k8 rfl (nB rfl) rfl) rfl ?_
      rintro _ W133 ⟨k135, o134⟩
      replace k14 := k14.other o134 n18.symm
      clear k8
      replace h1 := h1.only o134 (.tail _ (.head _))
      replace h2 := h2.only o134 (.tail _ (.head _))
      replace hB := o134.below hB l12
      refine WL.do (Qh (cs' := [.int .i64 0, .int .i64 0, .int .i64 0]) (vs := [.int .i64 0, .int .i64 0, .int .i64 0]) rfl Qs rfl rfl rfl (oC rfl (oC rfl (oC rfl Qk))) k14 rfl (nB rfl) rfl) rfl ?_
      rintro _ W136 ⟨k138, o137⟩
      replace k135 := k135.other o137 n18
      clear k14
      replace h1 := h1.only o137 (.head _)
      replace h2 := h2.only o137 (.head _)
      replace hB := o137.below hB l19
      refine Pu rfl (Pu rfl (Ni (hK132 ?_)))
      exact WC.ret fun a_ ha_ => hQ (YQ rfl (.agg rfl Qf k135.range rfl) (.agg rfl Qq k138.range rfl) (.tmp rfl) (.tmp rfl) (by rw [DX (by first | assumption | omega) (Qcf hu0 hu1 hnp (by first | assumption | (simp_all; done)))]; exact ⟨_, _, _, [], rfl, (h1.less (fun x hx => (.tail _ (.tail _ (.tail _ hx))))), (h2.less (fun x hx => (.tail _ (.tail _ (.tail _ hx))))), QD.nil (by decide), (fun r hr => by cases hr), (fun r hr => by cases hr), rfl⟩) hB ha_)
     .
      replace c131 := Q2 c131
      refine WC.skip (hK129 (Sq fun K139 hK139 => ?_))
      have hpk : JA Qb Qa Qc = some (rs0.map Prod.fst, 1) := Qch hu0 hu1 hnp (by first | assumption | (simp_all; done))
      refine Rg (Va (Qg rfl Qf rfl k3.range rfl) rfl rfl (Pu rfl (Pu rfl ?_)))
      refine Ge (QQ rfl Tryd.func33 rfl rfl rfl (HO Qb Qa Qd Qc _ _ 1 rs0 lv0 W40 _ hL h1 h2 hl0 hs0 hfu (.inr rfl) (by omega) hbd hy0 (Nat.le_trans hu0.cnt (by omega)) (hT.below hB))) rfl rfl ?_
      rintro _ W141 ⟨⟨a1, a2, rfl, ag1, ag2⟩, b140⟩
      replace h1 := h1.below b140
      replace h2 := h2.below b140
      replace hl0 := hl0.below b140
      replace hs0 := hs0.below b140
      replace hl1 := hl1.below b140
      replace hs1 := hs1.below b140
      replace k3 := k3.below b140
      replace k8 := k8.below b140
      replace k14 := k14.below b140
      replace hB := Qe hB b140
      replace hL := LL.below hL b140
      refine Pu rfl (Pu rfl (Pu rfl (Pu rfl ?_)))
      refine Ge (Qu rfl QV rfl) rfl rfl ?_
      rintro _ W142 ⟨rfl, k143, b144, z145⟩
      have n146 : w.heap.size ≠ W141.heap.size := Nat.ne_of_lt k3.lt
      have n147 : W2.heap.size ≠ W141.heap.size := Nat.ne_of_lt k8.lt
      have n148 : W7.heap.size ≠ W141.heap.size := Nat.ne_of_lt k14.lt
      have l149 := hB.size
      replace h1 := h1.more b144 (Nat.le_refl _)
      replace h2 := h2.more b144 (Nat.le_refl _)
      replace hl0 := hl0.more b144 (Nat.le_refl _)
      replace hs0 := hs0.more b144 (Nat.le_refl _)
      replace hl1 := hl1.more b144 (Nat.le_refl _)
      replace hs1 := hs1.more b144 (Nat.le_refl _)
      replace ag1 := ag1.more b144 (Nat.le_refl _)
      replace ag2 := ag2.more b144 (Nat.le_refl _)
      replace k3 := k3.below b144
      replace k8 := k8.below b144
      replace k14 := k14.below b144
      replace hB := Qe hB b144
      replace hL := LL.more hL z145
      refine Ge (Qu rfl Xv rfl) rfl rfl ?_
      rintro _ W150 ⟨rfl, k151, b152, z153⟩
      have n154 : w.heap.size ≠ W142.heap.size := Nat.ne_of_lt k3.lt
      have n155 : W2.heap.size ≠ W142.heap.size := Nat.ne_of_lt k8.lt
      have n156 : W7.heap.size ≠ W142.heap.size := Nat.ne_of_lt k14.lt
      have n157 : W141.heap.size ≠ W142.heap.size := Nat.ne_of_lt k143.lt
      have l158 := hB.size
      replace h1 := h1.more b152 (Nat.le_refl _)
      replace h2 := h2.more b152 (Nat.le_refl _)
      replace hl0 := hl0.more b152 (Nat.le_refl _)
      replace hs0 := hs0.more b152 (Nat.le_refl _)
      replace hl1 := hl1.more b152 (Nat.le_refl _)
      replace hs1 := hs1.more b152 (Nat.le_refl _)
      replace ag1 := ag1.more b152 (Nat.le_refl _)
      replace ag2 := ag2.more b152 (Nat.le_refl _)
      replace k3 := k3.below b152
      replace k8 := k8.below b152
      replace k14 := k14.below b152
      replace k143 := k143.below b152
      replace hB := Qe hB b152
      replace hL := LL.more hL z153
      refine WL.do (Qh (cs' := [a1, a2, .int .i64 ((QC Qb Qa Qd Qc 1 (rs0.map Prod.fst)).1.Qd), .bool ((QC Qb Qa Qd Qc 1 (rs0.map Prod.fst)).1.Qc)]) (vs := [a1, a2, .int .i64 ((QC Qb Qa Qd Qc 1 (rs0.map Prod.fst)).1.Qd), .bool ((QC Qb Qa Qd Qc 1 (rs0.map Prod.fst)).1.Qc)]) rfl Qj rfl rfl rfl (oC ag1.one (oC ag2.one (oC rfl (oC rfl Qk)))) k143 rfl (nB rfl) rfl) rfl ?_
      rintro _ W159 ⟨k161, o160⟩
      replace k3 := k3.other o160 n146
      replace k8 := k8.other o160 n147
      replace k14 := k14.other o160 n148
      replace k151 := k151.other o160 n157.symm
      clear k143
      replace h1 := h1.only o160 (.tail _ (.head _))
      replace h2 := h2.only o160 (.tail _ (.head _))
      replace hl0 := hl0.only o160 (.tail _ (.head _))
      replace hs0 := hs0.only o160 (.tail _ (.head _))
      replace hl1 := hl1.only o160 (.tail _ (.head _))
      replace hs1 := hs1.only o160 (.tail _ (.head _))
      replace ag1 := ag1.only o160 (.tail _ (.head _))
      replace ag2 := ag2.only o160 (.tail _ (.head _))
      replace hB := o160.below hB l149
      replace hL := LL.only hL o160
      refine WL.do (Qh (cs' := [.int .i64 ((QC Qb Qa Qd Qc 1 (rs0.map Prod.fst)).2.1), .int .i64 ((QC Qb Qa Qd Qc 1 (rs0.map Prod.fst)).2.2.1), .int .i64 ((QC Qb Qa Qd Qc 1 (rs0.map Prod.fst)).2.2.2)]) (vs := [.int .i64 ((QC Qb Qa Qd Qc 1 (rs0.map Prod.fst)).2.1), .int .i64 ((QC Qb Qa Qd Qc 1 (rs0.map Prod.fst)).2.2.1), .int .i64 ((QC Qb Qa Qd Qc 1 (rs0.map Prod.fst)).2.2.2)]) rfl Qs rfl rfl rfl (oC rfl (oC rfl (oC rfl Qk))) k151 rfl (nB rfl) rfl) rfl ?_
      rintro _ W162 ⟨k164, o163⟩
      replace k3 := k3.other o163 n154
      replace k8 := k8.other o163 n155
      replace k14 := k14.other o163 n156
      replace k161 := k161.other o163 n157
      clear k151
      replace h1 := h1.only o163 (.head _)
      replace h2 := h2.only o163 (.head _)
      replace hl0 := hl0.only o163 (.head _)
      replace hs0 := hs0.only o163 (.head _)
      replace hl1 := hl1.only o163 (.head _)
      replace hs1 := hs1.only o163 (.head _)
      replace ag1 := ag1.only o163 (.head _)
      replace ag2 := ag2.only o163 (.head _)
      replace hB := o163.below hB l158
      replace hL := LL.only hL o163
      refine Pu rfl (Ni (hK139 (Sq fun K165 hK165 => (Sq fun K166 hK166 => (Rg (Pu rfl (Va (Xl rfl rfl rfl) rfl rfl ?_)))))))
      refine Ni (hK166 ?_)
      refine WC.cond rfl (fun c167 => ?_) (fun c167 => ?_)
      .
       replace c167 := Q4 c167
       replace c167 := dF c167
       refine Sq fun K168 hK168 => (Rg (Va (Qg rfl Qf rfl k161.range rfl) rfl rfl (Va (QS rfl rfl (Xi (cs := [.int .i64 0, .int .i64 0, .int .i64 0]) (by kernel_rfl) Qk)) rfl rfl (Pu rfl ?_))))
       refine WL.do (Qh (cs' := [a1, a2, .int .i64 ((QC Qb Qa Qd Qc 1 (rs0.map Prod.fst)).1.Qd), .bool ((QC Qb Qa Qd Qc 1 (rs0.map Prod.fst)).1.Qc)]) (vs := [a1, a2, .int .i64 ((QC Qb Qa Qd Qc 1 (rs0.map Prod.fst)).1.Qd), .bool ((QC Qb Qa Qd Qc 1 (rs0.map Prod.fst)).1.Qc)]) rfl Qj rfl rfl rfl (oC ag1.one (oC ag2.one (oC rfl (oC rfl Qk)))) k8 rfl (nB rfl) rfl) rfl ?_
       rintro _ W169 ⟨k171, o170⟩
       replace k14 := k14.other o170 n18.symm
       clear k8
       replace ag1 := ag1.only o170 (.tail _ (.tail _ (.tail _ (.head _))))
       replace ag2 := ag2.only o170 (.tail _ (.tail _ (.tail _ (.head _))))
       replace hB := o170.below hB l12
       refine WL.do (Qh (cs' := [.int .i64 0, .int .i64 0, .int .i64 0]) (vs := [.int .i64 0, .int .i64 0, .int .i64 0]) rfl Qs rfl rfl rfl (oC rfl (oC rfl (oC rfl Qk))) k14 rfl (nB rfl) rfl) rfl ?_
       rintro _ W172 ⟨k174, o173⟩
       replace k171 := k171.other o173 n18
       clear k14
       replace ag1 := ag1.only o173 (.tail _ (.tail _ (.head _)))
       replace ag2 := ag2.only o173 (.tail _ (.tail _ (.head _)))
       replace hB := o173.below hB l19
       refine Pu rfl (Pu rfl (Ni (hK168 ?_)))
       exact WC.ret fun a_ ha_ => hQ (YQ rfl (.agg rfl Qf k171.range rfl) (.agg rfl Qq k174.range rfl) (.tmp rfl) (.tmp rfl) (by rw [Gc (by first | assumption | omega) hpk (by assumption)]; exact ⟨_, _, _, [], QdX (Jf (by assumption)), (ag1.less (fun x hx => (.tail _ (.tail _ (.tail _ (.tail _ (.tail _ hx))))))), (ag2.less (fun x hx => (.tail _ (.tail _ (.tail _ (.tail _ (.tail _ hx))))))), QD.nil (by decide), (fun r hr => by cases hr), (fun r hr => by cases hr), rfl⟩) hB ha_)
      .
       replace c167 := Q2 c167
       replace c167 := dT c167
       refine WC.skip (hK165 (Sq fun K175 hK175 => ?_))
       refine WC.drawC 5 [(3, W2.heap.size, [.slice none 0 0, .slice none 0 0, .int .i64 0, .bool false], fun cs_ _ => cs_ = [a1, a2, .int .i64 ((QC Qb Qa Qd Qc 1 (rs0.map Prod.fst)).1.Qd), .bool ((QC Qb Qa Qd Qc 1 (rs0.map Prod.fst)).1.Qc)]), (4, W7.heap.size, [.int .i64 0, .int .i64 0, .int .i64 0], fun cs_ _ => cs_ = [.int .i64 ((QC Qb Qa Qd Qc 1 (rs0.map Prod.fst)).2.1), .int .i64 ((QC Qb Qa Qd Qc 1 (rs0.map Prod.fst)).2.2.1), .int .i64 ((QC Qb Qa Qd Qc 1 (rs0.map Prod.fst)).2.2.2)])] [(some 64, .is (.agg #[a1, a2, .int .i64 ((QC Qb Qa Qd Qc 1 (rs0.map Prod.fst)).1.Qd), .bool ((QC Qb Qa Qd Qc 1 (rs0.map Prod.fst)).1.Qc)])), (some 65, .is (.agg #[.int .i64 ((QC Qb Qa Qd Qc 1 (rs0.map Prod.fst)).2.1), .int .i64 ((QC Qb Qa Qd Qc 1 (rs0.map Prod.fst)).2.2.1), .int .i64 ((QC Qb Qa Qd Qc 1 (rs0.map Prod.fst)).2.2.2)])), (some 66, .is (lv0)), (none, .by fun _ _ => True), (none, .by fun _ _ => True)] [[], [], [], [0, 0], [1, 3, 0, 1, 3]] ⟨fun _ _ _ _ h => h, fun _ _ _ _ h => h, trivial⟩ (mB ⟨fun _ _ _ _ h => h, fun _ _ _ _ h => h, trivial⟩ ⟨fun _ _ _ _ h => h, fun _ _ _ _ h => h, trivial⟩) ⟨fun x hx => (by simp only [List.mem_cons, List.not_mem_nil, or_false] at hx; subst hx; exact ⟨(show ¬ ((4 : Nat) = 3) by decide), n18.symm⟩), ⟨fun x hx => (by cases hx), trivial⟩⟩ (Xo (mB ⟨_, rfl⟩ ⟨_, rfl⟩)) (mB k8 k14) ?_ ?_
       .
        refine Ql.cons rfl (fun Wd hd hbs_ => ?_) ?_
        .
         have k161 := k161.chgM hd (by simp only [List.map_cons, List.map_nil, List.mem_cons, List.not_mem_nil, or_false, not_or]; exact ⟨n147.symm, n148.symm⟩)
         exact Dd (Qg rfl Qf rfl k161.range rfl) rfl
        refine Ql.cons rfl (fun Wd hd hbs_ => ?_) ?_
        .
         have k164 := k164.chgM hd (by simp only [List.map_cons, List.map_nil, List.mem_cons, List.not_mem_nil, or_false, not_or]; exact ⟨n155.symm, n156.symm⟩)
         exact Dd (Qg rfl Qq rfl k164.range rfl) rfl
        refine Ql.cons rfl (fun Wd hd hbs_ => ?_) ?_
        .
         exact Dd (Qt rfl rfl) rfl
        refine Ql.hit rfl (fun Wd hd hb_ => ?_) ?_
        .
         have ag1 := ag1.chgM hd (mB (.tail _ (.tail _ (.tail _ (.head _)))) (.tail _ (.tail _ (.head _))))
         have ag2 := ag2.chgM hd (mB (.tail _ (.tail _ (.tail _ (.head _)))) (.tail _ (.tail _ (.head _))))
         exact (Qx (vs := [a1, a2, .int .i64 ((QC Qb Qa Qd Qc 1 (rs0.map Prod.fst)).1.Qd), .bool ((QC Qb Qa Qd Qc 1 (rs0.map Prod.fst)).1.Qc)]) rfl Qj rfl rfl rfl (oC ag1.one (oC ag2.one (oC rfl (oC rfl Qk)))) hb_ rfl rfl).mono (fun _ W' h => ⟨h.2, Xj.is h.1, trivial⟩)
        refine Ql.hit rfl (fun Wd hd hb_ => ?_) ?_
        .
         intro u14_3 p14_3 u14_3 p14_3
         exact (Qx (vs := [.int .i64 ((QC Qb Qa Qd Qc 1 (rs0.map Prod.fst)).2.1), .int .i64 ((QC Qb Qa Qd Qc 1 (rs0.map Prod.fst)).2.2.1), .int .i64 ((QC Qb Qa Qd Qc 1 (rs0.map Prod.fst)).2.2.2)]) rfl Qs rfl rfl rfl (oC rfl (oC rfl (oC rfl Qk))) hb_ rfl rfl).mono (fun _ W' h => ⟨h.2, Xj.is h.1, trivial⟩)
        exact trivial
       .
        intro W176 hd hq_
        replace h1 := h1.chgM hd (mB (.tail _ (.tail _ (.tail _ (.head _)))) (.tail _ (.tail _ (.head _))))
        replace h2 := h2.chgM hd (mB (.tail _ (.tail _ (.tail _ (.head _)))) (.tail _ (.tail _ (.head _))))
        replace hl0 := hl0.chgM hd (mB (.tail _ (.tail _ (.tail _ (.head _)))) (.tail _ (.tail _ (.head _))))
        replace hs0 := hs0.chgM hd (mB (.tail _ (.tail _ (.tail _ (.head _)))) (.tail _ (.tail _ (.head _))))
        replace hl1 := hl1.chgM hd (mB (.tail _ (.tail _ (.tail _ (.head _)))) (.tail _ (.tail _ (.head _))))
        replace hs1 := hs1.chgM hd (mB (.tail _ (.tail _ (.tail _ (.head _)))) (.tail _ (.tail _ (.head _))))
        replace ag1 := ag1.chgM hd (mB (.tail _ (.tail _ (.tail _ (.head _)))) (.tail _ (.tail _ (.head _))))
        replace ag2 := ag2.chgM hd (mB (.tail _ (.tail _ (.tail _ (.head _)))) (.tail _ (.tail _ (.head _))))
        replace k3 := k3.chgM hd (by simp only [List.map_cons, List.map_nil, List.mem_cons, List.not_mem_nil, or_false, not_or]; exact ⟨n11, n17⟩)
        replace k161 := k161.chgM hd (by simp only [List.map_cons, List.map_nil, List.mem_cons, List.not_mem_nil, or_false, not_or]; exact ⟨n147.symm, n148.symm⟩)
        replace k164 := k164.chgM hd (by simp only [List.map_cons, List.map_nil, List.mem_cons, List.not_mem_nil, or_false, not_or]; exact ⟨n155.symm, n156.symm⟩)
        have k177 := hq_ _ (.head _)
        replace k177 := Xj.blk k177
        have k178 := hq_ _ (.tail _ (.head _))
        replace k178 := Xj.blk k178
        replace hB := hd.toBelow hB (mB l12 l19)
        replace hL := hL.chgM hd
        intro _ _
        intro _ _
        refine Pu rfl (Pu rfl (Ni (hK175 ?_)))
        exact WC.ret fun a_ ha_ => hQ (YQ rfl (.agg rfl Qf k177.range rfl) (.agg rfl Qq k178.range rfl) (.tmp rfl) (.tmp rfl) (by rw [J8 (by first | assumption | omega) hpk (by first | assumption | exact Classical.not_not.1 (by assumption))]; exact ⟨_, _, _, rs0, Gb (by first | assumption | exact Classical.not_not.1 (by assumption)), (ag1.less (fun x hx => (.tail _ (.tail _ (.tail _ (.tail _ (.tail _ hx))))))), (ag2.less (fun x hx => (.tail _ (.tail _ (.tail _ (.tail _ (.tail _ hx))))))), (hl0.less (fun x hx => (.tail _ (.tail _ (.tail _ (.tail _ (.tail _ hx))))))), (hs0.less (fun x hx => (.tail _ (.tail _ (.tail _ (.tail _ (.tail _ hx))))))), hy0, rfl⟩) hB ha_)
  .
   replace g42 := ZY g42
   refine Of rfl (Of rfl (Of rfl (Of rfl (Of rfl (Of rfl (Of rfl (Pu rfl ?_)))))))
   refine Ni (hK41 (WC.condF rfl (WC.skip (hK37 (Sq fun K179 hK179 => (Sq fun K180 hK180 => ?_))))))
   have hnp : ¬ (bb1 = true /\ (bb0 = false \/ gn0 < gn1)) := by first | (simp_all; done) | (simp_all; omega) | skip
   refine Rg (Pu rfl (Va (XU rfl rfl) rfl rfl (Ni (hK180 ?_))))
   refine WC.cond rfl (fun c181 => ?_) (fun c181 => ?_)
   .
    replace c181 := Q4 c181
    replace c181 := ZY c181
    refine Sq fun K182 hK182 => (Rg (Va (Qg rfl Qf rfl k3.range rfl) rfl rfl (Va (QS rfl rfl (Xi (cs := [.int .i64 0, .int .i64 0, .int .i64 0]) (by kernel_rfl) Qk)) rfl rfl ?_)))
    refine WL.do (Qh (cs' := [s1, s2, .int .i64 Qd, .bool Qc]) (vs := [s1, s2, .int .i64 Qd, .bool Qc]) rfl Qj rfl rfl rfl (oC h1.one (oC h2.one (oC rfl (oC rfl Qk)))) k8 rfl (nB rfl) rfl) rfl ?_
    rintro _ W183 ⟨k185, o184⟩
    replace k14 := k14.other o184 n18.symm
    clear k8
    replace h1 := h1.only o184 (.tail _ (.head _))
    replace h2 := h2.only o184 (.tail _ (.head _))
    replace hB := o184.below hB l12
    refine WL.do (Qh (cs' := [.int .i64 0, .int .i64 0, .int .i64 0]) (vs := [.int .i64 0, .int .i64 0, .int .i64 0]) rfl Qs rfl rfl rfl (oC rfl (oC rfl (oC rfl Qk))) k14 rfl (nB rfl) rfl) rfl ?_
    rintro _ W186 ⟨k188, o187⟩
    replace k185 := k185.other o187 n18
    clear k14
    replace h1 := h1.only o187 (.head _)
    replace h2 := h2.only o187 (.head _)
    replace hB := o187.below hB l19
    refine Pu rfl (Pu rfl (Ni (hK182 ?_)))
    exact WC.ret fun a_ ha_ => hQ (YQ rfl (.agg rfl Qf k185.range rfl) (.agg rfl Qq k188.range rfl) (.tmp rfl) (.tmp rfl) (by rw [DX (by first | assumption | omega) (Qcf hu0 hu1 hnp (by first | assumption | (simp_all; done)))]; exact ⟨_, _, _, [], rfl, (h1.less (fun x hx => (.tail _ (.tail _ (.tail _ hx))))), (h2.less (fun x hx => (.tail _ (.tail _ (.tail _ hx))))), QD.nil (by decide), (fun r hr => by cases hr), (fun r hr => by cases hr), rfl⟩) hB ha_)
   .
    replace c181 := Q2 c181
    refine WC.skip (hK179 (Sq fun K189 hK189 => ?_))
    have hpk : JA Qb Qa Qc = some (rs0.map Prod.fst, 1) := Qch hu0 hu1 hnp (by first | assumption | (simp_all; done))
    refine Rg (Va (Qg rfl Qf rfl k3.range rfl) rfl rfl (Pu rfl (Pu rfl ?_)))
    refine Ge (QQ rfl Tryd.func33 rfl rfl rfl (HO Qb Qa Qd Qc _ _ 1 rs0 lv0 W40 _ hL h1 h2 hl0 hs0 hfu (.inr rfl) (by omega) hbd hy0 (Nat.le_trans hu0.cnt (by omega)) (hT.below hB))) rfl rfl ?_
    rintro _ W191 ⟨⟨a1, a2, rfl, ag1, ag2⟩, b190⟩
    replace h1 := h1.below b190
    replace h2 := h2.below b190
    replace hl0 := hl0.below b190
    replace hs0 := hs0.below b190
    replace hl1 := hl1.below b190
    replace hs1 := hs1.below b190
    replace k3 := k3.below b190
    replace k8 := k8.below b190
    replace k14 := k14.below b190
    replace hB := Qe hB b190
    replace hL := LL.below hL b190
    refine Pu rfl (Pu rfl (Pu rfl (Pu rfl ?_)))
    refine Ge (Qu rfl QV rfl) rfl rfl ?_
    rintro _ W192 ⟨rfl, k193, b194, z195⟩
    have n196 : w.heap.size ≠ W191.heap.size := Nat.ne_of_lt k3.lt
    have n197 : W2.heap.size ≠ W191.heap.size := Nat.ne_of_lt k8.lt
    have n198 : W7.heap.size ≠ W191.heap.size := Nat.ne_of_lt k14.lt
    have l199 := hB.size
    replace h1 := h1.more b194 (Nat.le_refl _)
    replace h2 := h2.more b194 (Nat.le_refl _)
    replace hl0 := hl0.more b194 (Nat.le_refl _)
    replace hs0 := hs0.more b194 (Nat.le_refl _)
    replace hl1 := hl1.more b194 (Nat.le_refl _)
    replace hs1 := hs1.more b194 (Nat.le_refl _)
    replace ag1 := ag1.more b194 (Nat.le_refl _)
    replace ag2 := ag2.more b194 (Nat.le_refl _)
    replace k3 := k3.below b194
    replace k8 := k8.below b194
    replace k14 := k14.below b194
    replace hB := Qe hB b194
    replace hL := LL.more hL z195
    refine Ge (Qu rfl Xv rfl) rfl rfl ?_
    rintro _ W200 ⟨rfl, k201, b202, z203⟩
    have n204 : w.heap.size ≠ W192.heap.size := Nat.ne_of_lt k3.lt
    have n205 : W2.heap.size ≠ W192.heap.size := Nat.ne_of_lt k8.lt
    have n206 : W7.heap.size ≠ W192.heap.size := Nat.ne_of_lt k14.lt
    have n207 : W191.heap.size ≠ W192.heap.size := Nat.ne_of_lt k193.lt
    have l208 := hB.size
    replace h1 := h1.more b202 (Nat.le_refl _)
    replace h2 := h2.more b202 (Nat.le_refl _)
    replace hl0 := hl0.more b202 (Nat.le_refl _)
    replace hs0 := hs0.more b202 (Nat.le_refl _)
    replace hl1 := hl1.more b202 (Nat.le_refl _)
    replace hs1 := hs1.more b202 (Nat.le_refl _)
    replace ag1 := ag1.more b202 (Nat.le_refl _)
    replace ag2 := ag2.more b202 (Nat.le_refl _)
    replace k3 := k3.below b202
    replace k8 := k8.below b202
    replace k14 := k14.below b202
    replace k193 := k193.below b202
    replace hB := Qe hB b202
    replace hL := LL.more hL z203
    refine WL.do (Qh (cs' := [a1, a2, .int .i64 ((QC Qb Qa Qd Qc 1 (rs0.map Prod.fst)).1.Qd), .bool ((QC Qb Qa Qd Qc 1 (rs0.map Prod.fst)).1.Qc)]) (vs := [a1, a2, .int .i64 ((QC Qb Qa Qd Qc 1 (rs0.map Prod.fst)).1.Qd), .bool ((QC Qb Qa Qd Qc 1 (rs0.map Prod.fst)).1.Qc)]) rfl Qj rfl rfl rfl (oC ag1.one (oC ag2.one (oC rfl (oC rfl Qk)))) k193 rfl (nB rfl) rfl) rfl ?_
    rintro _ W209 ⟨k211, o210⟩
    replace k3 := k3.other o210 n196
    replace k8 := k8.other o210 n197
    replace k14 := k14.other o210 n198
    replace k201 := k201.other o210 n207.symm
    clear k193
    replace h1 := h1.only o210 (.tail _ (.head _))
    replace h2 := h2.only o210 (.tail _ (.head _))
    replace hl0 := hl0.only o210 (.tail _ (.head _))
    replace hs0 := hs0.only o210 (.tail _ (.head _))
    replace hl1 := hl1.only o210 (.tail _ (.head _))
    replace hs1 := hs1.only o210 (.tail _ (.head _))
    replace ag1 := ag1.only o210 (.tail _ (.head _))
    replace ag2 := ag2.only o210 (.tail _ (.head _))
    replace hB := o210.below hB l199
    replace hL := LL.only hL o210
    refine WL.do (Qh (cs' := [.int .i64 ((QC Qb Qa Qd Qc 1 (rs0.map Prod.fst)).2.1), .int .i64 ((QC Qb Qa Qd Qc 1 (rs0.map Prod.fst)).2.2.1), .int .i64 ((QC Qb Qa Qd Qc 1 (rs0.map Prod.fst)).2.2.2)]) (vs := [.int .i64 ((QC Qb Qa Qd Qc 1 (rs0.map Prod.fst)).2.1), .int .i64 ((QC Qb Qa Qd Qc 1 (rs0.map Prod.fst)).2.2.1), .int .i64 ((QC Qb Qa Qd Qc 1 (rs0.map Prod.fst)).2.2.2)]) rfl Qs rfl rfl rfl (oC rfl (oC rfl (oC rfl Qk))) k201 rfl (nB rfl) rfl) rfl ?_
    rintro _ W212 ⟨k214, o213⟩
    replace k3 := k3.other o213 n204
    replace k8 := k8.other o213 n205
    replace k14 := k14.other o213 n206
    replace k211 := k211.other o213 n207
    clear k201
    replace h1 := h1.only o213 (.head _)
    replace h2 := h2.only o213 (.head _)
    replace hl0 := hl0.only o213 (.head _)
    replace hs0 := hs0.only o213 (.head _)
    replace hl1 := hl1.only o213 (.head _)
    replace hs1 := hs1.only o213 (.head _)
    replace ag1 := ag1.only o213 (.head _)
    replace ag2 := ag2.only o213 (.head _)
    replace hB := o213.below hB l208
    replace hL := LL.only hL o213
    refine Pu rfl (Ni (hK189 (Sq fun K215 hK215 => (Sq fun K216 hK216 => (Rg (Pu rfl (Va (Xl rfl rfl rfl) rfl rfl ?_)))))))
    refine Ni (hK216 ?_)
    refine WC.cond rfl (fun c217 => ?_) (fun c217 => ?_)
    .
     replace c217 := Q4 c217
     replace c217 := dF c217
     refine Sq fun K218 hK218 => (Rg (Va (Qg rfl Qf rfl k211.range rfl) rfl rfl (Va (QS rfl rfl (Xi (cs := [.int .i64 0, .int .i64 0, .int .i64 0]) (by kernel_rfl) Qk)) rfl rfl (Pu rfl ?_))))
     refine WL.do (Qh (cs' := [a1, a2, .int .i64 ((QC Qb Qa Qd Qc 1 (rs0.map Prod.fst)).1.Qd), .bool ((QC Qb Qa Qd Qc 1 (rs0.map Prod.fst)).1.Qc)]) (vs := [a1, a2, .int .i64 ((QC Qb Qa Qd Qc 1 (rs0.map Prod.fst)).1.Qd), .bool ((QC Qb Qa Qd Qc 1 (rs0.map Prod.fst)).1.Qc)]) rfl Qj rfl rfl rfl (oC ag1.one (oC ag2.one (oC rfl (oC rfl Qk)))) k8 rfl (nB rfl) rfl) rfl ?_
     rintro _ W219 ⟨k221, o220⟩
     replace k14 := k14.other o220 n18.symm
     clear k8
     replace ag1 := ag1.only o220 (.tail _ (.tail _ (.tail _ (.head _))))
     replace ag2 := ag2.only o220 (.tail _ (.tail _ (.tail _ (.head _))))
     replace hB := o220.below hB l12
     refine WL.do (Qh (cs' := [.int .i64 0, .int .i64 0, .int .i64 0]) (vs := [.int .i64 0, .int .i64 0, .int .i64 0]) rfl Qs rfl rfl rfl (oC rfl (oC rfl (oC rfl Qk))) k14 rfl (nB rfl) rfl) rfl ?_
     rintro _ W222 ⟨k224, o223⟩
     replace k221 := k221.other o223 n18
     clear k14
     replace ag1 := ag1.only o223 (.tail _ (.tail _ (.head _)))
     replace ag2 := ag2.only o223 (.tail _ (.tail _ (.head _)))
     replace hB := o223.below hB l19
     refine Pu rfl (Pu rfl (Ni (hK218 ?_)))
     exact WC.ret fun a_ ha_ => hQ (YQ rfl (.agg rfl Qf k221.range rfl) (.agg rfl Qq k224.range rfl) (.tmp rfl) (.tmp rfl) (by rw [Gc (by first | assumption | omega) hpk (by assumption)]; exact ⟨_, _, _, [], QdX (Jf (by assumption)), (ag1.less (fun x hx => (.tail _ (.tail _ (.tail _ (.tail _ (.tail _ hx))))))), (ag2.less (fun x hx => (.tail _ (.tail _ (.tail _ (.tail _ (.tail _ hx))))))), QD.nil (by decide), (fun r hr => by cases hr), (fun r hr => by cases hr), rfl⟩) hB ha_)
    .
     replace c217 := Q2 c217
     replace c217 := dT c217
     refine WC.skip (hK215 (Sq fun K225 hK225 => ?_))
     refine WC.drawC 5 [(3, W2.heap.size, [.slice none 0 0, .slice none 0 0, .int .i64 0, .bool false], fun cs_ _ => cs_ = [a1, a2, .int .i64 ((QC Qb Qa Qd Qc 1 (rs0.map Prod.fst)).1.Qd), .bool ((QC Qb Qa Qd Qc 1 (rs0.map Prod.fst)).1.Qc)]), (4, W7.heap.size, [.int .i64 0, .int .i64 0, .int .i64 0], fun cs_ _ => cs_ = [.int .i64 ((QC Qb Qa Qd Qc 1 (rs0.map Prod.fst)).2.1), .int .i64 ((QC Qb Qa Qd Qc 1 (rs0.map Prod.fst)).2.2.1), .int .i64 ((QC Qb Qa Qd Qc 1 (rs0.map Prod.fst)).2.2.2)])] [(some 64, .is (.agg #[a1, a2, .int .i64 ((QC Qb Qa Qd Qc 1 (rs0.map Prod.fst)).1.Qd), .bool ((QC Qb Qa Qd Qc 1 (rs0.map Prod.fst)).1.Qc)])), (some 65, .is (.agg #[.int .i64 ((QC Qb Qa Qd Qc 1 (rs0.map Prod.fst)).2.1), .int .i64 ((QC Qb Qa Qd Qc 1 (rs0.map Prod.fst)).2.2.1), .int .i64 ((QC Qb Qa Qd Qc 1 (rs0.map Prod.fst)).2.2.2)])), (some 66, .is (lv0)), (none, .by fun _ _ => True), (none, .by fun _ _ => True)] [[], [], [], [0, 0], [1, 3, 0, 1, 3]] ⟨fun _ _ _ _ h => h, fun _ _ _ _ h => h, trivial⟩ (mB ⟨fun _ _ _ _ h => h, fun _ _ _ _ h => h, trivial⟩ ⟨fun _ _ _ _ h => h, fun _ _ _ _ h => h, trivial⟩) ⟨fun x hx => (by simp only [List.mem_cons, List.not_mem_nil, or_false] at hx; subst hx; exact ⟨(show ¬ ((4 : Nat) = 3) by decide), n18.symm⟩), ⟨fun x hx => (by cases hx), trivial⟩⟩ (Xo (mB ⟨_, rfl⟩ ⟨_, rfl⟩)) (mB k8 k14) ?_ ?_
     .
      refine Ql.cons rfl (fun Wd hd hbs_ => ?_) ?_
      .
       have k211 := k211.chgM hd (by simp only [List.map_cons, List.map_nil, List.mem_cons, List.not_mem_nil, or_false, not_or]; exact ⟨n197.symm, n198.symm⟩)
       exact Dd (Qg rfl Qf rfl k211.range rfl) rfl
      refine Ql.cons rfl (fun Wd hd hbs_ => ?_) ?_
      .
       have k214 := k214.chgM hd (by simp only [List.map_cons, List.map_nil, List.mem_cons, List.not_mem_nil, or_false, not_or]; exact ⟨n205.symm, n206.symm⟩)
       exact Dd (Qg rfl Qq rfl k214.range rfl) rfl
      refine Ql.cons rfl (fun Wd hd hbs_ => ?_) ?_
      .
       exact Dd (Qt rfl rfl) rfl
      refine Ql.hit rfl (fun Wd hd hb_ => ?_) ?_
      .
       have ag1 := ag1.chgM hd (mB (.tail _ (.tail _ (.tail _ (.head _)))) (.tail _ (.tail _ (.head _))))
       have ag2 := ag2.chgM hd (mB (.tail _ (.tail _ (.tail _ (.head _)))) (.tail _ (.tail _ (.head _))))
       exact (Qx (vs := [a1, a2, .int .i64 ((QC Qb Qa Qd Qc 1 (rs0.map Prod.fst)).1.Qd), .bool ((QC Qb Qa Qd Qc 1 (rs0.map Prod.fst)).1.Qc)]) rfl Qj rfl rfl rfl (oC ag1.one (oC ag2.one (oC rfl (oC rfl Qk)))) hb_ rfl rfl).mono (fun _ W' h => ⟨h.2, Xj.is h.1, trivial⟩)
      refine Ql.hit rfl (fun Wd hd hb_ => ?_) ?_
      .
       intro u14_3 p14_3 u14_3 p14_3
       exact (Qx (vs := [.int .i64 ((QC Qb Qa Qd Qc 1 (rs0.map Prod.fst)).2.1), .int .i64 ((QC Qb Qa Qd Qc 1 (rs0.map Prod.fst)).2.2.1), .int .i64 ((QC Qb Qa Qd Qc 1 (rs0.map Prod.fst)).2.2.2)]) rfl Qs rfl rfl rfl (oC rfl (oC rfl (oC rfl Qk))) hb_ rfl rfl).mono (fun _ W' h => ⟨h.2, Xj.is h.1, trivial⟩)
      exact trivial
     .
      intro W226 hd hq_
      replace h1 := h1.chgM hd (mB (.tail _ (.tail _ (.tail _ (.head _)))) (.tail _ (.tail _ (.head _))))
      replace h2 := h2.chgM hd (mB (.tail _ (.tail _ (.tail _ (.head _)))) (.tail _ (.tail _ (.head _))))
      replace hl0 := hl0.chgM hd (mB (.tail _ (.tail _ (.tail _ (.head _)))) (.tail _ (.tail _ (.head _))))
      replace hs0 := hs0.chgM hd (mB (.tail _ (.tail _ (.tail _ (.head _)))) (.tail _ (.tail _ (.head _))))
      replace hl1 := hl1.chgM hd (mB (.tail _ (.tail _ (.tail _ (.head _)))) (.tail _ (.tail _ (.head _))))
      replace hs1 := hs1.chgM hd (mB (.tail _ (.tail _ (.tail _ (.head _)))) (.tail _ (.tail _ (.head _))))
      replace ag1 := ag1.chgM hd (mB (.tail _ (.tail _ (.tail _ (.head _)))) (.tail _ (.tail _ (.head _))))
      replace ag2 := ag2.chgM hd (mB (.tail _ (.tail _ (.tail _ (.head _)))) (.tail _ (.tail _ (.head _))))
      replace k3 := k3.chgM hd (by simp only [List.map_cons, List.map_nil, List.mem_cons, List.not_mem_nil, or_false, not_or]; exact ⟨n11, n17⟩)
      replace k211 := k211.chgM hd (by simp only [List.map_cons, List.map_nil, List.mem_cons, List.not_mem_nil, or_false, not_or]; exact ⟨n197.symm, n198.symm⟩)
      replace k214 := k214.chgM hd (by simp only [List.map_cons, List.map_nil, List.mem_cons, List.not_mem_nil, or_false, not_or]; exact ⟨n205.symm, n206.symm⟩)
      have k227 := hq_ _ (.head _)
      replace k227 := Xj.blk k227
      have k228 := hq_ _ (.tail _ (.head _))
      replace k228 := Xj.blk k228
      replace hB := hd.toBelow hB (mB l12 l19)
      replace hL := hL.chgM hd
      intro _ _
      intro _ _
      refine Pu rfl (Pu rfl (Ni (hK225 ?_)))
      exact WC.ret fun a_ ha_ => hQ (YQ rfl (.agg rfl Qf k227.range rfl) (.agg rfl Qq k228.range rfl) (.tmp rfl) (.tmp rfl) (by rw [J8 (by first | assumption | omega) hpk (by first | assumption | exact Classical.not_not.1 (by assumption))]; exact ⟨_, _, _, rs0, Gb (by first | assumption | exact Classical.not_not.1 (by assumption)), (ag1.less (fun x hx => (.tail _ (.tail _ (.tail _ (.tail _ (.tail _ hx))))))), (ag2.less (fun x hx => (.tail _ (.tail _ (.tail _ (.tail _ (.tail _ hx))))))), (hl0.less (fun x hx => (.tail _ (.tail _ (.tail _ (.tail _ (.tail _ hx))))))), (hs0.less (fun x hx => (.tail _ (.tail _ (.tail _ (.tail _ (.tail _ hx))))))), hy0, rfl⟩) hB ha_)

theorem YE.chgM {L : List Nat} {w w' : World} {rs : List PV} (h : YE L w rs) {Cs : List Nat} (g : VA Cs w w') (hC : ∀ C ∈ Cs, C ∈ L) : YE L w' rs := fun q hq => (h q hq).chgM g hC
theorem E6 {n half gen used : Int} (h : ZS n half gen used = 0) : (half = 0 \/ half = 1) /\ 1 <= gen /\ gen <= 1099511627776 /\ 1 <= used /\ used <= n / 2 := by
 unfold ZS at h
 split at h
 . cases h
 . omega
section
variable {Qb : List (List Int)} {Qa : List (Int × List Int)} {Qd : Int} {Qc : Bool} {half gen used : Int} {rec : List Int} {l : List (List Int)}
theorem Qbr (h : ¬ Xg Qb Qa Qc = 0) : X5 Qb Qa Qd Qc half gen used rec = (⟨Qb, Qa, Qd, Qc, Xg Qb Qa Qc⟩, half, gen, used) := if_pos h
theorem Qbn (h : Xg Qb Qa Qc = 0) (h2 : ¬ ZS (Qb.length : Int) half gen used = 0) : X5 Qb Qa Qd Qc half gen used rec = (⟨Qb, Qa, Qd, Qc, ZS (Qb.length : Int) half gen used⟩, half, gen, used) := by unfold X5; rw [if_neg (fun q => q h), if_pos h2]
theorem Qbp (h : Xg Qb Qa Qc = 0) (h2 : ZS (Qb.length : Int) half gen used = 0) (h3 : 4096 < rec.length) : X5 Qb Qa Qd Qc half gen used rec = (⟨Qb, Qa, Qd, Qc, 3⟩, half, gen, used) := by unfold X5; rw [if_neg (fun q => q h), if_neg (fun q => q h2), if_pos h3]
theorem Qbq (h : Xg Qb Qa Qc = 0) (h2 : ZS (Qb.length : Int) half gen used = 0) (h3 : ¬ 4096 < rec.length) (h4 : (Qb.length : Int) / 2 < used + ZD (rec.length : Int)) : X5 Qb Qa Qd Qc half gen used rec = (⟨Qb, Qa, Qd, Qc, 10⟩, half, gen, used) := by unfold X5; rw [if_neg (fun q => q h), if_neg (fun q => q h2), if_neg h3, if_pos h4]
theorem Qbo (h : Xg Qb Qa Qc = 0) (h2 : ZS (Qb.length : Int) half gen used = 0) (h3 : ¬ 4096 < rec.length) (h4 : ¬ (Qb.length : Int) / 2 < used + ZD (rec.length : Int)) {d : DO} (hd : d = Q9 (XQ Qb Qa Qd Qc) (half * ((Qb.length : Int) / 2)) (Xw gen used rec)) (he : (Xx (XQ Qb Qa Qd Qc) (X0 d)).err = 0) : X5 Qb Qa Qd Qc half gen used rec = (Xx (XQ Qb Qa Qd Qc) (X0 d), half, gen, used + ZD (rec.length : Int)) := by
 subst hd
 unfold X5; rw [if_neg (fun q => q h), if_neg (fun q => q h2), if_neg h3, if_neg h4]; exact if_pos he
theorem Qbm (h : Xg Qb Qa Qc = 0) (h2 : ZS (Qb.length : Int) half gen used = 0) (h3 : ¬ 4096 < rec.length) (h4 : ¬ (Qb.length : Int) / 2 < used + ZD (rec.length : Int)) {d : DO} (hd : d = Q9 (XQ Qb Qa Qd Qc) (half * ((Qb.length : Int) / 2)) (Xw gen used rec)) (he : ¬ (Xx (XQ Qb Qa Qd Qc) (X0 d)).err = 0) : X5 Qb Qa Qd Qc half gen used rec = (Xx (XQ Qb Qa Qd Qc) (X0 d), half, gen, used) := by
 subst hd
 unfold X5; rw [if_neg (fun q => q h), if_neg (fun q => q h2), if_neg h3, if_neg h4]; exact if_neg he
theorem GD (n : Int) : 0 <= ZD n /\ ZD n <= 41 := by
 unfold ZD
 split
 . omega
 . split <;> omega
end
set_option maxHeartbeats 1000000 in
theorem Qde (Qb : List (List Int)) (Qa : List (Int × List Int)) (Qd : Int) (Qc : Bool) (s1 s2 : Value) (half gen used : Int) (rec : List Int) (rv : Value) (w : World) (L : List Nat) (hL : LL L w) (h1 : QD 128 L w s1 (Qb.map Qr)) (h2 : QD 129 L w s2 (Qa.map QG)) (h3 : QD 1 L w rv (Vw rec))  (hfu : -9223372036854775808 <= Qd /\ Qd <= 9223372036854775807) (hbd : YL Qb Qa) (hrb : Z0 rec) (hul : -9223372036854775808 <= used /\ used <= 9223372036854775807) (hrm : rec.length <= 1000000000) (hT : ZM w) : CV Tryd.prog 18 [.agg #[s1, s2, .int .i64 Qd, .bool Qc], .agg #[.int .i64 half, .int .i64 gen, .int .i64 used], rv] w fun v W => ∃ t1 t2, v = .tuple #[.agg #[t1, t2, .int .i64 (X5 Qb Qa Qd Qc half gen used rec).1.Qd, .bool (X5 Qb Qa Qd Qc half gen used rec).1.Qc], .agg #[.int .i64 (X5 Qb Qa Qd Qc half gen used rec).2.1, .int .i64 (X5 Qb Qa Qd Qc half gen used rec).2.2.1, .int .i64 (X5 Qb Qa Qd Qc half gen used rec).2.2.2], .int .i64 (X5 Qb Qa Qd Qc half gen used rec).1.err] /\ QD 128 L W t1 ((X5 Qb Qa Qd Qc half gen used rec).1.Qb.map Qr) /\ QD 129 L W t2 ((X5 Qb Qa Qd Qc half gen used rec).1.Qa.map QG) := by
 refine QN (N := 93) (f := [(0, .agg #[s1, s2, .int .i64 Qd, .bool Qc]), (1, .agg #[.int .i64 half, .int .i64 gen, .int .i64 used]), (2, rv)]) Tryd.func18 rfl rfl rfl rfl fun Q hQ hE => ?_
 have hB := Below.refl w.heap.size w
 have h1m : Qb.length <= maxLen := by have := h1.len; rwa [List.length_map] at this
 unfold maxLen at h1m
 have h2m : Qa.length <= maxLen := by have := h2.len; rwa [List.length_map] at this
 unfold maxLen at h2m
 refine Sq fun K1 hK1 => (Rg ?_)
 refine Ge (Xa rfl rfl rfl) rfl rfl ?_
 rintro _ W2 ⟨rfl, k3, b4, z5⟩
 have l6 := hB.size
 replace h1 := h1.more b4 (Nat.le_refl _)
 replace h2 := h2.more b4 (Nat.le_refl _)
 replace h3 := h3.more b4 (Nat.le_refl _)
 replace hB := Qe hB b4
 replace hL := LL.more hL z5
 refine Ge (Xa rfl rfl rfl) rfl rfl ?_
 rintro _ W7 ⟨rfl, k8, b9, z10⟩
 have n11 : w.heap.size ≠ W2.heap.size := Nat.ne_of_lt k3.lt
 have l12 := hB.size
 replace h1 := h1.more b9 (Nat.le_refl _)
 replace h2 := h2.more b9 (Nat.le_refl _)
 replace h3 := h3.more b9 (Nat.le_refl _)
 replace k3 := k3.below b9
 replace hB := Qe hB b9
 replace hL := LL.more hL z10
 refine Ge (Qu rfl QV rfl) rfl rfl ?_
 rintro _ W13 ⟨rfl, k14, b15, z16⟩
 have n17 : w.heap.size ≠ W7.heap.size := Nat.ne_of_lt k3.lt
 have n18 : W2.heap.size ≠ W7.heap.size := Nat.ne_of_lt k8.lt
 have l19 := hB.size
 replace h1 := h1.more b15 (Nat.le_refl _)
 replace h2 := h2.more b15 (Nat.le_refl _)
 replace h3 := h3.more b15 (Nat.le_refl _)
 replace k3 := k3.below b15
 replace k8 := k8.below b15
 replace hB := Qe hB b15
 replace hL := LL.more hL z16
 refine Ge (Qu rfl Xv rfl) rfl rfl ?_
 rintro _ W20 ⟨rfl, k21, b22, z23⟩
 have n24 : w.heap.size ≠ W13.heap.size := Nat.ne_of_lt k3.lt
 have n25 : W2.heap.size ≠ W13.heap.size := Nat.ne_of_lt k8.lt
 have n26 : W7.heap.size ≠ W13.heap.size := Nat.ne_of_lt k14.lt
 have l27 := hB.size
 replace h1 := h1.more b22 (Nat.le_refl _)
 replace h2 := h2.more b22 (Nat.le_refl _)
 replace h3 := h3.more b22 (Nat.le_refl _)
 replace k3 := k3.below b22
 replace k8 := k8.below b22
 replace k14 := k14.below b22
 replace hB := Qe hB b22
 replace hL := LL.more hL z23
 refine Pu rfl (Ni (hK1 (Sq fun K28 hK28 => (Sq fun K29 hK29 => (Rg (Va (Qg rfl Qf rfl k3.range rfl) rfl rfl ?_))))))
 refine Ge (QQ rfl Tryd.func32 rfl rfl rfl (Km Qb Qa Qd Qc _ _ W20 _ hL h1 h2)) rfl rfl ?_
 rintro _ W31 ⟨rfl, b30⟩
 replace h1 := h1.below b30
 replace h2 := h2.below b30
 replace h3 := h3.below b30
 replace k3 := k3.below b30
 replace k8 := k8.below b30
 replace k14 := k14.below b30
 replace k21 := k21.below b30
 replace hB := Qe hB b30
 replace hL := LL.below hL b30
 refine Pu rfl (Ni (hK29 (Sq fun K32 hK32 => (Rg (Pu rfl (Va (Xl rfl rfl rfl) rfl rfl (Ni ?_)))))))
 refine hK32 ?_
 refine WC.cond rfl (fun c33 => ?_) (fun c33 => ?_)
 .
  replace c33 := Q4 c33
  replace c33 := dF c33
  refine Sq fun K34 hK34 => ?_
  refine WC.drawC 5 [(3, W7.heap.size, [.slice none 0 0, .slice none 0 0, .int .i64 0, .bool false], fun cs_ _ => cs_ = [s1, s2, .int .i64 Qd, .bool Qc]), (4, W13.heap.size, [.int .i64 0, .int .i64 0, .int .i64 0], fun cs_ _ => cs_ = [.int .i64 half, .int .i64 gen, .int .i64 used])] [(some 20, .is (.agg #[s1, s2, .int .i64 Qd, .bool Qc])), (some 21, .is (.agg #[.int .i64 half, .int .i64 gen, .int .i64 used])), (some 22, .is (.int .i64 (Xg Qb Qa Qc))), (none, .by fun _ _ => True), (none, .by fun _ _ => True)] [[], [], [], [0, 0], [1, 3, 0, 1, 3]] ⟨fun _ _ _ _ h => h, fun _ _ _ _ h => h, trivial⟩ (mB ⟨fun _ _ _ _ h => h, fun _ _ _ _ h => h, trivial⟩ ⟨fun _ _ _ _ h => h, fun _ _ _ _ h => h, trivial⟩) ⟨fun x hx => (by simp only [List.mem_cons, List.not_mem_nil, or_false] at hx; subst hx; exact ⟨(show ¬ ((4 : Nat) = 3) by decide), n26.symm⟩), ⟨fun x hx => (by cases hx), trivial⟩⟩ (Xo (mB ⟨_, rfl⟩ ⟨_, rfl⟩)) (mB k14 k21) ?_ ?_
  .
   refine Ql.cons rfl (fun Wd hd hbs_ => ?_) ?_
   .
    have k3 := k3.chgM hd (by simp only [List.map_cons, List.map_nil, List.mem_cons, List.not_mem_nil, or_false, not_or]; exact ⟨n17, n24⟩)
    exact Dd (Qg rfl Qf rfl k3.range rfl) rfl
   refine Ql.cons rfl (fun Wd hd hbs_ => ?_) ?_
   .
    have k8 := k8.chgM hd (by simp only [List.map_cons, List.map_nil, List.mem_cons, List.not_mem_nil, or_false, not_or]; exact ⟨n18, n25⟩)
    exact Dd (Qg rfl Qq rfl k8.range rfl) rfl
   refine Ql.cons rfl (fun Wd hd hbs_ => ?_) ?_
   .
    exact Dd (Qt rfl rfl) rfl
   refine Ql.hit rfl (fun Wd hd hb_ => ?_) ?_
   .
    have h1 := h1.chgM hd (mB (.tail _ (.head _)) (.head _))
    have h2 := h2.chgM hd (mB (.tail _ (.head _)) (.head _))
    exact (Qx (vs := [s1, s2, .int .i64 Qd, .bool Qc]) rfl Qj rfl rfl rfl (oC h1.one (oC h2.one (oC rfl (oC rfl Qk)))) hb_ rfl rfl).mono (fun _ W' h => ⟨h.2, Xj.is h.1, trivial⟩)
   refine Ql.hit rfl (fun Wd hd hb_ => ?_) ?_
   .
    intro u3_3 p3_3 u3_3 p3_3
    exact (Qx (vs := [.int .i64 half, .int .i64 gen, .int .i64 used]) rfl Qs rfl rfl rfl (oC rfl (oC rfl (oC rfl Qk))) hb_ rfl rfl).mono (fun _ W' h => ⟨h.2, Xj.is h.1, trivial⟩)
   exact trivial
  .
   intro W35 hd hq_
   replace h1 := h1.chgM hd (mB (.tail _ (.head _)) (.head _))
   replace h2 := h2.chgM hd (mB (.tail _ (.head _)) (.head _))
   replace h3 := h3.chgM hd (mB (.tail _ (.head _)) (.head _))
   replace k3 := k3.chgM hd (by simp only [List.map_cons, List.map_nil, List.mem_cons, List.not_mem_nil, or_false, not_or]; exact ⟨n17, n24⟩)
   replace k8 := k8.chgM hd (by simp only [List.map_cons, List.map_nil, List.mem_cons, List.not_mem_nil, or_false, not_or]; exact ⟨n18, n25⟩)
   have k36 := hq_ _ (.head _)
   replace k36 := Xj.blk k36
   have k37 := hq_ _ (.tail _ (.head _))
   replace k37 := Xj.blk k37
   replace hB := hd.toBelow hB (mB l19 l27)
   replace hL := hL.chgM hd
   intro _ _
   intro _ _
   refine Pu rfl (Ni (hK34 ?_))
   exact WC.ret fun a_ ha_ => hQ (Xh rfl (.agg rfl Qf k36.range rfl) (.agg rfl Qq k37.range rfl) (.tmp rfl) (by rw [Qbr (by first | assumption | omega)]; exact ⟨_, _, rfl, (h1.less (fun x hx => (.tail _ (.tail _ (.tail _ (.tail _ hx)))))), (h2.less (fun x hx => (.tail _ (.tail _ (.tail _ (.tail _ hx))))))⟩) hB ha_)
 .
  replace c33 := Q2 c33
  replace c33 := dT c33
  refine WC.skip (hK28 (Sq fun K38 hK38 => (Sq fun K39 hK39 => ?_)))
  obtain ⟨hr1, hr2, hr3, hr4⟩ := Un (Qb := Qb) (Qa := Qa) (Qc := Qc) (by first | assumption | omega)
  refine Rg (Va (Qg rfl Qf rfl k3.range rfl) rfl rfl (Va (Qg rfl Qq rfl k8.range rfl) rfl rfl ?_))
  refine Ge (QQ rfl Tryd.func40 rfl rfl rfl (Qes Qb Qa Qd Qc _ _ half gen used W31 _ hL h1 h2 (by omega))) rfl rfl ?_
  rintro _ W41 ⟨rfl, b40⟩
  replace h1 := h1.below b40
  replace h2 := h2.below b40
  replace h3 := h3.below b40
  replace k3 := k3.below b40
  replace k8 := k8.below b40
  replace k14 := k14.below b40
  replace k21 := k21.below b40
  replace hB := Qe hB b40
  replace hL := LL.below hL b40
  refine Pu rfl (Ni (hK39 (Sq fun K42 hK42 => (Rg (Pu rfl (Va (Xl rfl rfl rfl) rfl rfl (Ni ?_)))))))
  refine hK42 ?_
  refine WC.cond rfl (fun c43 => ?_) (fun c43 => ?_)
  .
   replace c43 := Q4 c43
   replace c43 := dF c43
   refine Sq fun K44 hK44 => ?_
   refine WC.drawC 5 [(3, W7.heap.size, [.slice none 0 0, .slice none 0 0, .int .i64 0, .bool false], fun cs_ _ => cs_ = [s1, s2, .int .i64 Qd, .bool Qc]), (4, W13.heap.size, [.int .i64 0, .int .i64 0, .int .i64 0], fun cs_ _ => cs_ = [.int .i64 half, .int .i64 gen, .int .i64 used])] [(some 28, .is (.agg #[s1, s2, .int .i64 Qd, .bool Qc])), (some 29, .is (.agg #[.int .i64 half, .int .i64 gen, .int .i64 used])), (some 30, .is (.int .i64 (ZS (Qb.length : Int) half gen used))), (none, .by fun _ _ => True), (none, .by fun _ _ => True)] [[], [], [], [0, 0], [1, 3, 0, 1, 3]] ⟨fun _ _ _ _ h => h, fun _ _ _ _ h => h, trivial⟩ (mB ⟨fun _ _ _ _ h => h, fun _ _ _ _ h => h, trivial⟩ ⟨fun _ _ _ _ h => h, fun _ _ _ _ h => h, trivial⟩) ⟨fun x hx => (by simp only [List.mem_cons, List.not_mem_nil, or_false] at hx; subst hx; exact ⟨(show ¬ ((4 : Nat) = 3) by decide), n26.symm⟩), ⟨fun x hx => (by cases hx), trivial⟩⟩ (Xo (mB ⟨_, rfl⟩ ⟨_, rfl⟩)) (mB k14 k21) ?_ ?_
   .
    refine Ql.cons rfl (fun Wd hd hbs_ => ?_) ?_
    .
     have k3 := k3.chgM hd (by simp only [List.map_cons, List.map_nil, List.mem_cons, List.not_mem_nil, or_false, not_or]; exact ⟨n17, n24⟩)
     exact Dd (Qg rfl Qf rfl k3.range rfl) rfl
    refine Ql.cons rfl (fun Wd hd hbs_ => ?_) ?_
    .
     have k8 := k8.chgM hd (by simp only [List.map_cons, List.map_nil, List.mem_cons, List.not_mem_nil, or_false, not_or]; exact ⟨n18, n25⟩)
     exact Dd (Qg rfl Qq rfl k8.range rfl) rfl
    refine Ql.cons rfl (fun Wd hd hbs_ => ?_) ?_
    .
     exact Dd (Qt rfl rfl) rfl
    refine Ql.hit rfl (fun Wd hd hb_ => ?_) ?_
    .
     have h1 := h1.chgM hd (mB (.tail _ (.head _)) (.head _))
     have h2 := h2.chgM hd (mB (.tail _ (.head _)) (.head _))
     exact (Qx (vs := [s1, s2, .int .i64 Qd, .bool Qc]) rfl Qj rfl rfl rfl (oC h1.one (oC h2.one (oC rfl (oC rfl Qk)))) hb_ rfl rfl).mono (fun _ W' h => ⟨h.2, Xj.is h.1, trivial⟩)
    refine Ql.hit rfl (fun Wd hd hb_ => ?_) ?_
    .
     intro u6_3 p6_3 u6_3 p6_3
     exact (Qx (vs := [.int .i64 half, .int .i64 gen, .int .i64 used]) rfl Qs rfl rfl rfl (oC rfl (oC rfl (oC rfl Qk))) hb_ rfl rfl).mono (fun _ W' h => ⟨h.2, Xj.is h.1, trivial⟩)
    exact trivial
   .
    intro W45 hd hq_
    replace h1 := h1.chgM hd (mB (.tail _ (.head _)) (.head _))
    replace h2 := h2.chgM hd (mB (.tail _ (.head _)) (.head _))
    replace h3 := h3.chgM hd (mB (.tail _ (.head _)) (.head _))
    replace k3 := k3.chgM hd (by simp only [List.map_cons, List.map_nil, List.mem_cons, List.not_mem_nil, or_false, not_or]; exact ⟨n17, n24⟩)
    replace k8 := k8.chgM hd (by simp only [List.map_cons, List.map_nil, List.mem_cons, List.not_mem_nil, or_false, not_or]; exact ⟨n18, n25⟩)
    have k46 := hq_ _ (.head _)
    replace k46 := Xj.blk k46
    have k47 := hq_ _ (.tail _ (.head _))
    replace k47 := Xj.blk k47
    replace hB := hd.toBelow hB (mB l19 l27)
    replace hL := hL.chgM hd
    intro _ _
    intro _ _
    refine Pu rfl (Ni (hK44 ?_))
    exact WC.ret fun a_ ha_ => hQ (Xh rfl (.agg rfl Qf k46.range rfl) (.agg rfl Qq k47.range rfl) (.tmp rfl) (by rw [Qbn (by first | assumption | omega) (by first | assumption | omega)]; exact ⟨_, _, rfl, (h1.less (fun x hx => (.tail _ (.tail _ (.tail _ (.tail _ hx)))))), (h2.less (fun x hx => (.tail _ (.tail _ (.tail _ (.tail _ hx))))))⟩) hB ha_)
  .
   replace c43 := Q2 c43
   replace c43 := dT c43
   refine WC.skip (hK38 (Sq fun K48 hK48 => (Sq fun K49 hK49 => ?_)))
   obtain ⟨hl1, hl2, hl3, hl4, hl5⟩ := E6 (n := (Qb.length : Int)) (half := half) (gen := gen) (used := used) (by first | assumption | omega)
   refine Rg (Pu rfl (Va (ZX (Ym rfl QH rfl h3) (show _ = Value.int .i64 (rec.length : Int) by rw [List.length_map])) rfl rfl (Va (XL rfl rfl rfl) rfl rfl (Ni (hK49 ?_)))))
   refine WC.cond rfl (fun c50 => ?_) (fun c50 => ?_)
   .
    replace c50 := dT c50
    refine Sq fun K51 hK51 => ?_
    refine WC.drawC 3 [(2, W7.heap.size, [.slice none 0 0, .slice none 0 0, .int .i64 0, .bool false], fun cs_ _ => cs_ = [s1, s2, .int .i64 Qd, .bool Qc])] [(some 34, .is (.agg #[s1, s2, .int .i64 Qd, .bool Qc])), (some 35, .is (.agg #[.int .i64 half, .int .i64 gen, .int .i64 used])), (none, .by fun _ _ => True)] [[], [], [0, 0]] ⟨fun _ _ _ _ h => h, trivial⟩ (mA ⟨fun _ _ _ _ h => h, trivial⟩) ⟨fun x hx => (by cases hx), trivial⟩ (Xo (mA ⟨_, rfl⟩)) (mA k14) ?_ ?_
    .
     refine Ql.cons rfl (fun Wd hd hbs_ => ?_) ?_
     .
      have k3 := k3.chgM hd (by simp only [List.map_cons, List.map_nil, List.mem_cons, List.not_mem_nil, or_false, not_or]; exact n17)
      exact Dd (Qg rfl Qf rfl k3.range rfl) rfl
     refine Ql.cons rfl (fun Wd hd hbs_ => ?_) ?_
     .
      have k8 := k8.chgM hd (by simp only [List.map_cons, List.map_nil, List.mem_cons, List.not_mem_nil, or_false, not_or]; exact n18)
      exact Dd (Qg rfl Qq rfl k8.range rfl) rfl
     refine Ql.hit rfl (fun Wd hd hb_ => ?_) ?_
     .
      have h1 := h1.chgM hd (mA (.tail _ (.head _)))
      have h2 := h2.chgM hd (mA (.tail _ (.head _)))
      exact (Qx (vs := [s1, s2, .int .i64 Qd, .bool Qc]) rfl Qj rfl rfl rfl (oC h1.one (oC h2.one (oC rfl (oC rfl Qk)))) hb_ rfl rfl).mono (fun _ W' h => ⟨h.2, Xj.is h.1, trivial⟩)
     exact trivial
    .
     intro W52 hd hq_
     replace h1 := h1.chgM hd (mA (.tail _ (.head _)))
     replace h2 := h2.chgM hd (mA (.tail _ (.head _)))
     replace h3 := h3.chgM hd (mA (.tail _ (.head _)))
     replace k3 := k3.chgM hd (by simp only [List.map_cons, List.map_nil, List.mem_cons, List.not_mem_nil, or_false, not_or]; exact n17)
     replace k8 := k8.chgM hd (by simp only [List.map_cons, List.map_nil, List.mem_cons, List.not_mem_nil, or_false, not_or]; exact n18)
     replace k21 := k21.chgM hd (by simp only [List.map_cons, List.map_nil, List.mem_cons, List.not_mem_nil, or_false, not_or]; exact n26.symm)
     have k53 := hq_ _ (.head _)
     replace k53 := Xj.blk k53
     replace hB := hd.toBelow hB (mA l19)
     replace hL := hL.chgM hd
     intro _ _
     refine WL.do (Qh (cs' := [.int .i64 half, .int .i64 gen, .int .i64 used]) (vs := [.int .i64 half, .int .i64 gen, .int .i64 used]) rfl Qs rfl rfl rfl (oC rfl (oC rfl (oC rfl Qk))) k21 rfl (nB rfl) rfl) rfl ?_
     rintro _ W54 ⟨k56, o55⟩
     replace k53 := k53.other o55 n26
     clear k21
     replace h1 := h1.only o55 (.head _)
     replace h2 := h2.only o55 (.head _)
     replace hB := o55.below hB l27
     refine Pu rfl (Ni (hK51 ?_))
     exact WC.ret fun a_ ha_ => hQ (Xh rfl (.agg rfl Qf k53.range rfl) (.agg rfl Qq k56.range rfl) (.tmp rfl) (by rw [Qbp (by first | assumption | omega) (by first | assumption | omega) (by first | assumption | omega)]; exact ⟨_, _, rfl, (h1.less (fun x hx => (.tail _ (.tail _ (.tail _ (.tail _ hx)))))), (h2.less (fun x hx => (.tail _ (.tail _ (.tail _ (.tail _ hx))))))⟩) hB ha_)
   .
    replace c50 := dF c50
    refine WC.skip (hK48 (Sq fun K57 hK57 => (Rg (Va (Qg rfl Qf rfl k3.range rfl) rfl rfl (Va (Qn (o1 := 0) rfl ZC rfl rfl) rfl rfl (Va (Qi rfl Qv rfl (k8.cell (k := 0) rfl)) rfl rfl ?_))))))
    refine Ge (QQ rfl Tryd.func38 rfl rfl rfl (Kh Qb Qa Qd Qc _ _ half W41 _ hL h1 h2 hl1 (by omega))) rfl rfl ?_
    rintro _ W59 ⟨rfl, b58⟩
    replace h1 := h1.below b58
    replace h2 := h2.below b58
    replace h3 := h3.below b58
    replace k3 := k3.below b58
    replace k8 := k8.below b58
    replace k14 := k14.below b58
    replace k21 := k21.below b58
    replace hB := Qe hB b58
    replace hL := LL.below hL b58
    refine Va (QS rfl rfl (Hm _ _ _ _ _ _)) rfl rfl ?_
    refine Ge (Xa rfl rfl rfl) rfl rfl ?_
    rintro _ W60 ⟨rfl, k61, b62, z63⟩
    have n64 : w.heap.size ≠ W59.heap.size := Nat.ne_of_lt k3.lt
    have n65 : W2.heap.size ≠ W59.heap.size := Nat.ne_of_lt k8.lt
    have n66 : W7.heap.size ≠ W59.heap.size := Nat.ne_of_lt k14.lt
    have n67 : W13.heap.size ≠ W59.heap.size := Nat.ne_of_lt k21.lt
    have l68 := hB.size
    replace h1 := h1.more b62 (Nat.le_refl _)
    replace h2 := h2.more b62 (Nat.le_refl _)
    replace h3 := h3.more b62 (Nat.le_refl _)
    replace k3 := k3.below b62
    replace k8 := k8.below b62
    replace k14 := k14.below b62
    replace k21 := k21.below b62
    replace hB := Qe hB b62
    replace hL := LL.more hL z63
    refine Pu rfl (Ni (hK57 (Sq fun K69 hK69 => (Sq fun K70 hK70 => ?_))))
    have hsd := GD (rec.length : Int)
    have hhf : 0 <= (half * ((Qb.length : Int) / 2)) /\ (half * ((Qb.length : Int) / 2)) <= 100000 := by rcases hl1 with h_ | h_ <;> rw [h_] <;> omega
    refine dM 11 [(some 42, .is (.pointer (some ⟨W2.heap.size, 2, none⟩))), (some 43, .is (.int .i64 used)), (some 44, .is (rv)), (some 45, .is (.int .i64 (rec.length : Int))), (some 46, .is (.int .i64 (ZD (rec.length : Int)))), (some 47, .is (.int .i64 (used + (ZD (rec.length : Int))))), (some 48, .is (.pointer (some ⟨W59.heap.size, 0, none⟩))), (some 49, .is (.pointer (some ⟨W59.heap.size, 0, none⟩))), (some 50, .is (.pointer (some ⟨W59.heap.size, 0, none⟩))), (some 51, .is (.pointer (some ⟨W59.heap.size, 5, none⟩))), (some 52, .is (.int .i64 ((Qb.length : Int) / 2)))] [[], [0], [], [2], [3], [1, 4], [], [6], [7], [8], [9]] (by exact trivial) ?_ ?_
    .
     refine Dc (fun Wd hd => ?_) ?_
     .
      exact Dd (Qn (o1 := 2) rfl XB rfl rfl) rfl
     refine Dc (fun Wd hd => ?_) ?_
     .
      have k8 := k8.below hd
      exact Dd (Qi rfl Qv rfl (k8.cell (k := 2) rfl)) rfl
     refine Dc (fun Wd hd => ?_) ?_
     .
      exact Dd (Qt rfl rfl) rfl
     refine Dc (fun Wd hd => ?_) ?_
     .
      have h3 := h3.below hd
      exact Dd (ZX (Ym rfl QH rfl h3) (show _ = Value.int .i64 (rec.length : Int) by rw [List.length_map])) rfl
     refine Dc (fun Wd hd => ?_) ?_
     .
      exact DR.mono (QQ rfl Tryd.func22 rfl rfl rfl (EW (rec.length : Int) Wd [] (LL.nil _) (by omega))) (fun v W' ⟨h, hb⟩ => ⟨hb, (by rw [h]; exact rfl)⟩)
     refine Dc (fun Wd hd => ?_) ?_
     .
      exact Dd (QR (r := used + (ZD (rec.length : Int))) rfl rfl rfl (Qm (by omega))) rfl
     refine Dc (fun Wd hd => ?_) ?_
     .
      exact Dd (Qt rfl rfl) rfl
     refine Dc (fun Wd hd => ?_) ?_
     .
      exact Dd (QZ rfl rfl) rfl
     refine Dc (fun Wd hd => ?_) ?_
     .
      exact Dd (Qn (o1 := 0) rfl ZA rfl rfl) rfl
     refine Dc (fun Wd hd => ?_) ?_
     .
      exact Dd (Qn (o1 := 5) rfl V4 rfl rfl) rfl
     refine Dc (fun Wd hd => ?_) ?_
     .
      have k61 := k61.below hd
      exact Dd (Qi rfl Qv rfl (k61.cell (k := 5) rfl)) rfl
     exact trivial
    .
     intro W71 b72
     replace h1 := h1.below b72
     replace h2 := h2.below b72
     replace h3 := h3.below b72
     replace k3 := k3.below b72
     replace k8 := k8.below b72
     replace k14 := k14.below b72
     replace k21 := k21.below b72
     replace k61 := k61.below b72
     replace hB := Qe hB b72
     replace hL := LL.below hL b72
     refine Va (XL rfl rfl rfl) rfl rfl (Ni (hK70 ?_))
     refine WC.cond rfl (fun c73 => ?_) (fun c73 => ?_)
     .
      replace c73 := dT c73
      refine Sq fun K74 hK74 => ?_
      refine WC.drawC 3 [(2, W7.heap.size, [.slice none 0 0, .slice none 0 0, .int .i64 0, .bool false], fun cs_ _ => cs_ = [s1, s2, .int .i64 Qd, .bool Qc])] [(some 54, .is (.agg #[s1, s2, .int .i64 Qd, .bool Qc])), (some 55, .is (.agg #[.int .i64 half, .int .i64 gen, .int .i64 used])), (none, .by fun _ _ => True)] [[], [], [0, 0]] ⟨fun _ _ _ _ h => h, trivial⟩ (mA ⟨fun _ _ _ _ h => h, trivial⟩) ⟨fun x hx => (by cases hx), trivial⟩ (Xo (mA ⟨_, rfl⟩)) (mA k14) ?_ ?_
      .
       refine Ql.cons rfl (fun Wd hd hbs_ => ?_) ?_
       .
        have k3 := k3.chgM hd (by simp only [List.map_cons, List.map_nil, List.mem_cons, List.not_mem_nil, or_false, not_or]; exact n17)
        exact Dd (Qg rfl Qf rfl k3.range rfl) rfl
       refine Ql.cons rfl (fun Wd hd hbs_ => ?_) ?_
       .
        have k8 := k8.chgM hd (by simp only [List.map_cons, List.map_nil, List.mem_cons, List.not_mem_nil, or_false, not_or]; exact n18)
        exact Dd (Qg rfl Qq rfl k8.range rfl) rfl
       refine Ql.hit rfl (fun Wd hd hb_ => ?_) ?_
       .
        have h1 := h1.chgM hd (mA (.tail _ (.tail _ (.head _))))
        have h2 := h2.chgM hd (mA (.tail _ (.tail _ (.head _))))
        exact (Qx (vs := [s1, s2, .int .i64 Qd, .bool Qc]) rfl Qj rfl rfl rfl (oC h1.one (oC h2.one (oC rfl (oC rfl Qk)))) hb_ rfl rfl).mono (fun _ W' h => ⟨h.2, Xj.is h.1, trivial⟩)
       exact trivial
      .
       intro W75 hd hq_
       replace h1 := h1.chgM hd (mA (.tail _ (.tail _ (.head _))))
       replace h2 := h2.chgM hd (mA (.tail _ (.tail _ (.head _))))
       replace h3 := h3.chgM hd (mA (.tail _ (.tail _ (.head _))))
       replace k3 := k3.chgM hd (by simp only [List.map_cons, List.map_nil, List.mem_cons, List.not_mem_nil, or_false, not_or]; exact n17)
       replace k8 := k8.chgM hd (by simp only [List.map_cons, List.map_nil, List.mem_cons, List.not_mem_nil, or_false, not_or]; exact n18)
       replace k21 := k21.chgM hd (by simp only [List.map_cons, List.map_nil, List.mem_cons, List.not_mem_nil, or_false, not_or]; exact n26.symm)
       replace k61 := k61.chgM hd (by simp only [List.map_cons, List.map_nil, List.mem_cons, List.not_mem_nil, or_false, not_or]; exact n66.symm)
       have k76 := hq_ _ (.head _)
       replace k76 := Xj.blk k76
       replace hB := hd.toBelow hB (mA l19)
       replace hL := hL.chgM hd
       intro _ _
       refine WL.do (Qh (cs' := [.int .i64 half, .int .i64 gen, .int .i64 used]) (vs := [.int .i64 half, .int .i64 gen, .int .i64 used]) rfl Qs rfl rfl rfl (oC rfl (oC rfl (oC rfl Qk))) k21 rfl (nB rfl) rfl) rfl ?_
       rintro _ W77 ⟨k79, o78⟩
       replace k76 := k76.other o78 n26
       clear k21
       replace h1 := h1.only o78 (.tail _ (.head _))
       replace h2 := h2.only o78 (.tail _ (.head _))
       replace hB := o78.below hB l27
       refine Pu rfl (Ni (hK74 ?_))
       exact WC.ret fun a_ ha_ => hQ (Xh rfl (.agg rfl Qf k76.range rfl) (.agg rfl Qq k79.range rfl) (.tmp rfl) (by rw [Qbq (by first | assumption | omega) (by first | assumption | omega) (by first | assumption | omega) (by first | assumption | omega)]; exact ⟨_, _, rfl, (h1.less (fun x hx => (.tail _ (.tail _ (.tail _ (.tail _ (.tail _ hx))))))), (h2.less (fun x hx => (.tail _ (.tail _ (.tail _ (.tail _ (.tail _ hx)))))))⟩) hB ha_)
     .
      replace c73 := dF c73
      refine WC.skip (hK69 (Sq fun K80 hK80 => (Sq fun K81 hK81 => ?_)))
      have h1w := h1
      have h2w := h2
      replace k61 : Xc W71 W59.heap.size (wrC s1 s2 (XQ Qb Qa Qd Qc) (half * ((Qb.length : Int) / 2)) ((Qb.length : Int) / 2)) := k61
      refine Rg (Va (Qn (o1 := 1) rfl XY rfl rfl) rfl rfl (Va (Qi rfl Qv rfl (k8.cell (k := 1) rfl)) rfl rfl (Va (Qn (o1 := 2) rfl XB rfl rfl) rfl rfl (Va (Qi rfl Qv rfl (k8.cell (k := 2) rfl)) rfl rfl (Pu rfl ?_)))))
      refine Ge (QQ rfl Tryd.func41 rfl rfl rfl (DT gen used rec rv W71 _ hL hL h3 (by omega) (by omega))) rfl rfl ?_
      rintro pv W83 ⟨⟨qs, h6, hqf, hqs⟩, b82⟩
      replace h1 := h1.below b82
      replace h2 := h2.below b82
      replace h3 := h3.below b82
      replace h1w := h1w.below b82
      replace h2w := h2w.below b82
      replace k3 := k3.below b82
      replace k8 := k8.below b82
      replace k14 := k14.below b82
      replace k21 := k21.below b82
      replace k61 := k61.below b82
      replace hB := Qe hB b82
      replace hL := LL.below hL b82
      refine Va (QT rfl X7 rfl h6) rfl rfl (Pu rfl (Ni (hK81 (WC.block ?_))))
      have hql : qs.length = Z2 rec := by rw [<- Za (gen := gen) (fr := used), <- hqf, List.length_map]
      have hnp : (Z2 rec : Int) = ZD (rec.length : Int) := (Ja (by omega)).symm
      have hfu0 : EL (XQ Qb Qa Qd Qc) := hfu
      have j1 := h1w
      have j2 := h2w
      refine WC.loop4 (fun (j : Nat) (d : DO) (t1 : Value) (t2 : Value) => [(2, rv), (3, .pointer (some ⟨w.heap.size, 0, none⟩)), (4, .pointer (some ⟨W2.heap.size, 0, none⟩)), (6, .pointer (some ⟨W7.heap.size, 0, none⟩)), (7, .pointer (some ⟨W13.heap.size, 0, none⟩)), (8, .int .i64 0), (11, .pointer (some ⟨W59.heap.size, 0, none⟩)), (61, pv), (62, .int .i64 (qs.length : Int)), (63, .int .i64 (j : Int))]) (fun (j : Nat) (d : DO) (t1 : Value) (t2 : Value) W => j <= qs.length /\ d = Q9 (XQ Qb Qa Qd Qc) (half * ((Qb.length : Int) / 2)) ((qs.map Prod.fst).take j) /\ EL d /\ Below w.heap.size w W /\ LL (W59.heap.size :: W13.heap.size :: W7.heap.size :: W2.heap.size :: w.heap.size :: L) W /\ QD 128 (W59.heap.size :: W13.heap.size :: W7.heap.size :: W2.heap.size :: w.heap.size :: L) W s1 (Qb.map Qr) /\ QD 129 (W59.heap.size :: W13.heap.size :: W7.heap.size :: W2.heap.size :: w.heap.size :: L) W s2 (Qa.map QG) /\ QD 1 (W59.heap.size :: W13.heap.size :: W7.heap.size :: W2.heap.size :: w.heap.size :: L) W rv (Vw rec) /\ QD 4 (W59.heap.size :: W13.heap.size :: W7.heap.size :: W2.heap.size :: w.heap.size :: L) W pv (qs.map Yo) /\ YE (W59.heap.size :: W13.heap.size :: W7.heap.size :: W2.heap.size :: w.heap.size :: L) W qs /\ QD 128 (W59.heap.size :: W13.heap.size :: W7.heap.size :: W2.heap.size :: w.heap.size :: L) W t1 (d.Qb.map Qr) /\ QD 129 (W59.heap.size :: W13.heap.size :: W7.heap.size :: W2.heap.size :: w.heap.size :: L) W t2 (d.Qa.map QG) /\ Xc W w.heap.size [s1, s2, .int .i64 Qd, .bool Qc] /\ Xc W W2.heap.size [.int .i64 half, .int .i64 gen, .int .i64 used] /\ Xc W W7.heap.size [.slice none 0 0, .slice none 0 0, .int .i64 0, .bool false] /\ Xc W W13.heap.size [.int .i64 0, .int .i64 0, .int .i64 0] /\ Xc W W59.heap.size [t1, t2, .int .i64 d.Qd, .bool d.Qc, .int .i64 (half * ((Qb.length : Int) / 2)), .int .i64 ((Qb.length : Int) / 2), .int .i64 d.err]) (fun (j : Nat) (d : DO) (t1 : Value) (t2 : Value) => qs.length - j) 0 (XQ Qb Qa Qd Qc) s1 s2 (by repeat first | exact trivial | refine aR ?_ | refine aI (by omega) ?_) ⟨Nat.zero_le _, rfl, hfu0, hB, hL, h1, h2, h3, h6, hqs, j1, j2, k3, k8, k14, k21, k61⟩ ?_
      clear h1 h2 h3 h6 hqs j1 j2 k3 k8 k14 k21 k61 hB hL
      rintro K84 j d t1 t2 W85 ⟨hj, hd, hfd, hB, hL, h1, h2, h3, h6, hqs, j1, j2, k3, k8, k14, k21, k61⟩ hK84
      refine Sq fun K86 hK86 => (Rg (Va (Xe rfl rfl rfl) rfl rfl (Ni (hK86 (Sq fun K87 hK87 => ?_)))))
      refine WC.cond rfl (fun c88 => ?_) (fun c88 => ?_)
      .
       replace c88 := dT c88
       refine WC.skip (hK87 (Sq fun K89 hK89 => (WC.block (Sq fun K90 hK90 => (Rg ?_)))))
       obtain ⟨r91, e92⟩ : ∃ x, qs[j]? = some x := ⟨_, List.getElem?_eq_getElem (by omega)⟩
       refine Ge (XH j rfl X7 rfl rfl h6 (by omega) (XG (enc := Yo) e92)) rfl rfl ?_
       rintro u93 _ ⟨rfl, p94⟩
       refine Va (Zc rfl Xq rfl p94 rfl) rfl rfl ?_
       refine Ge (Qu rfl ZQ rfl) rfl rfl ?_
       rintro _ W95 ⟨rfl, k96, b97, z98⟩
       have n99 : w.heap.size ≠ W85.heap.size := Nat.ne_of_lt k3.lt
       have n100 : W2.heap.size ≠ W85.heap.size := Nat.ne_of_lt k8.lt
       have n101 : W7.heap.size ≠ W85.heap.size := Nat.ne_of_lt k14.lt
       have n102 : W13.heap.size ≠ W85.heap.size := Nat.ne_of_lt k21.lt
       have n103 : W59.heap.size ≠ W85.heap.size := Nat.ne_of_lt k61.lt
       have l104 := hB.size
       replace h1 := h1.more b97 (Nat.le_refl _)
       replace h2 := h2.more b97 (Nat.le_refl _)
       replace h3 := h3.more b97 (Nat.le_refl _)
       replace h6 := h6.more b97 (Nat.le_refl _)
       replace hqs := hqs.more b97 (Nat.le_refl _)
       replace j1 := j1.more b97 (Nat.le_refl _)
       replace j2 := j2.more b97 (Nat.le_refl _)
       replace k3 := k3.below b97
       replace k8 := k8.below b97
       replace k14 := k14.below b97
       replace k21 := k21.below b97
       replace k61 := k61.below b97
       replace hB := Qe hB b97
       replace hL := LL.more hL z98
       refine WL.do (Qh (cs' := [.int .i64 r91.1.gen, .int .i64 r91.1.idx, .int .i64 r91.1.mks, r91.2]) (vs := [.int .i64 r91.1.gen, .int .i64 r91.1.idx, .int .i64 r91.1.mks, r91.2]) rfl Xu rfl rfl rfl (oC rfl (oC rfl (oC rfl (oC (hqs r91 (List.mem_of_getElem? e92)).one Qk)))) k96 rfl (nB rfl) rfl) rfl ?_
       rintro _ W105 ⟨k107, o106⟩
       replace k3 := k3.other o106 n99
       replace k8 := k8.other o106 n100
       replace k14 := k14.other o106 n101
       replace k21 := k21.other o106 n102
       replace k61 := k61.other o106 n103
       clear k96
       replace h1 := h1.only o106 (.head _)
       replace h2 := h2.only o106 (.head _)
       replace h3 := h3.only o106 (.head _)
       replace h6 := h6.only o106 (.head _)
       replace hqs := hqs.only o106 (.head _)
       replace j1 := j1.only o106 (.head _)
       replace j2 := j2.only o106 (.head _)
       replace hB := o106.below hB l104
       replace hL := LL.only hL o106
       refine Ni (hK90 ?_)
       obtain ⟨hqi, hqk, hqd⟩ := GW (gen := gen) (fr := used) (rec := rec) (k := j) (p := r91.1) (by rw [<- hqf, List.getElem?_map, e92]; rfl)
       refine Rg (Pu rfl (Va (Qg rfl Xq rfl k107.range rfl) rfl rfl ?_))
       have j1o := j1
       have j2o := j2
       refine Ge (U0 rfl Tryd.func42 rfl rfl rfl (Qev d r91.1 (half * ((Qb.length : Int) / 2)) ((Qb.length : Int) / 2) t1 t2 r91.2 W59.heap.size W105 _ hL (.tail _ (.head _)) k61 j1o j2o (hqs r91 (List.mem_of_getElem? e92)) hfd hhf (by rw [hqi]; omega) (by rw [hqd]; exact KL hrb _) (by rw [hqd]; exact FF _ _) (fun {_} g => hT.below (g.toBelow hB l68)))) rfl rfl ?_
       rintro _ W113 ⟨⟨rfl, x108, x109, hp114, j110, j111⟩, g112⟩
       replace h1 := h1.chgL g112 (.tail _ (.head _))
       replace h2 := h2.chgL g112 (.tail _ (.head _))
       replace h3 := h3.chgL g112 (.tail _ (.head _))
       replace h6 := h6.chgL g112 (.tail _ (.head _))
       replace hqs := hqs.chgL g112 (.tail _ (.head _))
       replace k3 := k3.chg g112 n64
       replace k8 := k8.chg g112 n65
       replace k14 := k14.chg g112 n66
       replace k21 := k21.chg g112 n67
       replace hB := g112.toBelow hB l68
       replace hL := hL.chg g112
       clear j1o j2o
       refine Ni (hK89 (Rg (Va (QR (r := (j : Int) + 1) rfl rfl rfl (Qm (by omega))) rfl rfl (Pu rfl (Ni ?_)))))
       replace hL := hL.less (fun x hx => (.tail _ hx))
       replace h1 := h1.less (fun x hx => (.tail _ hx))
       replace h2 := h2.less (fun x hx => (.tail _ hx))
       replace h3 := h3.less (fun x hx => (.tail _ hx))
       replace h6 := h6.less (fun x hx => (.tail _ hx))
       replace hqs := hqs.less (fun x hx => (.tail _ hx))
       replace j110 := j110.less (fun x hx => (.tail _ hx))
       replace j111 := j111.less (fun x hx => (.tail _ hx))
       exact hK84 (j + 1) (Yq d (half * ((Qb.length : Int) / 2)) r91.1) x108 x109 ⟨(by omega), (by rw [hd]; exact (U7 (by rw [List.getElem?_map, e92]; rfl)).symm), (Gr hfd), hB, hL, h1, h2, h3, h6, hqs, j110, j111, k3, k8, k14, k21, hp114⟩ (by omega) (by repeat first | exact trivial | refine aR ?_ | refine aI (by omega) ?_)
      .
       replace c88 := dF c88
       refine WC.exit ?_
       refine hK80 (Sq fun K115 hK115 => ?_)
       have hjq : j = qs.length := by omega
       have hdA : d = Q9 (XQ Qb Qa Qd Qc) (half * ((Qb.length : Int) / 2)) (Xw gen used rec) := by rw [hd, List.take_of_length_le (by rw [List.length_map]; omega), hqf]
       refine Rg (Pu rfl ?_)
       have j1o := j1
       have j2o := j2
       refine Ge (U0 rfl Tryd.func43 rfl rfl rfl (QeC d (half * ((Qb.length : Int) / 2)) ((Qb.length : Int) / 2) t1 t2 W59.heap.size W85 _ hL (.head _) k61 j1o j2o hfd)) rfl rfl ?_
       rintro _ W121 ⟨⟨rfl, x116, x117, hp122, j118, j119⟩, g120⟩
       replace h1 := h1.chgL g120 (.head _)
       replace h2 := h2.chgL g120 (.head _)
       replace h3 := h3.chgL g120 (.head _)
       replace h6 := h6.chgL g120 (.head _)
       replace hqs := hqs.chgL g120 (.head _)
       replace k3 := k3.chg g120 n64
       replace k8 := k8.chg g120 n65
       replace k14 := k14.chg g120 n66
       replace k21 := k21.chg g120 n67
       replace hB := g120.toBelow hB l68
       replace hL := hL.chg g120
       clear j1o j2o
       refine Ni (hK115 (Sq fun K123 hK123 => (Rg (Pu rfl (Va (Qg rfl Qf rfl k3.range rfl) rfl rfl ?_)))))
       refine Ge (QQ rfl Tryd.func44 rfl rfl rfl (Qc3 (XQ Qb Qa Qd Qc) (X0 d) (half * ((Qb.length : Int) / 2)) ((Qb.length : Int) / 2) W59.heap.size s1 s2 x116 x117 W121 _ hL j118 j119 h1 h2 hp122)) rfl rfl ?_
       rintro _ W125 ⟨⟨a1, a2, rfl, g1, g2⟩, b124⟩
       replace h1 := h1.below b124
       replace h2 := h2.below b124
       replace h3 := h3.below b124
       replace h6 := h6.below b124
       replace hqs := hqs.below b124
       replace j118 := j118.below b124
       replace j119 := j119.below b124
       replace k3 := k3.below b124
       replace k8 := k8.below b124
       replace k14 := k14.below b124
       replace k21 := k21.below b124
       replace hp122 := hp122.below b124
       replace hB := Qe hB b124
       replace hL := LL.below hL b124
       refine Pu rfl (Pu rfl (Pu rfl ?_))
       refine Ge (Qu rfl QV rfl) rfl rfl ?_
       rintro _ W126 ⟨rfl, k127, b128, z129⟩
       have n130 : w.heap.size ≠ W125.heap.size := Nat.ne_of_lt k3.lt
       have n131 : W2.heap.size ≠ W125.heap.size := Nat.ne_of_lt k8.lt
       have n132 : W7.heap.size ≠ W125.heap.size := Nat.ne_of_lt k14.lt
       have n133 : W13.heap.size ≠ W125.heap.size := Nat.ne_of_lt k21.lt
       have n134 : W59.heap.size ≠ W125.heap.size := Nat.ne_of_lt hp122.lt
       have l135 := hB.size
       replace h1 := h1.more b128 (Nat.le_refl _)
       replace h2 := h2.more b128 (Nat.le_refl _)
       replace h3 := h3.more b128 (Nat.le_refl _)
       replace h6 := h6.more b128 (Nat.le_refl _)
       replace hqs := hqs.more b128 (Nat.le_refl _)
       replace j118 := j118.more b128 (Nat.le_refl _)
       replace j119 := j119.more b128 (Nat.le_refl _)
       replace g1 := g1.more b128 (Nat.le_refl _)
       replace g2 := g2.more b128 (Nat.le_refl _)
       replace k3 := k3.below b128
       replace k8 := k8.below b128
       replace k14 := k14.below b128
       replace k21 := k21.below b128
       replace hp122 := hp122.below b128
       replace hB := Qe hB b128
       replace hL := LL.more hL z129
       refine WL.do (Qh (cs' := [a1, a2, .int .i64 ((Xx (XQ Qb Qa Qd Qc) (X0 d)).Qd), .bool ((Xx (XQ Qb Qa Qd Qc) (X0 d)).Qc)]) (vs := [a1, a2, .int .i64 ((Xx (XQ Qb Qa Qd Qc) (X0 d)).Qd), .bool ((Xx (XQ Qb Qa Qd Qc) (X0 d)).Qc)]) rfl Qj rfl rfl rfl (oC g1.one (oC g2.one (oC rfl (oC rfl Qk)))) k127 rfl (nB rfl) rfl) rfl ?_
       rintro _ W136 ⟨k138, o137⟩
       replace k3 := k3.other o137 n130
       replace k8 := k8.other o137 n131
       replace k14 := k14.other o137 n132
       replace k21 := k21.other o137 n133
       replace hp122 := hp122.other o137 n134
       clear k127
       replace h1 := h1.only o137 (.head _)
       replace h2 := h2.only o137 (.head _)
       replace h3 := h3.only o137 (.head _)
       replace h6 := h6.only o137 (.head _)
       replace hqs := hqs.only o137 (.head _)
       replace j118 := j118.only o137 (.head _)
       replace j119 := j119.only o137 (.head _)
       replace g1 := g1.only o137 (.head _)
       replace g2 := g2.only o137 (.head _)
       replace hB := o137.below hB l135
       replace hL := LL.only hL o137
       refine Pu rfl (Ni (hK123 (Sq fun K139 hK139 => (Sq fun K140 hK140 => (Rg (Pu rfl (Va (Xl rfl rfl rfl) rfl rfl ?_)))))))
       refine Ni (hK140 ?_)
       refine WC.cond rfl (fun c141 => ?_) (fun c141 => ?_)
       .
        replace c141 := Q4 c141
        replace c141 := dF c141
        refine Sq fun K142 hK142 => ?_
        refine WC.drawC 5 [(3, W7.heap.size, [.slice none 0 0, .slice none 0 0, .int .i64 0, .bool false], fun cs_ _ => cs_ = [a1, a2, .int .i64 ((Xx (XQ Qb Qa Qd Qc) (X0 d)).Qd), .bool ((Xx (XQ Qb Qa Qd Qc) (X0 d)).Qc)]), (4, W13.heap.size, [.int .i64 0, .int .i64 0, .int .i64 0], fun cs_ _ => cs_ = [.int .i64 half, .int .i64 gen, .int .i64 used])] [(some 81, .is (.agg #[a1, a2, .int .i64 ((Xx (XQ Qb Qa Qd Qc) (X0 d)).Qd), .bool ((Xx (XQ Qb Qa Qd Qc) (X0 d)).Qc)])), (some 82, .is (.agg #[.int .i64 half, .int .i64 gen, .int .i64 used])), (some 83, .is (.int .i64 ((Xx (XQ Qb Qa Qd Qc) (X0 d)).err))), (none, .by fun _ _ => True), (none, .by fun _ _ => True)] [[], [], [], [0, 0], [1, 3, 0, 1, 3]] ⟨fun _ _ _ _ h => h, fun _ _ _ _ h => h, trivial⟩ (mB ⟨fun _ _ _ _ h => h, fun _ _ _ _ h => h, trivial⟩ ⟨fun _ _ _ _ h => h, fun _ _ _ _ h => h, trivial⟩) ⟨fun x hx => (by simp only [List.mem_cons, List.not_mem_nil, or_false] at hx; subst hx; exact ⟨(show ¬ ((4 : Nat) = 3) by decide), n26.symm⟩), ⟨fun x hx => (by cases hx), trivial⟩⟩ (Xo (mB ⟨_, rfl⟩ ⟨_, rfl⟩)) (mB k14 k21) ?_ ?_
        .
         refine Ql.cons rfl (fun Wd hd hbs_ => ?_) ?_
         .
          have k138 := k138.chgM hd (by simp only [List.map_cons, List.map_nil, List.mem_cons, List.not_mem_nil, or_false, not_or]; exact ⟨n132.symm, n133.symm⟩)
          exact Dd (Qg rfl Qf rfl k138.range rfl) rfl
         refine Ql.cons rfl (fun Wd hd hbs_ => ?_) ?_
         .
          have k8 := k8.chgM hd (by simp only [List.map_cons, List.map_nil, List.mem_cons, List.not_mem_nil, or_false, not_or]; exact ⟨n18, n25⟩)
          exact Dd (Qg rfl Qq rfl k8.range rfl) rfl
         refine Ql.cons rfl (fun Wd hd hbs_ => ?_) ?_
         .
          exact Dd (Qt rfl rfl) rfl
         refine Ql.hit rfl (fun Wd hd hb_ => ?_) ?_
         .
          have g1 := g1.chgM hd (mB (.tail _ (.tail _ (.tail _ (.head _)))) (.tail _ (.tail _ (.head _))))
          have g2 := g2.chgM hd (mB (.tail _ (.tail _ (.tail _ (.head _)))) (.tail _ (.tail _ (.head _))))
          exact (Qx (vs := [a1, a2, .int .i64 ((Xx (XQ Qb Qa Qd Qc) (X0 d)).Qd), .bool ((Xx (XQ Qb Qa Qd Qc) (X0 d)).Qc)]) rfl Qj rfl rfl rfl (oC g1.one (oC g2.one (oC rfl (oC rfl Qk)))) hb_ rfl rfl).mono (fun _ W' h => ⟨h.2, Xj.is h.1, trivial⟩)
         refine Ql.hit rfl (fun Wd hd hb_ => ?_) ?_
         .
          intro u20_3 p20_3 u20_3 p20_3
          exact (Qx (vs := [.int .i64 half, .int .i64 gen, .int .i64 used]) rfl Qs rfl rfl rfl (oC rfl (oC rfl (oC rfl Qk))) hb_ rfl rfl).mono (fun _ W' h => ⟨h.2, Xj.is h.1, trivial⟩)
         exact trivial
        .
         intro W143 hd hq_
         replace h1 := h1.chgM hd (mB (.tail _ (.tail _ (.tail _ (.head _)))) (.tail _ (.tail _ (.head _))))
         replace h2 := h2.chgM hd (mB (.tail _ (.tail _ (.tail _ (.head _)))) (.tail _ (.tail _ (.head _))))
         replace h3 := h3.chgM hd (mB (.tail _ (.tail _ (.tail _ (.head _)))) (.tail _ (.tail _ (.head _))))
         replace h6 := h6.chgM hd (mB (.tail _ (.tail _ (.tail _ (.head _)))) (.tail _ (.tail _ (.head _))))
         replace hqs := hqs.chgM hd (mB (.tail _ (.tail _ (.tail _ (.head _)))) (.tail _ (.tail _ (.head _))))
         replace j118 := j118.chgM hd (mB (.tail _ (.tail _ (.tail _ (.head _)))) (.tail _ (.tail _ (.head _))))
         replace j119 := j119.chgM hd (mB (.tail _ (.tail _ (.tail _ (.head _)))) (.tail _ (.tail _ (.head _))))
         replace g1 := g1.chgM hd (mB (.tail _ (.tail _ (.tail _ (.head _)))) (.tail _ (.tail _ (.head _))))
         replace g2 := g2.chgM hd (mB (.tail _ (.tail _ (.tail _ (.head _)))) (.tail _ (.tail _ (.head _))))
         replace k3 := k3.chgM hd (by simp only [List.map_cons, List.map_nil, List.mem_cons, List.not_mem_nil, or_false, not_or]; exact ⟨n17, n24⟩)
         replace k8 := k8.chgM hd (by simp only [List.map_cons, List.map_nil, List.mem_cons, List.not_mem_nil, or_false, not_or]; exact ⟨n18, n25⟩)
         replace hp122 := hp122.chgM hd (by simp only [List.map_cons, List.map_nil, List.mem_cons, List.not_mem_nil, or_false, not_or]; exact ⟨n66.symm, n67.symm⟩)
         replace k138 := k138.chgM hd (by simp only [List.map_cons, List.map_nil, List.mem_cons, List.not_mem_nil, or_false, not_or]; exact ⟨n132.symm, n133.symm⟩)
         have k144 := hq_ _ (.head _)
         replace k144 := Xj.blk k144
         have k145 := hq_ _ (.tail _ (.head _))
         replace k145 := Xj.blk k145
         replace hB := hd.toBelow hB (mB l19 l27)
         replace hL := hL.chgM hd
         intro _ _
         intro _ _
         refine Pu rfl (Ni (hK142 ?_))
         exact WC.ret fun a_ ha_ => hQ (Xh rfl (.agg rfl Qf k144.range rfl) (.agg rfl Qq k145.range rfl) (.tmp rfl) (by rw [Qbm (by first | assumption | omega) (by first | assumption | omega) (by first | assumption | omega) (by first | assumption | omega) hdA (by first | assumption | omega)]; exact ⟨_, _, rfl, (g1.less (fun x hx => (.tail _ (.tail _ (.tail _ (.tail _ (.tail _ (.tail _ hx)))))))), (g2.less (fun x hx => (.tail _ (.tail _ (.tail _ (.tail _ (.tail _ (.tail _ hx))))))))⟩) hB ha_)
       .
        replace c141 := Q2 c141
        replace c141 := dT c141
        refine WC.skip (hK139 (Sq fun K146 hK146 => ?_))
        refine dM 5 [(some 84, .is (.pointer (some ⟨W2.heap.size, 2, none⟩))), (some 85, .is (.int .i64 used)), (some 86, .is (rv)), (some 87, .is (.int .i64 (rec.length : Int))), (some 88, .is (.int .i64 (ZD (rec.length : Int))))] [[], [0], [], [2], [3]] (by exact trivial) ?_ ?_
        .
         refine Dc (fun Wd hd => ?_) ?_
         .
          exact Dd (Qn (o1 := 2) rfl XB rfl rfl) rfl
         refine Dc (fun Wd hd => ?_) ?_
         .
          have k8 := k8.below hd
          exact Dd (Qi rfl Qv rfl (k8.cell (k := 2) rfl)) rfl
         refine Dc (fun Wd hd => ?_) ?_
         .
          exact Dd (Qt rfl rfl) rfl
         refine Dc (fun Wd hd => ?_) ?_
         .
          have h3 := h3.below hd
          exact Dd (ZX (Ym rfl QH rfl h3) (show _ = Value.int .i64 (rec.length : Int) by rw [List.length_map])) rfl
         refine Dc (fun Wd hd => ?_) ?_
         .
          exact DR.mono (QQ rfl Tryd.func22 rfl rfl rfl (EW (rec.length : Int) Wd [] (LL.nil _) (by omega))) (fun v W' ⟨h, hb⟩ => ⟨hb, (by rw [h]; exact rfl)⟩)
         exact trivial
        .
         intro W147 b148
         replace h1 := h1.below b148
         replace h2 := h2.below b148
         replace h3 := h3.below b148
         replace h6 := h6.below b148
         replace hqs := hqs.below b148
         replace j118 := j118.below b148
         replace j119 := j119.below b148
         replace g1 := g1.below b148
         replace g2 := g2.below b148
         replace k3 := k3.below b148
         replace k8 := k8.below b148
         replace k14 := k14.below b148
         replace k21 := k21.below b148
         replace hp122 := hp122.below b148
         replace k138 := k138.below b148
         replace hB := Qe hB b148
         replace hL := LL.below hL b148
         refine Va (QR (r := used + (ZD (rec.length : Int))) rfl rfl rfl (Qm (by omega))) rfl rfl (Va (Qn (o1 := 2) rfl XB rfl rfl) rfl rfl ?_)
         refine WL.do (Qh (cs' := [.int .i64 half, .int .i64 gen, .int .i64 (used + (ZD (rec.length : Int)))]) (vs := [.int .i64 (used + (ZD (rec.length : Int)))]) rfl ZO rfl rfl rfl (oC rfl Qk) k8 rfl (nB rfl) rfl) rfl ?_
         rintro _ W149 ⟨k151, o150⟩
         replace k3 := k3.other o150 n11
         replace k14 := k14.other o150 n18.symm
         replace k21 := k21.other o150 n25.symm
         replace hp122 := hp122.other o150 n65.symm
         replace k138 := k138.other o150 n131.symm
         clear k8
         replace h1 := h1.only o150 (.tail _ (.tail _ (.tail _ (.tail _ (.head _)))))
         replace h2 := h2.only o150 (.tail _ (.tail _ (.tail _ (.tail _ (.head _)))))
         replace h3 := h3.only o150 (.tail _ (.tail _ (.tail _ (.tail _ (.head _)))))
         replace h6 := h6.only o150 (.tail _ (.tail _ (.tail _ (.tail _ (.head _)))))
         replace hqs := hqs.only o150 (.tail _ (.tail _ (.tail _ (.tail _ (.head _)))))
         replace j118 := j118.only o150 (.tail _ (.tail _ (.tail _ (.tail _ (.head _)))))
         replace j119 := j119.only o150 (.tail _ (.tail _ (.tail _ (.tail _ (.head _)))))
         replace g1 := g1.only o150 (.tail _ (.tail _ (.tail _ (.tail _ (.head _)))))
         replace g2 := g2.only o150 (.tail _ (.tail _ (.tail _ (.tail _ (.head _)))))
         replace hB := o150.below hB l12
         replace hL := LL.only hL o150
         refine Ni (hK146 (Sq fun K152 hK152 => ?_))
         refine WC.drawC 3 [(2, W7.heap.size, [.slice none 0 0, .slice none 0 0, .int .i64 0, .bool false], fun cs_ _ => cs_ = [a1, a2, .int .i64 ((Xx (XQ Qb Qa Qd Qc) (X0 d)).Qd), .bool ((Xx (XQ Qb Qa Qd Qc) (X0 d)).Qc)])] [(some 91, .is (.agg #[a1, a2, .int .i64 ((Xx (XQ Qb Qa Qd Qc) (X0 d)).Qd), .bool ((Xx (XQ Qb Qa Qd Qc) (X0 d)).Qc)])), (some 92, .is (.agg #[.int .i64 half, .int .i64 gen, .int .i64 (used + (ZD (rec.length : Int)))])), (none, .by fun _ _ => True)] [[], [], [0, 0]] ⟨fun _ _ _ _ h => h, trivial⟩ (mA ⟨fun _ _ _ _ h => h, trivial⟩) ⟨fun x hx => (by cases hx), trivial⟩ (Xo (mA ⟨_, rfl⟩)) (mA k14) ?_ ?_
         .
          refine Ql.cons rfl (fun Wd hd hbs_ => ?_) ?_
          .
           have k138 := k138.chgM hd (by simp only [List.map_cons, List.map_nil, List.mem_cons, List.not_mem_nil, or_false, not_or]; exact n132.symm)
           exact Dd (Qg rfl Qf rfl k138.range rfl) rfl
          refine Ql.cons rfl (fun Wd hd hbs_ => ?_) ?_
          .
           have k151 := k151.chgM hd (by simp only [List.map_cons, List.map_nil, List.mem_cons, List.not_mem_nil, or_false, not_or]; exact n18)
           exact Dd (Qg rfl Qq rfl k151.range rfl) rfl
          refine Ql.hit rfl (fun Wd hd hb_ => ?_) ?_
          .
           have g1 := g1.chgM hd (mA (.tail _ (.tail _ (.tail _ (.head _)))))
           have g2 := g2.chgM hd (mA (.tail _ (.tail _ (.tail _ (.head _)))))
           exact (Qx (vs := [a1, a2, .int .i64 ((Xx (XQ Qb Qa Qd Qc) (X0 d)).Qd), .bool ((Xx (XQ Qb Qa Qd Qc) (X0 d)).Qc)]) rfl Qj rfl rfl rfl (oC g1.one (oC g2.one (oC rfl (oC rfl Qk)))) hb_ rfl rfl).mono (fun _ W' h => ⟨h.2, Xj.is h.1, trivial⟩)
          exact trivial
         .
          intro W153 hd hq_
          replace h1 := h1.chgM hd (mA (.tail _ (.tail _ (.tail _ (.head _)))))
          replace h2 := h2.chgM hd (mA (.tail _ (.tail _ (.tail _ (.head _)))))
          replace h3 := h3.chgM hd (mA (.tail _ (.tail _ (.tail _ (.head _)))))
          replace h6 := h6.chgM hd (mA (.tail _ (.tail _ (.tail _ (.head _)))))
          replace hqs := hqs.chgM hd (mA (.tail _ (.tail _ (.tail _ (.head _)))))
          replace j118 := j118.chgM hd (mA (.tail _ (.tail _ (.tail _ (.head _)))))
          replace j119 := j119.chgM hd (mA (.tail _ (.tail _ (.tail _ (.head _)))))
          replace g1 := g1.chgM hd (mA (.tail _ (.tail _ (.tail _ (.head _)))))
          replace g2 := g2.chgM hd (mA (.tail _ (.tail _ (.tail _ (.head _)))))
          replace k3 := k3.chgM hd (by simp only [List.map_cons, List.map_nil, List.mem_cons, List.not_mem_nil, or_false, not_or]; exact n17)
          replace k151 := k151.chgM hd (by simp only [List.map_cons, List.map_nil, List.mem_cons, List.not_mem_nil, or_false, not_or]; exact n18)
          replace k21 := k21.chgM hd (by simp only [List.map_cons, List.map_nil, List.mem_cons, List.not_mem_nil, or_false, not_or]; exact n26.symm)
          replace hp122 := hp122.chgM hd (by simp only [List.map_cons, List.map_nil, List.mem_cons, List.not_mem_nil, or_false, not_or]; exact n66.symm)
          replace k138 := k138.chgM hd (by simp only [List.map_cons, List.map_nil, List.mem_cons, List.not_mem_nil, or_false, not_or]; exact n132.symm)
          have k154 := hq_ _ (.head _)
          replace k154 := Xj.blk k154
          replace hB := hd.toBelow hB (mA l19)
          replace hL := hL.chgM hd
          intro _ _
          refine WL.do (Qh (cs' := [.int .i64 half, .int .i64 gen, .int .i64 (used + (ZD (rec.length : Int)))]) (vs := [.int .i64 half, .int .i64 gen, .int .i64 (used + (ZD (rec.length : Int)))]) rfl Qs rfl rfl rfl (oC rfl (oC rfl (oC rfl Qk))) k21 rfl (nB rfl) rfl) rfl ?_
          rintro _ W155 ⟨k157, o156⟩
          replace k154 := k154.other o156 n26
          clear k21
          replace g1 := g1.only o156 (.tail _ (.tail _ (.head _)))
          replace g2 := g2.only o156 (.tail _ (.tail _ (.head _)))
          replace hB := o156.below hB l27
          refine Pu rfl (Ni (hK152 ?_))
          exact WC.ret fun a_ ha_ => hQ (Xh rfl (.agg rfl Qf k154.range rfl) (.agg rfl Qq k157.range rfl) (.tmp rfl) (by rw [Qbo (by first | assumption | omega) (by first | assumption | omega) (by first | assumption | omega) (by first | assumption | omega) hdA (by first | assumption | exact Classical.not_not.1 (by assumption))]; exact ⟨_, _, G7 (by first | assumption | exact Classical.not_not.1 (by assumption)), (g1.less (fun x hx => (.tail _ (.tail _ (.tail _ (.tail _ (.tail _ (.tail _ hx)))))))), (g2.less (fun x hx => (.tail _ (.tail _ (.tail _ (.tail _ (.tail _ (.tail _ hx))))))))⟩) hB ha_)

section
variable {Qb : List (List Int)} {Qa : List (Int × List Int)} {Qd : Int} {Qc : Bool} {half gen used : Int} {l : List (List Int)}
theorem JP (h : ¬ Xg Qb Qa Qc = 0) : Qy Qb Qa Qd Qc half gen used l = (⟨Qb, Qa, Qd, Qc, Xg Qb Qa Qc⟩, half, gen, used) := if_pos h
theorem Hf (h : Xg Qb Qa Qc = 0) (h2 : ¬ ZS (Qb.length : Int) half gen used = 0) : Qy Qb Qa Qd Qc half gen used l = (⟨Qb, Qa, Qd, Qc, ZS (Qb.length : Int) half gen used⟩, half, gen, used) := by unfold Qy; rw [if_neg (fun q => q h), if_pos h2]
theorem Hh (h : Xg Qb Qa Qc = 0) (h2 : ZS (Qb.length : Int) half gen used = 0) (h3 : G6 l = true) : Qy Qb Qa Qd Qc half gen used l = (⟨Qb, Qa, Qd, Qc, 3⟩, half, gen, used) := by unfold Qy; rw [if_neg (fun q => q h), if_neg (fun q => q h2), if_pos h3]
theorem Hi (h : Xg Qb Qa Qc = 0) (h2 : ZS (Qb.length : Int) half gen used = 0) (h3 : ¬ G6 l = true) (h4 : (Qb.length : Int) / 2 < 1 + (Qz l : Int)) : Qy Qb Qa Qd Qc half gen used l = (⟨Qb, Qa, Qd, Qc, 10⟩, half, gen, used) := by unfold Qy; rw [if_neg (fun q => q h), if_neg (fun q => q h2), if_neg h3, if_pos h4]
theorem Hg (h : Xg Qb Qa Qc = 0) (h2 : ZS (Qb.length : Int) half gen used = 0) (h3 : ¬ G6 l = true) (h4 : ¬ (Qb.length : Int) / 2 < 1 + (Qz l : Int)) (he : (QC Qb Qa Qd Qc (1 - half) l).1.err = 0) : Qy Qb Qa Qd Qc half gen used l = QC Qb Qa Qd Qc (1 - half) l := by unfold Qy; rw [if_neg (fun q => q h), if_neg (fun q => q h2), if_neg h3, if_neg h4, if_pos he]
theorem JO (h : Xg Qb Qa Qc = 0) (h2 : ZS (Qb.length : Int) half gen used = 0) (h3 : ¬ G6 l = true) (h4 : ¬ (Qb.length : Int) / 2 < 1 + (Qz l : Int)) (he : ¬ (QC Qb Qa Qd Qc (1 - half) l).1.err = 0) : Qy Qb Qa Qd Qc half gen used l = ((QC Qb Qa Qd Qc (1 - half) l).1, half, gen, used) := by unfold Qy; rw [if_neg (fun q => q h), if_neg (fun q => q h2), if_neg h3, if_neg h4, if_neg he]
theorem D3 {l : List (List Int)} {r : List Int} (hm : r ∈ l) (h : 4096 < r.length) : G6 l = true := List.any_eq_true.2 ⟨r, hm, decide_eq_true h⟩
theorem UA {l : List (List Int)} (h : ∀ r ∈ l, r.length <= 4096) : ¬ G6 l = true := fun e => by
 obtain ⟨r, hm, hd⟩ := List.any_eq_true.1 e
 have := of_decide_eq_true hd
 have := h r hm
 omega
theorem Qaf {l : List (List Int)} (h : ∀ r ∈ l, r.length <= 4096) : Qz l <= 41 * l.length := by
 induction l with
 | nil => exact Nat.le_refl _
 | cons a l ih =>
  have h1 := ih fun r hr => h r (.tail _ hr)
  have h2 : Z2 a <= 41 := by
   have := h a (.head _)
   unfold Z2
   split <;> omega
  have : Qz (a :: l) = Z2 a + Qz l := by unfold Qz; rw [List.map_cons, List.sum_cons]
  rw [this, List.length_cons]
  omega
end
set_option maxHeartbeats 1000000 in
theorem HY (Qb : List (List Int)) (Qa : List (Int × List Int)) (Qd : Int) (Qc : Bool) (s1 s2 : Value) (half gen used : Int) (rs : List U6) (rv : Value) (w : World) (L : List Nat) (hL : LL L w) (h1 : QD 128 L w s1 (Qb.map Qr)) (h2 : QD 129 L w s2 (Qa.map QG)) (h3 : QD 1 L w rv (rs.map YV)) (hrs : Ya L w rs)  (hfu : -9223372036854775808 <= Qd /\ Qd <= 9223372036854775807) (hbd : YL Qb Qa) (hrb : ∀ r ∈ rs, Z0 r.1 /\ r.1.length <= 1000000) (hrl : rs.length <= 100000) (hul : -9223372036854775808 <= used /\ used <= 9223372036854775807) (hT : ZM w) : CV Tryd.prog 24 [.agg #[s1, s2, .int .i64 Qd, .bool Qc], .agg #[.int .i64 half, .int .i64 gen, .int .i64 used], rv] w fun v W => ∃ t1 t2, v = .tuple #[.agg #[t1, t2, .int .i64 (Qy Qb Qa Qd Qc half gen used (rs.map Prod.fst)).1.Qd, .bool (Qy Qb Qa Qd Qc half gen used (rs.map Prod.fst)).1.Qc], .agg #[.int .i64 (Qy Qb Qa Qd Qc half gen used (rs.map Prod.fst)).2.1, .int .i64 (Qy Qb Qa Qd Qc half gen used (rs.map Prod.fst)).2.2.1, .int .i64 (Qy Qb Qa Qd Qc half gen used (rs.map Prod.fst)).2.2.2], .int .i64 (Qy Qb Qa Qd Qc half gen used (rs.map Prod.fst)).1.err] /\ QD 128 L W t1 ((Qy Qb Qa Qd Qc half gen used (rs.map Prod.fst)).1.Qb.map Qr) /\ QD 129 L W t2 ((Qy Qb Qa Qd Qc half gen used (rs.map Prod.fst)).1.Qa.map QG) := by
 refine QN (N := 74) (f := [(0, .agg #[s1, s2, .int .i64 Qd, .bool Qc]), (1, .agg #[.int .i64 half, .int .i64 gen, .int .i64 used]), (2, rv)]) Tryd.func24 rfl rfl rfl rfl fun Q hQ hE => ?_
 have hB := Below.refl w.heap.size w
 have h1m : Qb.length <= maxLen := by have := h1.len; rwa [List.length_map] at this
 unfold maxLen at h1m
 have h2m : Qa.length <= maxLen := by have := h2.len; rwa [List.length_map] at this
 unfold maxLen at h2m
 have h3m : rs.length <= maxLen := by have := h3.len; rwa [List.length_map] at this
 unfold maxLen at h3m
 refine Sq fun K1 hK1 => (Rg ?_)
 refine Ge (Xa rfl rfl rfl) rfl rfl ?_
 rintro _ W2 ⟨rfl, k3, b4, z5⟩
 have l6 := hB.size
 replace h1 := h1.more b4 (Nat.le_refl _)
 replace h2 := h2.more b4 (Nat.le_refl _)
 replace h3 := h3.more b4 (Nat.le_refl _)
 replace hrs := hrs.more b4 (Nat.le_refl _)
 replace hB := Qe hB b4
 replace hL := LL.more hL z5
 refine Ge (Xa rfl rfl rfl) rfl rfl ?_
 rintro _ W7 ⟨rfl, k8, b9, z10⟩
 have l12 := hB.size
 replace h1 := h1.more b9 (Nat.le_refl _)
 replace h2 := h2.more b9 (Nat.le_refl _)
 replace h3 := h3.more b9 (Nat.le_refl _)
 replace hrs := hrs.more b9 (Nat.le_refl _)
 replace k3 := k3.below b9
 replace hB := Qe hB b9
 replace hL := LL.more hL z10
 refine Ge (Qu rfl QV rfl) rfl rfl ?_
 rintro _ W13 ⟨rfl, k14, b15, z16⟩
 have n17 : w.heap.size ≠ W7.heap.size := Nat.ne_of_lt k3.lt
 have n18 : W2.heap.size ≠ W7.heap.size := Nat.ne_of_lt k8.lt
 have l19 := hB.size
 replace h1 := h1.more b15 (Nat.le_refl _)
 replace h2 := h2.more b15 (Nat.le_refl _)
 replace h3 := h3.more b15 (Nat.le_refl _)
 replace hrs := hrs.more b15 (Nat.le_refl _)
 replace k3 := k3.below b15
 replace k8 := k8.below b15
 replace hB := Qe hB b15
 replace hL := LL.more hL z16
 refine Ge (Qu rfl Xv rfl) rfl rfl ?_
 rintro _ W20 ⟨rfl, k21, b22, z23⟩
 have n24 : w.heap.size ≠ W13.heap.size := Nat.ne_of_lt k3.lt
 have n25 : W2.heap.size ≠ W13.heap.size := Nat.ne_of_lt k8.lt
 have n26 : W7.heap.size ≠ W13.heap.size := Nat.ne_of_lt k14.lt
 have l27 := hB.size
 replace h1 := h1.more b22 (Nat.le_refl _)
 replace h2 := h2.more b22 (Nat.le_refl _)
 replace h3 := h3.more b22 (Nat.le_refl _)
 replace hrs := hrs.more b22 (Nat.le_refl _)
 replace k3 := k3.below b22
 replace k8 := k8.below b22
 replace k14 := k14.below b22
 replace hB := Qe hB b22
 replace hL := LL.more hL z23
 refine Pu rfl (Ni (hK1 (Sq fun K28 hK28 => (Sq fun K29 hK29 => (Rg (Va (Qg rfl Qf rfl k3.range rfl) rfl rfl ?_))))))
 refine Ge (QQ rfl Tryd.func32 rfl rfl rfl (Km Qb Qa Qd Qc _ _ W20 _ hL h1 h2)) rfl rfl ?_
 rintro _ W31 ⟨rfl, b30⟩
 replace h1 := h1.below b30
 replace h2 := h2.below b30
 replace h3 := h3.below b30
 replace hrs := hrs.below b30
 replace k3 := k3.below b30
 replace k8 := k8.below b30
 replace k14 := k14.below b30
 replace k21 := k21.below b30
 replace hB := Qe hB b30
 replace hL := LL.below hL b30
 refine Pu rfl (Ni (hK29 (Sq fun K32 hK32 => (Rg (Pu rfl (Va (Xl rfl rfl rfl) rfl rfl (Ni ?_)))))))
 refine hK32 ?_
 refine WC.cond rfl (fun c33 => ?_) (fun c33 => ?_)
 .
  replace c33 := Q4 c33
  replace c33 := dF c33
  refine Sq fun K34 hK34 => ?_
  refine WC.drawC 5 [(3, W7.heap.size, [.slice none 0 0, .slice none 0 0, .int .i64 0, .bool false], fun cs_ _ => cs_ = [s1, s2, .int .i64 Qd, .bool Qc]), (4, W13.heap.size, [.int .i64 0, .int .i64 0, .int .i64 0], fun cs_ _ => cs_ = [.int .i64 half, .int .i64 gen, .int .i64 used])] [(some 21, .is (.agg #[s1, s2, .int .i64 Qd, .bool Qc])), (some 22, .is (.agg #[.int .i64 half, .int .i64 gen, .int .i64 used])), (some 23, .is (.int .i64 (Xg Qb Qa Qc))), (none, .by fun _ _ => True), (none, .by fun _ _ => True)] [[], [], [], [0, 0], [1, 3, 0, 1, 3]] ⟨fun _ _ _ _ h => h, fun _ _ _ _ h => h, trivial⟩ (mB ⟨fun _ _ _ _ h => h, fun _ _ _ _ h => h, trivial⟩ ⟨fun _ _ _ _ h => h, fun _ _ _ _ h => h, trivial⟩) ⟨fun x hx => (by simp only [List.mem_cons, List.not_mem_nil, or_false] at hx; subst hx; exact ⟨(show ¬ ((4 : Nat) = 3) by decide), n26.symm⟩), ⟨fun x hx => (by cases hx), trivial⟩⟩ (Xo (mB ⟨_, rfl⟩ ⟨_, rfl⟩)) (mB k14 k21) ?_ ?_
  .
   refine Ql.cons rfl (fun Wd hd hbs_ => ?_) ?_
   .
    have k3 := k3.chgM hd (by simp only [List.map_cons, List.map_nil, List.mem_cons, List.not_mem_nil, or_false, not_or]; exact ⟨n17, n24⟩)
    exact Dd (Qg rfl Qf rfl k3.range rfl) rfl
   refine Ql.cons rfl (fun Wd hd hbs_ => ?_) ?_
   .
    have k8 := k8.chgM hd (by simp only [List.map_cons, List.map_nil, List.mem_cons, List.not_mem_nil, or_false, not_or]; exact ⟨n18, n25⟩)
    exact Dd (Qg rfl Qq rfl k8.range rfl) rfl
   refine Ql.cons rfl (fun Wd hd hbs_ => ?_) ?_
   .
    exact Dd (Qt rfl rfl) rfl
   refine Ql.hit rfl (fun Wd hd hb_ => ?_) ?_
   .
    have h1 := h1.chgM hd (mB (.tail _ (.head _)) (.head _))
    have h2 := h2.chgM hd (mB (.tail _ (.head _)) (.head _))
    exact (Qx (vs := [s1, s2, .int .i64 Qd, .bool Qc]) rfl Qj rfl rfl rfl (oC h1.one (oC h2.one (oC rfl (oC rfl Qk)))) hb_ rfl rfl).mono (fun _ W' h => ⟨h.2, Xj.is h.1, trivial⟩)
   refine Ql.hit rfl (fun Wd hd hb_ => ?_) ?_
   .
    intro u3_3 p3_3 u3_3 p3_3
    exact (Qx (vs := [.int .i64 half, .int .i64 gen, .int .i64 used]) rfl Qs rfl rfl rfl (oC rfl (oC rfl (oC rfl Qk))) hb_ rfl rfl).mono (fun _ W' h => ⟨h.2, Xj.is h.1, trivial⟩)
   exact trivial
  .
   intro W35 hd hq_
   replace h1 := h1.chgM hd (mB (.tail _ (.head _)) (.head _))
   replace h2 := h2.chgM hd (mB (.tail _ (.head _)) (.head _))
   replace h3 := h3.chgM hd (mB (.tail _ (.head _)) (.head _))
   replace hrs := hrs.chgM hd (mB (.tail _ (.head _)) (.head _))
   replace k3 := k3.chgM hd (by simp only [List.map_cons, List.map_nil, List.mem_cons, List.not_mem_nil, or_false, not_or]; exact ⟨n17, n24⟩)
   replace k8 := k8.chgM hd (by simp only [List.map_cons, List.map_nil, List.mem_cons, List.not_mem_nil, or_false, not_or]; exact ⟨n18, n25⟩)
   have k36 := hq_ _ (.head _)
   replace k36 := Xj.blk k36
   have k37 := hq_ _ (.tail _ (.head _))
   replace k37 := Xj.blk k37
   replace hB := hd.toBelow hB (mB l19 l27)
   replace hL := hL.chgM hd
   intro _ _
   intro _ _
   refine Pu rfl (Ni (hK34 ?_))
   exact WC.ret fun a_ ha_ => hQ (Xh rfl (.agg rfl Qf k36.range rfl) (.agg rfl Qq k37.range rfl) (.tmp rfl) (by rw [JP (by first | assumption | omega)]; exact ⟨_, _, rfl, (h1.less (fun x hx => (.tail _ (.tail _ (.tail _ (.tail _ hx)))))), (h2.less (fun x hx => (.tail _ (.tail _ (.tail _ (.tail _ hx))))))⟩) hB ha_)
 .
  replace c33 := Q2 c33
  replace c33 := dT c33
  refine WC.skip (hK28 (Sq fun K38 hK38 => (Sq fun K39 hK39 => ?_)))
  obtain ⟨hr1, hr2, hr3, hr4⟩ := Un (Qb := Qb) (Qa := Qa) (Qc := Qc) (by first | assumption | omega)
  refine Rg (Va (Qg rfl Qf rfl k3.range rfl) rfl rfl (Va (Qg rfl Qq rfl k8.range rfl) rfl rfl ?_))
  refine Ge (QQ rfl Tryd.func40 rfl rfl rfl (Qes Qb Qa Qd Qc _ _ half gen used W31 _ hL h1 h2 (by omega))) rfl rfl ?_
  rintro _ W41 ⟨rfl, b40⟩
  replace h1 := h1.below b40
  replace h2 := h2.below b40
  replace h3 := h3.below b40
  replace hrs := hrs.below b40
  replace k3 := k3.below b40
  replace k8 := k8.below b40
  replace k14 := k14.below b40
  replace k21 := k21.below b40
  replace hB := Qe hB b40
  replace hL := LL.below hL b40
  refine Pu rfl (Ni (hK39 (Sq fun K42 hK42 => (Rg (Pu rfl (Va (Xl rfl rfl rfl) rfl rfl (Ni ?_)))))))
  refine hK42 ?_
  refine WC.cond rfl (fun c43 => ?_) (fun c43 => ?_)
  .
   replace c43 := Q4 c43
   replace c43 := dF c43
   refine Sq fun K44 hK44 => ?_
   refine WC.drawC 5 [(3, W7.heap.size, [.slice none 0 0, .slice none 0 0, .int .i64 0, .bool false], fun cs_ _ => cs_ = [s1, s2, .int .i64 Qd, .bool Qc]), (4, W13.heap.size, [.int .i64 0, .int .i64 0, .int .i64 0], fun cs_ _ => cs_ = [.int .i64 half, .int .i64 gen, .int .i64 used])] [(some 29, .is (.agg #[s1, s2, .int .i64 Qd, .bool Qc])), (some 30, .is (.agg #[.int .i64 half, .int .i64 gen, .int .i64 used])), (some 31, .is (.int .i64 (ZS (Qb.length : Int) half gen used))), (none, .by fun _ _ => True), (none, .by fun _ _ => True)] [[], [], [], [0, 0], [1, 3, 0, 1, 3]] ⟨fun _ _ _ _ h => h, fun _ _ _ _ h => h, trivial⟩ (mB ⟨fun _ _ _ _ h => h, fun _ _ _ _ h => h, trivial⟩ ⟨fun _ _ _ _ h => h, fun _ _ _ _ h => h, trivial⟩) ⟨fun x hx => (by simp only [List.mem_cons, List.not_mem_nil, or_false] at hx; subst hx; exact ⟨(show ¬ ((4 : Nat) = 3) by decide), n26.symm⟩), ⟨fun x hx => (by cases hx), trivial⟩⟩ (Xo (mB ⟨_, rfl⟩ ⟨_, rfl⟩)) (mB k14 k21) ?_ ?_
   .
    refine Ql.cons rfl (fun Wd hd hbs_ => ?_) ?_
    .
     have k3 := k3.chgM hd (by simp only [List.map_cons, List.map_nil, List.mem_cons, List.not_mem_nil, or_false, not_or]; exact ⟨n17, n24⟩)
     exact Dd (Qg rfl Qf rfl k3.range rfl) rfl
    refine Ql.cons rfl (fun Wd hd hbs_ => ?_) ?_
    .
     have k8 := k8.chgM hd (by simp only [List.map_cons, List.map_nil, List.mem_cons, List.not_mem_nil, or_false, not_or]; exact ⟨n18, n25⟩)
     exact Dd (Qg rfl Qq rfl k8.range rfl) rfl
    refine Ql.cons rfl (fun Wd hd hbs_ => ?_) ?_
    .
     exact Dd (Qt rfl rfl) rfl
    refine Ql.hit rfl (fun Wd hd hb_ => ?_) ?_
    .
     have h1 := h1.chgM hd (mB (.tail _ (.head _)) (.head _))
     have h2 := h2.chgM hd (mB (.tail _ (.head _)) (.head _))
     exact (Qx (vs := [s1, s2, .int .i64 Qd, .bool Qc]) rfl Qj rfl rfl rfl (oC h1.one (oC h2.one (oC rfl (oC rfl Qk)))) hb_ rfl rfl).mono (fun _ W' h => ⟨h.2, Xj.is h.1, trivial⟩)
    refine Ql.hit rfl (fun Wd hd hb_ => ?_) ?_
    .
     intro u6_3 p6_3 u6_3 p6_3
     exact (Qx (vs := [.int .i64 half, .int .i64 gen, .int .i64 used]) rfl Qs rfl rfl rfl (oC rfl (oC rfl (oC rfl Qk))) hb_ rfl rfl).mono (fun _ W' h => ⟨h.2, Xj.is h.1, trivial⟩)
    exact trivial
   .
    intro W45 hd hq_
    replace h1 := h1.chgM hd (mB (.tail _ (.head _)) (.head _))
    replace h2 := h2.chgM hd (mB (.tail _ (.head _)) (.head _))
    replace h3 := h3.chgM hd (mB (.tail _ (.head _)) (.head _))
    replace hrs := hrs.chgM hd (mB (.tail _ (.head _)) (.head _))
    replace k3 := k3.chgM hd (by simp only [List.map_cons, List.map_nil, List.mem_cons, List.not_mem_nil, or_false, not_or]; exact ⟨n17, n24⟩)
    replace k8 := k8.chgM hd (by simp only [List.map_cons, List.map_nil, List.mem_cons, List.not_mem_nil, or_false, not_or]; exact ⟨n18, n25⟩)
    have k46 := hq_ _ (.head _)
    replace k46 := Xj.blk k46
    have k47 := hq_ _ (.tail _ (.head _))
    replace k47 := Xj.blk k47
    replace hB := hd.toBelow hB (mB l19 l27)
    replace hL := hL.chgM hd
    intro _ _
    intro _ _
    refine Pu rfl (Ni (hK44 ?_))
    exact WC.ret fun a_ ha_ => hQ (Xh rfl (.agg rfl Qf k46.range rfl) (.agg rfl Qq k47.range rfl) (.tmp rfl) (by rw [Hf (by first | assumption | omega) (by first | assumption | omega)]; exact ⟨_, _, rfl, (h1.less (fun x hx => (.tail _ (.tail _ (.tail _ (.tail _ hx)))))), (h2.less (fun x hx => (.tail _ (.tail _ (.tail _ (.tail _ hx))))))⟩) hB ha_)
  .
   replace c43 := Q2 c43
   replace c43 := dT c43
   refine WC.skip (hK38 (Sq fun K48 hK48 => ?_))
   obtain ⟨hl1, hl2, hl3, hl4, hl5⟩ := E6 (n := (Qb.length : Int)) (half := half) (gen := gen) (used := used) (by first | assumption | omega)
   refine Rg (Pu rfl (Ni (hK48 (Sq fun K49 hK49 => (Sq fun K50 hK50 => (Rg (Pu rfl ?_)))))))
   refine Va (QT rfl XO rfl h3) rfl rfl (Pu rfl (Ni (hK50 (WC.block ?_))))
   refine WC.loop (fun (i : Nat) => [(2, rv), (3, .pointer (some ⟨w.heap.size, 0, none⟩)), (4, .pointer (some ⟨W2.heap.size, 0, none⟩)), (6, .pointer (some ⟨W7.heap.size, 0, none⟩)), (7, .pointer (some ⟨W13.heap.size, 0, none⟩)), (8, .int .i64 0), (32, rv), (33, .int .i64 (rs.length : Int)), (34, .int .i64 (i : Int)), (11, .int .i64 (1 + (Qz ((rs.take i).map Prod.fst) : Int)))]) (fun (i : Nat) W => i <= rs.length /\ (∀ r ∈ rs.take i, r.1.length <= 4096) /\ Below w.heap.size w W /\ LL (W13.heap.size :: W7.heap.size :: W2.heap.size :: w.heap.size :: L) W /\ QD 128 (W13.heap.size :: W7.heap.size :: W2.heap.size :: w.heap.size :: L) W s1 (Qb.map Qr) /\ QD 129 (W13.heap.size :: W7.heap.size :: W2.heap.size :: w.heap.size :: L) W s2 (Qa.map QG) /\ QD 1 (W13.heap.size :: W7.heap.size :: W2.heap.size :: w.heap.size :: L) W rv (rs.map YV) /\ Ya (W13.heap.size :: W7.heap.size :: W2.heap.size :: w.heap.size :: L) W rs /\ Xc W w.heap.size [s1, s2, .int .i64 Qd, .bool Qc] /\ Xc W W2.heap.size [.int .i64 half, .int .i64 gen, .int .i64 used] /\ Xc W W7.heap.size [.slice none 0 0, .slice none 0 0, .int .i64 0, .bool false] /\ Xc W W13.heap.size [.int .i64 0, .int .i64 0, .int .i64 0]) (fun (i : Nat) => rs.length - i) 0 (by repeat first | exact trivial | refine aR ?_ | refine aI (by omega) ?_) ⟨Nat.zero_le _, (fun r hr => by cases hr), hB, hL, h1, h2, h3, hrs, k3, k8, k14, k21⟩ ?_
   clear h1 h2 h3 hrs k3 k8 k14 k21 hB hL
   rintro K51 i W52 ⟨hi, hsm, hB, hL, h1, h2, h3, hrs, k3, k8, k14, k21⟩ hK51
   refine Sq fun K53 hK53 => (Rg (Va (Xe rfl rfl rfl) rfl rfl (Ni (hK53 (Sq fun K54 hK54 => ?_)))))
   refine WC.cond rfl (fun c55 => ?_) (fun c55 => ?_)
   .
    replace c55 := dT c55
    refine WC.skip (hK54 (Sq fun K56 hK56 => (WC.block (Sq fun K57 hK57 => (Rg ?_)))))
    obtain ⟨r58, e59⟩ : ∃ x, rs[i]? = some x := ⟨_, List.getElem?_eq_getElem (by omega)⟩
    refine Ge (XH i rfl XO rfl rfl h3 (by omega) (XG (enc := YV) e59)) rfl rfl ?_
    rintro u60 _ ⟨rfl, p61⟩
    refine Va (Zn rfl XR rfl p61) rfl rfl (Pu rfl (Ni (hK57 (Sq fun K62 hK62 => (Sq fun K63 hK63 => ?_)))))
    have hrm := List.mem_of_getElem? e59
    have hrr := hrs r58 hrm
    have hrl := (hrb r58 hrm).2
    refine Rg (Pu rfl (Va (ZX (Ym rfl QH rfl hrr) (show _ = Value.int .i64 (r58.1.length : Int) by rw [List.length_map])) rfl rfl (Va (XL rfl rfl rfl) rfl rfl (Ni (hK63 ?_)))))
    refine WC.cond rfl (fun c64 => ?_) (fun c64 => ?_)
    .
     replace c64 := dT c64
     refine Sq fun K65 hK65 => ?_
     refine WC.drawC 3 [(2, W7.heap.size, [.slice none 0 0, .slice none 0 0, .int .i64 0, .bool false], fun cs_ _ => cs_ = [s1, s2, .int .i64 Qd, .bool Qc])] [(some 41, .is (.agg #[s1, s2, .int .i64 Qd, .bool Qc])), (some 42, .is (.agg #[.int .i64 half, .int .i64 gen, .int .i64 used])), (none, .by fun _ _ => True)] [[], [], [0, 0]] ⟨fun _ _ _ _ h => h, trivial⟩ (mA ⟨fun _ _ _ _ h => h, trivial⟩) ⟨fun x hx => (by cases hx), trivial⟩ (Xo (mA ⟨_, rfl⟩)) (mA k14) ?_ ?_
     .
      refine Ql.cons rfl (fun Wd hd hbs_ => ?_) ?_
      .
       have k3 := k3.chgM hd (by simp only [List.map_cons, List.map_nil, List.mem_cons, List.not_mem_nil, or_false, not_or]; exact n17)
       exact Dd (Qg rfl Qf rfl k3.range rfl) rfl
      refine Ql.cons rfl (fun Wd hd hbs_ => ?_) ?_
      .
       have k8 := k8.chgM hd (by simp only [List.map_cons, List.map_nil, List.mem_cons, List.not_mem_nil, or_false, not_or]; exact n18)
       exact Dd (Qg rfl Qq rfl k8.range rfl) rfl
      refine Ql.hit rfl (fun Wd hd hb_ => ?_) ?_
      .
       have h1 := h1.chgM hd (mA (.tail _ (.head _)))
       have h2 := h2.chgM hd (mA (.tail _ (.head _)))
       exact (Qx (vs := [s1, s2, .int .i64 Qd, .bool Qc]) rfl Qj rfl rfl rfl (oC h1.one (oC h2.one (oC rfl (oC rfl Qk)))) hb_ rfl rfl).mono (fun _ W' h => ⟨h.2, Xj.is h.1, trivial⟩)
      exact trivial
     .
      intro W66 hd hq_
      replace h1 := h1.chgM hd (mA (.tail _ (.head _)))
      replace h2 := h2.chgM hd (mA (.tail _ (.head _)))
      replace h3 := h3.chgM hd (mA (.tail _ (.head _)))
      replace hrs := hrs.chgM hd (mA (.tail _ (.head _)))
      replace hrr := hrr.chgM hd (mA (.tail _ (.head _)))
      replace k3 := k3.chgM hd (by simp only [List.map_cons, List.map_nil, List.mem_cons, List.not_mem_nil, or_false, not_or]; exact n17)
      replace k8 := k8.chgM hd (by simp only [List.map_cons, List.map_nil, List.mem_cons, List.not_mem_nil, or_false, not_or]; exact n18)
      replace k21 := k21.chgM hd (by simp only [List.map_cons, List.map_nil, List.mem_cons, List.not_mem_nil, or_false, not_or]; exact n26.symm)
      have k67 := hq_ _ (.head _)
      replace k67 := Xj.blk k67
      replace hB := hd.toBelow hB (mA l19)
      replace hL := hL.chgM hd
      intro _ _
      refine WL.do (Qh (cs' := [.int .i64 half, .int .i64 gen, .int .i64 used]) (vs := [.int .i64 half, .int .i64 gen, .int .i64 used]) rfl Qs rfl rfl rfl (oC rfl (oC rfl (oC rfl Qk))) k21 rfl (nB rfl) rfl) rfl ?_
      rintro _ W68 ⟨k70, o69⟩
      replace k67 := k67.other o69 n26
      clear k21
      replace h1 := h1.only o69 (.head _)
      replace h2 := h2.only o69 (.head _)
      replace hB := o69.below hB l27
      refine Pu rfl (Ni (hK65 ?_))
      exact WC.ret fun a_ ha_ => hQ (Xh rfl (.agg rfl Qf k67.range rfl) (.agg rfl Qq k70.range rfl) (.tmp rfl) (by rw [Hh (by first | assumption | omega) (by first | assumption | omega) (D3 (List.mem_map_of_mem (f := Prod.fst) hrm) (by omega))]; exact ⟨_, _, rfl, (h1.less (fun x hx => (.tail _ (.tail _ (.tail _ (.tail _ hx)))))), (h2.less (fun x hx => (.tail _ (.tail _ (.tail _ (.tail _ hx))))))⟩) hB ha_)
    .
     replace c64 := dF c64
     refine WC.skip (hK62 ?_)
     have hsz : ZD (r58.1.length : Int) = (Z2 r58.1 : Int) := Ja (by omega)
     have hcs : Qz ((rs.take (i + 1)).map Prod.fst) = Qz ((rs.take i).map Prod.fst) + Z2 r58.1 := by rw [<- ZJ, List.take_add_one, e59, List.map_append]; rfl
     have hcl := Qaf (l := (rs.take i).map Prod.fst) (fun r_ hr_ => by obtain ⟨x_, hx_, rfl⟩ := List.mem_map.1 hr_; exact hsm x_ hx_)
     rw [List.length_map] at hcl
     have hcl2 := List.length_take_le i rs
     have hsd := GD (r58.1.length : Int)
     refine Rg (Pu rfl (Pu rfl (Va (ZX (Ym rfl QH rfl hrr) (show _ = Value.int .i64 (r58.1.length : Int) by rw [List.length_map])) rfl rfl ?_)))
     refine Ge (QQ rfl Tryd.func22 rfl rfl rfl (EW ((r58.1.length : Nat) : Int) W52 [] (LL.nil _) (by omega))) rfl rfl ?_
     rintro _ W72 ⟨rfl, b71⟩
     replace h1 := h1.below b71
     replace h2 := h2.below b71
     replace h3 := h3.below b71
     replace hrs := hrs.below b71
     replace k3 := k3.below b71
     replace k8 := k8.below b71
     replace k14 := k14.below b71
     replace k21 := k21.below b71
     replace hB := Qe hB b71
     replace hL := LL.below hL b71
     refine Va (QR (r := 1 + (Qz ((rs.take (i + 1)).map Prod.fst) : Int)) rfl rfl rfl (by rw [Qm (by omega)]; omega)) rfl rfl (Pu rfl (Ni (hK56 (Rg (Va (QR (r := (i : Int) + 1) rfl rfl rfl (Qm (by omega))) rfl rfl (Pu rfl (Ni ?_)))))))
     exact hK51 (i + 1) ⟨(by omega), (fun r_ hr_ => by rw [List.take_add_one, e59] at hr_; rcases List.mem_append.1 hr_ with h_ | h_; exact hsm r_ h_; simp only [Option.toList_some, List.mem_singleton] at h_; rw [h_]; omega), hB, hL, h1, h2, h3, hrs, k3, k8, k14, k21⟩ (by omega) (by repeat first | exact trivial | refine aR ?_ | refine aI (by omega) ?_)
   .
    replace c55 := dF c55
    refine WC.exit ?_
    refine hK49 (Sq fun K73 hK73 => (Sq fun K74 hK74 => ?_))
    have hie : i = rs.length := by omega
    have hsa : ∀ r ∈ rs.map Prod.fst, r.length <= 4096 := fun r_ hr_ => by obtain ⟨x_, hx_, rfl⟩ := List.mem_map.1 hr_; exact hsm x_ (by rw [List.take_of_length_le (by omega)]; exact hx_)
    have hcie : Qz ((rs.take i).map Prod.fst) = Qz (rs.map Prod.fst) := by rw [List.take_of_length_le (by omega)]
    rw [hcie]
    refine Rg (Pu rfl (Va (Qn (o1 := 0) rfl QE rfl rfl) rfl rfl (Va (Qi rfl Q7 rfl (k3.cell (k := 0) rfl)) rfl rfl (Va (QT rfl QW rfl h1) rfl rfl (Va (Y3 (r := (Qb.length : Int) / 2) rfl rfl rfl (by omega) (by rw [Int.tdiv_eq_ediv_of_nonneg (by omega)]; exact (Qm (by omega)))) rfl rfl (Va (XL rfl rfl rfl) rfl rfl (Ni ?_)))))))
    refine hK74 ?_
    refine WC.cond rfl (fun c75 => ?_) (fun c75 => ?_)
    .
     replace c75 := dT c75
     refine Sq fun K76 hK76 => ?_
     refine WC.drawC 3 [(2, W7.heap.size, [.slice none 0 0, .slice none 0 0, .int .i64 0, .bool false], fun cs_ _ => cs_ = [s1, s2, .int .i64 Qd, .bool Qc])] [(some 55, .is (.agg #[s1, s2, .int .i64 Qd, .bool Qc])), (some 56, .is (.agg #[.int .i64 half, .int .i64 gen, .int .i64 used])), (none, .by fun _ _ => True)] [[], [], [0, 0]] ⟨fun _ _ _ _ h => h, trivial⟩ (mA ⟨fun _ _ _ _ h => h, trivial⟩) ⟨fun x hx => (by cases hx), trivial⟩ (Xo (mA ⟨_, rfl⟩)) (mA k14) ?_ ?_
     .
      refine Ql.cons rfl (fun Wd hd hbs_ => ?_) ?_
      .
       have k3 := k3.chgM hd (by simp only [List.map_cons, List.map_nil, List.mem_cons, List.not_mem_nil, or_false, not_or]; exact n17)
       exact Dd (Qg rfl Qf rfl k3.range rfl) rfl
      refine Ql.cons rfl (fun Wd hd hbs_ => ?_) ?_
      .
       have k8 := k8.chgM hd (by simp only [List.map_cons, List.map_nil, List.mem_cons, List.not_mem_nil, or_false, not_or]; exact n18)
       exact Dd (Qg rfl Qq rfl k8.range rfl) rfl
      refine Ql.hit rfl (fun Wd hd hb_ => ?_) ?_
      .
       have h1 := h1.chgM hd (mA (.tail _ (.head _)))
       have h2 := h2.chgM hd (mA (.tail _ (.head _)))
       exact (Qx (vs := [s1, s2, .int .i64 Qd, .bool Qc]) rfl Qj rfl rfl rfl (oC h1.one (oC h2.one (oC rfl (oC rfl Qk)))) hb_ rfl rfl).mono (fun _ W' h => ⟨h.2, Xj.is h.1, trivial⟩)
      exact trivial
     .
      intro W77 hd hq_
      replace h1 := h1.chgM hd (mA (.tail _ (.head _)))
      replace h2 := h2.chgM hd (mA (.tail _ (.head _)))
      replace h3 := h3.chgM hd (mA (.tail _ (.head _)))
      replace hrs := hrs.chgM hd (mA (.tail _ (.head _)))
      replace k3 := k3.chgM hd (by simp only [List.map_cons, List.map_nil, List.mem_cons, List.not_mem_nil, or_false, not_or]; exact n17)
      replace k8 := k8.chgM hd (by simp only [List.map_cons, List.map_nil, List.mem_cons, List.not_mem_nil, or_false, not_or]; exact n18)
      replace k21 := k21.chgM hd (by simp only [List.map_cons, List.map_nil, List.mem_cons, List.not_mem_nil, or_false, not_or]; exact n26.symm)
      have k78 := hq_ _ (.head _)
      replace k78 := Xj.blk k78
      replace hB := hd.toBelow hB (mA l19)
      replace hL := hL.chgM hd
      intro _ _
      refine WL.do (Qh (cs' := [.int .i64 half, .int .i64 gen, .int .i64 used]) (vs := [.int .i64 half, .int .i64 gen, .int .i64 used]) rfl Qs rfl rfl rfl (oC rfl (oC rfl (oC rfl Qk))) k21 rfl (nB rfl) rfl) rfl ?_
      rintro _ W79 ⟨k81, o80⟩
      replace k78 := k78.other o80 n26
      clear k21
      replace h1 := h1.only o80 (.head _)
      replace h2 := h2.only o80 (.head _)
      replace hB := o80.below hB l27
      refine Pu rfl (Ni (hK76 ?_))
      exact WC.ret fun a_ ha_ => hQ (Xh rfl (.agg rfl Qf k78.range rfl) (.agg rfl Qq k81.range rfl) (.tmp rfl) (by rw [Hi (by first | assumption | omega) (by first | assumption | omega) (UA hsa) (by first | assumption | omega)]; exact ⟨_, _, rfl, (h1.less (fun x hx => (.tail _ (.tail _ (.tail _ (.tail _ hx)))))), (h2.less (fun x hx => (.tail _ (.tail _ (.tail _ (.tail _ hx))))))⟩) hB ha_)
    .
     replace c75 := dF c75
     refine WC.skip (hK73 (Sq fun K82 hK82 => ?_))
     have hq2 : 1 - half = 0 \/ 1 - half = 1 := by omega
     refine Rg (Va (Qg rfl Qf rfl k3.range rfl) rfl rfl (Va (Qn (o1 := 0) rfl ZC rfl rfl) rfl rfl (Va (Qi rfl Qv rfl (k8.cell (k := 0) rfl)) rfl rfl (Va (Zm (r := 1 - half) rfl rfl rfl (Qm (by omega))) rfl rfl (Pu rfl ?_)))))
     refine Ge (QQ rfl Tryd.func33 rfl rfl rfl (HO Qb Qa Qd Qc _ _ (1 - half) rs rv W52 _ hL h1 h2 h3 hrs hfu hq2 (by omega) hbd hrb (by omega) (hT.below hB))) rfl rfl ?_
     rintro _ W84 ⟨⟨a1, a2, rfl, ag1, ag2⟩, b83⟩
     replace h1 := h1.below b83
     replace h2 := h2.below b83
     replace h3 := h3.below b83
     replace hrs := hrs.below b83
     replace k3 := k3.below b83
     replace k8 := k8.below b83
     replace k14 := k14.below b83
     replace k21 := k21.below b83
     replace hB := Qe hB b83
     replace hL := LL.below hL b83
     refine Pu rfl (Pu rfl (Pu rfl (Pu rfl ?_)))
     refine Ge (Qu rfl QV rfl) rfl rfl ?_
     rintro _ W85 ⟨rfl, k86, b87, z88⟩
     have n89 : w.heap.size ≠ W84.heap.size := Nat.ne_of_lt k3.lt
     have n90 : W2.heap.size ≠ W84.heap.size := Nat.ne_of_lt k8.lt
     have n91 : W7.heap.size ≠ W84.heap.size := Nat.ne_of_lt k14.lt
     have n92 : W13.heap.size ≠ W84.heap.size := Nat.ne_of_lt k21.lt
     have l93 := hB.size
     replace h1 := h1.more b87 (Nat.le_refl _)
     replace h2 := h2.more b87 (Nat.le_refl _)
     replace h3 := h3.more b87 (Nat.le_refl _)
     replace hrs := hrs.more b87 (Nat.le_refl _)
     replace ag1 := ag1.more b87 (Nat.le_refl _)
     replace ag2 := ag2.more b87 (Nat.le_refl _)
     replace k3 := k3.below b87
     replace k8 := k8.below b87
     replace k14 := k14.below b87
     replace k21 := k21.below b87
     replace hB := Qe hB b87
     replace hL := LL.more hL z88
     refine Ge (Qu rfl Xv rfl) rfl rfl ?_
     rintro _ W94 ⟨rfl, k95, b96, z97⟩
     have n98 : w.heap.size ≠ W85.heap.size := Nat.ne_of_lt k3.lt
     have n99 : W2.heap.size ≠ W85.heap.size := Nat.ne_of_lt k8.lt
     have n100 : W7.heap.size ≠ W85.heap.size := Nat.ne_of_lt k14.lt
     have n101 : W13.heap.size ≠ W85.heap.size := Nat.ne_of_lt k21.lt
     have n102 : W84.heap.size ≠ W85.heap.size := Nat.ne_of_lt k86.lt
     have l103 := hB.size
     replace h1 := h1.more b96 (Nat.le_refl _)
     replace h2 := h2.more b96 (Nat.le_refl _)
     replace h3 := h3.more b96 (Nat.le_refl _)
     replace hrs := hrs.more b96 (Nat.le_refl _)
     replace ag1 := ag1.more b96 (Nat.le_refl _)
     replace ag2 := ag2.more b96 (Nat.le_refl _)
     replace k3 := k3.below b96
     replace k8 := k8.below b96
     replace k14 := k14.below b96
     replace k21 := k21.below b96
     replace k86 := k86.below b96
     replace hB := Qe hB b96
     replace hL := LL.more hL z97
     refine WL.do (Qh (cs' := [a1, a2, .int .i64 ((QC Qb Qa Qd Qc (1 - half) (rs.map Prod.fst)).1.Qd), .bool ((QC Qb Qa Qd Qc (1 - half) (rs.map Prod.fst)).1.Qc)]) (vs := [a1, a2, .int .i64 ((QC Qb Qa Qd Qc (1 - half) (rs.map Prod.fst)).1.Qd), .bool ((QC Qb Qa Qd Qc (1 - half) (rs.map Prod.fst)).1.Qc)]) rfl Qj rfl rfl rfl (oC ag1.one (oC ag2.one (oC rfl (oC rfl Qk)))) k86 rfl (nB rfl) rfl) rfl ?_
     rintro _ W104 ⟨k106, o105⟩
     replace k3 := k3.other o105 n89
     replace k8 := k8.other o105 n90
     replace k14 := k14.other o105 n91
     replace k21 := k21.other o105 n92
     replace k95 := k95.other o105 n102.symm
     clear k86
     replace h1 := h1.only o105 (.tail _ (.head _))
     replace h2 := h2.only o105 (.tail _ (.head _))
     replace h3 := h3.only o105 (.tail _ (.head _))
     replace hrs := hrs.only o105 (.tail _ (.head _))
     replace ag1 := ag1.only o105 (.tail _ (.head _))
     replace ag2 := ag2.only o105 (.tail _ (.head _))
     replace hB := o105.below hB l93
     replace hL := LL.only hL o105
     refine WL.do (Qh (cs' := [.int .i64 ((QC Qb Qa Qd Qc (1 - half) (rs.map Prod.fst)).2.1), .int .i64 ((QC Qb Qa Qd Qc (1 - half) (rs.map Prod.fst)).2.2.1), .int .i64 ((QC Qb Qa Qd Qc (1 - half) (rs.map Prod.fst)).2.2.2)]) (vs := [.int .i64 ((QC Qb Qa Qd Qc (1 - half) (rs.map Prod.fst)).2.1), .int .i64 ((QC Qb Qa Qd Qc (1 - half) (rs.map Prod.fst)).2.2.1), .int .i64 ((QC Qb Qa Qd Qc (1 - half) (rs.map Prod.fst)).2.2.2)]) rfl Qs rfl rfl rfl (oC rfl (oC rfl (oC rfl Qk))) k95 rfl (nB rfl) rfl) rfl ?_
     rintro _ W107 ⟨k109, o108⟩
     replace k3 := k3.other o108 n98
     replace k8 := k8.other o108 n99
     replace k14 := k14.other o108 n100
     replace k21 := k21.other o108 n101
     replace k106 := k106.other o108 n102
     clear k95
     replace h1 := h1.only o108 (.head _)
     replace h2 := h2.only o108 (.head _)
     replace h3 := h3.only o108 (.head _)
     replace hrs := hrs.only o108 (.head _)
     replace ag1 := ag1.only o108 (.head _)
     replace ag2 := ag2.only o108 (.head _)
     replace hB := o108.below hB l103
     replace hL := LL.only hL o108
     refine Pu rfl (Ni (hK82 (Sq fun K110 hK110 => (Sq fun K111 hK111 => (Rg (Pu rfl (Va (Xl rfl rfl rfl) rfl rfl ?_)))))))
     refine Ni (hK111 ?_)
     refine WC.cond rfl (fun c112 => ?_) (fun c112 => ?_)
     .
      replace c112 := Q4 c112
      replace c112 := dF c112
      refine Sq fun K113 hK113 => ?_
      refine WC.drawC 5 [(3, W7.heap.size, [.slice none 0 0, .slice none 0 0, .int .i64 0, .bool false], fun cs_ _ => cs_ = [a1, a2, .int .i64 ((QC Qb Qa Qd Qc (1 - half) (rs.map Prod.fst)).1.Qd), .bool ((QC Qb Qa Qd Qc (1 - half) (rs.map Prod.fst)).1.Qc)]), (4, W13.heap.size, [.int .i64 0, .int .i64 0, .int .i64 0], fun cs_ _ => cs_ = [.int .i64 half, .int .i64 gen, .int .i64 used])] [(some 69, .is (.agg #[a1, a2, .int .i64 ((QC Qb Qa Qd Qc (1 - half) (rs.map Prod.fst)).1.Qd), .bool ((QC Qb Qa Qd Qc (1 - half) (rs.map Prod.fst)).1.Qc)])), (some 70, .is (.agg #[.int .i64 half, .int .i64 gen, .int .i64 used])), (some 71, .is (.int .i64 ((QC Qb Qa Qd Qc (1 - half) (rs.map Prod.fst)).1.err))), (none, .by fun _ _ => True), (none, .by fun _ _ => True)] [[], [], [], [0, 0], [1, 3, 0, 1, 3]] ⟨fun _ _ _ _ h => h, fun _ _ _ _ h => h, trivial⟩ (mB ⟨fun _ _ _ _ h => h, fun _ _ _ _ h => h, trivial⟩ ⟨fun _ _ _ _ h => h, fun _ _ _ _ h => h, trivial⟩) ⟨fun x hx => (by simp only [List.mem_cons, List.not_mem_nil, or_false] at hx; subst hx; exact ⟨(show ¬ ((4 : Nat) = 3) by decide), n26.symm⟩), ⟨fun x hx => (by cases hx), trivial⟩⟩ (Xo (mB ⟨_, rfl⟩ ⟨_, rfl⟩)) (mB k14 k21) ?_ ?_
      .
       refine Ql.cons rfl (fun Wd hd hbs_ => ?_) ?_
       .
        have k106 := k106.chgM hd (by simp only [List.map_cons, List.map_nil, List.mem_cons, List.not_mem_nil, or_false, not_or]; exact ⟨n91.symm, n92.symm⟩)
        exact Dd (Qg rfl Qf rfl k106.range rfl) rfl
       refine Ql.cons rfl (fun Wd hd hbs_ => ?_) ?_
       .
        have k8 := k8.chgM hd (by simp only [List.map_cons, List.map_nil, List.mem_cons, List.not_mem_nil, or_false, not_or]; exact ⟨n18, n25⟩)
        exact Dd (Qg rfl Qq rfl k8.range rfl) rfl
       refine Ql.cons rfl (fun Wd hd hbs_ => ?_) ?_
       .
        exact Dd (Qt rfl rfl) rfl
       refine Ql.hit rfl (fun Wd hd hb_ => ?_) ?_
       .
        have ag1 := ag1.chgM hd (mB (.tail _ (.tail _ (.tail _ (.head _)))) (.tail _ (.tail _ (.head _))))
        have ag2 := ag2.chgM hd (mB (.tail _ (.tail _ (.tail _ (.head _)))) (.tail _ (.tail _ (.head _))))
        exact (Qx (vs := [a1, a2, .int .i64 ((QC Qb Qa Qd Qc (1 - half) (rs.map Prod.fst)).1.Qd), .bool ((QC Qb Qa Qd Qc (1 - half) (rs.map Prod.fst)).1.Qc)]) rfl Qj rfl rfl rfl (oC ag1.one (oC ag2.one (oC rfl (oC rfl Qk)))) hb_ rfl rfl).mono (fun _ W' h => ⟨h.2, Xj.is h.1, trivial⟩)
       refine Ql.hit rfl (fun Wd hd hb_ => ?_) ?_
       .
        intro u19_3 p19_3 u19_3 p19_3
        exact (Qx (vs := [.int .i64 half, .int .i64 gen, .int .i64 used]) rfl Qs rfl rfl rfl (oC rfl (oC rfl (oC rfl Qk))) hb_ rfl rfl).mono (fun _ W' h => ⟨h.2, Xj.is h.1, trivial⟩)
       exact trivial
      .
       intro W114 hd hq_
       replace h1 := h1.chgM hd (mB (.tail _ (.tail _ (.tail _ (.head _)))) (.tail _ (.tail _ (.head _))))
       replace h2 := h2.chgM hd (mB (.tail _ (.tail _ (.tail _ (.head _)))) (.tail _ (.tail _ (.head _))))
       replace h3 := h3.chgM hd (mB (.tail _ (.tail _ (.tail _ (.head _)))) (.tail _ (.tail _ (.head _))))
       replace hrs := hrs.chgM hd (mB (.tail _ (.tail _ (.tail _ (.head _)))) (.tail _ (.tail _ (.head _))))
       replace ag1 := ag1.chgM hd (mB (.tail _ (.tail _ (.tail _ (.head _)))) (.tail _ (.tail _ (.head _))))
       replace ag2 := ag2.chgM hd (mB (.tail _ (.tail _ (.tail _ (.head _)))) (.tail _ (.tail _ (.head _))))
       replace k3 := k3.chgM hd (by simp only [List.map_cons, List.map_nil, List.mem_cons, List.not_mem_nil, or_false, not_or]; exact ⟨n17, n24⟩)
       replace k8 := k8.chgM hd (by simp only [List.map_cons, List.map_nil, List.mem_cons, List.not_mem_nil, or_false, not_or]; exact ⟨n18, n25⟩)
       replace k106 := k106.chgM hd (by simp only [List.map_cons, List.map_nil, List.mem_cons, List.not_mem_nil, or_false, not_or]; exact ⟨n91.symm, n92.symm⟩)
       replace k109 := k109.chgM hd (by simp only [List.map_cons, List.map_nil, List.mem_cons, List.not_mem_nil, or_false, not_or]; exact ⟨n100.symm, n101.symm⟩)
       have k115 := hq_ _ (.head _)
       replace k115 := Xj.blk k115
       have k116 := hq_ _ (.tail _ (.head _))
       replace k116 := Xj.blk k116
       replace hB := hd.toBelow hB (mB l19 l27)
       replace hL := hL.chgM hd
       intro _ _
       intro _ _
       refine Pu rfl (Ni (hK113 ?_))
       exact WC.ret fun a_ ha_ => hQ (Xh rfl (.agg rfl Qf k115.range rfl) (.agg rfl Qq k116.range rfl) (.tmp rfl) (by rw [JO (by first | assumption | omega) (by first | assumption | omega) (UA hsa) (by first | assumption | omega) (by first | assumption | omega)]; exact ⟨_, _, rfl, (ag1.less (fun x hx => (.tail _ (.tail _ (.tail _ (.tail _ (.tail _ (.tail _ hx)))))))), (ag2.less (fun x hx => (.tail _ (.tail _ (.tail _ (.tail _ (.tail _ (.tail _ hx))))))))⟩) hB ha_)
     .
      replace c112 := Q2 c112
      replace c112 := dT c112
      refine WC.skip (hK110 (Sq fun K117 hK117 => ?_))
      refine WC.drawC 3 [(2, W7.heap.size, [.slice none 0 0, .slice none 0 0, .int .i64 0, .bool false], fun cs_ _ => cs_ = [a1, a2, .int .i64 ((QC Qb Qa Qd Qc (1 - half) (rs.map Prod.fst)).1.Qd), .bool ((QC Qb Qa Qd Qc (1 - half) (rs.map Prod.fst)).1.Qc)])] [(some 72, .is (.agg #[a1, a2, .int .i64 ((QC Qb Qa Qd Qc (1 - half) (rs.map Prod.fst)).1.Qd), .bool ((QC Qb Qa Qd Qc (1 - half) (rs.map Prod.fst)).1.Qc)])), (some 73, .is (.agg #[.int .i64 ((QC Qb Qa Qd Qc (1 - half) (rs.map Prod.fst)).2.1), .int .i64 ((QC Qb Qa Qd Qc (1 - half) (rs.map Prod.fst)).2.2.1), .int .i64 ((QC Qb Qa Qd Qc (1 - half) (rs.map Prod.fst)).2.2.2)])), (none, .by fun _ _ => True)] [[], [], [0, 0]] ⟨fun _ _ _ _ h => h, trivial⟩ (mA ⟨fun _ _ _ _ h => h, trivial⟩) ⟨fun x hx => (by cases hx), trivial⟩ (Xo (mA ⟨_, rfl⟩)) (mA k14) ?_ ?_
      .
       refine Ql.cons rfl (fun Wd hd hbs_ => ?_) ?_
       .
        have k106 := k106.chgM hd (by simp only [List.map_cons, List.map_nil, List.mem_cons, List.not_mem_nil, or_false, not_or]; exact n91.symm)
        exact Dd (Qg rfl Qf rfl k106.range rfl) rfl
       refine Ql.cons rfl (fun Wd hd hbs_ => ?_) ?_
       .
        have k109 := k109.chgM hd (by simp only [List.map_cons, List.map_nil, List.mem_cons, List.not_mem_nil, or_false, not_or]; exact n100.symm)
        exact Dd (Qg rfl Qq rfl k109.range rfl) rfl
       refine Ql.hit rfl (fun Wd hd hb_ => ?_) ?_
       .
        have ag1 := ag1.chgM hd (mA (.tail _ (.tail _ (.tail _ (.head _)))))
        have ag2 := ag2.chgM hd (mA (.tail _ (.tail _ (.tail _ (.head _)))))
        exact (Qx (vs := [a1, a2, .int .i64 ((QC Qb Qa Qd Qc (1 - half) (rs.map Prod.fst)).1.Qd), .bool ((QC Qb Qa Qd Qc (1 - half) (rs.map Prod.fst)).1.Qc)]) rfl Qj rfl rfl rfl (oC ag1.one (oC ag2.one (oC rfl (oC rfl Qk)))) hb_ rfl rfl).mono (fun _ W' h => ⟨h.2, Xj.is h.1, trivial⟩)
       exact trivial
      .
       intro W118 hd hq_
       replace h1 := h1.chgM hd (mA (.tail _ (.tail _ (.tail _ (.head _)))))
       replace h2 := h2.chgM hd (mA (.tail _ (.tail _ (.tail _ (.head _)))))
       replace h3 := h3.chgM hd (mA (.tail _ (.tail _ (.tail _ (.head _)))))
       replace hrs := hrs.chgM hd (mA (.tail _ (.tail _ (.tail _ (.head _)))))
       replace ag1 := ag1.chgM hd (mA (.tail _ (.tail _ (.tail _ (.head _)))))
       replace ag2 := ag2.chgM hd (mA (.tail _ (.tail _ (.tail _ (.head _)))))
       replace k3 := k3.chgM hd (by simp only [List.map_cons, List.map_nil, List.mem_cons, List.not_mem_nil, or_false, not_or]; exact n17)
       replace k8 := k8.chgM hd (by simp only [List.map_cons, List.map_nil, List.mem_cons, List.not_mem_nil, or_false, not_or]; exact n18)
       replace k21 := k21.chgM hd (by simp only [List.map_cons, List.map_nil, List.mem_cons, List.not_mem_nil, or_false, not_or]; exact n26.symm)
       replace k106 := k106.chgM hd (by simp only [List.map_cons, List.map_nil, List.mem_cons, List.not_mem_nil, or_false, not_or]; exact n91.symm)
       replace k109 := k109.chgM hd (by simp only [List.map_cons, List.map_nil, List.mem_cons, List.not_mem_nil, or_false, not_or]; exact n100.symm)
       have k119 := hq_ _ (.head _)
       replace k119 := Xj.blk k119
       replace hB := hd.toBelow hB (mA l19)
       replace hL := hL.chgM hd
       intro _ _
       refine WL.do (Qh (cs' := [.int .i64 ((QC Qb Qa Qd Qc (1 - half) (rs.map Prod.fst)).2.1), .int .i64 ((QC Qb Qa Qd Qc (1 - half) (rs.map Prod.fst)).2.2.1), .int .i64 ((QC Qb Qa Qd Qc (1 - half) (rs.map Prod.fst)).2.2.2)]) (vs := [.int .i64 ((QC Qb Qa Qd Qc (1 - half) (rs.map Prod.fst)).2.1), .int .i64 ((QC Qb Qa Qd Qc (1 - half) (rs.map Prod.fst)).2.2.1), .int .i64 ((QC Qb Qa Qd Qc (1 - half) (rs.map Prod.fst)).2.2.2)]) rfl Qs rfl rfl rfl (oC rfl (oC rfl (oC rfl Qk))) k21 rfl (nB rfl) rfl) rfl ?_
       rintro _ W120 ⟨k122, o121⟩
       replace k119 := k119.other o121 n26
       clear k21
       replace ag1 := ag1.only o121 (.tail _ (.tail _ (.head _)))
       replace ag2 := ag2.only o121 (.tail _ (.tail _ (.head _)))
       replace hB := o121.below hB l27
       refine Pu rfl (Ni (hK117 ?_))
       exact WC.ret fun a_ ha_ => hQ (Xh rfl (.agg rfl Qf k119.range rfl) (.agg rfl Qq k122.range rfl) (.tmp rfl) (by rw [Hg (by first | assumption | omega) (by first | assumption | omega) (UA hsa) (by first | assumption | omega) (by first | assumption | exact Classical.not_not.1 (by assumption))]; exact ⟨_, _, G7 (by first | assumption | exact Classical.not_not.1 (by assumption)), (ag1.less (fun x hx => (.tail _ (.tail _ (.tail _ (.tail _ (.tail _ (.tail _ hx)))))))), (ag2.less (fun x hx => (.tail _ (.tail _ (.tail _ (.tail _ (.tail _ (.tail _ hx))))))))⟩) hB ha_)

end Go.Proofs.YtfachlmgdlnpoaaDoor
namespace Go.Proofs.YtfachlmgdlnpoaaDoor
set_option linter.unusedVariables false
set_option maxRecDepth 8000

theorem FQ : ∀ (k : Nat) (n : Int), 0 <= n -> Zg (ZG k n) = n % 2 ^ (8 * k)
 | 0, n, h => by show (0 : Int) = n % 1; omega
 | k + 1, n, h => by
  rw [Gf, UP, FQ k n h, Xp, QaO, QaO, Int.pow_succ]
  have hp : (0 : Int) < 256 ^ k := Int.pow_pos (by decide)
  generalize (256 : Int) ^ k = m at *
  have h1 := Int.mul_ediv_add_emod n m
  have h2 := Int.mul_ediv_add_emod n (m * 256)
  have e : n / m / 256 = n / (m * 256) := by rw [Int.ediv_ediv, if_neg (fun q => absurd q.1 (by omega))]; omega
  rw [<- e] at h2
  have h3 := Int.mul_ediv_add_emod (n / m) 256
  generalize n / m = a at *
  generalize a / 256 = b at *
  generalize a % 256 = c at *
  generalize n % m = r at *
  generalize n % (m * 256) = t at *
  have e1 : m * 256 * b = m * (256 * b) := Int.mul_assoc ..
  have e2 : m * a = m * (256 * b) + m * c := by rw [<- Int.mul_add, h3]
  rw [Int.mul_comm c m]
  omega
theorem Ki {k : Nat} {n : Int} (hk : k <= 8) (h0 : 0 <= n) (h1 : n < 2 ^ (8 * k)) (h2 : n < 9223372036854775808) : X9 (ZG k n) = n := by
 unfold X9
 rw [FQ k n h0, Int.emod_eq_of_lt h0 h1, Qm (by omega)]
structure KN (p : Pg) : Prop where
 g1 : 1 <= p.gen
 g2 : p.gen <= 1099511627776
 i1 : 0 <= p.idx
 i2 : p.idx < 4294967296
 m1 : 0 <= p.mks
 m2 : p.mks <= 3
 dl : p.dat.length <= 100
 db : Z0 p.dat
theorem GJ {p : Pg} (h : p.dat.length <= 100) : ((Xk p).drop 0).take 8 = ZG 8 p.gen /\ ((Xk p).drop 8).take 4 = ZG 4 p.idx /\ (Xk p)[12]? = some ((p.dat.length : Int) % 256) /\ (Xk p)[13]? = some (p.mks % 256) /\ ((Xk p).drop 14).take p.dat.length = p.dat := by
  unfold Xk XN
  have h8 := Xp 8 p.gen
  have h4 := Xp 4 p.idx
  generalize ZG 8 p.gen = a at *
  generalize ZG 4 p.idx = b at *
  simp only [List.append_assoc]
  refine ⟨?_, ?_, ?_, ?_, ?_⟩
  . rw [List.drop_zero, List.take_append_of_le_length (by omega), List.take_of_length_le (by omega)]
  . rw [List.drop_append_of_le_length (by omega), List.drop_of_length_le (by omega), List.nil_append, List.take_append_of_le_length (by omega), List.take_of_length_le (by omega)]
  . rw [List.getElem?_append_right (by omega), List.getElem?_append_right (by omega), h8, h4]; rfl
  . rw [List.getElem?_append_right (by omega), List.getElem?_append_right (by omega), h8, h4]; rfl
  . rw [show 14 = a.length + (b.length + (1 + 1)) by omega, List.drop_append, List.drop_append, List.drop_of_length_le (by omega), List.drop_of_length_le (by omega)]
    rw [show a.length + (b.length + (1 + 1)) - a.length - b.length = 2 by omega]
    simp
theorem Qci {p : Pg} (h : KN p) : Ub (Xk p) = p := by
 obtain ⟨e1, e2, e3, e4, e5⟩ := GJ h.dl
 unfold Ub
 rw [e1, e2, e3, e4]
 have := h.g1; have := h.g2; have := h.i1; have := h.i2; have := h.m1; have := h.m2; have := h.dl
 rw [Ki (by decide) (by omega) (by show p.gen < 18446744073709551616; omega) (by omega), Ki (by decide) h.i1 (by show p.idx < 4294967296; omega) (by omega)]
 simp only [Option.getD_some]
 rw [show (p.dat.length : Int) % 256 = p.dat.length by omega, Int.toNat_natCast, e5, show p.mks % 256 = p.mks by omega]
theorem FU {p : Pg} (h : KN p) : Zq (Xk p) = some p := by
 have e := Qci h
 obtain ⟨e1, e2, e3, e4, e5⟩ := GJ h.dl
 have hb : ¬ VR (Xk p) := by
  unfold VR
  rw [e1, e3, e4]
  have := h.g1; have := h.g2; have := h.i1; have := h.i2; have := h.m1; have := h.m2; have := h.dl
  rw [Ki (by decide) (by omega) (by show p.gen < 18446744073709551616; omega) (by omega)]
  simp only [Option.getD_some]
  omega
 unfold Zq
 rw [if_neg hb, e, if_pos rfl]
theorem Qau : Zq z0 = none := by
 unfold Zq
 rw [if_pos (by unfold VR; exact .inl (by decide +kernel))]
def Xm (Qb : List (List Int)) (Qa : List (Int × List Int)) (a : Nat) : Option Pg := Zq (Xn Qb Qa false (a : Int)).1
def UU (V : Nat -> Option Pg) (fr k : Nat) : Option Pg := match V (fr + k) with
 | some p => if p.idx = (k : Int) then some p else none
 | none => none
theorem Qe1 {Qb : List (List Int)} {a : Nat} (h : a < Qb.length) : Vq Qb (a : Int) = true := by
 unfold Vq
 rw [decide_eq_true (by omega), decide_eq_true (by omega)]; rfl
theorem J0 {Qb : List (List Int)} {Qa : List (Int × List Int)} (hr : QM Qb Qa = true) {a : Nat} (ha : a < Qb.length) : Xn Qb Qa false (a : Int) = match Zl Qa (a : Int) Qa.length with | some z => (z, 0) | none => (Qb[a]?.getD [], 0) := by
 unfold Xn
 rw [if_neg (by rw [hr]; decide), if_neg (by rw [Qe1 ha]; decide), if_neg (by decide)]
 rfl
theorem Qb9 {Qb : List (List Int)} {Qa : List (Int × List Int)} (hr : QM Qb Qa = true) {a : Nat} (ha : a < Qb.length) : (Xn Qb Qa false (a : Int)).2 = 0 := by
 rw [J0 hr ha]
 split <;> rfl
theorem QaV {Qb : List (List Int)} {Qa : List (Int × List Int)} (hr : QM Qb Qa = true) {fr k : Nat} (ha : fr + k < Qb.length) : HJ Qb Qa false (fr : Int) k = UU (Xm Qb Qa) fr k := by
 show UK Qb Qa false ((fr : Int) + (k : Int)) (k : Int) = _
 rw [show (fr : Int) + (k : Int) = ((fr + k : Nat) : Int) by omega]
 unfold UK UU Xm
 rw [if_neg (fun q => q (Qb9 hr ha))]
 generalize Zq (Xn Qb Qa false ((fr + k : Nat) : Int)).1 = x
 cases x <;> rfl
theorem Eb {pg pg' : Nat -> Option Pg} {sz st : Nat} {gen : Int} (h : ∀ k, k < sz -> pg k = pg' k) : ∀ (f k : Nat) (out : List Int), YT pg sz st gen f k out = YT pg' sz st gen f k out
  | 0, k, out => rfl
  | f + 1, k, out => by
    rw [YT, YT]
    by_cases hk : k < sz
    . rw [if_pos hk, if_pos hk, h k hk]
      split
      . rfl
      . rw [Eb h f]
    . rw [if_neg hk, if_neg hk]
theorem GP {pg pg' : Nat -> Option Pg} {sz st : Nat} {gen : Int} (h : ∀ k, k < sz -> pg k = pg' k) : Uf pg sz st gen = Uf pg' sz st gen := Eb h _ _ _
theorem HG {pg pg' : Nat -> Option Pg} {sz n : Nat} {gen : Int} (h : ∀ k, k < sz -> pg k = pg' k) : ∀ (f k : Nat) (l : List (List Int)), Z5 pg sz n gen f k l = Z5 pg' sz n gen f k l
  | 0, k, l => rfl
  | f + 1, k, l => by
    rw [Z5, Z5, GP h]
    split
    . split
      . rfl
      . rw [HG h f]
    . rfl
theorem HF {pg pg' : Nat -> Option Pg} {sz : Nat} {gen : Int} (h : ∀ k, k < sz -> pg k = pg' k) : ∀ (f k : Nat) (l : List (List Int)), Yd pg sz gen f k l = Yd pg' sz gen f k l
 | 0, k, l => rfl
 | f + 1, k, l => by
  rw [Yd, Yd, GP h]
  split
  . rfl
  . rw [HF h f]
theorem Kv {pg pg' : Nat -> Option Pg} {sz : Nat} (hs : 0 < sz) (h : ∀ k, k < sz -> pg k = pg' k) : ZV pg sz = ZV pg' sz := by
  unfold ZV
  rw [h 0 hs]
  split
  . rfl
  . split
    . rfl
    . split
      . rfl
      . rw [HG h]
        split
        . rfl
        . rw [HF h]
theorem Qa7 {Qb : List (List Int)} {Qa : List (Int × List Int)} (hr : QM Qb Qa = true) (hn : 2 <= Qb.length) {q : Int} {Q : Nat} (hq : q = (Q : Int)) (hQ : Q <= 1) : Ev Qb Qa false q = ZV (UU (Xm Qb Qa) (Q * (Qb.length / 2))) (Qb.length / 2) := by
 subst hq
 unfold Ev
 have e : (Q : Int) * ((Qb.length : Int) / 2) = ((Q * (Qb.length / 2) : Nat) : Int) := by rw [Int.natCast_mul]; rfl
 rw [e]
 refine Kv (by omega) fun k hk => QaV hr ?_
 have : Q = 0 \/ Q = 1 := by omega
 rcases this with rfl | rfl <;> omega
theorem Y0 {gen fr : Int} {r : List Int} {k : Nat} (hk : k < Z2 r) : (Xw gen fr r)[k]? = some ⟨gen, fr + (k : Int), (if k = 0 then 1 else 0) + (if k + 1 = Z2 r then 2 else 0), Jy r k⟩ := by
 unfold Xw
 rw [List.getElem?_map, List.getElem?_range hk]; rfl
theorem QdW {k n : Nat} : b1 ((if k = 0 then 1 else 0) + (if k + 1 = n then 2 else 0)) = decide (k = 0) := by
 by_cases h1 : k = 0 <;> by_cases h2 : k + 1 = n <;> simp only [h1, h2, if_true, if_false, decide_true, decide_false] <;> first | decide | (subst h1; simp only [h2, if_true, if_false]; decide)
theorem D2 {k n : Nat} : b2 ((if k = 0 then 1 else 0) + (if k + 1 = n then 2 else 0)) = decide (k + 1 = n) := by
 by_cases h1 : k = 0 <;> by_cases h2 : k + 1 = n <;> simp only [h1, h2, if_true, if_false, decide_true, decide_false] <;> first | decide | (subst h1; simp only [h2, if_true, if_false]; decide)
theorem Qc6 (r : List Int) (k : Nat) : r.take (100 * k) ++ Jy r k = r.take (100 * (k + 1)) := by
 unfold Jy
 rw [Nat.mul_add, Nat.mul_one, List.take_add]
theorem Kb (r : List Int) : 1 <= Z2 r := by unfold Z2; split <;> omega
theorem HI {pg : Nat -> Option Pg} {sz st : Nat} {gen : Int} {r : List Int} (h : ∀ k, k < Z2 r -> pg (st + k) = (Xw gen (st : Int) r)[k]?) (hs : st + Z2 r <= sz) : ∀ (j k f : Nat), k + j = Z2 r -> 1 <= j -> j <= f -> YT pg sz st gen f (st + k) (r.take (100 * k)) = some (r, st + Z2 r)
 | 0, k, f, _, h1, _ => absurd h1 (by decide)
 | j + 1, k, 0, _, _, h2 => absurd h2 (by omega)
 | j + 1, k, f + 1, e, _, h2 => by
  have hp := h k (by omega)
  rw [Y0 (by omega)] at hp
  have hg : ¬ (¬ gen = gen \/ ¬ b1 ((if k = 0 then 1 else 0) + (if k + 1 = Z2 r then 2 else 0)) = decide (st + k = st)) := by
   rw [QdW]
   have : (k = 0) ↔ (st + k = st) := by omega
   rintro (q | q)
   . exact q rfl
   . exact q (decide_eq_decide.2 this)
  have hn : r.length = 0 /\ Z2 r = 1 \/ 0 < r.length /\ Z2 r = (r.length + 99) / 100 := by unfold Z2; split <;> omega
  have hc : (Jy r k).length = min 100 (r.length - 100 * k) := by unfold Jy; rw [List.length_take, List.length_drop]
  cases j with
  | zero =>
   rw [E2 (by omega) hp hg (by rw [D2]; exact decide_eq_true (by omega)) (by rintro ⟨q1, q2⟩; rw [hc] at q2; omega)]
   rw [Qc6, List.take_of_length_le (by omega)]
   congr 2
   omega
  | succ j =>
   rw [Qb6 (by omega) hp hg (by rw [D2]; simp; omega) (by rw [hc]; omega), Qc6]
   exact HI h hs (j + 1) (k + 1) f (by omega) (by omega) (by omega)
theorem QaJ {pg : Nat -> Option Pg} {sz st : Nat} {gen : Int} {r : List Int} (h : ∀ k, k < Z2 r -> pg (st + k) = (Xw gen (st : Int) r)[k]?) (hs : st + Z2 r <= sz) : Uf pg sz st gen = some (r, st + Z2 r) := by
 have := HI h hs (Z2 r) 0 (sz - st + 1) (by omega) (Kb r) (by omega)
 exact this
theorem Hj (a b : List (List Int)) : Qz (a ++ b) = Qz a + Qz b := by unfold Qz; rw [List.map_append, List.sum_append]
theorem Um (r : List Int) (b : List (List Int)) : Qz (r :: b) = Z2 r + Qz b := by unfold Qz; rw [List.map_cons, List.sum_cons]
theorem EA (l : List (List Int)) : l.length <= Qz l := by
 induction l with
 | nil => exact Nat.zero_le _
 | cons a l ih => have := Kb a; rw [Um, List.length_cons]; omega
theorem El (gen : Int) : ∀ (a b : List (List Int)) (u : Int), Zp gen u (a ++ b) = Zp gen u a ++ Zp gen (u + (Qz a : Int)) b
 | [], b, u => by show Zp gen u b = Zp gen (u + ((0 : Nat) : Int)) b; congr 1; omega
 | r :: a, b, u => by
  rw [List.cons_append, Zp, Zp, El gen a b, List.append_assoc, Um]
  congr 3
  omega
theorem ZW (gen : Int) : ∀ (l : List (List Int)) (u : Int), (Zp gen u l).length = Qz l
 | [], u => rfl
 | r :: l, u => by rw [Zp, List.length_append, Za, ZW gen l, Um]
theorem QdP {gen : Int} {a b : List (List Int)} {r : List Int} {k : Nat} (hk : k < Z2 r) : (Zp gen 1 (a ++ r :: b))[Qz a + k]? = (Xw gen ((1 + Qz a : Nat) : Int) r)[k]? := by
 rw [El, List.getElem?_append_right (by rw [ZW]; omega), ZW, Nat.add_sub_cancel_left, Zp, List.getElem?_append_left (by rw [Za]; exact hk)]
 congr 2
theorem Vj {gen : Int} : ∀ {l : List (List Int)} {u : Int} {k : Nat} {p : Pg}, (Zp gen u l)[k]? = some p -> p.idx = u + (k : Int) /\ p.gen = gen /\ 0 <= p.mks /\ p.mks <= 3 /\ p.dat.length <= 100 /\ ∃ r ∈ l, ∃ j, p.dat = Jy r j
  | [], u, k, p, h => by simp [Zp] at h
  | r :: l, u, k, p, h => by
    rw [Zp] at h
    by_cases hk : k < Z2 r
    . rw [List.getElem?_append_left (by rw [Za]; exact hk), Y0 hk] at h
      cases h
      refine ⟨rfl, rfl, ?_, ?_, FF _ _, r, .head _, k, rfl⟩
      . show (0 : Int) <= (if k = 0 then 1 else 0) + (if k + 1 = Z2 r then 2 else 0); split <;> split <;> decide
      . show (if k = 0 then (1 : Int) else 0) + (if k + 1 = Z2 r then 2 else 0) <= 3; split <;> split <;> decide
    . rw [List.getElem?_append_right (by rw [Za]; omega), Za] at h
      obtain ⟨h1, h2, h3, h4, h5, q, hq, j, h6⟩ := Vj h
      exact ⟨by rw [h1]; omega, h2, h3, h4, h5, q, .tail _ hq, j, h6⟩
theorem QdO {gen u : Int} {l : List (List Int)} (hg : 1 <= gen /\ gen <= 1099511627776) (hb : ∀ r ∈ l, Z0 r) (hu : 0 <= u) (hc : u + (Qz l : Int) <= 4294967296) {k : Nat} {p : Pg} (h : (Zp gen u l)[k]? = some p) : KN p := by
 have hk := (List.getElem?_eq_some_iff.1 h).1
 rw [ZW] at hk
 obtain ⟨h1, h2, h3, h4, h5, q, hq, j, h6⟩ := Vj h
 exact ⟨by omega, by omega, by omega, by omega, h3, h4, h5, by rw [h6]; exact KL (hb q hq) j⟩
theorem Qe0 {gen : Int} {n : Nat} (hg : 1 <= gen /\ gen <= 1099511627776) : KN (ZL gen (n : Int)) := ⟨hg.1, hg.2, Int.le_refl _, by show (0 : Int) < _; decide, by show (0 : Int) <= 3; decide, by show (3 : Int) <= 3; decide, by show 7 <= 100; decide, Gg _ _⟩
theorem QbI {gen : Int} {n : Nat} (h : (n : Int) < 4294967296) : VH (ZL gen (n : Int)) = some (n : Int) := by
 unfold VH ZL
 rw [if_pos ⟨rfl, rfl, rfl, rfl⟩]
 show some (X9 (ZG 4 (n : Int))) = _
 rw [Ki (by decide) (by omega) (by show (n : Int) < 4294967296; omega) (by omega)]
structure UM (pg : Nat -> Option Pg) (sz : Nat) (gen : Int) (A B : List (List Int)) : Prop where
 hdr : pg 0 = some (ZL gen (Qz A : Int))
 pgs : ∀ k, k < Qz (A ++ B) -> pg (1 + k) = (Zp gen 1 (A ++ B))[k]?
 fit : 1 + Qz (A ++ B) <= sz
 stop : Uf pg sz (1 + Qz (A ++ B)) gen = none
theorem UM.one {pg : Nat -> Option Pg} {sz : Nat} {gen : Int} {A B C D : List (List Int)} {r : List Int} (h : UM pg sz gen A B) (e : A ++ B = C ++ r :: D) : Uf pg sz (1 + Qz C) gen = some (r, 1 + Qz C + Z2 r) := by
 have hc : Qz (A ++ B) = Qz C + (Z2 r + Qz D) := by rw [e, Hj, Um]
 have hf := h.fit
 refine QaJ (fun k hk => ?_) (by omega)
 rw [Nat.add_assoc, h.pgs _ (by omega), e]
 exact QdP hk
theorem UM.r1 {pg : Nat -> Option Pg} {sz : Nat} {gen : Int} {A B : List (List Int)} (h : UM pg sz gen A B) : ∀ (D C : List (List Int)) (f : Nat), A = C ++ D -> D.length < f -> Z5 pg sz (Qz A) gen f (1 + Qz C) C = some (A, 1 + Qz A)
 | [], C, 0, _, hf => absurd hf (by simp)
 | [], C, f + 1, e, _ => by
  rw [List.append_nil] at e
  subst e
  exact DM (by omega)
 | r :: D, C, 0, _, hf => absurd hf (by simp)
 | r :: D, C, f + 1, e, hf => by
  have hc : Qz A = Qz C + (Z2 r + Qz D) := by rw [e, Hj, Um]
  have hp := Kb r
  rw [DL (by omega) (h.one (C := C) (r := r) (D := D ++ B) (by rw [e]; simp)) (by omega)]
  have := UM.r1 h D (C ++ [r]) f (by rw [e]; simp) (by simp at hf; omega)
  rw [ZJ, <- Nat.add_assoc] at this
  exact this
theorem UM.r2 {pg : Nat -> Option Pg} {sz : Nat} {gen : Int} {A B : List (List Int)} (h : UM pg sz gen A B) : ∀ (D C : List (List Int)) (f : Nat), A ++ B = C ++ D -> D.length <= f -> Yd pg sz gen f (1 + Qz C) C = (A ++ B, 1 + Qz (A ++ B))
 | [], C, f, e, _ => by
  rw [List.append_nil] at e
  rw [<- e]
  exact DH h.stop f
 | r :: D, C, 0, _, hf => absurd hf (by simp)
 | r :: D, C, f + 1, e, hf => by
  rw [DI (h.one (C := C) (r := r) (D := D) e)]
  have := UM.r2 h D (C ++ [r]) f (by rw [e]; simp) (by simp at hf; omega)
  rw [ZJ, <- Nat.add_assoc] at this
  exact this
theorem UM.recs {pg : Nat -> Option Pg} {sz : Nat} {gen : Int} {A B : List (List Int)} (h : UM pg sz gen A B) (hs : sz <= 100000) : ZV pg sz = some (A ++ B, gen, 1 + Qz (A ++ B)) := by
 have hc := Hj A B
 have hf := h.fit
 have hA := EA A
 have hBl := EA B
 refine DF (N := Qz A) h.hdr (QbI (by omega)) (by omega) (Int.toNat_natCast _) (h.r1 A [] (sz + 1) rfl (by omega)) ?_
 exact h.r2 B A _ rfl (by omega)
end Go.Proofs.YtfachlmgdlnpoaaDoor
namespace Go.Proofs.YtfachlmgdlnpoaaDoor
open Go.RowKit
set_option linter.unusedVariables false
set_option linter.unusedSimpArgs false
set_option maxRecDepth 8000
set_option maxHeartbeats 2000000

section
variable {P : Program} {ops : Array Oper} {o : Oper} {N : Nat} {f : Fl} {w : World}
theorem QcU {t s n c : Nat} {a : Option Addr} {x y z : Operand} {K K2 : IntKind} (l h : Nat) {i j : Int} (ho : o.op = .slice t x (some y) (some z) none) (ht : X3 P t s = true) (hx : ev f x = some (.slice a n c)) (hy : ev f y = some (.int K i)) (hz : ev f z = some (.int K2 j)) (hi : i = (l : Int)) (hj : j = (h : Int)) (hl : l <= h) (hn : h <= c) (hw : QP ops o f = some true := by rfl) :
  DV P ops o N f w (.slice (a.map fun q => if c = l then q else q.add (l * s)) (h - l) (c - l)) := fun k ha => by
 subst hi hj
 obtain ⟨e, hu, hs⟩ := X6 ht
 have hx := ha.ev hx
 have hy := ha.ev hy
 have hz := ha.ev hz
 cases hi : P.info? e with
 | none => rw [hi] at hs; cases hs
 | some q =>
  have hq : q.size = s := by simpa [hi] using hs
  refine QK.pure (Qw ha hw) _ ?_ ⟨rfl, rfl⟩
  have h1 : ((l : Int) <= (h : Int)) := by omega
  have h2 : ((h : Int) <= (c : Int)) := by omega
  have h3 : (0 : Int) <= (l : Int) := by omega
  unfold execOp
  simp only [ho, Option.map_none, Option.map_some, hx, hy, hz, Instr.sliceAt, Sem.run_bind, run_underlying hu, Result.andThen_ok, Instr.slice, Instr.sliceBounds, Instr.sliceBound, asIntOf, Sem.run_pure, sizeOf, typeInfo, run_program, hi]
  cases a with
  | none => simp [h1, h2, h3, hq, hl]
  | some a => simp [h1, h2, h3, hq, hl]; split <;> rfl
theorem QcT {t : Nat} {x y z : Operand} {K K2 : IntKind} {L : List Nat} {v : Value} {zs : List Int} {w0 : World} (l h : Nat) {i j : Int} (ho : o.op = .slice t x (some y) (some z) none) (ht : X3 P t 1 = true) (hx : ev f x = some v) (hr : QD 1 L w0 v (zs.map fun z => [Value.int .u8 z])) (hy : ev f y = some (.int K i)) (hz : ev f z = some (.int K2 j)) (hi : i = (l : Int)) (hj : j = (h : Int)) (hl : l <= h) (hk : h <= zs.length) (hw : QP ops o f = some true := by rfl) :
    DR P ops o N f w fun u W => w = W /\ QD 1 L w0 u (((zs.drop l).take (h - l)).map fun z => [Value.int .u8 z]) := by
  obtain ⟨h0, h1, a, cap, rfl, h2, h3, h4, h5⟩ := hr
  rw [List.length_map] at hx h2
  refine (QcU l h ho ht hx hy hz hi hj hl (by omega) hw).mono fun u W hh => ?_
  obtain ⟨rfl, rfl⟩ := hh
  refine ⟨rfl, h0, fun r hr => h1 r (by rw [List.map_take, List.map_drop] at hr; exact List.mem_of_mem_drop (List.mem_of_mem_take hr)), _, cap - l, by rw [List.length_map, List.length_take, List.length_drop]; congr 1; omega, by rw [List.length_map, List.length_take, List.length_drop]; omega, by omega, fun e => by have := h4 (by cases a with | none => rfl | some q => cases e); omega, fun hn => ?_⟩
  have hlt : l < zs.length := by
    rcases Nat.lt_or_ge l zs.length with h | h
    . exact h
    . exact absurd (by simp [List.drop_of_length_le h]) hn
  obtain ⟨X, q, e, hX, hc⟩ := h5 (fun e => by have := congrArg List.length e; rw [List.length_map, List.length_nil] at this; omega)
  subst e
  refine ⟨X, q + l, ?_, hX, fun j u hj => ?_⟩
  . rw [Option.map_some]
    by_cases hc : cap = l
    . omega
    . rw [if_neg hc, Nat.mul_one]
      congr 1
      exact Zs X q l
  . rw [Jj, List.map_take, List.getElem?_take] at hj
    split at hj
    . rw [List.map_drop, List.getElem?_drop] at hj
      have := hc (l + j) u (by rw [Jj]; exact hj)
      rw [<- Nat.add_assoc] at this
      exact this
    . cases hj
end
def Vo (s base : Nat) (L : List Nat) (rs : List (List Value)) (u : Value) (w : World) : Prop := (u = .slice none 0 0 /\ rs = [] /\ 0 < s) \/ ∃ B, base <= B /\ B ∉ L /\ Y5 s w u rs B
section
variable {s base : Nat} {L L' : List Nat} {rs : List (List Value)} {u : Value} {w w' : World}
theorem Vo.toW (h : Vo s base L rs u w) : Zv s base rs u w := by
 rcases h with h | ⟨B, h1, h2, h3⟩
 . exact .inl h
 . exact .inr ⟨B, h1, h3⟩
theorem Vo.of (h : Zv s base rs u w) (hL : ∀ x ∈ L, x < base) : Vo s base L rs u w := by
 rcases h with h | ⟨B, h1, h3⟩
 . exact .inl h
 . exact .inr ⟨B, h1, fun e => by have := hL B e; omega, h3⟩
theorem Vo.below (h : Vo s base L rs u w) (hb : Below w.heap.size w w') : Vo s base L rs u w' := by
 rcases h with h | ⟨B, h1, h2, h3⟩
 . exact .inl h
 . exact .inr ⟨B, h1, h2, h3.below hb⟩
theorem Vo.more (h : Vo s base L rs u w) (hb : Below w.heap.size w w') {B : Nat} (hB : w.heap.size <= B) : Vo s base (B :: L) rs u w' := by
  rcases h with h | ⟨D, h1, h2, h3⟩
  . exact .inl h
  . have := h3.lt
    exact .inr ⟨D, h1, fun e => by rcases List.mem_cons.1 e with e | e; omega; exact h2 e, h3.below hb⟩
theorem Vo.only (h : Vo s base L rs u w) {B : Nat} (ho : Yi B w w') (hB : B ∈ L) : Vo s base L rs u w' := by
 rcases h with h | ⟨D, h1, h2, h3⟩
 . exact .inl h
 . exact .inr ⟨D, h1, h2, h3.other ho (fun e => h2 (e ▸ hB))⟩
end
abbrev Vm (q : PV) : List Value := [.int .i64 q.1.gen, .int .i64 q.1.idx, .int .u8 q.1.mks, q.2]
theorem Qfy {rec : List Int} {i m : Nat} (hm : m = min rec.length (100 * i + 100)) : (rec.drop (100 * i)).take (m - 100 * i) = Jy rec i := by
 unfold Jy
 by_cases h : 100 * i + 100 <= rec.length
 . rw [show m - 100 * i = 100 by omega]
 . rw [List.take_of_length_le (by rw [List.length_drop]; omega), List.take_of_length_le (by rw [List.length_drop]; omega)]
theorem Qbh (a b d : Value) (ha : ∃ n, a = .int .i64 n) (hb : ∃ n, b = .int .i64 n) (hd : ∃ x n c, d = .slice x n c) : Tryd.prog.built 96 [(0, a), (1, b), (3, d)] = some [a, b, .int .u8 0, d].toArray := by
 obtain ⟨n, rfl⟩ := ha
 obtain ⟨m, rfl⟩ := hb
 obtain ⟨x, y, c, rfl⟩ := hd
 kernel_rfl
theorem QD.slice {s : Nat} {L : List Nat} {w : World} {v : Value} {rs : List (List Value)} (h : QD s L w v rs) : ∃ x n c, v = .slice x n c := by
 obtain ⟨_, _, a, cap, rfl, _⟩ := h
 exact ⟨_, _, _, rfl⟩
set_option maxHeartbeats 1000000 in
theorem QbW (gen fr : Int) (rec : List Int) (dv : Value) (w0 : World) (w : World) (L : List Nat) (hL : LL L w)   (hL0 : LL L w) (hb0 : Below w0.heap.size w0 w) (h10 : QD 1 L w0 dv (Vw rec)) (hfr : 0 <= fr /\ fr <= 100000) (hrl : rec.length <= 4096) : CV Tryd.prog 46 [dv, .int .i64 gen, .int .i64 fr] w fun v W => ∃ qs : List PV, Zv 4 w.heap.size (qs.map Vm) v W /\ qs.map Prod.fst = Xw gen fr rec /\ YE L w0 qs := by
 have h1 := h10.below hb0
 have hn4 := Ja hrl
 have hnp := Kb rec
 have hn41 : Z2 rec <= 41 := by unfold Z2; split <;> omega
 refine QN (N := 50) (f := [(0, dv), (1, .int .i64 gen), (2, .int .i64 fr)]) Tryd.func46 rfl rfl rfl rfl fun Q hQ hE => ?_
 have hB := Below.refl w.heap.size w
 refine Sq fun K1 hK1 => (Rg (Pu rfl (Ni (hK1 (Sq fun K2 hK2 => (Rg (Pu rfl ?_)))))))
 refine Ni (hK2 (Sq fun K3 hK3 => (Rg (Pu rfl (Va (ZX (Ym rfl QH rfl h10) (show _ = Value.int .i64 (rec.length : Int) by rw [List.length_map])) rfl rfl ?_)))))
 refine Ge (QQ rfl Tryd.func23 rfl rfl rfl ((by have h_ := DB ((rec.length : Nat) : Int) w [] (LL.nil _) (by omega); rw [hn4] at h_; exact h_))) rfl rfl ?_
 rintro _ W5 ⟨rfl, b4⟩
 replace hB := Qe hB b4
 replace hL := LL.below hL b4
 refine Pu rfl (Ni (hK3 (Sq fun K6 hK6 => (Sq fun K7 hK7 => (Rg (Pu rfl (Ni ?_)))))))
 refine hK7 (WC.block ?_)
 have h5 : Vo 4 w.heap.size (L) (([] : List PV).map Vm) (.slice none 0 0) W5 := .inl ⟨rfl, rfl, by decide⟩
 refine WC.loop3 (fun (i : Nat) (qs : List PV) (ov : Value) => [(0, dv), (1, .int .i64 gen), (2, .int .i64 fr), (8, .int .i64 (Z2 rec : Int)), (7, ov), (9, .int .i64 (i : Int))]) (fun (i : Nat) (qs : List PV) (ov : Value) W => i <= Z2 rec /\ qs.map Prod.fst = (Xw gen fr rec).take i /\ YE L w0 qs /\ qs.length = i /\ Below w.heap.size w W /\ LL (L) W /\ Vo 4 w.heap.size (L) (qs.map Vm) ov W) (fun (i : Nat) (qs : List PV) (ov : Value) => Z2 rec - i) 0 [] (.slice none 0 0) (by repeat first | exact trivial | refine aR ?_ | refine aI (by omega) ?_) ⟨Nat.zero_le _, rfl, (fun q hq => by cases hq), rfl, hB, hL, h5⟩ ?_
 clear h5 hB hL
 rintro K8 i qs ov W9 ⟨hi, hqf, hqs, hql, hB, hL, h5⟩ hK8
 refine Sq fun K10 hK10 => (Sq fun K11 hK11 => (Rg (Pu rfl (Pu rfl (Va (Xe rfl rfl rfl) rfl rfl (Ni (hK11 ?_)))))))
 refine WC.cond rfl (fun c12 => ?_) (fun c12 => ?_)
 .
  replace c12 := dT c12
  refine WC.skip (hK10 (Sq fun K13 hK13 => (WC.block (Sq fun K14 hK14 => (Rg (Pu rfl (Pu rfl ?_)))))))
  refine Pu rfl (Va (QR (r := fr + (i : Int)) rfl rfl rfl (Qm (by omega))) rfl rfl (Pu rfl (Pu rfl (Va (VO (r := 100 * (i : Int)) rfl rfl rfl (by rw [Qm (by omega)])) rfl rfl (Pu rfl (Va (ZX (Ym rfl QH rfl h10) (show _ = Value.int .i64 (rec.length : Int) by rw [List.length_map])) rfl rfl (Pu rfl ?_)))))))
  refine Va (VO (r := 100 * (i : Int)) rfl rfl rfl (by rw [Qm (by omega)])) rfl rfl (Va (QR (r := 100 * (i : Int) + 100) rfl rfl rfl (by rw [Qm (by omega)])) rfl rfl ?_)
  obtain ⟨m, hm⟩ : ∃ m : Nat, m = min rec.length (100 * i + 100) := ⟨_, rfl⟩
  have hmm : (m : Int) = if (100 * (i : Int) + 100) < (rec.length : Int) then 100 * (i : Int) + 100 else (rec.length : Int) := by split <;> omega
  refine Va (ZX (Fz rfl rfl rfl) (congrArg (Value.int .i64) hmm.symm)) rfl rfl ?_
  have hlo : 100 * i <= m := by rw [hm]; unfold Z2 at hi; have : i < Z2 rec := (by omega); unfold Z2 at this; split at this <;> omega
  refine Ge (QcT (100 * i) m rfl QH rfl h10 rfl rfl (by omega) rfl hlo (by omega)) rfl rfl ?_
  rintro u15 _ ⟨rfl, hsl⟩
  rw [Qfy hm] at hsl
  refine Va (QS rfl rfl (Qbh _ _ _ ⟨_, rfl⟩ ⟨_, rfl⟩ hsl.slice)) rfl rfl ?_
  refine Ge (Qu rfl VF rfl) rfl rfl ?_
  rintro _ W16 ⟨rfl, k17, b18, z19⟩
  have l20 := hB.size
  replace h5 := h5.more b18 (Nat.le_refl _)
  replace hB := Qe hB b18
  replace hL := LL.more hL z19
  refine WL.do (Qh (cs' := [.int .i64 gen, .int .i64 (fr + (i : Int)), .int .u8 0, u15]) (vs := [.int .i64 gen, .int .i64 (fr + (i : Int)), .int .u8 0, u15]) rfl ZN rfl rfl rfl (oC rfl (oC rfl (oC rfl (oC hsl.one Qk)))) k17 rfl (nB rfl) rfl) rfl ?_
  rintro _ W21 ⟨k23, o22⟩
  clear k17
  replace h5 := h5.only o22 (.head _)
  replace hB := o22.below hB l20
  replace hL := LL.only hL o22
  refine Ni (hK14 (Sq fun K24 hK24 => (Sq fun K25 hK25 => (Rg (Pu rfl (Va (Zw rfl rfl rfl) rfl rfl (Ni ?_)))))))
  refine hK25 ?_
  refine WC.cond rfl (fun c26 => ?_) (fun c26 => ?_)
  .
   replace c26 := dT c26
   refine Rg (Va (Qn (o1 := 2) rfl Zx rfl rfl) rfl rfl ?_)
   refine WL.do (Qh (cs' := [.int .i64 gen, .int .i64 (fr + (i : Int)), .int .u8 1, u15]) (vs := [.int .u8 1]) rfl QA rfl rfl rfl (oC rfl Qk) k23 rfl (nB rfl) rfl) rfl ?_
   rintro _ W27 ⟨k29, o28⟩
   clear k23
   replace h5 := h5.only o28 (.head _)
   replace hB := o28.below hB l20
   replace hL := LL.only hL o28
   refine Ni (hK24 (Sq fun K30 hK30 => (Sq fun K31 hK31 => (Rg (Pu rfl (Pu rfl (Va (Zm (r := (Z2 rec : Int) - 1) rfl rfl rfl (Qm (by omega))) rfl rfl ?_)))))))
   refine Va (Zw rfl rfl rfl) rfl rfl (Ni (hK31 ?_))
   refine WC.cond rfl (fun c32 => ?_) (fun c32 => ?_)
   .
    replace c32 := dT c32
    refine Rg (Va (Qn (o1 := 2) rfl Zx rfl rfl) rfl rfl (Va (Qi rfl X1 rfl (k29.cell (k := 2) rfl)) rfl rfl (Va (QR (r := 3) rfl rfl rfl (by decide)) rfl rfl (Va (Qn (o1 := 2) rfl Zx rfl rfl) rfl rfl ?_))))
    refine WL.do (Qh (cs' := [.int .i64 gen, .int .i64 (fr + (i : Int)), .int .u8 3, u15]) (vs := [.int .u8 3]) rfl QA rfl rfl rfl (oC rfl Qk) k29 rfl (nB rfl) rfl) rfl ?_
    rintro _ W33 ⟨k35, o34⟩
    clear k29
    replace h5 := h5.only o34 (.head _)
    replace hB := o34.below hB l20
    replace hL := LL.only hL o34
    refine Ni (hK30 (Rg (Pu rfl (Va (Qg rfl XD rfl k35.range rfl) rfl rfl ?_))))
    refine Ge (ZP (r := [.int .i64 gen, .int .i64 (fr + (i : Int)), .int .u8 3, u15]) rfl Yv (by decide) (by decide) rfl rfl rfl) rfl rfl ?_
    rintro u40 W36 ⟨k37, b38, z39⟩
    replace h5 := h5.below b38
    replace hB := Qe hB b38
    replace hL := LL.below hL b38
    refine Ge (V6 (base := w.heap.size) rfl Yv rfl rfl h5.toW (k37.rd (L := []) (by simp)) (fun r_ hr_ u_ hu_ => by rw [List.mem_singleton.1 hr_] at hu_; exact oC rfl (oC rfl (oC rfl (oC hsl.one Qk))) u_ hu_) (by rw [List.length_map]; unfold maxLen; simp; omega) (by rw [List.length_map]; simp; omega) hB.size) rfl rfl ?_
    rintro u41 W42 ⟨h5, b43⟩
    replace h5 : Zv 4 w.heap.size ((qs ++ [((⟨gen, fr + (i : Int), 3, Jy rec i⟩ : Pg), u15)]).map Vm) u41 W42 := by rw [List.map_append]; exact h5
    replace h5 := Vo.of (L := L) h5 hL0
    replace hB := hB.trans b43
    have hL : LL L W42 := fun x hx => Nat.lt_of_lt_of_le (hL0 x hx) hB.size
    refine Pu rfl (Ni (hK13 (Rg (Pu rfl (Va (QR (r := (i : Int) + 1) rfl rfl rfl (Qm (by omega))) rfl rfl (Pu rfl (Ni ?_)))))))
    exact hK8 (i + 1) (qs ++ [((⟨gen, fr + (i : Int), 3, Jy rec i⟩ : Pg), u15)]) u41 ⟨(by omega), (by rw [List.map_append, hqf, List.take_add_one, Y0 (by omega), show (if i = 0 then (1 : Int) else 0) + (if i + 1 = Z2 rec then 2 else 0) = 3 by split <;> split <;> omega]; rfl), (fun q hq => by rcases List.mem_append.1 hq with h_ | h_; exact hqs q h_; rw [List.mem_singleton.1 h_]; exact hsl), (by rw [List.length_append, List.length_singleton]; omega), hB, hL, h5⟩ (by omega) (by repeat first | exact trivial | refine aR ?_ | refine aI (by omega) ?_)
   .
    replace c32 := dF c32
    refine WC.skip (hK30 (Rg (Pu rfl (Va (Qg rfl XD rfl k29.range rfl) rfl rfl ?_))))
    refine Ge (ZP (r := [.int .i64 gen, .int .i64 (fr + (i : Int)), .int .u8 1, u15]) rfl Yv (by decide) (by decide) rfl rfl rfl) rfl rfl ?_
    rintro u48 W44 ⟨k45, b46, z47⟩
    replace h5 := h5.below b46
    replace hB := Qe hB b46
    replace hL := LL.below hL b46
    refine Ge (V6 (base := w.heap.size) rfl Yv rfl rfl h5.toW (k45.rd (L := []) (by simp)) (fun r_ hr_ u_ hu_ => by rw [List.mem_singleton.1 hr_] at hu_; exact oC rfl (oC rfl (oC rfl (oC hsl.one Qk))) u_ hu_) (by rw [List.length_map]; unfold maxLen; simp; omega) (by rw [List.length_map]; simp; omega) hB.size) rfl rfl ?_
    rintro u49 W50 ⟨h5, b51⟩
    replace h5 : Zv 4 w.heap.size ((qs ++ [((⟨gen, fr + (i : Int), 1, Jy rec i⟩ : Pg), u15)]).map Vm) u49 W50 := by rw [List.map_append]; exact h5
    replace h5 := Vo.of (L := L) h5 hL0
    replace hB := hB.trans b51
    have hL : LL L W50 := fun x hx => Nat.lt_of_lt_of_le (hL0 x hx) hB.size
    refine Pu rfl (Ni (hK13 (Rg (Pu rfl (Va (QR (r := (i : Int) + 1) rfl rfl rfl (Qm (by omega))) rfl rfl (Pu rfl (Ni ?_)))))))
    exact hK8 (i + 1) (qs ++ [((⟨gen, fr + (i : Int), 1, Jy rec i⟩ : Pg), u15)]) u49 ⟨(by omega), (by rw [List.map_append, hqf, List.take_add_one, Y0 (by omega), show (if i = 0 then (1 : Int) else 0) + (if i + 1 = Z2 rec then 2 else 0) = 1 by split <;> split <;> omega]; rfl), (fun q hq => by rcases List.mem_append.1 hq with h_ | h_; exact hqs q h_; rw [List.mem_singleton.1 h_]; exact hsl), (by rw [List.length_append, List.length_singleton]; omega), hB, hL, h5⟩ (by omega) (by repeat first | exact trivial | refine aR ?_ | refine aI (by omega) ?_)
  .
   replace c26 := dF c26
   refine WC.skip (hK24 (Sq fun K52 hK52 => (Sq fun K53 hK53 => (Rg (Pu rfl (Pu rfl (Va (Zm (r := (Z2 rec : Int) - 1) rfl rfl rfl (Qm (by omega))) rfl rfl ?_)))))))
   refine Va (Zw rfl rfl rfl) rfl rfl (Ni (hK53 ?_))
   refine WC.cond rfl (fun c54 => ?_) (fun c54 => ?_)
   .
    replace c54 := dT c54
    refine Rg (Va (Qn (o1 := 2) rfl Zx rfl rfl) rfl rfl (Va (Qi rfl X1 rfl (k23.cell (k := 2) rfl)) rfl rfl (Va (QR (r := 2) rfl rfl rfl (by decide)) rfl rfl (Va (Qn (o1 := 2) rfl Zx rfl rfl) rfl rfl ?_))))
    refine WL.do (Qh (cs' := [.int .i64 gen, .int .i64 (fr + (i : Int)), .int .u8 2, u15]) (vs := [.int .u8 2]) rfl QA rfl rfl rfl (oC rfl Qk) k23 rfl (nB rfl) rfl) rfl ?_
    rintro _ W55 ⟨k57, o56⟩
    clear k23
    replace h5 := h5.only o56 (.head _)
    replace hB := o56.below hB l20
    replace hL := LL.only hL o56
    refine Ni (hK52 (Rg (Pu rfl (Va (Qg rfl XD rfl k57.range rfl) rfl rfl ?_))))
    refine Ge (ZP (r := [.int .i64 gen, .int .i64 (fr + (i : Int)), .int .u8 2, u15]) rfl Yv (by decide) (by decide) rfl rfl rfl) rfl rfl ?_
    rintro u62 W58 ⟨k59, b60, z61⟩
    replace h5 := h5.below b60
    replace hB := Qe hB b60
    replace hL := LL.below hL b60
    refine Ge (V6 (base := w.heap.size) rfl Yv rfl rfl h5.toW (k59.rd (L := []) (by simp)) (fun r_ hr_ u_ hu_ => by rw [List.mem_singleton.1 hr_] at hu_; exact oC rfl (oC rfl (oC rfl (oC hsl.one Qk))) u_ hu_) (by rw [List.length_map]; unfold maxLen; simp; omega) (by rw [List.length_map]; simp; omega) hB.size) rfl rfl ?_
    rintro u63 W64 ⟨h5, b65⟩
    replace h5 : Zv 4 w.heap.size ((qs ++ [((⟨gen, fr + (i : Int), 2, Jy rec i⟩ : Pg), u15)]).map Vm) u63 W64 := by rw [List.map_append]; exact h5
    replace h5 := Vo.of (L := L) h5 hL0
    replace hB := hB.trans b65
    have hL : LL L W64 := fun x hx => Nat.lt_of_lt_of_le (hL0 x hx) hB.size
    refine Pu rfl (Ni (hK13 (Rg (Pu rfl (Va (QR (r := (i : Int) + 1) rfl rfl rfl (Qm (by omega))) rfl rfl (Pu rfl (Ni ?_)))))))
    exact hK8 (i + 1) (qs ++ [((⟨gen, fr + (i : Int), 2, Jy rec i⟩ : Pg), u15)]) u63 ⟨(by omega), (by rw [List.map_append, hqf, List.take_add_one, Y0 (by omega), show (if i = 0 then (1 : Int) else 0) + (if i + 1 = Z2 rec then 2 else 0) = 2 by split <;> split <;> omega]; rfl), (fun q hq => by rcases List.mem_append.1 hq with h_ | h_; exact hqs q h_; rw [List.mem_singleton.1 h_]; exact hsl), (by rw [List.length_append, List.length_singleton]; omega), hB, hL, h5⟩ (by omega) (by repeat first | exact trivial | refine aR ?_ | refine aI (by omega) ?_)
   .
    replace c54 := dF c54
    refine WC.skip (hK52 (Rg (Pu rfl (Va (Qg rfl XD rfl k23.range rfl) rfl rfl ?_))))
    refine Ge (ZP (r := [.int .i64 gen, .int .i64 (fr + (i : Int)), .int .u8 0, u15]) rfl Yv (by decide) (by decide) rfl rfl rfl) rfl rfl ?_
    rintro u70 W66 ⟨k67, b68, z69⟩
    replace h5 := h5.below b68
    replace hB := Qe hB b68
    replace hL := LL.below hL b68
    refine Ge (V6 (base := w.heap.size) rfl Yv rfl rfl h5.toW (k67.rd (L := []) (by simp)) (fun r_ hr_ u_ hu_ => by rw [List.mem_singleton.1 hr_] at hu_; exact oC rfl (oC rfl (oC rfl (oC hsl.one Qk))) u_ hu_) (by rw [List.length_map]; unfold maxLen; simp; omega) (by rw [List.length_map]; simp; omega) hB.size) rfl rfl ?_
    rintro u71 W72 ⟨h5, b73⟩
    replace h5 : Zv 4 w.heap.size ((qs ++ [((⟨gen, fr + (i : Int), 0, Jy rec i⟩ : Pg), u15)]).map Vm) u71 W72 := by rw [List.map_append]; exact h5
    replace h5 := Vo.of (L := L) h5 hL0
    replace hB := hB.trans b73
    have hL : LL L W72 := fun x hx => Nat.lt_of_lt_of_le (hL0 x hx) hB.size
    refine Pu rfl (Ni (hK13 (Rg (Pu rfl (Va (QR (r := (i : Int) + 1) rfl rfl rfl (Qm (by omega))) rfl rfl (Pu rfl (Ni ?_)))))))
    exact hK8 (i + 1) (qs ++ [((⟨gen, fr + (i : Int), 0, Jy rec i⟩ : Pg), u15)]) u71 ⟨(by omega), (by rw [List.map_append, hqf, List.take_add_one, Y0 (by omega), show (if i = 0 then (1 : Int) else 0) + (if i + 1 = Z2 rec then 2 else 0) = 0 by split <;> split <;> omega]; rfl), (fun q hq => by rcases List.mem_append.1 hq with h_ | h_; exact hqs q h_; rw [List.mem_singleton.1 h_]; exact hsl), (by rw [List.length_append, List.length_singleton]; omega), hB, hL, h5⟩ (by omega) (by repeat first | exact trivial | refine aR ?_ | refine aI (by omega) ?_)
 .
  replace c12 := dF c12
  refine WC.exit ?_
  refine hK6 (Sq fun K74 hK74 => (Rg (Pu rfl (Pu rfl (Ni (hK74 ?_))))))
  exact WC.ret fun a_ ha_ => hQ (QI rfl (.tmp rfl) ⟨qs, h5.toW, by rw [hqf, List.take_of_length_le (by rw [Za]; omega)], hqs⟩ hB ha_)

end Go.Proofs.YtfachlmgdlnpoaaDoor
namespace Go.Proofs.YtfachlmgdlnpoaaDoor
set_option linter.unusedVariables false
set_option maxRecDepth 8000

theorem JZ {Qb : List (List Int)} {Qa : List (Int × List Int)} (h1 : 1 <= Qb.length) (h2 : Qb.length <= 2048) (h3 : Qa.length <= 4096) (h4 : ∀ p ∈ Qa, 0 <= p.1 /\ p.1 < Qb.length) : QM Qb Qa = true := by
 unfold QM
 rw [decide_eq_false (by omega), decide_eq_false (by omega), decide_eq_false (by omega)]
 rw [Bool.or_false, Bool.or_false, Bool.not_false, Bool.true_and, Bool.not_eq_true']
 refine List.any_eq_false.2 fun p hp => ?_
 have := h4 p hp
 unfold Vq
 rw [decide_eq_true this.1, decide_eq_true this.2]; decide
theorem YF {Qb : List (List Int)} {Qa ws : List (Int × List Int)} (h : QM Qb Qa = true) (hl : Qa.length + ws.length <= 4096) (hw : ∀ p ∈ ws, 0 <= p.1 /\ p.1 < Qb.length) : QM Qb (Qa ++ ws) = true := by
 obtain ⟨h1, h2, h3, h4⟩ := ZU h
 refine JZ (List.length_pos_iff.2 h1) h2 (by rw [List.length_append]; exact hl) fun p hp => ?_
 rcases List.mem_append.1 hp with hp | hp
 . exact h4 p hp
 . exact hw p hp
def Kt (fr : Int) (ps : List Pg) : List (Int × List Int) := ps.map fun p => (fr + p.idx, Xk p)
theorem Y6 (fr : Int) (ps : List Pg) : (Kt fr ps).length = ps.length := List.length_map ..
theorem EN {Qb : List (List Int)} {Qa : List (Int × List Int)} {f fr : Int} {p : Pg} (h : QM Qb Qa = true) (hl : Qa.length < 4096) (hp : 0 <= fr + p.idx /\ fr + p.idx < Qb.length) : Yq ⟨Qb, Qa, f, false, 0⟩ fr p = if f = 0 then ⟨Qb, Qa, 0, true, 9⟩ else ⟨Qb, Qa ++ Kt fr [p], if f < 0 then f else f - 1, false, 0⟩ := by
  rw [FN rfl]
  show Q0 Qb Qa f false (fr + p.idx) (Xk p) = _
  have hh : Vq Qb (fr + p.idx) = true := by unfold Vq; rw [decide_eq_true hp.1, decide_eq_true hp.2]; rfl
  unfold Q0
  rw [if_neg (by rw [h]; decide), if_neg (by rw [hh]; decide), if_neg (by decide), if_neg (by omega)]
  unfold Q8
  by_cases h0 : f = 0
  . subst h0; rfl
  . rw [if_neg h0, if_neg h0]
    by_cases h1 : 0 < f
    . rw [if_pos h1, if_neg (show ¬ f < 0 by omega)]; rfl
    . rw [if_neg h1, if_pos (show f < 0 by omega)]; rfl
theorem Dw {fr : Int} : ∀ (ps : List Pg) (d : DO), ¬ d.err = 0 -> Q9 d fr ps = d
 | [], d, h => rfl
 | p :: ps, d, h => by
  show Q9 (Yq d fr p) fr ps = d
  rw [Gs h]
  exact Dw ps d h
theorem H5 {Qb : List (List Int)} {fr : Int} : ∀ (ps : List Pg) (Qa : List (Int × List Int)) (f : Int), QM Qb Qa = true -> Qa.length + ps.length <= 4096 -> (∀ p ∈ ps, 0 <= fr + p.idx /\ fr + p.idx < Qb.length) -> (f < 0 \/ (ps.length : Int) <= f) -> Q9 ⟨Qb, Qa, f, false, 0⟩ fr ps = ⟨Qb, Qa ++ Kt fr ps, if f < 0 then f else f - (ps.length : Int), false, 0⟩
 | [], Qa, f, _, _, _, _ => by
  show (⟨Qb, Qa, f, false, 0⟩ : DO) = ⟨Qb, Qa ++ [], if f < 0 then f else f - ((0 : Nat) : Int), false, 0⟩
  rw [List.append_nil]
  congr 1
  split <;> omega
 | p :: ps, Qa, f, h, hl, hp, hf => by
  rw [List.length_cons] at hl hf
  show Q9 (Yq ⟨Qb, Qa, f, false, 0⟩ fr p) fr ps = _
  rw [EN h (by omega) (hp p (.head _)), if_neg (by omega), H5 ps _ _ (YF h (by rw [Y6, List.length_singleton]; omega) (fun q hq => by rw [List.mem_singleton.1 hq]; exact hp p (.head _))) (by rw [List.length_append, Y6, List.length_singleton]; omega) (fun q hq => hp q (.tail _ hq)) (by split <;> omega)]
  rw [List.append_assoc, List.length_cons]
  show (⟨Qb, Qa ++ Kt fr (p :: ps), _, false, 0⟩ : DO) = _
  congr 1
  by_cases hz : f < 0
  . simp only [hz, if_true]
  . simp only [hz, if_false]; split <;> omega
def YZ (Qb : List (List Int)) (Qa : List (Int × List Int)) : List (List Int) := XW (fun _ _ z => z) Qa Qb 0
theorem K0 {Qb : List (List Int)} {Qa : List (Int × List Int)} {f : Int} (h : QM Qb Qa = true) : X0 ⟨Qb, Qa, f, false, 0⟩ = if f = 0 then ⟨Qb, Qa, 0, true, 9⟩ else ⟨YZ Qb Qa, [], if f < 0 then f else f - 1, false, 0⟩ := by
  rw [FO rfl]
  show Xz Qb Qa f false = _
  unfold Xz
  rw [if_neg (by rw [h]; decide), if_neg (by decide)]
  unfold Q8
  by_cases h0 : f = 0
  . subst h0; rfl
  . rw [if_neg h0, if_neg h0]
    by_cases h1 : 0 < f
    . rw [if_pos h1, if_neg (show ¬ f < 0 by omega)]; rfl
    . rw [if_neg h1, if_pos (show f < 0 by omega)]; rfl
theorem GE : ∀ (l : List (Int × List Int)) (Qb : List (List Int)) (i j : Nat), XW (fun _ _ z => z) l Qb i = XW (fun _ _ z => z) l Qb j
 | [], Qb, i, j => rfl
 | p :: l, Qb, i, j => by rw [XW, XW]; exact GE l _ _ _
theorem GI (Qb : List (List Int)) (l m : List (Int × List Int)) : YZ Qb (l ++ m) = YZ (YZ Qb l) m := by
 unfold YZ
 generalize hi : (0 : Nat) = i
 clear hi
 induction l generalizing Qb i with
 | nil => rfl
 | cons p l ih =>
  rw [List.cons_append, XW, XW, ih]
  exact GE _ _ _ _
theorem GG (Qb : List (List Int)) (p : Int × List Int) : YZ Qb [p] = Qb.set p.1.toNat p.2 := rfl
theorem DA {α : Type} {P : List α -> Prop} (h0 : P []) (h1 : ∀ l x, P l -> P (l ++ [x])) (l : List α) : P l := by
 have : ∀ n (l : List α), l.length = n -> P l := by
  intro n
  induction n with
  | zero => intro l e; rw [List.length_eq_zero_iff.1 e]; exact h0
  | succ n ih =>
   intro l e
   have hne : l ≠ [] := fun q => by rw [q] at e; cases e
   rw [<- List.dropLast_concat_getLast hne]
   exact h1 _ _ (ih _ (by rw [List.length_dropLast, e]; rfl))
 exact this _ l rfl
theorem Yb (Qb : List (List Int)) (l : List (Int × List Int)) : (YZ Qb l).length = Qb.length := by
 induction l using DA with
 | h0 => rfl
 | h1 l x ih => rw [GI, GG, List.length_set, ih]
theorem HN {l : List (Int × List Int)} {p : Int × List Int} {a : Int} : ∀ n, n <= l.length -> Zl (l ++ [p]) a n = Zl l a n
 | 0, _ => rfl
 | n + 1, h => by rw [Zl, Zl, List.getElem?_append_left (by omega), HN n (by omega)]
theorem G3 (l : List (Int × List Int)) (p : Int × List Int) (a : Int) : Zl (l ++ [p]) a (l ++ [p]).length = if p.1 = a then some p.2 else Zl l a l.length := by
 rw [List.length_append, List.length_singleton, Zl, List.getElem?_append_right (Nat.le_refl _), Nat.sub_self]
 show (if p.1 = a then some p.2 else Zl (l ++ [p]) a l.length) = _
 rw [HN _ (Nat.le_refl _)]
theorem QbM {Qb : List (List Int)} {a : Nat} (ha : a < Qb.length) (l : List (Int × List Int)) : (∀ p ∈ l, 0 <= p.1) -> (YZ Qb l)[a]? = some (match Zl l (a : Int) l.length with | some z => z | none => Qb[a]?.getD []) := by
 induction l using DA with
 | h0 => intro _; show Qb[a]? = some (Qb[a]?.getD []); rw [List.getElem?_eq_getElem ha]; rfl
 | h1 l p ih =>
  intro h
  have ih := ih fun q hq => h q (List.mem_append_left _ hq)
  have hp := h p (List.mem_append_right _ (.head _))
  rw [GI, GG, G3, List.getElem?_set]
  by_cases e : p.1 = (a : Int)
  . rw [if_pos (by omega), if_pos (by rw [Yb]; omega), if_pos e]
  . rw [if_neg (by omega), if_neg e]; exact ih
theorem Qat {Qb : List (List Int)} {Qa : List (Int × List Int)} (h : QM Qb Qa = true) {a : Nat} (ha : a < Qb.length) : Xm (YZ Qb Qa) [] a = Xm Qb Qa a := by
 obtain ⟨h1, h2, h3, h4⟩ := ZU h
 have hr : QM (YZ Qb Qa) [] = true := JZ (by rw [Yb]; exact List.length_pos_iff.2 h1) (by rw [Yb]; exact h2) (by rw [List.length_nil]; omega) (fun p hp => absurd hp List.not_mem_nil)
 have e0 : Zl [] (a : Int) ([] : List (Int × List Int)).length = none := rfl
 have e : Xn (YZ Qb Qa) [] false (a : Int) = Xn Qb Qa false (a : Int) := by
  rw [J0 h ha, J0 hr (by rw [Yb]; exact ha), QbM ha Qa fun p hp => (h4 p hp).1, e0]
  generalize Zl Qa (a : Int) Qa.length = x
  cases x <;> rfl
 unfold Xm
 rw [e]
theorem Qdr {Qb : List (List Int)} {Qa : List (Int × List Int)} (h : QM Qb Qa = true) (hl : Qa.length < 4096) {b : Int} {p : Pg} (hb : 0 <= b /\ b < Qb.length) (hp : KN p) {a : Nat} (ha : a < Qb.length) : Xm Qb (Qa ++ [(b, Xk p)]) a = if b = (a : Int) then some p else Xm Qb Qa a := by
 have hr : QM Qb (Qa ++ [(b, Xk p)]) = true := YF h (by rw [List.length_singleton]; omega) (fun q hq => by rw [List.mem_singleton.1 hq]; exact hb)
 have hs := FU hp
 unfold Xm
 rw [J0 h ha, J0 hr ha, G3]
 generalize Xk p = z at *
 generalize Zl Qa (a : Int) Qa.length = x at *
 by_cases e : b = (a : Int)
 . rw [if_pos e, if_pos e]; exact hs
 . rw [if_neg e, if_neg e]
def Ug (V : Nat -> Option Pg) (u : Nat) (ps : List Pg) (a : Nat) : Option Pg := if u <= a /\ a < u + ps.length then ps[a - u]? else V a
theorem QaN (V : Nat -> Option Pg) (u : Nat) (ps : List Pg) (p : Pg) (a : Nat) : Ug V u (ps ++ [p]) a = if u + ps.length = a then some p else Ug V u ps a := by
  unfold Ug
  rw [List.length_append, List.length_singleton]
  by_cases h : u + ps.length = a
  . rw [if_pos h, if_pos (by omega), List.getElem?_append_right (by omega), show a - u - ps.length = 0 by omega]; rfl
  . rw [if_neg h]
    by_cases h2 : u <= a /\ a < u + ps.length
    . rw [if_pos h2, if_pos (by omega), List.getElem?_append_left (by omega)]
    . rw [if_neg h2, if_neg (by omega)]
theorem QbA {Qb : List (List Int)} {Qa : List (Int × List Int)} (h : QM Qb Qa = true) {fr u : Nat} {a : Nat} (ha : a < Qb.length) (ps : List Pg) : Qa.length + ps.length <= 4096 -> u + ps.length <= Qb.length -> (∀ k p, ps[k]? = some p -> (fr : Int) + p.idx = ((u + k : Nat) : Int) /\ KN p) -> Xm Qb (Qa ++ Kt (fr : Int) ps) a = Ug (Xm Qb Qa) u ps a := by
 induction ps using DA with
 | h0 =>
  intro _ _ _
  show Xm Qb (Qa ++ []) a = Ug _ u [] a
  rw [List.append_nil]
  unfold Ug
  rw [if_neg (by rw [List.length_nil]; omega)]
 | h1 ps p ih =>
  intro hl hu hk
  rw [List.length_append, List.length_singleton] at hl hu
  have hk0 : ∀ k q, ps[k]? = some q -> (fr : Int) + q.idx = ((u + k : Nat) : Int) /\ KN q := fun k q hq => hk k q (by rw [List.getElem?_append_left (List.getElem?_eq_some_iff.1 hq).1]; exact hq)
  have hp := hk ps.length p (by rw [List.getElem?_append_right (Nat.le_refl _), Nat.sub_self]; rfl)
  have ih := ih (by omega) (by omega) hk0
  have hrp : QM Qb (Qa ++ Kt (fr : Int) ps) = true := YF h (by rw [Y6]; omega) fun q hq => by
   obtain ⟨x, hx, rfl⟩ := List.mem_map.1 hq
   obtain ⟨k, hk1⟩ := List.mem_iff_getElem?.1 hx
   have := (hk0 k x hk1).1
   have := (List.getElem?_eq_some_iff.1 hk1).1
   show 0 <= (fr : Int) + x.idx /\ (fr : Int) + x.idx < _
   omega
  rw [show Kt (fr : Int) (ps ++ [p]) = Kt (fr : Int) ps ++ [((fr : Int) + p.idx, Xk p)] from by unfold Kt; rw [List.map_append]; rfl, <- List.append_assoc]
  rw [Qdr hrp (by rw [List.length_append, Y6]; omega) (by omega) hp.2 ha, ih, QaN, hp.1]
  by_cases e : u + ps.length = a
  . rw [if_pos e, if_pos (by omega)]
  . rw [if_neg e, if_neg (by omega)]
def Yy (V : Nat -> Option Pg) : Nat -> Int
 | 0 => 0
 | k + 1 => Db (Yy V k) (V k)
theorem KC (Qb : List (List Int)) (Qa : List (Int × List Int)) : ∀ k, XF Qb Qa false k = Yy (Xm Qb Qa) k
 | 0 => rfl
 | k + 1 => by rw [XF, Yy, KC Qb Qa k]; rfl
theorem VZ {V : Nat -> Option Pg} {p : Pg} : ∀ {k a : Nat}, a < k -> V a = some p -> p.gen <= Yy V k
  | 0, a, h, _ => absurd h (by omega)
  | k + 1, a, h, e => by
    rw [Yy]
    have hm : Yy V k <= Db (Yy V k) (V k) := by
      cases V k with
      | none => exact Int.le_refl _
      | some q => show _ <= (if _ < q.gen then q.gen else _); split <;> omega
    by_cases ha : a = k
    . subst ha
      rw [e]
      show _ <= (if _ < p.gen then p.gen else _)
      split <;> omega
    . exact Int.le_trans (VZ (by omega) e) hm
theorem Gd {V : Nat -> Option Pg} {m : Int} (hm : 0 <= m) : ∀ {k : Nat}, (∀ a p, a < k -> V a = some p -> p.gen <= m) -> Yy V k <= m
 | 0, _ => hm
 | k + 1, h => by
  rw [Yy]
  have ih := Gd hm (k := k) fun a p ha => h a p (by omega)
  cases e : V k with
  | none => exact ih
  | some q => have := h k q (by omega) e; show (if _ < q.gen then q.gen else _) <= m; split <;> omega
theorem Eq {V V' : Nat -> Option Pg} : ∀ {k : Nat}, (∀ a, a < k -> V a = V' a) -> Yy V k = Yy V' k
 | 0, _ => rfl
 | k + 1, h => by rw [Yy, Yy, Eq (k := k) fun a ha => h a (by omega), h k (by omega)]
theorem GH {Qb : List (List Int)} {Qa : List (Int × List Int)} (h : YL Qb Qa) : YL (YZ Qb Qa) [] := by
 refine ⟨?_, fun p hp => by cases hp⟩
 have : ∀ l : List (Int × List Int), (∀ p ∈ l, Z0 p.2) -> ∀ z ∈ YZ Qb l, Z0 z := by
  intro l
  induction l using DA with
  | h0 => intro _; exact h.1
  | h1 l p ih =>
   intro hl z hz
   rw [GI, GG] at hz
   rcases List.mem_or_eq_of_mem_set hz with hz | rfl
   . exact ih (fun q hq => hl q (List.mem_append_left _ hq)) z hz
   . exact hl p (List.mem_append_right _ (.head _))
 exact this Qa h.2
end Go.Proofs.YtfachlmgdlnpoaaDoor
